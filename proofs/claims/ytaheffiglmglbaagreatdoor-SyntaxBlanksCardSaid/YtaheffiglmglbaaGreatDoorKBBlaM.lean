import Derived.Test.YtaheffiglmglbaaGreatDoorKBXf
import Derived.Test.YtaheffiglmglbaaGreatDoorKBLTok
/- BlaM. -/
set_option maxHeartbeats 8000000
set_option maxRecDepth 20000
namespace Go.Proofs.YtaheffiglmglbaaGreatDoor
open Go.Proofs.Tryz
open Go.RowKit L7
theorem gapped_app (g:Bs):∀xs ys,gapped g (xs++ys)=gapped g xs++gapped g ys
 | [],ys=>rfl
 | x::xs,ys=>by
  show x++(g++gapped g (xs++ys))=(x++(g++gapped g xs))++gapped g ys
  rw [gapped_app g xs ys];simp
def partG (g:Bs) (xs:List Bs) (i:Nat):Bs:=g++gapped g (xs.take i)
theorem partG_next {g:Bs} {xs:List Bs} {i:Nat} {x:Bs} (h:xs[i]?=some x):partG g xs (i + 1)=partG g xs i++x++g:=by
 obtain ⟨hi,rfl⟩:=List.getElem?_eq_some_iff.1 h
 unfold partG
 rw [List.take_add_one,List.getElem?_eq_getElem hi,gapped_app]
 show g++(gapped g (xs.take i)++(xs[i]++(g++[])))=_
 simp
theorem partG_all {g:Bs} {xs:List Bs} : partG g xs xs.length=g++gapped g xs:=by rw [partG,List.take_length]
theorem left_at (g:Bs):∀(xs:List Bs) (i:Nat) (hi:i < (left g xs).length),(gapped g (xs.take i)).length + (left g xs)[i]=(gapped g xs).length
 | [],i,hi=>by simp [left] at hi
 | x::l,0,hi=>by show 0 + _=_;rw [Nat.zero_add];rfl
 | x::l,i + 1,hi=>by
  have ih:=left_at g l i (by simpa [left] using hi)
  have hi':i < (left g l).length:=by simpa [left] using hi
  have e:(left g (x::l))[i + 1]=(left g l)[i]:=rfl
  rw [e]
  show (x++(g++gapped g (l.take i))).length + (left g l)[i]=(x++(g++gapped g l)).length
  simp only [List.length_append]
  omega
theorem gapped_le {g:Bs} {m:Nat} : ∀{xs:List Bs},(∀x∈xs,x.length≤m)→(gapped g xs).length≤xs.length * (m + g.length)
 | [],_=>by simp [gapped]
 | x::l,h=>by
  have ih:=gapped_le (g:=g) (xs:=l) fun y hy=>h y (by simp [hy])
  have hx:=h x (by simp)
  show (x++(g++gapped g l)).length≤(l.length + 1) * _
  rw [Nat.add_mul]
  simp only [List.length_append]
  omega
theorem partG_le {g:Bs} {m i:Nat} {xs:List Bs} (h:∀x∈xs,x.length≤m):(partG g xs i).length≤g.length + xs.length * (m + g.length):=by
 have h1:=gapped_le (g:=g) (xs:=xs.take i) fun x hx=>h x (List.mem_of_mem_take hx)
 have h2:(xs.take i).length≤xs.length:=by rw [List.length_take];omega
 have h3:=Nat.mul_le_mul_right (m + g.length) h2
 rw [partG,List.length_append]
 omega
theorem forms_at {d:Nat→Bs} : ∀{L:List Tk} {xs:List Bs},forms d L=some xs→xs.length=L.length∧∀(i:Nat) (t:Tk),L[i]?=some t→∃x,xs[i]?=some x∧L7.written d t=some x
 | [],xs,h=>by cases h;exact ⟨rfl,fun i t h=>by simp at h⟩
 | u::L,xs,h=>by
  unfold forms at h
  cases hw:L7.written d u with
  | none=>rw [hw] at h;cases h
  | some x=>
   rw [hw] at h
   cases hf:forms d L with
   | none=>rw [hf] at h;cases h
   | some ys=>
    rw [hf] at h
    cases h
    obtain ⟨h1,h2⟩:=forms_at hf
    refine ⟨by simp [h1],fun i t ht=>?_⟩
    cases i with
    | zero=>cases ht;exact ⟨x,rfl,hw⟩
    | succ i=>exact h2 i t ht
theorem gap_law {s g:Bs} {l:List (Tk × Nat)} {xs:List Bs} (hg:Gap g) (h1:scan s=.ok l) (hf:forms dec (l.map Prod.fst)=some xs) :
  (S8.pv true s).2.1=(S8.pv true (partG g xs l.length)).2.1∧S8.strip (S8.pv true s).1=S8.strip (S8.pv true (partG g xs l.length)).1∧((S8.pv true s).2.1≠0→
   (∀(i:Nat) (hi:i < l.length),((s.length - (l[i]).2:Nat):Int)=(S8.pv true s).2.2→(S8.pv true (partG g xs l.length)).2.2=((partG g xs i).length:Nat))∧
   ((∀(i:Nat) (hi:i < l.length),((s.length - (l[i]).2:Nat):Int)≠(S8.pv true s).2.2)→(S8.pv true s).2.2=s.length∧(S8.pv true (partG g xs l.length)).2.2=(partG g xs l.length).length)):=by
 have hlen:xs.length=l.length:=by rw [(forms_at hf).1,List.length_map]
 have h2:=scan_gap0 hg Zvd hf
 rw [← partG_all,hlen] at h2
 have hll:=left_length g xs
 have hz:((l.map Prod.fst).zip (left g xs)).map Prod.fst=l.map Prod.fst:=List.map_fst_zip (by rw [List.length_map,hll,hlen];exact Nat.le_refl _)
 obtain ⟨k1,k2,k3⟩:=S8.Zqp s _ h1 h2 hz
 refine ⟨k1,k2,fun he=>?_⟩
 obtain ⟨k4,k5⟩:=k3 he
 refine ⟨fun i hi e=>?_,k5⟩
 have hi':i < ((l.map Prod.fst).zip (left g xs)).length:=by rw [List.length_zip,List.length_map,hll,hlen];omega
 rw [k4 i hi hi' e]
 congr 1
 have hi2:i < (left g xs).length:=by rw [hll,hlen];exact hi
 have h3:=left_at g xs i hi2
 have e1:(partG g xs l.length).length=g.length + (gapped g xs).length:=by rw [← hlen,partG_all,List.length_append]
 have e2:(partG g xs i).length=g.length + (gapped g (xs.take i)).length:=by rw [partG,List.length_append]
 rw [List.getElem_zip,e1,e2]
 simp only
 omega
theorem gap_cost {s g:Bs} {l:List (Tk × Nat)} {xs:List Bs} (hg:Gap g) (h1:scan s=.ok l) (hf:forms dec (l.map Prod.fst)=some xs) (hs:s.length≤7100):∀l' c r,scan (partG g xs l.length)=.ok l'→S8.File true (partG g xs l.length).length (offs (partG g xs l.length).length l') (.ok c r)→wts c≤18000000:=fun l' c r h hF=>by
 have hlen:xs.length=l.length:=by rw [(forms_at hf).1,List.length_map]
 have h2:=scan_gap0 hg Zvd hf
 rw [← partG_all,hlen,h] at h2
 have h2:l'=(l.map Prod.fst).zip (left g xs):=by injection h2
 have hll:=left_length g xs
 have hz:l'.map Prod.fst=l.map Prod.fst:=by rw [h2];exact List.map_fst_zip (by rw [List.length_map,hll,hlen];exact Nat.le_refl _)
 have h3:=hF.cost
 rw [S8.Zot] at h3
 have h4:=S8.ZhD l s h1
 have h5:l'.length=l.length:=by have:=congrArg List.length hz;simpa using this
 have h6:(l'.map fun t=>t.1.t.length)=(l.map fun t=>t.1.t.length):=by
  have:=congrArg (List.map fun (t:Tk)=>t.t.length) hz
  rw [List.map_map,List.map_map] at this
  exact this
 rw [h6,h5] at h3
 omega
end Go.Proofs.YtaheffiglmglbaaGreatDoor
