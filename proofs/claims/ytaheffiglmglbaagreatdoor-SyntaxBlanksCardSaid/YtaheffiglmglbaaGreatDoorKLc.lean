import Derived.Lib.ItoaLen
import Derived.Test.YtaheffiglmglbaaGreatDoorKLb
/- Wr, Wr2, Write. -/
set_option maxHeartbeats 8000000
set_option maxRecDepth 20000
namespace Go.Proofs.YtaheffiglmglbaaGreatDoor
open Go.Proofs.Tryz
open Go.RowKit L7
def dec (n:Nat):Bs:=Lib.decDigits n
theorem Zph (n:Int) (h:0≤n):Lib.itoa n=dec n.toNat:=by
 unfold Lib.itoa dec;rw [if_neg (by omega)]
theorem Zvd:ZsS dec where
 all n b hb:=by
  have:=(Zso n).2
  rw [List.all_eq_true] at this
  rw [Zvc];exact this b hb
 pos n:=Zve n
 val n:=(Zso n).1
 lead n h:=by
  by_cases h0:0 < n
  ·obtain ⟨c,r,e,hc⟩:=ZuB n h0
   unfold dec at h
   rw [e] at h
   simp at h
   subst h
   exact absurd rfl hc
  ·obtain rfl:n=0:=by omega
   unfold dec
   rw [Lib.decDigits,dif_pos (by decide)]
   decide
def ZdT (t:Tk):Bool:=
 if t.k=1 then decide (t.n=0) && ZbM t.t else if t.k=2 then decide (t.t=[]) && decide (0≤t.n) && decide (t.n≤9007199254740992)
 else if t.k=3 then decide (t.n=0) && decide (t.t.length≤4096) else if t.k=4 then decide (t.n=0) && ZdI t.t else false
theorem Zey (t:Tk):(L7.written dec t).isSome=ZdT t:=by
 unfold L7.written ZdT
 by_cases h2:t.k=2
 ·simp [h2]
  by_cases a:t.t=[] <;> by_cases b:0≤t.n <;> by_cases c:t.n≤9007199254740992 <;> simp [a,b,c]
 ·by_cases h1:t.k=1
  ·simp [h1]
   by_cases a:t.n=0 <;> by_cases b:ZbM t.t=true <;> simp [a,b]
  ·by_cases h3:t.k=3
   ·simp [h3]
    by_cases a:t.n=0 <;> by_cases b:t.t.length≤4096 <;> simp [a,b]
   ·by_cases h4:t.k=4
    ·simp [h4]
     by_cases a:t.n=0 <;> by_cases b:ZdI t.t=true <;> simp [a,b]
    ·simp [h1,h2,h3,h4]
theorem ZnT (k n p:Int) (s:ByteArray) (w:World) (hs:s.size≤100000000) :
  Calls prog 40 #[.agg #[.int .i64 k,.string s,.int .i64 n,.int .i64 p]] w fun e w'=>e=.returned (.bool (ZdT ⟨k,ls s,n⟩))∧Below w.heap.size w w':=by
 have C:=hid (fun W=>Zp2 s W hs)
 have M:=hid (fun W=>Zkb s W)
 have HV:Hid (ZdT ⟨k,ls s,n⟩=if k=1 then decide (n=0) && ZbM (ls s) else if k=2 then decide (ls s=[]) && decide (0≤n) && decide (n≤9007199254740992)
  else if k=3 then decide (n=0) && decide (s.size≤4096) else if k=4 then decide (n=0) && ZdI (ls s) else false):=hid rfl
 have HE:Hid (s.toList.isEmpty=decide (ls s=[])):=hid (by rw [show s.toList=ls s by rw [ByteArray.toList_eq];rfl];cases ls s <;> rfl)
 by_cases k1:k=1
 ·have d1:(k == 1)=true:=by simpa using k1
  have HV2:=HV.out
  rw [if_pos k1] at HV2
  have HV3:=hid HV2
  clear HV HV2 k1
  by_cases n0:n=0
  ·have d0:(n == 0)=true:=by simpa using n0
   have HV4:Hid (ZdT ⟨k,ls s,n⟩=ZbM (ls s)):=hid (by rw [HV3.out,decide_eq_true n0];rfl)
   clear n0 HV3
   go_enter func40,ntmps40
   go_wp2_with (go_at_call 73;(with_reducible refine (C.out _).mono ?_);rintro e w' ⟨rfl,rfl⟩)
   go_ret
   exact ⟨ZbJ HV4.out.symm,(Below.refl _ _).alloc (Nat.le_refl _) _⟩
  ·have d0:(n == 0)=false:=by simpa using n0
   have HV4:Hid (ZdT ⟨k,ls s,n⟩=false):=hid (by rw [HV3.out,decide_eq_false n0];rfl)
   clear n0 HV3
   go_enter func40,ntmps40
   go_wp2
   go_ret
   exact ⟨ZbJ HV4.out.symm,(Below.refl _ _).alloc (Nat.le_refl _) _⟩
 have d1:(k == 1)=false:=by simpa using k1
 by_cases k2:k=2
 ·have d2:(k == 2)=true:=by simpa using k2
  have HV2:=HV.out
  rw [if_neg k1,if_pos k2] at HV2
  have HV3:=hid HV2
  clear HV HV2 k1 k2
  cases he:s.toList.isEmpty with
  | false=>
   have HV4:Hid (ZdT ⟨k,ls s,n⟩=false):=hid (by rw [HV3.out,← HE.out,he];rfl)
   clear HV3 HE
   go_enter func40,ntmps40
   go_wp2
   go_ret
   exact ⟨ZbJ HV4.out.symm,(Below.refl _ _).alloc (Nat.le_refl _) _⟩
  | true=>
   by_cases n0:0≤n
   ·have d0:decide (0≤n)=true:=by simpa using n0
    have HV4:Hid (ZdT ⟨k,ls s,n⟩=decide (n≤9007199254740992)):=hid (by rw [HV3.out,← HE.out,he,d0];rfl)
    clear HV3 HE
    go_enter func40,ntmps40
    go_wp2
    go_ret
    exact ⟨ZbJ HV4.out.symm,(Below.refl _ _).alloc (Nat.le_refl _) _⟩
   ·have d0:decide (0≤n)=false:=by simpa using n0
    have HV4:Hid (ZdT ⟨k,ls s,n⟩=false):=hid (by rw [HV3.out,← HE.out,he,d0];rfl)
    clear HV3 HE n0
    go_enter func40,ntmps40
    go_wp2
    go_ret
    exact ⟨ZbJ HV4.out.symm,(Below.refl _ _).alloc (Nat.le_refl _) _⟩
 have d2:(k == 2)=false:=by simpa using k2
 by_cases k3:k=3
 ·have d3:(k == 3)=true:=by simpa using k3
  have HV2:=HV.out
  rw [if_neg k1,if_neg k2,if_pos k3] at HV2
  have HV3:=hid HV2
  clear HV HV2 k1 k2 k3
  by_cases n0:n=0
  ·have d0:(n == 0)=true:=by simpa using n0
   have HV4:Hid (ZdT ⟨k,ls s,n⟩=decide (s.size≤4096)):=hid (by rw [HV3.out,decide_eq_true n0];rfl)
   clear n0 HV3
   go_enter func40,ntmps40
   go_wp2
   go_ret
   exact ⟨ZbJ (by rw [HV4.out,Bool.eq_iff_iff];simp;omega),(Below.refl _ _).alloc (Nat.le_refl _) _⟩
  ·have d0:(n == 0)=false:=by simpa using n0
   have HV4:Hid (ZdT ⟨k,ls s,n⟩=false):=hid (by rw [HV3.out,decide_eq_false n0];rfl)
   clear n0 HV3
   go_enter func40,ntmps40
   go_wp2
   go_ret
   exact ⟨ZbJ HV4.out.symm,(Below.refl _ _).alloc (Nat.le_refl _) _⟩
 have d3:(k == 3)=false:=by simpa using k3
 by_cases k4:k=4
 ·have d4:(k == 4)=true:=by simpa using k4
  have HV2:=HV.out
  rw [if_neg k1,if_neg k2,if_neg k3,if_pos k4] at HV2
  have HV3:=hid HV2
  clear HV HV2 k1 k2 k3 k4
  by_cases n0:n=0
  ·have d0:(n == 0)=true:=by simpa using n0
   have HV4:Hid (ZdT ⟨k,ls s,n⟩=ZdI (ls s)):=hid (by rw [HV3.out,decide_eq_true n0];rfl)
   clear n0 HV3
   go_enter func40,ntmps40
   go_wp2_with (go_at_call 72;(with_reducible refine (M.out _).mono ?_);rintro e w' ⟨rfl,rfl⟩)
   go_ret
   exact ⟨ZbJ HV4.out.symm,(Below.refl _ _).alloc (Nat.le_refl _) _⟩
  ·have d0:(n == 0)=false:=by simpa using n0
   have HV4:Hid (ZdT ⟨k,ls s,n⟩=false):=hid (by rw [HV3.out,decide_eq_false n0];rfl)
   clear n0 HV3
   go_enter func40,ntmps40
   go_wp2
   go_ret
   exact ⟨ZbJ HV4.out.symm,(Below.refl _ _).alloc (Nat.le_refl _) _⟩
 have d4:(k == 4)=false:=by simpa using k4
 have HV4:Hid (ZdT ⟨k,ls s,n⟩=false):=hid (by rw [HV.out,if_neg k1,if_neg k2,if_neg k3,if_neg k4])
 clear HV k1 k2 k3 k4
 go_enter func40,ntmps40
 go_wp2
 go_ret
 exact ⟨ZbJ HV4.out.symm,(Below.refl _ _).alloc (Nat.le_refl _) _⟩
open Go.RowKit L7
theorem Zm4 (k n p:Int) (s:ByteArray) (x:Bs) (w:World) (hw:Lies w) (hs:s.size≤10000000) (h:L7.written dec ⟨k,ls s,n⟩=some x) :
  Calls prog 43 #[.agg #[.int .i64 k,.string s,.int .i64 n,.int .i64 p]] w fun e w'=>e=.returned (.string (mk x))∧Below w.heap.size w w':=by
 unfold L7.written at h
 simp only at h
 by_cases k2:k=2
 ·rw [if_pos k2] at h
  have d2:(k == 2)=true:=by simpa using k2
  have hb:ls s=[]∧0≤n∧n≤9007199254740992:=by
   by_cases hb:ls s=[]∧0≤n∧n≤9007199254740992
   ·exact hb
   ·rw [if_neg hb] at h;cases h
  rw [if_pos hb] at h
  have hx:x=Lib.itoa n:=by rw [Zph n hb.2.1];injection h with h;exact h.symm
  have hx2:(⟨(Lib.itoa n).toArray⟩:ByteArray)=mk x:=by rw [hx];rfl
  have T:=Ztd n (by omega) (by omega) (w.alloc (.cells #[.int .i64 k,.string s,.int .i64 n,.int .i64 p] 42)) (hw.on ((Below.refl _ _).alloc (Nat.le_refl _) _))
  rw [hx2] at T
  have HT:=hid T
  clear T hx hx2 hb h k2
  go_enter func43,ntmps43
  go_wp2_with (go_at_call 75;(with_reducible refine (HT.out).mono ?_);rintro e w2 ⟨rfl,hb⟩;have B2:=hid (((Below.refl w.heap.size w).alloc (Nat.le_refl _) _).trans (hb.mono (by simp)));clear hb)
  go_ret
  exact ⟨rfl,B2.out⟩
 rw [if_neg k2] at h
 have d2:(k == 2)=false:=by simpa using k2
 by_cases hn:n≠0
 ·rw [if_pos hn] at h;cases h
 rw [if_neg hn] at h
 by_cases k3:k=3
 ·have d3:(k == 3)=true:=by simpa using k3
  have hb:k=3∧(ls s).length≤4096:=by
   by_cases hb:k=3∧(ls s).length≤4096
   ·exact hb
   ·rw [if_neg hb,if_neg (by rintro (⟨h1,-⟩ | ⟨h1,-⟩) <;> omega)] at h;cases h
  rw [if_pos hb] at h
  have hx:x=34::(qbody (ls s)++[34]):=by injection h with h;exact h.symm
  have Q:=ZpJ s (w.alloc (.cells #[.int .i64 k,.string s,.int .i64 n,.int .i64 p] 42)) hs
  rw [← hx] at Q
  have HQ:=hid Q
  clear Q hx hb h k2 k3 hn
  go_enter func43,ntmps43
  go_wp2_with (go_at_call 76;(with_reducible refine (HQ.out).mono ?_);rintro e w2 ⟨rfl,hb⟩;have B2:=hid (((Below.refl w.heap.size w).alloc (Nat.le_refl _) _).trans (hb.mono (by simp)));clear hb)
  go_ret
  exact ⟨rfl,B2.out⟩
 ·have d3:(k == 3)=false:=by simpa using k3
  rw [if_neg (fun h=>k3 h.1)] at h
  have hx:ls s=x:=by
   split at h
   ·injection h
   ·cases h
  have HX:Hid (s=mk x):=hid (by rw [← hx];rfl)
  clear hx h k2 k3 hn
  go_enter func43,ntmps43
  go_wp2
  go_ret
  exact ⟨ZkF HX.out,(Below.refl _ _).alloc (Nat.le_refl _) _⟩
open Go.RowKit L7
theorem ZfY (a:Addr) (m j:Nat) (hj:0 < j):(⟨(a.add m).block,(a.add m).off + j,none⟩:Addr)=a.add (m + j):=by
 unfold Addr.add
 by_cases hm:m=0
 ·subst hm;rw [if_pos rfl,if_neg (by omega)];simp
 ·rw [if_neg hm,if_neg (by omega)];simp;omega
theorem ToksIn.at_ {w:World} {top:Nat} {A:Option Addr} {L:List (Tk × Int)} (h:ToksIn w top A L) {k:Nat} {x:Tk × Int} (hk:L[k]?=some x) :
  ∃a,A=some a∧(a.add (k * 4)).block < top∧w.cell? (a.add (k * 4))=some (.int .i64 x.1.k)∧w.cell? ⟨(a.add (k * 4)).block,(a.add (k * 4)).off + 1,none⟩=some (.string (mk x.1.t))∧
   w.cell? ⟨(a.add (k * 4)).block,(a.add (k * 4)).off + 2,none⟩=some (.int .i64 x.1.n)∧w.cell? ⟨(a.add (k * 4)).block,(a.add (k * 4)).off + 3,none⟩=some (.int .i64 x.2):=by
 obtain ⟨a,h1,h2,h3⟩:=h k x hk
 refine ⟨a,h1,by rw [Zdt];exact h2,h3 0 _ rfl,?_,?_,?_⟩
 ·rw [ZfY _ _ 1 (by decide)];exact h3 1 _ rfl
 ·rw [ZfY _ _ 2 (by decide)];exact h3 2 _ rfl
 ·rw [ZfY _ _ 3 (by decide)];exact h3 3 _ rfl
def wrt (L:List Tk):Bs:=match forms dec L with
 | some xs=>join xs
 | none=>[]
theorem ZyF (n:Nat) (h:n≤9007199254740992):(dec n).length≤21:=by
 have:=Lib.itoa_length_le (n:Int) (by omega) (by omega)
 rw [Zph _ (by omega)] at this
 simpa using this
theorem ZjK {t:Tk} {x:Bs} (h:L7.written dec t=some x):x.length≤2 * t.t.length + 22:=by
 unfold L7.written at h
 split at h
 ·split at h
  ·rename_i h2
   injection h with h;subst h
   have:=ZyF t.n.toNat (by omega)
   omega
  ·cases h
 ·split at h
  ·cases h
  ·split at h
   ·injection h with h;subst h
    have:=ZkU t.t
    simp only [List.length_cons,List.length_append,List.length_nil];omega
   ·split at h
    ·injection h with h;subst h;omega
    ·cases h
def tw (t:Tk):Nat:=2 * t.t.length + 30
def tws (L:List Tk):Nat:=(L.map tw).sum
theorem ZhZ (L M:List Tk):tws (L++M)=tws L + tws M:=by simp [tws]
theorem Zkx (t:Tk):tws [t]=tw t:=by simp [tws]
theorem Zvn {L:List Tk} {t:Tk} (h:t∈L):tw t≤tws L:=by
 obtain ⟨a,b,rfl⟩:=List.append_of_mem h
 rw [ZhZ,← List.singleton_append,ZhZ,Zkx];omega
theorem Zs2 (L:List Tk) (k:Nat):tws (L.take k)≤tws L:=by
 have:=ZhZ (L.take k) (L.drop k)
 rw [List.take_append_drop] at this;omega
theorem ZqL (L:List Tk):30 * L.length≤tws L:=by
 induction L with
 | nil=>simp
 | cons t L ih=>rw [← List.singleton_append,ZhZ,Zkx];simp [tw];omega
theorem Zmx:∀(xs:List Bs) (x:Bs),join (xs++[x])=if xs=[] then x else join xs++32::x
 | [],_=>rfl
 | [y],x=>rfl
 | y::z::l,x=>by
  have ih:=Zmx (z::l) x
  rw [if_neg (by simp)] at ih ⊢
  show y++32::join (z::l++[x])=_
  rw [ih]
  show _=(y++32::join (z::l))++32::x
  simp
theorem Zp6 {L:List Tk} {xs:List Bs} {t:Tk} {x:Bs} (h:forms dec L=some xs) (ht:L7.written dec t=some x):forms dec (L++[t])=some (xs++[x]):=by
 induction L generalizing xs with
 | nil=>
  simp only [forms,Option.some.injEq] at h;subst h
  simp [forms,ht]
 | cons a L ih=>
  simp only [List.cons_append,forms] at h ⊢
  cases ha:L7.written dec a with
  | none=>rw [ha] at h;cases h
  | some y=>
   rw [ha] at h
   cases hL:forms dec L with
   | none=>rw [hL] at h;cases h
   | some ys=>
    rw [hL] at h
    simp at h;subst h
    rw [ih hL];rfl
theorem Zp7 {L M:List Tk} {t:Tk} (ht:L7.written dec t=none):forms dec (L++t::M)=none:=by
 induction L with
 | nil=>simp [forms,ht]
 | cons a L ih=>
  simp only [List.cons_append,forms,ih]
  cases L7.written dec a <;> rfl
theorem ZmC {L:List Tk} {xs:List Bs} (h:forms dec L=some xs):xs.length=L.length:=by
 induction L generalizing xs with
 | nil=>simp only [forms,Option.some.injEq] at h;subst h;rfl
 | cons a L ih=>
  simp only [forms] at h
  cases ha:L7.written dec a with
  | none=>rw [ha] at h;cases h
  | some y=>
   rw [ha] at h
   cases hL:forms dec L with
   | none=>rw [hL] at h;cases h
   | some ys=>rw [hL] at h;simp at h;subst h;simp [ih hL]
theorem Zvi {B b:Nat} {l:Bs} {w:World} (h:Bd B b l w) (c:UInt8) (n:Int) (hn:(c.toNat:Int)=n) (hl:l.length≤100000000) (hB:B≤w.heap.size) :
  Calls prog 41 #[.pointer (some ⟨b,0,none⟩),.int .u8 n] w fun e w'=>e=.returned .nilIface∧Bd B b (l++[c]) w'∧Below B w w'∧Lib.OthersKept 5 (some b) w w':=by
 rw [← hn]
 exact (Tryz.WriteByte_k B b _ c.toNat w h (by rw [Lib.byteCells_length];omega) hB).mono fun e w' k=>⟨k.1,by
  have:=k.2.1
  unfold Bd
  rw [Lib.byteCells_append]
  exact .inr this,k.2.2.1,k.2.2.2⟩
theorem ZiW (A:Option Addr) (c top:Nat) (L:List (Tk × Int)) (w:World) (hw:Lies w) (hT:ToksIn w top A L) (htop:top≤w.heap.size) (hs:tws (L.map Prod.fst)≤20000000) :
  Calls prog 23 #[.slice A L.length c] w fun e w'=>e=.returned (.string (mk (wrt (L.map Prod.fst))))∧Below w.heap.size w w':=by
 have F0:=hid (Bd.fresh w)
 have B0:=hid ((Below.refl w.heap.size w).alloc (Nat.le_refl _) (.cells #[.pointer none,.slice none 0 0] 64))
 have HT:=hid hT
 have HS:=hid hs
 have hL:L.length≤1000000:=by have:=ZqL (L.map Prod.fst);simp at this;omega
 have HW:=hid hw
 clear hT hs hw
 go_enter func23,ntmps23
 go_wp2
 go_loopw [8] (fun i wr=>∃(k:Nat) (xs:List Bs),k≤L.length∧i=.int .i64 k∧Hid (forms dec ((L.take k).map Prod.fst)=some xs)∧Hid ((join xs).length≤tws ((L.map Prod.fst).take k))∧Hid (Bd w.heap.size w.heap.size (join xs) wr)∧Hid (Below w.heap.size w wr)∧w.heap.size + 1≤wr.heap.size) (fun i _=>L.length - (intOf i).toNat)
 case atStart=>exact ⟨0,[],Nat.zero_le _,rfl,hid rfl,hid (Nat.zero_le _),F0,B0,by simp⟩
 case round=>
  clear F0 B0
  obtain ⟨k,xs,hk,rfl,HF,HJL,HBd,HB,hsz1⟩:=hrel
  have hsz:=HB.out.size
  by_cases hlt:k < L.length
  ·obtain ⟨⟨t,p⟩,hx⟩:∃x,L[k]=x:=⟨_,rfl⟩
   have hmem:(t,p)∈L:=by rw [← hx];exact List.getElem_mem _
   have hxl:2 * t.t.length + 30≤20000000:=Nat.le_trans (Zvn (List.mem_map.2 ⟨_,hmem,rfl⟩)) HS.out
   have HTS:Hid (tws ((L.map Prod.fst).take (k + 1))=tws ((L.map Prod.fst).take k) + (2 * t.t.length + 30)):=hid (by rw [List.take_succ_eq_append_getElem (by simpa using hlt),ZhZ,List.getElem_map,hx];simp [tws,tw])
   have HTT:tws ((L.map Prod.fst).take k)≤20000000:=Nat.le_trans (Zs2 _ _) HS.out
   obtain ⟨a,rfl,ga,g0,g1,g2,g3⟩:=(HT.out.below (HB.out.mono htop)).at_ (k:=k) (x:=(t,p)) (by rw [List.getElem?_eq_getElem hlt,hx])
   have V:=fun W=>ZnT t.k t.n p (mk t.t) W (by rw [ZfK];omega)
   rw [Zbc] at V
   have i1:decide ((k:Int) < (L.length:Int))=true:=by simp;omega
   simp only at g0 g1 g2 g3
   cases hv:L7.written dec t with
   | none=>
    have vf:ZdT t=false:=by rw [← Zey,hv];rfl
    rw [vf] at V
    have HR2:Hid (wrt (L.map Prod.fst)=[]):=hid (by
     have e:L.map Prod.fst=(L.take k).map Prod.fst++t::(L.drop (k + 1)).map Prod.fst:=by
      conv=>lhs;rw [← List.take_append_drop k L,List.drop_eq_getElem_cons hlt]
      rw [List.map_append,List.map_cons,hx]
     unfold wrt
     rw [e,Zp7 hv])
    have HV:=hid V
    clear V vf hv hx hxl hmem HS HF
    go_wp2_with (go_at_call 40;(with_reducible refine (HV.out _).mono ?_);rintro e w2 ⟨rfl,hb⟩;have B2:=hid ((HB.out.alloc hsz (.cells #[.int .i64 t.k,.string (mk t.t),.int .i64 t.n,.int .i64 p] 42)).trans (hb.mono (by first | (simp;done) | (simp;omega))));clear hb)
    go_ret
    exact ⟨ZkF (by rw [HR2.out];rfl),B2.out⟩
   | some x=>
    have vt:ZdT t=true:=by rw [← Zey,hv];rfl
    rw [vt] at V
    have hxl9:=ZjK hv
    have hxl8:x.length≤20000000:=by omega
    have HF2:Hid (forms dec ((L.take (k + 1)).map Prod.fst)=some (xs++[x])):=hid (by
     rw [List.take_succ_eq_append_getElem hlt,List.map_append,List.map_cons,List.map_nil,hx]
     exact Zp6 HF.out hv)
    have HJ:Hid (join (xs++[x])=if xs=[] then x else join xs++32::x):=hid (Zmx xs x)
    have hxk:xs.length=k:=by have:=ZmC HF.out;rw [List.length_map,List.length_take] at this;omega
    have W14:Hid (∀W,Lies W→Calls prog 43 #[.agg #[.int .i64 t.k,.string (mk t.t),.int .i64 t.n,.int .i64 p]] W fun e w'=>e=.returned (.string (mk x))∧Below W.heap.size W w'):=hid (fun W hL=>Zm4 t.k t.n p (mk t.t) x W hL (by rw [ZfK];omega) hv)
    have hjl:=HJL.out
    have HV:=hid V
    clear V vt hv hx hxl hmem HS HF
    by_cases h0:0 < k
    ·have HJ2:Hid (join (xs++[x])=(join xs++[32])++x):=hid (by
      rw [HJ.out,if_neg (by intro e;rw [e] at hxk;simp at hxk;omega)];simp)
     have HJL2:Hid ((join (xs++[x])).length≤tws ((L.map Prod.fst).take (k + 1))):=hid (by rw [HJ2.out,HTS.out];simp;omega)
     clear hxk HJ
     go_wp2_with (first
      | (go_at_call 40;(with_reducible refine (HV.out _).mono ?_);rintro e w2 ⟨rfl,hb⟩;have J2:Is w2 wr.heap.size 42 #[.int .i64 t.k,.string (mk t.t),.int .i64 t.n,.int .i64 p]:=(Is.fresh wr 42 _).below hb (by simp);have y0:=J2.at_ 0;have f0:=J2.open_ 0;have y1:=J2.at_ 1;have f1:=J2.open_ 1;have y2:=J2.at_ 2;have f2:=J2.open_ 2;have y3:=J2.at_ 3;have f3:=J2.open_ 3;have hl:=J2.lt;simp at y0 y1 y2 y3;have F2:=hid ((HBd.out.alloc (.cells #[.int .i64 t.k,.string (mk t.t),.int .i64 t.n,.int .i64 p] 42)).below hb);have B2:=hid ((HB.out.alloc hsz (.cells #[.int .i64 t.k,.string (mk t.t),.int .i64 t.n,.int .i64 p] 42)).trans (hb.mono (by first | (simp;done) | (simp;omega))));have hsz2:=B2.out.size;have HI2:=hid J2;have s2:w.heap.size + 1≤w2.heap.size:=(by omega);clear hb J2)
      | (go_at_call 41;(with_reducible refine (Zvi F2.out 32 32 rfl (by omega) hsz2).mono ?_);rintro e w3 ⟨rfl,h1,h2,h3⟩;have J3:Is w3 wr.heap.size 42 #[.int .i64 t.k,.string (mk t.t),.int .i64 t.n,.int .i64 p]:=h3 wr.heap.size _ HI2.out (by simp;omega) (by intro c fz e;injection e with _ e _;exact absurd e (by decide));clear y0 f0 y1 f1 y2 f2 y3 f3 hl;have zy0:=J3.at_ 0;have zf0:=J3.open_ 0;have zy1:=J3.at_ 1;have zf1:=J3.open_ 1;have zy2:=J3.at_ 2;have zf2:=J3.open_ 2;have zy3:=J3.at_ 3;have zf3:=J3.open_ 3;have zhl:=J3.lt;simp at zy0 zy1 zy2 zy3;have F3:=hid h1;have B3:=hid (B2.out.trans h2);have hsz3:=B3.out.size;have L3:=hid (HW.out.on B3.out);have s3:=Nat.le_trans s2 h2.size;clear h1 h2 h3 J3)
      | (go_at_call 43;(with_reducible refine (W14.out _ L3.out).mono ?_);rintro e w4 ⟨rfl,hb⟩;have F4:=hid (F3.out.below hb);have B4:=hid (B3.out.trans (hb.mono hsz3));have hsz4:=B4.out.size;have s4:=Nat.le_trans s3 hb.size;clear hb)
      | (go_at_call 42;(with_reducible refine (ZuO F4.out (mk x) (by rw [ZfK];simp;omega) hsz4).mono ?_);rintro e w5 ⟨rfl,h1,h2⟩;have F5:=hid h1;have B5:=hid (B4.out.trans h2);have s5:=Nat.le_trans s4 h2.size;clear h1 h2))
     go_roundw
     case rel=>exact ⟨k + 1,xs++[x],by omega,by go_num,HF2,HJL2,by rw [HJ2.out];exact F5,B5,s5⟩
     case measure=>simp [intOf];omega
    ·have hk0:k=0:=by omega
     have HJ2:Hid (join (xs++[x])=join xs++x):=hid (by
      have:xs=[]:=List.eq_nil_of_length_eq_zero (by omega)
      rw [HJ.out,if_pos this,this];rfl)
     have HJL2:Hid ((join (xs++[x])).length≤tws ((L.map Prod.fst).take (k + 1))):=hid (by rw [HJ2.out,HTS.out];simp;omega)
     clear hxk HJ hk0
     go_wp2_with (first
      | (go_at_call 40;(with_reducible refine (HV.out _).mono ?_);rintro e w2 ⟨rfl,hb⟩;have J2:Is w2 wr.heap.size 42 #[.int .i64 t.k,.string (mk t.t),.int .i64 t.n,.int .i64 p]:=(Is.fresh wr 42 _).below hb (by simp);have y0:=J2.at_ 0;have f0:=J2.open_ 0;have y1:=J2.at_ 1;have f1:=J2.open_ 1;have y2:=J2.at_ 2;have f2:=J2.open_ 2;have y3:=J2.at_ 3;have f3:=J2.open_ 3;have hl:=J2.lt;simp at y0 y1 y2 y3;have F3:=hid ((HBd.out.alloc (.cells #[.int .i64 t.k,.string (mk t.t),.int .i64 t.n,.int .i64 p] 42)).below hb);have B3:=hid ((HB.out.alloc hsz (.cells #[.int .i64 t.k,.string (mk t.t),.int .i64 t.n,.int .i64 p] 42)).trans (hb.mono (by first | (simp;done) | (simp;omega))));have hsz3:=B3.out.size;have L3:=hid (HW.out.on B3.out);have s3:w.heap.size + 1≤w2.heap.size:=(by omega);clear hb J2)
      | (go_at_call 43;(with_reducible refine (W14.out _ L3.out).mono ?_);rintro e w4 ⟨rfl,hb⟩;have F4:=hid (F3.out.below hb);have B4:=hid (B3.out.trans (hb.mono hsz3));have hsz4:=B4.out.size;have s4:=Nat.le_trans s3 hb.size;clear hb)
      | (go_at_call 42;(with_reducible refine (ZuO F4.out (mk x) (by rw [ZfK];omega) hsz4).mono ?_);rintro e w5 ⟨rfl,h1,h2⟩;have F5:=hid h1;have B5:=hid (B4.out.trans h2);have s5:=Nat.le_trans s4 h2.size;clear h1 h2))
     go_roundw
     case rel=>exact ⟨k + 1,xs++[x],by omega,by go_num,HF2,HJL2,by rw [HJ2.out];exact F5,B5,s5⟩
     case measure=>simp [intOf];omega
  ·have hkl:k=L.length:=by omega
   have HR2:Hid (wrt (L.map Prod.fst)=join xs):=hid (by
    have:=HF.out
    rw [hkl,List.take_length] at this
    unfold wrt
    rw [this])
   have i1:decide ((k:Int) < (L.length:Int))=false:=by simp;omega
   have i2:decide (k < L.length)=false:=by simp;omega
   clear HF hkl
   go_wp2_with (go_at_call 44;(with_reducible refine (Zng HBd.out hsz).mono ?_);rintro e w3 ⟨rfl,-,h2⟩;have B3:=hid (HB.out.trans h2);clear h2)
   go_ret
   exact ⟨ZkF (by rw [HR2.out]),B3.out⟩
end Go.Proofs.YtaheffiglmglbaaGreatDoor
