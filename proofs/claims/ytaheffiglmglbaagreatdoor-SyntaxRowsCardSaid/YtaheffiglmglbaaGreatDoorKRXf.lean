import Derived.Test.YtaheffiglmglbaaGreatDoorKPa
import Derived.Test.YtaheffiglmglbaaGreatDoorKPb
import Derived.Test.YtaheffiglmglbaaGreatDoorKPc
import Derived.Test.YtaheffiglmglbaaGreatDoorKPd
import Derived.Test.YtaheffiglmglbaaGreatDoorKPe
import Derived.Test.YtaheffiglmglbaaGreatDoorKPf
import Derived.Test.YtaheffiglmglbaaGreatDoorKLa
import Derived.Test.YtaheffiglmglbaaGreatDoorKLb
import Derived.Test.YtaheffiglmglbaaGreatDoorKLc
import Derived.Test.YtaheffiglmglbaaGreatDoorKLd
import Derived.Test.YtaheffiglmglbaaGreatDoorKQa
import Derived.Test.YtaheffiglmglbaaGreatDoorKQb
import Derived.Test.YtaheffiglmglbaaGreatDoorKQc
import Derived.Test.YtaheffiglmglbaaGreatDoorKQd
import Derived.Test.YtaheffiglmglbaaGreatDoorKQe
import Derived.Test.YtaheffiglmglbaaGreatDoorKQf
import Derived.Test.YtaheffiglmglbaaGreatDoorKQg
import Derived.Test.YtaheffiglmglbaaGreatDoorKQh
import Derived.Test.YtaheffiglmglbaaGreatDoorKQi
import Derived.Test.YtaheffiglmglbaaGreatDoorKQj
import Derived.Test.YtaheffiglmglbaaGreatDoorKQk
import Derived.Test.YtaheffiglmglbaaGreatDoorKWa
import Derived.Test.YtaheffiglmglbaaGreatDoorKWb
import Derived.Test.YtaheffiglmglbaaGreatDoorKWc
import Derived.Test.YtaheffiglmglbaaGreatDoorKWd
import Derived.Test.YtaheffiglmglbaaGreatDoorKWe
import Derived.Test.YtaheffiglmglbaaGreatDoorKWf
import Derived.Test.YtaheffiglmglbaaGreatDoorKWg
import Derived.Test.YtaheffiglmglbaaGreatDoorKWh
import Derived.Test.YtaheffiglmglbaaGreatDoorKXa
import Derived.Test.YtaheffiglmglbaaGreatDoorKXb
import Derived.Test.YtaheffiglmglbaaGreatDoorKXc
import Derived.Test.YtaheffiglmglbaaGreatDoorKXd
import Derived.Test.YtaheffiglmglbaaGreatDoorKXe
/- Plain, SynF, Tree, LexM, LawQ, LawS. -/
set_option maxHeartbeats 8000000
set_option maxRecDepth 20000
namespace Go.Proofs.YtaheffiglmglbaaGreatDoor.L7
open Go.Proofs.Tryz
theorem scan_error:∀(n:Nat) (s:Bs),s.length≤n→∀e k,scan s=.error (e,k)→0 < k∧k≤s.length
 | 0,s,hs,e,k,h=>by
  have:s=[]:=List.eq_nil_of_length_eq_zero (by omega)
  subst this
  rw [ZdD (by simp [skip])] at h
  cases h
 | n + 1,s,hs,e,k,h=>by
  by_cases hn:skip s=[]
  ·rw [ZdD hn] at h;cases h
  ·have hl:=Zgp s
   have hp:=List.length_pos_iff.2 hn
   cases ht:tok (skip s) with
   | error e2=>
    rw [ZfL hn ht] at h
    simp only [Except.error.injEq,Prod.mk.injEq] at h
    omega
   | ok x=>
    obtain ⟨t',r⟩:=x
    have hr:=ZlL ht
    rw [Zet ht] at h
    cases hr2:scan r with
    | error y=>
     rw [hr2] at h
     simp only [Except.error.injEq] at h
     subst h
     have:=scan_error n r (by omega) e k hr2
     omega
    | ok l'=>rw [hr2] at h;cases h
end Go.Proofs.YtaheffiglmglbaaGreatDoor.L7
namespace Go.Proofs.YtaheffiglmglbaaGreatDoor.S8
open Go.Proofs.Tryz
open L7
open L7
open L7
theorem deeps_app (m d:Nat):∀c c',deeps m d (c++c')=match deeps m d c with
  | some a=>some a
  | none=>deeps m d c'
 | [],c'=>by rw [List.nil_append,deeps]
 | x::l,c'=>by
  rw [List.cons_append,deeps,deeps]
  cases deep m d x with
  | some b=>rfl
  | none=>exact deeps_app m d l c'
open L7
open L7
end Go.Proofs.YtaheffiglmglbaaGreatDoor.S8
namespace Go.Proofs.YtaheffiglmglbaaGreatDoor
open Go.Proofs.Tryz
open Go.RowKit L7
theorem kid_grown {w w':World} {Y:Nat→Prop} {b:Nat} {x:Nd} {v:Value} (h:Kid w Y x v) (k:w.grownBy w' (some b)) (hb:¬ Y b):Kid w' Y x v:=
 Zb0 (fun _ h _=>h) (fun g hy hg=>k.block g hg (fun e=>hb (by injection e with e;rw [← e];exact hy))) x v h
end Go.Proofs.YtaheffiglmglbaaGreatDoor
namespace Go.Proofs.YtaheffiglmglbaaGreatDoor.L7
open Go.Proofs.Tryz
theorem drop_more {p:UInt8→Bool} {z:Bs} (hz:∀b y,z=b::y→p b=false):∀s:Bs,(s++z).dropWhile p=s.dropWhile p++z∧(s++z).takeWhile p=s.takeWhile p
 | []=>by
  cases z with
  | nil=>exact ⟨rfl,rfl⟩
  | cons b y=>simp [hz b y rfl]
 | a::s=>by
  obtain ⟨h1,h2⟩:=drop_more hz s
  cases ha:p a with
  | true=>simp [ha,h1,h2]
  | false=>simp [ha]
theorem lf_head {p:UInt8→Bool} (hp:p 10=false) (y:Bs):∀b y',10::y=b::y'→p b=false:=by
 intro b y' e
 cases e
 exact hp
theorem skip_more (y:Bs) (s:Bs):skip (s++10::y)=if skip s=[] then skip y else skip s++10::y:=by
 induction s using skip.induct with
 | case1=>rw [List.nil_append,ZeP y rfl,show skip []=[] by simp [skip],if_pos rfl]
 | case2 b s h ih=>rw [List.cons_append,ZeP _ h,ZeP _ h];exact ih
 | case3 b s h h2 ih=>
  simp only [Bool.and_eq_true,beq_iff_eq] at h2
  obtain ⟨rfl,h3⟩:=h2
  cases s with
  | nil=>cases h3
  | cons c s=>
   obtain rfl:c=47:=by simpa using h3
   have e1:(47::s:Bs).dropWhile ZbH=s.dropWhile ZbH:=rfl
   rw [e1] at ih
   rw [List.cons_append,List.cons_append,Zgo,Zgo,(drop_more (lf_head (p:=ZbH) rfl y) s).1]
   exact ih
 | case4 b s h h2=>
  have h1:Zir b=false:=by simpa using h
  have h2':¬ (b=47∧s.head?=some 47):=by simpa using h2
  rw [Zde h1 h2',if_neg (by simp),List.cons_append]
  refine Zde h1 ?_
  rintro ⟨rfl,h3⟩
  cases s with
  | nil=>simp at h3
  | cons c s=>exact h2' ⟨rfl,by simpa using h3⟩
theorem tok_more (y:Bs) {s r:Bs} {t:Tk} (h:tok s=.ok (t,r)):tok (s++10::y)=.ok (t,r++10::y):=by
 obtain ⟨x,hx,rfl,hl⟩:=Zi1 h
 cases r with
 | cons b q=>rw [List.append_assoc];exact hl (b::q++10::y) (.inr ⟨b,q++10::y,q,rfl,rfl⟩)
 | nil=>
  rw [List.append_nil] at h ⊢
  rw [List.nil_append]
  cases x with
  | nil=>exact absurd rfl hx
  | cons b s=>
   have hnm:=drop_more (lf_head (p:=Zdw) rfl y) s
   have hdg:=drop_more (lf_head (p:=ZcI) rfl y) s
   rw [List.cons_append]
   rw [tok] at h ⊢
   by_cases h1:Ziz b=true
   ·rw [if_pos h1] at h ⊢
    rw [hnm.1,hnm.2]
    simp only [Except.ok.injEq,Prod.mk.injEq] at h
    rw [h.1,h.2];rfl
   ·rw [if_neg h1] at h ⊢
    by_cases h2:ZcI b=true
    ·rw [if_pos h2] at h ⊢
     rw [hdg.1,hdg.2]
     unfold ZdA at h ⊢
     split at h
     ·cases h
     ·rename_i h3
      split at h
      ·cases h
      ·rename_i h4
       simp only [Except.ok.injEq,Prod.mk.injEq] at h
       rw [h.2] at h3 ⊢
       rw [if_neg (by simpa [ZgC,Zdw,Ziz,ZcI] using h3),if_neg h4,← h.1]
       rfl
    ·rw [if_neg h2] at h ⊢
     by_cases h3:(b == 34)=true
     ·rw [if_pos h3] at h ⊢
      cases hq:lit s with
      | none=>rw [hq] at h;cases h
      | some xr=>
       obtain ⟨x,r⟩:=xr
       obtain ⟨p,rfl,h5⟩:=ZrP s.length s (Nat.le_refl _) x r hq
       rw [hq] at h
       unfold ZeN at h
       simp only at h
       split at h
       ·cases h
       ·rename_i h6
        simp only [Except.ok.injEq,Prod.mk.injEq] at h
        obtain ⟨rfl,rfl⟩:=h
        rw [List.append_nil,h5]
        unfold ZeN
        simp only
        rw [if_neg h6]
     ·rw [if_neg h3] at h ⊢
      cases s with
      | nil=>
       rw [Zbm] at h
       by_cases h5:mark1 b=true
       ·rw [if_pos h5] at h
        cases h
        show Zbm b (10::y)=_
        rw [Zbm,if_neg (by rw [Zt4 rfl];decide),if_pos h5]
       ·rw [if_neg h5] at h;cases h
      | cons c s=>
       rw [Zbm] at h
       by_cases h5:mark2 b c=true
       ·rw [if_pos h5] at h
        simp only [Except.ok.injEq,Prod.mk.injEq] at h
        obtain ⟨rfl,rfl⟩:=h
        show Zbm b (c::10::y)=_
        rw [Zbm,if_pos h5]
       ·rw [if_neg h5] at h
        by_cases h6:mark1 b=true
        ·rw [if_pos h6] at h;cases h
        ·rw [if_neg h6] at h;cases h
theorem scan_more (y:Bs):∀(l:List (Tk × Nat)) (s:Bs),scan s=.ok l→scan (s++10::y)=match scan y with
  | .error e=>.error e
  | .ok m=>.ok (l.map (fun t=>(t.1,t.2 + (y.length + 1)))++m)
 | [],s,h=>by
  have hs:=ZpG h
  have e:=skip_more y s
  rw [if_pos hs] at e
  rw [← Zef,e,Zef]
  cases scan y <;> rfl
 | (t,n)::l,s,h=>by
  obtain ⟨r,hn,ht,hr⟩:=ZeQ h
  have hs:skip s≠[]:=by intro e;rw [e] at ht;cases ht
  have e:=skip_more y s
  rw [if_neg hs] at e
  have ih:=scan_more y l r hr
  rw [Zet (t:=t) (r:=r++10::y) (by rw [e];exact tok_more y ht),ih,e]
  cases scan y with
  | error e=>rfl
  | ok m=>simp [hn]
end Go.Proofs.YtaheffiglmglbaaGreatDoor.L7
namespace Go.Proofs.YtaheffiglmglbaaGreatDoor.S8
open Go.Proofs.Tryz
open L7
theorem File.end_ {p:Bool} {e e':Int} {l:List Tok} {c r:List _} (he:∀t∈l,t.2≠e) (h:File p e l (.ok c r)):File p e' l (.ok (c.map (nmap fun a=>if a=e then e' else a)) (tmap (fun a=>if a=e then e' else a) r)):=by
 have h1:=h.map (fun a=>if a=e then e' else a)
 rw [show tmap (fun a=>if a=e then e' else a) l=l from Ztb fun t ht=>if_neg (he t ht)] at h1
 simp only [if_true] at h1
 exact h1
theorem offs_more {n m:Nat} {l:List (Tk × Nat)} (h:∀t∈l,t.2≤n):offs (n + 1 + m) (l.map fun t=>(t.1,t.2 + (m + 1)))=offs n l:=by
 unfold offs
 rw [List.map_map]
 refine List.map_congr_left fun t ht=>?_
 have:=h t ht
 simp only [Function.comp]
 rw [show n + 1 + m - (t.2 + (m + 1))=n - t.2 by omega]
theorem offs_shift {n m:Nat} {l:List (Tk × Nat)} (h:∀t∈l,t.2≤m):offs (n + 1 + m) l=tmap (fun a=>a + ((n:Int) + 1)) (offs m l):=by
 unfold offs tmap
 rw [List.map_map]
 refine List.map_congr_left fun t ht=>?_
 have:=h t ht
 simp only [Function.comp]
 rw [show ((n + 1 + m - t.2:Nat):Int)=((m - t.2:Nat):Int) + ((n:Int) + 1) by omega]
theorem not_head {t:Tk} (ht:okT t=true) (h:¬ Hd t):∀w,heads.contains w=true→isW w t=false:=fun w hw=>by
 cases hx:isW w t with
 | false=>rfl
 | true=>
  exfalso
  unfold isW at hx
  simp only [Bool.or_eq_true,Bool.and_eq_true,beq_iff_eq] at hx
  obtain ⟨hk,rfl⟩:=hx
  rcases hk with hk | hk
  ·have hm:ZdI t.t=true:=by unfold okT at ht;simp [hk] at ht;exact ht.2
   have:∀w,heads.contains w=true→ZdI w=false:=fun w hw=>by
    rw [List.contains_iff_mem] at hw
    simp only [heads,List.mem_cons,List.not_mem_nil,or_false] at hw
    rcases hw with rfl | rfl | rfl | rfl | rfl | rfl | rfl | rfl <;> decide
   rw [this _ hw] at hm;cases hm
  ·exact h ⟨hk,hw⟩
theorem rows_law (s t:Bs) (ha:(pv true s).2.1=0):∃ca,pv true s=(root ca,0,0)∧
  (((pv true t).2.1≠0→(∃l,scan t=.ok l∧∃u,l.head?=some u∧((t.length - u.2:Nat):Int)=(pv true t).2.2)∨((pv true (s++10::t)).2.1=(pv true t).2.1∧(pv true (s++10::t)).2.2=(pv true t).2.2 + ((s.length:Int) + 1)))∧
  ((pv true t).2.1=0→∃cb cc,pv true t=(root cb,0,0)∧pv true (s++10::t)=(root cc,0,0)∧cc.map strip=(ca++cb).map strip)):=by
 obtain ⟨l,ca,h1,h2,h3,h4,-⟩:=ZoN ha codes
 refine ⟨ca,h4,?_⟩
 have hmore:=scan_more t l s h1
 have hlen:(s++10::t).length=s.length + 1 + t.length:=by simp;omega
 have hne:∀u∈offs s.length l,u.2≠(s.length:Int):=fun u hu=>by
  obtain ⟨v,hv,rfl⟩:=List.mem_map.1 hu
  have:=Zgs h1 v hv
  simp only;omega
 have hca:∀(φ:Int→Int),(ca.map (nmap φ)).map strip=ca.map strip:=fun φ=>by
  rw [List.map_map]
  exact List.map_congr_left fun x _=>ZkE φ x
 cases hs:scan t with
 | error x=>
  obtain ⟨e,k⟩:=x
  rw [hs] at hmore
  have hk:=scan_error t.length t (Nat.le_refl _) e k hs
  rw [ZuX hs,ZuX hmore]
  refine ⟨fun _=>.inr ⟨rfl,?_⟩,fun h=>absurd (by simpa using h) (codes e k hs)⟩
  simp only [hlen]
  omega
 | ok m=>
  rw [hs] at hmore
  simp only at hmore
  have hm:∀u∈m,u.2≤t.length:=fun u hu=>(Zgs hs u hu).2
  have hl:∀u∈l,u.2≤s.length:=fun u hu=>(Zgs h1 u hu).2
  have hR:=ZgU true t.length (offs t.length m)
  have hb:=ZjI hs hR
  generalize Zqa true t.length (offs t.length m)=R at hR hb
  have ho:offs (s++10::t).length (l.map (fun u=>(u.1,u.2 + (t.length + 1)))++m)=offs s.length l++tmap (fun a=>a + ((s.length:Int) + 1)) (offs t.length m):=by
   rw [hlen,← offs_shift hm,← offs_more hl]
   exact List.map_append
  have hend:((s++10::t).length:Int)=(t.length:Int) + ((s.length:Int) + 1):=by rw [hlen];omega
  by_cases hd:m=[]
  ·subst hd
   obtain rfl:R=.ok [] []:=hR.unique (File.nil _ _)
   have hF:=File.end_ (e':=((s++10::t).length:Int)) hne h2
   have hc:=ZjI (p:=true) hmore (R:=.ok (ca.map (nmap fun a=>if a=(s.length:Int) then ((s++10::t).length:Int) else a)) []) (by rw [ho];simpa [offs,tmap] using hF)
   have hb0:ZjG (.ok [] [])=(root [],0,0):=rfl
   rw [hb,hb0]
   refine ⟨fun h=>absurd rfl h,fun _=>⟨[],ca.map (nmap fun a=>if a=(s.length:Int) then ((s++10::t).length:Int) else a),rfl,?_,?_⟩⟩
   ·rw [hc,ZjG,Zeg,Zkg,h3];rfl
   ·rw [List.append_nil];exact hca _
  ·obtain ⟨u,m,rfl⟩:=List.exists_cons_of_ne_nil hd
   by_cases hh:Hd u.1
   ·have hF:=File.row (u:=(u.1,((t.length - u.2:Nat):Int) + ((s.length:Int) + 1))) hh h2 (hR.map (fun a=>a + ((s.length:Int) + 1)))
    have hc:=ZjI (p:=true) hmore (R:=pre ca (rmap (fun a=>a + ((s.length:Int) + 1)) (List.map (nmap fun a=>a + ((s.length:Int) + 1))) R)) (by rw [ho,hend];exact hF)
    cases R with
    | out=>exact absurd rfl hR.1
    | err a=>
     refine ⟨fun _=>.inr ?_,fun h=>?_⟩
     ·rw [hb,hc];exact ⟨rfl,rfl⟩
     ·rw [hb] at h;cases h
    | ok cb r=>
     have hc2:ZjG (pre ca (rmap (fun a=>a + ((s.length:Int) + 1)) (List.map (nmap fun a=>a + ((s.length:Int) + 1))) (.ok cb r)))=match deeps 40 1 cb with
      | some a=>(Zfm,10,a + ((s.length:Int) + 1))
      | none=>(root (ca++cb.map (nmap fun a=>a + ((s.length:Int) + 1))),0,0):=by
      simp only [rmap,pre,ZjG,Zeg,deeps_app,h3,Zkg]
      cases deeps 40 1 cb <;> rfl
     have hb2:ZjG (.ok cb r)=match deeps 40 1 cb with
      | some a=>(Zfm,10,a)
      | none=>(root cb,0,0):=by rw [ZjG,Zeg] <;> cases deeps 40 1 cb <;> rfl
     rw [hb,hc,hc2,hb2]
     cases deeps 40 1 cb with
     | some a=>exact ⟨fun _=>.inr ⟨rfl,rfl⟩,fun h=>by cases h⟩
     | none=>
      refine ⟨fun h=>absurd rfl h,fun _=>⟨cb,_,rfl,rfl,?_⟩⟩
      rw [List.map_append,List.map_append,List.map_map]
      congr 1
      exact List.map_congr_left fun x _=>ZkE _ x
   ·have hbad:=File.bad true (e:=(t.length:Int)) (t:=u.1) (a:=((t.length - u.2:Nat):Int)) (r:=offs t.length m) (not_head (ZkN hs u (by simp)) hh)
    obtain rfl:=hR.unique hbad
    refine ⟨fun _=>.inl ⟨_,rfl,u,rfl,?_⟩,fun h=>?_⟩
    ·rw [hb];rfl
    ·rw [hb] at h;cases h
end Go.Proofs.YtaheffiglmglbaaGreatDoor.S8
namespace Go.Proofs.YtaheffiglmglbaaGreatDoor.S8
open Go.Proofs.Tryz
open L7
theorem wts_strip:∀x:Nd,wt (strip x)=wt x:=by
 intro x
 induction x using ZhH with
 | h k t n a c ih=>
  rw [strip,Zg3,Zg3,Zfp]
  congr 1
  clear k t n a
  induction c with
  | nil=>rfl
  | cons y c h2=>rw [List.map_cons,Zbr,Zbr,ih y (by simp),h2 fun z hz=>ih z (by simp [hz])]
end Go.Proofs.YtaheffiglmglbaaGreatDoor.S8
