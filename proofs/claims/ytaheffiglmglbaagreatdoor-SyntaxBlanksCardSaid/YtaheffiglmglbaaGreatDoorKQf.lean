import Derived.Test.YtaheffiglmglbaaGreatDoorKQe
/- Arm, Expr3, Expr4. -/
set_option maxHeartbeats 8000000
set_option maxRecDepth 20000
namespace Go.Proofs.YtaheffiglmglbaaGreatDoor
open Go.Proofs.Tryz
open Go.RowKit L7
open S8 (lim single What)
def OwnX (w:World) (base gn:Nat) (c:List Nd) (s:Value):Prop:=∃xs,w.ownsRow base 24 5 s c.length xs∧s.ownBlock≠some gn∧ZmZ w (fun g=>(base≤g∧g≠gn)∧some g≠s.ownBlock) c xs
section
variable {w w':World} {base gn:Nat} {c:List Nd} {s:Value}
theorem OwnX.own (h:OwnX w base gn c s):OwnRow w base c s:=by
 obtain ⟨xs,h1,-,h2⟩:=h
 exact ⟨xs,h1,ZbB (fun g hg _=>⟨hg.1.1,hg.2⟩) (fun _ _ _=>rfl) h2⟩
theorem OwnX.stay (h:OwnX w base gn c s) (hw:∀g,base≤g→g≠gn→g < w.heap.size→w'.heap[g]?=w.heap[g]?):OwnX w' base gn c s:=by
 obtain ⟨xs,h1,h0,h2⟩:=h
 refine ⟨xs,⟨h1.1,?_⟩,h0,ZbB (fun g hg _=>hg) (fun g hg hlt=>hw g hg.1.1 hg.1.2 hlt) h2⟩
 rcases h1.2 with h | ⟨g,cap,cur,e,hbg,hh,h⟩
 ·exact .inl h
 ·exact .inr ⟨g,cap,cur,e,hbg,(hw g hbg (fun he=>h0 (by rw [e,he];rfl)) (h1.lt g (by rw [e];rfl)).2).trans hh,h⟩
theorem OwnX.grown {b:Nat} (h:OwnX w base gn c s) (k:w.grownBy w' (some b)) (hb:b < base∨b=gn):OwnX w' base gn c s:=
 h.stay fun g hg hn hlt=>k.block g hlt (fun e=>by injection e with e;omega)
theorem OwnX.block (h:OwnX w base gn c s) (hl:base≤w.heap.size) (hg:gn < w.heap.size) (k:w.grownBy w' s.ownBlock):∃g,w.grownBy w' (some g)∧base≤g∧g≠gn:=by
 obtain ⟨xs,h1,h0,-⟩:=h
 cases hs:s.ownBlock with
 | none=>
  rw [hs] at k
  exact ⟨w.heap.size,⟨k.os,k.tape,k.output,k.size,fun i hi _=>k.block i hi (by simp)⟩,hl,by omega⟩
 | some g=>
  rw [hs] at k h0
  exact ⟨g,k,(h1.lt g hs).1,fun e=>h0 (by rw [e])⟩
theorem Zka {w w2 w3:World} {base gn:Nat} {c:List Nd} {u s:Value} {x:Nd} (hu:OwnX w2 base gn c u) (ho:OwnRow w3 w2.heap.size x.c s) (hw:∀g,g < w3.heap.size→w.heap[g]?=w3.heap[g]?) (hb:base≤w2.heap.size∧gn < w2.heap.size):Kid w (fun h=>(base≤h∧h≠gn)∧some h≠u.ownBlock) x s:=
 Zb0 (fun h hh _=>⟨⟨by omega,by omega⟩,fun e=>by have:=(hu.own.lt e.symm).2;omega⟩) (fun g _ hg=>hw g hg) x s (ho.kid x rfl)
end
section
variable {ops:Array Oper} {rest:List Oper} {o:Oper} {a:Act} {w:World} {Q:Exit→Act→World→Prop}
theorem ZgO {base gn g:Nat} {c:List Nd} {x:Nd} {s r:Value} (hown:OwnX w base gn c s) (hI:Is w g 24 #[.int .i64 x.k,.string (mk x.t),.int .i64 x.n,.int .i64 x.a,r]) (hk:Kid w (fun h=>(base≤h∧h≠gn)∧some h≠s.ownBlock) x r) (hlen:c.length≤100000) (hb:base≤w.heap.size∧gn < w.heap.size)
  (hgd:o.guard=none) (p q:Operand) (ho:o.op=.call { callee:=.builtin .append,args:=#[p,q],argTypes:=#[22,22] }) (hs:a.eval p=s) (hx:a.eval q=.slice (some ⟨g,0,none⟩) 1 1)
  (h:∀v' w',OwnX w' base gn (c++[x]) v'→(∃g,w.grownBy w' (some g)∧base≤g∧g≠gn)→wpList prog ops Q rest (a.put o.dst v') w'):wpList prog ops Q (o::rest) a w:=by
 have hblk:=fun (w':World) k=>hown.block (w':=w') hb.1 hb.2 k
 have hn:∀j u,(ndc x r)[j]?=some u→w.cell? ((⟨g,0,none⟩:Addr).add j)=some u:=fun j u hu=>by
  have hj:j < 5:=(List.getElem?_eq_some_iff.1 hu).1
  have:(⟨g,0,none⟩:Addr).add j=⟨g,j,none⟩:=by
   unfold Addr.add;split
   ·rename_i h0;rw [h0]
   ·simp
  rw [this,hI.at_ j]
  simpa [ndc] using hu
 obtain ⟨i,hi,hz,hsz,hby⟩:=Zds
 obtain ⟨xs,h1,h0,h2⟩:=hown
 have hd:=ZfM hk
 refine wpList_plain hgd fun K hK=>?_
 obtain ⟨v',w',hr,h4,h5,-,h6⟩:=run_append_own_at (P:=prog) w base 22 o.type 24 i _ 5 64 underlying22 hi hz hsz hby rfl (by decide) s c.length xs h1 ⟨g,0,none⟩ 1 1 (ndc x r) rfl hn (Zea hd) (by simp only [maxLen];omega) (by omega) hb.1
 have hways:v'.ownBlock=s.ownBlock∨∀g,v'.ownBlock=some g→w.heap.size≤g:=by
  rcases h6 with h6 | h6
  ·exact .inl h6
  ·exact .inr fun g hg=>by rw [h6] at hg;injection hg with hg;omega
 have hY:∀h,((base≤h∧h≠gn)∧some h≠s.ownBlock)→h < w.heap.size→((base≤h∧h≠gn)∧some h≠v'.ownBlock):=fun h hh hlt=>⟨hh.1,fun e=>by
  rcases hways with hw | hw
  ·rw [hw] at e;exact hh.2 e
  ·have:=hw h e.symm;omega⟩
 have hX:OwnX w' base gn (c++[x]) v':=by
  refine ⟨xs++ndc x r,by rw [List.length_append];exact h4,fun e=>?_,ZhG (ZbB hY (fun h hh hlt=>h5.block h hlt hh.2) h2) (ZbB hY (fun h hh hlt=>h5.block h hlt hh.2) hd)⟩
  rcases hways with hw | hw
  ·exact h0 (by rw [← hw,e])
  ·have:=hw gn e;omega
 have hfin:=h v' w' hX (hblk w' h5)
 unfold Oper.wp execOp
 simp only [ho,resolve,invoke,builtin,Sem.run_bind,Sem.run_pure,Result.andThen_ok,List.map_toArray,List.map_cons,List.map_nil,hs,hx,hr]
 exact hK _ _ hfin
end
structure Fx (w:World) (b:Nat) (S:Pg) (g0 gn:Nat) (W:World) (i:Nat) (h:Bool) (k:Int) (t:Bs) (n a:Int) (c:List Nd) (s:Value):Prop where
 laid ::
 ps:Ps W b S i h
 fr:w.grownBy W (some b)
 r0:Is W g0 24 z5
 nd:Is W gn 24 #[.int .i64 k,.string (mk t),.int .i64 n,.int .i64 a,s]
 h0:w.heap.size≤g0
 hn:g0 < gn
 hb:b < w.heap.size
 row:OwnX W (g0 + 1) gn c s
section
variable {w W W':World} {b g0 gn i:Nat} {S:Pg} {h:Bool} {k:Int} {t:Bs} {n a:Int} {c:List Nd} {s:Value}
theorem Fx.size (F:Fx w b S g0 gn W i h k t n a c s):g0 + 1≤W.heap.size∧gn < W.heap.size:=⟨by have:=F.nd.lt;have:=F.hn;omega,F.nd.lt⟩
theorem Fx.call (F:Fx w b S g0 gn W i h k t n a c s) (g:W.grownBy W' (some b)) {j:Nat} {h':Bool} (p:Ps W' b S j h'):Fx w b S g0 gn W' j h' k t n a c s:=
 have h1:=F.h0;have h2:=F.hn;have h3:=F.hb
 ⟨p,Zaa F.fr g (.inl rfl),F.r0.kept g (by simp;omega),F.nd.kept g (by simp;omega),F.h0,F.hn,F.hb,F.row.grown g (by omega)⟩
theorem Fx.look (F:Fx w b S g0 gn W i h k t n a c s) (g:Below W.heap.size W W'):Fx w b S g0 gn W' i h k t n a c s:=
 ⟨F.ps.below g F.ps.lt,Zan F.fr (g.mono F.fr.size),F.r0.below g F.r0.lt,F.nd.below g F.nd.lt,F.h0,F.hn,F.hb,F.row.stay fun i _ _ hi=>g.block i hi⟩
theorem Fx.turn (F:Fx w b S g0 gn W i h k t n a c s) (g:∃g,W.grownBy W' (some g)∧g0 + 1≤g∧g≠gn):Fm w b S g0 gn W' i h k t n a s:=by
 have h1:=F.h0;have h2:=F.hn;have h3:=F.hb
 obtain ⟨g,hg,hg1,hg2⟩:=g
 exact ⟨F.ps.kept hg (by omega),Zaa F.fr hg (.inr fun j e=>by injection e with e;omega),F.r0.kept hg (by simp;omega),F.nd.kept hg (by simp;omega),h1,h2,h3⟩
theorem Fm.putX (F:Fm w b S g0 gn W i h k t n a s) (g:W.grownBy W' (some gn)) {s':Value} {c':List Nd} (hI:Is W' gn 24 #[.int .i64 k,.string (mk t),.int .i64 n,.int .i64 a,s']) (hr:OwnX W (g0 + 1) gn c' s'):Fx w b S g0 gn W' i h k t n a c' s':=
 have h1:=F.h0;have h2:=F.hn;have h3:=F.hb
 ⟨F.ps.kept g (by omega),Zaa F.fr g (.inr fun j e=>by injection e with e;omega),F.r0.kept g (by simp;omega),hI,F.h0,F.hn,F.hb,hr.grown g (.inr rfl)⟩
theorem Fx.start (hp:Ps w b S i h) {W1 W2:World} {j:Nat} {h':Bool} (g:(w.alloc (.cells z5 24)).grownBy W1 (some b)) (p:Ps W1 b S j h') {x:Nd} {r:Value} (ho:OwnRow W1 (w.alloc (.cells z5 24)).heap.size x.c r)
  (hI:Is W2 W1.heap.size 24 #[.int .i64 x.k,.string (mk x.t),.int .i64 x.n,.int .i64 x.a,r]) (k:(W1.alloc (.cells z5 24)).grownBy W2 (some W1.heap.size)):Fx w b S w.heap.size W1.heap.size W2 j h' x.k x.t x.n x.a x.c r:=by
 have hlt:=hp.lt
 have hs:w.heap.size + 1≤W1.heap.size:=by have:=g.size;simpa using this
 have hw1:w.grownBy W1 (some b):=Zaa (Zaj ((Below.refl _ _).alloc (Nat.le_refl _) _)) g (.inl rfl)
 have hst:∀i,i < W1.heap.size→W2.heap[i]?=W1.heap[i]?:=fun i hi=>(k.block i (by simp;omega) (by simp;omega)).trans (Below.heap_alloc W1 _ i hi)
 have ho':=ho.weak (base':=w.heap.size + 1) (by simp)
 refine ⟨(p.alloc _).kept k (by omega),Zaa (Zbl hw1 _) k (.inr fun j e=>by injection e with e;omega),((((Is.fresh w 24 _).kept g (by simp;omega))).alloc _).kept k (by simp;omega),hI,Nat.le_refl _,by omega,hlt,?_⟩
 obtain ⟨xs,h1,h2⟩:=ho'
 refine ⟨xs,⟨h1.1,?_⟩,fun e=>?_,ZbB (fun g hg hl=>⟨⟨hg.1,by omega⟩,hg.2⟩) (fun g hg hl=>hst g hl) h2⟩
 ·rcases h1.2 with h | ⟨g,cap,cur,e,hbg,hh,h⟩
  ·exact .inl h
  ·exact .inr ⟨g,cap,cur,e,hbg,(hst g (h1.lt g (by rw [e];rfl)).2).trans hh,h⟩
 ·have:=(h1.lt _ e).2;omega
theorem Fx.done (F:Fx w b S g0 gn W i h k t n a c s) (g:W.grownBy W' (some g0)):w.grownBy W' (some b)∧Ps W' b S i h∧Own W' w.heap.size (.mk k t n a c) (.agg #[.int .i64 k,.string (mk t),.int .i64 n,.int .i64 a,s]):=
 have h1:=F.h0;have h2:=F.hn;have h3:=F.hb
 ⟨Zaa F.fr g (.inr fun j e=>by injection e with e;omega),F.ps.kept g (by omega),s,rfl,(F.row.own.grown g (by omega)).weak (by omega)⟩
theorem Fx.one (F:Fx w b S g0 gn W i h k t n a c s):s.oneCell'=true:=F.row.own.one
end
section
variable {ops:Array Oper} {rest:List Oper} {o:Oper} {act:Act} {Q:Exit→Act→World→Prop}
variable {w W:World} {b g0 gn i:Nat} {S:Pg} {h:Bool} {k:Int} {t:Bs} {n a:Int} {c:List Nd} {s:Value}
theorem ZoO (F:Fm w b S g0 gn W i h k t n a s) {c':List Nd} {s':Value} (hr:OwnX W (g0 + 1) gn c' s') (hgd:o.guard=none) (x y:Operand) (ho:o.op=.store 22 x y) (hx:act.eval x=.pointer (some ⟨gn,4,none⟩)) (hy:act.eval y=s')
  (hK:∀W',Fx w b S g0 gn W' i h k t n a c' s'→wpList prog ops Q rest (act.put o.dst undef) W'):wpList prog ops Q (o::rest) act W:=
 Zc4 F.nd (j:=4) (show 4 < 5 by decide) hgd 22 x y ho _ hx hy inf22 hr.own.one fun _ h1 h2=>hK _ (F.putX h2 h1 hr)
theorem ZgD (F:Fx w b S g0 gn W i h k t n a c s) (hgd:o.guard=none) (x:Operand) (ho:o.op=.load 24 x) (hx:act.eval x=.pointer (some ⟨gn,0,none⟩))
  (hK:wpList prog ops Q rest (act.put o.dst (.agg (nd5 k t n a s))) W):wpList prog ops Q (o::rest) act W:=
 wpList_load_row hgd 24 x ho gn hx 24 _ (0,0) _ F.nd underlying24 rfl inf24 hK
theorem Zgt (F:Fx w b S g0 gn W i h k t n a c s) (hgd:o.guard=none) (x y:Operand) (ho:o.op=.store 24 x y) (hx:act.eval x=.pointer (some ⟨g0,0,none⟩)) (hy:act.eval y=.agg (nd5 k t n a s))
  (hK:∀W',Is W' g0 24 (nd5 k t n a s)→w.grownBy W' (some b)→Ps W' b S i h→Own W' w.heap.size (.mk k t n a c) (.agg (nd5 k t n a s))→wpList prog ops Q rest (act.put o.dst undef) W'):wpList prog ops Q (o::rest) act W:=
 Zah F.r0 hgd 24 x y ho _ hx hy inf24 rfl (by have h1:=F.one;simp [nd5,h1];exact ⟨rfl,rfl,rfl,rfl⟩) fun _ h1 h2=>hK _ h1 (F.done h2).1 (F.done h2).2.1 (F.done h2).2.2
end
theorem Zje (b:Nat) (S:Pg) (h:Bool) (k a0:Int) (w:World) (i:Nat) (hp:Ps w b S i h) (ha:a0=place S i) :
  Calls prog 267 #[.pointer (some ⟨b,0,none⟩),.int .i64 k] w (Post w b S i h ((Zm0 k a0) S.size (S.toks.drop i)) (ZaO w)):=by
 by_cases hw:Zag S i=S8.ZdF
 ·exact ZnA S.toks.length b S h k a0 w i hp (by omega) ha hw
 ·exact ZpR S.toks.length b S h k a0 w i hp (by omega) ha hw
theorem Zrq (k a0:Int):S8.Con (Zm0 k a0):=S8.Za1 (S8.Zbh S8.Znd) fun _=>S8.Zbg _
theorem Zrp {k a0:Int} {S:Pg} {i:Nat} (hl:S.toks.length≤i):Zm0 k a0 S.size (S.toks.drop i)=.err (place S i):=by
 rw [(Zci hl).1,(Zci hl).2];rfl
theorem ZoE (s:Bs) (wt:What) (e:Int):∀(n:Nat) (l r:List PTok) (c:List Nd),l.length≤n→lim (.seps s wt) e l=.ok c r→c.length≤l.length
 | n,l,r,c,hn,h=>by
  cases hx:single (lim (.one wt)) e l with
  | out=>
   rw [S8.Zbb (nt:=.seps s wt) rfl] at h
   change S8.seps lim s wt e l=_ at h
   unfold S8.seps at h
   rw [S8.Zac,hx] at h;cases h
  | err a=>rw [ZkL hx] at h;cases h
  | ok x r1=>
   rw [Znm hx] at h
   obtain ⟨t,q,hq⟩:=S8.ZaY (S8.Zll (.one wt) rfl) _ _ _ _ hx
   have hl:r1.length + 1≤l.length:=by rw [hq];simp <;> omega
   cases hc:cont s wt e r1 with
   | out=>rw [hc] at h;cases h
   | err a=>rw [hc] at h;cases h
   | ok c1 r2=>
    rw [hc] at h
    have hcc:c=[x]++c1:=by simp only [S8.pre] at h;injection h with h1 h2;exact h1.symm
    have hp:∃d,S8.ZaC S8.mCm e r1=.ok d r1:=by
     cases r1 with
     | nil=>exact ⟨false,rfl⟩
     | cons t r=>exact ⟨_,rfl⟩
    obtain ⟨d,hd⟩:=hp
    have h1:c1.length≤r1.length:=by
     unfold cont at hc
     rw [S8.Zac,hd] at hc
     simp only [S8.Zae] at hc
     cases d with
     | true=>
      simp only [if_true,S8.Zac] at hc
      cases hm:S8.must S8.mCm e r1 with
      | out=>rw [hm] at hc;cases hc
      | err a=>rw [hm] at hc;cases hc
      | ok u r3=>
       rw [hm] at hc
       obtain ⟨t',q',hq'⟩:=S8.Zal _ _ _ _ _ hm
       have hl3:r3.length + 1≤r1.length:=by rw [hq'];simp <;> omega
       have:=ZoE s wt e (n - 1) r3 r2 c1 (by omega) hc
       omega
     | false=>
      simp only [Bool.false_eq_true,if_false,S8.Zac] at hc
      cases hm:S8.must s e r1 with
      | out=>rw [hm] at hc;cases hc
      | err a=>rw [hm] at hc;cases hc
      | ok u r3=>
       rw [hm] at hc
       simp only [S8.Zb5] at hc
       injection hc with h1 h2
       subst h1;simp
    rw [hcc];simp;omega
termination_by _ l=>l.length
theorem Zwm {k a0:Int} {e:Int} {l r:List PTok} {x:Nd} (h:Zm0 k a0 e l=.ok x r):x.c.length≤l.length:=by
 unfold Zm0 at h
 rw [S8.Zac] at h
 cases hq:S8.pattern lim e l with
 | out=>rw [hq] at h;cases h
 | err a=>rw [hq] at h;cases h
 | ok q r1=>
  rw [hq] at h
  simp only [S8.Zb5] at h
  injection h with h1 h2
  subst h1
  show q.2.length≤_
  unfold S8.pattern at hq
  have hp:∀(s:Bs) (r:List PTok),∃d,S8.ZaC s e r=.ok d r:=fun s r=>by
   cases r with
   | nil=>exact ⟨false,rfl⟩
   | cons t r=>exact ⟨_,rfl⟩
  obtain ⟨d,hd⟩:=hp S8.ZdF l
  rw [S8.Zac,hd] at hq
  simp only [S8.Zae] at hq
  cases d with
  | true=>
   simp only [if_true,S8.Zac] at hq
   cases hm:S8.must S8.ZdF e l with
   | out=>rw [hm] at hq;cases hq
   | err a=>rw [hm] at hq;cases hq
   | ok u r3=>rw [hm] at hq;simp only [S8.Zb5] at hq;injection hq with h1 h2;subst h1;simp
  | false=>
   simp only [Bool.false_eq_true,if_false,S8.Zac] at hq
   cases hm:S8.up e l with
   | out=>rw [hm] at hq;cases hq
   | err a=>rw [hm] at hq;cases hq
   | ok u r3=>
    rw [hm] at hq
    obtain ⟨t',q',hq'⟩:=S8.Zbj _ _ _ _ hm
    have hl3:r3.length + 1≤l.length:=by rw [hq'];simp <;> omega
    obtain ⟨d,hd⟩:=hp S8.mLp r3
    simp only [hd,S8.Zae] at hq
    cases d with
    | true=>
     simp only [if_true,S8.Zac] at hq
     unfold S8.some1 at hq
     rw [S8.Zac] at hq
     cases hm:S8.must S8.mLp e r3 with
     | out=>rw [hm] at hq;cases hq
     | err a=>rw [hm] at hq;cases hq
     | ok u r4=>
      rw [hm] at hq
      simp only at hq
      obtain ⟨t',q',hq'⟩:=S8.Zal _ _ _ _ _ hm
      have hl4:r4.length + 1≤r3.length:=by rw [hq'];simp <;> omega
      cases hs:lim (.seps S8.mRp .bind) e r4 with
      | out=>rw [hs] at hq;cases hq
      | err a=>rw [hs] at hq;cases hq
      | ok c r5=>
       rw [hs] at hq
       simp only [S8.Zb5] at hq
       injection hq with h1 h2
       subst h1
       have:=ZoE _ _ e r4.length r4 r5 c (Nat.le_refl _) hs
       show c.length≤_
       omega
    | false=>
     simp only [Bool.false_eq_true,if_false,S8.Zb5] at hq
     injection hq with h1 h2;subst h1;simp
theorem Zl9 {k a0:Int} {w:World} {b:Nat} {S:Pg} {i j:Nat} {h:Bool} {x:Nd} (p:Ps w b S i h) (e:Zm0 k a0 S.size (S.toks.drop i)=.ok x (S.toks.drop j)):x.c.length≤100000:=by
 have h1:=Zwm e
 have h2:=p.env.num
 simp only [List.length_drop] at h1
 omega
theorem Zxc (N b:Nat) (S:Pg) (HE:∀h,Does N 138 b S h (single (lim (.expr h)))) (w:World) (i:Nat) (hp:Ps w b S i false) (hN:S.toks.length≤N + i) :
  Calls prog 244 #[.pointer (some ⟨b,0,none⟩)] w (Post w b S i false (single (lim (.one .arm)) S.size (S.toks.drop i)) (ZaO w)):=by
 have HM:Hid (∀R,(do let x ← Zm0 39 (place S i);let _ ← S8.must S8.Zjg;let y ← single (lim (.expr false));pure (.mk x.k x.t x.n x.a (x.c++[y])):S8.P Nd) S.size (S.toks.drop i)=R→single (lim (.one .arm)) S.size (S.toks.drop i)=R):=hid (by
  intro R h1
  rw [Zdl,← h1]
  show S8.arm lim S.size (S.toks.drop i)=_
  unfold S8.arm
  have hpe:=fun hl=>Zrp (k:=39) (a0:=place S i) (S:=S) (i:=i) hl
  unfold Zm0 at hpe ⊢
  simp only [S8.Zac] at hpe
  refine ZaN ?_ (fun hl=>?_)
  ·simp only [S8.Zac]
   cases S8.pattern lim S.size (S.toks.drop i) with
   | out=>rfl
   | err a=>rfl
   | ok q r=>rfl
  ·have h2:=hpe hl
   simp only [S8.Zac]
   cases hq:S8.pattern lim S.size (S.toks.drop i) with
   | out=>rw [hq] at h2;cases h2
   | err a=>rw [hq] at h2;exact h2
   | ok q r=>rw [hq] at h2;cases h2)
 have HC:=hid (HE false)
 clear HE
 have HP:=hid hp
 obtain ⟨pl,hpl⟩:∃pl,pl=place S i:=⟨_,rfl⟩
 have B0:=Zje b S false 39 pl _ i (hp.alloc (.cells z5 24)) hpl
 rw [← hpl] at HM
 have hle:=hp.le
 clear hp hpl
 go_enter func244,ntmps244
 go_wp2_with (first
  | (go_at_call 267;(with_reducible refine B0.mono ?_);rintro e w1 h1;rcases h1.ways with ⟨a,j,h',e1,rfl,g,p,rfl⟩ | ⟨x,j1,v,e1,rfl,g,hj1,p,r1,rfl,ho⟩;exact ⟨rfl,Post.err (HM.out _ (by simp only [S8.Zac,e1])) (Zaa (Zaj ((Below.refl _ _).alloc (Nat.le_refl _) _)) g (.inl rfl)) p⟩;have F1:=hid (And.intro g (And.intro p ho));have E1:=hid e1;have hl1:=ZaT (Zrq _ _) e1;clear h1 e1 g p ho B0)
  | (refine Zah (g:=w1.heap.size) (t:=24) (old:=z5) (by exact Is.fresh w1 24 _) rfl 24 _ _ rfl (nd5 x.k x.t x.n x.a r1) rfl rfl inf24 rfl (by have h1:=F1.out.2.2.one;simp [nd5,h1];exact ⟨rfl,rfl,rfl,rfl⟩) ?_;intro w2 h1 h2;have F2:=hid (Fx.start HP.out F1.out.1 F1.out.2.1 F1.out.2.2 h1 h2);clear h1 h2;have C1:Calls prog 119 #[.pointer (some ⟨b,0,none⟩),.string ⟨#[61,62]⟩] _ (Post _ b S j1 false (S8.must S8.Zjg S.size (S.toks.drop j1)) fun _ v _=>v=.tuple #[]):=Zbd b S j1 false _ F2.out.ps ⟨#[61,62]⟩ (by decide))
  | (go_at_call 119;(with_reducible refine C1.mono ?_);rintro e w3 h1;rcases h1.ways with ⟨a,j,h',e1,rfl,g,p,rfl⟩ | ⟨u3,j3,v,e1,rfl,g,hj3,p,rfl⟩;exact ⟨rfl,Post.err (HM.out _ (by simp only [S8.Zac,E1.out,e1])) (Zaa F2.out.fr g (.inl rfl)) p⟩;have F3:=hid (F2.out.call g p);have E3:=hid e1;have hl3:=ZaT (S8.Zal _) e1;clear h1 e1 g p C1))
 have U9:=F3.out.nd.at_ 4
 refine r2 (fun W=>W.cell? ⟨w1.heap.size,4,none⟩=some (r1)) (fun j=>decide (j < 6)) [0,1,2] [3,4,5,6,7] U9 ?_
 refine fs (.pointer (some ⟨w1.heap.size,4,none⟩)) rfl ?_
 refine fs (r1) rfl ?_
 refine fs (.pointer (some ⟨b,0,none⟩)) rfl ?_
 refine Zap ?_
 clear U9
 have F4:=hid (F3.out.look (Below.refl _ _).drew)
 have C2:=HC.out _ j3 F4.out.ps (by omega)
 refine cs rfl fun K9 HK9=>?_
 go_wp2_with (go_at_call 138;(with_reducible refine C2.mono ?_);rintro e w5 h1;rcases h1.ways with ⟨a,j,h',e1,rfl,g,p,rfl⟩ | ⟨y,j5,v,e1,rfl,g,hj5,p,r5,rfl,ho⟩;exact ⟨rfl,Post.err (HM.out _ (by simp only [S8.Zac,E1.out,E3.out,e1])) (Zaa F4.out.fr g (.inl rfl)) p⟩;have F5:=hid (And.intro (F4.out.call g p) ho);have E5:=hid e1;clear h1 e1 g p ho C2)
 refine HK9.out _ _ (fun _=>F5.out.1.nd.at_ 4) ?_
 refine cs rfl fun K9 HK9=>?_
 go_wp2_with fail
 have F6:=hid (F5.out.1.look ((Below.refl _ _).alloc (Nat.le_refl _) (.cells (nd5 y.k y.t y.n y.a r5) 24)))
 have HI6:=hid (Is.fresh w5 24 (nd5 y.k y.t y.n y.a r5))
 refine HK9.out _ _ (fun _=>F6.out.nd.at_ 4) ?_
 refine cs rfl fun K9 HK9=>?_
 refine ZgO (base:=w.heap.size + 1) (g:=w5.heap.size) (x:=y) (r:=r5) F6.out.row HI6.out ?kid ?len ?hb rfl (.tmp 9) (.tmp 12) rfl rfl rfl ?_
 case kid=>exact Zka F4.out.row F5.out.2 (fun g hg=>Below.heap_alloc w5 _ g hg) F4.out.size
 case len=>exact Zl9 HP.out E1.out
 case hb=>exact F6.out.size
 intro v7 w7 h1 h2
 have F7:=hid (And.intro (F6.out.turn h2) h1)
 clear h1 h2
 refine HK9.out _ _ (fun _=>F7.out.1.nd.at_ 4) ?_
 refine cs rfl fun K9 HK9=>?_
 go_wp2_with fail
 refine HK9.out _ _ (fun h=>by cases h) ?_
 refine cs rfl fun K9 HK9=>?_
 refine ZoO F7.out.1 F7.out.2 rfl _ _ rfl rfl rfl ?_
 intro w8 h1
 have F8:=hid h1
 clear h1
 refine HK9.out _ _ (fun h=>by cases h) ?_
 refine Zam ?_
 go_wp2_with (first
  | (refine ZgD F8.out rfl _ rfl rfl ?_)
  | (refine Zgt F8.out rfl _ _ rfl rfl rfl ?_;intro w9 h1 h2 h3 h4;have F9:=hid (And.intro h1 (And.intro h2 (And.intro h3 h4)));clear h1 h2 h3 h4))
 refine ret24 results244 F9.out.1
  (Post.ok (j:=j5) (HM.out _ (by (try simp only [S8.Zac,E1.out,E3.out,E5.out]);rfl)) F9.out.2.1 F9.out.2.2.1 (by omega) F9.out.2.2.2)
theorem Ztw (N b:Nat) (S:Pg) (HB:Does N 247 b S false (S8.block lim)) (w:World) (i:Nat) (hp:Ps w b S i false) (hN:S.toks.length≤N + i) :
  Calls prog 305 #[.pointer (some ⟨b,0,none⟩)] w (Post w b S i false (single (lim (.one .sarm)) S.size (S.toks.drop i)) (ZaO w)):=by
 have HM:Hid (∀R,(do let x ← Zm0 54 (place S i);let y ← S8.block lim;pure (.mk x.k x.t x.n x.a (x.c++[y])):S8.P Nd) S.size (S.toks.drop i)=R→single (lim (.one .sarm)) S.size (S.toks.drop i)=R):=hid (by
  intro R h1
  rw [Zdl,← h1]
  show S8.sarm lim S.size (S.toks.drop i)=_
  unfold S8.sarm
  have hpe:=fun hl=>Zrp (k:=54) (a0:=place S i) (S:=S) (i:=i) hl
  unfold Zm0 at hpe ⊢
  simp only [S8.Zac] at hpe
  refine ZaN ?_ (fun hl=>?_)
  ·simp only [S8.Zac]
   cases S8.pattern lim S.size (S.toks.drop i) with
   | out=>rfl
   | err a=>rfl
   | ok q r=>rfl
  ·have h2:=hpe hl
   simp only [S8.Zac]
   cases hq:S8.pattern lim S.size (S.toks.drop i) with
   | out=>rw [hq] at h2;cases h2
   | err a=>rw [hq] at h2;exact h2
   | ok q r=>rw [hq] at h2;cases h2)
 have HC:=hid HB
 clear HB
 have HP:=hid hp
 obtain ⟨pl,hpl⟩:∃pl,pl=place S i:=⟨_,rfl⟩
 have B0:=Zje b S false 54 pl _ i (hp.alloc (.cells z5 24)) hpl
 rw [← hpl] at HM
 have hle:=hp.le
 clear hp hpl
 go_enter func305,ntmps305
 go_wp2_with (first
  | (go_at_call 267;(with_reducible refine B0.mono ?_);rintro e w1 h1;rcases h1.ways with ⟨a,j,h',e1,rfl,g,p,rfl⟩ | ⟨x,j1,v,e1,rfl,g,hj1,p,r1,rfl,ho⟩;exact ⟨rfl,Post.err (HM.out _ (by simp only [S8.Zac,e1])) (Zaa (Zaj ((Below.refl _ _).alloc (Nat.le_refl _) _)) g (.inl rfl)) p⟩;have F1:=hid (And.intro g (And.intro p ho));have E1:=hid e1;have hl1:=ZaT (Zrq _ _) e1;clear h1 e1 g p ho B0)
  | (refine Zah (g:=w1.heap.size) (t:=24) (old:=z5) (by exact Is.fresh w1 24 _) rfl 24 _ _ rfl (nd5 x.k x.t x.n x.a r1) rfl rfl inf24 rfl (by have h1:=F1.out.2.2.one;simp [nd5,h1];exact ⟨rfl,rfl,rfl,rfl⟩) ?_;intro w2 h1 h2;have F2:=hid (Fx.start HP.out F1.out.1 F1.out.2.1 F1.out.2.2 h1 h2);clear h1 h2))
 have U9:=F2.out.nd.at_ 4
 refine r2 (fun W=>W.cell? ⟨w1.heap.size,4,none⟩=some (r1)) (fun j=>decide (j < 6)) [0,1,2] [3,4,5,6,7] U9 ?_
 refine fs (.pointer (some ⟨w1.heap.size,4,none⟩)) rfl ?_
 refine fs (r1) rfl ?_
 refine fs (.pointer (some ⟨b,0,none⟩)) rfl ?_
 refine Zap ?_
 clear U9
 have F3:=hid (F2.out.look (Below.refl _ _).drew)
 have C1:=HC.out _ j1 F3.out.ps (by omega)
 refine cs rfl fun K9 HK9=>?_
 go_wp2_with (go_at_call 247;(with_reducible refine C1.mono ?_);rintro e w4 h1;rcases h1.ways with ⟨a,j,h',e1,rfl,g,p,rfl⟩ | ⟨y,j4,v,e1,rfl,g,hj4,p,r4,rfl,ho⟩;exact ⟨rfl,Post.err (HM.out _ (by simp only [S8.Zac,E1.out,e1])) (Zaa F3.out.fr g (.inl rfl)) p⟩;have F4:=hid (And.intro (F3.out.call g p) ho);have E4:=hid e1;clear h1 e1 g p ho C1)
 refine HK9.out _ _ (fun _=>F4.out.1.nd.at_ 4) ?_
 refine cs rfl fun K9 HK9=>?_
 go_wp2_with fail
 have F5:=hid (F4.out.1.look ((Below.refl _ _).alloc (Nat.le_refl _) (.cells (nd5 y.k y.t y.n y.a r4) 24)))
 have HI5:=hid (Is.fresh w4 24 (nd5 y.k y.t y.n y.a r4))
 refine HK9.out _ _ (fun _=>F5.out.nd.at_ 4) ?_
 refine cs rfl fun K9 HK9=>?_
 refine ZgO (base:=w.heap.size + 1) (g:=w4.heap.size) (x:=y) (r:=r4) F5.out.row HI5.out ?kid ?len ?hb rfl (.tmp 7) (.tmp 10) rfl rfl rfl ?_
 case kid=>exact Zka F3.out.row F4.out.2 (fun g hg=>Below.heap_alloc w4 _ g hg) F3.out.size
 case len=>exact Zl9 HP.out E1.out
 case hb=>exact F5.out.size
 intro v6 w6 h1 h2
 have F6:=hid (And.intro (F5.out.turn h2) h1)
 clear h1 h2
 refine HK9.out _ _ (fun _=>F6.out.1.nd.at_ 4) ?_
 refine cs rfl fun K9 HK9=>?_
 go_wp2_with fail
 refine HK9.out _ _ (fun h=>by cases h) ?_
 refine cs rfl fun K9 HK9=>?_
 refine ZoO F6.out.1 F6.out.2 rfl _ _ rfl rfl rfl ?_
 intro w7 h1
 have F7:=hid h1
 clear h1
 refine HK9.out _ _ (fun h=>by cases h) ?_
 refine Zam ?_
 go_wp2_with (first
  | (refine ZgD F7.out rfl _ rfl rfl ?_)
  | (refine Zgt F7.out rfl _ _ rfl rfl rfl ?_;intro w8 h1 h2 h3 h4;have F8:=hid (And.intro h1 (And.intro h2 (And.intro h3 h4)));clear h1 h2 h3 h4))
 refine ret24 results305 F8.out.1
  (Post.ok (j:=j4) (HM.out _ (by (try simp only [S8.Zac,E1.out,E4.out]);rfl)) F8.out.2.1 F8.out.2.2.1 (by omega) F8.out.2.2.2)
open Go.RowKit L7
open S8 (lim single What)
theorem ent244 (args:Array Value) (w:World):(callFunc 244 args).run prog w=.ok (.enter 244 args) w:=by kernel_rfl
theorem ent187 (args:Array Value) (w:World):(callFunc 187 args).run prog w=.ok (.enter 187 args) w:=by kernel_rfl
theorem Zk3 (N b:Nat) (S:Pg) (h:Bool) (HE:∀h,Does N 138 b S h (single (lim (.expr h)))) (HA:Does N 244 b S false (single (lim (.one .arm)))) (w:World) (i:Nat) (hp:Ps w b S i h) (hN:S.toks.length≤N + i) (hw:Zag S i=S8.ZbR) :
  Calls prog 201 #[.pointer (some ⟨b,0,none⟩)] w (Post w b S i h (single (lim (.expr h)) S.size (S.toks.drop i)) (ZaO w)):=by
 have HM:Hid (∀R,(do let x ← single (lim (.expr true));let l ← S8.some1 lim S8.mLb .arm S8.mRb;pure (.mk 38 [] 0 (place S i) (x::l)):S8.P Nd) S.size (S.toks.drop (i + 1))=R→single (lim (.expr h)) S.size (S.toks.drop i)=R):=hid (by
  intro R h1
  rw [ZhO,← h1]
  show S8.expr lim h S.size (S.toks.drop i)=_
  unfold S8.expr
  refine ZaN ?_ (fun hl=>absurd (ZaL (S:=S) (i:=i) (by rw [hw];decide)) (by omega))
  simp (decide:=true) only [S8.Zac,S8.Zae,Zaf S i (show S8.Zfl≠[] by decide),Zaf S i (show S8.wIf≠[] by decide),Zaf S i (show S8.ZbR≠[] by decide),hw,if_true,if_false,Zay S i (show S8.ZbR≠[] by decide)])
 have HC:=hid (ZiO N b S h HE)
 have HAr:=hid HA
 clear HE HA
 have HP:=hid hp
 have HW:=hid hw
 clear hw
 have B0:=ZaH b S i h _ (hp.alloc (.cells z5 24)) 38
 obtain ⟨pl,hpl⟩:∃pl,pl=place S i:=⟨_,rfl⟩
 rw [← hpl] at HM B0
 have HPL:=hid hpl
 have hle:=hp.le
 clear hp hpl
 go_enter func201,ntmps201
 go_wp2_with (first
  | (go_at_call 123;(with_reducible refine B0.mono ?_);rintro e w1 ⟨rfl,h1⟩;have F1:=hid (Fn.start HP.out h1 38 0 pl);clear h1;have C1:=Za6 b S i h _ F1.out.ps ⟨#[109,97,116,99,104]⟩ HW.out (by decide))
  | (go_at_call 119;(with_reducible refine C1.mono ?_);rintro e w2 ⟨rfl,p,g⟩;have F2:=hid (F1.out.call g p);clear g p C1;have C2:=HC.out _ (i + 1) F2.out.ps (by omega))
  | (go_at_call 243;(with_reducible refine C2.mono ?_);rintro e w3 h1;rcases h1.ways with ⟨a,j,h',e1,rfl,g,p,rfl⟩ | ⟨x,j3,v,e1,rfl,g,hj3,p,r3,rfl,ho⟩;exact ⟨rfl,Post.err (HM.out _ (by simp only [S8.Zac,e1])) (Zaa F2.out.fr g (.inl rfl)) p⟩;have F3:=hid (And.intro (F2.out.call g p) ho);have G3:=hid (F2.out.single g p ho);have E3:=hid e1;clear h1 e1 g p ho C2)
  | (refine Za7 G3.out.1 G3.out.2 rfl _ _ rfl rfl rfl ?_;intro w4 h1;have F4:=hid h1;clear h1))
 have U9:=F4.out.nd.at_ 4
 refine r2 (fun W=>W.cell? ⟨w1.heap.size,4,none⟩=some (.slice (some ⟨w3.heap.size,0,none⟩) 1 1)) (fun j=>decide (j < 7)) [0,1,2,3,4] [5,6,7,8] U9 ?_
 refine fs (.pointer (some ⟨w1.heap.size,4,none⟩)) rfl ?_
 refine fs (.slice (some ⟨w3.heap.size,0,none⟩) 1 1) rfl ?_
 refine fs (.pointer (some ⟨b,0,none⟩)) rfl ?_
 refine fs (.pointer (some ⟨b,0,none⟩)) rfl ?_
 refine Zab (.func (.func 244) #[.pointer (some ⟨b,0,none⟩)] #[]) rfl (by rfl) (fun W hS=>by first | (go_simp;done) | (simp [execOp,Instr.makeFunc,go_sem,Act.put];done)) ?_
 refine Zap ?_
 clear U9
 have F5:=hid (F4.out.look (Below.refl _ _).drew)
 have C3:=show Calls prog 134 #[.pointer (some ⟨b,0,none⟩),.string ⟨#[123]⟩,.func (.func 244) #[.pointer (some ⟨b,0,none⟩)] #[],.string ⟨#[125]⟩] _ (Post _ b S j3 h (S8.some1 lim S8.mLb .arm S8.mRb S.size (S.toks.drop j3)) (Zim _)) from Ze2 N 244 b S .arm ent244 HAr.out h _ j3 F5.out.ps (by omega) ⟨#[123]⟩ ⟨#[125]⟩ (by decide) (by decide)
 refine cs rfl fun K9 HK9=>?_
 go_wp2_with (go_at_call 134;(with_reducible refine C3.mono ?_);rintro e w6 h1;rcases h1.ways with ⟨a,j,h',e1,rfl,g,p,rfl⟩ | ⟨l,j6,v6,e1,rfl,g,hj6,p,ho,hc6⟩;exact ⟨rfl,Post.err (HM.out _ (by simp only [S8.Zac,E3.out,e1])) (Zaa F5.out.fr g (.inl rfl)) p⟩;have F6:=hid (F5.out.call g p);have G6:=hid ho;have E6:=hid e1;clear h1 e1 g p ho C3)
 refine HK9.out _ _ (fun _=>F6.out.nd.at_ 4) ?_
 refine cs rfl fun K9 HK9=>?_
 refine Ze4 (base:=w1.heap.size + 1) F6.out.row G6.out ?le ?lt ?len ?hb rfl (.tmp 13) (.tmp 17) rfl rfl rfl ?_
 case le=>exact F5.out.size
 case lt=>exact fun g hg=>(F5.out.row.lt hg).2
 case len=>simp;omega
 case hb=>exact F6.out.size
 intro v7 w7 h1 h2
 have F7:=hid (And.intro (F6.out.turn h2) h1)
 clear h1 h2
 refine HK9.out _ _ (fun _=>F7.out.1.nd.at_ 4) ?_
 refine cs rfl fun K9 HK9=>?_
 go_wp2_with fail
 refine HK9.out _ _ (fun h=>by cases h) ?_
 refine cs rfl fun K9 HK9=>?_
 refine ZbX F7.out.1 F7.out.2 rfl _ _ rfl rfl rfl ?_
 intro w8 h1
 have F8:=hid h1
 clear h1
 refine HK9.out _ _ (fun h=>by cases h) ?_
 refine Zam ?_
 go_wp2_with (first
  | (refine Zax F8.out rfl _ rfl rfl ?_)
  | (refine Zaw F8.out rfl _ _ rfl rfl rfl ?_;intro w9 h1 h2 h3 h4;have F9:=hid (And.intro h1 (And.intro h2 (And.intro h3 h4)));clear h1 h2 h3 h4))
 refine ret24 results201 F9.out.1
  (Post.ok (j:=j6) (HM.out _ (by (try simp only [S8.Zac,E3.out,E6.out]);rfl)) F9.out.2.1 F9.out.2.2.1 (by omega) F9.out.2.2.2)
open Go.RowKit L7
open S8 (lim single What)
theorem ZoY (x:Nd):S8.Nd.mk x.k x.t x.n x.a x.c=x:=by cases x;rfl
noncomputable def Zmc (a:Int):S8.P Nd:=do
 let _ ← S8.must S8.mLp
 if ← S8.ZaC S8.mRp then do
  let _ ← S8.must S8.mRp
  pure (.mk 23 [] 0 a [])
 else do
  let x ← single (lim (.expr false))
  let _ ← S8.must S8.mRp
  pure x
noncomputable def Zkd (a:Int):S8.P Nd:=do
 if ← S8.ZaC S8.ZfJ then do
  let _ ← S8.must S8.ZfJ
  pure (.mk 22 [] 1 a [])
 else if ← S8.ZaC S8.Zdy then do
  let _ ← S8.must S8.Zdy
  pure (.mk 22 [] 0 a [])
 else if ← S8.ZaC S8.ZeX then do
  let _ ← S8.must S8.ZeX
  pure (.mk 25 [] 0 a [])
 else if ← S8.ZaC S8.mLk then do
  let l ← S8.list lim S8.mLk .expr S8.mRk
  pure (.mk 26 [] 0 a l)
 else Zmc a
noncomputable def ZmR (h:Bool) (a:Int):S8.P Nd:=do
 let t ← S8.up
 if ← S8.ZaC S8.mLp then do
  let l ← S8.some1 lim S8.mLp .expr S8.mRp
  pure (.mk 29 t 0 a l)
 else if ← S8.ZaC S8.mLb then do
  if h then pure (.mk 29 t 0 a [])
  else do
   let l ← S8.list lim S8.mLb .set S8.mRb
   pure (.mk 27 t 0 a l)
 else pure (.mk 29 t 0 a [])
def Zps (w:World) (b:Nat) (S:Pg) (i:Nat) (h h':Bool) (s:Bs) (v:Value) (e:Ending) (w':World):Prop:=
 w.grownBy w' (some b)∧((S8.must s S.size (S.toks.drop i)=.err (place S i)∧e=.panicked pan∧Ps w' b S i h)∨(S8.must s S.size (S.toks.drop i)=.ok (ZaK S i) (S.toks.drop (i + 1))∧e=.returned v∧Ps w' b S (i + 1) h'∧i < S.toks.length))
section
variable (b:Nat) (S:Pg) (i:Nat) (h:Bool) (w:World) (hp:Ps w b S i h) (s:ByteArray) (hs:ls s≠[])
include hp hs
theorem ZtT:Calls prog 195 #[.pointer (some ⟨b,0,none⟩),.string s] w (Zps w b S i h false (ls s) (.bool h)):=by
 by_cases hw:Zag S i=ls s
 ·exact (Zk0 b S i h w hp s hw hs).mono fun e w' hh=>⟨hh.2.2,.inr ⟨by rw [Zay S i hs,if_pos hw],hh.1,hh.2.1,ZaL (by rw [hw];exact hs)⟩⟩
 ·exact (ZnE b S i h w hp s hw).mono fun e w' hh=>⟨hh.2.2,.inl ⟨by rw [Zay S i hs,if_neg hw],hh.1,hh.2.1⟩⟩
theorem ZmS (h':Bool):Calls prog 197 #[.pointer (some ⟨b,0,none⟩),.string s,.bool h'] w (Zps w b S i h h' (ls s) (.tuple #[])):=by
 by_cases hw:Zag S i=ls s
 ·exact (ZjD b S i h w hp s h' hw hs).mono fun e w' hh=>⟨hh.2.2,.inr ⟨by rw [Zay S i hs,if_pos hw],hh.1,hh.2.1,ZaL (by rw [hw];exact hs)⟩⟩
 ·exact (Zlp b S i h w hp s h' hw).mono fun e w' hh=>⟨hh.2.2,.inl ⟨by rw [Zay S i hs,if_neg hw],hh.1,hh.2.1⟩⟩
end
theorem Fn.hand {w W W' W0:World} {b g0 gn i:Nat} {S:Pg} {h:Bool} {k:Int} {t:Bs} {n a:Int} {c:List Nd} {s:Value} {x:Nd} {r:Value} (F:Fn w b S g0 gn W i h k t n a c s) (ho:OwnRow W W0.heap.size x.c r) (hb:gn + 1≤W0.heap.size) (g:W.grownBy W' (some g0)) :
  w.grownBy W' (some b)∧Ps W' b S i h∧Own W' w.heap.size x (.agg #[.int .i64 x.k,.string (mk x.t),.int .i64 x.n,.int .i64 x.a,r]):=
 have h1:=F.h0;have h2:=F.hn;have h3:=F.hb
 ⟨Zaa F.fr g (.inr fun j e=>by injection e with e;omega),F.ps.kept g (by omega),r,rfl,(ho.grown g (by omega)).weak (by omega)⟩
theorem Zrw (N b:Nat) (S:Pg) (h:Bool) (a0:Int) (HE:∀h,Does N 138 b S h (single (lim (.expr h)))) (w:World) (i:Nat) (hp:Ps w b S i h) (hN:S.toks.length≤N + i) (ha:a0=place S i) :
  Calls prog 306 #[.pointer (some ⟨b,0,none⟩)] w (Post w b S i h ((Zmc a0) S.size (S.toks.drop i)) (ZaO w)):=by
 have HM:Hid (∀R,(do let _ ← S8.must S8.mLp;if ← S8.ZaC S8.mRp then do { let _ ← S8.must S8.mRp;pure (.mk 23 [] 0 a0 []) } else do { let x ← single (lim (.expr false));let _ ← S8.must S8.mRp;pure x } : S8.P Nd) S.size (S.toks.drop i)=R→(Zmc a0) S.size (S.toks.drop i)=R):=hid (by
  intro R h1
  exact h1
)
 have HC:=hid (HE false)
 clear HE
 have HP:=hid hp
 have B0:=ZaH b S i h _ (hp.alloc (.cells z5 24)) 23
 rw [← ha] at B0
 have HPL:=hid ha
 have hle:=hp.le
 clear hp ha
 go_enter func306,ntmps306
 go_wp2_with (first
  | (go_at_call 123;(with_reducible refine B0.mono ?_);rintro e w1 ⟨rfl,h1⟩;have F1:=hid (Fn.start HP.out h1 23 0 a0);clear h1;have C1:=ZtT b S i h _ F1.out.ps ⟨#[40]⟩ (by decide))
  | (go_at_call 195;(with_reducible refine C1.mono ?_);rintro e w2 ⟨g,⟨e1,rfl,p⟩ | ⟨e1,rfl,p,hl2⟩⟩;exact ⟨rfl,Post.err (HM.out _ (by simp only [S8.Zac,(show S8.must S8.mLp S.size (S.toks.drop i)=.err (place S i) from e1)])) (Zaa F1.out.fr g (.inl rfl)) p⟩;have F2:=hid (F1.out.call g p);have E2:Hid (S8.must S8.mLp S.size (S.toks.drop i)=.ok (ZaK S i) (S.toks.drop (i + 1))):=hid e1;clear e1 g p C1))
 by_cases hz2:Zag S (i + 1)=S8.mRp
 ·have EP2:Hid (S8.ZaC S8.mRp S.size (S.toks.drop (i + 1))=.ok true (S.toks.drop (i + 1))):=hid (by rw [Zaf S (i + 1) (by decide),hz2];rfl)
  have C2:=Zau b S (i + 1) false _ F2.out.ps
  rw [hz2] at C2
  replace C2:Calls prog 60 #[.pointer (some ⟨b,0,none⟩)] _ fun e w'=>e=.returned (.string ⟨#[41]⟩)∧Below (World.heap _).size _ w':=C2
  have HZ2:=hid hz2
  clear hz2
  go_wp2_with (first
   | (go_at_call 60;(with_reducible refine C2.mono ?_);rintro e w3 ⟨rfl,h1⟩;have F3:=hid (F2.out.look h1);clear h1 C2;have C3:=ZmS b S (i + 1) false _ F3.out.ps ⟨#[41]⟩ (by decide) h)
   | (go_at_call 197;(with_reducible refine C3.mono ?_);rintro e w4 ⟨g,⟨e1,rfl,p⟩ | ⟨e1,rfl,p,hl4⟩⟩;exact ⟨rfl,Post.err (HM.out _ (by simp only [S8.Zac,S8.Zae,if_true,E2.out,EP2.out,(show S8.must S8.mRp S.size (S.toks.drop (i + 1))=.err (place S (i + 1)) from e1)])) (Zaa F3.out.fr g (.inl rfl)) p⟩;have F4:=hid (F3.out.call g p);have E4:Hid (S8.must S8.mRp S.size (S.toks.drop (i + 1))=.ok (ZaK S (i + 1)) (S.toks.drop ((i + 1) + 1))):=hid e1;clear e1 g p C3)
   | (refine Zax F4.out rfl _ rfl rfl ?_)
   | (refine Zaw F4.out rfl _ _ rfl rfl rfl ?_;intro w5 h1 h2 h3 h4;have F5:=hid (And.intro h1 (And.intro h2 (And.intro h3 h4)));clear h1 h2 h3 h4))
  refine ret24 results306 F5.out.1
   (Post.ok (j:=((i + 1) + 1)) (HM.out _ (by (try simp only [S8.Zac,S8.Zae,if_true,E2.out,EP2.out,E4.out]);rfl)) F5.out.2.1 F5.out.2.2.1 (by omega) F5.out.2.2.2)
 ·have EP2:Hid (S8.ZaC S8.mRp S.size (S.toks.drop (i + 1))=.ok false (S.toks.drop (i + 1))):=hid (by rw [Zaf S (i + 1) (by decide),decide_eq_false hz2])
  have C2:=Zau b S (i + 1) false _ F2.out.ps
  obtain ⟨u2,hu⟩:∃u,u=mk (Zag S (i + 1)):=⟨_,rfl⟩
  rw [← hu] at C2
  have n2:(u2.toList == [41])=false:=by rw [hu,Zas,Zbc];exact beq_eq_false_iff_ne.2 hz2
  clear hu
  have HZ2:=hid hz2
  clear hz2
  have m0:(u2.toList != [41])=true:=by rw [bne,n2];rfl
  go_wp2_with (first
   | (go_at_call 60;(with_reducible refine C2.mono ?_);rintro e w3 ⟨rfl,h1⟩;have F3:=hid (F2.out.look h1);clear h1 C2;have C3:=HC.out _ (i + 1) F3.out.ps (by omega))
   | (go_at_call 138;(with_reducible refine C3.mono ?_);rintro e w4 h1;rcases h1.ways with ⟨a,j,h',e1,rfl,g,p,rfl⟩ | ⟨x,j4,v,e1,rfl,g,hj4,p,r4,rfl,ho⟩;exact ⟨rfl,Post.err (HM.out _ (by simp only [S8.Zac,S8.Zae,if_false,Bool.false_eq_true,E2.out,EP2.out,e1])) (Zaa F3.out.fr g (.inl rfl)) p⟩;have F4:=hid (And.intro (F3.out.call g p) ho);have E4:=hid e1;clear h1 e1 g p ho C3)
   | (refine Zah F4.out.1.nd rfl 24 _ _ rfl (nd5 x.k x.t x.n x.a r4) rfl rfl inf24 rfl (by have h1:=F4.out.2.one;simp [nd5,h1];exact ⟨rfl,rfl,rfl,rfl⟩) ?_;intro w5 h1 h2;have F5:=hid (F4.out.1.put h2 h1 (F4.out.2.weak F3.out.size));clear h1 h2;have C4:=ZmS b S j4 false _ F5.out.ps ⟨#[41]⟩ (by decide) h)
   | (go_at_call 197;(with_reducible refine C4.mono ?_);rintro e w6 ⟨g,⟨e1,rfl,p⟩ | ⟨e1,rfl,p,hl6⟩⟩;exact ⟨rfl,Post.err (HM.out _ (by simp only [S8.Zac,S8.Zae,if_false,Bool.false_eq_true,E2.out,EP2.out,E4.out,(show S8.must S8.mRp S.size (S.toks.drop j4)=.err (place S j4) from e1)])) (Zaa F5.out.fr g (.inl rfl)) p⟩;have F6:=hid (F5.out.call g p);have E6:Hid (S8.must S8.mRp S.size (S.toks.drop j4)=.ok (ZaK S j4) (S.toks.drop (j4 + 1))):=hid e1;clear e1 g p C4)
   | (refine Zax F6.out rfl _ rfl rfl ?_)
   | (refine Zaw F6.out rfl _ _ rfl rfl rfl ?_;intro w7 h1 h2 h3 h4;have F7:=hid (And.intro h1 (And.intro h2 (And.intro h3 h4)));clear h1 h2 h3 h4))
  refine ret24 results306 F7.out.1
   (Post.ok (j:=(j4 + 1)) (HM.out _ (by (try simp only [S8.Zac,S8.Zae,if_false,Bool.false_eq_true,E2.out,EP2.out,E4.out,E6.out]);rw [ZoY];rfl)) F7.out.2.1 F7.out.2.2.1 (by omega) F7.out.2.2.2)
theorem ZmG (N b:Nat) (S:Pg) (h:Bool) (a0:Int) (HE:∀h,Does N 138 b S h (single (lim (.expr h)))) (w:World) (i:Nat) (hp:Ps w b S i h) (hN:S.toks.length≤N + i) (ha:a0=place S i) :
  Calls prog 304 #[.pointer (some ⟨b,0,none⟩)] w (Post w b S i h ((Zkd a0) S.size (S.toks.drop i)) (ZaO w)):=by
 have HM:Hid (∀R,(do if ← S8.ZaC S8.ZfJ then do { let _ ← S8.must S8.ZfJ;pure (.mk 22 [] 1 a0 []) } else if ← S8.ZaC S8.Zdy then do { let _ ← S8.must S8.Zdy;pure (.mk 22 [] 0 a0 []) } else if ← S8.ZaC S8.ZeX then do { let _ ← S8.must S8.ZeX;pure (.mk 25 [] 0 a0 []) } else if ← S8.ZaC S8.mLk then do { let l ← S8.list lim S8.mLk .expr S8.mRk;pure (.mk 26 [] 0 a0 l) } else Zmc a0:S8.P Nd) S.size (S.toks.drop i)=R→(Zkd a0) S.size (S.toks.drop i)=R):=hid (by
  intro R h1
  exact h1
)
 have HC1:Hid (Does N 138 b S false (single (lim (.one .expr)))):=hid (by rw [Zfc];exact HE false)
 have HPa:=hid (fun w i p hN ha=>Zrw N b S h a0 HE w i p hN ha)
 have HA:=hid ha
 clear HE
 have HP:=hid hp
 have B0:=ZaH b S i h _ (hp.alloc (.cells z5 24)) 22
 rw [← ha] at B0
 have HPL:=hid ha
 have hle:=hp.le
 clear hp ha
 go_enter func304,ntmps304
 go_wp2_with (first
  | (go_at_call 123;(with_reducible refine B0.mono ?_);rintro e w1 ⟨rfl,h1⟩;have F1:=hid (Fn.start HP.out h1 22 0 a0);clear h1))
 by_cases hz1:Zag S i=S8.ZfJ
 ·have EP1:Hid (S8.ZaC S8.ZfJ S.size (S.toks.drop i)=.ok true (S.toks.drop i)):=hid (by rw [Zaf S i (by decide),decide_eq_true hz1])
  have hls1:=ZaL (S:=S) (i:=i) (by rw [hz1];decide)
  have EM1:Hid (S8.must S8.ZfJ S.size (S.toks.drop i)=.ok (ZaK S i) (S.toks.drop (i + 1))):=hid (by rw [Zay S i (by decide),if_pos hz1])
  have C1:=ZcR b S i h _ F1.out.ps ⟨#[116,114,117,101]⟩ hz1 (by decide)
  clear hz1
  go_wp2_with (first
   | (go_at_call 186;(with_reducible refine C1.mono ?_);rintro e w2 ⟨rfl,p,g⟩;have F2:=hid (F1.out.call g p);clear g p C1)
   | (refine Zh4 F2.out 1 rfl _ _ rfl rfl rfl ?_;intro w3 h1;have F3:=hid h1;clear h1)
   | (refine Zax F3.out rfl _ rfl rfl ?_)
   | (refine Zaw F3.out rfl _ _ rfl rfl rfl ?_;intro w4 h1 h2 h3 h4;have F4:=hid (And.intro h1 (And.intro h2 (And.intro h3 h4)));clear h1 h2 h3 h4))
  refine ret24 results304 F4.out.1
   (Post.ok (j:=(i + 1)) (HM.out _ (by (try simp only [S8.Zac,S8.Zae,if_true,EP1.out,EM1.out]);rfl)) F4.out.2.1 F4.out.2.2.1 (by omega) F4.out.2.2.2)
 ·have EP1:Hid (S8.ZaC S8.ZfJ S.size (S.toks.drop i)=.ok false (S.toks.drop i)):=hid (by rw [Zaf S i (by decide),decide_eq_false hz1])
  have C1:=ZdC b S i h _ F1.out.ps ⟨#[116,114,117,101]⟩ hz1
  clear hz1
  go_wp2_with (first
   | (go_at_call 186;(with_reducible refine C1.mono ?_);rintro e w2 ⟨rfl,p,g⟩;have F2:=hid (F1.out.call g p);clear g p C1))
  by_cases hz2:Zag S i=S8.Zdy
  ·have EP2:Hid (S8.ZaC S8.Zdy S.size (S.toks.drop i)=.ok true (S.toks.drop i)):=hid (by rw [Zaf S i (by decide),decide_eq_true hz2])
   have hls2:=ZaL (S:=S) (i:=i) (by rw [hz2];decide)
   have EM2:Hid (S8.must S8.Zdy S.size (S.toks.drop i)=.ok (ZaK S i) (S.toks.drop (i + 1))):=hid (by rw [Zay S i (by decide),if_pos hz2])
   have C2:=ZcR b S i h _ F2.out.ps ⟨#[102,97,108,115,101]⟩ hz2 (by decide)
   clear hz2
   go_wp2_with (first
    | (go_at_call 186;(with_reducible refine C2.mono ?_);rintro e w3 ⟨rfl,p,g⟩;have F3:=hid (F2.out.call g p);clear g p C2)
    | (refine Zax F3.out rfl _ rfl rfl ?_)
    | (refine Zaw F3.out rfl _ _ rfl rfl rfl ?_;intro w4 h1 h2 h3 h4;have F4:=hid (And.intro h1 (And.intro h2 (And.intro h3 h4)));clear h1 h2 h3 h4))
   refine ret24 results304 F4.out.1
    (Post.ok (j:=(i + 1)) (HM.out _ (by (try simp only [S8.Zac,S8.Zae,if_true,if_false,Bool.false_eq_true,EP1.out,EP2.out,EM2.out]);rfl)) F4.out.2.1 F4.out.2.2.1 (by omega) F4.out.2.2.2)
  ·have EP2:Hid (S8.ZaC S8.Zdy S.size (S.toks.drop i)=.ok false (S.toks.drop i)):=hid (by rw [Zaf S i (by decide),decide_eq_false hz2])
   have C2:=ZdC b S i h _ F2.out.ps ⟨#[102,97,108,115,101]⟩ hz2
   clear hz2
   go_wp2_with (first
    | (go_at_call 186;(with_reducible refine C2.mono ?_);rintro e w3 ⟨rfl,p,g⟩;have F3:=hid (F2.out.call g p);clear g p C2))
   by_cases hz3:Zag S i=S8.ZeX
   ·have EP3:Hid (S8.ZaC S8.ZeX S.size (S.toks.drop i)=.ok true (S.toks.drop i)):=hid (by rw [Zaf S i (by decide),decide_eq_true hz3])
    have hls3:=ZaL (S:=S) (i:=i) (by rw [hz3];decide)
    have EM3:Hid (S8.must S8.ZeX S.size (S.toks.drop i)=.ok (ZaK S i) (S.toks.drop (i + 1))):=hid (by rw [Zay S i (by decide),if_pos hz3])
    have C3:=ZcR b S i h _ F3.out.ps ⟨#[115,101,108,102]⟩ hz3 (by decide)
    clear hz3
    go_wp2_with (first
     | (go_at_call 186;(with_reducible refine C3.mono ?_);rintro e w4 ⟨rfl,p,g⟩;have F4:=hid (F3.out.call g p);clear g p C3)
     | (refine ZkW F4.out 25 rfl _ _ rfl rfl rfl ?_;intro w5 h1;have F5:=hid h1;clear h1)
     | (refine Zax F5.out rfl _ rfl rfl ?_)
     | (refine Zaw F5.out rfl _ _ rfl rfl rfl ?_;intro w6 h1 h2 h3 h4;have F6:=hid (And.intro h1 (And.intro h2 (And.intro h3 h4)));clear h1 h2 h3 h4))
    refine ret24 results304 F6.out.1
     (Post.ok (j:=(i + 1)) (HM.out _ (by (try simp only [S8.Zac,S8.Zae,if_true,if_false,Bool.false_eq_true,EP1.out,EP2.out,EP3.out,EM3.out]);rfl)) F6.out.2.1 F6.out.2.2.1 (by omega) F6.out.2.2.2)
   ·have EP3:Hid (S8.ZaC S8.ZeX S.size (S.toks.drop i)=.ok false (S.toks.drop i)):=hid (by rw [Zaf S i (by decide),decide_eq_false hz3])
    have C3:=ZdC b S i h _ F3.out.ps ⟨#[115,101,108,102]⟩ hz3
    clear hz3
    go_wp2_with (first
     | (go_at_call 186;(with_reducible refine C3.mono ?_);rintro e w4 ⟨rfl,p,g⟩;have F4:=hid (F3.out.call g p);clear g p C3))
    by_cases hz4:Zag S i=S8.mLk
    ·have EP4:Hid (S8.ZaC S8.mLk S.size (S.toks.drop i)=.ok true (S.toks.drop i)):=hid (by rw [Zaf S i (by decide),hz4];rfl)
     have C4:=Zau b S i h _ F4.out.ps
     rw [hz4] at C4
     replace C4:Calls prog 60 #[.pointer (some ⟨b,0,none⟩)] _ fun e w'=>e=.returned (.string ⟨#[91]⟩)∧Below (World.heap _).size _ w':=C4
     have HZ4:=hid hz4
     clear hz4
     go_wp2_with (first
      | (go_at_call 60;(with_reducible refine C4.mono ?_);rintro e w5 ⟨rfl,h1⟩;have F5:=hid (F4.out.look h1);clear h1 C4)
      | (refine ZkW F5.out 26 rfl _ _ rfl rfl rfl ?_;intro w6 h1;have F6:=hid h1;clear h1;have C5:=show Calls prog 132 #[.pointer (some ⟨b,0,none⟩),.string ⟨#[91]⟩,.func (.func 138) #[.pointer (some ⟨b,0,none⟩)] #[],.string ⟨#[93]⟩] _ (Post _ b S i h (S8.list lim S8.mLk .expr S8.mRk S.size (S.toks.drop i)) (Zim _)) from Ze8 N 138 b S .expr ent138 HC1.out h _ i F6.out.ps (by omega) ⟨#[91]⟩ ⟨#[93]⟩ (by decide) (by decide))
      | (go_at_call 132;(with_reducible refine C5.mono ?_);rintro e w7 h1;rcases h1.ways with ⟨a,j,h',e1,rfl,g,p,rfl⟩ | ⟨l,j7,v7,e1,rfl,g,hj7,p,ho,hc7⟩;exact ⟨rfl,Post.err (HM.out _ (by simp only [S8.Zac,S8.Zae,if_true,if_false,Bool.false_eq_true,EP1.out,EP2.out,EP3.out,EP4.out,e1])) (Zaa F6.out.fr g (.inl rfl)) p⟩;have F7:=hid (F6.out.call g p);have G7:=hid ho;have E7:=hid e1;have Q7:=hid g.size;clear h1 e1 g p ho C5)
      | (refine Za7 F7.out (G7.out.weak F6.out.size) rfl _ _ rfl rfl rfl ?_;intro w8 h1;have F8:=hid h1;clear h1)
      | (refine Zax F8.out rfl _ rfl rfl ?_)
      | (refine Zaw F8.out rfl _ _ rfl rfl rfl ?_;intro w9 h1 h2 h3 h4;have F9:=hid (And.intro h1 (And.intro h2 (And.intro h3 h4)));clear h1 h2 h3 h4))
     refine ret24 results304 F9.out.1
      (Post.ok (j:=j7) (HM.out _ (by (try simp only [S8.Zac,S8.Zae,if_true,if_false,Bool.false_eq_true,EP1.out,EP2.out,EP3.out,EP4.out,E7.out]);rfl)) F9.out.2.1 F9.out.2.2.1 (by omega) F9.out.2.2.2)
    ·have EP4:Hid (S8.ZaC S8.mLk S.size (S.toks.drop i)=.ok false (S.toks.drop i)):=hid (by rw [Zaf S i (by decide),decide_eq_false hz4])
     have C4:=Zau b S i h _ F4.out.ps
     obtain ⟨u4,hu⟩:∃u,u=mk (Zag S i):=⟨_,rfl⟩
     rw [← hu] at C4
     have n4:(u4.toList == [91])=false:=by rw [hu,Zas,Zbc];exact beq_eq_false_iff_ne.2 hz4
     clear hu
     have HZ4:=hid hz4
     clear hz4
     go_wp2_with (first
      | (go_at_call 60;(with_reducible refine C4.mono ?_);rintro e w5 ⟨rfl,h1⟩;have F5:=hid (F4.out.look h1);clear h1 C4;have C5:=HPa.out _ i F5.out.ps hN HA.out)
      | (go_at_call 306;(with_reducible refine C5.mono ?_);rintro e w6 h1;rcases h1.ways with ⟨a,j,h',e1,rfl,g,p,rfl⟩ | ⟨x,j6,v,e1,rfl,g,hj6,p,r6,rfl,ho⟩;exact ⟨rfl,Post.err (HM.out _ (by simp only [S8.Zac,S8.Zae,if_false,Bool.false_eq_true,EP1.out,EP2.out,EP3.out,EP4.out,e1])) (Zaa F5.out.fr g (.inl rfl)) p⟩;have F6:=hid (And.intro (F5.out.call g p) ho);have E6:=hid e1;clear h1 e1 g p ho C5)
      | (refine Zah F6.out.1.r0 rfl 24 _ _ rfl (nd5 x.k x.t x.n x.a r6) rfl rfl inf24 rfl (by have h1:=F6.out.2.one;simp [nd5,h1];exact ⟨rfl,rfl,rfl,rfl⟩) ?_;intro w7 h1 h2;have F7:=hid (And.intro h1 (F6.out.1.hand F6.out.2 F5.out.size h2));clear h1 h2))
     refine ret24 results304 F7.out.1
      (Post.ok (j:=j6) (HM.out _ (by (try simp only [S8.Zac,S8.Zae,if_false,Bool.false_eq_true,EP1.out,EP2.out,EP3.out,EP4.out,E6.out]);try rfl)) F7.out.2.1 F7.out.2.2.1 (by omega) F7.out.2.2.2)
theorem Zsv (N b:Nat) (S:Pg) (a0:Int) (HE:∀h,Does N 138 b S h (single (lim (.expr h)))) (w:World) (i:Nat) (hp:Ps w b S i true) (hN:S.toks.length≤N + i) (ha:a0=place S i) :
  Calls prog 303 #[.pointer (some ⟨b,0,none⟩)] w (Post w b S i true ((ZmR true a0) S.size (S.toks.drop i)) (ZaO w)):=by
 have HM:Hid (∀R,(do let t ← S8.up;if ← S8.ZaC S8.mLp then do { let l ← S8.some1 lim S8.mLp .expr S8.mRp;pure (.mk 29 t 0 a0 l) } else if ← S8.ZaC S8.mLb then do { if true then pure (.mk 29 t 0 a0 []) else do { let l ← S8.list lim S8.mLb .set S8.mRb;pure (.mk 27 t 0 a0 l) } } else pure (.mk 29 t 0 a0 []):S8.P Nd) S.size (S.toks.drop i)=R→(ZmR true a0) S.size (S.toks.drop i)=R):=hid (by
  intro R h1
  exact h1
)
 have HC1:Hid (Does N 138 b S false (single (lim (.one .expr)))):=hid (by rw [Zfc];exact HE false)
 have HS:=hid (ZiD N b S HE)
 have HA:=hid ha
 clear HE
 have HP:=hid hp
 have B0:=ZaH b S i true _ (hp.alloc (.cells z5 24)) 29
 rw [← ha] at B0
 have HPL:=hid ha
 have hle:=hp.le
 clear hp ha
 go_enter func303,ntmps303
 go_wp2_with (first
  | (go_at_call 123;(with_reducible refine B0.mono ?_);rintro e w1 ⟨rfl,h1⟩;have F1:=hid (Fn.start HP.out h1 29 0 a0);clear h1;have C1:=ZbO b S i true _ F1.out.ps)
  | (go_at_call 124;(with_reducible refine C1.mono ?_);rintro e w2 h1;rcases h1.ways with ⟨a,j,h',e1,rfl,g,p,rfl⟩ | ⟨t,j2,v,e1,rfl,g,hj2,p,rfl⟩;exact ⟨rfl,Post.err (HM.out _ (by simp only [S8.Zac,if_true,e1])) (Zaa F1.out.fr g (.inl rfl)) p⟩;have F2:=hid (F1.out.call g p);have E2:=hid e1;have hl2:=ZaT S8.Zbj e1;clear h1 e1 g p C1)
  | (refine Zbk F2.out t rfl _ _ rfl rfl rfl ?_;intro w3 h1;have F3:=hid h1;clear h1))
 by_cases hz3:Zag S j2=S8.mLp
 ·have EP3:Hid (S8.ZaC S8.mLp S.size (S.toks.drop j2)=.ok true (S.toks.drop j2)):=hid (by rw [Zaf S j2 (by decide),hz3];rfl)
  have C2:=Zau b S j2 true _ F3.out.ps
  rw [hz3] at C2
  replace C2:Calls prog 60 #[.pointer (some ⟨b,0,none⟩)] _ fun e w'=>e=.returned (.string ⟨#[40]⟩)∧Below (World.heap _).size _ w':=C2
  have HZ3:=hid hz3
  clear hz3
  go_wp2_with (first
   | (go_at_call 60;(with_reducible refine C2.mono ?_);rintro e w4 ⟨rfl,h1⟩;have F4:=hid (F3.out.look h1);clear h1 C2;have C3:=show Calls prog 134 #[.pointer (some ⟨b,0,none⟩),.string ⟨#[40]⟩,.func (.func 138) #[.pointer (some ⟨b,0,none⟩)] #[],.string ⟨#[41]⟩] _ (Post _ b S j2 true (S8.some1 lim S8.mLp .expr S8.mRp S.size (S.toks.drop j2)) (Zim _)) from Ze2 N 138 b S .expr ent138 HC1.out true _ j2 F4.out.ps (by omega) ⟨#[40]⟩ ⟨#[41]⟩ (by decide) (by decide))
   | (go_at_call 134;(with_reducible refine C3.mono ?_);rintro e w5 h1;rcases h1.ways with ⟨a,j,h',e1,rfl,g,p,rfl⟩ | ⟨l,j5,v5,e1,rfl,g,hj5,p,ho,hc5⟩;exact ⟨rfl,Post.err (HM.out _ (by simp only [S8.Zac,S8.Zae,if_true,E2.out,EP3.out,e1])) (Zaa F4.out.fr g (.inl rfl)) p⟩;have F5:=hid (F4.out.call g p);have G5:=hid ho;have E5:=hid e1;have Q5:=hid g.size;clear h1 e1 g p ho C3)
   | (refine Za7 F5.out (G5.out.weak F4.out.size) rfl _ _ rfl rfl rfl ?_;intro w6 h1;have F6:=hid h1;clear h1)
   | (refine Zax F6.out rfl _ rfl rfl ?_)
   | (refine Zaw F6.out rfl _ _ rfl rfl rfl ?_;intro w7 h1 h2 h3 h4;have F7:=hid (And.intro h1 (And.intro h2 (And.intro h3 h4)));clear h1 h2 h3 h4))
  refine ret24 results303 F7.out.1
   (Post.ok (j:=j5) (HM.out _ (by (try simp only [S8.Zac,S8.Zae,if_true,E2.out,EP3.out,E5.out]);rfl)) F7.out.2.1 F7.out.2.2.1 (by omega) F7.out.2.2.2)
 ·have EP3:Hid (S8.ZaC S8.mLp S.size (S.toks.drop j2)=.ok false (S.toks.drop j2)):=hid (by rw [Zaf S j2 (by decide),decide_eq_false hz3])
  have C2:=Zau b S j2 true _ F3.out.ps
  obtain ⟨u3,hu⟩:∃u,u=mk (Zag S j2):=⟨_,rfl⟩
  rw [← hu] at C2
  have n3:(u3.toList == [40])=false:=by rw [hu,Zas,Zbc];exact beq_eq_false_iff_ne.2 hz3
  clear hu
  have HZ3:=hid hz3
  clear hz3
  go_wp2_with (first
   | (go_at_call 60;(with_reducible refine C2.mono ?_);rintro e w4 ⟨rfl,h1⟩;have F4:=hid (F3.out.look h1);clear h1 C2))
  by_cases hz4:Zag S j2=S8.mLb
  ·have EP4:Hid (S8.ZaC S8.mLb S.size (S.toks.drop j2)=.ok true (S.toks.drop j2)):=hid (by rw [Zaf S j2 (by decide),hz4];rfl)
   have C3:=Zau b S j2 true _ F4.out.ps
   rw [hz4] at C3
   replace C3:Calls prog 60 #[.pointer (some ⟨b,0,none⟩)] _ fun e w'=>e=.returned (.string ⟨#[123]⟩)∧Below (World.heap _).size _ w':=C3
   have HZ4:=hid hz4
   clear hz4
   go_wp2_with (first
    | (go_at_call 60;(with_reducible refine C3.mono ?_);rintro e w5 ⟨rfl,h1⟩;have F5:=hid (F4.out.look h1);clear h1 C3;have c4:World.cell? w5 ⟨b,4,none⟩=some (.bool true):=F5.out.ps.is.at_ 4;have z4:=F5.out.ps.is.open_ 4)
    | (refine Zax F5.out rfl _ rfl rfl ?_)
    | (refine Zaw F5.out rfl _ _ rfl rfl rfl ?_;intro w6 h1 h2 h3 h4;have F6:=hid (And.intro h1 (And.intro h2 (And.intro h3 h4)));clear h1 h2 h3 h4))
   refine ret24 results303 F6.out.1
    (Post.ok (j:=j2) (HM.out _ (by (try simp only [S8.Zac,S8.Zae,if_true,if_false,Bool.false_eq_true,E2.out,EP3.out,EP4.out]);rfl)) F6.out.2.1 F6.out.2.2.1 (by omega) F6.out.2.2.2)
  ·have EP4:Hid (S8.ZaC S8.mLb S.size (S.toks.drop j2)=.ok false (S.toks.drop j2)):=hid (by rw [Zaf S j2 (by decide),decide_eq_false hz4])
   have C3:=Zau b S j2 true _ F4.out.ps
   obtain ⟨u4,hu⟩:∃u,u=mk (Zag S j2):=⟨_,rfl⟩
   rw [← hu] at C3
   have n4:(u4.toList == [123])=false:=by rw [hu,Zas,Zbc];exact beq_eq_false_iff_ne.2 hz4
   clear hu
   have HZ4:=hid hz4
   clear hz4
   go_wp2_with (first
    | (go_at_call 60;(with_reducible refine C3.mono ?_);rintro e w5 ⟨rfl,h1⟩;have F5:=hid (F4.out.look h1);clear h1 C3)
    | (refine Zax F5.out rfl _ rfl rfl ?_)
    | (refine Zaw F5.out rfl _ _ rfl rfl rfl ?_;intro w6 h1 h2 h3 h4;have F6:=hid (And.intro h1 (And.intro h2 (And.intro h3 h4)));clear h1 h2 h3 h4))
   refine ret24 results303 F6.out.1
    (Post.ok (j:=j2) (HM.out _ (by (try simp only [S8.Zac,S8.Zae,if_true,if_false,Bool.false_eq_true,E2.out,EP3.out,EP4.out]);rfl)) F6.out.2.1 F6.out.2.2.1 (by omega) F6.out.2.2.2)
theorem Zqi (N b:Nat) (S:Pg) (a0:Int) (HE:∀h,Does N 138 b S h (single (lim (.expr h)))) (w:World) (i:Nat) (hp:Ps w b S i false) (hN:S.toks.length≤N + i) (ha:a0=place S i) :
  Calls prog 303 #[.pointer (some ⟨b,0,none⟩)] w (Post w b S i false ((ZmR false a0) S.size (S.toks.drop i)) (ZaO w)):=by
 have HM:Hid (∀R,(do let t ← S8.up;if ← S8.ZaC S8.mLp then do { let l ← S8.some1 lim S8.mLp .expr S8.mRp;pure (.mk 29 t 0 a0 l) } else if ← S8.ZaC S8.mLb then do { if false then pure (.mk 29 t 0 a0 []) else do { let l ← S8.list lim S8.mLb .set S8.mRb;pure (.mk 27 t 0 a0 l) } } else pure (.mk 29 t 0 a0 []):S8.P Nd) S.size (S.toks.drop i)=R→(ZmR false a0) S.size (S.toks.drop i)=R):=hid (by
  intro R h1
  exact h1
)
 have HC1:Hid (Does N 138 b S false (single (lim (.one .expr)))):=hid (by rw [Zfc];exact HE false)
 have HS:=hid (ZiD N b S HE)
 have HA:=hid ha
 clear HE
 have HP:=hid hp
 have B0:=ZaH b S i false _ (hp.alloc (.cells z5 24)) 29
 rw [← ha] at B0
 have HPL:=hid ha
 have hle:=hp.le
 clear hp ha
 go_enter func303,ntmps303
 go_wp2_with (first
  | (go_at_call 123;(with_reducible refine B0.mono ?_);rintro e w1 ⟨rfl,h1⟩;have F1:=hid (Fn.start HP.out h1 29 0 a0);clear h1;have C1:=ZbO b S i false _ F1.out.ps)
  | (go_at_call 124;(with_reducible refine C1.mono ?_);rintro e w2 h1;rcases h1.ways with ⟨a,j,h',e1,rfl,g,p,rfl⟩ | ⟨t,j2,v,e1,rfl,g,hj2,p,rfl⟩;exact ⟨rfl,Post.err (HM.out _ (by simp only [S8.Zac,if_false,Bool.false_eq_true,e1])) (Zaa F1.out.fr g (.inl rfl)) p⟩;have F2:=hid (F1.out.call g p);have E2:=hid e1;have hl2:=ZaT S8.Zbj e1;clear h1 e1 g p C1)
  | (refine Zbk F2.out t rfl _ _ rfl rfl rfl ?_;intro w3 h1;have F3:=hid h1;clear h1))
 by_cases hz3:Zag S j2=S8.mLp
 ·have EP3:Hid (S8.ZaC S8.mLp S.size (S.toks.drop j2)=.ok true (S.toks.drop j2)):=hid (by rw [Zaf S j2 (by decide),hz3];rfl)
  have C2:=Zau b S j2 false _ F3.out.ps
  rw [hz3] at C2
  replace C2:Calls prog 60 #[.pointer (some ⟨b,0,none⟩)] _ fun e w'=>e=.returned (.string ⟨#[40]⟩)∧Below (World.heap _).size _ w':=C2
  have HZ3:=hid hz3
  clear hz3
  go_wp2_with (first
   | (go_at_call 60;(with_reducible refine C2.mono ?_);rintro e w4 ⟨rfl,h1⟩;have F4:=hid (F3.out.look h1);clear h1 C2;have C3:=show Calls prog 134 #[.pointer (some ⟨b,0,none⟩),.string ⟨#[40]⟩,.func (.func 138) #[.pointer (some ⟨b,0,none⟩)] #[],.string ⟨#[41]⟩] _ (Post _ b S j2 false (S8.some1 lim S8.mLp .expr S8.mRp S.size (S.toks.drop j2)) (Zim _)) from Ze2 N 138 b S .expr ent138 HC1.out false _ j2 F4.out.ps (by omega) ⟨#[40]⟩ ⟨#[41]⟩ (by decide) (by decide))
   | (go_at_call 134;(with_reducible refine C3.mono ?_);rintro e w5 h1;rcases h1.ways with ⟨a,j,h',e1,rfl,g,p,rfl⟩ | ⟨l,j5,v5,e1,rfl,g,hj5,p,ho,hc5⟩;exact ⟨rfl,Post.err (HM.out _ (by simp only [S8.Zac,S8.Zae,if_true,if_false,Bool.false_eq_true,E2.out,EP3.out,e1])) (Zaa F4.out.fr g (.inl rfl)) p⟩;have F5:=hid (F4.out.call g p);have G5:=hid ho;have E5:=hid e1;have Q5:=hid g.size;clear h1 e1 g p ho C3)
   | (refine Za7 F5.out (G5.out.weak F4.out.size) rfl _ _ rfl rfl rfl ?_;intro w6 h1;have F6:=hid h1;clear h1)
   | (refine Zax F6.out rfl _ rfl rfl ?_)
   | (refine Zaw F6.out rfl _ _ rfl rfl rfl ?_;intro w7 h1 h2 h3 h4;have F7:=hid (And.intro h1 (And.intro h2 (And.intro h3 h4)));clear h1 h2 h3 h4))
  refine ret24 results303 F7.out.1
   (Post.ok (j:=j5) (HM.out _ (by (try simp only [S8.Zac,S8.Zae,if_true,if_false,Bool.false_eq_true,E2.out,EP3.out,E5.out]);rfl)) F7.out.2.1 F7.out.2.2.1 (by omega) F7.out.2.2.2)
 ·have EP3:Hid (S8.ZaC S8.mLp S.size (S.toks.drop j2)=.ok false (S.toks.drop j2)):=hid (by rw [Zaf S j2 (by decide),decide_eq_false hz3])
  have C2:=Zau b S j2 false _ F3.out.ps
  obtain ⟨u3,hu⟩:∃u,u=mk (Zag S j2):=⟨_,rfl⟩
  rw [← hu] at C2
  have n3:(u3.toList == [40])=false:=by rw [hu,Zas,Zbc];exact beq_eq_false_iff_ne.2 hz3
  clear hu
  have HZ3:=hid hz3
  clear hz3
  go_wp2_with (first
   | (go_at_call 60;(with_reducible refine C2.mono ?_);rintro e w4 ⟨rfl,h1⟩;have F4:=hid (F3.out.look h1);clear h1 C2))
  by_cases hz4:Zag S j2=S8.mLb
  ·have EP4:Hid (S8.ZaC S8.mLb S.size (S.toks.drop j2)=.ok true (S.toks.drop j2)):=hid (by rw [Zaf S j2 (by decide),hz4];rfl)
   have C3:=Zau b S j2 false _ F4.out.ps
   rw [hz4] at C3
   replace C3:Calls prog 60 #[.pointer (some ⟨b,0,none⟩)] _ fun e w'=>e=.returned (.string ⟨#[123]⟩)∧Below (World.heap _).size _ w':=C3
   have HZ4:=hid hz4
   clear hz4
   go_wp2_with (first
    | (go_at_call 60;(with_reducible refine C3.mono ?_);rintro e w5 ⟨rfl,h1⟩;have F5:=hid (F4.out.look h1);clear h1 C3;have c4:World.cell? w5 ⟨b,4,none⟩=some (.bool false):=F5.out.ps.is.at_ 4;have z4:=F5.out.ps.is.open_ 4)
    | (refine ZkW F5.out 27 rfl _ _ rfl rfl rfl ?_;intro w6 h1;have F6:=hid h1;clear h1;have C4:=show Calls prog 132 #[.pointer (some ⟨b,0,none⟩),.string ⟨#[123]⟩,.func (.func 187) #[.pointer (some ⟨b,0,none⟩)] #[],.string ⟨#[125]⟩] _ (Post _ b S j2 false (S8.list lim S8.mLb .set S8.mRb S.size (S.toks.drop j2)) (Zim _)) from Ze8 (N + 1) 187 b S .set ent187 HS.out false _ j2 F6.out.ps (by omega) ⟨#[123]⟩ ⟨#[125]⟩ (by decide) (by decide))
    | (go_at_call 132;(with_reducible refine C4.mono ?_);rintro e w7 h1;rcases h1.ways with ⟨a,j,h',e1,rfl,g,p,rfl⟩ | ⟨l,j7,v7,e1,rfl,g,hj7,p,ho,hc7⟩;exact ⟨rfl,Post.err (HM.out _ (by simp only [S8.Zac,S8.Zae,if_true,if_false,Bool.false_eq_true,E2.out,EP3.out,EP4.out,e1])) (Zaa F6.out.fr g (.inl rfl)) p⟩;have F7:=hid (F6.out.call g p);have G7:=hid ho;have E7:=hid e1;have Q7:=hid g.size;clear h1 e1 g p ho C4)
    | (refine Za7 F7.out (G7.out.weak F6.out.size) rfl _ _ rfl rfl rfl ?_;intro w8 h1;have F8:=hid h1;clear h1)
    | (refine Zax F8.out rfl _ rfl rfl ?_)
    | (refine Zaw F8.out rfl _ _ rfl rfl rfl ?_;intro w9 h1 h2 h3 h4;have F9:=hid (And.intro h1 (And.intro h2 (And.intro h3 h4)));clear h1 h2 h3 h4))
   refine ret24 results303 F9.out.1
    (Post.ok (j:=j7) (HM.out _ (by (try simp only [S8.Zac,S8.Zae,if_true,if_false,Bool.false_eq_true,E2.out,EP3.out,EP4.out,E7.out]);rfl)) F9.out.2.1 F9.out.2.2.1 (by omega) F9.out.2.2.2)
  ·have EP4:Hid (S8.ZaC S8.mLb S.size (S.toks.drop j2)=.ok false (S.toks.drop j2)):=hid (by rw [Zaf S j2 (by decide),decide_eq_false hz4])
   have C3:=Zau b S j2 false _ F4.out.ps
   obtain ⟨u4,hu⟩:∃u,u=mk (Zag S j2):=⟨_,rfl⟩
   rw [← hu] at C3
   have n4:(u4.toList == [123])=false:=by rw [hu,Zas,Zbc];exact beq_eq_false_iff_ne.2 hz4
   clear hu
   have HZ4:=hid hz4
   clear hz4
   go_wp2_with (first
    | (go_at_call 60;(with_reducible refine C3.mono ?_);rintro e w5 ⟨rfl,h1⟩;have F5:=hid (F4.out.look h1);clear h1 C3)
    | (refine Zax F5.out rfl _ rfl rfl ?_)
    | (refine Zaw F5.out rfl _ _ rfl rfl rfl ?_;intro w6 h1 h2 h3 h4;have F6:=hid (And.intro h1 (And.intro h2 (And.intro h3 h4)));clear h1 h2 h3 h4))
   refine ret24 results303 F6.out.1
    (Post.ok (j:=j2) (HM.out _ (by (try simp only [S8.Zac,S8.Zae,if_false,Bool.false_eq_true,E2.out,EP3.out,EP4.out]);rfl)) F6.out.2.1 F6.out.2.2.1 (by omega) F6.out.2.2.2)
end Go.Proofs.YtaheffiglmglbaaGreatDoor
