import Derived.Laws.ResultCell
import Derived.Test.YtaheffiglmglbaaGreatDoorKQf
/- PrimM, Prim, Pref, Unary, Expr5. -/
set_option maxHeartbeats 8000000
set_option maxRecDepth 20000
namespace Go.Proofs.YtaheffiglmglbaaGreatDoor
open Go.Proofs.Tryz
open Go.RowKit L7
open S8 (lim single What)
theorem ZgP (h:Bool) (e:Int) (l:List PTok):single (lim (.prim h)) e l=S8.prim lim h e l:=by
 rw [S8.ZbG,S8.Zbb (nt:=.prim h) rfl]
 show (match S8.one (S8.prim lim h) e l with | .out=>_ | .err a=>_ | .ok [x] r=>_ | .ok _ r=>_)=_
 unfold S8.one
 rw [S8.Zac]
 cases S8.prim lim h e l <;> rfl
theorem ZcH (S:Pg) (i:Nat) (f:Tk→Bool) (hf:f ⟨0,[],0⟩=false):S8.ZeR f S.size (S.toks.drop i)=.ok (f (ZaK S i)) (S.toks.drop i):=by
 cases h:S.toks[i]? with
 | none=>rw [ZdL h];unfold ZaK;rw [h];simp only;rw [hf];rfl
 | some t=>
  rw [ZdK h]
  obtain ⟨t1,t2⟩:=t
  rw [S8.ZcX,Ze0 h]
theorem ZkC (S:Pg) (i:Nat) (f:Tk→Bool) (hf:f ⟨0,[],0⟩=false):S8.Zed f S.size (S.toks.drop i)=if f (ZaK S i) then .ok (ZaK S i) (S.toks.drop (i + 1)) else .err (place S i):=by
 cases h:S.toks[i]? with
 | none=>rw [ZdL h,place,h];unfold ZaK;rw [h];simp only;rw [hf];rfl
 | some t=>
  rw [ZdK h]
  obtain ⟨t1,t2⟩:=t
  rw [S8.Zbs,Ze0 h,Zdp h]
theorem ZjL {S:Pg} {i:Nat} (h1:(ZaK S i).k≠1) (h4:(ZaK S i).k≠4):Zag S i=[]:=by
 unfold Zag;rw [if_neg (by simp [h1,h4])]
theorem ZlG {S:Pg} {i:Nat} (h1:(ZaK S i).k=1):Zag S i=(ZaK S i).t:=by
 unfold Zag;rw [if_pos (.inl h1)]
section
variable {S:Pg} {i:Nat} (h:Bool)
theorem ZtK (hk:(ZaK S i).k=2):single (lim (.prim h)) S.size (S.toks.drop i)=.ok (.mk 20 [] (ZaK S i).n (place S i) []) (S.toks.drop (i + 1)):=by
 have hl:=Zep (S:=S) (i:=i) (by rw [hk];decide)
 have hw:=ZjL (S:=S) (i:=i) (by rw [hk];decide) (by rw [hk];decide)
 rw [ZgP]
 unfold S8.prim
 refine ZaN ?_ (fun hl'=>absurd hl (by omega))
 simp (decide:=true) only [S8.Zac,S8.Zae,Zaf S i (show S8.mLp≠[] by decide),Zaf S i (show S8.mLk≠[] by decide),ZcH S i (fun t=>t.k == 1 && S8.Zcf t.t) rfl,ZcH S i (fun t=>t.k == 2) rfl,hw,hk,if_true,if_false,Bool.false_and,ZnX,S8.Zb5,show ((2:Int) == 1)=false from rfl,show ((2:Int) == 2)=true from rfl]
theorem Zrl (hk:(ZaK S i).k=3):single (lim (.prim h)) S.size (S.toks.drop i)=.ok (.mk 21 (ZaK S i).t 0 (place S i) []) (S.toks.drop (i + 1)):=by
 have hl:=Zep (S:=S) (i:=i) (by rw [hk];decide)
 have hw:=ZjL (S:=S) (i:=i) (by rw [hk];decide) (by rw [hk];decide)
 rw [ZgP]
 unfold S8.prim
 refine ZaN ?_ (fun hl'=>absurd hl (by omega))
 simp (decide:=true) only [S8.Zac,S8.Zae,Zaf S i (show S8.mLp≠[] by decide),Zaf S i (show S8.mLk≠[] by decide),Zaf S i (show S8.ZfJ≠[] by decide),Zaf S i (show S8.Zdy≠[] by decide),Zaf S i (show S8.ZeX≠[] by decide),ZcH S i (fun t=>t.k == 1 && S8.Zcf t.t) rfl,ZcH S i (fun t=>t.k == 2) rfl,ZcH S i (fun t=>t.k == 3) rfl,ZkC S i (fun t=>t.k == 3) rfl,hw,hk,if_true,if_false,Bool.false_and,S8.Zb5,show ((3:Int) == 1)=false from rfl,show ((3:Int) == 2)=false from rfl,show ((3:Int) == 3)=true from rfl]
theorem ZoP (hk:(ZaK S i).k=1) (hs:S8.ZbF (ZaK S i).t=true) (hu:S8.Zcf (ZaK S i).t=false):single (lim (.prim h)) S.size (S.toks.drop i)=.ok (.mk 24 (ZaK S i).t 0 (place S i) []) (S.toks.drop (i + 1)):=by
 have hl:=Zep (S:=S) (i:=i) (by rw [hk];decide)
 have hw:=ZlG hk
 have hne:∀s,S8.ZbF s=false→(ZaK S i).t≠s:=fun s h e=>by rw [e,h] at hs;cases hs
 have k1:=hne S8.mLp (by decide)
 have k2:=hne S8.mLk (by decide)
 have k3:=hne S8.ZfJ (by decide)
 have k4:=hne S8.Zdy (by decide)
 have k5:=hne S8.ZeX (by decide)
 rw [ZgP]
 unfold S8.prim
 refine ZaN ?_ (fun hl'=>absurd hl (by omega))
 unfold S8.low
 simp only [S8.Zac,S8.Zae,Zaf S i (show S8.mLp≠[] by decide),Zaf S i (show S8.mLk≠[] by decide),Zaf S i (show S8.ZfJ≠[] by decide),Zaf S i (show S8.Zdy≠[] by decide),Zaf S i (show S8.ZeX≠[] by decide),ZcH S i (fun t=>t.k == 1 && S8.Zcf t.t) rfl,ZcH S i (fun t=>t.k == 2) rfl,ZcH S i (fun t=>t.k == 3) rfl,ZkC S i (fun t=>t.k == 1 && S8.ZbF t.t) rfl,hw,hk,hs,hu,k1,k2,k3,k4,k5,decide_false,if_true,if_false,Bool.and_false,Bool.and_self,beq_self_eq_true,Bool.false_eq_true,S8.Zb5,show ((1:Int) == 2)=false from rfl,show ((1:Int) == 3)=false from rfl]
theorem Zv8 (hk:(ZaK S i).k=1) (hs:S8.Zcf (ZaK S i).t=true):single (lim (.prim h)) S.size (S.toks.drop i)=ZmR h (place S i) S.size (S.toks.drop i):=by
 have hl:=Zep (S:=S) (i:=i) (by rw [hk];decide)
 have hw:=ZlG hk
 have k1:(ZaK S i).t≠S8.mLp:=fun e=>by rw [e] at hs;exact absurd hs (by decide)
 rw [ZgP]
 unfold S8.prim
 refine ZaN ?_ (fun hl'=>absurd hl (by omega))
 unfold ZmR
 simp only [S8.Zac,S8.Zae,Zaf S i (show S8.mLp≠[] by decide),ZcH S i (fun t=>t.k == 1 && S8.Zcf t.t) rfl,hw,hk,hs,k1,decide_false,if_true,if_false,Bool.and_self,beq_self_eq_true,Bool.false_eq_true]
 cases S8.up S.size (S.toks.drop i) with
 | out=>rfl
 | err a=>rfl
 | ok t r=>
  simp only
  by_cases hz:S8.ZaC S8.mLp S.size r=.ok true r
  ·have hb:S8.ZaC S8.mLb S.size r=.ok false r:=by
    cases r with
    | nil=>cases hz
    | cons x r=>
     obtain ⟨x,a⟩:=x
     rw [S8.ZaI] at hz ⊢
     injection hz with hz _
     rw [S8.ZiN hz (by decide)]
   simp only [hz,hb,Bool.false_eq_true,if_false,if_true]
  ·have hb:S8.ZaC S8.mLp S.size r=.ok false r:=by
    cases r with
    | nil=>rfl
    | cons x r=>
     obtain ⟨x,a⟩:=x
     rw [S8.ZaI] at hz ⊢
     cases hx:S8.isW S8.mLp x with
     | true=>rw [hx] at hz;exact absurd rfl hz
     | false=>rfl
   simp only [hb,Bool.false_eq_true,if_false]
   obtain ⟨c,hc⟩:∃c,S8.ZaC S8.mLb S.size r=.ok c r:=by
    cases r with
    | nil=>exact ⟨false,rfl⟩
    | cons x r=>exact ⟨_,rfl⟩
   rw [hc]
   cases c with
   | false=>simp only [hb,Bool.false_eq_true,if_false]
   | true=>cases h <;> simp only [hb,Bool.false_eq_true,if_false,if_true]
theorem Zl6 (h2:(ZaK S i).k≠2) (h3:(ZaK S i).k≠3) (hl:(ZaK S i).k=1→S8.ZbF (ZaK S i).t=false) (hu:(ZaK S i).k=1→S8.Zcf (ZaK S i).t=false):single (lim (.prim h)) S.size (S.toks.drop i)=Zkd (place S i) S.size (S.toks.drop i):=by
 have f1:((ZaK S i).k == 1 && S8.Zcf (ZaK S i).t)=false:=by
  by_cases hk:(ZaK S i).k=1
  ·rw [hu hk];simp
  ·rw [beq_false_of_ne hk];rfl
 have f2:((ZaK S i).k == 1 && S8.ZbF (ZaK S i).t)=false:=by
  by_cases hk:(ZaK S i).k=1
  ·rw [hl hk];simp
  ·rw [beq_false_of_ne hk];rfl
 have f3:((ZaK S i).k == 2)=false:=beq_false_of_ne h2
 have f4:((ZaK S i).k == 3)=false:=beq_false_of_ne h3
 rw [ZgP]
 unfold S8.prim
 refine ZaN ?_ (fun hl'=>by rw [(Zci hl').1,(Zci hl').2];rfl)
 unfold Zkd Zmc S8.low
 simp only [S8.Zac,S8.Zae,Zaf S i (show S8.mLp≠[] by decide),Zaf S i (show S8.mLk≠[] by decide),Zaf S i (show S8.ZfJ≠[] by decide),Zaf S i (show S8.Zdy≠[] by decide),Zaf S i (show S8.ZeX≠[] by decide),ZcH S i (fun t=>t.k == 1 && S8.Zcf t.t) rfl,ZcH S i (fun t=>t.k == 2) rfl,ZcH S i (fun t=>t.k == 3) rfl,ZkC S i (fun t=>t.k == 1 && S8.ZbF t.t) rfl,f1,f2,f3,f4,if_false,Bool.false_eq_true]
 by_cases k1:Zag S i=S8.mLp
 ·simp (decide:=true) only [k1,if_true,if_false]
 by_cases k2:Zag S i=S8.mLk
 ·simp (decide:=true) only [k2,if_true,if_false]
 by_cases k3:Zag S i=S8.ZfJ
 ·simp (decide:=true) only [k3,if_true,if_false]
 by_cases k4:Zag S i=S8.Zdy
 ·simp (decide:=true) only [k4,if_true,if_false]
 by_cases k5:Zag S i=S8.ZeX
 ·simp (decide:=true) only [k5,if_true,if_false]
 simp only [k1,k2,k3,k4,k5,decide_false,Bool.false_eq_true,if_false,Zay S i (show S8.mLp≠[] by decide)]
end
open Go.RowKit L7
open S8 (lim single What)
theorem ZuE (N b:Nat) (S:Pg) (h:Bool) (a0:Int) (HE:∀h,Does N 138 b S h (single (lim (.expr h)))) (w:World) (i:Nat) (hp:Ps w b S i h) (hN:S.toks.length≤N + i) (ha:a0=place S i) :
  Calls prog 303 #[.pointer (some ⟨b,0,none⟩)] w (Post w b S i h ((ZmR h a0) S.size (S.toks.drop i)) (ZaO w)):=by
 cases h with
 | true=>exact Zsv N b S a0 HE w i hp hN ha
 | false=>exact Zqi N b S a0 HE w i hp hN ha
theorem Zyh {t:Bs} (h:Zhq t=true):ZiP t=false:=by
 cases t with
 | nil=>cases h
 | cons c r=>
  unfold Zhq at h
  unfold ZiP
  simp at h ⊢
  omega
theorem Znv (b:Nat) (S:Pg) (h:Bool) (w:World) (i:Nat) (hp:Ps w b S i h) (hk:(ZaK S i).k=2) :
  Calls prog 285 #[.pointer (some ⟨b,0,none⟩)] w (Post w b S i h (single (lim (.prim h)) S.size (S.toks.drop i)) (ZaO w)):=by
 have T:=Zdz b S i h _ (hp.alloc (.cells z5 24))
 have HP:=hid hp
 have hli:i < S.toks.length:=Zep (S:=S) (i:=i) (by rw [hk];decide)
 have hle:=hp.le
 have hlt:=hp.lt
 have hnum:i≤32768:=by have:=hp.env.num;omega
 have HM:Hid (single (lim (.prim h)) S.size (S.toks.drop i)=.ok (.mk 20 [] (ZaK S i).n (place S i) []) (S.toks.drop (i + 1))):=hid (ZtK h hk)
 rw [if_pos hli,hk] at T
 obtain ⟨t,ht⟩:∃t,t=(ZaK S i).t:=⟨_,rfl⟩
 obtain ⟨n,hn⟩:∃n,n=(ZaK S i).n:=⟨_,rfl⟩
 obtain ⟨p,hpp⟩:∃p,p=place S i:=⟨_,rfl⟩
 try rw [← ht] at T
 try rw [← hn] at T
 try rw [← hpp] at T
 try rw [← ht] at HM
 try rw [← hn] at HM
 try rw [← hpp] at HM
 try rw [← ht] at FL
 clear hp ht hn hpp
 go_enter func285,ntmps285
 go_wp2_with (first
  | (go_at_call 118;(with_reducible refine T.mono ?_);rintro e w1 ⟨rfl,h1⟩;have B1:=hid h1;have P1:=((HP.out.alloc (.cells z5 24)).below h1 (HP.out.alloc (.cells z5 24)).lt).alloc (.cells #[.int .i64 2,.string (mk t),.int .i64 n,.int .i64 p] 42);have HP1:=hid P1;have HJ:=hid (((Is.fresh w 24 z5).below h1 (by simp)).alloc (.cells #[.int .i64 2,.string (mk t),.int .i64 n,.int .i64 p] 42));have c1:(w1.alloc (.cells #[.int .i64 2,.string (mk t),.int .i64 n,.int .i64 p] 42)).cell? ⟨b,1,none⟩=some (.int .i64 (i:Int)):=P1.is.at_ 1;have z1:=P1.is.open_ 1;have hne:w1.heap.size≠b:=(by have h3:=h1.size;simp at h3;omega);clear h1 P1)
  | (refine Zah (g:=w.heap.size) (t:=24) (old:=z5) (by exact HJ.out.away (a:=⟨b,1,none⟩) (by show w.heap.size≠b;omega) _) rfl 24 _ _ rfl (nd5 20 [] n p (.slice none 0 0)) rfl rfl inf24 rfl (by simp [nd5,Value.oneCell']) ?_;intro w3 h1 h2;have F3:=hid (And.intro h1 h2);clear h1 h2))
 refine ret24 results285 F3.out.1
  (Post.ok (j:=i + 1) HM.out
   (Zaa (ZcJ (b:=b) (Zbl (Zaj (r:=some b) (((Below.refl w.heap.size w).alloc (Nat.le_refl _) (.cells z5 24)).trans (B1.out.mono (by simp)))) _) 1 _) F3.out.2 (.inr fun j e=>by injection e with e;omega))
   ((HP1.out.next (j:=i + 1) (by omega)).kept F3.out.2 (by omega)) (by omega) ⟨_,rfl,OwnRow.nil _ _⟩)
theorem Zl3 (b:Nat) (S:Pg) (h:Bool) (w:World) (i:Nat) (hp:Ps w b S i h) (hk:(ZaK S i).k=3) :
  Calls prog 285 #[.pointer (some ⟨b,0,none⟩)] w (Post w b S i h (single (lim (.prim h)) S.size (S.toks.drop i)) (ZaO w)):=by
 have T:=Zdz b S i h _ (hp.alloc (.cells z5 24))
 have HP:=hid hp
 have hli:i < S.toks.length:=Zep (S:=S) (i:=i) (by rw [hk];decide)
 have hle:=hp.le
 have hlt:=hp.lt
 have hnum:i≤32768:=by have:=hp.env.num;omega
 have HM:Hid (single (lim (.prim h)) S.size (S.toks.drop i)=.ok (.mk 21 (ZaK S i).t 0 (place S i) []) (S.toks.drop (i + 1))):=hid (Zrl h hk)
 rw [if_pos hli,hk] at T
 obtain ⟨t,ht⟩:∃t,t=(ZaK S i).t:=⟨_,rfl⟩
 obtain ⟨n,hn⟩:∃n,n=(ZaK S i).n:=⟨_,rfl⟩
 obtain ⟨p,hpp⟩:∃p,p=place S i:=⟨_,rfl⟩
 try rw [← ht] at T
 try rw [← hn] at T
 try rw [← hpp] at T
 try rw [← ht] at HM
 try rw [← hn] at HM
 try rw [← hpp] at HM
 try rw [← ht] at FL
 clear hp ht hn hpp
 go_enter func285,ntmps285
 go_wp2_with (first
  | (go_at_call 118;(with_reducible refine T.mono ?_);rintro e w1 ⟨rfl,h1⟩;have B1:=hid h1;have P1:=((HP.out.alloc (.cells z5 24)).below h1 (HP.out.alloc (.cells z5 24)).lt).alloc (.cells #[.int .i64 3,.string (mk t),.int .i64 n,.int .i64 p] 42);have HP1:=hid P1;have HJ:=hid (((Is.fresh w 24 z5).below h1 (by simp)).alloc (.cells #[.int .i64 3,.string (mk t),.int .i64 n,.int .i64 p] 42));have c1:(w1.alloc (.cells #[.int .i64 3,.string (mk t),.int .i64 n,.int .i64 p] 42)).cell? ⟨b,1,none⟩=some (.int .i64 (i:Int)):=P1.is.at_ 1;have z1:=P1.is.open_ 1;have hne:w1.heap.size≠b:=(by have h3:=h1.size;simp at h3;omega);clear h1 P1)
  | (refine Zah (g:=w.heap.size) (t:=24) (old:=z5) (by exact HJ.out.away (a:=⟨b,1,none⟩) (by show w.heap.size≠b;omega) _) rfl 24 _ _ rfl (nd5 21 t 0 p (.slice none 0 0)) rfl rfl inf24 rfl (by simp [nd5,Value.oneCell']) ?_;intro w3 h1 h2;have F3:=hid (And.intro h1 h2);clear h1 h2))
 refine ret24 results285 F3.out.1
  (Post.ok (j:=i + 1) HM.out
   (Zaa (ZcJ (b:=b) (Zbl (Zaj (r:=some b) (((Below.refl w.heap.size w).alloc (Nat.le_refl _) (.cells z5 24)).trans (B1.out.mono (by simp)))) _) 1 _) F3.out.2 (.inr fun j e=>by injection e with e;omega))
   ((HP1.out.next (j:=i + 1) (by omega)).kept F3.out.2 (by omega)) (by omega) ⟨_,rfl,OwnRow.nil _ _⟩)
theorem Znu (b:Nat) (S:Pg) (h:Bool) (w:World) (i:Nat) (hp:Ps w b S i h) (hk:(ZaK S i).k=1) (hs:Zhq (ZaK S i).t=true) :
  Calls prog 285 #[.pointer (some ⟨b,0,none⟩)] w (Post w b S i h (single (lim (.prim h)) S.size (S.toks.drop i)) (ZaO w)):=by
 have T:=Zdz b S i h _ (hp.alloc (.cells z5 24))
 have HP:=hid hp
 have hli:i < S.toks.length:=Zep (S:=S) (i:=i) (by rw [hk];decide)
 have hle:=hp.le
 have hlt:=hp.lt
 have hnum:i≤32768:=by have:=hp.env.num;omega
 have hnm:=Zgx hk (tok_ok hp.env (by rw [hk];decide))
 have FL:=Zji (mk (ZaK S i).t)
 rw [Zbc,hs] at FL
 have HM:Hid (single (lim (.prim h)) S.size (S.toks.drop i)=.ok (.mk 24 (ZaK S i).t 0 (place S i) []) (S.toks.drop (i + 1))):=hid (ZoP h hk (by rw [← ZiJ hnm];exact hs) (by rw [← Zha hnm];exact Zyh hs))
 rw [if_pos hli,hk] at T
 obtain ⟨t,ht⟩:∃t,t=(ZaK S i).t:=⟨_,rfl⟩
 obtain ⟨n,hn⟩:∃n,n=(ZaK S i).n:=⟨_,rfl⟩
 obtain ⟨p,hpp⟩:∃p,p=place S i:=⟨_,rfl⟩
 try rw [← ht] at T
 try rw [← hn] at T
 try rw [← hpp] at T
 try rw [← ht] at HM
 try rw [← hn] at HM
 try rw [← hpp] at HM
 try rw [← ht] at FL
 clear hp ht hn hpp
 go_enter func285,ntmps285
 go_wp2_with (first
  | (go_at_call 118;(with_reducible refine T.mono ?_);rintro e w1 ⟨rfl,h1⟩;have B1:=hid h1;have P1:=((HP.out.alloc (.cells z5 24)).below h1 (HP.out.alloc (.cells z5 24)).lt).alloc (.cells #[.int .i64 1,.string (mk t),.int .i64 n,.int .i64 p] 42);have HP1:=hid P1;have HJ:=hid (((Is.fresh w 24 z5).below h1 (by simp)).alloc (.cells #[.int .i64 1,.string (mk t),.int .i64 n,.int .i64 p] 42));have c1:(w1.alloc (.cells #[.int .i64 1,.string (mk t),.int .i64 n,.int .i64 p] 42)).cell? ⟨b,1,none⟩=some (.int .i64 (i:Int)):=P1.is.at_ 1;have z1:=P1.is.open_ 1;have hne:w1.heap.size≠b:=(by have h3:=h1.size;simp at h3;omega);clear h1 P1)
  | ((with_reducible refine (FL _).mono ?_);rintro e w2 ⟨rfl,rfl⟩)
  | (refine Zah (g:=w.heap.size) (t:=24) (old:=z5) (by exact HJ.out.away (a:=⟨b,1,none⟩) (by show w.heap.size≠b;omega) _) rfl 24 _ _ rfl (nd5 24 t 0 p (.slice none 0 0)) rfl rfl inf24 rfl (by simp [nd5,Value.oneCell']) ?_;intro w3 h1 h2;have F3:=hid (And.intro h1 h2);clear h1 h2))
 refine ret24 results285 F3.out.1
  (Post.ok (j:=i + 1) HM.out
   (Zaa (ZcJ (b:=b) (Zbl (Zaj (r:=some b) (((Below.refl w.heap.size w).alloc (Nat.le_refl _) (.cells z5 24)).trans (B1.out.mono (by simp)))) _) 1 _) F3.out.2 (.inr fun j e=>by injection e with e;omega))
   ((HP1.out.next (j:=i + 1) (by omega)).kept F3.out.2 (by omega)) (by omega) ⟨_,rfl,OwnRow.nil _ _⟩)
theorem ZpM (N b:Nat) (S:Pg) (h:Bool) (HE:∀h,Does N 138 b S h (single (lim (.expr h)))) (w:World) (i:Nat) (hp:Ps w b S i h) (hN:S.toks.length≤N + i) (hk:(ZaK S i).k=1) (hs:Zhq (ZaK S i).t=false) (hu:ZiP (ZaK S i).t=true) :
  Calls prog 285 #[.pointer (some ⟨b,0,none⟩)] w (Post w b S i h (single (lim (.prim h)) S.size (S.toks.drop i)) (ZaO w)):=by
 have T:=Zdz b S i h _ (hp.alloc (.cells z5 24))
 have HP:=hid hp
 have hle:=hp.le
 have hlt:=hp.lt
 have hnum:i≤32768:=by have:=hp.env.num;omega
 have hnm:=Zgx hk (tok_ok hp.env (by rw [hk];decide))
 have FL:=Zji (mk (ZaK S i).t)
 rw [Zbc,hs] at FL
 have FU:=ZjP (mk (ZaK S i).t)
 rw [Zbc,hu] at FU
 have HM:Hid (single (lim (.prim h)) S.size (S.toks.drop i)=(ZmR h (place S i)) S.size (S.toks.drop i)):=hid (Zv8 h hk (by rw [← Zha hnm];exact hu))
 have HC:=hid (fun w hp=>ZuE N b S h (place S i) HE w i hp hN rfl)
 obtain ⟨t,ht⟩:∃t,t=(ZaK S i).t:=⟨_,rfl⟩
 obtain ⟨n,hn⟩:∃n,n=(ZaK S i).n:=⟨_,rfl⟩
 obtain ⟨p,hpp⟩:∃p,p=(if i < S.toks.length then place S i else 0):=⟨_,rfl⟩
 try rw [← ht] at T
 try rw [← hn] at T
 try rw [← hpp] at T
 try rw [← ht] at FL
 try rw [← ht] at FU
 rw [hk] at T
 clear hp ht hn hpp HE hs hu hnm hk
 go_enter func285,ntmps285
 go_wp2_with (first
  | (go_at_call 118;(with_reducible refine T.mono ?_);rintro e w1 ⟨rfl,h1⟩;have B1:=hid h1;have P1:=((HP.out.alloc (.cells z5 24)).below h1 (HP.out.alloc (.cells z5 24)).lt).alloc (.cells #[.int .i64 1,.string (mk t),.int .i64 n,.int .i64 p] 42);have HP1:=hid P1;have HJ:=hid (((Is.fresh w 24 z5).below h1 (by simp)).alloc (.cells #[.int .i64 1,.string (mk t),.int .i64 n,.int .i64 p] 42));have c1:(w1.alloc (.cells #[.int .i64 1,.string (mk t),.int .i64 n,.int .i64 p] 42)).cell? ⟨b,1,none⟩=some (.int .i64 (i:Int)):=P1.is.at_ 1;have z1:=P1.is.open_ 1;have hne:w1.heap.size≠b:=(by have h3:=h1.size;simp at h3;omega);clear h1 P1)
  | (go_at_call 150;(with_reducible refine (FL _).mono ?_);rintro e w2 ⟨rfl,rfl⟩)
  | (go_at_call 145;(with_reducible refine (FU _).mono ?_);rintro e w2 ⟨rfl,rfl⟩)
  | (go_at_call 303;(have C2:=HC.out _ HP1.out);(with_reducible refine C2.mono ?_);rintro e w2 h1;rcases h1.ways with ⟨a,j,h',e1,rfl,g,p,rfl⟩ | ⟨x,j1,v,e1,rfl,g,hj1,p,r,rfl,ho⟩;exact ⟨rfl,Post.err (HM.out.trans e1) (Zaa (Zbl (Zaj (r:=some b) (((Below.refl w.heap.size w).alloc (Nat.le_refl _) (.cells z5 24)).trans (B1.out.mono (by simp)))) _) g (.inl rfl)) p⟩;have F2:=hid (And.intro p (And.intro (Zaa (Zbl (Zaj (r:=some b) (((Below.refl w.heap.size w).alloc (Nat.le_refl _) (.cells z5 24)).trans (B1.out.mono (by simp)))) _) g (.inl rfl)) (And.intro (HJ.out.kept g (by simp;omega)) (And.intro (ho.weak (base':=w.heap.size + 1) (by have h3:=B1.out.size;simp at h3 ⊢;omega)) e1))));clear h1 e1 g p ho C2)
  | (refine Zah F2.out.2.2.1 rfl 24 _ _ rfl (nd5 x.k x.t x.n x.a r) rfl rfl inf24 rfl (by have h1:=F2.out.2.2.2.1.one;simp [nd5,h1];exact ⟨rfl,rfl,rfl,rfl⟩) ?_;intro w3 h1 h2;have F3:=hid (And.intro h1 h2);clear h1 h2))
 refine ret24 results285 F3.out.1
  (Post.ok (j:=j1) (x:=x) (HM.out.trans F2.out.2.2.2.2) (Zaa F2.out.2.1 F3.out.2 (.inr fun j e=>by injection e with e;omega)) (F2.out.1.kept F3.out.2 (by omega)) hj1 ⟨r,rfl,(F2.out.2.2.2.1.grown F3.out.2 (by omega)).weak (by omega)⟩)
theorem Zl5 (N b:Nat) (S:Pg) (h:Bool) (HE:∀h,Does N 138 b S h (single (lim (.expr h)))) (w:World) (i:Nat) (hp:Ps w b S i h) (hN:S.toks.length≤N + i) (hk:(ZaK S i).k=1) (hs:Zhq (ZaK S i).t=false) (hu:ZiP (ZaK S i).t=false) :
  Calls prog 285 #[.pointer (some ⟨b,0,none⟩)] w (Post w b S i h (single (lim (.prim h)) S.size (S.toks.drop i)) (ZaO w)):=by
 have T:=Zdz b S i h _ (hp.alloc (.cells z5 24))
 have HP:=hid hp
 have hle:=hp.le
 have hlt:=hp.lt
 have hnum:i≤32768:=by have:=hp.env.num;omega
 have hnm:=Zgx hk (tok_ok hp.env (by rw [hk];decide))
 have FL:=Zji (mk (ZaK S i).t)
 rw [Zbc,hs] at FL
 have FU:=ZjP (mk (ZaK S i).t)
 rw [Zbc,hu] at FU
 have HM:Hid (single (lim (.prim h)) S.size (S.toks.drop i)=(Zkd (place S i)) S.size (S.toks.drop i)):=hid (Zl6 h (by rw [hk];decide) (by rw [hk];decide) (fun _=>by rw [← ZiJ hnm];exact hs) (fun _=>by rw [← Zha hnm];exact hu))
 have HC:=hid (fun w hp=>ZmG N b S h (place S i) HE w i hp hN rfl)
 obtain ⟨t,ht⟩:∃t,t=(ZaK S i).t:=⟨_,rfl⟩
 obtain ⟨n,hn⟩:∃n,n=(ZaK S i).n:=⟨_,rfl⟩
 obtain ⟨p,hpp⟩:∃p,p=(if i < S.toks.length then place S i else 0):=⟨_,rfl⟩
 try rw [← ht] at T
 try rw [← hn] at T
 try rw [← hpp] at T
 try rw [← ht] at FL
 try rw [← ht] at FU
 rw [hk] at T
 clear hp ht hn hpp HE hs hu hnm hk
 go_enter func285,ntmps285
 go_wp2_with (first
  | (go_at_call 118;(with_reducible refine T.mono ?_);rintro e w1 ⟨rfl,h1⟩;have B1:=hid h1;have P1:=((HP.out.alloc (.cells z5 24)).below h1 (HP.out.alloc (.cells z5 24)).lt).alloc (.cells #[.int .i64 1,.string (mk t),.int .i64 n,.int .i64 p] 42);have HP1:=hid P1;have HJ:=hid (((Is.fresh w 24 z5).below h1 (by simp)).alloc (.cells #[.int .i64 1,.string (mk t),.int .i64 n,.int .i64 p] 42));have c1:(w1.alloc (.cells #[.int .i64 1,.string (mk t),.int .i64 n,.int .i64 p] 42)).cell? ⟨b,1,none⟩=some (.int .i64 (i:Int)):=P1.is.at_ 1;have z1:=P1.is.open_ 1;have hne:w1.heap.size≠b:=(by have h3:=h1.size;simp at h3;omega);clear h1 P1)
  | (go_at_call 150;(with_reducible refine (FL _).mono ?_);rintro e w2 ⟨rfl,rfl⟩)
  | (go_at_call 145;(with_reducible refine (FU _).mono ?_);rintro e w2 ⟨rfl,rfl⟩)
  | (go_at_call 304;(have C2:=HC.out _ HP1.out);(with_reducible refine C2.mono ?_);rintro e w2 h1;rcases h1.ways with ⟨a,j,h',e1,rfl,g,p,rfl⟩ | ⟨x,j1,v,e1,rfl,g,hj1,p,r,rfl,ho⟩;exact ⟨rfl,Post.err (HM.out.trans e1) (Zaa (Zbl (Zaj (r:=some b) (((Below.refl w.heap.size w).alloc (Nat.le_refl _) (.cells z5 24)).trans (B1.out.mono (by simp)))) _) g (.inl rfl)) p⟩;have F2:=hid (And.intro p (And.intro (Zaa (Zbl (Zaj (r:=some b) (((Below.refl w.heap.size w).alloc (Nat.le_refl _) (.cells z5 24)).trans (B1.out.mono (by simp)))) _) g (.inl rfl)) (And.intro (HJ.out.kept g (by simp;omega)) (And.intro (ho.weak (base':=w.heap.size + 1) (by have h3:=B1.out.size;simp at h3 ⊢;omega)) e1))));clear h1 e1 g p ho C2)
  | (refine Zah F2.out.2.2.1 rfl 24 _ _ rfl (nd5 x.k x.t x.n x.a r) rfl rfl inf24 rfl (by have h1:=F2.out.2.2.2.1.one;simp [nd5,h1];exact ⟨rfl,rfl,rfl,rfl⟩) ?_;intro w3 h1 h2;have F3:=hid (And.intro h1 h2);clear h1 h2))
 refine ret24 results285 F3.out.1
  (Post.ok (j:=j1) (x:=x) (HM.out.trans F2.out.2.2.2.2) (Zaa F2.out.2.1 F3.out.2 (.inr fun j e=>by injection e with e;omega)) (F2.out.1.kept F3.out.2 (by omega)) hj1 ⟨r,rfl,(F2.out.2.2.2.1.grown F3.out.2 (by omega)).weak (by omega)⟩)
theorem Zl4 (N b:Nat) (S:Pg) (h:Bool) (HE:∀h,Does N 138 b S h (single (lim (.expr h)))) (w:World) (i:Nat) (hp:Ps w b S i h) (hN:S.toks.length≤N + i) (h1:(ZaK S i).k≠1) (h2:(ZaK S i).k≠2) (h3:(ZaK S i).k≠3) :
  Calls prog 285 #[.pointer (some ⟨b,0,none⟩)] w (Post w b S i h (single (lim (.prim h)) S.size (S.toks.drop i)) (ZaO w)):=by
 have T:=Zdz b S i h _ (hp.alloc (.cells z5 24))
 have HP:=hid hp
 have hle:=hp.le
 have hlt:=hp.lt
 have hnum:i≤32768:=by have:=hp.env.num;omega
 have HM:Hid (single (lim (.prim h)) S.size (S.toks.drop i)=(Zkd (place S i)) S.size (S.toks.drop i)):=hid (Zl6 h h2 h3 (fun hk=>absurd hk h1) (fun hk=>absurd hk h1))
 have HC:=hid (fun w hp=>ZmG N b S h (place S i) HE w i hp hN rfl)
 obtain ⟨t,ht⟩:∃t,t=(ZaK S i).t:=⟨_,rfl⟩
 obtain ⟨n,hn⟩:∃n,n=(ZaK S i).n:=⟨_,rfl⟩
 obtain ⟨p,hpp⟩:∃p,p=(if i < S.toks.length then place S i else 0):=⟨_,rfl⟩
 try rw [← ht] at T
 try rw [← hn] at T
 try rw [← hpp] at T
 try rw [← ht] at FL
 try rw [← ht] at FU
 obtain ⟨q,hq⟩:∃q,q=(ZaK S i).k:=⟨_,rfl⟩
 rw [← hq] at T h1 h2 h3
 have n1:(q == 1)=false:=beq_false_of_ne h1
 have n2:(q == 2)=false:=beq_false_of_ne h2
 have n3:(q == 3)=false:=beq_false_of_ne h3
 clear hp ht hn hpp HE hq h1 h2 h3
 go_enter func285,ntmps285
 go_wp2_with (first
  | (go_at_call 118;(with_reducible refine T.mono ?_);rintro e w1 ⟨rfl,h1⟩;have B1:=hid h1;have P1:=((HP.out.alloc (.cells z5 24)).below h1 (HP.out.alloc (.cells z5 24)).lt).alloc (.cells #[.int .i64 q,.string (mk t),.int .i64 n,.int .i64 p] 42);have HP1:=hid P1;have HJ:=hid (((Is.fresh w 24 z5).below h1 (by simp)).alloc (.cells #[.int .i64 q,.string (mk t),.int .i64 n,.int .i64 p] 42));have c1:(w1.alloc (.cells #[.int .i64 q,.string (mk t),.int .i64 n,.int .i64 p] 42)).cell? ⟨b,1,none⟩=some (.int .i64 (i:Int)):=P1.is.at_ 1;have z1:=P1.is.open_ 1;have hne:w1.heap.size≠b:=(by have h3:=h1.size;simp at h3;omega);clear h1 P1)
  | (go_at_call 304;(have C2:=HC.out _ HP1.out);(with_reducible refine C2.mono ?_);rintro e w2 h1;rcases h1.ways with ⟨a,j,h',e1,rfl,g,p,rfl⟩ | ⟨x,j1,v,e1,rfl,g,hj1,p,r,rfl,ho⟩;exact ⟨rfl,Post.err (HM.out.trans e1) (Zaa (Zbl (Zaj (r:=some b) (((Below.refl w.heap.size w).alloc (Nat.le_refl _) (.cells z5 24)).trans (B1.out.mono (by simp)))) _) g (.inl rfl)) p⟩;have F2:=hid (And.intro p (And.intro (Zaa (Zbl (Zaj (r:=some b) (((Below.refl w.heap.size w).alloc (Nat.le_refl _) (.cells z5 24)).trans (B1.out.mono (by simp)))) _) g (.inl rfl)) (And.intro (HJ.out.kept g (by simp;omega)) (And.intro (ho.weak (base':=w.heap.size + 1) (by have h3:=B1.out.size;simp at h3 ⊢;omega)) e1))));clear h1 e1 g p ho C2)
  | (refine Zah F2.out.2.2.1 rfl 24 _ _ rfl (nd5 x.k x.t x.n x.a r) rfl rfl inf24 rfl (by have h1:=F2.out.2.2.2.1.one;simp [nd5,h1];exact ⟨rfl,rfl,rfl,rfl⟩) ?_;intro w3 h1 h2;have F3:=hid (And.intro h1 h2);clear h1 h2))
 refine ret24 results285 F3.out.1
  (Post.ok (j:=j1) (x:=x) (HM.out.trans F2.out.2.2.2.2) (Zaa F2.out.2.1 F3.out.2 (.inr fun j e=>by injection e with e;omega)) (F2.out.1.kept F3.out.2 (by omega)) hj1 ⟨r,rfl,(F2.out.2.2.2.1.grown F3.out.2 (by omega)).weak (by omega)⟩)
theorem Znw (N b:Nat) (S:Pg) (h:Bool) (HE:∀h,Does N 138 b S h (single (lim (.expr h)))) (w:World) (i:Nat) (hp:Ps w b S i h) (hN:S.toks.length≤N + i) :
  Calls prog 285 #[.pointer (some ⟨b,0,none⟩)] w (Post w b S i h (single (lim (.prim h)) S.size (S.toks.drop i)) (ZaO w)):=by
 by_cases h2:(ZaK S i).k=2
 ·exact Znv b S h w i hp h2
 by_cases h3:(ZaK S i).k=3
 ·exact Zl3 b S h w i hp h3
 by_cases h1:(ZaK S i).k=1
 ·cases hs:Zhq (ZaK S i).t with
  | true=>exact Znu b S h w i hp h1 hs
  | false=>
   cases hu:ZiP (ZaK S i).t with
   | true=>exact ZpM N b S h HE w i hp hN h1 hs hu
   | false=>exact Zl5 N b S h HE w i hp hN h1 hs hu
 ·exact Zl4 N b S h HE w i hp hN h1 h2 h3
open Go.RowKit L7
open S8 (lim single What)
def ZlA (N b:Nat) (S:Pg) (h:Bool):Prop:=∀(m:Nat),1≤m→m≤8→∀(w:World) (i:Nat),Ps w b S i h→S.toks.length < N + i→Calls prog 203 #[.pointer (some ⟨b,0,none⟩),.int .i64 (m:Int)] w (Post w b S i h (single (lim (.bin m h)) S.size (S.toks.drop i)) (ZaO w))
theorem Zl7 (N b:Nat) (S:Pg) (h:Bool) (a0:Int) (HO:ZlA N b S h) (w:World) (i:Nat) (hp:Ps w b S i h) (hN:S.toks.length≤N + i) (ha:a0=place S i) (hw:Zag S i=S8.ZhW) :
  Calls prog 268 #[.pointer (some ⟨b,0,none⟩),.int .i64 34,.int .i64 3] w (Post w b S i h ((do let _ ← S8.must S8.ZhW;let x ← single (lim (.bin 3 h));pure (.mk 34 [] 0 a0 [x]):S8.P Nd) S.size (S.toks.drop i)) (ZaO w)):=by
 have HM:Hid (∀R,(do let x ← single (lim (.bin 3 h));pure (.mk 34 [] 0 a0 [x]):S8.P Nd) S.size (S.toks.drop (i + 1))=R→(do let _ ← S8.must S8.ZhW;let x ← single (lim (.bin 3 h));pure (.mk 34 [] 0 a0 [x]):S8.P Nd) S.size (S.toks.drop i)=R):=hid (by
  intro R h1
  rw [S8.Zac,Zay S i (show S8.ZhW≠[] by decide),if_pos hw]
  exact h1)
 have HC:Hid (∀w j (_:Ps w b S j h) (_:S.toks.length < N + j),Calls prog 203 #[.pointer (some ⟨b,0,none⟩),.int .i64 3] w (Post w b S j h (single (lim (.bin 3 h)) S.size (S.toks.drop j)) (ZaO w))):=hid (fun w j p hj=>HO 3 (by omega) (by omega) w j p hj)
 clear HO
 have HP:=hid hp
 have HW:=hid hw
 clear hw
 have B0:=ZaH b S i h _ (hp.alloc (.cells z5 24)) 34
 rw [← ha] at B0
 have HPL:=hid ha
 have hle:=hp.le
 clear hp ha
 go_enter func268,ntmps268
 go_wp2_with (first
  | (go_at_call 123;(with_reducible refine B0.mono ?_);rintro e w1 ⟨rfl,h1⟩;have F1:=hid (Fn.start HP.out h1 34 0 a0);clear h1;have C1:=Zau b S i h _ F1.out.ps;rw [HW.out] at C1;replace C1:Calls prog 60 #[.pointer (some ⟨b,0,none⟩)] _ fun e w'=>e=.returned (.string ⟨#[110,111,116]⟩)∧Below (World.heap _).size _ w':=C1)
  | (go_at_call 60;(with_reducible refine C1.mono ?_);rintro e w2 ⟨rfl,h1⟩;have F2:=hid (F1.out.look h1);clear h1 C1;have C2:=Za6 b S i h _ F2.out.ps ⟨#[110,111,116]⟩ HW.out (by decide))
  | (go_at_call 119;(with_reducible refine C2.mono ?_);rintro e w3 ⟨rfl,p,g⟩;have F3:=hid (F2.out.call g p);clear g p C2;have C3:=HC.out _ (i + 1) F3.out.ps (by omega))
  | (go_at_call 203;(with_reducible refine C3.mono ?_);rintro e w4 h1;rcases h1.ways with ⟨a,j,h',e1,rfl,g,p,rfl⟩ | ⟨x,j4,v,e1,rfl,g,hj4,p,r4,rfl,ho⟩;exact ⟨rfl,Post.err (HM.out _ (by simp only [S8.Zac,e1])) (Zaa F3.out.fr g (.inl rfl)) p⟩;have F4:=hid (And.intro (F3.out.call g p) ho);have G4:=hid (F3.out.single g p ho);have E4:=hid e1;clear h1 e1 g p ho C3)
  | (refine Za7 G4.out.1 G4.out.2 rfl _ _ rfl rfl rfl ?_;intro w5 h1;have F5:=hid h1;clear h1)
  | (refine Zax F5.out rfl _ rfl rfl ?_)
  | (refine Zaw F5.out rfl _ _ rfl rfl rfl ?_;intro w6 h1 h2 h3 h4;have F6:=hid (And.intro h1 (And.intro h2 (And.intro h3 h4)));clear h1 h2 h3 h4))
 refine ret24 results268 F6.out.1
  (Post.ok (j:=j4) (HM.out _ (by (try simp only [S8.Zac,E4.out]);rfl)) F6.out.2.1 F6.out.2.2.1 (by omega) F6.out.2.2.2)
theorem Zl8 (N b:Nat) (S:Pg) (h:Bool) (a0:Int) (HO:ZlA N b S h) (w:World) (i:Nat) (hp:Ps w b S i h) (hN:S.toks.length≤N + i) (ha:a0=place S i) (hw:Zag S i=S8.Zcr) :
  Calls prog 268 #[.pointer (some ⟨b,0,none⟩),.int .i64 33,.int .i64 8] w (Post w b S i h ((do let _ ← S8.must S8.Zcr;let x ← single (lim (.bin 8 h));pure (.mk 33 [] 0 a0 [x]):S8.P Nd) S.size (S.toks.drop i)) (ZaO w)):=by
 have HM:Hid (∀R,(do let x ← single (lim (.bin 8 h));pure (.mk 33 [] 0 a0 [x]):S8.P Nd) S.size (S.toks.drop (i + 1))=R→(do let _ ← S8.must S8.Zcr;let x ← single (lim (.bin 8 h));pure (.mk 33 [] 0 a0 [x]):S8.P Nd) S.size (S.toks.drop i)=R):=hid (by
  intro R h1
  rw [S8.Zac,Zay S i (show S8.Zcr≠[] by decide),if_pos hw]
  exact h1)
 have HC:Hid (∀w j (_:Ps w b S j h) (_:S.toks.length < N + j),Calls prog 203 #[.pointer (some ⟨b,0,none⟩),.int .i64 8] w (Post w b S j h (single (lim (.bin 8 h)) S.size (S.toks.drop j)) (ZaO w))):=hid (fun w j p hj=>HO 8 (by omega) (by omega) w j p hj)
 clear HO
 have HP:=hid hp
 have HW:=hid hw
 clear hw
 have B0:=ZaH b S i h _ (hp.alloc (.cells z5 24)) 33
 rw [← ha] at B0
 have HPL:=hid ha
 have hle:=hp.le
 clear hp ha
 go_enter func268,ntmps268
 go_wp2_with (first
  | (go_at_call 123;(with_reducible refine B0.mono ?_);rintro e w1 ⟨rfl,h1⟩;have F1:=hid (Fn.start HP.out h1 33 0 a0);clear h1;have C1:=Zau b S i h _ F1.out.ps;rw [HW.out] at C1;replace C1:Calls prog 60 #[.pointer (some ⟨b,0,none⟩)] _ fun e w'=>e=.returned (.string ⟨#[45]⟩)∧Below (World.heap _).size _ w':=C1)
  | (go_at_call 60;(with_reducible refine C1.mono ?_);rintro e w2 ⟨rfl,h1⟩;have F2:=hid (F1.out.look h1);clear h1 C1;have C2:=Za6 b S i h _ F2.out.ps ⟨#[45]⟩ HW.out (by decide))
  | (go_at_call 119;(with_reducible refine C2.mono ?_);rintro e w3 ⟨rfl,p,g⟩;have F3:=hid (F2.out.call g p);clear g p C2;have C3:=HC.out _ (i + 1) F3.out.ps (by omega))
  | (go_at_call 203;(with_reducible refine C3.mono ?_);rintro e w4 h1;rcases h1.ways with ⟨a,j,h',e1,rfl,g,p,rfl⟩ | ⟨x,j4,v,e1,rfl,g,hj4,p,r4,rfl,ho⟩;exact ⟨rfl,Post.err (HM.out _ (by simp only [S8.Zac,e1])) (Zaa F3.out.fr g (.inl rfl)) p⟩;have F4:=hid (And.intro (F3.out.call g p) ho);have G4:=hid (F3.out.single g p ho);have E4:=hid e1;clear h1 e1 g p ho C3)
  | (refine Za7 G4.out.1 G4.out.2 rfl _ _ rfl rfl rfl ?_;intro w5 h1;have F5:=hid h1;clear h1)
  | (refine Zax F5.out rfl _ rfl rfl ?_)
  | (refine Zaw F5.out rfl _ _ rfl rfl rfl ?_;intro w6 h1 h2 h3 h4;have F6:=hid (And.intro h1 (And.intro h2 (And.intro h3 h4)));clear h1 h2 h3 h4))
 refine ret24 results268 F6.out.1
  (Post.ok (j:=j4) (HM.out _ (by (try simp only [S8.Zac,E4.out]);rfl)) F6.out.2.1 F6.out.2.2.1 (by omega) F6.out.2.2.2)
open Go.RowKit L7
open S8 (lim single What)
theorem Zc3 {P:Program} {fn:Func} {p u:Tmp} {ty:TypeId} (h:fn.results=#[.cell p ty,.tmp u]) (tmps:Array Value) (w:World) (g:Nat) (t:TypeId) (cs:Array Value) (fr:Nat × Nat) (d:TypeDesc) (n:Value)
  (hp:tmps.getD p undef=.pointer (some ⟨g,0,none⟩)) (hn:tmps.getD u undef=n) (hg:w.heap[g]?=some (.cells cs t fr))
  (hu:P.underlying ty=some d) (hd:(match d with | .struct _ | .array _ _=>true | _=>false)=true) (hi:(P.info? ty).map (·.size)=some cs.size) :
  (results fn tmps).run P w=.ok (.tuple #[.agg cs,n]) w:=by
 rw [results_cell_tmp h,hp,hn]
 simp [asAddr,run_loadVar_row w g t ty cs fr d hg hu hd hi]
theorem ZoQ (h:Bool) (e:Int) (l:List PTok):single (lim (.post h)) e l=S8.post lim h e l:=by
 rw [S8.ZbG,S8.Zbb (nt:=.post h) rfl]
 show (match S8.one (S8.post lim h) e l with | .out=>_ | .err a=>_ | .ok [x] r=>_ | .ok _ r=>_)=_
 unfold S8.one
 rw [S8.Zac]
 cases S8.post lim h e l <;> rfl
theorem ZtL {h:Bool} {S:Pg} {i:Nat} (hl:S.toks.length≤i):single (lim (.post h)) S.size (S.toks.drop i)=.err (place S i):=by
 rw [ZoQ,(Zci hl).1,(Zci hl).2];rfl
def UV (w:World):(Nd × Nat)→Value→World→Prop:=fun p v w'=>∃v1,v=.tuple #[v1,.int .i64 (p.2:Int)]∧Own w' w.heap.size p.1 v1
theorem ZqI (N b:Nat) (S:Pg) (h:Bool) (HO:ZlA N b S h) (m:Nat) (w:World) (i:Nat) (hp:Ps w b S i h) (hN:S.toks.length≤N + i) (_:∀w,Ps w b S i h→Calls prog 269 #[.pointer (some ⟨b,0,none⟩)] w (Post w b S i h (single (lim (.post h)) S.size (S.toks.drop i)) (ZaO w))) (hm:m≤3) (hw:Zag S i=S8.ZhW) :
  Calls prog 245 #[.pointer (some ⟨b,0,none⟩),.int .i64 (m:Int)] w (Post w b S i h (S8.Zb3 m h S.size (S.toks.drop i)) (UV w)):=by
 have HM:Hid (∀R:S8.Res Nd,((do let _ ← S8.must S8.ZhW;let x ← single (lim (.bin 3 h));pure (.mk 34 [] 0 (place S i) [x]):S8.P Nd) S.size (S.toks.drop i))=R→S8.Zb3 m h S.size (S.toks.drop i)=match R with | .out=>.out | .err a=>.err a | .ok x r=>.ok (x,3) r):=hid (by
  intro R h1
  unfold S8.Zb3
  refine ZaN ?_ (fun hl=>absurd (ZaL (S:=S) (i:=i) (by rw [hw];decide)) (by omega))
  simp only [S8.Zac,S8.Zae,Zaf S i (show S8.ZhW≠[] by decide),Zaf S i (show S8.Zcr≠[] by decide),hw,decide_true,if_true,hm]
  subst h1
  simp only [S8.Zac]
  cases S8.must S8.ZhW S.size (S.toks.drop i) with
  | out=>rfl
  | err a=>rfl
  | ok u r=>
   simp only
   cases single (lim (.bin 3 h)) S.size r <;> rfl)
 have HP:=hid hp
 have hbb:=hp.lt
 have F0:=hid (And.intro (hp.alloc (.cells z5 24)) (And.intro (Is.fresh w 24 z5) (Zaj (r:=some b) ((Below.refl w.heap.size w).alloc (Nat.le_refl _) (.cells z5 24)))))
 have WDh:=hid (fun w hp=>Zau b S i h w hp)
 have HC:=hid (fun w (hp:Ps w b S i h)=>Zl7 N b S h (place S i) HO w i hp hN rfl hw)
 have HW:=hid hw
 have hm3:(m:Int)≤3:=by omega
 clear hp HO hw
 go_enter func245,ntmps245
 go_wp2_with (first
  | (go_at_call 60;first | (have WD:=(show _→Calls prog 60 #[.pointer (some ⟨b,0,none⟩)] _ (fun e w'=>e=.returned (.string ⟨#[110,111,116]⟩)∧Below (World.heap _).size _ w') from fun hh=>by rw [HW.out] at hh;exact hh) (WDh.out _ F0.out.1);(with_reducible refine WD.mono ?_);rintro e w1 ⟨rfl,h1⟩;have F1:=hid (And.intro (F0.out.1.below h1 F0.out.1.lt) (And.intro (F0.out.2.1.below h1 F0.out.2.1.lt) (Zan F0.out.2.2 (h1.mono F0.out.2.2.size))));clear h1 WD F0) | (have WD:=(show _→Calls prog 60 #[.pointer (some ⟨b,0,none⟩)] _ (fun e w'=>e=.returned (.string ⟨#[110,111,116]⟩)∧Below (World.heap _).size _ w') from fun hh=>by rw [HW.out] at hh;exact hh) (WDh.out _ F1.out.1);(with_reducible refine WD.mono ?_);rintro e w1 ⟨rfl,h1⟩;have F3:=hid (And.intro (F1.out.1.below h1 F1.out.1.lt) (And.intro (F1.out.2.1.below h1 F1.out.2.1.lt) (Zan F1.out.2.2 (h1.mono F1.out.2.2.size))));clear h1 WD F1;have F1:=F3;clear F3))
  | (go_at_call 268;(have C1:=HC.out _ F1.out.1);(with_reducible refine C1.mono ?_);rintro e w2 h1;rcases h1.ways with ⟨a,j,h',e1,rfl,g,p,rfl⟩ | ⟨x,j1,v,e1,rfl,g,hj1,p,r,rfl,ho⟩;exact ⟨rfl,Post.err (HM.out _ e1) (Zaa F1.out.2.2 g (.inl rfl)) p⟩;have F2:=hid (And.intro p (And.intro (Zaa F1.out.2.2 g (.inl rfl)) (And.intro (F1.out.2.1.kept g (by simp;omega)) (And.intro (ho.weak F1.out.2.1.lt) e1))));clear h1 e1 g p ho C1)
  | (refine Zah F2.out.2.2.1 rfl 24 _ _ rfl (nd5 x.k x.t x.n x.a r) rfl rfl inf24 rfl (by have h1:=F2.out.2.2.2.1.one;simp [nd5,h1];exact ⟨rfl,rfl,rfl,rfl⟩) ?_;intro w3 h1 h2;have F3:=hid (And.intro h1 h2);clear h1 h2))
 refine bodyPost_ret (v:=.tuple #[.agg (nd5 x.k x.t x.n x.a r),.int .i64 3]) (Zc3 results245 _ _ w.heap.size 24 _ (0,0) _ _ rfl rfl F3.out.1 underlying24 rfl inf24) rfl
  (Post.ok (j:=j1) (x:=(x,3)) (HM.out _ F2.out.2.2.2.2) (Zaa F2.out.2.1 F3.out.2 (.inr fun j e=>by injection e with e;omega)) (F2.out.1.kept F3.out.2 hbb) hj1 ⟨_,rfl,r,rfl,(F2.out.2.2.2.1.grown F3.out.2 (by omega)).weak (by omega)⟩)
theorem ZqJ (N b:Nat) (S:Pg) (h:Bool) (HO:ZlA N b S h) (m:Nat) (w:World) (i:Nat) (hp:Ps w b S i h) (hN:S.toks.length≤N + i) (_:∀w,Ps w b S i h→Calls prog 269 #[.pointer (some ⟨b,0,none⟩)] w (Post w b S i h (single (lim (.post h)) S.size (S.toks.drop i)) (ZaO w))) (hw:Zag S i=S8.Zcr) :
  Calls prog 245 #[.pointer (some ⟨b,0,none⟩),.int .i64 (m:Int)] w (Post w b S i h (S8.Zb3 m h S.size (S.toks.drop i)) (UV w)):=by
 have HM:Hid (∀R:S8.Res Nd,((do let _ ← S8.must S8.Zcr;let x ← single (lim (.bin 8 h));pure (.mk 33 [] 0 (place S i) [x]):S8.P Nd) S.size (S.toks.drop i))=R→S8.Zb3 m h S.size (S.toks.drop i)=match R with | .out=>.out | .err a=>.err a | .ok x r=>.ok (x,8) r):=hid (by
  intro R h1
  unfold S8.Zb3
  refine ZaN ?_ (fun hl=>absurd (ZaL (S:=S) (i:=i) (by rw [hw];decide)) (by omega))
  simp (decide:=true) only [S8.Zac,S8.Zae,Zaf S i (show S8.ZhW≠[] by decide),Zaf S i (show S8.Zcr≠[] by decide),hw,if_true,if_false]
  subst h1
  simp only [S8.Zac]
  cases S8.must S8.Zcr S.size (S.toks.drop i) with
  | out=>rfl
  | err a=>rfl
  | ok u r=>
   simp only
   cases single (lim (.bin 8 h)) S.size r <;> rfl)
 have HP:=hid hp
 have hbb:=hp.lt
 have F0:=hid (And.intro (hp.alloc (.cells z5 24)) (And.intro (Is.fresh w 24 z5) (Zaj (r:=some b) ((Below.refl w.heap.size w).alloc (Nat.le_refl _) (.cells z5 24)))))
 have WDh:=hid (fun w hp=>Zau b S i h w hp)
 have HC:=hid (fun w (hp:Ps w b S i h)=>Zl8 N b S h (place S i) HO w i hp hN rfl hw)
 have HW:=hid hw
 clear hp HO hw
 go_enter func245,ntmps245
 go_wp2_with (first
  | (go_at_call 60;first | (have WD:=(show _→Calls prog 60 #[.pointer (some ⟨b,0,none⟩)] _ (fun e w'=>e=.returned (.string ⟨#[45]⟩)∧Below (World.heap _).size _ w') from fun hh=>by rw [HW.out] at hh;exact hh) (WDh.out _ F0.out.1);(with_reducible refine WD.mono ?_);rintro e w1 ⟨rfl,h1⟩;have F1:=hid (And.intro (F0.out.1.below h1 F0.out.1.lt) (And.intro (F0.out.2.1.below h1 F0.out.2.1.lt) (Zan F0.out.2.2 (h1.mono F0.out.2.2.size))));clear h1 WD F0) | (have WD:=(show _→Calls prog 60 #[.pointer (some ⟨b,0,none⟩)] _ (fun e w'=>e=.returned (.string ⟨#[45]⟩)∧Below (World.heap _).size _ w') from fun hh=>by rw [HW.out] at hh;exact hh) (WDh.out _ F1.out.1);(with_reducible refine WD.mono ?_);rintro e w1 ⟨rfl,h1⟩;have F3:=hid (And.intro (F1.out.1.below h1 F1.out.1.lt) (And.intro (F1.out.2.1.below h1 F1.out.2.1.lt) (Zan F1.out.2.2 (h1.mono F1.out.2.2.size))));clear h1 WD F1;have F1:=F3;clear F3))
  | (go_at_call 268;(have C1:=HC.out _ F1.out.1);(with_reducible refine C1.mono ?_);rintro e w2 h1;rcases h1.ways with ⟨a,j,h',e1,rfl,g,p,rfl⟩ | ⟨x,j1,v,e1,rfl,g,hj1,p,r,rfl,ho⟩;exact ⟨rfl,Post.err (HM.out _ e1) (Zaa F1.out.2.2 g (.inl rfl)) p⟩;have F2:=hid (And.intro p (And.intro (Zaa F1.out.2.2 g (.inl rfl)) (And.intro (F1.out.2.1.kept g (by simp;omega)) (And.intro (ho.weak F1.out.2.1.lt) e1))));clear h1 e1 g p ho C1)
  | (refine Zah F2.out.2.2.1 rfl 24 _ _ rfl (nd5 x.k x.t x.n x.a r) rfl rfl inf24 rfl (by have h1:=F2.out.2.2.2.1.one;simp [nd5,h1];exact ⟨rfl,rfl,rfl,rfl⟩) ?_;intro w3 h1 h2;have F3:=hid (And.intro h1 h2);clear h1 h2))
 refine bodyPost_ret (v:=.tuple #[.agg (nd5 x.k x.t x.n x.a r),.int .i64 8]) (Zc3 results245 _ _ w.heap.size 24 _ (0,0) _ _ rfl rfl F3.out.1 underlying24 rfl inf24) rfl
  (Post.ok (j:=j1) (x:=(x,8)) (HM.out _ F2.out.2.2.2.2) (Zaa F2.out.2.1 F3.out.2 (.inr fun j e=>by injection e with e;omega)) (F2.out.1.kept F3.out.2 hbb) hj1 ⟨_,rfl,r,rfl,(F2.out.2.2.2.1.grown F3.out.2 (by omega)).weak (by omega)⟩)
theorem ZjH (N b:Nat) (S:Pg) (h:Bool) (_:ZlA N b S h) (m:Nat) (w:World) (i:Nat) (hp:Ps w b S i h) (_:S.toks.length≤N + i) (HQ:∀w,Ps w b S i h→Calls prog 269 #[.pointer (some ⟨b,0,none⟩)] w (Post w b S i h (single (lim (.post h)) S.size (S.toks.drop i)) (ZaO w))) (hm:3 < m) (hw:Zag S i=S8.ZhW) :
  Calls prog 245 #[.pointer (some ⟨b,0,none⟩),.int .i64 (m:Int)] w (Post w b S i h (S8.Zb3 m h S.size (S.toks.drop i)) (UV w)):=by
 have HM:Hid (∀R:S8.Res Nd,single (lim (.post h)) S.size (S.toks.drop i)=R→S8.Zb3 m h S.size (S.toks.drop i)=match R with | .out=>.out | .err a=>.err a | .ok x r=>.ok (x,9) r):=hid (by
  intro R h1
  unfold S8.Zb3
  refine ZaN ?_ (fun hl=>absurd (ZaL (S:=S) (i:=i) (by rw [hw];decide)) (by omega))
  simp only [S8.Zac,S8.Zae,Zaf S i (show S8.ZhW≠[] by decide),Zaf S i (show S8.Zcr≠[] by decide),hw,decide_true,if_true,show ¬ m≤3 by omega,if_false]
  subst h1
  cases single (lim (.post h)) S.size (S.toks.drop i) <;> rfl)
 have HP:=hid hp
 have hbb:=hp.lt
 have F0:=hid (And.intro (hp.alloc (.cells z5 24)) (And.intro (Is.fresh w 24 z5) (Zaj (r:=some b) ((Below.refl w.heap.size w).alloc (Nat.le_refl _) (.cells z5 24)))))
 have WDh:=hid (fun w hp=>Zau b S i h w hp)
 have HC:=hid (fun w (hp:Ps w b S i h)=>HQ w hp)
 have HW:=hid hw
 have hm3:¬ (m:Int)≤3:=by omega
 clear hp HQ hw
 go_enter func245,ntmps245
 go_wp2_with (first
  | (go_at_call 60;first | (have WD:=(show _→Calls prog 60 #[.pointer (some ⟨b,0,none⟩)] _ (fun e w'=>e=.returned (.string ⟨#[110,111,116]⟩)∧Below (World.heap _).size _ w') from fun hh=>by rw [HW.out] at hh;exact hh) (WDh.out _ F0.out.1);(with_reducible refine WD.mono ?_);rintro e w1 ⟨rfl,h1⟩;have F1:=hid (And.intro (F0.out.1.below h1 F0.out.1.lt) (And.intro (F0.out.2.1.below h1 F0.out.2.1.lt) (Zan F0.out.2.2 (h1.mono F0.out.2.2.size))));clear h1 WD F0) | (have WD:=(show _→Calls prog 60 #[.pointer (some ⟨b,0,none⟩)] _ (fun e w'=>e=.returned (.string ⟨#[110,111,116]⟩)∧Below (World.heap _).size _ w') from fun hh=>by rw [HW.out] at hh;exact hh) (WDh.out _ F1.out.1);(with_reducible refine WD.mono ?_);rintro e w1 ⟨rfl,h1⟩;have F3:=hid (And.intro (F1.out.1.below h1 F1.out.1.lt) (And.intro (F1.out.2.1.below h1 F1.out.2.1.lt) (Zan F1.out.2.2 (h1.mono F1.out.2.2.size))));clear h1 WD F1;have F1:=F3;clear F3))
  | (go_at_call 269;(have C1:=HC.out _ F1.out.1);(with_reducible refine C1.mono ?_);rintro e w2 h1;rcases h1.ways with ⟨a,j,h',e1,rfl,g,p,rfl⟩ | ⟨x,j1,v,e1,rfl,g,hj1,p,r,rfl,ho⟩;exact ⟨rfl,Post.err (HM.out _ e1) (Zaa F1.out.2.2 g (.inl rfl)) p⟩;have F2:=hid (And.intro p (And.intro (Zaa F1.out.2.2 g (.inl rfl)) (And.intro (F1.out.2.1.kept g (by simp;omega)) (And.intro (ho.weak F1.out.2.1.lt) e1))));clear h1 e1 g p ho C1)
  | (refine Zah F2.out.2.2.1 rfl 24 _ _ rfl (nd5 x.k x.t x.n x.a r) rfl rfl inf24 rfl (by have h1:=F2.out.2.2.2.1.one;simp [nd5,h1];exact ⟨rfl,rfl,rfl,rfl⟩) ?_;intro w3 h1 h2;have F3:=hid (And.intro h1 h2);clear h1 h2))
 refine bodyPost_ret (v:=.tuple #[.agg (nd5 x.k x.t x.n x.a r),.int .i64 9]) (Zc3 results245 _ _ w.heap.size 24 _ (0,0) _ _ rfl rfl F3.out.1 underlying24 rfl inf24) rfl
  (Post.ok (j:=j1) (x:=(x,9)) (HM.out _ F2.out.2.2.2.2) (Zaa F2.out.2.1 F3.out.2 (.inr fun j e=>by injection e with e;omega)) (F2.out.1.kept F3.out.2 hbb) hj1 ⟨_,rfl,r,rfl,(F2.out.2.2.2.1.grown F3.out.2 (by omega)).weak (by omega)⟩)
theorem Zpw (N b:Nat) (S:Pg) (h:Bool) (_:ZlA N b S h) (m:Nat) (w:World) (i:Nat) (hp:Ps w b S i h) (_:S.toks.length≤N + i) (HQ:∀w,Ps w b S i h→Calls prog 269 #[.pointer (some ⟨b,0,none⟩)] w (Post w b S i h (single (lim (.post h)) S.size (S.toks.drop i)) (ZaO w))) (h1:Zag S i≠S8.ZhW) (h2:Zag S i≠S8.Zcr) :
  Calls prog 245 #[.pointer (some ⟨b,0,none⟩),.int .i64 (m:Int)] w (Post w b S i h (S8.Zb3 m h S.size (S.toks.drop i)) (UV w)):=by
 have HM:Hid (∀R:S8.Res Nd,single (lim (.post h)) S.size (S.toks.drop i)=R→S8.Zb3 m h S.size (S.toks.drop i)=match R with | .out=>.out | .err a=>.err a | .ok x r=>.ok (x,9) r):=hid (by
  intro R h3
  unfold S8.Zb3
  subst h3
  have k1:=h1
  have k2:=h2
  refine ZaN ?_ (fun hl=>by rw [ZtL hl])
  simp only [S8.Zac,S8.Zae,Zaf S i (show S8.ZhW≠[] by decide),Zaf S i (show S8.Zcr≠[] by decide),k1,k2,decide_false,Bool.false_eq_true,if_false]
  cases single (lim (.post h)) S.size (S.toks.drop i) <;> rfl)
 have HP:=hid hp
 have hbb:=hp.lt
 have F0:=hid (And.intro (hp.alloc (.cells z5 24)) (And.intro (Is.fresh w 24 z5) (Zaj (r:=some b) ((Below.refl w.heap.size w).alloc (Nat.le_refl _) (.cells z5 24)))))
 have WDh:=hid (fun w hp=>Zau b S i h w hp)
 have HC:=hid (fun w (hp:Ps w b S i h)=>HQ w hp)
 obtain ⟨u,hu⟩:∃u,u=mk (Zag S i):=⟨_,rfl⟩
 rw [← hu] at WDh
 have n0:(u.toList == [110,111,116])=false:=by rw [hu,Zas,Zbc];exact beq_eq_false_iff_ne.2 h1
 have n1:(u.toList == [45])=false:=by rw [hu,Zas,Zbc];exact beq_eq_false_iff_ne.2 h2
 clear hp HQ hu h1 h2
 go_enter func245,ntmps245
 go_wp2_with (first
  | (go_at_call 60;first | (have WD:=(WDh.out _ F0.out.1);(with_reducible refine WD.mono ?_);rintro e w1 ⟨rfl,h1⟩;have F1:=hid (And.intro (F0.out.1.below h1 F0.out.1.lt) (And.intro (F0.out.2.1.below h1 F0.out.2.1.lt) (Zan F0.out.2.2 (h1.mono F0.out.2.2.size))));clear h1 WD F0) | (have WD:=(WDh.out _ F1.out.1);(with_reducible refine WD.mono ?_);rintro e w1 ⟨rfl,h1⟩;have F3:=hid (And.intro (F1.out.1.below h1 F1.out.1.lt) (And.intro (F1.out.2.1.below h1 F1.out.2.1.lt) (Zan F1.out.2.2 (h1.mono F1.out.2.2.size))));clear h1 WD F1;have F1:=F3;clear F3))
  | (go_at_call 269;(have C1:=HC.out _ F1.out.1);(with_reducible refine C1.mono ?_);rintro e w2 h1;rcases h1.ways with ⟨a,j,h',e1,rfl,g,p,rfl⟩ | ⟨x,j1,v,e1,rfl,g,hj1,p,r,rfl,ho⟩;exact ⟨rfl,Post.err (HM.out _ e1) (Zaa F1.out.2.2 g (.inl rfl)) p⟩;have F2:=hid (And.intro p (And.intro (Zaa F1.out.2.2 g (.inl rfl)) (And.intro (F1.out.2.1.kept g (by simp;omega)) (And.intro (ho.weak F1.out.2.1.lt) e1))));clear h1 e1 g p ho C1)
  | (refine Zah F2.out.2.2.1 rfl 24 _ _ rfl (nd5 x.k x.t x.n x.a r) rfl rfl inf24 rfl (by have h1:=F2.out.2.2.2.1.one;simp [nd5,h1];exact ⟨rfl,rfl,rfl,rfl⟩) ?_;intro w3 h1 h2;have F3:=hid (And.intro h1 h2);clear h1 h2))
 refine bodyPost_ret (v:=.tuple #[.agg (nd5 x.k x.t x.n x.a r),.int .i64 9]) (Zc3 results245 _ _ w.heap.size 24 _ (0,0) _ _ rfl rfl F3.out.1 underlying24 rfl inf24) rfl
  (Post.ok (j:=j1) (x:=(x,9)) (HM.out _ F2.out.2.2.2.2) (Zaa F2.out.2.1 F3.out.2 (.inr fun j e=>by injection e with e;omega)) (F2.out.1.kept F3.out.2 hbb) hj1 ⟨_,rfl,r,rfl,(F2.out.2.2.2.1.grown F3.out.2 (by omega)).weak (by omega)⟩)
theorem ZqK (N b:Nat) (S:Pg) (h:Bool) (HO:ZlA N b S h) (m:Nat) (w:World) (i:Nat) (hp:Ps w b S i h) (hN:S.toks.length≤N + i) (HQ:∀w,Ps w b S i h→Calls prog 269 #[.pointer (some ⟨b,0,none⟩)] w (Post w b S i h (single (lim (.post h)) S.size (S.toks.drop i)) (ZaO w))) :
  Calls prog 245 #[.pointer (some ⟨b,0,none⟩),.int .i64 (m:Int)] w (Post w b S i h (S8.Zb3 m h S.size (S.toks.drop i)) (UV w)):=by
 by_cases h1:Zag S i=S8.ZhW
 ·by_cases hm:m≤3
  ·exact ZqI N b S h HO m w i hp hN HQ hm h1
  ·exact ZjH N b S h HO m w i hp hN HQ (by omega) h1
 ·by_cases h2:Zag S i=S8.Zcr
  ·exact ZqJ N b S h HO m w i hp hN HQ h2
  ·exact Zpw N b S h HO m w i hp hN HQ h1 h2
open Go.RowKit L7
open S8 (lim single What)
theorem Zis (h:Bool) (S:Pg) (i:Nat) (hne:∀s,s∈[S8.Zfl,S8.wIf,S8.ZbR,S8.Zd7]→Zag S i≠s):single (lim (.expr h)) S.size (S.toks.drop i)=single (lim (.bin 1 h)) S.size (S.toks.drop i):=by
 have k0:=hne S8.Zfl (by simp)
 have k1:=hne S8.wIf (by simp)
 have k2:=hne S8.ZbR (by simp)
 have k3:=hne S8.Zd7 (by simp)
 rw [ZhO]
 unfold S8.expr
 refine ZaN ?_ (fun hl=>?_)
 ·simp only [S8.Zac,S8.Zae,Zaf S i (show S8.Zfl≠[] by decide),Zaf S i (show S8.wIf≠[] by decide),Zaf S i (show S8.ZbR≠[] by decide),Zaf S i (show S8.Zd7≠[] by decide),k0,k1,k2,k3,decide_false,Bool.false_eq_true,if_false]
 ·rw [S8.ZhU (v:=1) (by omega) (by omega),(Zci hl).1,(Zci hl).2];rfl
theorem Zur (N b:Nat) (S:Pg) (h:Bool) (HE:∀h,Does N 138 b S h (single (lim (.expr h)))) (w:World) (i:Nat) (hp:Ps w b S i h) (hN:S.toks.length≤N + i) (hw:Zag S i=S8.Zfl) :
  Calls prog 138 #[.pointer (some ⟨b,0,none⟩)] w (Post w b S i h (single (lim (.expr h)) S.size (S.toks.drop i)) (ZaO w)):=by
 have HW:=hid hw
 have HC:=hid HE
 have HP:=hid hp
 have F0:=hid (And.intro (hp.alloc (.cells z5 24)) (And.intro (Is.fresh w 24 z5) (Zaj (r:=some b) ((Below.refl w.heap.size w).alloc (Nat.le_refl _) (.cells z5 24)))))
 have WD:=Zau b S i h _ F0.out.1
 have WD:Calls prog 60 #[.pointer (some ⟨b,0,none⟩)] (w.alloc (.cells z5 24)) fun e w'=>e=.returned (.string ⟨#[108,101,116]⟩)∧Below (w.alloc (.cells z5 24)).heap.size (w.alloc (.cells z5 24)) w':=by
  rw [hw] at WD;exact WD
 clear hp hw HE
 go_enter func138,ntmps138
 go_wp2_with (first
  | (go_at_call 60;(with_reducible refine WD.mono ?_);rintro e w1 ⟨rfl,h1⟩;have p1:=F0.out.1.below h1 F0.out.1.lt;have F1:=hid (And.intro p1 (And.intro (F0.out.2.1.below h1 F0.out.2.1.lt) (Zan F0.out.2.2 (h1.mono F0.out.2.2.size))));have C1:=ZnP N b S h HC.out _ i p1 hN HW.out;clear h1 p1 WD)
  | (go_at_call 199;(with_reducible refine C1.mono ?_);rintro e w2 h1;rcases h1.ways with ⟨a,j,h',e1,rfl,g,p,rfl⟩ | ⟨x,j1,v,e1,rfl,g,hj1,p,r,rfl,ho⟩;exact ⟨rfl,Post.err (e1) (Zaa F1.out.2.2 g (.inl rfl)) p⟩;have hbb:=HP.out.lt;have F2:=hid (And.intro p (And.intro (Zaa F1.out.2.2 g (.inl rfl)) (And.intro (F1.out.2.1.kept g (by simp;omega)) (And.intro (ho.weak F1.out.2.1.lt) e1))));clear h1 e1 g p ho C1)
  | (refine Zah F2.out.2.2.1 rfl 24 _ _ rfl (nd5 x.k x.t x.n x.a r) rfl rfl inf24 rfl (by have h1:=F2.out.2.2.2.1.one;simp [nd5,h1];exact ⟨rfl,rfl,rfl,rfl⟩) ?_;intro w3 h1 h2;have F3:=hid (And.intro h1 h2);clear h1 h2))
 refine ret24 results138 F3.out.1
  (Post.ok (j:=j1) (x:=x) (F2.out.2.2.2.2) (Zaa F2.out.2.1 F3.out.2 (.inr fun j e=>by injection e with e;omega)) (F2.out.1.kept F3.out.2 hbb) hj1 ⟨r,rfl,(F2.out.2.2.2.1.grown F3.out.2 (by omega)).weak (by omega)⟩)
theorem ZwO (N b:Nat) (S:Pg) (h:Bool) (HE:∀h,Does N 138 b S h (single (lim (.expr h)))) (w:World) (i:Nat) (hp:Ps w b S i h) (hN:S.toks.length≤N + i) (hw:Zag S i=S8.wIf) :
  Calls prog 138 #[.pointer (some ⟨b,0,none⟩)] w (Post w b S i h (single (lim (.expr h)) S.size (S.toks.drop i)) (ZaO w)):=by
 have HW:=hid hw
 have HC:=hid HE
 have HP:=hid hp
 have F0:=hid (And.intro (hp.alloc (.cells z5 24)) (And.intro (Is.fresh w 24 z5) (Zaj (r:=some b) ((Below.refl w.heap.size w).alloc (Nat.le_refl _) (.cells z5 24)))))
 have WD:=Zau b S i h _ F0.out.1
 have WD:Calls prog 60 #[.pointer (some ⟨b,0,none⟩)] (w.alloc (.cells z5 24)) fun e w'=>e=.returned (.string ⟨#[105,102]⟩)∧Below (w.alloc (.cells z5 24)).heap.size (w.alloc (.cells z5 24)) w':=by
  rw [hw] at WD;exact WD
 clear hp hw HE
 go_enter func138,ntmps138
 go_wp2_with (first
  | (go_at_call 60;(with_reducible refine WD.mono ?_);rintro e w1 ⟨rfl,h1⟩;have p1:=F0.out.1.below h1 F0.out.1.lt;have F1:=hid (And.intro p1 (And.intro (F0.out.2.1.below h1 F0.out.2.1.lt) (Zan F0.out.2.2 (h1.mono F0.out.2.2.size))));have C1:=Zp4 N b S h HC.out _ i p1 hN HW.out;clear h1 p1 WD)
  | (go_at_call 200;(with_reducible refine C1.mono ?_);rintro e w2 h1;rcases h1.ways with ⟨a,j,h',e1,rfl,g,p,rfl⟩ | ⟨x,j1,v,e1,rfl,g,hj1,p,r,rfl,ho⟩;exact ⟨rfl,Post.err (e1) (Zaa F1.out.2.2 g (.inl rfl)) p⟩;have hbb:=HP.out.lt;have F2:=hid (And.intro p (And.intro (Zaa F1.out.2.2 g (.inl rfl)) (And.intro (F1.out.2.1.kept g (by simp;omega)) (And.intro (ho.weak F1.out.2.1.lt) e1))));clear h1 e1 g p ho C1)
  | (refine Zah F2.out.2.2.1 rfl 24 _ _ rfl (nd5 x.k x.t x.n x.a r) rfl rfl inf24 rfl (by have h1:=F2.out.2.2.2.1.one;simp [nd5,h1];exact ⟨rfl,rfl,rfl,rfl⟩) ?_;intro w3 h1 h2;have F3:=hid (And.intro h1 h2);clear h1 h2))
 refine ret24 results138 F3.out.1
  (Post.ok (j:=j1) (x:=x) (F2.out.2.2.2.2) (Zaa F2.out.2.1 F3.out.2 (.inr fun j e=>by injection e with e;omega)) (F2.out.1.kept F3.out.2 hbb) hj1 ⟨r,rfl,(F2.out.2.2.2.1.grown F3.out.2 (by omega)).weak (by omega)⟩)
theorem Zqb (N b:Nat) (S:Pg) (h:Bool) (HE:∀h,Does N 138 b S h (single (lim (.expr h)))) (HA:Does N 244 b S false (single (lim (.one .arm)))) (w:World) (i:Nat) (hp:Ps w b S i h) (hN:S.toks.length≤N + i) (hw:Zag S i=S8.ZbR) :
  Calls prog 138 #[.pointer (some ⟨b,0,none⟩)] w (Post w b S i h (single (lim (.expr h)) S.size (S.toks.drop i)) (ZaO w)):=by
 have HW:=hid hw
 have HC:=hid HE
 have HAr:=hid HA
 have HP:=hid hp
 have F0:=hid (And.intro (hp.alloc (.cells z5 24)) (And.intro (Is.fresh w 24 z5) (Zaj (r:=some b) ((Below.refl w.heap.size w).alloc (Nat.le_refl _) (.cells z5 24)))))
 have WD:=Zau b S i h _ F0.out.1
 have WD:Calls prog 60 #[.pointer (some ⟨b,0,none⟩)] (w.alloc (.cells z5 24)) fun e w'=>e=.returned (.string ⟨#[109,97,116,99,104]⟩)∧Below (w.alloc (.cells z5 24)).heap.size (w.alloc (.cells z5 24)) w':=by
  rw [hw] at WD;exact WD
 clear hp hw HE HA
 go_enter func138,ntmps138
 go_wp2_with (first
  | (go_at_call 60;(with_reducible refine WD.mono ?_);rintro e w1 ⟨rfl,h1⟩;have p1:=F0.out.1.below h1 F0.out.1.lt;have F1:=hid (And.intro p1 (And.intro (F0.out.2.1.below h1 F0.out.2.1.lt) (Zan F0.out.2.2 (h1.mono F0.out.2.2.size))));have C1:=Zk3 N b S h HC.out HAr.out _ i p1 hN HW.out;clear h1 p1 WD)
  | (go_at_call 201;(with_reducible refine C1.mono ?_);rintro e w2 h1;rcases h1.ways with ⟨a,j,h',e1,rfl,g,p,rfl⟩ | ⟨x,j1,v,e1,rfl,g,hj1,p,r,rfl,ho⟩;exact ⟨rfl,Post.err (e1) (Zaa F1.out.2.2 g (.inl rfl)) p⟩;have hbb:=HP.out.lt;have F2:=hid (And.intro p (And.intro (Zaa F1.out.2.2 g (.inl rfl)) (And.intro (F1.out.2.1.kept g (by simp;omega)) (And.intro (ho.weak F1.out.2.1.lt) e1))));clear h1 e1 g p ho C1)
  | (refine Zah F2.out.2.2.1 rfl 24 _ _ rfl (nd5 x.k x.t x.n x.a r) rfl rfl inf24 rfl (by have h1:=F2.out.2.2.2.1.one;simp [nd5,h1];exact ⟨rfl,rfl,rfl,rfl⟩) ?_;intro w3 h1 h2;have F3:=hid (And.intro h1 h2);clear h1 h2))
 refine ret24 results138 F3.out.1
  (Post.ok (j:=j1) (x:=x) (F2.out.2.2.2.2) (Zaa F2.out.2.1 F3.out.2 (.inr fun j e=>by injection e with e;omega)) (F2.out.1.kept F3.out.2 hbb) hj1 ⟨r,rfl,(F2.out.2.2.2.1.grown F3.out.2 (by omega)).weak (by omega)⟩)
theorem Zus (N b:Nat) (S:Pg) (h:Bool) (HE:∀h,Does N 138 b S h (single (lim (.expr h)))) (w:World) (i:Nat) (hp:Ps w b S i h) (hN:S.toks.length≤N + i) (hw:Zag S i=S8.Zd7) :
  Calls prog 138 #[.pointer (some ⟨b,0,none⟩)] w (Post w b S i h (single (lim (.expr h)) S.size (S.toks.drop i)) (ZaO w)):=by
 have HW:=hid hw
 have HC:=hid HE
 have HP:=hid hp
 have F0:=hid (And.intro (hp.alloc (.cells z5 24)) (And.intro (Is.fresh w 24 z5) (Zaj (r:=some b) ((Below.refl w.heap.size w).alloc (Nat.le_refl _) (.cells z5 24)))))
 have WD:=Zau b S i h _ F0.out.1
 have WD:Calls prog 60 #[.pointer (some ⟨b,0,none⟩)] (w.alloc (.cells z5 24)) fun e w'=>e=.returned (.string ⟨#[102,117,110]⟩)∧Below (w.alloc (.cells z5 24)).heap.size (w.alloc (.cells z5 24)) w':=by
  rw [hw] at WD;exact WD
 clear hp hw HE
 go_enter func138,ntmps138
 go_wp2_with (first
  | (go_at_call 60;(with_reducible refine WD.mono ?_);rintro e w1 ⟨rfl,h1⟩;have p1:=F0.out.1.below h1 F0.out.1.lt;have F1:=hid (And.intro p1 (And.intro (F0.out.2.1.below h1 F0.out.2.1.lt) (Zan F0.out.2.2 (h1.mono F0.out.2.2.size))));have C1:=Zp1 N b S h HC.out _ i p1 hN HW.out;clear h1 p1 WD)
  | (go_at_call 202;(with_reducible refine C1.mono ?_);rintro e w2 h1;rcases h1.ways with ⟨a,j,h',e1,rfl,g,p,rfl⟩ | ⟨x,j1,v,e1,rfl,g,hj1,p,r,rfl,ho⟩;exact ⟨rfl,Post.err (e1) (Zaa F1.out.2.2 g (.inl rfl)) p⟩;have hbb:=HP.out.lt;have F2:=hid (And.intro p (And.intro (Zaa F1.out.2.2 g (.inl rfl)) (And.intro (F1.out.2.1.kept g (by simp;omega)) (And.intro (ho.weak F1.out.2.1.lt) e1))));clear h1 e1 g p ho C1)
  | (refine Zah F2.out.2.2.1 rfl 24 _ _ rfl (nd5 x.k x.t x.n x.a r) rfl rfl inf24 rfl (by have h1:=F2.out.2.2.2.1.one;simp [nd5,h1];exact ⟨rfl,rfl,rfl,rfl⟩) ?_;intro w3 h1 h2;have F3:=hid (And.intro h1 h2);clear h1 h2))
 refine ret24 results138 F3.out.1
  (Post.ok (j:=j1) (x:=x) (F2.out.2.2.2.2) (Zaa F2.out.2.1 F3.out.2 (.inr fun j e=>by injection e with e;omega)) (F2.out.1.kept F3.out.2 hbb) hj1 ⟨r,rfl,(F2.out.2.2.2.1.grown F3.out.2 (by omega)).weak (by omega)⟩)
theorem Zse (N b i:Nat) (S:Pg) (h:Bool) (HQ:∀w,Ps w b S i h→Calls prog 203 #[.pointer (some ⟨b,0,none⟩),.int .i64 1] w (Post w b S i h (single (lim (.bin 1 h)) S.size (S.toks.drop i)) (ZaO w))) (w:World) (hp:Ps w b S i h) (_:S.toks.length≤N + i) (hne:∀s,s∈[S8.Zfl,S8.wIf,S8.ZbR,S8.Zd7]→Zag S i≠s) :
  Calls prog 138 #[.pointer (some ⟨b,0,none⟩)] w (Post w b S i h (single (lim (.expr h)) S.size (S.toks.drop i)) (ZaO w)):=by
 have HNE:=hid hne
 have HQc:=hid HQ
 have HP:=hid hp
 have F0:=hid (And.intro (hp.alloc (.cells z5 24)) (And.intro (Is.fresh w 24 z5) (Zaj (r:=some b) ((Below.refl w.heap.size w).alloc (Nat.le_refl _) (.cells z5 24)))))
 have WD:=Zau b S i h _ F0.out.1
 obtain ⟨u,hu⟩:∃u,u=mk (Zag S i):=⟨_,rfl⟩
 rw [← hu] at WD
 have n0:(u.toList == [108,101,116])=false:=by rw [hu,Zas,Zbc];exact beq_eq_false_iff_ne.2 (hne S8.Zfl (by simp))
 have n1:(u.toList == [105,102])=false:=by rw [hu,Zas,Zbc];exact beq_eq_false_iff_ne.2 (hne S8.wIf (by simp))
 have n2:(u.toList == [109,97,116,99,104])=false:=by rw [hu,Zas,Zbc];exact beq_eq_false_iff_ne.2 (hne S8.ZbR (by simp))
 have n3:(u.toList == [102,117,110])=false:=by rw [hu,Zas,Zbc];exact beq_eq_false_iff_ne.2 (hne S8.Zd7 (by simp))
 clear hu
 clear hp hne HQ
 go_enter func138,ntmps138
 go_wp2_with (first
  | (go_at_call 60;(with_reducible refine WD.mono ?_);rintro e w1 ⟨rfl,h1⟩;have p1:=F0.out.1.below h1 F0.out.1.lt;have F1:=hid (And.intro p1 (And.intro (F0.out.2.1.below h1 F0.out.2.1.lt) (Zan F0.out.2.2 (h1.mono F0.out.2.2.size))));have C1:=HQc.out _ p1;clear h1 p1 WD)
  | (go_at_call 203;(with_reducible refine C1.mono ?_);rintro e w2 h1;rcases h1.ways with ⟨a,j,h',e1,rfl,g,p,rfl⟩ | ⟨x,j1,v,e1,rfl,g,hj1,p,r,rfl,ho⟩;exact ⟨rfl,Post.err ((Zis h S i HNE.out).trans e1) (Zaa F1.out.2.2 g (.inl rfl)) p⟩;have hbb:=HP.out.lt;have F2:=hid (And.intro p (And.intro (Zaa F1.out.2.2 g (.inl rfl)) (And.intro (F1.out.2.1.kept g (by simp;omega)) (And.intro (ho.weak F1.out.2.1.lt) e1))));clear h1 e1 g p ho C1)
  | (refine Zah F2.out.2.2.1 rfl 24 _ _ rfl (nd5 x.k x.t x.n x.a r) rfl rfl inf24 rfl (by have h1:=F2.out.2.2.2.1.one;simp [nd5,h1];exact ⟨rfl,rfl,rfl,rfl⟩) ?_;intro w3 h1 h2;have F3:=hid (And.intro h1 h2);clear h1 h2))
 refine ret24 results138 F3.out.1
  (Post.ok (j:=j1) (x:=x) ((Zis h S i HNE.out).trans F2.out.2.2.2.2) (Zaa F2.out.2.1 F3.out.2 (.inr fun j e=>by injection e with e;omega)) (F2.out.1.kept F3.out.2 hbb) hj1 ⟨r,rfl,(F2.out.2.2.2.1.grown F3.out.2 (by omega)).weak (by omega)⟩)
end Go.Proofs.YtaheffiglmglbaaGreatDoor
