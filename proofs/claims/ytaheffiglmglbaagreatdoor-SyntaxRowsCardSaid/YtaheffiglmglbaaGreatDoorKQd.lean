import Derived.Test.YtaheffiglmglbaaGreatDoorKQc
/- Expr2, Pat, Stmt1. -/
set_option maxHeartbeats 8000000
set_option maxRecDepth 20000
namespace Go.Proofs.YtaheffiglmglbaaGreatDoor
open Go.Proofs.Tryz
open Go.RowKit L7
open S8 (lim single What)
theorem ZtS {w w':World} {base:Nat} {c:List Nd} {s:Value} (h:OwnRow w base c s) (o:Obj) (k:(w.alloc o).grownBy w' (some w.heap.size)):OwnRow w' base c s:=
 h.stay fun g _ hlt=>(k.block g (by simp;omega) (by simp;omega)).trans (Below.heap_alloc w o g hlt)
theorem ZiO (N b:Nat) (S:Pg) (h:Bool) (HE:∀h,Does N 138 b S h (single (lim (.expr h)))):Does N 243 b S h (single (lim (.expr true))):=by
 intro w i hp hN
 have C1:=HE true _ i ((hp.head true).alloc (.cells z5 24)) hN
 have hlt:=hp.lt
 have hsz:∀(W:World) (u:Value),(W.setCell ⟨b,4,none⟩ u).heap.size=W.heap.size:=fun W u=>by simp [World.setCell]
 have HS:=hid hsz
 have F0:Hid (Is ((w.setCell ⟨b,4,none⟩ (.bool true)).alloc (.cells z5 24)) w.heap.size 24 z5∧w.grownBy ((w.setCell ⟨b,4,none⟩ (.bool true)).alloc (.cells z5 24)) (some b)):=hid
  ⟨by have h1:=Is.fresh (w.setCell ⟨b,4,none⟩ (.bool true)) 24 z5;rw [hsz] at h1;exact h1,Zbl (ZcJ (World.grownBy.refl w (some b)) 4 _) _⟩
 have c4:w.cell? ⟨b,4,none⟩=some (.bool h):=hp.is.at_ 4
 have z4:=hp.is.open_ 4
 have hne:w.heap.size≠b:=by omega
 clear HE hp hsz
 go_enter func243,ntmps243
 go_wp2_with (first
  | (go_at_call 138;(with_reducible refine C1.mono ?_);rintro e w2 h1;rcases h1.ways with ⟨a,j,h',e1,rfl,g,p,rfl⟩ | ⟨x,j1,v,e1,rfl,g,hj1,p,r,rfl,ho⟩;exact ⟨rfl,Post.err e1 (Zaa F0.out.2 g (.inl rfl)) p⟩;have hg2:w.heap.size < w2.heap.size:=(by have h1:=g.size;have h2:=(F0.out.1).lt;omega);have F1:=hid (And.intro p (And.intro (Zaa F0.out.2 g (.inl rfl)) (And.intro (F0.out.1.kept g (by simp;omega)) (And.intro (ho.weak (base':=w.heap.size + 1) (by have h2:=(F0.out.1).lt;omega)) e1))));clear h1 e1 g p ho C1 c4 z4)
  | (refine Zah (g:=w2.heap.size) (t:=24) (old:=z5) (by exact Is.fresh w2 24 _) rfl 24 _ _ rfl (nd5 x.k x.t x.n x.a r) rfl rfl inf24 rfl (by have h1:=F1.out.2.2.2.1.one;simp [nd5,h1];exact ⟨rfl,rfl,rfl,rfl⟩) ?_;intro w4 h1 h2;have p4:=(F1.out.1.alloc (.cells z5 24)).kept h2 (by omega);have d4:w4.cell? ⟨b,4,none⟩=some (.bool true):=p4.is.at_ 4;have y4:=p4.is.open_ 4;have hnb:w2.heap.size≠b:=(by omega);have F2:Hid (Ps (w4.setCell ⟨b,4,none⟩ (.bool h)) b S j1 h∧w.grownBy (w4.setCell ⟨b,4,none⟩ (.bool h)) (some b)∧Is (w4.setCell ⟨b,4,none⟩ (.bool h)) w.heap.size 24 z5∧Is (w4.setCell ⟨b,4,none⟩ (.bool h)) w2.heap.size 24 (nd5 x.k x.t x.n x.a r)∧OwnRow (w4.setCell ⟨b,4,none⟩ (.bool h)) (w.heap.size + 1) x.c r):=hid ⟨p4.head h,ZcJ (Zaa (Zbl F1.out.2.1 (.cells z5 24)) h2 (.inr fun j e=>by injection e with e;omega)) 4 _,((F1.out.2.2.1.alloc (.cells z5 24)).kept h2 (by simp;omega)).away (a:=⟨b,4,none⟩) (by show w.heap.size≠b;omega) _,h1.away (a:=⟨b,4,none⟩) hnb _,((ZtS F1.out.2.2.2.1 (.cells z5 24) h2).set (a:=⟨b,4,none⟩) _ (by show b < _;omega))⟩;clear h1 h2 p4)
  | (refine wpList_load_row rfl 24 _ rfl w2.heap.size rfl 24 (nd5 x.k x.t x.n x.a r) (0,0) _ F2.out.2.2.2.1 underlying24 rfl inf24 ?_)
  | (refine Zah F2.out.2.2.1 rfl 24 _ _ rfl (nd5 x.k x.t x.n x.a r) rfl rfl inf24 rfl (by have h1:=F2.out.2.2.2.2.one;simp [nd5,h1];exact ⟨rfl,rfl,rfl,rfl⟩) ?_;intro w3 h1 h2;have F3:=hid (And.intro h1 h2);clear h1 h2))
 refine ret24 results243 F3.out.1
  (Post.ok (j:=j1) (x:=x) F1.out.2.2.2.2 (Zaa F2.out.2.1 F3.out.2 (.inr fun j e=>by injection e with e;omega)) (F2.out.1.kept F3.out.2 hlt) hj1 ⟨r,rfl,(F2.out.2.2.2.2.grown F3.out.2 (by omega)).weak (by omega)⟩)
theorem Zlt (N b:Nat) (S:Pg) (h:Bool) (w:World) (i:Nat) (hp:Ps w b S i h) (_:S.toks.length≤N + i) (hw:Zag S i=S8.ZdF) :
  Calls prog 284 #[.pointer (some ⟨b,0,none⟩)] w (Post w b S i h (single (lim (.one .bind)) S.size (S.toks.drop i)) (ZaO w)):=by
 have HM:Hid (∀R,(pure (.mk 40 S8.ZdF 0 (place S i) []):S8.P Nd) S.size (S.toks.drop (i + 1))=R→single (lim (.one .bind)) S.size (S.toks.drop i)=R):=hid (by
  intro R h1
  rw [Zdl,← h1]
  show S8.Zfk S.size (S.toks.drop i)=_
  unfold S8.Zfk
  refine ZaN ?_ (fun hl=>absurd (ZaL (S:=S) (i:=i) (by rw [hw];decide)) (by omega))
  simp (decide:=true) only [S8.Zac,S8.Zae,Zaf S i (show S8.ZdF≠[] by decide),hw,if_true,Zay S i (show S8.ZdF≠[] by decide)])
 have HP:=hid hp
 have HW:=hid hw
 clear hw
 have B0:=ZaH b S i h _ (hp.alloc (.cells z5 24)) 40
 obtain ⟨pl,hpl⟩:∃pl,pl=place S i:=⟨_,rfl⟩
 rw [← hpl] at HM B0
 have HPL:=hid hpl
 have hle:=hp.le
 clear hp hpl
 go_enter func284,ntmps284
 go_wp2_with (first
  | (go_at_call 123;(with_reducible refine B0.mono ?_);rintro e w1 ⟨rfl,h1⟩;have F1:=hid (Fn.start HP.out h1 40 0 pl);clear h1;have C1:=ZcR b S i h _ F1.out.ps ⟨#[95]⟩ HW.out (by decide))
  | (go_at_call 186;(with_reducible refine C1.mono ?_);rintro e w2 ⟨rfl,p,g⟩;have F2:=hid (F1.out.call g p);clear g p C1)
  | (refine Zbk F2.out S8.ZdF rfl _ _ rfl rfl rfl ?_;intro w3 h1;have F3:=hid h1;clear h1)
  | (refine Zax F3.out rfl _ rfl rfl ?_)
  | (refine Zaw F3.out rfl _ _ rfl rfl rfl ?_;intro w4 h1 h2 h3 h4;have F4:=hid (And.intro h1 (And.intro h2 (And.intro h3 h4)));clear h1 h2 h3 h4))
 refine ret24 results284 F4.out.1
  (Post.ok (j:=(i + 1)) (HM.out _ (by (try simp only [S8.Zac,S8.Zae,if_true,if_false,Bool.false_eq_true]);rfl)) F4.out.2.1 F4.out.2.2.1 (by omega) F4.out.2.2.2)
theorem Zlu (N b:Nat) (S:Pg) (h:Bool) (w:World) (i:Nat) (hp:Ps w b S i h) (_:S.toks.length≤N + i) (hne:Zag S i≠S8.ZdF) :
  Calls prog 284 #[.pointer (some ⟨b,0,none⟩)] w (Post w b S i h (single (lim (.one .bind)) S.size (S.toks.drop i)) (ZaO w)):=by
 have HM:Hid (∀R,(do let t ← S8.low;pure (.mk 40 t 0 (place S i) []):S8.P Nd) S.size (S.toks.drop i)=R→(S.toks.length≤i→R=.err (place S i))→single (lim (.one .bind)) S.size (S.toks.drop i)=R):=hid (by
  intro R h1 h2
  rw [Zdl]
  show S8.Zfk S.size (S.toks.drop i)=R
  unfold S8.Zfk
  refine ZaN ?_ h2
  rw [← h1]
  simp only [S8.Zac,S8.Zae,Zaf S i (show S8.ZdF≠[] by decide),hne,decide_false,Bool.false_eq_true,if_false])
 have HNE:=hid hne
 clear hne
 have HP:=hid hp
 have B0:=ZaH b S i h _ (hp.alloc (.cells z5 24)) 40
 obtain ⟨pl,hpl⟩:∃pl,pl=place S i:=⟨_,rfl⟩
 rw [← hpl] at HM B0
 have HPL:=hid hpl
 have hle:=hp.le
 clear hp hpl
 go_enter func284,ntmps284
 go_wp2_with (first
  | (go_at_call 123;(with_reducible refine B0.mono ?_);rintro e w1 ⟨rfl,h1⟩;have F1:=hid (Fn.start HP.out h1 40 0 pl);clear h1;have C1:=ZdC b S i h _ F1.out.ps ⟨#[95]⟩ HNE.out)
  | (go_at_call 186;(with_reducible refine C1.mono ?_);rintro e w2 ⟨rfl,p,g⟩;have F2:=hid (F1.out.call g p);clear g p C1;have C2:=Zcz b S i h _ F2.out.ps)
  | (go_at_call 136;(with_reducible refine C2.mono ?_);rintro e w3 h1;rcases h1.ways with ⟨a,j,h',e1,rfl,g,p,rfl⟩ | ⟨t,j3,v,e1,rfl,g,hj3,p,rfl⟩;exact ⟨rfl,Post.err (HM.out _ (by simp only [S8.Zac,e1]) (fun hl=>by rw [HPL.out,Zg7 e1 (Zjh hl)])) (Zaa F2.out.fr g (.inl rfl)) p⟩;have F3:=hid (F2.out.call g p);have E3:=hid e1;have hl3:=ZaT S8.Za5 e1;clear h1 e1 g p C2)
  | (refine Zbk F3.out t rfl _ _ rfl rfl rfl ?_;intro w4 h1;have F4:=hid h1;clear h1)
  | (refine Zax F4.out rfl _ rfl rfl ?_)
  | (refine Zaw F4.out rfl _ _ rfl rfl rfl ?_;intro w5 h1 h2 h3 h4;have F5:=hid (And.intro h1 (And.intro h2 (And.intro h3 h4)));clear h1 h2 h3 h4))
 refine ret24 results284 F5.out.1
  (Post.ok (j:=j3) (HM.out _ (by (try simp only [S8.Zac,E3.out]);rfl) (fun hl=>absurd hl (by omega))) F5.out.2.1 F5.out.2.2.1 (by omega) F5.out.2.2.2)
theorem ZsL (b:Nat) (S:Pg) (N:Nat) (h:Bool):Does N 284 b S h (single (lim (.one .bind))):=fun w i hp hN=>by
 by_cases hw:Zag S i=S8.ZdF
 ·exact Zlt N b S h w i hp (by omega) hw
 ·exact Zlu N b S h w i hp (by omega) hw
theorem ZvZ (N b:Nat) (S:Pg) (HE:∀h,Does N 138 b S h (single (lim (.expr h)))) (w:World) (i:Nat) (hp:Ps w b S i false) (hN:S.toks.length≤N + i) :
  Calls prog 232 #[.pointer (some ⟨b,0,none⟩),.int .i64 28] w (Post w b S i false (single (lim (.one .set)) S.size (S.toks.drop i)) (ZaO w)):=by
 have HM:Hid (∀R,(do let t ← S8.low;let _ ← S8.must S8.mEq;let y ← single (lim (.expr false));pure (.mk 28 t 0 (place S i) [y]):S8.P Nd) S.size (S.toks.drop i)=R→(S.toks.length≤i→R=.err (place S i))→single (lim (.one .set)) S.size (S.toks.drop i)=R):=hid (by
  intro R h1 h2
  rw [Zdl]
  show S8.set lim S.size (S.toks.drop i)=R
  unfold S8.set
  refine ZaN ?_ h2
  rw [← h1])
 have HC:=hid (HE false)
 clear HE
 have HP:=hid hp
 have B0:=ZaH b S i false _ (hp.alloc (.cells z5 24)) 28
 obtain ⟨pl,hpl⟩:∃pl,pl=place S i:=⟨_,rfl⟩
 rw [← hpl] at HM B0
 have HPL:=hid hpl
 have hle:=hp.le
 clear hp hpl
 go_enter func232,ntmps232
 go_wp2_with (first
  | (go_at_call 123;(with_reducible refine B0.mono ?_);rintro e w1 ⟨rfl,h1⟩;have F1:=hid (Fn.start HP.out h1 28 0 pl);clear h1;have C1:=Zcz b S i false _ F1.out.ps)
  | (go_at_call 136;(with_reducible refine C1.mono ?_);rintro e w2 h1;rcases h1.ways with ⟨a,j,h',e1,rfl,g,p,rfl⟩ | ⟨t,j2,v,e1,rfl,g,hj2,p,rfl⟩;exact ⟨rfl,Post.err (HM.out _ (by simp only [S8.Zac,e1]) (fun hl=>by rw [HPL.out,Zg7 e1 (Zjh hl)])) (Zaa F1.out.fr g (.inl rfl)) p⟩;have F2:=hid (F1.out.call g p);have E2:=hid e1;have hl2:=ZaT S8.Za5 e1;clear h1 e1 g p C1)
  | (refine Zbk F2.out t rfl _ _ rfl rfl rfl ?_;intro w3 h1;have F3:=hid h1;clear h1;have C2:Calls prog 119 #[.pointer (some ⟨b,0,none⟩),.string ⟨#[61]⟩] _ (Post _ b S j2 false (S8.must S8.mEq S.size (S.toks.drop j2)) fun _ v _=>v=.tuple #[]):=Zbd b S j2 false _ F3.out.ps ⟨#[61]⟩ (by decide))
  | (go_at_call 119;(with_reducible refine C2.mono ?_);rintro e w4 h1;rcases h1.ways with ⟨a,j,h',e1,rfl,g,p,rfl⟩ | ⟨u4,j4,v,e1,rfl,g,hj4,p,rfl⟩;exact ⟨rfl,Post.err (HM.out _ (by simp only [S8.Zac,E2.out,e1]) (fun hl=>absurd hl (by omega))) (Zaa F3.out.fr g (.inl rfl)) p⟩;have F4:=hid (F3.out.call g p);have E4:=hid e1;have hl4:=ZaT (S8.Zal _) e1;clear h1 e1 g p C2;have C3:=HC.out _ j4 F4.out.ps (by omega))
  | (go_at_call 138;(with_reducible refine C3.mono ?_);rintro e w5 h1;rcases h1.ways with ⟨a,j,h',e1,rfl,g,p,rfl⟩ | ⟨x,j5,v,e1,rfl,g,hj5,p,r5,rfl,ho⟩;exact ⟨rfl,Post.err (HM.out _ (by simp only [S8.Zac,E2.out,E4.out,e1]) (fun hl=>absurd hl (by omega))) (Zaa F4.out.fr g (.inl rfl)) p⟩;have F5:=hid (And.intro (F4.out.call g p) ho);have G5:=hid (F4.out.single g p ho);have E5:=hid e1;clear h1 e1 g p ho C3)
  | (refine Za7 G5.out.1 G5.out.2 rfl _ _ rfl rfl rfl ?_;intro w6 h1;have F6:=hid h1;clear h1)
  | (refine Zax F6.out rfl _ rfl rfl ?_)
  | (refine Zaw F6.out rfl _ _ rfl rfl rfl ?_;intro w7 h1 h2 h3 h4;have F7:=hid (And.intro h1 (And.intro h2 (And.intro h3 h4)));clear h1 h2 h3 h4))
 refine ret24 results232 F7.out.1
  (Post.ok (j:=j5) (HM.out _ (by (try simp only [S8.Zac,E2.out,E4.out,E5.out]);rfl) (fun hl=>absurd hl (by omega))) F7.out.2.1 F7.out.2.2.1 (by omega) F7.out.2.2.2)
theorem Zv0 (N b:Nat) (S:Pg) (HE:∀h,Does N 138 b S h (single (lim (.expr h)))) (w:World) (i:Nat) (hp:Ps w b S i false) (hN:S.toks.length≤N + i) :
  Calls prog 187 #[.pointer (some ⟨b,0,none⟩)] w (Post w b S i false (single (lim (.one .set)) S.size (S.toks.drop i)) (ZaO w)):=by
 have HP:=hid hp
 have F0:=hid (And.intro (hp.alloc (.cells z5 24)) (And.intro (Is.fresh w 24 z5) (Zaj (r:=some b) ((Below.refl w.heap.size w).alloc (Nat.le_refl _) (.cells z5 24)))))
 have C1:=ZvZ N b S HE _ i F0.out.1 hN
 clear hp HE
 go_enter func187,ntmps187
 go_wp2_with (first
  | (go_at_call 232;(with_reducible refine C1.mono ?_);rintro e w2 h1;rcases h1.ways with ⟨a,j,h',e1,rfl,g,p,rfl⟩ | ⟨x,j1,v,e1,rfl,g,hj1,p,r,rfl,ho⟩;exact ⟨rfl,Post.err (e1) (Zaa F0.out.2.2 g (.inl rfl)) p⟩;have hbb:=HP.out.lt;have F2:=hid (And.intro p (And.intro (Zaa F0.out.2.2 g (.inl rfl)) (And.intro (F0.out.2.1.kept g (by simp;omega)) (And.intro (ho.weak F0.out.2.1.lt) e1))));clear h1 e1 g p ho C1)
  | (refine Zah F2.out.2.2.1 rfl 24 _ _ rfl (nd5 x.k x.t x.n x.a r) rfl rfl inf24 rfl (by have h1:=F2.out.2.2.2.1.one;simp [nd5,h1];exact ⟨rfl,rfl,rfl,rfl⟩) ?_;intro w3 h1 h2;have F3:=hid (And.intro h1 h2);clear h1 h2))
 refine ret24 results187 F3.out.1
  (Post.ok (j:=j1) (x:=x) (F2.out.2.2.2.2) (Zaa F2.out.2.1 F3.out.2 (.inr fun j e=>by injection e with e;omega)) (F2.out.1.kept F3.out.2 hbb) hj1 ⟨r,rfl,(F2.out.2.2.2.1.grown F3.out.2 (by omega)).weak (by omega)⟩)
theorem ZiD (N b:Nat) (S:Pg) (HE:∀h,Does N 138 b S h (single (lim (.expr h)))):Does (N + 1) 187 b S false (single (lim (.one .set))):=fun w i hp hN=>Zv0 N b S HE w i hp (by omega)
open Go.RowKit L7
open S8 (lim single What)
noncomputable def Zm0 (k a0:Int):S8.P Nd:=do
 let q ← S8.pattern lim
 pure (.mk k q.1 0 a0 q.2)
theorem ent284 (args:Array Value) (w:World):(callFunc 284 args).run prog w=.ok (.enter 284 args) w:=by kernel_rfl
theorem ZnA (N b:Nat) (S:Pg) (h:Bool) (k a0:Int) (w:World) (i:Nat) (hp:Ps w b S i h) (_:S.toks.length≤N + i) (ha:a0=place S i) (hw:Zag S i=S8.ZdF) :
  Calls prog 267 #[.pointer (some ⟨b,0,none⟩),.int .i64 k] w (Post w b S i h ((Zm0 k a0) S.size (S.toks.drop i)) (ZaO w)):=by
 have HM:Hid (∀R,(pure (.mk k S8.ZdF 0 a0 []):S8.P Nd) S.size (S.toks.drop (i + 1))=R→(Zm0 k a0) S.size (S.toks.drop i)=R):=hid (by
  intro R h1
  rw [← h1]
  unfold Zm0 S8.pattern
  simp (decide:=true) only [S8.Zac,S8.Zae,Zaf S i (show S8.ZdF≠[] by decide),hw,if_true,Zay S i (show S8.ZdF≠[] by decide),S8.Zb5])
 have HP:=hid hp
 have HW:=hid hw
 clear hw
 have B0:=ZaH b S i h _ (hp.alloc (.cells z5 24)) k
 rw [← ha] at B0
 have HPL:=hid ha
 have hle:=hp.le
 clear hp ha
 go_enter func267,ntmps267
 go_wp2_with (first
  | (go_at_call 123;(with_reducible refine B0.mono ?_);rintro e w1 ⟨rfl,h1⟩;have F1:=hid (Fn.start HP.out h1 k 0 a0);clear h1;have C1:=ZcR b S i h _ F1.out.ps ⟨#[95]⟩ HW.out (by decide))
  | (go_at_call 186;(with_reducible refine C1.mono ?_);rintro e w2 ⟨rfl,p,g⟩;have F2:=hid (F1.out.call g p);clear g p C1)
  | (refine Zbk F2.out S8.ZdF rfl _ _ rfl rfl rfl ?_;intro w3 h1;have F3:=hid h1;clear h1)
  | (refine Zax F3.out rfl _ rfl rfl ?_)
  | (refine Zaw F3.out rfl _ _ rfl rfl rfl ?_;intro w4 h1 h2 h3 h4;have F4:=hid (And.intro h1 (And.intro h2 (And.intro h3 h4)));clear h1 h2 h3 h4))
 refine ret24 results267 F4.out.1
  (Post.ok (j:=(i + 1)) (HM.out _ (by (try simp only [S8.Zac,S8.Zae,if_true,if_false,Bool.false_eq_true]);rfl)) F4.out.2.1 F4.out.2.2.1 (by omega) F4.out.2.2.2)
theorem ZpR (N b:Nat) (S:Pg) (h:Bool) (k a0:Int) (w:World) (i:Nat) (hp:Ps w b S i h) (hN:S.toks.length≤N + i) (ha:a0=place S i) (hne:Zag S i≠S8.ZdF) :
  Calls prog 267 #[.pointer (some ⟨b,0,none⟩),.int .i64 k] w (Post w b S i h ((Zm0 k a0) S.size (S.toks.drop i)) (ZaO w)):=by
 have HM:Hid (∀R,(do let t ← S8.up;if ← S8.ZaC S8.mLp then do { let l ← S8.some1 lim S8.mLp .bind S8.mRp;pure (.mk k t 0 a0 l) } else pure (.mk k t 0 a0 []):S8.P Nd) S.size (S.toks.drop i)=R→(S.toks.length≤i→R=.err (place S i))→(Zm0 k a0) S.size (S.toks.drop i)=R):=hid (by
  intro R h1 h2
  rw [← h1]
  unfold Zm0 S8.pattern
  simp only [S8.Zac,S8.Zae,Zaf S i (show S8.ZdF≠[] by decide),hne,decide_false,Bool.false_eq_true,if_false,S8.Zb5]
  cases S8.up S.size (S.toks.drop i) with
  | out=>rfl
  | err a=>rfl
  | ok t r=>
   simp only
   cases S8.ZaC S8.mLp S.size r with
   | out=>rfl
   | err a=>rfl
   | ok c r=>
    cases c with
    | true=>
     simp only [if_true]
     cases S8.some1 lim S8.mLp What.bind S8.mRp S.size r <;> rfl
    | false=>rfl)
 have HNE:=hid hne
 clear hne
 have HP:=hid hp
 have B0:=ZaH b S i h _ (hp.alloc (.cells z5 24)) k
 rw [← ha] at B0
 have HPL:=hid ha
 have hle:=hp.le
 clear hp ha
 go_enter func267,ntmps267
 go_wp2_with (first
  | (go_at_call 123;(with_reducible refine B0.mono ?_);rintro e w1 ⟨rfl,h1⟩;have F1:=hid (Fn.start HP.out h1 k 0 a0);clear h1;have C1:=ZdC b S i h _ F1.out.ps ⟨#[95]⟩ HNE.out)
  | (go_at_call 186;(with_reducible refine C1.mono ?_);rintro e w2 ⟨rfl,p,g⟩;have F2:=hid (F1.out.call g p);clear g p C1;have C2:=ZbO b S i h _ F2.out.ps)
  | (go_at_call 124;(with_reducible refine C2.mono ?_);rintro e w3 h1;rcases h1.ways with ⟨a,j,h',e1,rfl,g,p,rfl⟩ | ⟨t,j3,v,e1,rfl,g,hj3,p,rfl⟩;exact ⟨rfl,Post.err (HM.out _ (by simp only [S8.Zac,e1]) (fun hl=>by rw [Zg7 e1 (ZqG hl)])) (Zaa F2.out.fr g (.inl rfl)) p⟩;have F3:=hid (F2.out.call g p);have E3:=hid e1;have hl3:=ZaT S8.Zbj e1;clear h1 e1 g p C2)
  | (refine Zbk F3.out t rfl _ _ rfl rfl rfl ?_;intro w4 h1;have F4:=hid h1;clear h1))
 by_cases hz4:Zag S j3=S8.mLp
 ·have EP4:Hid (S8.ZaC S8.mLp S.size (S.toks.drop j3)=.ok true (S.toks.drop j3)):=hid (by rw [Zaf S j3 (by decide),hz4];rfl)
  have C3:=Zau b S j3 h _ F4.out.ps
  rw [hz4] at C3
  replace C3:Calls prog 60 #[.pointer (some ⟨b,0,none⟩)] _ fun e w'=>e=.returned (.string ⟨#[40]⟩)∧Below (World.heap _).size _ w':=C3
  have HZ4:=hid hz4
  clear hz4
  go_wp2_with (first
   | (go_at_call 60;(with_reducible refine C3.mono ?_);rintro e w5 ⟨rfl,h1⟩;have F5:=hid (F4.out.look h1);clear h1 C3;have C4:=show Calls prog 134 #[.pointer (some ⟨b,0,none⟩),.string ⟨#[40]⟩,.func (.func 284) #[.pointer (some ⟨b,0,none⟩)] #[],.string ⟨#[41]⟩] _ (Post _ b S j3 h (S8.some1 lim S8.mLp .bind S8.mRp S.size (S.toks.drop j3)) (Zim _)) from Ze2 N 284 b S .bind ent284 (ZsL b S N false) h _ j3 F5.out.ps (by omega) ⟨#[40]⟩ ⟨#[41]⟩ (by decide) (by decide))
   | (go_at_call 134;(with_reducible refine C4.mono ?_);rintro e w6 h1;rcases h1.ways with ⟨a,j,h',e1,rfl,g,p,rfl⟩ | ⟨l,j6,v6,e1,rfl,g,hj6,p,ho,hc6⟩;exact ⟨rfl,Post.err (HM.out _ (by simp only [S8.Zac,S8.Zae,if_true,E3.out,EP4.out,e1]) (fun hl=>absurd hl (by omega))) (Zaa F5.out.fr g (.inl rfl)) p⟩;have F6:=hid (F5.out.call g p);have G6:=hid ho;have E6:=hid e1;have Q6:=hid g.size;clear h1 e1 g p ho C4)
   | (refine Za7 F6.out (G6.out.weak F5.out.size) rfl _ _ rfl rfl rfl ?_;intro w7 h1;have F7:=hid h1;clear h1)
   | (refine Zax F7.out rfl _ rfl rfl ?_)
   | (refine Zaw F7.out rfl _ _ rfl rfl rfl ?_;intro w8 h1 h2 h3 h4;have F8:=hid (And.intro h1 (And.intro h2 (And.intro h3 h4)));clear h1 h2 h3 h4))
  refine ret24 results267 F8.out.1
   (Post.ok (j:=j6) (HM.out _ (by (try simp only [S8.Zac,S8.Zae,if_true,E3.out,EP4.out,E6.out]);rfl) (fun hl=>absurd hl (by omega))) F8.out.2.1 F8.out.2.2.1 (by omega) F8.out.2.2.2)
 ·have EP4:Hid (S8.ZaC S8.mLp S.size (S.toks.drop j3)=.ok false (S.toks.drop j3)):=hid (by rw [Zaf S j3 (by decide),decide_eq_false hz4])
  have C3:=Zau b S j3 h _ F4.out.ps
  obtain ⟨u4,hu⟩:∃u,u=mk (Zag S j3):=⟨_,rfl⟩
  rw [← hu] at C3
  have n4:(u4.toList == [40])=false:=by rw [hu,Zas,Zbc];exact beq_eq_false_iff_ne.2 hz4
  clear hu
  have HZ4:=hid hz4
  clear hz4
  go_wp2_with (first
   | (go_at_call 60;(with_reducible refine C3.mono ?_);rintro e w5 ⟨rfl,h1⟩;have F5:=hid (F4.out.look h1);clear h1 C3)
   | (refine Zax F5.out rfl _ rfl rfl ?_)
   | (refine Zaw F5.out rfl _ _ rfl rfl rfl ?_;intro w6 h1 h2 h3 h4;have F6:=hid (And.intro h1 (And.intro h2 (And.intro h3 h4)));clear h1 h2 h3 h4))
  refine ret24 results267 F6.out.1
   (Post.ok (j:=j3) (HM.out _ (by (try simp only [S8.Zac,S8.Zae,if_false,Bool.false_eq_true,E3.out,EP4.out]);rfl) (fun hl=>absurd hl (by omega))) F6.out.2.1 F6.out.2.2.1 (by omega) F6.out.2.2.2)
open Go.RowKit L7
open S8 (lim single What)
abbrev nd10 (x:Nd) (r:Value) (y:Nd) (s:Value):Array Value:=#[.int .i64 x.k,.string (mk x.t),.int .i64 x.n,.int .i64 x.a,r,.int .i64 y.k,.string (mk y.t),.int .i64 y.n,.int .i64 y.a,s]
theorem ZiF {w W W':World} {b g0 gn i:Nat} {S:Pg} {h:Bool} {k:Int} {t:Bs} {n a:Int} {c:List Nd} {s:Value} {base:Nat} {d:List Nd} {r:Value} (hr:OwnRow W base d r) (g:W.grownBy W' (some b)) (F:Fn w b S g0 gn W i h k t n a c s) (hb:gn + 1≤base):OwnRow W' (gn + 1) d r:=
 (hr.weak hb).grown g (by have:=F.h0;have:=F.hn;have:=F.hb;omega)
theorem Zky {W:World} {base:Nat} {x y:Nd} {r s:Value} (hx:OwnRow W base x.c r) (hy:OwnRow W base y.c s) (hb:base≤W.heap.size):OwnRow (W.alloc (.cells (nd10 x r y s) 24)) base [x,y] (.slice (some ⟨W.heap.size,0,none⟩) 2 2):=by
 have go:∀(z:Nd) (u:Value),OwnRow W base z.c u→Kid (W.alloc (.cells (nd10 x r y s) 24)) (fun h=>base≤h∧h≠W.heap.size) z u:=fun z u hz=>
  Zb0 (fun h hh hlt=>⟨hh,by omega⟩) (fun h _ hlt=>Below.heap_alloc W _ h hlt) z u (Zgz (Zhl (hz.kid z rfl)) (fun _ h _=>h.1))
 have fit:∀(z:Nd) (u:Value),Kid (W.alloc (.cells (nd10 x r y s) 24)) (fun h=>base≤h∧h≠W.heap.size) z u→Kid (W.alloc (.cells (nd10 x r y s) 24)) (fun g=>base≤g∧some g≠(Value.slice (some ⟨W.heap.size,0,none⟩) 2 2).ownBlock) z u:=fun z u hz=>
  Zgz hz fun g hg _=>⟨hg.1,fun e=>hg.2 (by simpa [Value.ownBlock] using e)⟩
 refine ⟨ndc x r++ndc y s,⟨rfl,.inr ⟨W.heap.size,2,_,rfl,hb,Is.fresh W 24 _,Nat.le_refl _,by decide,rfl,rfl⟩⟩,?_⟩
 exact ⟨r,ndc y s,rfl,fit x r (go x r hx),ZfM (fit y s (go y s hy))⟩
theorem ZmH (N b:Nat) (S:Pg) (HE:∀h,Does N 138 b S h (single (lim (.expr h)))) (w:World) (i:Nat) (hp:Ps w b S i false) (hN:S.toks.length≤N + i) (hw:Zag S i=S8.Zg9) :
  Calls prog 295 #[.pointer (some ⟨b,0,none⟩)] w (Post w b S i false (S8.stmt lim S.size (S.toks.drop i)) (ZaO w)):=by
 have HM:Hid (∀R,(do let x ← single (lim (.expr false));pure (.mk 61 [] 0 (place S i) [x]):S8.P Nd) S.size (S.toks.drop (i + 1))=R→S8.stmt lim S.size (S.toks.drop i)=R):=hid (by
  intro R h1
  rw [← h1]
  unfold S8.stmt
  refine ZaN ?_ (fun hl=>absurd (ZaL (S:=S) (i:=i) (by rw [hw];decide)) (by omega))
  simp (decide:=true) only [S8.Zac,S8.Zae,Zaf S i (show S8.Zce≠[] by decide),Zaf S i (show S8.Zd0≠[] by decide),Zaf S i (show S8.Zfl≠[] by decide),Zaf S i (show S8.wIf≠[] by decide),Zaf S i (show S8.ZbR≠[] by decide),Zaf S i (show S8.Zkt≠[] by decide),Zaf S i (show S8.ZdS≠[] by decide),Zaf S i (show S8.wDo≠[] by decide),Zaf S i (show S8.Zg4≠[] by decide),Zaf S i (show S8.Zg9≠[] by decide),hw,if_true,if_false,Zay S i (show S8.Zg9≠[] by decide)])
 have HC:=hid (HE false)
 clear HE
 have HP:=hid hp
 have HW:=hid hw
 clear hw
 have B0:=ZaH b S i false _ (hp.alloc (.cells z5 24)) 61
 obtain ⟨pl,hpl⟩:∃pl,pl=place S i:=⟨_,rfl⟩
 rw [← hpl] at HM B0
 have HPL:=hid hpl
 have hle:=hp.le
 clear hp hpl
 go_enter func295,ntmps295
 go_wp2_with (first
  | (go_at_call 123;(with_reducible refine B0.mono ?_);rintro e w1 ⟨rfl,h1⟩;have F1:=hid (Fn.start HP.out h1 61 0 pl);clear h1;have C1:=Za6 b S i false _ F1.out.ps ⟨#[102,97,105,108]⟩ HW.out (by decide))
  | (go_at_call 119;(with_reducible refine C1.mono ?_);rintro e w2 ⟨rfl,p,g⟩;have F2:=hid (F1.out.call g p);clear g p C1;have C2:=HC.out _ (i + 1) F2.out.ps (by omega))
  | (go_at_call 138;(with_reducible refine C2.mono ?_);rintro e w3 h1;rcases h1.ways with ⟨a,j,h',e1,rfl,g,p,rfl⟩ | ⟨x,j3,v,e1,rfl,g,hj3,p,r3,rfl,ho⟩;exact ⟨rfl,Post.err (HM.out _ (by simp only [S8.Zac,e1])) (Zaa F2.out.fr g (.inl rfl)) p⟩;have F3:=hid (And.intro (F2.out.call g p) ho);have G3:=hid (F2.out.single g p ho);have E3:=hid e1;clear h1 e1 g p ho C2)
  | (refine Za7 G3.out.1 G3.out.2 rfl _ _ rfl rfl rfl ?_;intro w4 h1;have F4:=hid h1;clear h1)
  | (refine Zax F4.out rfl _ rfl rfl ?_)
  | (refine Zaw F4.out rfl _ _ rfl rfl rfl ?_;intro w5 h1 h2 h3 h4;have F5:=hid (And.intro h1 (And.intro h2 (And.intro h3 h4)));clear h1 h2 h3 h4))
 refine ret24 results295 F5.out.1
  (Post.ok (j:=j3) (HM.out _ (by (try simp only [S8.Zac,E3.out]);rfl)) F5.out.2.1 F5.out.2.2.1 (by omega) F5.out.2.2.2)
theorem ZlN (N b:Nat) (S:Pg) (w:World) (i:Nat) (hp:Ps w b S i false) (_:S.toks.length≤N + i) (hw:Zag S i=S8.Zg4) :
  Calls prog 294 #[.pointer (some ⟨b,0,none⟩)] w (Post w b S i false (S8.stmt lim S.size (S.toks.drop i)) (ZaO w)):=by
 have HM:Hid (∀R,(pure (.mk 60 [] 0 (place S i) []):S8.P Nd) S.size (S.toks.drop (i + 1))=R→S8.stmt lim S.size (S.toks.drop i)=R):=hid (by
  intro R h1
  rw [← h1]
  unfold S8.stmt
  refine ZaN ?_ (fun hl=>absurd (ZaL (S:=S) (i:=i) (by rw [hw];decide)) (by omega))
  simp (decide:=true) only [S8.Zac,S8.Zae,Zaf S i (show S8.Zce≠[] by decide),Zaf S i (show S8.Zd0≠[] by decide),Zaf S i (show S8.Zfl≠[] by decide),Zaf S i (show S8.wIf≠[] by decide),Zaf S i (show S8.ZbR≠[] by decide),Zaf S i (show S8.Zkt≠[] by decide),Zaf S i (show S8.ZdS≠[] by decide),Zaf S i (show S8.wDo≠[] by decide),Zaf S i (show S8.Zg4≠[] by decide),hw,if_true,if_false,Zay S i (show S8.Zg4≠[] by decide)])
 have HP:=hid hp
 have HW:=hid hw
 clear hw
 have B0:=ZaH b S i false _ (hp.alloc (.cells z5 24)) 60
 obtain ⟨pl,hpl⟩:∃pl,pl=place S i:=⟨_,rfl⟩
 rw [← hpl] at HM B0
 have HPL:=hid hpl
 have hle:=hp.le
 clear hp hpl
 go_enter func294,ntmps294
 go_wp2_with (first
  | (go_at_call 123;(with_reducible refine B0.mono ?_);rintro e w1 ⟨rfl,h1⟩;have F1:=hid (Fn.start HP.out h1 60 0 pl);clear h1;have C1:=Za6 b S i false _ F1.out.ps ⟨#[115,116,111,112]⟩ HW.out (by decide))
  | (go_at_call 119;(with_reducible refine C1.mono ?_);rintro e w2 ⟨rfl,p,g⟩;have F2:=hid (F1.out.call g p);clear g p C1)
  | (refine Zax F2.out rfl _ rfl rfl ?_)
  | (refine Zaw F2.out rfl _ _ rfl rfl rfl ?_;intro w3 h1 h2 h3 h4;have F3:=hid (And.intro h1 (And.intro h2 (And.intro h3 h4)));clear h1 h2 h3 h4))
 refine ret24 results294 F3.out.1
  (Post.ok (j:=(i + 1)) (HM.out _ (by (try simp only [S8.Zac,S8.Zae,if_true,if_false,Bool.false_eq_true]);rfl)) F3.out.2.1 F3.out.2.2.1 (by omega) F3.out.2.2.2)
theorem Zn3 (N b:Nat) (S:Pg) (HE:∀h,Does N 138 b S h (single (lim (.expr h)))) (HB:Does N 247 b S false (S8.block lim)) (w:World) (i:Nat) (hp:Ps w b S i false) (hN:S.toks.length≤N + i) (hw:Zag S i=S8.Zkt) :
  Calls prog 290 #[.pointer (some ⟨b,0,none⟩)] w (Post w b S i false (S8.stmt lim S.size (S.toks.drop i)) (ZaO w)):=by
 have HM:Hid (∀R,(do let t ← S8.low;let _ ← S8.must S8.wIn;let x ← single (lim (.expr true));let y ← S8.block lim;pure (.mk 55 t 0 (place S i) [x,y]):S8.P Nd) S.size (S.toks.drop (i + 1))=R→S8.stmt lim S.size (S.toks.drop i)=R):=hid (by
  intro R h1
  rw [← h1]
  unfold S8.stmt
  refine ZaN ?_ (fun hl=>absurd (ZaL (S:=S) (i:=i) (by rw [hw];decide)) (by omega))
  simp (decide:=true) only [S8.Zac,S8.Zae,Zaf S i (show S8.Zce≠[] by decide),Zaf S i (show S8.Zd0≠[] by decide),Zaf S i (show S8.Zfl≠[] by decide),Zaf S i (show S8.wIf≠[] by decide),Zaf S i (show S8.ZbR≠[] by decide),Zaf S i (show S8.Zkt≠[] by decide),hw,if_true,if_false,Zay S i (show S8.Zkt≠[] by decide)])
 have HBl:=hid HB
 have HC:=hid (HE false)
 have HHd:=hid (ZiO N b S false HE)
 clear HE HB
 have HP:=hid hp
 have HW:=hid hw
 clear hw
 have B0:=ZaH b S i false _ (hp.alloc (.cells z5 24)) 55
 obtain ⟨pl,hpl⟩:∃pl,pl=place S i:=⟨_,rfl⟩
 rw [← hpl] at HM B0
 have HPL:=hid hpl
 have hle:=hp.le
 clear hp hpl
 go_enter func290,ntmps290
 go_wp2_with (first
  | (go_at_call 123;(with_reducible refine B0.mono ?_);rintro e w1 ⟨rfl,h1⟩;have F1:=hid (Fn.start HP.out h1 55 0 pl);clear h1;have C1:=Za6 b S i false _ F1.out.ps ⟨#[102,111,114]⟩ HW.out (by decide))
  | (go_at_call 119;(with_reducible refine C1.mono ?_);rintro e w2 ⟨rfl,p,g⟩;have F2:=hid (F1.out.call g p);clear g p C1;have C2:=Zcz b S (i + 1) false _ F2.out.ps)
  | (go_at_call 136;(with_reducible refine C2.mono ?_);rintro e w3 h1;rcases h1.ways with ⟨a,j,h',e1,rfl,g,p,rfl⟩ | ⟨t,j3,v,e1,rfl,g,hj3,p,rfl⟩;exact ⟨rfl,Post.err (HM.out _ (by simp only [S8.Zac,e1])) (Zaa F2.out.fr g (.inl rfl)) p⟩;have F3:=hid (F2.out.call g p);have E3:=hid e1;have hl3:=ZaT S8.Za5 e1;clear h1 e1 g p C2)
  | (refine Zbk F3.out t rfl _ _ rfl rfl rfl ?_;intro w4 h1;have F4:=hid h1;clear h1;have C3:Calls prog 119 #[.pointer (some ⟨b,0,none⟩),.string ⟨#[105,110]⟩] _ (Post _ b S j3 false (S8.must S8.wIn S.size (S.toks.drop j3)) fun _ v _=>v=.tuple #[]):=Zbd b S j3 false _ F4.out.ps ⟨#[105,110]⟩ (by decide))
  | (go_at_call 119;(with_reducible refine C3.mono ?_);rintro e w5 h1;rcases h1.ways with ⟨a,j,h',e1,rfl,g,p,rfl⟩ | ⟨u5,j5,v,e1,rfl,g,hj5,p,rfl⟩;exact ⟨rfl,Post.err (HM.out _ (by simp only [S8.Zac,E3.out,e1])) (Zaa F4.out.fr g (.inl rfl)) p⟩;have F5:=hid (F4.out.call g p);have E5:=hid e1;have hl5:=ZaT (S8.Zal _) e1;clear h1 e1 g p C3;have C4:=HHd.out _ j5 F5.out.ps (by omega))
  | (go_at_call 243;(with_reducible refine C4.mono ?_);rintro e w6 h1;rcases h1.ways with ⟨a,j,h',e1,rfl,g,p,rfl⟩ | ⟨x,j6,v,e1,rfl,g,hj6,p,r6,rfl,ho⟩;exact ⟨rfl,Post.err (HM.out _ (by simp only [S8.Zac,E3.out,E5.out,e1])) (Zaa F5.out.fr g (.inl rfl)) p⟩;have F6:=hid (And.intro (F5.out.call g p) ho);have G6:=hid (F5.out.single g p ho);have E6:=hid e1;clear h1 e1 g p ho C4;have C5:=HBl.out _ j6 F6.out.1.ps (by omega))
  | (go_at_call 247;(with_reducible refine C5.mono ?_);rintro e w7 h1;rcases h1.ways with ⟨a,j,h',e1,rfl,g,p,rfl⟩ | ⟨y,j7,v,e1,rfl,g,hj7,p,r7,rfl,ho⟩;exact ⟨rfl,Post.err (HM.out _ (by simp only [S8.Zac,E3.out,E5.out,E6.out,e1])) (Zaa F6.out.1.fr g (.inl rfl)) p⟩;have F7:=hid (And.intro (F6.out.1.call g p) ho);have X7:=hid (And.intro (ZiF F6.out.2 g F6.out.1 F5.out.size) (ho.weak F6.out.1.size));have E7:=hid e1;clear h1 e1 g p ho C5)
  | (refine Za7 (F7.out.1.look ((Below.refl _ _).alloc (Nat.le_refl _) (.cells (nd10 x r6 y r7) 24))) (Zky X7.out.1 X7.out.2 F7.out.1.size) rfl _ _ rfl rfl rfl ?_;intro w8 h1;have F8:=hid h1;clear h1)
  | (refine Zax F8.out rfl _ rfl rfl ?_)
  | (refine Zaw F8.out rfl _ _ rfl rfl rfl ?_;intro w9 h1 h2 h3 h4;have F9:=hid (And.intro h1 (And.intro h2 (And.intro h3 h4)));clear h1 h2 h3 h4))
 refine ret24 results290 F9.out.1
  (Post.ok (j:=j7) (HM.out _ (by (try simp only [S8.Zac,E3.out,E5.out,E6.out,E7.out]);rfl)) F9.out.2.1 F9.out.2.2.1 (by omega) F9.out.2.2.2)
theorem Ztv (e:Int) (l:List PTok):single (lim .send) e l=S8.send lim e l:=by
 rw [S8.ZbG,S8.Zbb (nt:=.send) rfl]
 show (match S8.one (S8.send lim) e l with | .out=>_ | .err a=>_ | .ok [x] r=>_ | .ok _ r=>_)=_
 unfold S8.one
 rw [S8.Zac]
 cases S8.send lim e l <;> rfl
theorem Zlh {s:Bs} {S:Pg} {i:Nat} (hl:S.toks.length≤i):S8.must s S.size (S.toks.drop i)=.err (place S i):=by rw [(Zci hl).1,(Zci hl).2];rfl
theorem ZoG (N b:Nat) (S:Pg) (HE:∀h,Does N 138 b S h (single (lim (.expr h)))) (w:World) (i:Nat) (hp:Ps w b S i false) (hN:S.toks.length≤N + i) :
  Calls prog 291 #[.pointer (some ⟨b,0,none⟩)] w (Post w b S i false (single (lim .send) S.size (S.toks.drop i)) (ZaO w)):=by
 have HM:Hid (∀R,(do let _ ← S8.must S8.Zd0;let x ← single (lim (.expr false));let t ← S8.up;let l ← S8.list lim S8.mLp .expr S8.mRp;pure (.mk 56 t 0 (place S i) (x::l)):S8.P Nd) S.size (S.toks.drop i)=R→(S.toks.length≤i→R=.err (place S i))→single (lim .send) S.size (S.toks.drop i)=R):=hid (by
  intro R h1 h2
  rw [Ztv]
  unfold S8.send
  refine ZaN ?_ h2
  rw [← h1])
 have HC:=hid (HE false)
 have HC1:=hid (show Does N 138 b S false (single (lim (.one .expr))) by rw [Zfc];exact HE false)
 clear HE
 have HP:=hid hp
 have B0:=ZaH b S i false _ (hp.alloc (.cells z5 24)) 56
 obtain ⟨pl,hpl⟩:∃pl,pl=place S i:=⟨_,rfl⟩
 rw [← hpl] at HM B0
 have HPL:=hid hpl
 have hle:=hp.le
 clear hp hpl
 go_enter func291,ntmps291
 go_wp2_with (first
  | (go_at_call 123;(with_reducible refine B0.mono ?_);rintro e w1 ⟨rfl,h1⟩;have F1:=hid (Fn.start HP.out h1 56 0 pl);clear h1;have C1:Calls prog 119 #[.pointer (some ⟨b,0,none⟩),.string ⟨#[115,101,110,100]⟩] _ (Post _ b S i false (S8.must S8.Zd0 S.size (S.toks.drop i)) fun _ v _=>v=.tuple #[]):=Zbd b S i false _ F1.out.ps ⟨#[115,101,110,100]⟩ (by decide))
  | (go_at_call 119;(with_reducible refine C1.mono ?_);rintro e w2 h1;rcases h1.ways with ⟨a,j,h',e1,rfl,g,p,rfl⟩ | ⟨u2,j2,v,e1,rfl,g,hj2,p,rfl⟩;exact ⟨rfl,Post.err (HM.out _ (by simp only [S8.Zac,e1]) (fun hl=>by rw [HPL.out,Zg7 e1 (Zlh hl)])) (Zaa F1.out.fr g (.inl rfl)) p⟩;have F2:=hid (F1.out.call g p);have E2:=hid e1;have hl2:=ZaT (S8.Zal _) e1;clear h1 e1 g p C1;have C2:=HC.out _ j2 F2.out.ps (by omega))
  | (go_at_call 138;(with_reducible refine C2.mono ?_);rintro e w3 h1;rcases h1.ways with ⟨a,j,h',e1,rfl,g,p,rfl⟩ | ⟨x,j3,v,e1,rfl,g,hj3,p,r3,rfl,ho⟩;exact ⟨rfl,Post.err (HM.out _ (by simp only [S8.Zac,E2.out,e1]) (fun hl=>absurd hl (by omega))) (Zaa F2.out.fr g (.inl rfl)) p⟩;have F3:=hid (And.intro (F2.out.call g p) ho);have G3:=hid (F2.out.single g p ho);have E3:=hid e1;clear h1 e1 g p ho C2)
  | (refine Za7 G3.out.1 G3.out.2 rfl _ _ rfl rfl rfl ?_;intro w4 h1;have F4:=hid h1;clear h1;have C3:=ZbO b S j3 false _ F4.out.ps)
  | (go_at_call 124;(with_reducible refine C3.mono ?_);rintro e w5 h1;rcases h1.ways with ⟨a,j,h',e1,rfl,g,p,rfl⟩ | ⟨t,j5,v,e1,rfl,g,hj5,p,rfl⟩;exact ⟨rfl,Post.err (HM.out _ (by simp only [S8.Zac,E2.out,E3.out,e1]) (fun hl=>absurd hl (by omega))) (Zaa F4.out.fr g (.inl rfl)) p⟩;have F5:=hid (F4.out.call g p);have E5:=hid e1;have hl5:=ZaT S8.Zbj e1;clear h1 e1 g p C3)
  | (refine Zbk F5.out t rfl _ _ rfl rfl rfl ?_;intro w6 h1;have F6:=hid h1;clear h1))
 have U9:=F6.out.nd.at_ 4
 refine r2 (fun W=>W.cell? ⟨w1.heap.size,4,none⟩=some (.slice (some ⟨w3.heap.size,0,none⟩) 1 1)) (fun j=>decide (j < 5)) [0,1,2] [3,4,5,6] U9 ?_
 refine fs (.pointer (some ⟨w1.heap.size,4,none⟩)) rfl ?_
 refine fs (.slice (some ⟨w3.heap.size,0,none⟩) 1 1) rfl ?_
 refine fs (.pointer (some ⟨b,0,none⟩)) rfl ?_
 refine Zap ?_
 clear U9
 have F7:=hid (F6.out.look (Below.refl _ _).drew)
 have C4:=ZeV N b S false HC1.out _ j5 F7.out.ps (by omega)
 refine cs rfl fun K9 HK9=>?_
 go_wp2_with (go_at_call 189;(with_reducible refine C4.mono ?_);rintro e w8 h1;rcases h1.ways with ⟨a,j,h',e1,rfl,g,p,rfl⟩ | ⟨l,j8,v8,e1,rfl,g,hj8,p,ho,hc8⟩;exact ⟨rfl,Post.err (HM.out _ (by simp only [S8.Zac,E2.out,E3.out,E5.out,e1]) (fun hl=>absurd hl (by omega))) (Zaa F7.out.fr g (.inl rfl)) p⟩;have F8:=hid (F7.out.call g p);have G8:=hid ho;have E8:=hid e1;clear h1 e1 g p ho C4)
 refine HK9.out _ _ (fun _=>F8.out.nd.at_ 4) ?_
 refine cs rfl fun K9 HK9=>?_
 refine Ze4 (base:=w1.heap.size + 1) F8.out.row G8.out ?le ?lt ?len ?hb rfl (.tmp 16) (.tmp 18) rfl rfl rfl ?_
 case le=>exact F7.out.size
 case lt=>exact fun g hg=>(F7.out.row.lt hg).2
 case len=>simp;omega
 case hb=>exact F8.out.size
 intro v9 w9 h1 h2
 have F9:=hid (And.intro (F8.out.turn h2) h1)
 clear h1 h2
 refine HK9.out _ _ (fun _=>F9.out.1.nd.at_ 4) ?_
 refine cs rfl fun K9 HK9=>?_
 go_wp2_with fail
 refine HK9.out _ _ (fun h=>by cases h) ?_
 refine cs rfl fun K9 HK9=>?_
 refine ZbX F9.out.1 F9.out.2 rfl _ _ rfl rfl rfl ?_
 intro w10 h1
 have F10:=hid h1
 clear h1
 refine HK9.out _ _ (fun h=>by cases h) ?_
 refine Zam ?_
 go_wp2_with (first
  | (refine Zax F10.out rfl _ rfl rfl ?_)
  | (refine Zaw F10.out rfl _ _ rfl rfl rfl ?_;intro w11 h1 h2 h3 h4;have F11:=hid (And.intro h1 (And.intro h2 (And.intro h3 h4)));clear h1 h2 h3 h4))
 refine ret24 results291 F11.out.1
  (Post.ok (j:=j8) (HM.out _ (by (try simp only [S8.Zac,E2.out,E3.out,E5.out,E8.out]);rfl) (fun hl=>absurd hl (by omega))) F11.out.2.1 F11.out.2.2.1 (by omega) F11.out.2.2.2)
theorem Zq4 (N b:Nat) (S:Pg) (HE:∀h,Does N 138 b S h (single (lim (.expr h)))):Does (N + 1) 291 b S false (single (lim .send)):=fun w i hp hN=>ZoG N b S HE w i hp (by omega)
theorem Zly (N b:Nat) (S:Pg) (HE:∀h,Does N 138 b S h (single (lim (.expr h)))) (w:World) (i:Nat) (hp:Ps w b S i false) (hN:S.toks.length≤N + i) (hw:Zag S i=S8.ZdS) :
  Calls prog 292 #[.pointer (some ⟨b,0,none⟩)] w (Post w b S i false (S8.stmt lim S.size (S.toks.drop i)) (ZaO w)):=by
 have HM:Hid (∀R,(do let x ← single (lim (.expr false));let y ← single (lim .send);pure (.mk 57 [] 0 (place S i) [x,y]):S8.P Nd) S.size (S.toks.drop (i + 1))=R→S8.stmt lim S.size (S.toks.drop i)=R):=hid (by
  intro R h1
  rw [← h1]
  unfold S8.stmt
  refine ZaN ?_ (fun hl=>absurd (ZaL (S:=S) (i:=i) (by rw [hw];decide)) (by omega))
  simp (decide:=true) only [S8.Zac,S8.Zae,Zaf S i (show S8.Zce≠[] by decide),Zaf S i (show S8.Zd0≠[] by decide),Zaf S i (show S8.Zfl≠[] by decide),Zaf S i (show S8.wIf≠[] by decide),Zaf S i (show S8.ZbR≠[] by decide),Zaf S i (show S8.Zkt≠[] by decide),Zaf S i (show S8.ZdS≠[] by decide),hw,if_true,if_false,Zay S i (show S8.ZdS≠[] by decide)])
 have HSd:=hid (Zq4 N b S HE)
 have HC:=hid (HE false)
 clear HE
 have HP:=hid hp
 have HW:=hid hw
 clear hw
 have B0:=ZaH b S i false _ (hp.alloc (.cells z5 24)) 57
 obtain ⟨pl,hpl⟩:∃pl,pl=place S i:=⟨_,rfl⟩
 rw [← hpl] at HM B0
 have HPL:=hid hpl
 have hle:=hp.le
 clear hp hpl
 go_enter func292,ntmps292
 go_wp2_with (first
  | (go_at_call 123;(with_reducible refine B0.mono ?_);rintro e w1 ⟨rfl,h1⟩;have F1:=hid (Fn.start HP.out h1 57 0 pl);clear h1;have C1:=Za6 b S i false _ F1.out.ps ⟨#[97,102,116,101,114]⟩ HW.out (by decide))
  | (go_at_call 119;(with_reducible refine C1.mono ?_);rintro e w2 ⟨rfl,p,g⟩;have F2:=hid (F1.out.call g p);clear g p C1;have C2:=HC.out _ (i + 1) F2.out.ps (by omega))
  | (go_at_call 138;(with_reducible refine C2.mono ?_);rintro e w3 h1;rcases h1.ways with ⟨a,j,h',e1,rfl,g,p,rfl⟩ | ⟨x,j3,v,e1,rfl,g,hj3,p,r3,rfl,ho⟩;exact ⟨rfl,Post.err (HM.out _ (by simp only [S8.Zac,e1])) (Zaa F2.out.fr g (.inl rfl)) p⟩;have F3:=hid (And.intro (F2.out.call g p) ho);have G3:=hid (F2.out.single g p ho);have E3:=hid e1;clear h1 e1 g p ho C2;have C3:=HSd.out _ j3 F3.out.1.ps (by omega))
  | (go_at_call 291;(with_reducible refine C3.mono ?_);rintro e w4 h1;rcases h1.ways with ⟨a,j,h',e1,rfl,g,p,rfl⟩ | ⟨y,j4,v,e1,rfl,g,hj4,p,r4,rfl,ho⟩;exact ⟨rfl,Post.err (HM.out _ (by simp only [S8.Zac,E3.out,e1])) (Zaa F3.out.1.fr g (.inl rfl)) p⟩;have F4:=hid (And.intro (F3.out.1.call g p) ho);have X4:=hid (And.intro (ZiF F3.out.2 g F3.out.1 F2.out.size) (ho.weak F3.out.1.size));have E4:=hid e1;clear h1 e1 g p ho C3)
  | (refine Za7 (F4.out.1.look ((Below.refl _ _).alloc (Nat.le_refl _) (.cells (nd10 x r3 y r4) 24))) (Zky X4.out.1 X4.out.2 F4.out.1.size) rfl _ _ rfl rfl rfl ?_;intro w5 h1;have F5:=hid h1;clear h1)
  | (refine Zax F5.out rfl _ rfl rfl ?_)
  | (refine Zaw F5.out rfl _ _ rfl rfl rfl ?_;intro w6 h1 h2 h3 h4;have F6:=hid (And.intro h1 (And.intro h2 (And.intro h3 h4)));clear h1 h2 h3 h4))
 refine ret24 results292 F6.out.1
  (Post.ok (j:=j4) (HM.out _ (by (try simp only [S8.Zac,E3.out,E4.out]);rfl)) F6.out.2.1 F6.out.2.2.1 (by omega) F6.out.2.2.2)
theorem Zp3 (N b:Nat) (S:Pg) (HE:∀h,Does N 138 b S h (single (lim (.expr h)))) (HB:Does N 247 b S false (S8.block lim)) (w:World) (i:Nat) (hp:Ps w b S i false) (hN:S.toks.length≤N + i) (hw:Zag S i=S8.wIf) :
  Calls prog 288 #[.pointer (some ⟨b,0,none⟩)] w (Post w b S i false (S8.stmt lim S.size (S.toks.drop i)) (ZaO w)):=by
 have HM:Hid (∀R,(do let x ← single (lim (.expr true));let y ← S8.block lim;if ← S8.ZaC S8.Zfo then do { let _ ← S8.must S8.Zfo;let z ← S8.block lim;pure (.mk 52 [] 0 (place S i) [x,y,z]) } else pure (.mk 52 [] 0 (place S i) [x,y]):S8.P Nd) S.size (S.toks.drop (i + 1))=R→S8.stmt lim S.size (S.toks.drop i)=R):=hid (by
  intro R h1
  rw [← h1]
  unfold S8.stmt
  refine ZaN ?_ (fun hl=>absurd (ZaL (S:=S) (i:=i) (by rw [hw];decide)) (by omega))
  simp (decide:=true) only [S8.Zac,S8.Zae,Zaf S i (show S8.Zce≠[] by decide),Zaf S i (show S8.Zd0≠[] by decide),Zaf S i (show S8.Zfl≠[] by decide),Zaf S i (show S8.wIf≠[] by decide),hw,if_true,if_false,Zay S i (show S8.wIf≠[] by decide)])
 have HBl:=hid HB
 have HC:=hid (HE false)
 have HHd:=hid (ZiO N b S false HE)
 clear HE HB
 have HP:=hid hp
 have HW:=hid hw
 clear hw
 have B0:=ZaH b S i false _ (hp.alloc (.cells z5 24)) 52
 obtain ⟨pl,hpl⟩:∃pl,pl=place S i:=⟨_,rfl⟩
 rw [← hpl] at HM B0
 have HPL:=hid hpl
 have hle:=hp.le
 clear hp hpl
 go_enter func288,ntmps288
 go_wp2_with (first
  | (go_at_call 123;(with_reducible refine B0.mono ?_);rintro e w1 ⟨rfl,h1⟩;have F1:=hid (Fn.start HP.out h1 52 0 pl);clear h1;have C1:=Za6 b S i false _ F1.out.ps ⟨#[105,102]⟩ HW.out (by decide))
  | (go_at_call 119;(with_reducible refine C1.mono ?_);rintro e w2 ⟨rfl,p,g⟩;have F2:=hid (F1.out.call g p);clear g p C1;have C2:=HHd.out _ (i + 1) F2.out.ps (by omega))
  | (go_at_call 243;(with_reducible refine C2.mono ?_);rintro e w3 h1;rcases h1.ways with ⟨a,j,h',e1,rfl,g,p,rfl⟩ | ⟨x,j3,v,e1,rfl,g,hj3,p,r3,rfl,ho⟩;exact ⟨rfl,Post.err (HM.out _ (by simp only [S8.Zac,e1])) (Zaa F2.out.fr g (.inl rfl)) p⟩;have F3:=hid (And.intro (F2.out.call g p) ho);have G3:=hid (F2.out.single g p ho);have E3:=hid e1;clear h1 e1 g p ho C2;have C3:=HBl.out _ j3 F3.out.1.ps (by omega))
  | (go_at_call 247;(with_reducible refine C3.mono ?_);rintro e w4 h1;rcases h1.ways with ⟨a,j,h',e1,rfl,g,p,rfl⟩ | ⟨y,j4,v,e1,rfl,g,hj4,p,r4,rfl,ho⟩;exact ⟨rfl,Post.err (HM.out _ (by simp only [S8.Zac,E3.out,e1])) (Zaa F3.out.1.fr g (.inl rfl)) p⟩;have F4:=hid (And.intro (F3.out.1.call g p) ho);have X4:=hid (And.intro (ZiF F3.out.2 g F3.out.1 F2.out.size) (ho.weak F3.out.1.size));have E4:=hid e1;clear h1 e1 g p ho C3)
  | (refine Za7 (F4.out.1.look ((Below.refl _ _).alloc (Nat.le_refl _) (.cells (nd10 x r3 y r4) 24))) (Zky X4.out.1 X4.out.2 F4.out.1.size) rfl _ _ rfl rfl rfl ?_;intro w5 h1;have F5:=hid h1;clear h1))
 by_cases hz5:Zag S j4=S8.Zfo
 ·have EP5:Hid (S8.ZaC S8.Zfo S.size (S.toks.drop j4)=.ok true (S.toks.drop j4)):=hid (by rw [Zaf S j4 (by decide),decide_eq_true hz5])
  have hls5:=ZaL (S:=S) (i:=j4) (by rw [hz5];decide)
  have EM5:Hid (S8.must S8.Zfo S.size (S.toks.drop j4)=.ok (ZaK S j4) (S.toks.drop (j4 + 1))):=hid (by rw [Zay S j4 (by decide),if_pos hz5])
  have C4:=ZcR b S j4 false _ F5.out.ps ⟨#[101,108,115,101]⟩ hz5 (by decide)
  clear hz5
  go_wp2_with (first
   | (go_at_call 186;(with_reducible refine C4.mono ?_);rintro e w6 ⟨rfl,p,g⟩;have F6:=hid (F5.out.call g p);clear g p C4))
  have U9:=F6.out.nd.at_ 4
  refine r2 (fun W=>W.cell? ⟨w1.heap.size,4,none⟩=some (.slice (some ⟨w4.heap.size,0,none⟩) 2 2)) (fun j=>decide (j < 6)) [0,1,2] [3,4,5,6,7] U9 ?_
  refine fs (.pointer (some ⟨w1.heap.size,4,none⟩)) rfl ?_
  refine fs (.slice (some ⟨w4.heap.size,0,none⟩) 2 2) rfl ?_
  refine fs (.pointer (some ⟨b,0,none⟩)) rfl ?_
  refine Zap ?_
  clear U9
  have F7:=hid (F6.out.look (Below.refl _ _).drew)
  have C5:=HBl.out _ (j4 + 1) F7.out.ps (by omega)
  refine cs rfl fun K9 HK9=>?_
  go_wp2_with (go_at_call 247;(with_reducible refine C5.mono ?_);rintro e w8 h1;rcases h1.ways with ⟨a,j,h',e1,rfl,g,p,rfl⟩ | ⟨z,j8,v,e1,rfl,g,hj8,p,r8,rfl,ho⟩;exact ⟨rfl,Post.err (HM.out _ (by simp only [S8.Zac,S8.Zae,if_true,E3.out,E4.out,EP5.out,EM5.out,e1])) (Zaa F7.out.fr g (.inl rfl)) p⟩;have F8:=hid (And.intro (F7.out.call g p) ho);have E8:=hid e1;clear h1 e1 g p ho C5)
  refine HK9.out _ _ (fun _=>F8.out.1.nd.at_ 4) ?_
  refine cs rfl fun K9 HK9=>?_
  go_wp2_with fail
  have F9:=hid (F8.out.1.look ((Below.refl _ _).alloc (Nat.le_refl _) (.cells (nd5 z.k z.t z.n z.a r8) 24)))
  have HI9:=hid (Is.fresh w8 24 (nd5 z.k z.t z.n z.a r8))
  refine HK9.out _ _ (fun _=>F9.out.nd.at_ 4) ?_
  refine cs rfl fun K9 HK9=>?_
  refine ZbY (base:=w1.heap.size + 1) (g:=w8.heap.size) (x:=z) (r:=r8) F9.out.row HI9.out ?kid ?len ?hb rfl (.tmp 17) (.tmp 20) rfl rfl rfl ?_
  case kid=>exact ZbZ F7.out.row F8.out.2 (fun g hg=>Below.heap_alloc w8 _ g hg) F7.out.size
  case len=>simp
  case hb=>exact F9.out.size
  intro v10 w10 h1 h2
  have F10:=hid (And.intro (F9.out.turn h2) h1)
  clear h1 h2
  refine HK9.out _ _ (fun _=>F10.out.1.nd.at_ 4) ?_
  refine cs rfl fun K9 HK9=>?_
  go_wp2_with fail
  refine HK9.out _ _ (fun h=>by cases h) ?_
  refine cs rfl fun K9 HK9=>?_
  refine ZbX F10.out.1 F10.out.2 rfl _ _ rfl rfl rfl ?_
  intro w11 h1
  have F11:=hid h1
  clear h1
  refine HK9.out _ _ (fun h=>by cases h) ?_
  refine Zam ?_
  go_wp2_with (first
   | (refine Zax F11.out rfl _ rfl rfl ?_)
   | (refine Zaw F11.out rfl _ _ rfl rfl rfl ?_;intro w12 h1 h2 h3 h4;have F12:=hid (And.intro h1 (And.intro h2 (And.intro h3 h4)));clear h1 h2 h3 h4))
  refine ret24 results288 F12.out.1
   (Post.ok (j:=j8) (HM.out _ (by (try simp only [S8.Zac,S8.Zae,if_true,E3.out,E4.out,EP5.out,EM5.out,E8.out]);rfl)) F12.out.2.1 F12.out.2.2.1 (by omega) F12.out.2.2.2)
 ·have EP5:Hid (S8.ZaC S8.Zfo S.size (S.toks.drop j4)=.ok false (S.toks.drop j4)):=hid (by rw [Zaf S j4 (by decide),decide_eq_false hz5])
  have C4:=ZdC b S j4 false _ F5.out.ps ⟨#[101,108,115,101]⟩ hz5
  clear hz5
  go_wp2_with (first
   | (go_at_call 186;(with_reducible refine C4.mono ?_);rintro e w6 ⟨rfl,p,g⟩;have F6:=hid (F5.out.call g p);clear g p C4)
   | (refine Zax F6.out rfl _ rfl rfl ?_)
   | (refine Zaw F6.out rfl _ _ rfl rfl rfl ?_;intro w7 h1 h2 h3 h4;have F7:=hid (And.intro h1 (And.intro h2 (And.intro h3 h4)));clear h1 h2 h3 h4))
  refine ret24 results288 F7.out.1
   (Post.ok (j:=j4) (HM.out _ (by (try simp only [S8.Zac,S8.Zae,if_false,Bool.false_eq_true,E3.out,E4.out,EP5.out]);rfl)) F7.out.2.1 F7.out.2.2.1 (by omega) F7.out.2.2.2)
end Go.Proofs.YtaheffiglmglbaaGreatDoor
