import Derived.Test.YtaheffiglmglbaaGreatDoorKQb
/- Types, Typ, Sig, Expr1. -/
set_option maxHeartbeats 8000000
set_option maxRecDepth 20000
namespace Go.Proofs.YtaheffiglmglbaaGreatDoor
open Go.Proofs.Tryz
open Go.RowKit L7
open S8 (lim single What)
theorem ent198 (args:Array Value) (w:World):(callFunc 198 args).run prog w=.ok (.enter 198 args) w:=by kernel_rfl
theorem Zmt (N b:Nat) (S:Pg) (h:Bool) (HT:Does N 198 b S h (single (lim (.one .type)))) (w:World) (i:Nat) (hp:Ps w b S i h) (hN:S.toks.length≤N + i) (hw:Zag S i=S8.mLk) :
  Calls prog 240 #[.pointer (some ⟨b,0,none⟩)] w (Post w b S i h (single (lim (.one .type)) S.size (S.toks.drop i)) (ZaO w)):=by
 have HM:Hid (∀R,(do let y ← single (lim (.one .type));let _ ← S8.must S8.mRk;pure (.mk 13 [] 0 (place S i) [y]):S8.P Nd) S.size (S.toks.drop (i + 1))=R→single (lim (.one .type)) S.size (S.toks.drop i)=R):=hid (by
  intro R h1
  rw [Zdl,← h1]
  show S8.typ lim S.size (S.toks.drop i)=_
  unfold S8.typ
  refine ZaN ?_ (fun hl=>absurd (ZaL (S:=S) (i:=i) (by rw [hw];decide)) (by omega))
  simp (decide:=true) only [S8.Zac,S8.Zae,Zaf S i (show S8.mLk≠[] by decide),hw,if_true,Zay S i (show S8.mLk≠[] by decide)])
 have HC:=hid HT
 clear HT
 have HP:=hid hp
 have HW:=hid hw
 clear hw
 have B0:=ZaH b S i h _ (hp.alloc (.cells z5 24)) 13
 obtain ⟨pl,hpl⟩:∃pl,pl=place S i:=⟨_,rfl⟩
 rw [← hpl] at HM B0
 have HPL:=hid hpl
 have hle:=hp.le
 clear hp hpl
 go_enter func240,ntmps240
 go_wp2_with (first
  | (go_at_call 123;(with_reducible refine B0.mono ?_);rintro e w1 ⟨rfl,h1⟩;have F1:=hid (Fn.start HP.out h1 13 0 pl);clear h1;have C1:=Za6 b S i h _ F1.out.ps ⟨#[91]⟩ HW.out (by decide))
  | (go_at_call 119;(with_reducible refine C1.mono ?_);rintro e w2 ⟨rfl,p,g⟩;have F2:=hid (F1.out.call g p);clear g p C1;have C2:=HC.out _ (i + 1) F2.out.ps (by omega))
  | (go_at_call 198;(with_reducible refine C2.mono ?_);rintro e w3 h1;rcases h1.ways with ⟨a,j,h',e1,rfl,g,p,rfl⟩ | ⟨x,j3,v,e1,rfl,g,hj3,p,r3,rfl,ho⟩;exact ⟨rfl,Post.err (HM.out _ (by simp only [S8.Zac,e1])) (Zaa F2.out.fr g (.inl rfl)) p⟩;have F3:=hid (And.intro (F2.out.call g p) ho);have G3:=hid (F2.out.single g p ho);have E3:=hid e1;clear h1 e1 g p ho C2)
  | (refine Za7 G3.out.1 G3.out.2 rfl _ _ rfl rfl rfl ?_;intro w4 h1;have F4:=hid h1;clear h1;have C3:Calls prog 119 #[.pointer (some ⟨b,0,none⟩),.string ⟨#[93]⟩] _ (Post _ b S j3 h (S8.must S8.mRk S.size (S.toks.drop j3)) fun _ v _=>v=.tuple #[]):=Zbd b S j3 h _ F4.out.ps ⟨#[93]⟩ (by decide))
  | (go_at_call 119;(with_reducible refine C3.mono ?_);rintro e w5 h1;rcases h1.ways with ⟨a,j,h',e1,rfl,g,p,rfl⟩ | ⟨u5,j5,v,e1,rfl,g,hj5,p,rfl⟩;exact ⟨rfl,Post.err (HM.out _ (by simp only [S8.Zac,E3.out,e1])) (Zaa F4.out.fr g (.inl rfl)) p⟩;have F5:=hid (F4.out.call g p);have E5:=hid e1;have hl5:=ZaT (S8.Zal _) e1;clear h1 e1 g p C3)
  | (refine Zax F5.out rfl _ rfl rfl ?_)
  | (refine Zaw F5.out rfl _ _ rfl rfl rfl ?_;intro w6 h1 h2 h3 h4;have F6:=hid (And.intro h1 (And.intro h2 (And.intro h3 h4)));clear h1 h2 h3 h4))
 refine ret24 results240 F6.out.1
  (Post.ok (j:=j5) (HM.out _ (by simp only [S8.Zac,E3.out,E5.out];rfl)) F6.out.2.1 F6.out.2.2.1 (by omega) F6.out.2.2.2)
theorem Znr (N b:Nat) (S:Pg) (h:Bool) (w:World) (i:Nat) (hp:Ps w b S i h) (_:S.toks.length≤N + i) (hw:Zag S i=S8.Zm5) :
  Calls prog 241 #[.pointer (some ⟨b,0,none⟩)] w (Post w b S i h (single (lim (.one .type)) S.size (S.toks.drop i)) (ZaO w)):=by
 have HM:Hid (∀R,(do let t ← S8.up;pure (.mk 14 t 0 (place S i) []):S8.P Nd) S.size (S.toks.drop (i + 1))=R→single (lim (.one .type)) S.size (S.toks.drop i)=R):=hid (by
  intro R h1
  rw [Zdl,← h1]
  show S8.typ lim S.size (S.toks.drop i)=_
  unfold S8.typ
  refine ZaN ?_ (fun hl=>absurd (ZaL (S:=S) (i:=i) (by rw [hw];decide)) (by omega))
  simp (decide:=true) only [S8.Zac,S8.Zae,Zaf S i (show S8.mLk≠[] by decide),Zaf S i (show S8.Zm5≠[] by decide),hw,if_true,if_false,Zay S i (show S8.Zm5≠[] by decide)])
 have HP:=hid hp
 have HW:=hid hw
 clear hw
 have B0:=ZaH b S i h _ (hp.alloc (.cells z5 24)) 14
 obtain ⟨pl,hpl⟩:∃pl,pl=place S i:=⟨_,rfl⟩
 rw [← hpl] at HM B0
 have HPL:=hid hpl
 have hle:=hp.le
 clear hp hpl
 go_enter func241,ntmps241
 go_wp2_with (first
  | (go_at_call 123;(with_reducible refine B0.mono ?_);rintro e w1 ⟨rfl,h1⟩;have F1:=hid (Fn.start HP.out h1 14 0 pl);clear h1;have C1:=Za6 b S i h _ F1.out.ps ⟨#[114,101,102]⟩ HW.out (by decide))
  | (go_at_call 119;(with_reducible refine C1.mono ?_);rintro e w2 ⟨rfl,p,g⟩;have F2:=hid (F1.out.call g p);clear g p C1;have C2:=ZbO b S (i + 1) h _ F2.out.ps)
  | (go_at_call 124;(with_reducible refine C2.mono ?_);rintro e w3 h1;rcases h1.ways with ⟨a,j,h',e1,rfl,g,p,rfl⟩ | ⟨t,j3,v,e1,rfl,g,hj3,p,rfl⟩;exact ⟨rfl,Post.err (HM.out _ (by simp only [S8.Zac,e1])) (Zaa F2.out.fr g (.inl rfl)) p⟩;have F3:=hid (F2.out.call g p);have E3:=hid e1;have hl3:=ZaT S8.Zbj e1;clear h1 e1 g p C2)
  | (refine Zbk F3.out t rfl _ _ rfl rfl rfl ?_;intro w4 h1;have F4:=hid h1;clear h1)
  | (refine Zax F4.out rfl _ rfl rfl ?_)
  | (refine Zaw F4.out rfl _ _ rfl rfl rfl ?_;intro w5 h1 h2 h3 h4;have F5:=hid (And.intro h1 (And.intro h2 (And.intro h3 h4)));clear h1 h2 h3 h4))
 refine ret24 results241 F5.out.1
  (Post.ok (j:=j3) (HM.out _ (by simp only [S8.Zac,E3.out];rfl)) F5.out.2.1 F5.out.2.2.1 (by omega) F5.out.2.2.2)
theorem Zn0 (N b:Nat) (S:Pg) (h:Bool) (HT0:Does N 198 b S false (single (lim (.one .type)))) (HT:Does N 198 b S h (single (lim (.one .type)))) (w:World) (i:Nat) (hp:Ps w b S i h) (hN:S.toks.length≤N + i) (hw:Zag S i=S8.Zd7) :
  Calls prog 242 #[.pointer (some ⟨b,0,none⟩)] w (Post w b S i h (single (lim (.one .type)) S.size (S.toks.drop i)) (ZaO w)):=by
 have HM:Hid (∀R,(do let l ← S8.list lim S8.mLp .type S8.mRp;let _ ← S8.must S8.ZfH;let y ← single (lim (.one .type));pure (.mk 15 [] 0 (place S i) (l++[y])):S8.P Nd) S.size (S.toks.drop (i + 1))=R→single (lim (.one .type)) S.size (S.toks.drop i)=R):=hid (by
  intro R h1
  rw [Zdl,← h1]
  show S8.typ lim S.size (S.toks.drop i)=_
  unfold S8.typ
  refine ZaN ?_ (fun hl=>absurd (ZaL (S:=S) (i:=i) (by rw [hw];decide)) (by omega))
  simp (decide:=true) only [S8.Zac,S8.Zae,Zaf S i (show S8.mLk≠[] by decide),Zaf S i (show S8.Zm5≠[] by decide),Zaf S i (show S8.Zd7≠[] by decide),hw,if_true,if_false,Zay S i (show S8.Zd7≠[] by decide)])
 have HC:=hid HT
 have HC0:=hid HT0
 clear HT HT0
 have HP:=hid hp
 have HW:=hid hw
 clear hw
 have B0:=ZaH b S i h _ (hp.alloc (.cells z5 24)) 15
 obtain ⟨pl,hpl⟩:∃pl,pl=place S i:=⟨_,rfl⟩
 rw [← hpl] at HM B0
 have HPL:=hid hpl
 have hle:=hp.le
 clear hp hpl
 go_enter func242,ntmps242
 go_wp2_with (first
  | (go_at_call 123;(with_reducible refine B0.mono ?_);rintro e w1 ⟨rfl,h1⟩;have F1:=hid (Fn.start HP.out h1 15 0 pl);clear h1;have C1:=Za6 b S i h _ F1.out.ps ⟨#[102,117,110]⟩ HW.out (by decide))
  | (go_at_call 119;(with_reducible refine C1.mono ?_);rintro e w2 ⟨rfl,p,g⟩;have F2:=hid (F1.out.call g p);clear g p C1;have C2:=show Calls prog 132 #[.pointer (some ⟨b,0,none⟩),.string ⟨#[40]⟩,.func (.func 198) #[.pointer (some ⟨b,0,none⟩)] #[],.string ⟨#[41]⟩] _ (Post _ b S (i + 1) h (S8.list lim S8.mLp .type S8.mRp S.size (S.toks.drop (i + 1))) (Zim _)) from Ze8 N 198 b S .type ent198 HC0.out h _ (i + 1) F2.out.ps (by omega) ⟨#[40]⟩ ⟨#[41]⟩ (by decide) (by decide))
  | (go_at_call 132;(with_reducible refine C2.mono ?_);rintro e w3 h1;rcases h1.ways with ⟨a,j,h',e1,rfl,g,p,rfl⟩ | ⟨l,j3,v3,e1,rfl,g,hj3,p,ho,hc3⟩;exact ⟨rfl,Post.err (HM.out _ (by simp only [S8.Zac,e1])) (Zaa F2.out.fr g (.inl rfl)) p⟩;have F3:=hid (F2.out.call g p);have G3:=hid ho;have E3:=hid e1;have Q3:=hid g.size;clear h1 e1 g p ho C2)
  | (refine Za7 F3.out (G3.out.weak F2.out.size) rfl _ _ rfl rfl rfl ?_;intro w4 h1;have F4:=hid h1;clear h1;have C3:Calls prog 119 #[.pointer (some ⟨b,0,none⟩),.string ⟨#[58]⟩] _ (Post _ b S j3 h (S8.must S8.ZfH S.size (S.toks.drop j3)) fun _ v _=>v=.tuple #[]):=Zbd b S j3 h _ F4.out.ps ⟨#[58]⟩ (by decide))
  | (go_at_call 119;(with_reducible refine C3.mono ?_);rintro e w5 h1;rcases h1.ways with ⟨a,j,h',e1,rfl,g,p,rfl⟩ | ⟨u5,j5,v,e1,rfl,g,hj5,p,rfl⟩;exact ⟨rfl,Post.err (HM.out _ (by simp only [S8.Zac,E3.out,e1])) (Zaa F4.out.fr g (.inl rfl)) p⟩;have F5:=hid (F4.out.call g p);have E5:=hid e1;have hl5:=ZaT (S8.Zal _) e1;clear h1 e1 g p C3))
 have U9:=F5.out.nd.at_ 4
 refine r2 (fun W=>W.cell? ⟨w1.heap.size,4,none⟩=some (v3)) (fun j=>decide (j < 6)) [0,1,2] [3,4,5,6,7] U9 ?_
 refine fs (.pointer (some ⟨w1.heap.size,4,none⟩)) rfl ?_
 refine fs (v3) rfl ?_
 refine fs (.pointer (some ⟨b,0,none⟩)) rfl ?_
 refine Zap ?_
 clear U9
 have F6:=hid (F5.out.look (Below.refl _ _).drew)
 have C4:=HC.out _ j5 F6.out.ps (by omega)
 refine cs rfl fun K9 HK9=>?_
 go_wp2_with (go_at_call 198;(with_reducible refine C4.mono ?_);rintro e w7 h1;rcases h1.ways with ⟨a,j,h',e1,rfl,g,p,rfl⟩ | ⟨y,j7,v,e1,rfl,g,hj7,p,r7,rfl,ho⟩;exact ⟨rfl,Post.err (HM.out _ (by simp only [S8.Zac,E3.out,E5.out,e1])) (Zaa F6.out.fr g (.inl rfl)) p⟩;have F7:=hid (And.intro (F6.out.call g p) ho);have E7:=hid e1;clear h1 e1 g p ho C4)
 refine HK9.out _ _ (fun _=>F7.out.1.nd.at_ 4) ?_
 refine cs rfl fun K9 HK9=>?_
 go_wp2_with fail
 have F8:=hid (F7.out.1.look ((Below.refl _ _).alloc (Nat.le_refl _) (.cells (nd5 y.k y.t y.n y.a r7) 24)))
 have HI8:=hid (Is.fresh w7 24 (nd5 y.k y.t y.n y.a r7))
 refine HK9.out _ _ (fun _=>F8.out.nd.at_ 4) ?_
 refine cs rfl fun K9 HK9=>?_
 refine ZbY (base:=w1.heap.size + 1) (g:=w7.heap.size) (x:=y) (r:=r7) F8.out.row HI8.out ?kid ?len ?hb rfl (.tmp 16) (.tmp 19) rfl rfl rfl ?_
 case kid=>exact ZbZ F6.out.row F7.out.2 (fun g hg=>Below.heap_alloc w7 _ g hg) F6.out.size
 case len=>omega
 case hb=>exact F8.out.size
 intro v9 w9 h1 h2
 have F9:=hid (And.intro (F8.out.turn h2) h1)
 clear h1 h2
 refine HK9.out _ _ (fun _=>F9.out.1.nd.at_ 4) ?_
 refine cs rfl fun K9 HK9=>?_
 go_wp2_with fail
 refine HK9.out _ _ (fun h=>by cases h) ?_
 refine cs rfl fun K9 HK9=>?_
 refine ZbX F9.out.1 F9.out.2 rfl _ _ rfl rfl rfl ?_
 intro w10 h1
 have F10:=hid h1
 clear h1
 refine HK9.out _ _ (fun h=>by cases h) ?_
 refine Zam ?_
 go_wp2_with (first
  | (refine Zax F10.out rfl _ rfl rfl ?_)
  | (refine Zaw F10.out rfl _ _ rfl rfl rfl ?_;intro w11 h1 h2 h3 h4;have F11:=hid (And.intro h1 (And.intro h2 (And.intro h3 h4)));clear h1 h2 h3 h4))
 refine ret24 results242 F11.out.1
  (Post.ok (j:=j7) (HM.out _ (by simp only [S8.Zac,E3.out,E5.out,E7.out];rfl)) F11.out.2.1 F11.out.2.2.1 (by omega) F11.out.2.2.2)
open Go.RowKit L7
open S8 (lim single What)
theorem Zs0 (N b:Nat) (S:Pg) (h:Bool) (HT:Does N 198 b S h (single (lim (.one .type)))) (w:World) (i:Nat) (hp:Ps w b S i h) (hN:S.toks.length≤N + i) (hw:Zag S i=S8.mLk) :
  Calls prog 198 #[.pointer (some ⟨b,0,none⟩)] w (Post w b S i h (single (lim (.one .type)) S.size (S.toks.drop i)) (ZaO w)):=by
 have HW:=hid hw
 have HC:=hid HT
 have HP:=hid hp
 have F0:=hid (And.intro (hp.alloc (.cells z5 24)) (And.intro (Is.fresh w 24 z5) (Zaj (r:=some b) ((Below.refl w.heap.size w).alloc (Nat.le_refl _) (.cells z5 24)))))
 have WD:=Zau b S i h _ F0.out.1
 have WD:Calls prog 60 #[.pointer (some ⟨b,0,none⟩)] (w.alloc (.cells z5 24)) fun e w'=>e=.returned (.string ⟨#[91]⟩)∧Below (w.alloc (.cells z5 24)).heap.size (w.alloc (.cells z5 24)) w':=by
  rw [hw] at WD;exact WD
 clear hp hw HT
 go_enter func198,ntmps198
 go_wp2_with (first
  | (go_at_call 60;(with_reducible refine WD.mono ?_);rintro e w1 ⟨rfl,h1⟩;have p1:=F0.out.1.below h1 F0.out.1.lt;have F1:=hid (And.intro p1 (And.intro (F0.out.2.1.below h1 F0.out.2.1.lt) (Zan F0.out.2.2 (h1.mono F0.out.2.2.size))));have C1:=Zmt N b S h HC.out _ i p1 hN HW.out;clear h1 p1 WD)
  | (go_at_call 240;(with_reducible refine C1.mono ?_);rintro e w2 h1;rcases h1.ways with ⟨a,j,h',e1,rfl,g,p,rfl⟩ | ⟨x,j1,v,e1,rfl,g,hj1,p,r,rfl,ho⟩;exact ⟨rfl,Post.err (e1) (Zaa F1.out.2.2 g (.inl rfl)) p⟩;have hbb:=HP.out.lt;have F2:=hid (And.intro p (And.intro (Zaa F1.out.2.2 g (.inl rfl)) (And.intro (F1.out.2.1.kept g (by simp;omega)) (And.intro (ho.weak F1.out.2.1.lt) e1))));clear h1 e1 g p ho C1)
  | (refine Zah F2.out.2.2.1 rfl 24 _ _ rfl (nd5 x.k x.t x.n x.a r) rfl rfl inf24 rfl (by have h1:=F2.out.2.2.2.1.one;simp [nd5,h1];exact ⟨rfl,rfl,rfl,rfl⟩) ?_;intro w3 h1 h2;have F3:=hid (And.intro h1 h2);clear h1 h2))
 refine ret24 results198 F3.out.1
  (Post.ok (j:=j1) (x:=x) (F2.out.2.2.2.2) (Zaa F2.out.2.1 F3.out.2 (.inr fun j e=>by injection e with e;omega)) (F2.out.1.kept F3.out.2 hbb) hj1 ⟨r,rfl,(F2.out.2.2.2.1.grown F3.out.2 (by omega)).weak (by omega)⟩)
theorem Zvl (N b:Nat) (S:Pg) (h:Bool) (w:World) (i:Nat) (hp:Ps w b S i h) (hN:S.toks.length≤N + i) (hw:Zag S i=S8.Zm5) :
  Calls prog 198 #[.pointer (some ⟨b,0,none⟩)] w (Post w b S i h (single (lim (.one .type)) S.size (S.toks.drop i)) (ZaO w)):=by
 have HW:=hid hw
 have HP:=hid hp
 have F0:=hid (And.intro (hp.alloc (.cells z5 24)) (And.intro (Is.fresh w 24 z5) (Zaj (r:=some b) ((Below.refl w.heap.size w).alloc (Nat.le_refl _) (.cells z5 24)))))
 have WD:=Zau b S i h _ F0.out.1
 have WD:Calls prog 60 #[.pointer (some ⟨b,0,none⟩)] (w.alloc (.cells z5 24)) fun e w'=>e=.returned (.string ⟨#[114,101,102]⟩)∧Below (w.alloc (.cells z5 24)).heap.size (w.alloc (.cells z5 24)) w':=by
  rw [hw] at WD;exact WD
 clear hp hw
 go_enter func198,ntmps198
 go_wp2_with (first
  | (go_at_call 60;(with_reducible refine WD.mono ?_);rintro e w1 ⟨rfl,h1⟩;have p1:=F0.out.1.below h1 F0.out.1.lt;have F1:=hid (And.intro p1 (And.intro (F0.out.2.1.below h1 F0.out.2.1.lt) (Zan F0.out.2.2 (h1.mono F0.out.2.2.size))));have C1:=Znr N b S h _ i p1 hN HW.out;clear h1 p1 WD)
  | (go_at_call 241;(with_reducible refine C1.mono ?_);rintro e w2 h1;rcases h1.ways with ⟨a,j,h',e1,rfl,g,p,rfl⟩ | ⟨x,j1,v,e1,rfl,g,hj1,p,r,rfl,ho⟩;exact ⟨rfl,Post.err (e1) (Zaa F1.out.2.2 g (.inl rfl)) p⟩;have hbb:=HP.out.lt;have F2:=hid (And.intro p (And.intro (Zaa F1.out.2.2 g (.inl rfl)) (And.intro (F1.out.2.1.kept g (by simp;omega)) (And.intro (ho.weak F1.out.2.1.lt) e1))));clear h1 e1 g p ho C1)
  | (refine Zah F2.out.2.2.1 rfl 24 _ _ rfl (nd5 x.k x.t x.n x.a r) rfl rfl inf24 rfl (by have h1:=F2.out.2.2.2.1.one;simp [nd5,h1];exact ⟨rfl,rfl,rfl,rfl⟩) ?_;intro w3 h1 h2;have F3:=hid (And.intro h1 h2);clear h1 h2))
 refine ret24 results198 F3.out.1
  (Post.ok (j:=j1) (x:=x) (F2.out.2.2.2.2) (Zaa F2.out.2.1 F3.out.2 (.inr fun j e=>by injection e with e;omega)) (F2.out.1.kept F3.out.2 hbb) hj1 ⟨r,rfl,(F2.out.2.2.2.1.grown F3.out.2 (by omega)).weak (by omega)⟩)
theorem Zvm (N b:Nat) (S:Pg) (h:Bool) (HT0:Does N 198 b S false (single (lim (.one .type)))) (HT:Does N 198 b S h (single (lim (.one .type)))) (w:World) (i:Nat) (hp:Ps w b S i h) (hN:S.toks.length≤N + i) (hw:Zag S i=S8.Zd7) :
  Calls prog 198 #[.pointer (some ⟨b,0,none⟩)] w (Post w b S i h (single (lim (.one .type)) S.size (S.toks.drop i)) (ZaO w)):=by
 have HW:=hid hw
 have HC:=hid HT
 have HC0:=hid HT0
 have HP:=hid hp
 have F0:=hid (And.intro (hp.alloc (.cells z5 24)) (And.intro (Is.fresh w 24 z5) (Zaj (r:=some b) ((Below.refl w.heap.size w).alloc (Nat.le_refl _) (.cells z5 24)))))
 have WD:=Zau b S i h _ F0.out.1
 have WD:Calls prog 60 #[.pointer (some ⟨b,0,none⟩)] (w.alloc (.cells z5 24)) fun e w'=>e=.returned (.string ⟨#[102,117,110]⟩)∧Below (w.alloc (.cells z5 24)).heap.size (w.alloc (.cells z5 24)) w':=by
  rw [hw] at WD;exact WD
 clear hp hw HT HT0
 go_enter func198,ntmps198
 go_wp2_with (first
  | (go_at_call 60;(with_reducible refine WD.mono ?_);rintro e w1 ⟨rfl,h1⟩;have p1:=F0.out.1.below h1 F0.out.1.lt;have F1:=hid (And.intro p1 (And.intro (F0.out.2.1.below h1 F0.out.2.1.lt) (Zan F0.out.2.2 (h1.mono F0.out.2.2.size))));have C1:=Zn0 N b S h HC0.out HC.out _ i p1 hN HW.out;clear h1 p1 WD)
  | (go_at_call 242;(with_reducible refine C1.mono ?_);rintro e w2 h1;rcases h1.ways with ⟨a,j,h',e1,rfl,g,p,rfl⟩ | ⟨x,j1,v,e1,rfl,g,hj1,p,r,rfl,ho⟩;exact ⟨rfl,Post.err (e1) (Zaa F1.out.2.2 g (.inl rfl)) p⟩;have hbb:=HP.out.lt;have F2:=hid (And.intro p (And.intro (Zaa F1.out.2.2 g (.inl rfl)) (And.intro (F1.out.2.1.kept g (by simp;omega)) (And.intro (ho.weak F1.out.2.1.lt) e1))));clear h1 e1 g p ho C1)
  | (refine Zah F2.out.2.2.1 rfl 24 _ _ rfl (nd5 x.k x.t x.n x.a r) rfl rfl inf24 rfl (by have h1:=F2.out.2.2.2.1.one;simp [nd5,h1];exact ⟨rfl,rfl,rfl,rfl⟩) ?_;intro w3 h1 h2;have F3:=hid (And.intro h1 h2);clear h1 h2))
 refine ret24 results198 F3.out.1
  (Post.ok (j:=j1) (x:=x) (F2.out.2.2.2.2) (Zaa F2.out.2.1 F3.out.2 (.inr fun j e=>by injection e with e;omega)) (F2.out.1.kept F3.out.2 hbb) hj1 ⟨r,rfl,(F2.out.2.2.2.1.grown F3.out.2 (by omega)).weak (by omega)⟩)
theorem Zml (f:Bs→Bool):S8.Con (Zf8 f):=S8.Za1 (S8.ZaG _) fun _=>S8.Zbg _
theorem ZrF {f:Bs→Bool} {S:Pg} {i:Nat} (hl:S.toks.length≤i):Zf8 f S.size (S.toks.drop i)=.err (place S i):=by rw [(Zci hl).1,(Zci hl).2];rfl
theorem ZsZ (N b:Nat) (S:Pg) (h:Bool) (w:World) (i:Nat) (hp:Ps w b S i h) (_:S.toks.length≤N + i) (hne:∀s,s∈[S8.mLk,S8.Zm5,S8.Zd7]→Zag S i≠s) :
  Calls prog 198 #[.pointer (some ⟨b,0,none⟩)] w (Post w b S i h (single (lim (.one .type)) S.size (S.toks.drop i)) (ZaO w)):=by
 have HM:Hid (∀R,(do let t ← Zf8 (fun t=>S8.basic t || ZiP t);pure (.mk 12 t 0 (place S i) []):S8.P Nd) S.size (S.toks.drop i)=R→(S.toks.length≤i→R=.err (place S i))→single (lim (.one .type)) S.size (S.toks.drop i)=R):=hid (by
  intro R h1 h2
  have k1:=hne S8.mLk (by simp)
  have k2:=hne S8.Zm5 (by simp)
  have k3:=hne S8.Zd7 (by simp)
  rw [Zdl]
  show S8.typ lim S.size (S.toks.drop i)=R
  unfold S8.typ
  refine ZaN ?_ h2
  rw [← h1]
  simp only [S8.Zac,S8.Zae,Zaf S i (show S8.mLk≠[] by decide),Zaf S i (show S8.Zm5≠[] by decide),Zaf S i (show S8.Zd7≠[] by decide),k1,k2,k3,decide_false,Bool.false_eq_true,if_false]
  rw [ZgS (f:=fun t=>S8.basic t || ZiP t) (g:=fun t=>S8.basic t || S8.Zcf t) hp.env i (fun t h=>by rw [Zha h])]
  unfold Zf8
  rw [S8.Zac]
  cases S8.Zed (fun t=>t.k == 1 && (S8.basic t.t || S8.Zcf t.t)) S.size (S.toks.drop i) <;> rfl)
 have HP:=hid hp
 obtain ⟨u,hu⟩:∃u,u=mk (Zag S i):=⟨_,rfl⟩
 have WD:=Zau b S i h _ (hp.alloc (.cells z5 24))
 rw [← hu] at WD
 have n0:(u.toList == [91])=false:=by rw [hu,Zas,Zbc];exact beq_eq_false_iff_ne.2 (hne S8.mLk (by simp))
 have n1:(u.toList == [114,101,102])=false:=by rw [hu,Zas,Zbc];exact beq_eq_false_iff_ne.2 (hne S8.Zm5 (by simp))
 have n2:(u.toList == [102,117,110])=false:=by rw [hu,Zas,Zbc];exact beq_eq_false_iff_ne.2 (hne S8.Zd7 (by simp))
 have HB:=hid (fun w2 (p:Ps w2 b S i h)=>ZaH b S i h w2 p 12)
 obtain ⟨pl,hpl⟩:∃pl,pl=place S i:=⟨_,rfl⟩
 rw [← hpl] at HM HB
 have HPL:=hid hpl
 have hle:=hp.le
 clear hp hpl hu hne
 go_enter func198,ntmps198
 go_wp2_with (first
  | (go_at_call 60;(with_reducible refine WD.mono ?_);rintro e w1 ⟨rfl,h1⟩;have B1:=hid h1;have B0:=HB.out _ ((HP.out.alloc (.cells z5 24)).below h1 (HP.out.alloc (.cells z5 24)).lt);clear h1 WD)
  | (go_at_call 123;(with_reducible refine B0.mono ?_);rintro e w2 ⟨rfl,h1⟩;have F2:=hid (Fn.start HP.out (B1.out.trans (h1.mono B1.out.size)) 12 0 pl);clear h1;have C1:=ZiH 207 (fun t=>S8.basic t || ZiP t) ent207 Zio b S i h _ F2.out.ps)
  | (go_at_call 190;(with_reducible refine C1.mono ?_);rintro e w3 h1;rcases h1.ways with ⟨a,j,h',e1,rfl,g,p,rfl⟩ | ⟨t,j3,v,e1,rfl,g,hj3,p,rfl⟩;exact ⟨rfl,Post.err (HM.out _ (by simp only [S8.Zac,e1]) (fun hl=>by rw [HPL.out,Zg7 e1 (ZrF hl)])) (Zaa F2.out.fr g (.inl rfl)) p⟩;have F3:=hid (F2.out.call g p);have E3:=hid e1;have hl3:=ZaT (Zml _) e1;clear h1 e1 g p C1)
  | (refine Zbk F3.out t rfl _ _ rfl rfl rfl ?_;intro w4 h1;have F4:=hid h1;clear h1)
  | (refine Zax F4.out rfl _ rfl rfl ?_)
  | (refine Zaw F4.out rfl _ _ rfl rfl rfl ?_;intro w5 h1 h2 h3 h4;have F5:=hid (And.intro h1 (And.intro h2 (And.intro h3 h4)));clear h1 h2 h3 h4))
 refine ret24 results198 F5.out.1
  (Post.ok (j:=j3) (HM.out _ (by simp only [S8.Zac,E3.out];rfl) (fun hl=>absurd hl (by omega))) F5.out.2.1 F5.out.2.2.1 (by omega) F5.out.2.2.2)
theorem Zhb (b:Nat) (S:Pg):∀(N:Nat) (h:Bool),Does N 198 b S h (single (lim (.one .type)))
 | 0,h,w,i,hp,hN=>absurd hp.le (by omega)
 | N + 1,h,w,i,hp,hN=>by
  by_cases h1:Zag S i=S8.mLk
  ·exact Zs0 N b S h (Zhb b S N h) w i hp (by omega) h1
  ·by_cases h2:Zag S i=S8.Zm5
   ·exact Zvl N b S h w i hp (by omega) h2
   ·by_cases h3:Zag S i=S8.Zd7
    ·exact Zvm N b S h (Zhb b S N false) (Zhb b S N h) w i hp (by omega) h3
    ·exact ZsZ N b S h w i hp (by omega) (fun s hs=>by
      simp only [List.mem_cons,List.not_mem_nil,or_false] at hs
      rcases hs with rfl | rfl | rfl <;> assumption)
open Go.RowKit L7
open S8 (lim single What)
theorem ent133 (args:Array Value) (w:World):(callFunc 133 args).run prog w=.ok (.enter 133 args) w:=by kernel_rfl
theorem ent138 (args:Array Value) (w:World):(callFunc 138 args).run prog w=.ok (.enter 138 args) w:=by kernel_rfl
theorem Zke (b:Nat) (S:Pg) (N:Nat) (h:Bool):Does N 133 b S h (single (lim (.one .field))):=fun w i hp hN=>Zsd N b S h (Zhb b S N h) w i hp (by omega)
noncomputable abbrev ZfV:S8.P (List Nd):=S8.list lim S8.mLp .field S8.mRp
noncomputable def ZuV:S8.P (List Nd):=do
 let l ← ZfV
 let _ ← S8.must S8.ZfH
 let y ← single (lim (.one .type))
 pure (l++[y])
theorem Zd5 (b:Nat) (S:Pg) (h:Bool) (w:World) (i:Nat) (hp:Ps w b S i h) :
  Calls prog 139 #[.pointer (some ⟨b,0,none⟩)] w (Post w b S i h (ZfV S.size (S.toks.drop i)) (Zim w)):=by
 have C:Calls prog 132 #[.pointer (some ⟨b,0,none⟩),.string ⟨#[40]⟩,.func (.func 133) #[.pointer (some ⟨b,0,none⟩)] #[],.string ⟨#[41]⟩] w (Post w b S i h (ZfV S.size (S.toks.drop i)) (Zim w)):=
  Ze8 (S.toks.length + 1) 133 b S .field ent133 (Zke b S _ false) h w i hp (by omega) ⟨#[40]⟩ ⟨#[41]⟩ (by decide) (by decide)
 clear hp
 go_enter func139,ntmps139
 go_wp2_with (go_at_call 132;(with_reducible refine C.mono ?_);rintro e w1 h1;rcases h1.ways with ⟨a,j,h',e1,rfl,g,p,rfl⟩ | ⟨l,j,v,e1,rfl,g,hj,p,ho⟩;exact ⟨rfl,Post.err e1 g p⟩;have HK:=hid (And.intro e1 (And.intro g (And.intro p ho)));clear h1 e1 g p ho)
 go_ret
 exact Post.ok HK.out.1 HK.out.2.1 HK.out.2.2.1 hj HK.out.2.2.2
theorem ZeV (N b:Nat) (S:Pg) (h:Bool) (HE:Does N 138 b S false (single (lim (.one .expr)))) (w:World) (i:Nat) (hp:Ps w b S i h) (hN:S.toks.length≤N + i) :
  Calls prog 189 #[.pointer (some ⟨b,0,none⟩)] w (Post w b S i h (S8.list lim S8.mLp .expr S8.mRp S.size (S.toks.drop i)) (Zim w)):=by
 have C:Calls prog 132 #[.pointer (some ⟨b,0,none⟩),.string ⟨#[40]⟩,.func (.func 138) #[.pointer (some ⟨b,0,none⟩)] #[],.string ⟨#[41]⟩] w (Post w b S i h (S8.list lim S8.mLp .expr S8.mRp S.size (S.toks.drop i)) (Zim w)):=
  Ze8 N 138 b S .expr ent138 HE h w i hp hN ⟨#[40]⟩ ⟨#[41]⟩ (by decide) (by decide)
 clear hp HE
 go_enter func189,ntmps189
 go_wp2_with (go_at_call 132;(with_reducible refine C.mono ?_);rintro e w1 h1;rcases h1.ways with ⟨a,j,h',e1,rfl,g,p,rfl⟩ | ⟨l,j,v,e1,rfl,g,hj,p,ho⟩;exact ⟨rfl,Post.err e1 g p⟩;have HK:=hid (And.intro e1 (And.intro g (And.intro p ho)));clear h1 e1 g p ho)
 go_ret
 exact Post.ok HK.out.1 HK.out.2.1 HK.out.2.2.1 hj HK.out.2.2.2
theorem Znk (b:Nat) (S:Pg) (h:Bool) (w:World) (i:Nat) (hp:Ps w b S i h) :
  Calls prog 137 #[.pointer (some ⟨b,0,none⟩)] w (Post w b S i h (ZuV S.size (S.toks.drop i)) fun c v w'=>OwnRow w' w.heap.size c v∧c.length≤50000):=by
 have C0:=Zd5 b S h w i hp
 have hlt:=hp.lt
 have HM:Hid (∀R,(do let l ← ZfV;let _ ← S8.must S8.ZfH;let y ← single (lim (.one .type));pure (l++[y]):S8.P (List Nd)) S.size (S.toks.drop i)=R→ZuV S.size (S.toks.drop i)=R):=hid (fun R h=>h)
 clear hp
 go_enter func137,ntmps137
 go_wp2_with (first
  | (go_at_call 139;(with_reducible refine C0.mono ?_);rintro e w1 h1;rcases h1.ways with ⟨a,j,h',e1,rfl,g,p,rfl⟩ | ⟨l,j1,v1,e1,rfl,g,hj1,p,ho,hc⟩;exact ⟨rfl,Post.err (HM.out _ (by simp only [S8.Zac,e1])) g p⟩;have F1:=hid (And.intro p (And.intro g ho));have E1:=hid e1;have C1:Calls prog 119 #[.pointer (some ⟨b,0,none⟩),.string ⟨#[58]⟩] w1 (Post w1 b S j1 h (S8.must S8.ZfH S.size (S.toks.drop j1)) fun _ v _=>v=.tuple #[]):=Zbd b S j1 h _ p ⟨#[58]⟩ (by decide);clear h1 e1 g p ho)
  | (go_at_call 119;(with_reducible refine C1.mono ?_);rintro e w2 h1;rcases h1.ways with ⟨a,j,h',e1,rfl,g,p,rfl⟩ | ⟨u2,j2,v,e1,rfl,g,hj2,p,rfl⟩;exact ⟨rfl,Post.err (HM.out _ (by simp only [S8.Zac,E1.out,e1])) (Zaa F1.out.2.1 g (.inl rfl)) p⟩;have F2:=hid (And.intro p (And.intro (Zaa F1.out.2.1 g (.inl rfl)) (F1.out.2.2.grown g hlt)));have E2:=hid e1;have C2:=Zhb b S (S.toks.length + 1) h w2 j2 p (by omega);clear h1 e1 g p)
  | (go_at_call 198;(with_reducible refine C2.mono ?_);rintro e w3 h1;rcases h1.ways with ⟨a,j,h',e1,rfl,g,p,rfl⟩ | ⟨x,j3,v,e1,rfl,g,hj3,p,s,rfl,ho⟩;exact ⟨rfl,Post.err (HM.out _ (by simp only [S8.Zac,E1.out,E2.out,e1])) (Zaa F2.out.2.1 g (.inl rfl)) p⟩;have F3:=hid (And.intro p (And.intro (Zaa F2.out.2.1 g (.inl rfl)) (And.intro (F2.out.2.2.grown g hlt) ho)));have E3:=hid e1;clear h1 e1 g p ho)
  | (at_builtin;refine ZbY (base:=w.heap.size) (g:=w3.heap.size) (c:=l) (x:=x) (r:=s) (F3.out.2.2.1.alloc _) (Is.fresh w3 24 _) ?kid (by omega) ?hb rfl (.tmp 8) (.tmp 11) rfl rfl rfl ?_;rotate_left 2;intro v' w5 h1 h2;have HZ:=hid (And.intro h1 h2);clear h1 h2))
 case kid=>exact ZbZ F2.out.2.2 F3.out.2.2.2 (fun g hg=>Below.heap_alloc w3 _ g hg) F2.out.2.1.size
 case hb=>exact Nat.le_trans F3.out.2.1.size (by simp)
 go_ret
 have hnum:=F3.out.1.env.num
 have hle:=F3.out.1.le
 exact Post.ok (j:=j3) (HM.out _ (by simp only [S8.Zac,E1.out,E2.out,E3.out];rfl)) (Zan (Zbl F3.out.2.1 _) HZ.out.2) ((F3.out.1.alloc _).below HZ.out.2 hlt) (by omega) ⟨HZ.out.1,by simp;omega⟩
open Go.RowKit L7
open S8 (lim single What)
theorem ZhO (h:Bool) (e:Int) (l:List PTok):single (lim (.expr h)) e l=S8.expr lim h e l:=by
 rw [S8.ZbG,S8.Zbb (nt:=.expr h) rfl]
 show (match S8.one (S8.expr lim h) e l with | .out=>_ | .err a=>_ | .ok [x] r=>_ | .ok _ r=>_)=_
 unfold S8.one
 rw [S8.Zac]
 cases S8.expr lim h e l <;> rfl
theorem ZlU (h:Bool) (k:Int) (t:Bs) (a:Int) (e:Int) (q:List PTok):(do let l ← S8.list lim S8.mLp .field S8.mRp;let s ← S8.sig lim h;pure (.mk k t 0 a (l++s)):S8.P Nd) e q=(do let l ← ZuV;let _ ← S8.must S8.mEq;let y ← single (lim (.expr h));pure (.mk k t 0 a (l++[y])):S8.P Nd) e q:=by
 unfold S8.sig ZuV ZfV
 simp only [S8.Zac]
 cases S8.list lim S8.mLp What.field S8.mRp e q with
 | out=>rfl
 | err a=>rfl
 | ok l r=>
  simp only
  cases S8.must S8.ZfH e r with
  | out=>rfl
  | err a=>rfl
  | ok u r=>
   simp only
   cases single (lim (.one .type)) e r with
   | out=>rfl
   | err a=>rfl
   | ok y r=>
    simp only [S8.Zb5]
    cases S8.must S8.mEq e r with
    | out=>rfl
    | err a=>rfl
    | ok u r=>
     simp only
     cases single (lim (.expr h)) e r with
     | out=>rfl
     | err a=>rfl
     | ok z r=>simp
theorem Zfc:single (lim (.one .expr))=single (lim (.expr false)):=by
 funext e l
 rw [Zdl];rfl
theorem ZnP (N b:Nat) (S:Pg) (h:Bool) (HE:∀h,Does N 138 b S h (single (lim (.expr h)))) (w:World) (i:Nat) (hp:Ps w b S i h) (hN:S.toks.length≤N + i) (hw:Zag S i=S8.Zfl) :
  Calls prog 199 #[.pointer (some ⟨b,0,none⟩)] w (Post w b S i h (single (lim (.expr h)) S.size (S.toks.drop i)) (ZaO w)):=by
 have HM:Hid (∀R,(do let t ← S8.low;let _ ← S8.must S8.mEq;let x ← single (lim (.expr h));let _ ← S8.must S8.wIn;let y ← single (lim (.expr h));pure (.mk 37 t 0 (place S i) [x,y]):S8.P Nd) S.size (S.toks.drop (i + 1))=R→single (lim (.expr h)) S.size (S.toks.drop i)=R):=hid (by
  intro R h1
  rw [ZhO,← h1]
  show S8.expr lim h S.size (S.toks.drop i)=_
  unfold S8.expr
  refine ZaN ?_ (fun hl=>absurd (ZaL (S:=S) (i:=i) (by rw [hw];decide)) (by omega))
  simp (decide:=true) only [S8.Zac,S8.Zae,Zaf S i (show S8.Zfl≠[] by decide),hw,if_true,Zay S i (show S8.Zfl≠[] by decide)])
 have HC:=hid (HE h)
 clear HE
 have HP:=hid hp
 have HW:=hid hw
 clear hw
 have B0:=ZaH b S i h _ (hp.alloc (.cells z5 24)) 37
 obtain ⟨pl,hpl⟩:∃pl,pl=place S i:=⟨_,rfl⟩
 rw [← hpl] at HM B0
 have HPL:=hid hpl
 have hle:=hp.le
 clear hp hpl
 go_enter func199,ntmps199
 go_wp2_with (first
  | (go_at_call 123;(with_reducible refine B0.mono ?_);rintro e w1 ⟨rfl,h1⟩;have F1:=hid (Fn.start HP.out h1 37 0 pl);clear h1;have C1:=Za6 b S i h _ F1.out.ps ⟨#[108,101,116]⟩ HW.out (by decide))
  | (go_at_call 119;(with_reducible refine C1.mono ?_);rintro e w2 ⟨rfl,p,g⟩;have F2:=hid (F1.out.call g p);clear g p C1;have C2:=Zcz b S (i + 1) h _ F2.out.ps)
  | (go_at_call 136;(with_reducible refine C2.mono ?_);rintro e w3 h1;rcases h1.ways with ⟨a,j,h',e1,rfl,g,p,rfl⟩ | ⟨t,j3,v,e1,rfl,g,hj3,p,rfl⟩;exact ⟨rfl,Post.err (HM.out _ (by simp only [S8.Zac,e1])) (Zaa F2.out.fr g (.inl rfl)) p⟩;have F3:=hid (F2.out.call g p);have E3:=hid e1;have hl3:=ZaT S8.Za5 e1;clear h1 e1 g p C2)
  | (refine Zbk F3.out t rfl _ _ rfl rfl rfl ?_;intro w4 h1;have F4:=hid h1;clear h1;have C3:Calls prog 119 #[.pointer (some ⟨b,0,none⟩),.string ⟨#[61]⟩] _ (Post _ b S j3 h (S8.must S8.mEq S.size (S.toks.drop j3)) fun _ v _=>v=.tuple #[]):=Zbd b S j3 h _ F4.out.ps ⟨#[61]⟩ (by decide))
  | (go_at_call 119;(with_reducible refine C3.mono ?_);rintro e w5 h1;rcases h1.ways with ⟨a,j,h',e1,rfl,g,p,rfl⟩ | ⟨u5,j5,v,e1,rfl,g,hj5,p,rfl⟩;exact ⟨rfl,Post.err (HM.out _ (by simp only [S8.Zac,E3.out,e1])) (Zaa F4.out.fr g (.inl rfl)) p⟩;have F5:=hid (F4.out.call g p);have E5:=hid e1;have hl5:=ZaT (S8.Zal _) e1;clear h1 e1 g p C3;have C4:=HC.out _ j5 F5.out.ps (by omega))
  | (go_at_call 138;(with_reducible refine C4.mono ?_);rintro e w6 h1;rcases h1.ways with ⟨a,j,h',e1,rfl,g,p,rfl⟩ | ⟨x,j6,v,e1,rfl,g,hj6,p,r6,rfl,ho⟩;exact ⟨rfl,Post.err (HM.out _ (by simp only [S8.Zac,E3.out,E5.out,e1])) (Zaa F5.out.fr g (.inl rfl)) p⟩;have F6:=hid (And.intro (F5.out.call g p) ho);have G6:=hid (F5.out.single g p ho);have E6:=hid e1;clear h1 e1 g p ho C4)
  | (refine Za7 G6.out.1 G6.out.2 rfl _ _ rfl rfl rfl ?_;intro w7 h1;have F7:=hid h1;clear h1;have C5:Calls prog 119 #[.pointer (some ⟨b,0,none⟩),.string ⟨#[105,110]⟩] _ (Post _ b S j6 h (S8.must S8.wIn S.size (S.toks.drop j6)) fun _ v _=>v=.tuple #[]):=Zbd b S j6 h _ F7.out.ps ⟨#[105,110]⟩ (by decide))
  | (go_at_call 119;(with_reducible refine C5.mono ?_);rintro e w8 h1;rcases h1.ways with ⟨a,j,h',e1,rfl,g,p,rfl⟩ | ⟨u8,j8,v,e1,rfl,g,hj8,p,rfl⟩;exact ⟨rfl,Post.err (HM.out _ (by simp only [S8.Zac,E3.out,E5.out,E6.out,e1])) (Zaa F7.out.fr g (.inl rfl)) p⟩;have F8:=hid (F7.out.call g p);have E8:=hid e1;have hl8:=ZaT (S8.Zal _) e1;clear h1 e1 g p C5))
 have U9:=F8.out.nd.at_ 4
 refine r2 (fun W=>W.cell? ⟨w1.heap.size,4,none⟩=some (.slice (some ⟨w6.heap.size,0,none⟩) 1 1)) (fun j=>decide (j < 6)) [0,1,2] [3,4,5,6,7] U9 ?_
 refine fs (.pointer (some ⟨w1.heap.size,4,none⟩)) rfl ?_
 refine fs (.slice (some ⟨w6.heap.size,0,none⟩) 1 1) rfl ?_
 refine fs (.pointer (some ⟨b,0,none⟩)) rfl ?_
 refine Zap ?_
 clear U9
 have F9:=hid (F8.out.look (Below.refl _ _).drew)
 have C6:=HC.out _ j8 F9.out.ps (by omega)
 refine cs rfl fun K9 HK9=>?_
 go_wp2_with (go_at_call 138;(with_reducible refine C6.mono ?_);rintro e w10 h1;rcases h1.ways with ⟨a,j,h',e1,rfl,g,p,rfl⟩ | ⟨y,j10,v,e1,rfl,g,hj10,p,r10,rfl,ho⟩;exact ⟨rfl,Post.err (HM.out _ (by simp only [S8.Zac,E3.out,E5.out,E6.out,E8.out,e1])) (Zaa F9.out.fr g (.inl rfl)) p⟩;have F10:=hid (And.intro (F9.out.call g p) ho);have E10:=hid e1;clear h1 e1 g p ho C6)
 refine HK9.out _ _ (fun _=>F10.out.1.nd.at_ 4) ?_
 refine cs rfl fun K9 HK9=>?_
 go_wp2_with fail
 have F11:=hid (F10.out.1.look ((Below.refl _ _).alloc (Nat.le_refl _) (.cells (nd5 y.k y.t y.n y.a r10) 24)))
 have HI11:=hid (Is.fresh w10 24 (nd5 y.k y.t y.n y.a r10))
 refine HK9.out _ _ (fun _=>F11.out.nd.at_ 4) ?_
 refine cs rfl fun K9 HK9=>?_
 refine ZbY (base:=w1.heap.size + 1) (g:=w10.heap.size) (x:=y) (r:=r10) F11.out.row HI11.out ?kid ?len ?hb rfl (.tmp 20) (.tmp 23) rfl rfl rfl ?_
 case kid=>exact ZbZ F9.out.row F10.out.2 (fun g hg=>Below.heap_alloc w10 _ g hg) F9.out.size
 case len=>simp
 case hb=>exact F11.out.size
 intro v12 w12 h1 h2
 have F12:=hid (And.intro (F11.out.turn h2) h1)
 clear h1 h2
 refine HK9.out _ _ (fun _=>F12.out.1.nd.at_ 4) ?_
 refine cs rfl fun K9 HK9=>?_
 go_wp2_with fail
 refine HK9.out _ _ (fun h=>by cases h) ?_
 refine cs rfl fun K9 HK9=>?_
 refine ZbX F12.out.1 F12.out.2 rfl _ _ rfl rfl rfl ?_
 intro w13 h1
 have F13:=hid h1
 clear h1
 refine HK9.out _ _ (fun h=>by cases h) ?_
 refine Zam ?_
 go_wp2_with (first
  | (refine Zax F13.out rfl _ rfl rfl ?_)
  | (refine Zaw F13.out rfl _ _ rfl rfl rfl ?_;intro w14 h1 h2 h3 h4;have F14:=hid (And.intro h1 (And.intro h2 (And.intro h3 h4)));clear h1 h2 h3 h4))
 refine ret24 results199 F14.out.1
  (Post.ok (j:=j10) (HM.out _ (by simp only [S8.Zac,E3.out,E5.out,E6.out,E8.out,E10.out];rfl)) F14.out.2.1 F14.out.2.2.1 (by omega) F14.out.2.2.2)
theorem Zp4 (N b:Nat) (S:Pg) (h:Bool) (HE:∀h,Does N 138 b S h (single (lim (.expr h)))) (w:World) (i:Nat) (hp:Ps w b S i h) (hN:S.toks.length≤N + i) (hw:Zag S i=S8.wIf) :
  Calls prog 200 #[.pointer (some ⟨b,0,none⟩)] w (Post w b S i h (single (lim (.expr h)) S.size (S.toks.drop i)) (ZaO w)):=by
 have HM:Hid (∀R,(do let x ← single (lim (.expr h));let _ ← S8.must S8.Zit;let y ← single (lim (.expr h));let _ ← S8.must S8.Zfo;let z ← single (lim (.expr h));pure (.mk 36 [] 0 (place S i) [x,y,z]):S8.P Nd) S.size (S.toks.drop (i + 1))=R→single (lim (.expr h)) S.size (S.toks.drop i)=R):=hid (by
  intro R h1
  rw [ZhO,← h1]
  show S8.expr lim h S.size (S.toks.drop i)=_
  unfold S8.expr
  refine ZaN ?_ (fun hl=>absurd (ZaL (S:=S) (i:=i) (by rw [hw];decide)) (by omega))
  simp (decide:=true) only [S8.Zac,S8.Zae,Zaf S i (show S8.Zfl≠[] by decide),Zaf S i (show S8.wIf≠[] by decide),hw,if_true,if_false,Zay S i (show S8.wIf≠[] by decide)])
 have HC:=hid (HE h)
 clear HE
 have HP:=hid hp
 have HW:=hid hw
 clear hw
 have B0:=ZaH b S i h _ (hp.alloc (.cells z5 24)) 36
 obtain ⟨pl,hpl⟩:∃pl,pl=place S i:=⟨_,rfl⟩
 rw [← hpl] at HM B0
 have HPL:=hid hpl
 have hle:=hp.le
 clear hp hpl
 go_enter func200,ntmps200
 go_wp2_with (first
  | (go_at_call 123;(with_reducible refine B0.mono ?_);rintro e w1 ⟨rfl,h1⟩;have F1:=hid (Fn.start HP.out h1 36 0 pl);clear h1;have C1:=Za6 b S i h _ F1.out.ps ⟨#[105,102]⟩ HW.out (by decide))
  | (go_at_call 119;(with_reducible refine C1.mono ?_);rintro e w2 ⟨rfl,p,g⟩;have F2:=hid (F1.out.call g p);clear g p C1;have C2:=HC.out _ (i + 1) F2.out.ps (by omega))
  | (go_at_call 138;(with_reducible refine C2.mono ?_);rintro e w3 h1;rcases h1.ways with ⟨a,j,h',e1,rfl,g,p,rfl⟩ | ⟨x,j3,v,e1,rfl,g,hj3,p,r3,rfl,ho⟩;exact ⟨rfl,Post.err (HM.out _ (by simp only [S8.Zac,e1])) (Zaa F2.out.fr g (.inl rfl)) p⟩;have F3:=hid (And.intro (F2.out.call g p) ho);have G3:=hid (F2.out.single g p ho);have E3:=hid e1;clear h1 e1 g p ho C2)
  | (refine Za7 G3.out.1 G3.out.2 rfl _ _ rfl rfl rfl ?_;intro w4 h1;have F4:=hid h1;clear h1;have C3:Calls prog 119 #[.pointer (some ⟨b,0,none⟩),.string ⟨#[116,104,101,110]⟩] _ (Post _ b S j3 h (S8.must S8.Zit S.size (S.toks.drop j3)) fun _ v _=>v=.tuple #[]):=Zbd b S j3 h _ F4.out.ps ⟨#[116,104,101,110]⟩ (by decide))
  | (go_at_call 119;(with_reducible refine C3.mono ?_);rintro e w5 h1;rcases h1.ways with ⟨a,j,h',e1,rfl,g,p,rfl⟩ | ⟨u5,j5,v,e1,rfl,g,hj5,p,rfl⟩;exact ⟨rfl,Post.err (HM.out _ (by simp only [S8.Zac,E3.out,e1])) (Zaa F4.out.fr g (.inl rfl)) p⟩;have F5:=hid (F4.out.call g p);have E5:=hid e1;have hl5:=ZaT (S8.Zal _) e1;clear h1 e1 g p C3))
 have U9:=F5.out.nd.at_ 4
 refine r2 (fun W=>W.cell? ⟨w1.heap.size,4,none⟩=some (.slice (some ⟨w3.heap.size,0,none⟩) 1 1)) (fun j=>decide (j < 6)) [0,1,2] [3,4,5,6,7] U9 ?_
 refine fs (.pointer (some ⟨w1.heap.size,4,none⟩)) rfl ?_
 refine fs (.slice (some ⟨w3.heap.size,0,none⟩) 1 1) rfl ?_
 refine fs (.pointer (some ⟨b,0,none⟩)) rfl ?_
 refine Zap ?_
 clear U9
 have F6:=hid (F5.out.look (Below.refl _ _).drew)
 have C4:=HC.out _ j5 F6.out.ps (by omega)
 refine cs rfl fun K9 HK9=>?_
 go_wp2_with (go_at_call 138;(with_reducible refine C4.mono ?_);rintro e w7 h1;rcases h1.ways with ⟨a,j,h',e1,rfl,g,p,rfl⟩ | ⟨y,j7,v,e1,rfl,g,hj7,p,r7,rfl,ho⟩;exact ⟨rfl,Post.err (HM.out _ (by simp only [S8.Zac,E3.out,E5.out,e1])) (Zaa F6.out.fr g (.inl rfl)) p⟩;have F7:=hid (And.intro (F6.out.call g p) ho);have E7:=hid e1;clear h1 e1 g p ho C4)
 refine HK9.out _ _ (fun _=>F7.out.1.nd.at_ 4) ?_
 refine cs rfl fun K9 HK9=>?_
 go_wp2_with fail
 have F8:=hid (F7.out.1.look ((Below.refl _ _).alloc (Nat.le_refl _) (.cells (nd5 y.k y.t y.n y.a r7) 24)))
 have HI8:=hid (Is.fresh w7 24 (nd5 y.k y.t y.n y.a r7))
 refine HK9.out _ _ (fun _=>F8.out.nd.at_ 4) ?_
 refine cs rfl fun K9 HK9=>?_
 refine ZbY (base:=w1.heap.size + 1) (g:=w7.heap.size) (x:=y) (r:=r7) F8.out.row HI8.out ?kid ?len ?hb rfl (.tmp 15) (.tmp 18) rfl rfl rfl ?_
 case kid=>exact ZbZ F6.out.row F7.out.2 (fun g hg=>Below.heap_alloc w7 _ g hg) F6.out.size
 case len=>simp
 case hb=>exact F8.out.size
 intro v9 w9 h1 h2
 have F9:=hid (And.intro (F8.out.turn h2) h1)
 clear h1 h2
 refine HK9.out _ _ (fun _=>F9.out.1.nd.at_ 4) ?_
 refine cs rfl fun K9 HK9=>?_
 go_wp2_with fail
 refine HK9.out _ _ (fun h=>by cases h) ?_
 refine cs rfl fun K9 HK9=>?_
 refine ZbX F9.out.1 F9.out.2 rfl _ _ rfl rfl rfl ?_
 intro w10 h1
 have F10:=hid h1
 clear h1
 refine HK9.out _ _ (fun h=>by cases h) ?_
 refine Zam ?_
 have C5:Calls prog 119 #[.pointer (some ⟨b,0,none⟩),.string ⟨#[101,108,115,101]⟩] _ (Post _ b S j7 h (S8.must S8.Zfo S.size (S.toks.drop j7)) fun _ v _=>v=.tuple #[]):=Zbd b S j7 h _ F10.out.ps ⟨#[101,108,115,101]⟩ (by decide)
 go_wp2_with (first
  | (go_at_call 119;(with_reducible refine C5.mono ?_);rintro e w11 h1;rcases h1.ways with ⟨a,j,h',e1,rfl,g,p,rfl⟩ | ⟨u11,j11,v,e1,rfl,g,hj11,p,rfl⟩;exact ⟨rfl,Post.err (HM.out _ (by simp only [S8.Zac,E3.out,E5.out,E7.out,e1])) (Zaa F10.out.fr g (.inl rfl)) p⟩;have F11:=hid (F10.out.call g p);have E11:=hid e1;have hl11:=ZaT (S8.Zal _) e1;clear h1 e1 g p C5))
 have U9:=F11.out.nd.at_ 4
 refine r2 (fun W=>W.cell? ⟨w1.heap.size,4,none⟩=some (v9)) (fun j=>decide (j < 6)) [0,1,2] [3,4,5,6,7] U9 ?_
 refine fs (.pointer (some ⟨w1.heap.size,4,none⟩)) rfl ?_
 refine fs (v9) rfl ?_
 refine fs (.pointer (some ⟨b,0,none⟩)) rfl ?_
 refine Zap ?_
 clear U9
 have F12:=hid (F11.out.look (Below.refl _ _).drew)
 have C6:=HC.out _ j11 F12.out.ps (by omega)
 refine cs rfl fun K9 HK9=>?_
 go_wp2_with (go_at_call 138;(with_reducible refine C6.mono ?_);rintro e w13 h1;rcases h1.ways with ⟨a,j,h',e1,rfl,g,p,rfl⟩ | ⟨z,j13,v,e1,rfl,g,hj13,p,r13,rfl,ho⟩;exact ⟨rfl,Post.err (HM.out _ (by simp only [S8.Zac,E3.out,E5.out,E7.out,E11.out,e1])) (Zaa F12.out.fr g (.inl rfl)) p⟩;have F13:=hid (And.intro (F12.out.call g p) ho);have E13:=hid e1;clear h1 e1 g p ho C6)
 refine HK9.out _ _ (fun _=>F13.out.1.nd.at_ 4) ?_
 refine cs rfl fun K9 HK9=>?_
 go_wp2_with fail
 have F14:=hid (F13.out.1.look ((Below.refl _ _).alloc (Nat.le_refl _) (.cells (nd5 z.k z.t z.n z.a r13) 24)))
 have HI14:=hid (Is.fresh w13 24 (nd5 z.k z.t z.n z.a r13))
 refine HK9.out _ _ (fun _=>F14.out.nd.at_ 4) ?_
 refine cs rfl fun K9 HK9=>?_
 refine ZbY (base:=w1.heap.size + 1) (g:=w13.heap.size) (x:=z) (r:=r13) F14.out.row HI14.out ?kid ?len ?hb rfl (.tmp 24) (.tmp 27) rfl rfl rfl ?_
 case kid=>exact ZbZ F12.out.row F13.out.2 (fun g hg=>Below.heap_alloc w13 _ g hg) F12.out.size
 case len=>simp
 case hb=>exact F14.out.size
 intro v15 w15 h1 h2
 have F15:=hid (And.intro (F14.out.turn h2) h1)
 clear h1 h2
 refine HK9.out _ _ (fun _=>F15.out.1.nd.at_ 4) ?_
 refine cs rfl fun K9 HK9=>?_
 go_wp2_with fail
 refine HK9.out _ _ (fun h=>by cases h) ?_
 refine cs rfl fun K9 HK9=>?_
 refine ZbX F15.out.1 F15.out.2 rfl _ _ rfl rfl rfl ?_
 intro w16 h1
 have F16:=hid h1
 clear h1
 refine HK9.out _ _ (fun h=>by cases h) ?_
 refine Zam ?_
 go_wp2_with (first
  | (refine Zax F16.out rfl _ rfl rfl ?_)
  | (refine Zaw F16.out rfl _ _ rfl rfl rfl ?_;intro w17 h1 h2 h3 h4;have F17:=hid (And.intro h1 (And.intro h2 (And.intro h3 h4)));clear h1 h2 h3 h4))
 refine ret24 results200 F17.out.1
  (Post.ok (j:=j13) (HM.out _ (by simp only [S8.Zac,E3.out,E5.out,E7.out,E11.out,E13.out];rfl)) F17.out.2.1 F17.out.2.2.1 (by omega) F17.out.2.2.2)
theorem Zp1 (N b:Nat) (S:Pg) (h:Bool) (HE:∀h,Does N 138 b S h (single (lim (.expr h)))) (w:World) (i:Nat) (hp:Ps w b S i h) (hN:S.toks.length≤N + i) (hw:Zag S i=S8.Zd7) :
  Calls prog 202 #[.pointer (some ⟨b,0,none⟩)] w (Post w b S i h (single (lim (.expr h)) S.size (S.toks.drop i)) (ZaO w)):=by
 have HM:Hid (∀R,(do let l ← ZuV;let _ ← S8.must S8.mEq;let y ← single (lim (.expr h));pure (.mk 41 [] 0 (place S i) (l++[y])):S8.P Nd) S.size (S.toks.drop (i + 1))=R→single (lim (.expr h)) S.size (S.toks.drop i)=R):=hid (by
  intro R h1
  rw [ZhO,← h1,← ZlU]
  show S8.expr lim h S.size (S.toks.drop i)=_
  unfold S8.expr
  refine ZaN ?_ (fun hl=>absurd (ZaL (S:=S) (i:=i) (by rw [hw];decide)) (by omega))
  simp (decide:=true) only [S8.Zac,S8.Zae,Zaf S i (show S8.Zfl≠[] by decide),Zaf S i (show S8.wIf≠[] by decide),Zaf S i (show S8.ZbR≠[] by decide),Zaf S i (show S8.Zd7≠[] by decide),hw,if_true,if_false,Zay S i (show S8.Zd7≠[] by decide)])
 have HC:=hid (HE h)
 clear HE
 have HP:=hid hp
 have HW:=hid hw
 clear hw
 have B0:=ZaH b S i h _ (hp.alloc (.cells z5 24)) 41
 obtain ⟨pl,hpl⟩:∃pl,pl=place S i:=⟨_,rfl⟩
 rw [← hpl] at HM B0
 have HPL:=hid hpl
 have hle:=hp.le
 clear hp hpl
 go_enter func202,ntmps202
 go_wp2_with (first
  | (go_at_call 123;(with_reducible refine B0.mono ?_);rintro e w1 ⟨rfl,h1⟩;have F1:=hid (Fn.start HP.out h1 41 0 pl);clear h1;have C1:=Za6 b S i h _ F1.out.ps ⟨#[102,117,110]⟩ HW.out (by decide))
  | (go_at_call 119;(with_reducible refine C1.mono ?_);rintro e w2 ⟨rfl,p,g⟩;have F2:=hid (F1.out.call g p);clear g p C1;have C2:=Znk b S h _ (i + 1) F2.out.ps)
  | (go_at_call 137;(with_reducible refine C2.mono ?_);rintro e w3 h1;rcases h1.ways with ⟨a,j,h',e1,rfl,g,p,rfl⟩ | ⟨l,j3,v3,e1,rfl,g,hj3,p,ho,hc3⟩;exact ⟨rfl,Post.err (HM.out _ (by simp only [S8.Zac,e1])) (Zaa F2.out.fr g (.inl rfl)) p⟩;have F3:=hid (F2.out.call g p);have G3:=hid ho;have E3:=hid e1;have Q3:=hid g.size;clear h1 e1 g p ho C2)
  | (refine Za7 F3.out (G3.out.weak F2.out.size) rfl _ _ rfl rfl rfl ?_;intro w4 h1;have F4:=hid h1;clear h1;have C3:Calls prog 119 #[.pointer (some ⟨b,0,none⟩),.string ⟨#[61]⟩] _ (Post _ b S j3 h (S8.must S8.mEq S.size (S.toks.drop j3)) fun _ v _=>v=.tuple #[]):=Zbd b S j3 h _ F4.out.ps ⟨#[61]⟩ (by decide))
  | (go_at_call 119;(with_reducible refine C3.mono ?_);rintro e w5 h1;rcases h1.ways with ⟨a,j,h',e1,rfl,g,p,rfl⟩ | ⟨u5,j5,v,e1,rfl,g,hj5,p,rfl⟩;exact ⟨rfl,Post.err (HM.out _ (by simp only [S8.Zac,E3.out,e1])) (Zaa F4.out.fr g (.inl rfl)) p⟩;have F5:=hid (F4.out.call g p);have E5:=hid e1;have hl5:=ZaT (S8.Zal _) e1;clear h1 e1 g p C3))
 have U9:=F5.out.nd.at_ 4
 refine r2 (fun W=>W.cell? ⟨w1.heap.size,4,none⟩=some (v3)) (fun j=>decide (j < 6)) [0,1,2] [3,4,5,6,7] U9 ?_
 refine fs (.pointer (some ⟨w1.heap.size,4,none⟩)) rfl ?_
 refine fs (v3) rfl ?_
 refine fs (.pointer (some ⟨b,0,none⟩)) rfl ?_
 refine Zap ?_
 clear U9
 have F6:=hid (F5.out.look (Below.refl _ _).drew)
 have C4:=HC.out _ j5 F6.out.ps (by omega)
 refine cs rfl fun K9 HK9=>?_
 go_wp2_with (go_at_call 138;(with_reducible refine C4.mono ?_);rintro e w7 h1;rcases h1.ways with ⟨a,j,h',e1,rfl,g,p,rfl⟩ | ⟨y,j7,v,e1,rfl,g,hj7,p,r7,rfl,ho⟩;exact ⟨rfl,Post.err (HM.out _ (by simp only [S8.Zac,E3.out,E5.out,e1])) (Zaa F6.out.fr g (.inl rfl)) p⟩;have F7:=hid (And.intro (F6.out.call g p) ho);have E7:=hid e1;clear h1 e1 g p ho C4)
 refine HK9.out _ _ (fun _=>F7.out.1.nd.at_ 4) ?_
 refine cs rfl fun K9 HK9=>?_
 go_wp2_with fail
 have F8:=hid (F7.out.1.look ((Below.refl _ _).alloc (Nat.le_refl _) (.cells (nd5 y.k y.t y.n y.a r7) 24)))
 have HI8:=hid (Is.fresh w7 24 (nd5 y.k y.t y.n y.a r7))
 refine HK9.out _ _ (fun _=>F8.out.nd.at_ 4) ?_
 refine cs rfl fun K9 HK9=>?_
 refine ZbY (base:=w1.heap.size + 1) (g:=w7.heap.size) (x:=y) (r:=r7) F8.out.row HI8.out ?kid ?len ?hb rfl (.tmp 14) (.tmp 17) rfl rfl rfl ?_
 case kid=>exact ZbZ F6.out.row F7.out.2 (fun g hg=>Below.heap_alloc w7 _ g hg) F6.out.size
 case len=>omega
 case hb=>exact F8.out.size
 intro v9 w9 h1 h2
 have F9:=hid (And.intro (F8.out.turn h2) h1)
 clear h1 h2
 refine HK9.out _ _ (fun _=>F9.out.1.nd.at_ 4) ?_
 refine cs rfl fun K9 HK9=>?_
 go_wp2_with fail
 refine HK9.out _ _ (fun h=>by cases h) ?_
 refine cs rfl fun K9 HK9=>?_
 refine ZbX F9.out.1 F9.out.2 rfl _ _ rfl rfl rfl ?_
 intro w10 h1
 have F10:=hid h1
 clear h1
 refine HK9.out _ _ (fun h=>by cases h) ?_
 refine Zam ?_
 go_wp2_with (first
  | (refine Zax F10.out rfl _ rfl rfl ?_)
  | (refine Zaw F10.out rfl _ _ rfl rfl rfl ?_;intro w11 h1 h2 h3 h4;have F11:=hid (And.intro h1 (And.intro h2 (And.intro h3 h4)));clear h1 h2 h3 h4))
 refine ret24 results202 F11.out.1
  (Post.ok (j:=j7) (HM.out _ (by simp only [S8.Zac,E3.out,E5.out,E7.out];rfl)) F11.out.2.1 F11.out.2.2.1 (by omega) F11.out.2.2.2)
end Go.Proofs.YtaheffiglmglbaaGreatDoor
