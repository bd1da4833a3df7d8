import Derived.Test.YtaheffiglmglbaaGreatDoorKQi
/- Chg, Conv, Msg, Part, Parts, File. -/
set_option maxHeartbeats 8000000
set_option maxRecDepth 20000
namespace Go.Proofs.YtaheffiglmglbaaGreatDoor
open Go.Proofs.Tryz
open Go.RowKit L7
open S8 (lim single What)
theorem ZtZ (N b:Nat) (S:Pg) (w:World) (i:Nat) (hp:Ps w b S i false) (_:S.toks.length≤N + i) (hw:Zag S i=S8.Zeo) :
  Calls prog 62 #[.pointer (some ⟨b,0,none⟩)] w (Post w b S i false (S8.change lim S.size (S.toks.drop i)) (ZaO w)):=by
 have HM:Hid (∀R,(do let t ← S8.up;let _ ← S8.must S8.wTo;let n ← S8.number;pure (.mk 73 t n (place S i) []):S8.P Nd) S.size (S.toks.drop (i + 1))=R→S8.change lim S.size (S.toks.drop i)=R):=hid (by
  intro R h1
  rw [← h1]
  unfold S8.change
  refine ZaN ?_ (fun hl=>absurd (ZaL (S:=S) (i:=i) (by rw [hw];decide)) (by omega))
  simp (decide:=true) only [S8.Zac,S8.Zae,Zaf S i (show S8.Za2≠[] by decide),Zaf S i (show S8.Zeo≠[] by decide),hw,if_true,if_false,Zay S i (show S8.Zeo≠[] by decide)])
 have HP:=hid hp
 have HW:=hid hw
 clear hw
 have B0:=ZaH b S i false _ (hp.alloc (.cells z5 24)) 73
 obtain ⟨pl,hpl⟩:∃pl,pl=place S i:=⟨_,rfl⟩
 rw [← hpl] at HM B0
 have HPL:=hid hpl
 have hle:=hp.le
 clear hp hpl
 go_enter func62,ntmps62
 go_wp2_with (first
  | (go_at_call 123;(with_reducible refine B0.mono ?_);rintro e w1 ⟨rfl,h1⟩;have F1:=hid (Fn.start HP.out h1 73 0 pl);clear h1;have C1:=Za6 b S i false _ F1.out.ps ⟨#[109,111,118,101]⟩ HW.out (by decide))
  | (go_at_call 119;(with_reducible refine C1.mono ?_);rintro e w2 ⟨rfl,p,g⟩;have F2:=hid (F1.out.call g p);clear g p C1;have C2:=ZbO b S (i + 1) false _ F2.out.ps)
  | (go_at_call 124;(with_reducible refine C2.mono ?_);rintro e w3 h1;rcases h1.ways with ⟨a,j,h',e1,rfl,g,p,rfl⟩ | ⟨t,j3,v,e1,rfl,g,hj3,p,rfl⟩;exact ⟨rfl,Post.err (HM.out _ (by simp only [S8.Zac,e1])) (Zaa F2.out.fr g (.inl rfl)) p⟩;have F3:=hid (F2.out.call g p);have E3:=hid e1;have hl3:=ZaT S8.Zbj e1;clear h1 e1 g p C2)
  | (refine Zbk F3.out t rfl _ _ rfl rfl rfl ?_;intro w4 h1;have F4:=hid h1;clear h1;have C3:Calls prog 119 #[.pointer (some ⟨b,0,none⟩),.string ⟨#[116,111]⟩] _ (Post _ b S j3 false (S8.must S8.wTo S.size (S.toks.drop j3)) fun _ v _=>v=.tuple #[]):=Zbd b S j3 false _ F4.out.ps ⟨#[116,111]⟩ (by decide))
  | (go_at_call 119;(with_reducible refine C3.mono ?_);rintro e w5 h1;rcases h1.ways with ⟨a,j,h',e1,rfl,g,p,rfl⟩ | ⟨u5,j5,v,e1,rfl,g,hj5,p,rfl⟩;exact ⟨rfl,Post.err (HM.out _ (by simp only [S8.Zac,E3.out,e1])) (Zaa F4.out.fr g (.inl rfl)) p⟩;have F5:=hid (F4.out.call g p);have E5:=hid e1;have hl5:=ZaT (S8.Zal _) e1;clear h1 e1 g p C3;have C4:=Zjt b S j5 false _ F5.out.ps)
  | (go_at_call 125;(with_reducible refine C4.mono ?_);rintro e w6 h1;rcases h1.ways with ⟨a,j,h',e1,rfl,g,p,rfl⟩ | ⟨q,j6,v,e1,rfl,g,hj6,p,rfl⟩;exact ⟨rfl,Post.err (HM.out _ (by simp only [S8.Zac,E3.out,E5.out,e1])) (Zaa F5.out.fr g (.inl rfl)) p⟩;have F6:=hid (F5.out.call g p);have E6:=hid e1;have hl6:=ZaT S8.ZaU e1;clear h1 e1 g p C4)
  | (refine Zh4 F6.out q rfl _ _ rfl rfl rfl ?_;intro w7 h1;have F7:=hid h1;clear h1)
  | (refine Zax F7.out rfl _ rfl rfl ?_)
  | (refine Zaw F7.out rfl _ _ rfl rfl rfl ?_;intro w8 h1 h2 h3 h4;have F8:=hid (And.intro h1 (And.intro h2 (And.intro h3 h4)));clear h1 h2 h3 h4))
 refine ret24 results62 F8.out.1
  (Post.ok (j:=j6) (HM.out _ (by (try simp only [S8.Zac,E3.out,E5.out,E6.out]);rfl)) F8.out.2.1 F8.out.2.2.1 (by omega) F8.out.2.2.2)
theorem Zuu (N b:Nat) (S:Pg) (w:World) (i:Nat) (hp:Ps w b S i false) (_:S.toks.length≤N + i) (hw:Zag S i=S8.Zez) :
  Calls prog 63 #[.pointer (some ⟨b,0,none⟩)] w (Post w b S i false (S8.change lim S.size (S.toks.drop i)) (ZaO w)):=by
 have HM:Hid (∀R,(do let t ← S8.up;pure (.mk 74 t 0 (place S i) []):S8.P Nd) S.size (S.toks.drop (i + 1))=R→S8.change lim S.size (S.toks.drop i)=R):=hid (by
  intro R h1
  rw [← h1]
  unfold S8.change
  refine ZaN ?_ (fun hl=>absurd (ZaL (S:=S) (i:=i) (by rw [hw];decide)) (by omega))
  simp (decide:=true) only [S8.Zac,S8.Zae,Zaf S i (show S8.Za2≠[] by decide),Zaf S i (show S8.Zeo≠[] by decide),Zaf S i (show S8.Zez≠[] by decide),hw,if_true,if_false,Zay S i (show S8.Zez≠[] by decide)])
 have HP:=hid hp
 have HW:=hid hw
 clear hw
 have B0:=ZaH b S i false _ (hp.alloc (.cells z5 24)) 74
 obtain ⟨pl,hpl⟩:∃pl,pl=place S i:=⟨_,rfl⟩
 rw [← hpl] at HM B0
 have HPL:=hid hpl
 have hle:=hp.le
 clear hp hpl
 go_enter func63,ntmps63
 go_wp2_with (first
  | (go_at_call 123;(with_reducible refine B0.mono ?_);rintro e w1 ⟨rfl,h1⟩;have F1:=hid (Fn.start HP.out h1 74 0 pl);clear h1;have C1:=Za6 b S i false _ F1.out.ps ⟨#[100,114,111,112]⟩ HW.out (by decide))
  | (go_at_call 119;(with_reducible refine C1.mono ?_);rintro e w2 ⟨rfl,p,g⟩;have F2:=hid (F1.out.call g p);clear g p C1;have C2:=ZbO b S (i + 1) false _ F2.out.ps)
  | (go_at_call 124;(with_reducible refine C2.mono ?_);rintro e w3 h1;rcases h1.ways with ⟨a,j,h',e1,rfl,g,p,rfl⟩ | ⟨t,j3,v,e1,rfl,g,hj3,p,rfl⟩;exact ⟨rfl,Post.err (HM.out _ (by simp only [S8.Zac,e1])) (Zaa F2.out.fr g (.inl rfl)) p⟩;have F3:=hid (F2.out.call g p);have E3:=hid e1;have hl3:=ZaT S8.Zbj e1;clear h1 e1 g p C2)
  | (refine Zbk F3.out t rfl _ _ rfl rfl rfl ?_;intro w4 h1;have F4:=hid h1;clear h1)
  | (refine Zax F4.out rfl _ rfl rfl ?_)
  | (refine Zaw F4.out rfl _ _ rfl rfl rfl ?_;intro w5 h1 h2 h3 h4;have F5:=hid (And.intro h1 (And.intro h2 (And.intro h3 h4)));clear h1 h2 h3 h4))
 refine ret24 results63 F5.out.1
  (Post.ok (j:=j3) (HM.out _ (by (try simp only [S8.Zac,E3.out]);rfl)) F5.out.2.1 F5.out.2.2.1 (by omega) F5.out.2.2.2)
theorem ZnH (N b:Nat) (S:Pg) (k a0:Int) (w:World) (i:Nat) (hp:Ps w b S i false) (_:S.toks.length≤N + i) (ha:a0=place S i) :
  Calls prog 188 #[.pointer (some ⟨b,0,none⟩),.int .i64 k] w (Post w b S i false ((do let t ← S8.Zdn;pure (.mk k t 0 a0 []):S8.P Nd) S.size (S.toks.drop i)) (ZaO w)):=by
 have HM:Hid (∀R,(do let t ← Zf8 (fun t=>ZiP t || t == S8.ZhX);pure (.mk k t 0 a0 []):S8.P Nd) S.size (S.toks.drop i)=R→(do let t ← S8.Zdn;pure (.mk k t 0 a0 []):S8.P Nd) S.size (S.toks.drop i)=R):=hid (by
  intro R h1
  rw [← h1]
  simp only [S8.Zac]
  rw [Zyf hp.env i])
 have HP:=hid hp
 have B0:=ZaH b S i false _ (hp.alloc (.cells z5 24)) k
 rw [← ha] at B0
 have HPL:=hid ha
 have hle:=hp.le
 clear hp ha
 go_enter func188,ntmps188
 go_wp2_with (first
  | (go_at_call 123;(with_reducible refine B0.mono ?_);rintro e w1 ⟨rfl,h1⟩;have F1:=hid (Fn.start HP.out h1 k 0 a0);clear h1;have C1:=ZiH 220 (fun t=>ZiP t || t == S8.ZhX) ent220 ZnK b S i false _ F1.out.ps)
  | (go_at_call 190;(with_reducible refine C1.mono ?_);rintro e w2 h1;rcases h1.ways with ⟨a,j,h',e1,rfl,g,p,rfl⟩ | ⟨t,j2,v,e1,rfl,g,hj2,p,rfl⟩;exact ⟨rfl,Post.err (HM.out _ (by simp only [S8.Zac,e1])) (Zaa F1.out.fr g (.inl rfl)) p⟩;have F2:=hid (F1.out.call g p);have E2:=hid e1;have hl2:=ZaT (Zml _) e1;clear h1 e1 g p C1)
  | (refine Zbk F2.out t rfl _ _ rfl rfl rfl ?_;intro w3 h1;have F3:=hid h1;clear h1)
  | (refine Zax F3.out rfl _ rfl rfl ?_)
  | (refine Zaw F3.out rfl _ _ rfl rfl rfl ?_;intro w4 h1 h2 h3 h4;have F4:=hid (And.intro h1 (And.intro h2 (And.intro h3 h4)));clear h1 h2 h3 h4))
 refine ret24 results188 F4.out.1
  (Post.ok (j:=j2) (HM.out _ (by (try simp only [S8.Zac,E2.out]);rfl)) F4.out.2.1 F4.out.2.2.1 (by omega) F4.out.2.2.2)
theorem Zrr (N b:Nat) (S:Pg) (w:World) (i:Nat) (hp:Ps w b S i false) (hN:S.toks.length≤N + i) (hw:Zag S i=S8.Zeo) :
  Calls prog 32 #[.pointer (some ⟨b,0,none⟩)] w (Post w b S i false (S8.change lim S.size (S.toks.drop i)) (ZaO w)):=by
 have HW:=hid hw
 have HP:=hid hp
 have F0:=hid (And.intro (hp.alloc (.cells z5 24)) (And.intro (Is.fresh w 24 z5) (Zaj (r:=some b) ((Below.refl w.heap.size w).alloc (Nat.le_refl _) (.cells z5 24)))))
 have WD:=Zau b S i false _ F0.out.1
 have WD:Calls prog 60 #[.pointer (some ⟨b,0,none⟩)] (w.alloc (.cells z5 24)) fun e w'=>e=.returned (.string ⟨#[109,111,118,101]⟩)∧Below (w.alloc (.cells z5 24)).heap.size (w.alloc (.cells z5 24)) w':=by
  rw [hw] at WD;exact WD
 clear hp hw
 go_enter func32,ntmps32
 go_wp2_with (first
  | (go_at_call 60;(with_reducible refine WD.mono ?_);rintro e w1 ⟨rfl,h1⟩;have p1:=F0.out.1.below h1 F0.out.1.lt;have F1:=hid (And.intro p1 (And.intro (F0.out.2.1.below h1 F0.out.2.1.lt) (Zan F0.out.2.2 (h1.mono F0.out.2.2.size))));have C1:=ZtZ N b S _ i p1 hN HW.out;clear h1 p1 WD)
  | (go_at_call 62;(with_reducible refine C1.mono ?_);rintro e w2 h1;rcases h1.ways with ⟨a,j,h',e1,rfl,g,p,rfl⟩ | ⟨x,j1,v,e1,rfl,g,hj1,p,r,rfl,ho⟩;exact ⟨rfl,Post.err (e1) (Zaa F1.out.2.2 g (.inl rfl)) p⟩;have hbb:=HP.out.lt;have F2:=hid (And.intro p (And.intro (Zaa F1.out.2.2 g (.inl rfl)) (And.intro (F1.out.2.1.kept g (by simp;omega)) (And.intro (ho.weak F1.out.2.1.lt) e1))));clear h1 e1 g p ho C1)
  | (refine Zah F2.out.2.2.1 rfl 24 _ _ rfl (nd5 x.k x.t x.n x.a r) rfl rfl inf24 rfl (by have h1:=F2.out.2.2.2.1.one;simp [nd5,h1];exact ⟨rfl,rfl,rfl,rfl⟩) ?_;intro w3 h1 h2;have F3:=hid (And.intro h1 h2);clear h1 h2))
 refine ret24 results32 F3.out.1
  (Post.ok (j:=j1) (x:=x) (F2.out.2.2.2.2) (Zaa F2.out.2.1 F3.out.2 (.inr fun j e=>by injection e with e;omega)) (F2.out.1.kept F3.out.2 hbb) hj1 ⟨r,rfl,(F2.out.2.2.2.1.grown F3.out.2 (by omega)).weak (by omega)⟩)
theorem Zrs (N b:Nat) (S:Pg) (w:World) (i:Nat) (hp:Ps w b S i false) (hN:S.toks.length≤N + i) (hw:Zag S i=S8.Zez) :
  Calls prog 32 #[.pointer (some ⟨b,0,none⟩)] w (Post w b S i false (S8.change lim S.size (S.toks.drop i)) (ZaO w)):=by
 have HW:=hid hw
 have HP:=hid hp
 have F0:=hid (And.intro (hp.alloc (.cells z5 24)) (And.intro (Is.fresh w 24 z5) (Zaj (r:=some b) ((Below.refl w.heap.size w).alloc (Nat.le_refl _) (.cells z5 24)))))
 have WD:=Zau b S i false _ F0.out.1
 have WD:Calls prog 60 #[.pointer (some ⟨b,0,none⟩)] (w.alloc (.cells z5 24)) fun e w'=>e=.returned (.string ⟨#[100,114,111,112]⟩)∧Below (w.alloc (.cells z5 24)).heap.size (w.alloc (.cells z5 24)) w':=by
  rw [hw] at WD;exact WD
 clear hp hw
 go_enter func32,ntmps32
 go_wp2_with (first
  | (go_at_call 60;(with_reducible refine WD.mono ?_);rintro e w1 ⟨rfl,h1⟩;have p1:=F0.out.1.below h1 F0.out.1.lt;have F1:=hid (And.intro p1 (And.intro (F0.out.2.1.below h1 F0.out.2.1.lt) (Zan F0.out.2.2 (h1.mono F0.out.2.2.size))));have C1:=Zuu N b S _ i p1 hN HW.out;clear h1 p1 WD)
  | (go_at_call 63;(with_reducible refine C1.mono ?_);rintro e w2 h1;rcases h1.ways with ⟨a,j,h',e1,rfl,g,p,rfl⟩ | ⟨x,j1,v,e1,rfl,g,hj1,p,r,rfl,ho⟩;exact ⟨rfl,Post.err (e1) (Zaa F1.out.2.2 g (.inl rfl)) p⟩;have hbb:=HP.out.lt;have F2:=hid (And.intro p (And.intro (Zaa F1.out.2.2 g (.inl rfl)) (And.intro (F1.out.2.1.kept g (by simp;omega)) (And.intro (ho.weak F1.out.2.1.lt) e1))));clear h1 e1 g p ho C1)
  | (refine Zah F2.out.2.2.1 rfl 24 _ _ rfl (nd5 x.k x.t x.n x.a r) rfl rfl inf24 rfl (by have h1:=F2.out.2.2.2.1.one;simp [nd5,h1];exact ⟨rfl,rfl,rfl,rfl⟩) ?_;intro w3 h1 h2;have F3:=hid (And.intro h1 h2);clear h1 h2))
 refine ret24 results32 F3.out.1
  (Post.ok (j:=j1) (x:=x) (F2.out.2.2.2.2) (Zaa F2.out.2.1 F3.out.2 (.inr fun j e=>by injection e with e;omega)) (F2.out.1.kept F3.out.2 hbb) hj1 ⟨r,rfl,(F2.out.2.2.2.1.grown F3.out.2 (by omega)).weak (by omega)⟩)
theorem Zd6 {S:Pg} {i:Nat} (hne:∀s,s∈[S8.Za2,S8.Zeo,S8.Zez]→Zag S i≠s):S8.change lim S.size (S.toks.drop i)=single (lim .decl) S.size (S.toks.drop i):=by
 have k0:=hne S8.Za2 (by simp)
 have k1:=hne S8.Zeo (by simp)
 have k2:=hne S8.Zez (by simp)
 unfold S8.change
 refine ZaN ?_ (fun hl=>?_)
 ·simp only [S8.Zac,S8.Zae,Zaf S i (show S8.Za2≠[] by decide),Zaf S i (show S8.Zeo≠[] by decide),Zaf S i (show S8.Zez≠[] by decide),k0,k1,k2,decide_false,Bool.false_eq_true,if_false]
 ·rw [ZfW,(Zci hl).1,(Zci hl).2];rfl
theorem Zrt (N b:Nat) (S:Pg) (w:World) (i:Nat) (hp:Ps w b S i false) (hN:S.toks.length≤N + i) (hne:∀s,s∈[S8.Za2,S8.Zeo,S8.Zez]→Zag S i≠s) :
  Calls prog 32 #[.pointer (some ⟨b,0,none⟩)] w (Post w b S i false (S8.change lim S.size (S.toks.drop i)) (ZaO w)):=by
 have HNE:=hid hne
 have HP:=hid hp
 have F0:=hid (And.intro (hp.alloc (.cells z5 24)) (And.intro (Is.fresh w 24 z5) (Zaj (r:=some b) ((Below.refl w.heap.size w).alloc (Nat.le_refl _) (.cells z5 24)))))
 have WD:=Zau b S i false _ F0.out.1
 obtain ⟨u,hu⟩:∃u,u=mk (Zag S i):=⟨_,rfl⟩
 rw [← hu] at WD
 have n0:(u.toList == [99,111,110,118,101,114,116])=false:=by rw [hu,Zas,Zbc];exact beq_eq_false_iff_ne.2 (hne S8.Za2 (by simp))
 have n1:(u.toList == [109,111,118,101])=false:=by rw [hu,Zas,Zbc];exact beq_eq_false_iff_ne.2 (hne S8.Zeo (by simp))
 have n2:(u.toList == [100,114,111,112])=false:=by rw [hu,Zas,Zbc];exact beq_eq_false_iff_ne.2 (hne S8.Zez (by simp))
 clear hu
 clear hp hne
 go_enter func32,ntmps32
 go_wp2_with (first
  | (go_at_call 60;(with_reducible refine WD.mono ?_);rintro e w1 ⟨rfl,h1⟩;have p1:=F0.out.1.below h1 F0.out.1.lt;have F1:=hid (And.intro p1 (And.intro (F0.out.2.1.below h1 F0.out.2.1.lt) (Zan F0.out.2.2 (h1.mono F0.out.2.2.size))));have C1:=Zpg b S (N + 1) _ i p1 (by omega);clear h1 p1 WD)
  | (go_at_call 45;(with_reducible refine C1.mono ?_);rintro e w2 h1;rcases h1.ways with ⟨a,j,h',e1,rfl,g,p,rfl⟩ | ⟨x,j1,v,e1,rfl,g,hj1,p,r,rfl,ho⟩;exact ⟨rfl,Post.err ((Zd6 HNE.out).trans e1) (Zaa F1.out.2.2 g (.inl rfl)) p⟩;have hbb:=HP.out.lt;have F2:=hid (And.intro p (And.intro (Zaa F1.out.2.2 g (.inl rfl)) (And.intro (F1.out.2.1.kept g (by simp;omega)) (And.intro (ho.weak F1.out.2.1.lt) e1))));clear h1 e1 g p ho C1)
  | (refine Zah F2.out.2.2.1 rfl 24 _ _ rfl (nd5 x.k x.t x.n x.a r) rfl rfl inf24 rfl (by have h1:=F2.out.2.2.2.1.one;simp [nd5,h1];exact ⟨rfl,rfl,rfl,rfl⟩) ?_;intro w3 h1 h2;have F3:=hid (And.intro h1 h2);clear h1 h2))
 refine ret24 results32 F3.out.1
  (Post.ok (j:=j1) (x:=x) ((Zd6 HNE.out).trans F2.out.2.2.2.2) (Zaa F2.out.2.1 F3.out.2 (.inr fun j e=>by injection e with e;omega)) (F2.out.1.kept F3.out.2 hbb) hj1 ⟨r,rfl,(F2.out.2.2.2.1.grown F3.out.2 (by omega)).weak (by omega)⟩)
open Go.RowKit L7
open S8 (lim single What)
theorem Zhc {w:World} {b:Nat} {S:Pg} {i:Nat} {h:Bool} (hp:Ps w b S i h) (k:Int):Fn w b S w.heap.size (w.heap.size + 1) ((w.alloc (.cells z5 24)).alloc (.cells #[.int .i64 k,.string ⟨#[]⟩,.int .i64 0,.int .i64 0,.slice none 0 0] 24)) i h k [] 0 0 [] (.slice none 0 0):=by
 have h1:=Fn.start hp (Below.refl _ _) k 0 0
 simpa using h1
section
variable {ops:Array Oper} {rest:List Oper} {o:Oper} {act:Act} {Q:Exit→Act→World→Prop}
variable {w W:World} {b g0 gn g4 i:Nat} {S:Pg} {h:Bool} {k:Int} {t:Bs} {n a:Int} {k4:Int} {t4:Bs} {a4:Int}
theorem Zre (F:Fd w b S g0 gn g4 W i h k t n a [] (.slice none 0 0) k4 t4 a4) (hgd:o.guard=none) (x y:Operand) (ho:o.op=.store 22 x y) (hx:act.eval x=.pointer (some ⟨gn,4,none⟩)) (hy:act.eval y=.slice (some ⟨W.heap.size,0,none⟩) 1 1)
  (hK:∀W',Fn w b S g0 gn W' i h k t n a [.mk k4 t4 0 a4 []] (.slice (some ⟨W.heap.size,0,none⟩) 1 1)→wpList prog ops Q rest (act.put o.dst undef) W'):wpList prog ops Q (o::rest) act (W.alloc (.cells #[.int .i64 k4,.string (mk t4),.int .i64 0,.int .i64 a4,.slice none 0 0] 24)):=by
 have F1:=F.f.look ((Below.refl _ _).alloc (Nat.le_refl _) (.cells #[.int .i64 k4,.string (mk t4),.int .i64 0,.int .i64 a4,.slice none 0 0] 24))
 have hlt:=F.f.nd.lt
 have hr:OwnRow (W.alloc (.cells #[.int .i64 k4,.string (mk t4),.int .i64 0,.int .i64 a4,.slice none 0 0] 24)) (gn + 1) [.mk k4 t4 0 a4 []] (.slice (some ⟨W.heap.size,0,none⟩) 1 1):=
  (OwnX.single (x:=.mk k4 t4 0 a4 []) (s:=.slice none 0 0) (OwnRow.nil W (gn + 1)).apart hlt (by omega)).own
 exact Zc4 F1.nd (j:=4) (show 4 < 5 by decide) hgd 22 x y ho _ hx hy inf22 hr.one fun _ h1 h2=>hK _ (F1.put h2 h1 hr)
end
theorem Zsu (N b:Nat) (S:Pg) (HE:∀h,Does N 138 b S h (single (lim (.expr h)))) (w:World) (i:Nat) (hp:Ps w b S i false) (hN:S.toks.length≤N + i) :
  Calls prog 121 #[.pointer (some ⟨b,0,none⟩)] w (Post w b S i false ((do let _ ← S8.must S8.ZbV;let t ← S8.up;let l ← S8.list lim S8.mLp .field S8.mRp;let m ← S8.list lim S8.mLb .set S8.mRb;pure (.mk 71 t 0 0 (l++m)):S8.P Nd) S.size (S.toks.drop i)) (ZaO w)):=by
 have HM:Hid (∀R,(do let _ ← S8.must S8.ZbV;let t ← S8.up;let l ← S8.list lim S8.mLp .field S8.mRp;let m ← S8.list lim S8.mLb .set S8.mRb;pure (.mk 71 t 0 0 (l++m)):S8.P Nd) S.size (S.toks.drop i)=R→(do let _ ← S8.must S8.ZbV;let t ← S8.up;let l ← S8.list lim S8.mLp .field S8.mRp;let m ← S8.list lim S8.mLb .set S8.mRb;pure (.mk 71 t 0 0 (l++m)):S8.P Nd) S.size (S.toks.drop i)=R):=hid (by
  intro R h1
  exact h1)
 have HS:=hid (ZiD N b S HE)
 clear HE
 have HP:=hid hp
 have F0:=hid (Zhc hp 71)
 have hbb:=hp.lt
 have hle:=hp.le
 clear hp
 go_enter func121,ntmps121
 have C1:Calls prog 119 #[.pointer (some ⟨b,0,none⟩),.string ⟨#[97,99,116,111,114]⟩] _ (Post _ b S i false (S8.must S8.ZbV S.size (S.toks.drop i)) fun _ v _=>v=.tuple #[]):=Zbd b S i false _ F0.out.ps ⟨#[97,99,116,111,114]⟩ (by decide)
 go_wp2_with (first
  | (go_at_call 119;(with_reducible refine C1.mono ?_);rintro e w1 h1;rcases h1.ways with ⟨a,j,h',e1,rfl,g,p,rfl⟩ | ⟨u1,j1,v,e1,rfl,g,hj1,p,rfl⟩;exact ⟨rfl,Post.err (HM.out _ (by simp only [S8.Zac,e1])) (Zaa F0.out.fr g (.inl rfl)) p⟩;have F1:=hid (F0.out.call g p);have E1:=hid e1;have hl1:=ZaT (S8.Zal _) e1;clear h1 e1 g p C1;have C2:=ZbO b S j1 false _ F1.out.ps)
  | (go_at_call 124;(with_reducible refine C2.mono ?_);rintro e w2 h1;rcases h1.ways with ⟨a,j,h',e1,rfl,g,p,rfl⟩ | ⟨t,j2,v,e1,rfl,g,hj2,p,rfl⟩;exact ⟨rfl,Post.err (HM.out _ (by simp only [S8.Zac,E1.out,e1])) (Zaa F1.out.fr g (.inl rfl)) p⟩;have F2:=hid (F1.out.call g p);have E2:=hid e1;have hl2:=ZaT S8.Zbj e1;clear h1 e1 g p C2)
  | (refine Zbk F2.out t rfl _ _ rfl rfl rfl ?_;intro w3 h1;have F3:=hid h1;clear h1;have C3:=show Calls prog 139 #[.pointer (some ⟨b,0,none⟩)] _ (Post _ b S j2 false (S8.list lim S8.mLp .field S8.mRp S.size (S.toks.drop j2)) (Zim _)) from Zd5 b S false _ j2 F3.out.ps)
  | (go_at_call 139;(with_reducible refine C3.mono ?_);rintro e w4 h1;rcases h1.ways with ⟨a,j,h',e1,rfl,g,p,rfl⟩ | ⟨l,j4,v4,e1,rfl,g,hj4,p,ho,hc4⟩;exact ⟨rfl,Post.err (HM.out _ (by simp only [S8.Zac,E1.out,E2.out,e1])) (Zaa F3.out.fr g (.inl rfl)) p⟩;have F4:=hid (F3.out.call g p);have G4:=hid ho;have E4:=hid e1;have Q4:=hid g.size;clear h1 e1 g p ho C3)
  | (refine Za7 F4.out (G4.out.weak F3.out.size) rfl _ _ rfl rfl rfl ?_;intro w5 h1;have F5:=hid h1;clear h1))
 have U9:=F5.out.nd.at_ 4
 refine r2 (fun W=>W.cell? ⟨(w.heap.size + 1),4,none⟩=some (v4)) (fun j=>decide (j < 7)) [0,1,2,3,4] [5,6,7,8] U9 ?_
 refine fs (.pointer (some ⟨(w.heap.size + 1),4,none⟩)) rfl ?_
 refine fs (v4) rfl ?_
 refine fs (.pointer (some ⟨b,0,none⟩)) rfl ?_
 refine fs (.pointer (some ⟨b,0,none⟩)) rfl ?_
 refine Zab (.func (.func 187) #[.pointer (some ⟨b,0,none⟩)] #[]) rfl (by rfl) (fun W hS=>by first | (go_simp;done) | (simp [execOp,Instr.makeFunc,go_sem,Act.put];done)) ?_
 refine Zap ?_
 clear U9
 have F6:=hid (F5.out.look (Below.refl _ _).drew)
 have C4:=show Calls prog 132 #[.pointer (some ⟨b,0,none⟩),.string ⟨#[123]⟩,.func (.func 187) #[.pointer (some ⟨b,0,none⟩)] #[],.string ⟨#[125]⟩] _ (Post _ b S j4 false (S8.list lim S8.mLb .set S8.mRb S.size (S.toks.drop j4)) (Zim _)) from Ze8 (N + 1) 187 b S .set ent187 HS.out false _ j4 F6.out.ps (by omega) ⟨#[123]⟩ ⟨#[125]⟩ (by decide) (by decide)
 refine cs rfl fun K9 HK9=>?_
 go_wp2_with (go_at_call 132;(with_reducible refine C4.mono ?_);rintro e w7 h1;rcases h1.ways with ⟨a,j,h',e1,rfl,g,p,rfl⟩ | ⟨m,j7,v7,e1,rfl,g,hj7,p,ho,hc7⟩;exact ⟨rfl,Post.err (HM.out _ (by simp only [S8.Zac,E1.out,E2.out,E4.out,e1])) (Zaa F6.out.fr g (.inl rfl)) p⟩;have F7:=hid (F6.out.call g p);have G7:=hid ho;have E7:=hid e1;clear h1 e1 g p ho C4)
 refine HK9.out _ _ (fun _=>F7.out.nd.at_ 4) ?_
 refine cs rfl fun K9 HK9=>?_
 refine Ze4 (base:=(w.heap.size + 1) + 1) F7.out.row G7.out ?le ?lt ?len ?hb rfl (.tmp 14) (.tmp 18) rfl rfl rfl ?_
 case le=>exact F6.out.size
 case lt=>exact fun g hg=>(F6.out.row.lt hg).2
 case len=>omega
 case hb=>exact F7.out.size
 intro v8 w8 h1 h2
 have F8:=hid (And.intro (F7.out.turn h2) h1)
 clear h1 h2
 refine HK9.out _ _ (fun _=>F8.out.1.nd.at_ 4) ?_
 refine cs rfl fun K9 HK9=>?_
 go_wp2_with fail
 refine HK9.out _ _ (fun h=>by cases h) ?_
 refine cs rfl fun K9 HK9=>?_
 refine ZbX F8.out.1 F8.out.2 rfl _ _ rfl rfl rfl ?_
 intro w9 h1
 have F9:=hid h1
 clear h1
 refine HK9.out _ _ (fun h=>by cases h) ?_
 refine Zam ?_
 go_wp2_with (first
  | (refine Zax F9.out rfl _ rfl rfl ?_)
  | (refine Zaw F9.out rfl _ _ rfl rfl rfl ?_;intro w10 h1 h2 h3 h4;have F10:=hid (And.intro h1 (And.intro h2 (And.intro h3 h4)));clear h1 h2 h3 h4))
 refine ret24 results121 F10.out.1
  (Post.ok (j:=j7) (HM.out _ (by (try simp only [S8.Zac,E1.out,E2.out,E4.out,E7.out]);rfl)) F10.out.2.1 F10.out.2.2.1 (by omega) F10.out.2.2.2)
theorem Zss (N b:Nat) (S:Pg) (HE:∀h,Does N 138 b S h (single (lim (.expr h)))) (w:World) (i:Nat) (hp:Ps w b S i false) (hN:S.toks.length≤N + i) :
  Calls prog 120 #[.pointer (some ⟨b,0,none⟩)] w (Post w b S i false ((do let _ ← S8.must S8.ZfI;let t ← S8.up;if ← S8.ZaC S8.ZdG then do { let _ ← S8.must S8.ZdG;let q ← ZsT;let l ← S8.list lim S8.mLp .field S8.mRp;let _ ← S8.must S8.mEq;let e ← single (lim (.expr false));pure (.mk 70 t 1 0 (.mk 24 q.1 0 q.2 []::l++[e])) } else do { let l ← S8.list lim S8.mLp .field S8.mRp;let _ ← S8.must S8.mEq;let e ← single (lim (.expr false));pure (.mk 70 t 0 0 (l++[e])) } : S8.P Nd) S.size (S.toks.drop i)) (ZaO w)):=by
 have HM:Hid (∀R,(do let _ ← S8.must S8.ZfI;let t ← S8.up;if ← S8.ZaC S8.ZdG then do { let _ ← S8.must S8.ZdG;let q ← ZsT;let l ← S8.list lim S8.mLp .field S8.mRp;let _ ← S8.must S8.mEq;let e ← single (lim (.expr false));pure (.mk 70 t 1 0 (.mk 24 q.1 0 q.2 []::l++[e])) } else do { let l ← S8.list lim S8.mLp .field S8.mRp;let _ ← S8.must S8.mEq;let e ← single (lim (.expr false));pure (.mk 70 t 0 0 (l++[e])) } : S8.P Nd) S.size (S.toks.drop i)=R→(do let _ ← S8.must S8.ZfI;let t ← S8.up;if ← S8.ZaC S8.ZdG then do { let _ ← S8.must S8.ZdG;let q ← ZsT;let l ← S8.list lim S8.mLp .field S8.mRp;let _ ← S8.must S8.mEq;let e ← single (lim (.expr false));pure (.mk 70 t 1 0 (.mk 24 q.1 0 q.2 []::l++[e])) } else do { let l ← S8.list lim S8.mLp .field S8.mRp;let _ ← S8.must S8.mEq;let e ← single (lim (.expr false));pure (.mk 70 t 0 0 (l++[e])) } : S8.P Nd) S.size (S.toks.drop i)=R):=hid (by
  intro R h1
  exact h1)
 have HC:=hid (HE false)
 clear HE
 have HP:=hid hp
 have F0:=hid (Zhc hp 70)
 have hbb:=hp.lt
 have hle:=hp.le
 clear hp
 go_enter func120,ntmps120
 have C1:Calls prog 119 #[.pointer (some ⟨b,0,none⟩),.string ⟨#[116,121,112,101]⟩] _ (Post _ b S i false (S8.must S8.ZfI S.size (S.toks.drop i)) fun _ v _=>v=.tuple #[]):=Zbd b S i false _ F0.out.ps ⟨#[116,121,112,101]⟩ (by decide)
 go_wp2_with (first
  | (go_at_call 119;(with_reducible refine C1.mono ?_);rintro e w1 h1;rcases h1.ways with ⟨a,j,h',e1,rfl,g,p,rfl⟩ | ⟨u1,j1,v,e1,rfl,g,hj1,p,rfl⟩;exact ⟨rfl,Post.err (HM.out _ (by simp only [S8.Zac,e1])) (Zaa F0.out.fr g (.inl rfl)) p⟩;have F1:=hid (F0.out.call g p);have E1:=hid e1;have hl1:=ZaT (S8.Zal _) e1;clear h1 e1 g p C1;have C2:=ZbO b S j1 false _ F1.out.ps)
  | (go_at_call 124;(with_reducible refine C2.mono ?_);rintro e w2 h1;rcases h1.ways with ⟨a,j,h',e1,rfl,g,p,rfl⟩ | ⟨t,j2,v,e1,rfl,g,hj2,p,rfl⟩;exact ⟨rfl,Post.err (HM.out _ (by simp only [S8.Zac,E1.out,e1])) (Zaa F1.out.fr g (.inl rfl)) p⟩;have F2:=hid (F1.out.call g p);have E2:=hid e1;have hl2:=ZaT S8.Zbj e1;clear h1 e1 g p C2)
  | (refine Zbk F2.out t rfl _ _ rfl rfl rfl ?_;intro w3 h1;have F3:=hid h1;clear h1))
 by_cases hz3:Zag S j2=S8.ZdG
 ·have EP3:Hid (S8.ZaC S8.ZdG S.size (S.toks.drop j2)=.ok true (S.toks.drop j2)):=hid (by rw [Zaf S j2 (by decide),decide_eq_true hz3])
  have hls3:=ZaL (S:=S) (i:=j2) (by rw [hz3];decide)
  have EM3:Hid (S8.must S8.ZdG S.size (S.toks.drop j2)=.ok (ZaK S j2) (S.toks.drop (j2 + 1))):=hid (by rw [Zay S j2 (by decide),if_pos hz3])
  have C3:=ZcR b S j2 false _ F3.out.ps ⟨#[46]⟩ hz3 (by decide)
  clear hz3
  go_wp2_with (first
   | (go_at_call 186;(with_reducible refine C3.mono ?_);rintro e w4 ⟨rfl,p,g⟩;have F4:=hid (F3.out.call g p);clear g p C3)
   | (refine Zh4 F4.out 1 rfl _ _ rfl rfl rfl ?_;intro w5 h1;have F5:=hid h1;clear h1;have C4:=ZaH b S (j2 + 1) false _ F5.out.ps 24)
   | (go_at_call 123;(with_reducible refine C4.mono ?_);rintro e w6 ⟨rfl,h1⟩;have F6:=hid (Fd.start F5.out h1 24 (place S (j2 + 1)));clear h1 C4;have C5:=ZbO b S (j2 + 1) false _ F6.out.f.ps)
   | (go_at_call 124;(with_reducible refine C5.mono ?_);rintro e w7 h1;rcases h1.ways with ⟨a,j,h',e1,rfl,g,p,rfl⟩ | ⟨u,j7,v,e1,rfl,g,hj7,p,rfl⟩;exact ⟨rfl,Post.err (HM.out _ (by simp only [S8.Zac,S8.Zae,if_true,E1.out,E2.out,EP3.out,EM3.out,Zkv,e1])) (Zaa F6.out.f.fr g (.inl rfl)) p⟩;have F7:=hid (F6.out.call g p);have E7:Hid (ZsT S.size (S.toks.drop (j2 + 1))=.ok (u,place S (j2 + 1)) (S.toks.drop j7)):=hid (by rw [Zkv,e1]);have hl7:=ZaT S8.Zbj e1;clear h1 e1 g p C5)
   | (refine Zjb F7.out u rfl _ _ rfl rfl rfl ?_;intro w8 h1;have F8:=hid h1;clear h1)
   | (refine Zjw F8.out rfl _ rfl rfl ?_)
   | (refine Zre F8.out rfl _ _ rfl rfl rfl ?_;intro w9 h1;have F9:=hid h1;clear h1))
  have U9:=F9.out.nd.at_ 4
  refine r2 (fun W=>W.cell? ⟨(w.heap.size + 1),4,none⟩=some (.slice (some ⟨w8.heap.size,0,none⟩) 1 1)) (fun j=>decide (j < 5)) [0,1,2] [3,4,5,6] U9 ?_
  refine fs (.pointer (some ⟨(w.heap.size + 1),4,none⟩)) rfl ?_
  refine fs (.slice (some ⟨w8.heap.size,0,none⟩) 1 1) rfl ?_
  refine fs (.pointer (some ⟨b,0,none⟩)) rfl ?_
  refine Zap ?_
  clear U9
  have F10:=hid (F9.out.look (Below.refl _ _).drew)
  have C6:=show Calls prog 139 #[.pointer (some ⟨b,0,none⟩)] _ (Post _ b S j7 false (S8.list lim S8.mLp .field S8.mRp S.size (S.toks.drop j7)) (Zim _)) from Zd5 b S false _ j7 F10.out.ps
  refine cs rfl fun K9 HK9=>?_
  go_wp2_with (go_at_call 139;(with_reducible refine C6.mono ?_);rintro e w11 h1;rcases h1.ways with ⟨a,j,h',e1,rfl,g,p,rfl⟩ | ⟨l,j11,v11,e1,rfl,g,hj11,p,ho,hc11⟩;exact ⟨rfl,Post.err (HM.out _ (by simp only [S8.Zac,S8.Zae,if_true,E1.out,E2.out,EP3.out,EM3.out,E7.out,e1])) (Zaa F10.out.fr g (.inl rfl)) p⟩;have F11:=hid (F10.out.call g p);have G11:=hid ho;have E11:=hid e1;clear h1 e1 g p ho C6)
  refine HK9.out _ _ (fun _=>F11.out.nd.at_ 4) ?_
  refine cs rfl fun K9 HK9=>?_
  refine Ze4 (base:=(w.heap.size + 1) + 1) F11.out.row G11.out ?le ?lt ?len ?hb rfl (.tmp 23) (.tmp 25) rfl rfl rfl ?_
  case le=>exact F10.out.size
  case lt=>exact fun g hg=>(F10.out.row.lt hg).2
  case len=>simp;omega
  case hb=>exact F11.out.size
  intro v12 w12 h1 h2
  have F12:=hid (And.intro (F11.out.turn h2) h1)
  clear h1 h2
  refine HK9.out _ _ (fun _=>F12.out.1.nd.at_ 4) ?_
  refine cs rfl fun K9 HK9=>?_
  go_wp2_with fail
  refine HK9.out _ _ (fun h=>by cases h) ?_
  refine cs rfl fun K9 HK9=>?_
  refine ZbX F12.out.1 F12.out.2 rfl _ _ rfl rfl rfl ?_
  intro w13 h1
  have F13:=hid h1
  clear h1
  refine HK9.out _ _ (fun h=>by cases h) ?_
  refine Zam ?_
  have C7:Calls prog 119 #[.pointer (some ⟨b,0,none⟩),.string ⟨#[61]⟩] _ (Post _ b S j11 false (S8.must S8.mEq S.size (S.toks.drop j11)) fun _ v _=>v=.tuple #[]):=Zbd b S j11 false _ F13.out.ps ⟨#[61]⟩ (by decide)
  go_wp2_with (first
   | (go_at_call 119;(with_reducible refine C7.mono ?_);rintro e w14 h1;rcases h1.ways with ⟨a,j,h',e1,rfl,g,p,rfl⟩ | ⟨u14,j14,v,e1,rfl,g,hj14,p,rfl⟩;exact ⟨rfl,Post.err (HM.out _ (by simp only [S8.Zac,S8.Zae,if_true,E1.out,E2.out,EP3.out,EM3.out,E7.out,E11.out,e1])) (Zaa F13.out.fr g (.inl rfl)) p⟩;have F14:=hid (F13.out.call g p);have E14:=hid e1;have hl14:=ZaT (S8.Zal _) e1;clear h1 e1 g p C7))
  have U9:=F14.out.nd.at_ 4
  refine r2 (fun W=>W.cell? ⟨(w.heap.size + 1),4,none⟩=some (v12)) (fun j=>decide (j < 6)) [0,1,2] [3,4,5,6,7] U9 ?_
  refine fs (.pointer (some ⟨(w.heap.size + 1),4,none⟩)) rfl ?_
  refine fs (v12) rfl ?_
  refine fs (.pointer (some ⟨b,0,none⟩)) rfl ?_
  refine Zap ?_
  clear U9
  have F15:=hid (F14.out.look (Below.refl _ _).drew)
  have C8:=HC.out _ j14 F15.out.ps (by omega)
  refine cs rfl fun K9 HK9=>?_
  go_wp2_with (go_at_call 138;(with_reducible refine C8.mono ?_);rintro e w16 h1;rcases h1.ways with ⟨a,j,h',e1,rfl,g,p,rfl⟩ | ⟨e0,j16,v,e1,rfl,g,hj16,p,r16,rfl,ho⟩;exact ⟨rfl,Post.err (HM.out _ (by simp only [S8.Zac,S8.Zae,if_true,E1.out,E2.out,EP3.out,EM3.out,E7.out,E11.out,E14.out,e1])) (Zaa F15.out.fr g (.inl rfl)) p⟩;have F16:=hid (And.intro (F15.out.call g p) ho);have E16:=hid e1;clear h1 e1 g p ho C8)
  refine HK9.out _ _ (fun _=>F16.out.1.nd.at_ 4) ?_
  refine cs rfl fun K9 HK9=>?_
  go_wp2_with fail
  have F17:=hid (F16.out.1.look ((Below.refl _ _).alloc (Nat.le_refl _) (.cells (nd5 e0.k e0.t e0.n e0.a r16) 24)))
  have HI17:=hid (Is.fresh w16 24 (nd5 e0.k e0.t e0.n e0.a r16))
  refine HK9.out _ _ (fun _=>F17.out.nd.at_ 4) ?_
  refine cs rfl fun K9 HK9=>?_
  refine ZbY (base:=(w.heap.size + 1) + 1) (g:=w16.heap.size) (x:=e0) (r:=r16) F17.out.row HI17.out ?kid ?len ?hb rfl (.tmp 31) (.tmp 34) rfl rfl rfl ?_
  case kid=>exact ZbZ F15.out.row F16.out.2 (fun g hg=>Below.heap_alloc w16 _ g hg) F15.out.size
  case len=>simp;omega
  case hb=>exact F17.out.size
  intro v18 w18 h1 h2
  have F18:=hid (And.intro (F17.out.turn h2) h1)
  clear h1 h2
  refine HK9.out _ _ (fun _=>F18.out.1.nd.at_ 4) ?_
  refine cs rfl fun K9 HK9=>?_
  go_wp2_with fail
  refine HK9.out _ _ (fun h=>by cases h) ?_
  refine cs rfl fun K9 HK9=>?_
  refine ZbX F18.out.1 F18.out.2 rfl _ _ rfl rfl rfl ?_
  intro w19 h1
  have F19:=hid h1
  clear h1
  refine HK9.out _ _ (fun h=>by cases h) ?_
  refine Zam ?_
  go_wp2_with (first
   | (refine Zax F19.out rfl _ rfl rfl ?_)
   | (refine Zaw F19.out rfl _ _ rfl rfl rfl ?_;intro w20 h1 h2 h3 h4;have F20:=hid (And.intro h1 (And.intro h2 (And.intro h3 h4)));clear h1 h2 h3 h4))
  refine ret24 results120 F20.out.1
   (Post.ok (j:=j16) (HM.out _ (by (try simp only [S8.Zac,S8.Zae,if_true,E1.out,E2.out,EP3.out,EM3.out,E7.out,E11.out,E14.out,E16.out]);rfl)) F20.out.2.1 F20.out.2.2.1 (by omega) F20.out.2.2.2)
 ·have EP3:Hid (S8.ZaC S8.ZdG S.size (S.toks.drop j2)=.ok false (S.toks.drop j2)):=hid (by rw [Zaf S j2 (by decide),decide_eq_false hz3])
  have C3:=ZdC b S j2 false _ F3.out.ps ⟨#[46]⟩ hz3
  clear hz3
  go_wp2_with (first
   | (go_at_call 186;(with_reducible refine C3.mono ?_);rintro e w4 ⟨rfl,p,g⟩;have F4:=hid (F3.out.call g p);clear g p C3))
  have U9:=F4.out.nd.at_ 4
  refine r2 (fun W=>W.cell? ⟨(w.heap.size + 1),4,none⟩=some (.slice none 0 0)) (fun j=>decide (j < 5)) [0,1,2] [3,4,5,6] U9 ?_
  refine fs (.pointer (some ⟨(w.heap.size + 1),4,none⟩)) rfl ?_
  refine fs (.slice none 0 0) rfl ?_
  refine fs (.pointer (some ⟨b,0,none⟩)) rfl ?_
  refine Zap ?_
  clear U9
  have F5:=hid (F4.out.look (Below.refl _ _).drew)
  have C4:=show Calls prog 139 #[.pointer (some ⟨b,0,none⟩)] _ (Post _ b S j2 false (S8.list lim S8.mLp .field S8.mRp S.size (S.toks.drop j2)) (Zim _)) from Zd5 b S false _ j2 F5.out.ps
  refine cs rfl fun K9 HK9=>?_
  go_wp2_with (go_at_call 139;(with_reducible refine C4.mono ?_);rintro e w6 h1;rcases h1.ways with ⟨a,j,h',e1,rfl,g,p,rfl⟩ | ⟨l,j6,v6,e1,rfl,g,hj6,p,ho,hc6⟩;exact ⟨rfl,Post.err (HM.out _ (by simp only [S8.Zac,S8.Zae,if_false,Bool.false_eq_true,E1.out,E2.out,EP3.out,e1])) (Zaa F5.out.fr g (.inl rfl)) p⟩;have F6:=hid (F5.out.call g p);have G6:=hid ho;have E6:=hid e1;clear h1 e1 g p ho C4)
  refine HK9.out _ _ (fun _=>F6.out.nd.at_ 4) ?_
  refine cs rfl fun K9 HK9=>?_
  refine Ze4 (base:=(w.heap.size + 1) + 1) F6.out.row G6.out ?le ?lt ?len ?hb rfl (.tmp 23) (.tmp 25) rfl rfl rfl ?_
  case le=>exact F5.out.size
  case lt=>exact fun g hg=>(F5.out.row.lt hg).2
  case len=>simp;omega
  case hb=>exact F6.out.size
  intro v7 w7 h1 h2
  have F7:=hid (And.intro (F6.out.turn h2) h1)
  clear h1 h2
  refine HK9.out _ _ (fun _=>F7.out.1.nd.at_ 4) ?_
  refine cs rfl fun K9 HK9=>?_
  go_wp2_with fail
  refine HK9.out _ _ (fun h=>by cases h) ?_
  refine cs rfl fun K9 HK9=>?_
  refine ZbX F7.out.1 F7.out.2 rfl _ _ rfl rfl rfl ?_
  intro w8 h1
  have F8:=hid h1
  clear h1
  refine HK9.out _ _ (fun h=>by cases h) ?_
  refine Zam ?_
  have C5:Calls prog 119 #[.pointer (some ⟨b,0,none⟩),.string ⟨#[61]⟩] _ (Post _ b S j6 false (S8.must S8.mEq S.size (S.toks.drop j6)) fun _ v _=>v=.tuple #[]):=Zbd b S j6 false _ F8.out.ps ⟨#[61]⟩ (by decide)
  go_wp2_with (first
   | (go_at_call 119;(with_reducible refine C5.mono ?_);rintro e w9 h1;rcases h1.ways with ⟨a,j,h',e1,rfl,g,p,rfl⟩ | ⟨u9,j9,v,e1,rfl,g,hj9,p,rfl⟩;exact ⟨rfl,Post.err (HM.out _ (by simp only [S8.Zac,S8.Zae,if_false,Bool.false_eq_true,E1.out,E2.out,EP3.out,E6.out,e1])) (Zaa F8.out.fr g (.inl rfl)) p⟩;have F9:=hid (F8.out.call g p);have E9:=hid e1;have hl9:=ZaT (S8.Zal _) e1;clear h1 e1 g p C5))
  have U9:=F9.out.nd.at_ 4
  refine r2 (fun W=>W.cell? ⟨(w.heap.size + 1),4,none⟩=some (v7)) (fun j=>decide (j < 6)) [0,1,2] [3,4,5,6,7] U9 ?_
  refine fs (.pointer (some ⟨(w.heap.size + 1),4,none⟩)) rfl ?_
  refine fs (v7) rfl ?_
  refine fs (.pointer (some ⟨b,0,none⟩)) rfl ?_
  refine Zap ?_
  clear U9
  have F10:=hid (F9.out.look (Below.refl _ _).drew)
  have C6:=HC.out _ j9 F10.out.ps (by omega)
  refine cs rfl fun K9 HK9=>?_
  go_wp2_with (go_at_call 138;(with_reducible refine C6.mono ?_);rintro e w11 h1;rcases h1.ways with ⟨a,j,h',e1,rfl,g,p,rfl⟩ | ⟨e0,j11,v,e1,rfl,g,hj11,p,r11,rfl,ho⟩;exact ⟨rfl,Post.err (HM.out _ (by simp only [S8.Zac,S8.Zae,if_false,Bool.false_eq_true,E1.out,E2.out,EP3.out,E6.out,E9.out,e1])) (Zaa F10.out.fr g (.inl rfl)) p⟩;have F11:=hid (And.intro (F10.out.call g p) ho);have E11:=hid e1;clear h1 e1 g p ho C6)
  refine HK9.out _ _ (fun _=>F11.out.1.nd.at_ 4) ?_
  refine cs rfl fun K9 HK9=>?_
  go_wp2_with fail
  have F12:=hid (F11.out.1.look ((Below.refl _ _).alloc (Nat.le_refl _) (.cells (nd5 e0.k e0.t e0.n e0.a r11) 24)))
  have HI12:=hid (Is.fresh w11 24 (nd5 e0.k e0.t e0.n e0.a r11))
  refine HK9.out _ _ (fun _=>F12.out.nd.at_ 4) ?_
  refine cs rfl fun K9 HK9=>?_
  refine ZbY (base:=(w.heap.size + 1) + 1) (g:=w11.heap.size) (x:=e0) (r:=r11) F12.out.row HI12.out ?kid ?len ?hb rfl (.tmp 31) (.tmp 34) rfl rfl rfl ?_
  case kid=>exact ZbZ F10.out.row F11.out.2 (fun g hg=>Below.heap_alloc w11 _ g hg) F10.out.size
  case len=>simp;omega
  case hb=>exact F12.out.size
  intro v13 w13 h1 h2
  have F13:=hid (And.intro (F12.out.turn h2) h1)
  clear h1 h2
  refine HK9.out _ _ (fun _=>F13.out.1.nd.at_ 4) ?_
  refine cs rfl fun K9 HK9=>?_
  go_wp2_with fail
  refine HK9.out _ _ (fun h=>by cases h) ?_
  refine cs rfl fun K9 HK9=>?_
  refine ZbX F13.out.1 F13.out.2 rfl _ _ rfl rfl rfl ?_
  intro w14 h1
  have F14:=hid h1
  clear h1
  refine HK9.out _ _ (fun h=>by cases h) ?_
  refine Zam ?_
  go_wp2_with (first
   | (refine Zax F14.out rfl _ rfl rfl ?_)
   | (refine Zaw F14.out rfl _ _ rfl rfl rfl ?_;intro w15 h1 h2 h3 h4;have F15:=hid (And.intro h1 (And.intro h2 (And.intro h3 h4)));clear h1 h2 h3 h4))
  refine ret24 results120 F15.out.1
   (Post.ok (j:=j11) (HM.out _ (by (try simp only [S8.Zac,S8.Zae,if_false,Bool.false_eq_true,E1.out,E2.out,EP3.out,E6.out,E9.out,E11.out]);rfl)) F15.out.2.1 F15.out.2.2.1 (by omega) F15.out.2.2.2)
open Go.RowKit L7
open S8 (lim single What)
def Ziy (k:Int):S8.P Nd:=do
 let a ← S8.here
 let t ← S8.Zdn
 pure (.mk k t 0 a [])
theorem ZtY (k:Int) (S:Pg) (i:Nat):Ziy k S.size (S.toks.drop i)=(do let t ← S8.Zdn;pure (.mk k t 0 (place S i) []):S8.P Nd) S.size (S.toks.drop i):=by
 unfold Ziy
 refine ZaN rfl (fun hl=>?_)
 rw [(Zci hl).1,(Zci hl).2];rfl
theorem Zmm (N b:Nat) (S:Pg) (k:Int) (w:World) (i:Nat) (hp:Ps w b S i false) (hN:S.toks.length≤N + i) :
  Calls prog 188 #[.pointer (some ⟨b,0,none⟩),.int .i64 k] w (Post w b S i false (Ziy k S.size (S.toks.drop i)) (ZaO w)):=by
 rw [ZtY]
 exact ZnH N b S k (place S i) w i hp hN rfl
structure Fe (w:World) (b:Nat) (S:Pg) (g0 gn g4:Nat) (W:World) (i:Nat) (h:Bool) (k:Int) (t:Bs) (n a:Int) (c:List Nd) (s:Value) (y:Nd) (v:Value):Prop where
 laid ::
 f:Fm w b S g0 gn W i h k t n a s
 row:OwnX W (gn + 1) g4 c s
 nd4:Is W g4 24 (nd5 y.k y.t y.n y.a v)
 h4:gn < g4
 hs:∀z,s.ownBlock=some z→z < g4
section
variable {w W W' W2:World} {b g0 gn g4 i:Nat} {S:Pg} {h:Bool} {k:Int} {t:Bs} {n a:Int} {c:List Nd} {s:Value} {y:Nd} {v:Value}
theorem Fe.start (F:Fn w b S g0 gn W i h k t n a c s) (g:W.grownBy W' (some b)) {j:Nat} {h':Bool} (p:Ps W' b S j h') (hI:Is W2 W'.heap.size 24 (nd5 y.k y.t y.n y.a v)) (k':(W'.alloc (.cells z5 24)).grownBy W2 (some W'.heap.size)):Fe w b S g0 gn W'.heap.size W2 j h' k t n a c s y v:=by
 have hs:=F.size
 have hz:=g.size
 have F1:=F.call g p
 have hst:∀z,z < W'.heap.size→W2.heap[z]?=W'.heap[z]?:=fun z hz'=>(k'.block z (by simp;omega) (by simp;omega)).trans (Below.heap_alloc W' _ z hz')
 have F2:=F1.look ((Below.refl _ _).alloc (Nat.le_refl _) (.cells z5 24))
 refine ⟨Fm.past ⟨F2.ps,F2.fr,F2.r0,F2.nd,F2.h0,F2.hn,F2.hb⟩ k' (by omega),?_,hI,by omega,fun z hz'=>(F1.row.lt hz').2⟩
 have hlt:=fun z (hz':s.ownBlock=some z)=>F1.row.lt hz'
 obtain ⟨xs,h1,h2⟩:=F1.row
 refine ⟨xs,⟨h1.1,?_⟩,fun e=>by have:=(hlt _ e).2;omega,ZbB (fun z hz' hl=>⟨⟨hz'.1,by omega⟩,hz'.2⟩) (fun z _ hl=>hst z hl) h2⟩
 rcases h1.2 with h | ⟨z,cap,cur,e,hbg,hh,h⟩
 ·exact .inl h
 ·exact .inr ⟨z,cap,cur,e,hbg,(hst z (h1.lt z (by rw [e];rfl)).2).trans hh,h⟩
theorem Fe.call (F:Fe w b S g0 gn g4 W i h k t n a c s y v) (g:W.grownBy W' (some b)) {j:Nat} {h':Bool} (p:Ps W' b S j h'):Fe w b S g0 gn g4 W' j h' k t n a c s y v:=
 have h1:=F.f.h0;have h2:=F.f.hn;have h3:=F.f.hb;have h4:=F.h4
 ⟨F.f.call g p,F.row.grown g (.inl (by omega)),F.nd4.kept g (by simp;omega),h4,F.hs⟩
end
section
variable {ops:Array Oper} {rest:List Oper} {o:Oper} {act:Act} {Q:Exit→Act→World→Prop}
variable {w W:World} {b g0 gn g4 i:Nat} {S:Pg} {h:Bool} {k:Int} {t:Bs} {n a:Int} {c:List Nd} {s:Value} {y:Nd} {v:Value}
theorem Zrd (F:Fe w b S g0 gn g4 W i h k t n a c s y v) {m:List Nd} {v':Value} (hr:OwnRow W (g4 + 1) m v') (hgd:o.guard=none) (x z:Operand) (ho:o.op=.store 22 x z) (hx:act.eval x=.pointer (some ⟨g4,4,none⟩)) (hy:act.eval z=v')
  (hK:∀W',Fe w b S g0 gn g4 W' i h k t n a c s y v'→OwnRow W' (g4 + 1) m v'→wpList prog ops Q rest (act.put o.dst undef) W'):wpList prog ops Q (o::rest) act W:=
 Zc4 F.nd4 (j:=4) (show 4 < 5 by decide) hgd 22 x z ho _ hx hy inf22 hr.one fun _ h1 h2=>hK _ ⟨F.f.past h2 F.h4,F.row.grown h2 (.inr rfl),h1,F.h4,F.hs⟩ (hr.grown h2 (by omega))
theorem Zr6 (F:Fe w b S g0 gn g4 W i h k t n a c s y v) (hgd:o.guard=none) (x:Operand) (ho:o.op=.load 24 x) (hx:act.eval x=.pointer (some ⟨g4,0,none⟩))
  (hK:wpList prog ops Q rest (act.put o.dst (.agg (nd5 y.k y.t y.n y.a v))) W):wpList prog ops Q (o::rest) act W:=
 wpList_load_row hgd 24 x ho g4 hx 24 _ (0,0) _ F.nd4 underlying24 rfl inf24 hK
theorem ZxY (F:Fe w b S g0 gn g4 W i h k t n a c s y v) {m:List Nd} (hr:OwnRow W (g4 + 1) m v) (hlen:c.length≤100000) (hgd:o.guard=none) (p q:Operand) (ho:o.op=.call { callee:=.builtin .append,args:=#[p,q],argTypes:=#[22,22] }) (hs:act.eval p=s) (hx:act.eval q=.slice (some ⟨W.heap.size,0,none⟩) 1 1)
  (hK:∀v' W',Fm w b S g0 gn W' i h k t n a s→OwnRow W' (gn + 1) (c++[.mk y.k y.t y.n y.a m]) v'→wpList prog ops Q rest (act.put o.dst v') W'):wpList prog ops Q (o::rest) act (W.alloc (.cells (nd5 y.k y.t y.n y.a v) 24)):=by
 have h4:=F.h4
 have hlt:=F.nd4.lt
 have hB:Below W.heap.size W (W.alloc (.cells (nd5 y.k y.t y.n y.a v) 24)):=(Below.refl _ _).alloc (Nat.le_refl _) _
 have hk:=Zhl (hr.kid (.mk y.k y.t y.n y.a m) rfl)
 refine ZgO (base:=gn + 1) (gn:=g4) (g:=W.heap.size) (c:=c) (x:=.mk y.k y.t y.n y.a m) (r:=v) (F.row.stay fun z _ _ hl=>hB.block z hl) (Is.fresh W 24 _) ?_ hlen ⟨by simp;omega,by simp;omega⟩ hgd p q ho hs hx ?_
 ·exact Zb0 (fun z hz hl=>⟨⟨by have:=hz.1;omega,by have:=hz.1;omega⟩,fun e=>by have h5:=F.hs z e.symm;have h6:=hz.1;omega⟩) (fun z hz hl=>hB.block z hl) _ v hk
 ·intro v' W' h1 ⟨g,hg,hg1,hg2⟩
  exact hK v' W' ((F.f.look hB).past hg (by omega)) h1.own
end
theorem Zst (N b:Nat) (S:Pg) (HE:∀h,Does N 138 b S h (single (lim (.expr h)))) (w:World) (i:Nat) (hp:Ps w b S i false) (hN:S.toks.length≤N + i) :
  Calls prog 122 #[.pointer (some ⟨b,0,none⟩)] w (Post w b S i false ((do let _ ← S8.must S8.ZeZ;let t ← S8.up;let _ ← S8.must S8.ZdG;let x ← Ziy 24;let l ← S8.list lim S8.mLp .field S8.mRp;let _ ← S8.must S8.mEq;let y ← Ziy 75;let m ← S8.list lim S8.mLp .expr S8.mRp;pure (.mk 72 t 0 0 (x::l++[.mk y.k y.t y.n y.a m])):S8.P Nd) S.size (S.toks.drop i)) (ZaO w)):=by
 have HM:Hid (∀R,(do let _ ← S8.must S8.ZeZ;let t ← S8.up;let _ ← S8.must S8.ZdG;let x ← Ziy 24;let l ← S8.list lim S8.mLp .field S8.mRp;let _ ← S8.must S8.mEq;let y ← Ziy 75;let m ← S8.list lim S8.mLp .expr S8.mRp;pure (.mk 72 t 0 0 (x::l++[.mk y.k y.t y.n y.a m])):S8.P Nd) S.size (S.toks.drop i)=R→(do let _ ← S8.must S8.ZeZ;let t ← S8.up;let _ ← S8.must S8.ZdG;let x ← Ziy 24;let l ← S8.list lim S8.mLp .field S8.mRp;let _ ← S8.must S8.mEq;let y ← Ziy 75;let m ← S8.list lim S8.mLp .expr S8.mRp;pure (.mk 72 t 0 0 (x::l++[.mk y.k y.t y.n y.a m])):S8.P Nd) S.size (S.toks.drop i)=R):=hid (by
  intro R h1
  exact h1)
 have HC1:Hid (Does N 138 b S false (single (lim (.one .expr)))):=hid (by rw [Zfc];exact HE false)
 clear HE
 have HP:=hid hp
 have F0:=hid (Zhc hp 72)
 have hbb:=hp.lt
 have hle:=hp.le
 clear hp
 go_enter func122,ntmps122
 have C1:Calls prog 119 #[.pointer (some ⟨b,0,none⟩),.string ⟨#[109,101,115,115,97,103,101]⟩] _ (Post _ b S i false (S8.must S8.ZeZ S.size (S.toks.drop i)) fun _ v _=>v=.tuple #[]):=Zbd b S i false _ F0.out.ps ⟨#[109,101,115,115,97,103,101]⟩ (by decide)
 go_wp2_with (first
  | (go_at_call 119;(with_reducible refine C1.mono ?_);rintro e w1 h1;rcases h1.ways with ⟨a,j,h',e1,rfl,g,p,rfl⟩ | ⟨u1,j1,v,e1,rfl,g,hj1,p,rfl⟩;exact ⟨rfl,Post.err (HM.out _ (by simp only [S8.Zac,e1])) (Zaa F0.out.fr g (.inl rfl)) p⟩;have F1:=hid (F0.out.call g p);have E1:=hid e1;have hl1:=ZaT (S8.Zal _) e1;clear h1 e1 g p C1;have C2:=ZbO b S j1 false _ F1.out.ps)
  | (go_at_call 124;(with_reducible refine C2.mono ?_);rintro e w2 h1;rcases h1.ways with ⟨a,j,h',e1,rfl,g,p,rfl⟩ | ⟨t,j2,v,e1,rfl,g,hj2,p,rfl⟩;exact ⟨rfl,Post.err (HM.out _ (by simp only [S8.Zac,E1.out,e1])) (Zaa F1.out.fr g (.inl rfl)) p⟩;have F2:=hid (F1.out.call g p);have E2:=hid e1;have hl2:=ZaT S8.Zbj e1;clear h1 e1 g p C2)
  | (refine Zbk F2.out t rfl _ _ rfl rfl rfl ?_;intro w3 h1;have F3:=hid h1;clear h1;have C3:Calls prog 119 #[.pointer (some ⟨b,0,none⟩),.string ⟨#[46]⟩] _ (Post _ b S j2 false (S8.must S8.ZdG S.size (S.toks.drop j2)) fun _ v _=>v=.tuple #[]):=Zbd b S j2 false _ F3.out.ps ⟨#[46]⟩ (by decide))
  | (go_at_call 119;(with_reducible refine C3.mono ?_);rintro e w4 h1;rcases h1.ways with ⟨a,j,h',e1,rfl,g,p,rfl⟩ | ⟨u4,j4,v,e1,rfl,g,hj4,p,rfl⟩;exact ⟨rfl,Post.err (HM.out _ (by simp only [S8.Zac,E1.out,E2.out,e1])) (Zaa F3.out.fr g (.inl rfl)) p⟩;have F4:=hid (F3.out.call g p);have E4:=hid e1;have hl4:=ZaT (S8.Zal _) e1;clear h1 e1 g p C3;have C4:=Zmm N b S 24 _ j4 F4.out.ps (by omega))
  | (go_at_call 188;(with_reducible refine C4.mono ?_);rintro e w5 h1;rcases h1.ways with ⟨a,j,h',e1,rfl,g,p,rfl⟩ | ⟨x,j5,v,e1,rfl,g,hj5,p,r5,rfl,ho⟩;exact ⟨rfl,Post.err (HM.out _ (by simp only [S8.Zac,E1.out,E2.out,E4.out,e1])) (Zaa F4.out.fr g (.inl rfl)) p⟩;have F5:=hid (And.intro (F4.out.call g p) ho);have G5:=hid (F4.out.single g p ho);have E5:=hid e1;clear h1 e1 g p ho C4)
  | (refine Za7 G5.out.1 G5.out.2 rfl _ _ rfl rfl rfl ?_;intro w6 h1;have F6:=hid h1;clear h1))
 have U9:=F6.out.nd.at_ 4
 refine r2 (fun W=>W.cell? ⟨(w.heap.size + 1),4,none⟩=some (.slice (some ⟨w5.heap.size,0,none⟩) 1 1)) (fun j=>decide (j < 5)) [0,1,2] [3,4,5,6] U9 ?_
 refine fs (.pointer (some ⟨(w.heap.size + 1),4,none⟩)) rfl ?_
 refine fs (.slice (some ⟨w5.heap.size,0,none⟩) 1 1) rfl ?_
 refine fs (.pointer (some ⟨b,0,none⟩)) rfl ?_
 refine Zap ?_
 clear U9
 have F7:=hid (F6.out.look (Below.refl _ _).drew)
 have C5:=show Calls prog 139 #[.pointer (some ⟨b,0,none⟩)] _ (Post _ b S j5 false (S8.list lim S8.mLp .field S8.mRp S.size (S.toks.drop j5)) (Zim _)) from Zd5 b S false _ j5 F7.out.ps
 refine cs rfl fun K9 HK9=>?_
 go_wp2_with (go_at_call 139;(with_reducible refine C5.mono ?_);rintro e w8 h1;rcases h1.ways with ⟨a,j,h',e1,rfl,g,p,rfl⟩ | ⟨l,j8,v8,e1,rfl,g,hj8,p,ho,hc8⟩;exact ⟨rfl,Post.err (HM.out _ (by simp only [S8.Zac,E1.out,E2.out,E4.out,E5.out,e1])) (Zaa F7.out.fr g (.inl rfl)) p⟩;have F8:=hid (F7.out.call g p);have G8:=hid ho;have E8:=hid e1;clear h1 e1 g p ho C5)
 refine HK9.out _ _ (fun _=>F8.out.nd.at_ 4) ?_
 refine cs rfl fun K9 HK9=>?_
 refine Ze4 (base:=(w.heap.size + 1) + 1) F8.out.row G8.out ?le ?lt ?len ?hb rfl (.tmp 18) (.tmp 20) rfl rfl rfl ?_
 case le=>exact F7.out.size
 case lt=>exact fun g hg=>(F7.out.row.lt hg).2
 case len=>simp;omega
 case hb=>exact F8.out.size
 intro v9 w9 h1 h2
 have F9:=hid (And.intro (F8.out.turn h2) h1)
 clear h1 h2
 refine HK9.out _ _ (fun _=>F9.out.1.nd.at_ 4) ?_
 refine cs rfl fun K9 HK9=>?_
 go_wp2_with fail
 refine HK9.out _ _ (fun h=>by cases h) ?_
 refine cs rfl fun K9 HK9=>?_
 refine ZbX F9.out.1 F9.out.2 rfl _ _ rfl rfl rfl ?_
 intro w10 h1
 have F10:=hid h1
 clear h1
 refine HK9.out _ _ (fun h=>by cases h) ?_
 refine Zam ?_
 have C6:Calls prog 119 #[.pointer (some ⟨b,0,none⟩),.string ⟨#[61]⟩] _ (Post _ b S j8 false (S8.must S8.mEq S.size (S.toks.drop j8)) fun _ v _=>v=.tuple #[]):=Zbd b S j8 false _ F10.out.ps ⟨#[61]⟩ (by decide)
 go_wp2_with (first
  | (go_at_call 119;(with_reducible refine C6.mono ?_);rintro e w11 h1;rcases h1.ways with ⟨a,j,h',e1,rfl,g,p,rfl⟩ | ⟨u11,j11,v,e1,rfl,g,hj11,p,rfl⟩;exact ⟨rfl,Post.err (HM.out _ (by simp only [S8.Zac,E1.out,E2.out,E4.out,E5.out,E8.out,e1])) (Zaa F10.out.fr g (.inl rfl)) p⟩;have F11:=hid (F10.out.call g p);have E11:=hid e1;have hl11:=ZaT (S8.Zal _) e1;clear h1 e1 g p C6;have C7:=Zmm N b S 75 _ j11 F11.out.ps (by omega))
  | (go_at_call 188;(with_reducible refine C7.mono ?_);rintro e w12 h1;rcases h1.ways with ⟨a,j,h',e1,rfl,g,p,rfl⟩ | ⟨y,j12,v,e1,rfl,g,hj12,p,r12,rfl,ho⟩;exact ⟨rfl,Post.err (HM.out _ (by simp only [S8.Zac,E1.out,E2.out,E4.out,E5.out,E8.out,E11.out,e1])) (Zaa F11.out.fr g (.inl rfl)) p⟩;have F12:=hid (And.intro g (And.intro p ho));have E12:=hid e1;clear h1 e1 g p ho C7)
  | (refine Zah (g:=w12.heap.size) (t:=24) (old:=z5) (by exact Is.fresh w12 24 _) rfl 24 _ _ rfl (nd5 y.k y.t y.n y.a r12) rfl rfl inf24 rfl (by have h1:=F12.out.2.2.one;simp [nd5,h1];exact ⟨rfl,rfl,rfl,rfl⟩) ?_;intro w13 h1 h2;have F13:=hid (Fe.start (y:=y) (v:=r12) F11.out F12.out.1 F12.out.2.1 h1 h2);clear h1 h2;have C8:=ZeV N b S false HC1.out _ j12 F13.out.f.ps (by omega))
  | (go_at_call 189;(with_reducible refine C8.mono ?_);rintro e w14 h1;rcases h1.ways with ⟨a,j,h',e1,rfl,g,p,rfl⟩ | ⟨m,j14,v14,e1,rfl,g,hj14,p,ho,hc14⟩;exact ⟨rfl,Post.err (HM.out _ (by simp only [S8.Zac,E1.out,E2.out,E4.out,E5.out,E8.out,E11.out,E12.out,e1])) (Zaa F13.out.f.fr g (.inl rfl)) p⟩;have F14:=hid (And.intro (F13.out.call g p) (ho.weak F13.out.nd4.lt));have E14:=hid e1;clear h1 e1 g p ho C8)
  | (refine Zrd F14.out.1 F14.out.2 rfl _ _ rfl rfl rfl ?_;intro w15 h1 h2;have F15:=hid (And.intro h1 h2);have d15:=h1.f.nd.at_ 4;have z15:=h1.f.nd.open_ 4;clear h1 h2)
  | (refine Zr6 F15.out.1 rfl _ rfl rfl ?_)
  | (at_builtin;refine ZxY F15.out.1 F15.out.2 (by simp;omega) rfl _ _ rfl rfl rfl ?_;intro v16 w16 h1 h2;have F16:=hid (And.intro h1 h2);clear h1 h2)
  | (refine ZbX F16.out.1 F16.out.2 rfl _ _ rfl rfl rfl ?_;intro w17 h1;have F17:=hid h1;clear h1)
  | (refine Zax F17.out rfl _ rfl rfl ?_)
  | (refine Zaw F17.out rfl _ _ rfl rfl rfl ?_;intro w18 h1 h2 h3 h4;have F18:=hid (And.intro h1 (And.intro h2 (And.intro h3 h4)));clear h1 h2 h3 h4))
 refine ret24 results122 F18.out.1
  (Post.ok (j:=j14) (HM.out _ (by (try simp only [S8.Zac,E1.out,E2.out,E4.out,E5.out,E8.out,E11.out,E12.out,E14.out]);rfl)) F18.out.2.1 F18.out.2.2.1 (by omega) F18.out.2.2.2)
open Go.RowKit L7
open S8 (lim single What)
theorem Zwo {α β γ:Type} (p:S8.P α) (f:α→S8.P β) (g:β→S8.P γ):((p >>= f) >>= g)=(p >>= fun x=>f x >>= g):=by
 funext e l
 simp only [S8.Zac]
 cases p e l <;> rfl
theorem Zy0 {α β:Type} (c:Prop) [Decidable c] (p q:S8.P α) (g:α→S8.P β):((if c then p else q) >>= g)=if c then p >>= g else q >>= g:=by split <;> rfl
theorem Zx9 {α β:Type} (x:α) (g:α→S8.P β):((pure x:S8.P α) >>= g)=g x:=rfl
noncomputable def Zpi:S8.P Nd:=do let _ ← S8.must S8.ZfI;let t ← S8.up;if ← S8.ZaC S8.ZdG then do { let _ ← S8.must S8.ZdG;let q ← ZsT;let l ← S8.list lim S8.mLp .field S8.mRp;let _ ← S8.must S8.mEq;let e ← single (lim (.expr false));pure (.mk 70 t 1 0 (.mk 24 q.1 0 q.2 []::l++[e])) } else do { let l ← S8.list lim S8.mLp .field S8.mRp;let _ ← S8.must S8.mEq;let e ← single (lim (.expr false));pure (.mk 70 t 0 0 (l++[e])) }
noncomputable def Zpk:S8.P Nd:=do let _ ← S8.must S8.ZbV;let t ← S8.up;let l ← S8.list lim S8.mLp .field S8.mRp;let m ← S8.list lim S8.mLb .set S8.mRb;pure (.mk 71 t 0 0 (l++m))
noncomputable def Zpj:S8.P Nd:=do let _ ← S8.must S8.ZeZ;let t ← S8.up;let _ ← S8.must S8.ZdG;let x ← Ziy 24;let l ← S8.list lim S8.mLp .field S8.mRp;let _ ← S8.must S8.mEq;let y ← Ziy 75;let m ← S8.list lim S8.mLp .expr S8.mRp;pure (.mk 72 t 0 0 (x::l++[.mk y.k y.t y.n y.a m]))
def Zv7 (a:Int) (x:Nd):S8.P Nd:=pure (.mk x.k x.t x.n a x.c)
theorem Zig (a:Int):S8.convert lim a=(do if ← S8.ZaC S8.ZfI then Zpi >>= Zv7 a else if ← S8.ZaC S8.ZbV then Zpk >>= Zv7 a else Zpj >>= Zv7 a):=by
 unfold S8.convert Zpi Zpk Zpj ZsT Ziy
 simp only [Zwo,Zy0,Zx9]
 rfl
theorem Fn.startG {w:World} {b:Nat} {S:Pg} {i j:Nat} {h h':Bool} (hp:Ps w b S i h) {w1:World} (g:(w.alloc (.cells z5 24)).grownBy w1 (some b)) (p:Ps w1 b S j h'):Fn w b S w.heap.size w1.heap.size (w1.alloc (.cells z5 24)) j h' 0 [] 0 0 [] (.slice none 0 0):=
 have h1:w.heap.size + 1≤w1.heap.size:=by have:=g.size;simpa using this
 have hlt:=hp.lt
 ⟨p.alloc _,Zbl (Zaa (Zaj ((Below.refl _ _).alloc (Nat.le_refl _) _)) g (.inl rfl)) _,((Is.fresh w 24 _).kept g (by simp;omega)).alloc _,Is.fresh w1 24 _,Nat.le_refl _,by omega,hp.lt,OwnRow.nil _ _⟩
theorem ZmO (N b:Nat) (S:Pg) (HE:∀h,Does N 138 b S h (single (lim (.expr h)))) (w:World) (i:Nat) (hp:Ps w b S i false) (hN:S.toks.length≤N + i) (hw:Zag S i=S8.Za2) (hw2:Zag S (i + 1)=S8.ZfI) :
  Calls prog 61 #[.pointer (some ⟨b,0,none⟩)] w (Post w b S i false (S8.change lim S.size (S.toks.drop i)) (ZaO w)):=by
 have HM:Hid (∀R,(do let x ← Zpi;pure (.mk x.k x.t x.n (place S i) x.c):S8.P Nd) S.size (S.toks.drop (i + 1))=R→S8.change lim S.size (S.toks.drop i)=R):=hid (by
  intro R h1
  rw [← h1]
  unfold S8.change
  refine ZaN ?_ (fun hl=>absurd (ZaL (S:=S) (i:=i) (by rw [hw];decide)) (by omega))
  simp (decide:=true) only [S8.Zac,S8.Zae,Zaf S i (show S8.Za2≠[] by decide),hw,if_true,Zay S i (show S8.Za2≠[] by decide),Zig,Zaf S (i + 1) (show S8.ZfI≠[] by decide),Zaf S (i + 1) (show S8.ZbV≠[] by decide),hw2,if_false]
  rfl)
 have HC:=hid (fun w j p hj=>Zss N b S HE w j p hj)
 clear HE
 have HP:=hid hp
 have HW:=hid hw
 clear hw
 have C0:=Zdq b S i false _ (hp.alloc (.cells z5 24))
 obtain ⟨pl,hpl⟩:∃pl,pl=place S i:=⟨_,rfl⟩
 rw [← hpl] at HM C0
 have HPL:=hid hpl
 have HW2:=hid hw2
 have hle:=hp.le
 have hlw:=ZaL (S:=S) (i:=i) (by rw [HW.out];decide)
 clear hp hpl hw2
 go_enter func61,ntmps61
 go_wp2_with (first
  | (go_at_call 59;(with_reducible refine C0.mono ?_);rintro e w1 ⟨rfl,h1⟩;have B1:=hid h1;have C1:=Za6 b S i false _ ((HP.out.alloc (.cells z5 24)).below h1 (HP.out.alloc (.cells z5 24)).lt) ⟨#[99,111,110,118,101,114,116]⟩ HW.out (by decide);clear h1 C0)
  | (go_at_call 119;(with_reducible refine C1.mono ?_);rintro e w2 ⟨rfl,p,g⟩;have F2:=hid (Fn.startG HP.out (Zaa (Zaj (r:=some b) B1.out) g (.inl rfl)) p);have C3:=Zau b S (i + 1) false _ F2.out.ps;rw [HW2.out] at C3;replace C3:Calls prog 60 #[.pointer (some ⟨b,0,none⟩)] _ fun e w'=>e=.returned (.string ⟨#[116,121,112,101]⟩)∧Below (World.heap _).size _ w':=C3;clear p g C1)
  | (go_at_call 60;(with_reducible refine C3.mono ?_);rintro e w3 ⟨rfl,h1⟩;have F3:=hid (F2.out.look h1);clear h1 C3;have C9:=show Calls prog 120 #[.pointer (some ⟨b,0,none⟩)] _ (Post _ b S (i + 1) false (Zpi S.size (S.toks.drop (i + 1))) (ZaO _)) from HC.out _ (i + 1) F3.out.ps (by omega))
  | (go_at_call 120;(with_reducible refine C9.mono ?_);rintro e w10 h1;rcases h1.ways with ⟨a,j,h',e1,rfl,g,p,rfl⟩ | ⟨x,j10,v,e1,rfl,g,hj10,p,r10,rfl,ho⟩;exact ⟨rfl,Post.err (HM.out _ (by simp only [S8.Zac,e1])) (Zaa F3.out.fr g (.inl rfl)) p⟩;have F10:=hid (And.intro (F3.out.call g p) ho);have E10:=hid e1;clear h1 e1 g p ho C9)
  | (refine Zah F10.out.1.nd rfl 24 _ _ rfl (nd5 x.k x.t x.n x.a r10) rfl rfl inf24 rfl (by have h1:=F10.out.2.one;simp [nd5,h1];exact ⟨rfl,rfl,rfl,rfl⟩) ?_;intro w11 h1 h2;have F11:=hid (F10.out.1.put h2 h1 (F10.out.2.weak F3.out.size));clear h1 h2)
  | (refine Zrh F11.out pl rfl _ _ rfl rfl rfl ?_;intro w12 h1;have F12:=hid h1;clear h1)
  | (refine Zax F12.out rfl _ rfl rfl ?_)
  | (refine Zaw F12.out rfl _ _ rfl rfl rfl ?_;intro w13 h1 h2 h3 h4;have F13:=hid (And.intro h1 (And.intro h2 (And.intro h3 h4)));clear h1 h2 h3 h4))
 refine ret24 results61 F13.out.1
  (Post.ok (j:=j10) (HM.out _ (by (try simp only [S8.Zac,E10.out]);rfl)) F13.out.2.1 F13.out.2.2.1 (by omega) F13.out.2.2.2)
theorem Zlk (N b:Nat) (S:Pg) (HE:∀h,Does N 138 b S h (single (lim (.expr h)))) (w:World) (i:Nat) (hp:Ps w b S i false) (hN:S.toks.length≤N + i) (hw:Zag S i=S8.Za2) (hw2:Zag S (i + 1)=S8.ZbV) :
  Calls prog 61 #[.pointer (some ⟨b,0,none⟩)] w (Post w b S i false (S8.change lim S.size (S.toks.drop i)) (ZaO w)):=by
 have HM:Hid (∀R,(do let x ← Zpk;pure (.mk x.k x.t x.n (place S i) x.c):S8.P Nd) S.size (S.toks.drop (i + 1))=R→S8.change lim S.size (S.toks.drop i)=R):=hid (by
  intro R h1
  rw [← h1]
  unfold S8.change
  refine ZaN ?_ (fun hl=>absurd (ZaL (S:=S) (i:=i) (by rw [hw];decide)) (by omega))
  simp (decide:=true) only [S8.Zac,S8.Zae,Zaf S i (show S8.Za2≠[] by decide),hw,if_true,Zay S i (show S8.Za2≠[] by decide),Zig,Zaf S (i + 1) (show S8.ZfI≠[] by decide),Zaf S (i + 1) (show S8.ZbV≠[] by decide),hw2,if_false]
  rfl)
 have HC:=hid (fun w j p hj=>Zsu N b S HE w j p hj)
 clear HE
 have HP:=hid hp
 have HW:=hid hw
 clear hw
 have C0:=Zdq b S i false _ (hp.alloc (.cells z5 24))
 obtain ⟨pl,hpl⟩:∃pl,pl=place S i:=⟨_,rfl⟩
 rw [← hpl] at HM C0
 have HPL:=hid hpl
 have HW2:=hid hw2
 have hle:=hp.le
 have hlw:=ZaL (S:=S) (i:=i) (by rw [HW.out];decide)
 clear hp hpl hw2
 go_enter func61,ntmps61
 go_wp2_with (first
  | (go_at_call 59;(with_reducible refine C0.mono ?_);rintro e w1 ⟨rfl,h1⟩;have B1:=hid h1;have C1:=Za6 b S i false _ ((HP.out.alloc (.cells z5 24)).below h1 (HP.out.alloc (.cells z5 24)).lt) ⟨#[99,111,110,118,101,114,116]⟩ HW.out (by decide);clear h1 C0)
  | (go_at_call 119;(with_reducible refine C1.mono ?_);rintro e w2 ⟨rfl,p,g⟩;have F2:=hid (Fn.startG HP.out (Zaa (Zaj (r:=some b) B1.out) g (.inl rfl)) p);have C3:=Zau b S (i + 1) false _ F2.out.ps;rw [HW2.out] at C3;replace C3:Calls prog 60 #[.pointer (some ⟨b,0,none⟩)] _ fun e w'=>e=.returned (.string ⟨#[97,99,116,111,114]⟩)∧Below (World.heap _).size _ w':=C3;clear p g C1)
  | (go_at_call 60;(with_reducible refine C3.mono ?_);rintro e w3 ⟨rfl,h1⟩;have F3:=hid (F2.out.look h1);clear h1 C3;have C9:=show Calls prog 121 #[.pointer (some ⟨b,0,none⟩)] _ (Post _ b S (i + 1) false (Zpk S.size (S.toks.drop (i + 1))) (ZaO _)) from HC.out _ (i + 1) F3.out.ps (by omega))
  | (go_at_call 121;(with_reducible refine C9.mono ?_);rintro e w10 h1;rcases h1.ways with ⟨a,j,h',e1,rfl,g,p,rfl⟩ | ⟨x,j10,v,e1,rfl,g,hj10,p,r10,rfl,ho⟩;exact ⟨rfl,Post.err (HM.out _ (by simp only [S8.Zac,e1])) (Zaa F3.out.fr g (.inl rfl)) p⟩;have F10:=hid (And.intro (F3.out.call g p) ho);have E10:=hid e1;clear h1 e1 g p ho C9)
  | (refine Zah F10.out.1.nd rfl 24 _ _ rfl (nd5 x.k x.t x.n x.a r10) rfl rfl inf24 rfl (by have h1:=F10.out.2.one;simp [nd5,h1];exact ⟨rfl,rfl,rfl,rfl⟩) ?_;intro w11 h1 h2;have F11:=hid (F10.out.1.put h2 h1 (F10.out.2.weak F3.out.size));clear h1 h2)
  | (refine Zrh F11.out pl rfl _ _ rfl rfl rfl ?_;intro w12 h1;have F12:=hid h1;clear h1)
  | (refine Zax F12.out rfl _ rfl rfl ?_)
  | (refine Zaw F12.out rfl _ _ rfl rfl rfl ?_;intro w13 h1 h2 h3 h4;have F13:=hid (And.intro h1 (And.intro h2 (And.intro h3 h4)));clear h1 h2 h3 h4))
 refine ret24 results61 F13.out.1
  (Post.ok (j:=j10) (HM.out _ (by (try simp only [S8.Zac,E10.out]);rfl)) F13.out.2.1 F13.out.2.2.1 (by omega) F13.out.2.2.2)
open Go.RowKit L7
open S8 (lim single What)
theorem Zod (N b:Nat) (S:Pg) (HE:∀h,Does N 138 b S h (single (lim (.expr h)))) (w:World) (i:Nat) (hp:Ps w b S i false) (hN:S.toks.length≤N + i) (hw:Zag S i=S8.Za2) (h1:Zag S (i + 1)≠S8.ZfI) (h2:Zag S (i + 1)≠S8.ZbV) :
  Calls prog 61 #[.pointer (some ⟨b,0,none⟩)] w (Post w b S i false (S8.change lim S.size (S.toks.drop i)) (ZaO w)):=by
 have HM:Hid (∀R,(do let x ← Zpj;pure (.mk x.k x.t x.n (place S i) x.c):S8.P Nd) S.size (S.toks.drop (i + 1))=R→S8.change lim S.size (S.toks.drop i)=R):=hid (by
  intro R h3
  rw [← h3]
  unfold S8.change
  refine ZaN ?_ (fun hl=>absurd (ZaL (S:=S) (i:=i) (by rw [hw];decide)) (by omega))
  simp (decide:=true) only [S8.Zac,S8.Zae,Zaf S i (show S8.Za2≠[] by decide),hw,if_true,Zay S i (show S8.Za2≠[] by decide),Zig]
  simp only [Zaf S (i + 1) (show S8.ZfI≠[] by decide),Zaf S (i + 1) (show S8.ZbV≠[] by decide),h1,h2,decide_false,Bool.false_eq_true,if_false]
  rfl)
 have HC:=hid (fun w j p hj=>Zst N b S HE w j p hj)
 clear HE
 have HP:=hid hp
 have HW:=hid hw
 clear hw
 have C0:=Zdq b S i false _ (hp.alloc (.cells z5 24))
 obtain ⟨pl,hpl⟩:∃pl,pl=place S i:=⟨_,rfl⟩
 rw [← hpl] at HM C0
 have HPL:=hid hpl
 obtain ⟨u,hu⟩:∃u,u=mk (Zag S (i + 1)):=⟨_,rfl⟩
 have n0:(u.toList == [116,121,112,101])=false:=by rw [hu,Zas,Zbc];exact beq_eq_false_iff_ne.2 h1
 have n1:(u.toList == [97,99,116,111,114])=false:=by rw [hu,Zas,Zbc];exact beq_eq_false_iff_ne.2 h2
 have HUu:=hid hu
 have hle:=hp.le
 have hlw:=ZaL (S:=S) (i:=i) (by rw [HW.out];decide)
 clear hp hpl hu h1 h2
 go_enter func61,ntmps61
 go_wp2_with (first
  | (go_at_call 59;(with_reducible refine C0.mono ?_);rintro e w1 ⟨rfl,h1⟩;have B1:=hid h1;have C1:=Za6 b S i false _ ((HP.out.alloc (.cells z5 24)).below h1 (HP.out.alloc (.cells z5 24)).lt) ⟨#[99,111,110,118,101,114,116]⟩ HW.out (by decide);clear h1 C0)
  | (go_at_call 119;(with_reducible refine C1.mono ?_);rintro e w2 ⟨rfl,p,g⟩;have F2:=hid (Fn.startG HP.out (Zaa (Zaj (r:=some b) B1.out) g (.inl rfl)) p);have C3:=Zau b S (i + 1) false _ F2.out.ps;rw [← HUu.out] at C3;clear p g C1)
  | (go_at_call 60;(with_reducible refine C3.mono ?_);rintro e w3 ⟨rfl,h1⟩;have F3:=hid (F2.out.look h1);clear h1 C3;have C9:=show Calls prog 122 #[.pointer (some ⟨b,0,none⟩)] _ (Post _ b S (i + 1) false (Zpj S.size (S.toks.drop (i + 1))) (ZaO _)) from HC.out _ (i + 1) F3.out.ps (by omega))
  | (go_at_call 122;(with_reducible refine C9.mono ?_);rintro e w10 h1;rcases h1.ways with ⟨a,j,h',e1,rfl,g,p,rfl⟩ | ⟨x,j10,v,e1,rfl,g,hj10,p,r10,rfl,ho⟩;exact ⟨rfl,Post.err (HM.out _ (by simp only [S8.Zac,e1])) (Zaa F3.out.fr g (.inl rfl)) p⟩;have F10:=hid (And.intro (F3.out.call g p) ho);have E10:=hid e1;clear h1 e1 g p ho C9)
  | (refine Zah F10.out.1.nd rfl 24 _ _ rfl (nd5 x.k x.t x.n x.a r10) rfl rfl inf24 rfl (by have h1:=F10.out.2.one;simp [nd5,h1];exact ⟨rfl,rfl,rfl,rfl⟩) ?_;intro w11 h1 h2;have F11:=hid (F10.out.1.put h2 h1 (F10.out.2.weak F3.out.size));clear h1 h2)
  | (refine Zrh F11.out pl rfl _ _ rfl rfl rfl ?_;intro w12 h1;have F12:=hid h1;clear h1)
  | (refine Zax F12.out rfl _ rfl rfl ?_)
  | (refine Zaw F12.out rfl _ _ rfl rfl rfl ?_;intro w13 h1 h2 h3 h4;have F13:=hid (And.intro h1 (And.intro h2 (And.intro h3 h4)));clear h1 h2 h3 h4))
 refine ret24 results61 F13.out.1
  (Post.ok (j:=j10) (HM.out _ (by (try simp only [S8.Zac,E10.out]);rfl)) F13.out.2.1 F13.out.2.2.1 (by omega) F13.out.2.2.2)
theorem Zoe (N b:Nat) (S:Pg) (HE:∀h,Does N 138 b S h (single (lim (.expr h)))) (w:World) (i:Nat) (hp:Ps w b S i false) (hN:S.toks.length≤N + i) (hw:Zag S i=S8.Za2) :
  Calls prog 61 #[.pointer (some ⟨b,0,none⟩)] w (Post w b S i false (S8.change lim S.size (S.toks.drop i)) (ZaO w)):=by
 by_cases h1:Zag S (i + 1)=S8.ZfI
 ·exact ZmO N b S HE w i hp hN hw h1
 ·by_cases h2:Zag S (i + 1)=S8.ZbV
  ·exact Zlk N b S HE w i hp hN hw h2
  ·exact Zod N b S HE w i hp hN hw h1 h2
theorem Zma (N b:Nat) (S:Pg) (HE:∀h,Does N 138 b S h (single (lim (.expr h)))) (w:World) (i:Nat) (hp:Ps w b S i false) (hN:S.toks.length≤N + i) (hw:Zag S i=S8.Za2) :
  Calls prog 32 #[.pointer (some ⟨b,0,none⟩)] w (Post w b S i false (S8.change lim S.size (S.toks.drop i)) (ZaO w)):=by
 have HW:=hid hw
 have HC:=hid HE
 have HP:=hid hp
 have F0:=hid (And.intro (hp.alloc (.cells z5 24)) (And.intro (Is.fresh w 24 z5) (Zaj (r:=some b) ((Below.refl w.heap.size w).alloc (Nat.le_refl _) (.cells z5 24)))))
 have WD:=Zau b S i false _ F0.out.1
 have WD:Calls prog 60 #[.pointer (some ⟨b,0,none⟩)] (w.alloc (.cells z5 24)) fun e w'=>e=.returned (.string ⟨#[99,111,110,118,101,114,116]⟩)∧Below (w.alloc (.cells z5 24)).heap.size (w.alloc (.cells z5 24)) w':=by
  rw [hw] at WD;exact WD
 clear hp hw HE
 go_enter func32,ntmps32
 go_wp2_with (first
  | (go_at_call 60;(with_reducible refine WD.mono ?_);rintro e w1 ⟨rfl,h1⟩;have p1:=F0.out.1.below h1 F0.out.1.lt;have F1:=hid (And.intro p1 (And.intro (F0.out.2.1.below h1 F0.out.2.1.lt) (Zan F0.out.2.2 (h1.mono F0.out.2.2.size))));have C1:=Zoe N b S HC.out _ i p1 hN HW.out;clear h1 p1 WD)
  | (go_at_call 61;(with_reducible refine C1.mono ?_);rintro e w2 h1;rcases h1.ways with ⟨a,j,h',e1,rfl,g,p,rfl⟩ | ⟨x,j1,v,e1,rfl,g,hj1,p,r,rfl,ho⟩;exact ⟨rfl,Post.err (e1) (Zaa F1.out.2.2 g (.inl rfl)) p⟩;have hbb:=HP.out.lt;have F2:=hid (And.intro p (And.intro (Zaa F1.out.2.2 g (.inl rfl)) (And.intro (F1.out.2.1.kept g (by simp;omega)) (And.intro (ho.weak F1.out.2.1.lt) e1))));clear h1 e1 g p ho C1)
  | (refine Zah F2.out.2.2.1 rfl 24 _ _ rfl (nd5 x.k x.t x.n x.a r) rfl rfl inf24 rfl (by have h1:=F2.out.2.2.2.1.one;simp [nd5,h1];exact ⟨rfl,rfl,rfl,rfl⟩) ?_;intro w3 h1 h2;have F3:=hid (And.intro h1 h2);clear h1 h2))
 refine ret24 results32 F3.out.1
  (Post.ok (j:=j1) (x:=x) (F2.out.2.2.2.2) (Zaa F2.out.2.1 F3.out.2 (.inr fun j e=>by injection e with e;omega)) (F2.out.1.kept F3.out.2 hbb) hj1 ⟨r,rfl,(F2.out.2.2.2.1.grown F3.out.2 (by omega)).weak (by omega)⟩)
theorem ZtP (b:Nat) (S:Pg) (N:Nat):Does N 32 b S false (S8.change lim):=fun w i hp hN=>by
 by_cases h0:Zag S i=S8.Za2
 ·exact Zma N b S (fun h=>ZiQ b S N h) w i hp (by omega) h0
 by_cases h1:Zag S i=S8.Zeo
 ·exact Zrr N b S w i hp (by omega) h1
 by_cases h2:Zag S i=S8.Zez
 ·exact Zrs N b S w i hp (by omega) h2
 exact Zrt N b S w i hp (by omega) (fun s hs=>by
  simp only [List.mem_cons,List.not_mem_nil,or_false] at hs
  rcases hs with rfl | rfl | rfl <;> assumption)
namespace S8
noncomputable def Zpx (p:Bool):P Nd:=single (lim (if p=true then .change else .decl))
theorem Zs3 (p:Bool):good (if p=true then NT.change else NT.decl)=true:=by cases p <;> rfl
theorem Zqk (e:Int) (l:List Tok):change lim e l=Zpx true e l:=by
 rw [Zpx,if_pos rfl,ZbG,Zbb (nt:=.change) rfl]
 show _=(match one (change lim) e l with | .out=>_ | .err a=>_ | .ok [x] r=>_ | .ok _ r=>_)
 unfold one
 rw [Zac]
 cases change lim e l <;> rfl
theorem Zue {nt:NT} (hg:good nt=true) (e:Int) (l:List Tok):∃m,parse m nt e l=lim nt e l∧parse m nt e l≠.out:=by
 by_cases h:∃m,parse m nt e l≠.out
 ·obtain ⟨m,hm⟩:=h
  exact ⟨m,(Zjj hm).symm,hm⟩
 ·exfalso
  apply Zyl hg e l
  unfold lim
  rw [dif_neg h]
theorem Zoq (p:Bool) (e:Int) (l:List Tok):∃m,∀d,single (parse (m + d) (if p=true then .change else .decl)) e l=Zpx p e l:=by
 obtain ⟨m,h1,h2⟩:=Zue (Zs3 p) e l
 refine ⟨m,fun d=>?_⟩
 rw [Zpx,ZbG,ZbG,← h1]
 rcases ZnQ m d (if p=true then NT.change else NT.decl) e l with h | h
 ·exact absurd h h2
 ·rw [← h]
theorem File.err_first {p:Bool} {e a:Int} {t:Tok} {l:List Tok} (h:Zpx p e (t::l)=.err a):File p e (t::l) (.err a):=by
 obtain ⟨m,hm⟩:=Zoq p e (t::l)
 refine ⟨by simp,m,1,?_⟩
 rw [Zcc]
 unfold S8.row
 rw [Zac,show m=m + 0 from rfl,hm 0,h]
theorem File.step {p:Bool} {e:Int} {t:Tok} {l r:List Tok} {x:Nd} {R:Res (List Nd)} (h:Zpx p e (t::l)=.ok x r) (k:File p e r R):File p e (t::l) (pre [x] R):=by
 obtain ⟨k0,m,j,k1⟩:=k
 obtain ⟨m',hm⟩:=Zoq p e (t::l)
 refine ⟨by cases R <;> simp_all [pre],m' + m,j + 1,?_⟩
 rw [Zcc]
 unfold S8.row
 rw [Zac,hm m,h]
 have h2:=Zc8 (m:=m) (m':=m' + m) (j:=j) (j':=j) (p:=p) (by omega) (Nat.le_refl _) (e:=e) (l:=r) (by rw [k1];exact k0)
 simp only [Zac]
 rw [h2,k1]
 cases R <;> rfl
theorem Zhw (p:Bool):Con (Zpx p):=by
 unfold Zpx
 exact ZaY (Zll _ (by cases p <;> rfl))
end S8
end Go.Proofs.YtaheffiglmglbaaGreatDoor
