import Derived.Test.YtaheffiglmglbaaGreatDoorKQh
import Derived.Test.YtaheffiglmglbaaGreatDoorKQe
/- Stmt3, Do, Spawn, Let, Stmts, Decls. -/
set_option maxHeartbeats 8000000
set_option maxRecDepth 20000
namespace Go.Proofs.YtaheffiglmglbaaGreatDoor
open Go.Proofs.Tryz
open Go.RowKit L7
open S8 (lim single What)
theorem Zth:single (lim (.one .stmt))=S8.stmt lim:=by
 funext e l
 rw [Zdl];rfl
theorem ZlP {S:Pg} {i:Nat} (hw:Zag S i=S8.Zd0):S8.stmt lim S.size (S.toks.drop i)=single (lim .send) S.size (S.toks.drop i):=by
 unfold S8.stmt
 refine ZaN ?_ (fun hl=>absurd (ZaL (S:=S) (i:=i) (by rw [hw];decide)) (by omega))
 simp (decide:=true) only [S8.Zac,S8.Zae,Zaf S i (show S8.Zce≠[] by decide),Zaf S i (show S8.Zd0≠[] by decide),hw,if_true,if_false]
theorem Zvy (N b:Nat) (S:Pg) (HE:∀h,Does N 138 b S h (single (lim (.expr h)))) (HB:Does N 247 b S false (S8.block lim)) (w:World) (i:Nat) (hp:Ps w b S i false) (hN:S.toks.length≤N + i) (hw:Zag S i=S8.wIf) :
  Calls prog 270 #[.pointer (some ⟨b,0,none⟩)] w (Post w b S i false (S8.stmt lim S.size (S.toks.drop i)) (ZaO w)):=by
 have HW:=hid hw
 have HC:=hid HE
 have HBl:=hid HB
 have HP:=hid hp
 have F0:=hid (And.intro (hp.alloc (.cells z5 24)) (And.intro (Is.fresh w 24 z5) (Zaj (r:=some b) ((Below.refl w.heap.size w).alloc (Nat.le_refl _) (.cells z5 24)))))
 have WD:=Zau b S i false _ F0.out.1
 have WD:Calls prog 60 #[.pointer (some ⟨b,0,none⟩)] (w.alloc (.cells z5 24)) fun e w'=>e=.returned (.string ⟨#[105,102]⟩)∧Below (w.alloc (.cells z5 24)).heap.size (w.alloc (.cells z5 24)) w':=by
  rw [hw] at WD;exact WD
 clear hp hw HE HB
 go_enter func270,ntmps270
 go_wp2_with (first
  | (go_at_call 60;(with_reducible refine WD.mono ?_);rintro e w1 ⟨rfl,h1⟩;have p1:=F0.out.1.below h1 F0.out.1.lt;have F1:=hid (And.intro p1 (And.intro (F0.out.2.1.below h1 F0.out.2.1.lt) (Zan F0.out.2.2 (h1.mono F0.out.2.2.size))));have C1:=Zp3 N b S HC.out HBl.out _ i p1 hN HW.out;clear h1 p1 WD)
  | (go_at_call 288;(with_reducible refine C1.mono ?_);rintro e w2 h1;rcases h1.ways with ⟨a,j,h',e1,rfl,g,p,rfl⟩ | ⟨x,j1,v,e1,rfl,g,hj1,p,r,rfl,ho⟩;exact ⟨rfl,Post.err (e1) (Zaa F1.out.2.2 g (.inl rfl)) p⟩;have hbb:=HP.out.lt;have F2:=hid (And.intro p (And.intro (Zaa F1.out.2.2 g (.inl rfl)) (And.intro (F1.out.2.1.kept g (by simp;omega)) (And.intro (ho.weak F1.out.2.1.lt) e1))));clear h1 e1 g p ho C1)
  | (refine Zah F2.out.2.2.1 rfl 24 _ _ rfl (nd5 x.k x.t x.n x.a r) rfl rfl inf24 rfl (by have h1:=F2.out.2.2.2.1.one;simp [nd5,h1];exact ⟨rfl,rfl,rfl,rfl⟩) ?_;intro w3 h1 h2;have F3:=hid (And.intro h1 h2);clear h1 h2))
 refine ret24 results270 F3.out.1
  (Post.ok (j:=j1) (x:=x) (F2.out.2.2.2.2) (Zaa F2.out.2.1 F3.out.2 (.inr fun j e=>by injection e with e;omega)) (F2.out.1.kept F3.out.2 hbb) hj1 ⟨r,rfl,(F2.out.2.2.2.1.grown F3.out.2 (by omega)).weak (by omega)⟩)
theorem ZpB (N b:Nat) (S:Pg) (HE:∀h,Does N 138 b S h (single (lim (.expr h)))) (HA:Does N 305 b S false (single (lim (.one .sarm)))) (w:World) (i:Nat) (hp:Ps w b S i false) (hN:S.toks.length≤N + i) (hw:Zag S i=S8.ZbR) :
  Calls prog 270 #[.pointer (some ⟨b,0,none⟩)] w (Post w b S i false (S8.stmt lim S.size (S.toks.drop i)) (ZaO w)):=by
 have HW:=hid hw
 have HC:=hid HE
 have HAr:=hid HA
 have HP:=hid hp
 have F0:=hid (And.intro (hp.alloc (.cells z5 24)) (And.intro (Is.fresh w 24 z5) (Zaj (r:=some b) ((Below.refl w.heap.size w).alloc (Nat.le_refl _) (.cells z5 24)))))
 have WD:=Zau b S i false _ F0.out.1
 have WD:Calls prog 60 #[.pointer (some ⟨b,0,none⟩)] (w.alloc (.cells z5 24)) fun e w'=>e=.returned (.string ⟨#[109,97,116,99,104]⟩)∧Below (w.alloc (.cells z5 24)).heap.size (w.alloc (.cells z5 24)) w':=by
  rw [hw] at WD;exact WD
 clear hp hw HE HA
 go_enter func270,ntmps270
 go_wp2_with (first
  | (go_at_call 60;(with_reducible refine WD.mono ?_);rintro e w1 ⟨rfl,h1⟩;have p1:=F0.out.1.below h1 F0.out.1.lt;have F1:=hid (And.intro p1 (And.intro (F0.out.2.1.below h1 F0.out.2.1.lt) (Zan F0.out.2.2 (h1.mono F0.out.2.2.size))));have C1:=Zk2 N b S HC.out HAr.out _ i p1 hN HW.out;clear h1 p1 WD)
  | (go_at_call 289;(with_reducible refine C1.mono ?_);rintro e w2 h1;rcases h1.ways with ⟨a,j,h',e1,rfl,g,p,rfl⟩ | ⟨x,j1,v,e1,rfl,g,hj1,p,r,rfl,ho⟩;exact ⟨rfl,Post.err (e1) (Zaa F1.out.2.2 g (.inl rfl)) p⟩;have hbb:=HP.out.lt;have F2:=hid (And.intro p (And.intro (Zaa F1.out.2.2 g (.inl rfl)) (And.intro (F1.out.2.1.kept g (by simp;omega)) (And.intro (ho.weak F1.out.2.1.lt) e1))));clear h1 e1 g p ho C1)
  | (refine Zah F2.out.2.2.1 rfl 24 _ _ rfl (nd5 x.k x.t x.n x.a r) rfl rfl inf24 rfl (by have h1:=F2.out.2.2.2.1.one;simp [nd5,h1];exact ⟨rfl,rfl,rfl,rfl⟩) ?_;intro w3 h1 h2;have F3:=hid (And.intro h1 h2);clear h1 h2))
 refine ret24 results270 F3.out.1
  (Post.ok (j:=j1) (x:=x) (F2.out.2.2.2.2) (Zaa F2.out.2.1 F3.out.2 (.inr fun j e=>by injection e with e;omega)) (F2.out.1.kept F3.out.2 hbb) hj1 ⟨r,rfl,(F2.out.2.2.2.1.grown F3.out.2 (by omega)).weak (by omega)⟩)
theorem Ztj (N b:Nat) (S:Pg) (HE:∀h,Does N 138 b S h (single (lim (.expr h)))) (HB:Does N 247 b S false (S8.block lim)) (w:World) (i:Nat) (hp:Ps w b S i false) (hN:S.toks.length≤N + i) (hw:Zag S i=S8.Zkt) :
  Calls prog 270 #[.pointer (some ⟨b,0,none⟩)] w (Post w b S i false (S8.stmt lim S.size (S.toks.drop i)) (ZaO w)):=by
 have HW:=hid hw
 have HC:=hid HE
 have HBl:=hid HB
 have HP:=hid hp
 have F0:=hid (And.intro (hp.alloc (.cells z5 24)) (And.intro (Is.fresh w 24 z5) (Zaj (r:=some b) ((Below.refl w.heap.size w).alloc (Nat.le_refl _) (.cells z5 24)))))
 have WD:=Zau b S i false _ F0.out.1
 have WD:Calls prog 60 #[.pointer (some ⟨b,0,none⟩)] (w.alloc (.cells z5 24)) fun e w'=>e=.returned (.string ⟨#[102,111,114]⟩)∧Below (w.alloc (.cells z5 24)).heap.size (w.alloc (.cells z5 24)) w':=by
  rw [hw] at WD;exact WD
 clear hp hw HE HB
 go_enter func270,ntmps270
 go_wp2_with (first
  | (go_at_call 60;(with_reducible refine WD.mono ?_);rintro e w1 ⟨rfl,h1⟩;have p1:=F0.out.1.below h1 F0.out.1.lt;have F1:=hid (And.intro p1 (And.intro (F0.out.2.1.below h1 F0.out.2.1.lt) (Zan F0.out.2.2 (h1.mono F0.out.2.2.size))));have C1:=Zn3 N b S HC.out HBl.out _ i p1 hN HW.out;clear h1 p1 WD)
  | (go_at_call 290;(with_reducible refine C1.mono ?_);rintro e w2 h1;rcases h1.ways with ⟨a,j,h',e1,rfl,g,p,rfl⟩ | ⟨x,j1,v,e1,rfl,g,hj1,p,r,rfl,ho⟩;exact ⟨rfl,Post.err (e1) (Zaa F1.out.2.2 g (.inl rfl)) p⟩;have hbb:=HP.out.lt;have F2:=hid (And.intro p (And.intro (Zaa F1.out.2.2 g (.inl rfl)) (And.intro (F1.out.2.1.kept g (by simp;omega)) (And.intro (ho.weak F1.out.2.1.lt) e1))));clear h1 e1 g p ho C1)
  | (refine Zah F2.out.2.2.1 rfl 24 _ _ rfl (nd5 x.k x.t x.n x.a r) rfl rfl inf24 rfl (by have h1:=F2.out.2.2.2.1.one;simp [nd5,h1];exact ⟨rfl,rfl,rfl,rfl⟩) ?_;intro w3 h1 h2;have F3:=hid (And.intro h1 h2);clear h1 h2))
 refine ret24 results270 F3.out.1
  (Post.ok (j:=j1) (x:=x) (F2.out.2.2.2.2) (Zaa F2.out.2.1 F3.out.2 (.inr fun j e=>by injection e with e;omega)) (F2.out.1.kept F3.out.2 hbb) hj1 ⟨r,rfl,(F2.out.2.2.2.1.grown F3.out.2 (by omega)).weak (by omega)⟩)
theorem ZpA (N b:Nat) (S:Pg) (HE:∀h,Does N 138 b S h (single (lim (.expr h)))) (w:World) (i:Nat) (hp:Ps w b S i false) (hN:S.toks.length≤N + i) (hw:Zag S i=S8.Zd0) :
  Calls prog 270 #[.pointer (some ⟨b,0,none⟩)] w (Post w b S i false (S8.stmt lim S.size (S.toks.drop i)) (ZaO w)):=by
 have HW:=hid hw
 have HC:=hid HE
 have HP:=hid hp
 have F0:=hid (And.intro (hp.alloc (.cells z5 24)) (And.intro (Is.fresh w 24 z5) (Zaj (r:=some b) ((Below.refl w.heap.size w).alloc (Nat.le_refl _) (.cells z5 24)))))
 have WD:=Zau b S i false _ F0.out.1
 have WD:Calls prog 60 #[.pointer (some ⟨b,0,none⟩)] (w.alloc (.cells z5 24)) fun e w'=>e=.returned (.string ⟨#[115,101,110,100]⟩)∧Below (w.alloc (.cells z5 24)).heap.size (w.alloc (.cells z5 24)) w':=by
  rw [hw] at WD;exact WD
 clear hp hw HE
 go_enter func270,ntmps270
 go_wp2_with (first
  | (go_at_call 60;(with_reducible refine WD.mono ?_);rintro e w1 ⟨rfl,h1⟩;have p1:=F0.out.1.below h1 F0.out.1.lt;have F1:=hid (And.intro p1 (And.intro (F0.out.2.1.below h1 F0.out.2.1.lt) (Zan F0.out.2.2 (h1.mono F0.out.2.2.size))));have C1:=ZoG N b S HC.out _ i p1 hN;clear h1 p1 WD)
  | (go_at_call 291;(with_reducible refine C1.mono ?_);rintro e w2 h1;rcases h1.ways with ⟨a,j,h',e1,rfl,g,p,rfl⟩ | ⟨x,j1,v,e1,rfl,g,hj1,p,r,rfl,ho⟩;exact ⟨rfl,Post.err ((ZlP HW.out).trans e1) (Zaa F1.out.2.2 g (.inl rfl)) p⟩;have hbb:=HP.out.lt;have F2:=hid (And.intro p (And.intro (Zaa F1.out.2.2 g (.inl rfl)) (And.intro (F1.out.2.1.kept g (by simp;omega)) (And.intro (ho.weak F1.out.2.1.lt) e1))));clear h1 e1 g p ho C1)
  | (refine Zah F2.out.2.2.1 rfl 24 _ _ rfl (nd5 x.k x.t x.n x.a r) rfl rfl inf24 rfl (by have h1:=F2.out.2.2.2.1.one;simp [nd5,h1];exact ⟨rfl,rfl,rfl,rfl⟩) ?_;intro w3 h1 h2;have F3:=hid (And.intro h1 h2);clear h1 h2))
 refine ret24 results270 F3.out.1
  (Post.ok (j:=j1) (x:=x) ((ZlP HW.out).trans F2.out.2.2.2.2) (Zaa F2.out.2.1 F3.out.2 (.inr fun j e=>by injection e with e;omega)) (F2.out.1.kept F3.out.2 hbb) hj1 ⟨r,rfl,(F2.out.2.2.2.1.grown F3.out.2 (by omega)).weak (by omega)⟩)
theorem ZpC (N b:Nat) (S:Pg) (HE:∀h,Does N 138 b S h (single (lim (.expr h)))) (w:World) (i:Nat) (hp:Ps w b S i false) (hN:S.toks.length≤N + i) (hw:Zag S i=S8.ZdS) :
  Calls prog 270 #[.pointer (some ⟨b,0,none⟩)] w (Post w b S i false (S8.stmt lim S.size (S.toks.drop i)) (ZaO w)):=by
 have HW:=hid hw
 have HC:=hid HE
 have HP:=hid hp
 have F0:=hid (And.intro (hp.alloc (.cells z5 24)) (And.intro (Is.fresh w 24 z5) (Zaj (r:=some b) ((Below.refl w.heap.size w).alloc (Nat.le_refl _) (.cells z5 24)))))
 have WD:=Zau b S i false _ F0.out.1
 have WD:Calls prog 60 #[.pointer (some ⟨b,0,none⟩)] (w.alloc (.cells z5 24)) fun e w'=>e=.returned (.string ⟨#[97,102,116,101,114]⟩)∧Below (w.alloc (.cells z5 24)).heap.size (w.alloc (.cells z5 24)) w':=by
  rw [hw] at WD;exact WD
 clear hp hw HE
 go_enter func270,ntmps270
 go_wp2_with (first
  | (go_at_call 60;(with_reducible refine WD.mono ?_);rintro e w1 ⟨rfl,h1⟩;have p1:=F0.out.1.below h1 F0.out.1.lt;have F1:=hid (And.intro p1 (And.intro (F0.out.2.1.below h1 F0.out.2.1.lt) (Zan F0.out.2.2 (h1.mono F0.out.2.2.size))));have C1:=Zly N b S HC.out _ i p1 hN HW.out;clear h1 p1 WD)
  | (go_at_call 292;(with_reducible refine C1.mono ?_);rintro e w2 h1;rcases h1.ways with ⟨a,j,h',e1,rfl,g,p,rfl⟩ | ⟨x,j1,v,e1,rfl,g,hj1,p,r,rfl,ho⟩;exact ⟨rfl,Post.err (e1) (Zaa F1.out.2.2 g (.inl rfl)) p⟩;have hbb:=HP.out.lt;have F2:=hid (And.intro p (And.intro (Zaa F1.out.2.2 g (.inl rfl)) (And.intro (F1.out.2.1.kept g (by simp;omega)) (And.intro (ho.weak F1.out.2.1.lt) e1))));clear h1 e1 g p ho C1)
  | (refine Zah F2.out.2.2.1 rfl 24 _ _ rfl (nd5 x.k x.t x.n x.a r) rfl rfl inf24 rfl (by have h1:=F2.out.2.2.2.1.one;simp [nd5,h1];exact ⟨rfl,rfl,rfl,rfl⟩) ?_;intro w3 h1 h2;have F3:=hid (And.intro h1 h2);clear h1 h2))
 refine ret24 results270 F3.out.1
  (Post.ok (j:=j1) (x:=x) (F2.out.2.2.2.2) (Zaa F2.out.2.1 F3.out.2 (.inr fun j e=>by injection e with e;omega)) (F2.out.1.kept F3.out.2 hbb) hj1 ⟨r,rfl,(F2.out.2.2.2.1.grown F3.out.2 (by omega)).weak (by omega)⟩)
theorem ZqT (N b:Nat) (S:Pg) (w:World) (i:Nat) (hp:Ps w b S i false) (hN:S.toks.length≤N + i) (hw:Zag S i=S8.Zg4) :
  Calls prog 270 #[.pointer (some ⟨b,0,none⟩)] w (Post w b S i false (S8.stmt lim S.size (S.toks.drop i)) (ZaO w)):=by
 have HW:=hid hw
 have HP:=hid hp
 have F0:=hid (And.intro (hp.alloc (.cells z5 24)) (And.intro (Is.fresh w 24 z5) (Zaj (r:=some b) ((Below.refl w.heap.size w).alloc (Nat.le_refl _) (.cells z5 24)))))
 have WD:=Zau b S i false _ F0.out.1
 have WD:Calls prog 60 #[.pointer (some ⟨b,0,none⟩)] (w.alloc (.cells z5 24)) fun e w'=>e=.returned (.string ⟨#[115,116,111,112]⟩)∧Below (w.alloc (.cells z5 24)).heap.size (w.alloc (.cells z5 24)) w':=by
  rw [hw] at WD;exact WD
 clear hp hw
 go_enter func270,ntmps270
 go_wp2_with (first
  | (go_at_call 60;(with_reducible refine WD.mono ?_);rintro e w1 ⟨rfl,h1⟩;have p1:=F0.out.1.below h1 F0.out.1.lt;have F1:=hid (And.intro p1 (And.intro (F0.out.2.1.below h1 F0.out.2.1.lt) (Zan F0.out.2.2 (h1.mono F0.out.2.2.size))));have C1:=ZlN N b S _ i p1 hN HW.out;clear h1 p1 WD)
  | (go_at_call 294;(with_reducible refine C1.mono ?_);rintro e w2 h1;rcases h1.ways with ⟨a,j,h',e1,rfl,g,p,rfl⟩ | ⟨x,j1,v,e1,rfl,g,hj1,p,r,rfl,ho⟩;exact ⟨rfl,Post.err (e1) (Zaa F1.out.2.2 g (.inl rfl)) p⟩;have hbb:=HP.out.lt;have F2:=hid (And.intro p (And.intro (Zaa F1.out.2.2 g (.inl rfl)) (And.intro (F1.out.2.1.kept g (by simp;omega)) (And.intro (ho.weak F1.out.2.1.lt) e1))));clear h1 e1 g p ho C1)
  | (refine Zah F2.out.2.2.1 rfl 24 _ _ rfl (nd5 x.k x.t x.n x.a r) rfl rfl inf24 rfl (by have h1:=F2.out.2.2.2.1.one;simp [nd5,h1];exact ⟨rfl,rfl,rfl,rfl⟩) ?_;intro w3 h1 h2;have F3:=hid (And.intro h1 h2);clear h1 h2))
 refine ret24 results270 F3.out.1
  (Post.ok (j:=j1) (x:=x) (F2.out.2.2.2.2) (Zaa F2.out.2.1 F3.out.2 (.inr fun j e=>by injection e with e;omega)) (F2.out.1.kept F3.out.2 hbb) hj1 ⟨r,rfl,(F2.out.2.2.2.1.grown F3.out.2 (by omega)).weak (by omega)⟩)
theorem ZqU (N b:Nat) (S:Pg) (HE:∀h,Does N 138 b S h (single (lim (.expr h)))) (w:World) (i:Nat) (hp:Ps w b S i false) (hN:S.toks.length≤N + i) (hw:Zag S i=S8.Zg9) :
  Calls prog 270 #[.pointer (some ⟨b,0,none⟩)] w (Post w b S i false (S8.stmt lim S.size (S.toks.drop i)) (ZaO w)):=by
 have HW:=hid hw
 have HC:=hid HE
 have HP:=hid hp
 have F0:=hid (And.intro (hp.alloc (.cells z5 24)) (And.intro (Is.fresh w 24 z5) (Zaj (r:=some b) ((Below.refl w.heap.size w).alloc (Nat.le_refl _) (.cells z5 24)))))
 have WD:=Zau b S i false _ F0.out.1
 have WD:Calls prog 60 #[.pointer (some ⟨b,0,none⟩)] (w.alloc (.cells z5 24)) fun e w'=>e=.returned (.string ⟨#[102,97,105,108]⟩)∧Below (w.alloc (.cells z5 24)).heap.size (w.alloc (.cells z5 24)) w':=by
  rw [hw] at WD;exact WD
 clear hp hw HE
 go_enter func270,ntmps270
 go_wp2_with (first
  | (go_at_call 60;(with_reducible refine WD.mono ?_);rintro e w1 ⟨rfl,h1⟩;have p1:=F0.out.1.below h1 F0.out.1.lt;have F1:=hid (And.intro p1 (And.intro (F0.out.2.1.below h1 F0.out.2.1.lt) (Zan F0.out.2.2 (h1.mono F0.out.2.2.size))));have C1:=ZmH N b S HC.out _ i p1 hN HW.out;clear h1 p1 WD)
  | (go_at_call 295;(with_reducible refine C1.mono ?_);rintro e w2 h1;rcases h1.ways with ⟨a,j,h',e1,rfl,g,p,rfl⟩ | ⟨x,j1,v,e1,rfl,g,hj1,p,r,rfl,ho⟩;exact ⟨rfl,Post.err (e1) (Zaa F1.out.2.2 g (.inl rfl)) p⟩;have hbb:=HP.out.lt;have F2:=hid (And.intro p (And.intro (Zaa F1.out.2.2 g (.inl rfl)) (And.intro (F1.out.2.1.kept g (by simp;omega)) (And.intro (ho.weak F1.out.2.1.lt) e1))));clear h1 e1 g p ho C1)
  | (refine Zah F2.out.2.2.1 rfl 24 _ _ rfl (nd5 x.k x.t x.n x.a r) rfl rfl inf24 rfl (by have h1:=F2.out.2.2.2.1.one;simp [nd5,h1];exact ⟨rfl,rfl,rfl,rfl⟩) ?_;intro w3 h1 h2;have F3:=hid (And.intro h1 h2);clear h1 h2))
 refine ret24 results270 F3.out.1
  (Post.ok (j:=j1) (x:=x) (F2.out.2.2.2.2) (Zaa F2.out.2.1 F3.out.2 (.inr fun j e=>by injection e with e;omega)) (F2.out.1.kept F3.out.2 hbb) hj1 ⟨r,rfl,(F2.out.2.2.2.1.grown F3.out.2 (by omega)).weak (by omega)⟩)
theorem Ztg (N b:Nat) (S:Pg) (HE:∀h,Does N 138 b S h (single (lim (.expr h)))) (w:World) (i:Nat) (hp:Ps w b S i false) (hN:S.toks.length≤N + i) (hne:∀s,s∈[S8.Zce,S8.Zd0,S8.Zfl,S8.wIf,S8.ZbR,S8.Zkt,S8.ZdS,S8.wDo,S8.Zg4,S8.Zg9]→Zag S i≠s) :
  Calls prog 270 #[.pointer (some ⟨b,0,none⟩)] w (Post w b S i false (S8.stmt lim S.size (S.toks.drop i)) (ZaO w)):=by
 have HNE:=hid hne
 have HC:=hid HE
 have HP:=hid hp
 have F0:=hid (And.intro (hp.alloc (.cells z5 24)) (And.intro (Is.fresh w 24 z5) (Zaj (r:=some b) ((Below.refl w.heap.size w).alloc (Nat.le_refl _) (.cells z5 24)))))
 have WD:=Zau b S i false _ F0.out.1
 obtain ⟨u,hu⟩:∃u,u=mk (Zag S i):=⟨_,rfl⟩
 rw [← hu] at WD
 have n0:(u.toList == [115,112,97,119,110])=false:=by rw [hu,Zas,Zbc];exact beq_eq_false_iff_ne.2 (hne S8.Zce (by simp))
 have n1:(u.toList == [115,101,110,100])=false:=by rw [hu,Zas,Zbc];exact beq_eq_false_iff_ne.2 (hne S8.Zd0 (by simp))
 have n2:(u.toList == [108,101,116])=false:=by rw [hu,Zas,Zbc];exact beq_eq_false_iff_ne.2 (hne S8.Zfl (by simp))
 have n3:(u.toList == [105,102])=false:=by rw [hu,Zas,Zbc];exact beq_eq_false_iff_ne.2 (hne S8.wIf (by simp))
 have n4:(u.toList == [109,97,116,99,104])=false:=by rw [hu,Zas,Zbc];exact beq_eq_false_iff_ne.2 (hne S8.ZbR (by simp))
 have n5:(u.toList == [102,111,114])=false:=by rw [hu,Zas,Zbc];exact beq_eq_false_iff_ne.2 (hne S8.Zkt (by simp))
 have n6:(u.toList == [97,102,116,101,114])=false:=by rw [hu,Zas,Zbc];exact beq_eq_false_iff_ne.2 (hne S8.ZdS (by simp))
 have n7:(u.toList == [100,111])=false:=by rw [hu,Zas,Zbc];exact beq_eq_false_iff_ne.2 (hne S8.wDo (by simp))
 have n8:(u.toList == [115,116,111,112])=false:=by rw [hu,Zas,Zbc];exact beq_eq_false_iff_ne.2 (hne S8.Zg4 (by simp))
 have n9:(u.toList == [102,97,105,108])=false:=by rw [hu,Zas,Zbc];exact beq_eq_false_iff_ne.2 (hne S8.Zg9 (by simp))
 clear hu
 clear hp hne HE
 go_enter func270,ntmps270
 go_wp2_with (first
  | (go_at_call 60;(with_reducible refine WD.mono ?_);rintro e w1 ⟨rfl,h1⟩;have p1:=F0.out.1.below h1 F0.out.1.lt;have F1:=hid (And.intro p1 (And.intro (F0.out.2.1.below h1 F0.out.2.1.lt) (Zan F0.out.2.2 (h1.mono F0.out.2.2.size))));have C1:=Znl N b S HC.out _ i p1 hN HNE.out;clear h1 p1 WD)
  | (go_at_call 232;(with_reducible refine C1.mono ?_);rintro e w2 h1;rcases h1.ways with ⟨a,j,h',e1,rfl,g,p,rfl⟩ | ⟨x,j1,v,e1,rfl,g,hj1,p,r,rfl,ho⟩;exact ⟨rfl,Post.err (e1) (Zaa F1.out.2.2 g (.inl rfl)) p⟩;have hbb:=HP.out.lt;have F2:=hid (And.intro p (And.intro (Zaa F1.out.2.2 g (.inl rfl)) (And.intro (F1.out.2.1.kept g (by simp;omega)) (And.intro (ho.weak F1.out.2.1.lt) e1))));clear h1 e1 g p ho C1)
  | (refine Zah F2.out.2.2.1 rfl 24 _ _ rfl (nd5 x.k x.t x.n x.a r) rfl rfl inf24 rfl (by have h1:=F2.out.2.2.2.1.one;simp [nd5,h1];exact ⟨rfl,rfl,rfl,rfl⟩) ?_;intro w3 h1 h2;have F3:=hid (And.intro h1 h2);clear h1 h2))
 refine ret24 results270 F3.out.1
  (Post.ok (j:=j1) (x:=x) (F2.out.2.2.2.2) (Zaa F2.out.2.1 F3.out.2 (.inr fun j e=>by injection e with e;omega)) (F2.out.1.kept F3.out.2 hbb) hj1 ⟨r,rfl,(F2.out.2.2.2.1.grown F3.out.2 (by omega)).weak (by omega)⟩)
open Go.RowKit L7
open S8 (lim single What)
structure Fd (w:World) (b:Nat) (S:Pg) (g0 gn g4:Nat) (W:World) (i:Nat) (h:Bool) (k:Int) (t:Bs) (n a:Int) (c:List Nd) (s:Value) (k4:Int) (t4:Bs) (a4:Int):Prop where
 laid ::
 f:Fm w b S g0 gn W i h k t n a s
 row:OwnX W (gn + 1) g4 c s
 nd4:Is W g4 24 #[.int .i64 k4,.string (mk t4),.int .i64 0,.int .i64 a4,.slice none 0 0]
 h4:gn < g4
section
variable {w W W':World} {b g0 gn g4 i:Nat} {S:Pg} {h:Bool} {k:Int} {t:Bs} {n a:Int} {c:List Nd} {s:Value} {k4:Int} {t4:Bs} {a4:Int}
theorem Fd.start (F:Fn w b S g0 gn W i h k t n a c s) (g:Below W.heap.size W W') (k4:Int) (a4:Int):Fd w b S g0 gn W'.heap.size (W'.alloc (.cells #[.int .i64 k4,.string ⟨#[]⟩,.int .i64 0,.int .i64 a4,.slice none 0 0] 24)) i h k t n a c s k4 [] a4:=by
 have hs:=F.size
 have hz:=g.size
 have F1:=(F.look g).look ((Below.refl _ _).alloc (Nat.le_refl _) (.cells #[.int .i64 k4,.string ⟨#[]⟩,.int .i64 0,.int .i64 a4,.slice none 0 0] 24))
 refine ⟨⟨F1.ps,F1.fr,F1.r0,F1.nd,F1.h0,F1.hn,F1.hb⟩,?_,Is.fresh W' 24 _,by omega⟩
 have hst:∀z,z < W.heap.size→(W'.alloc (.cells #[.int .i64 k4,.string ⟨#[]⟩,.int .i64 0,.int .i64 a4,.slice none 0 0] 24)).heap[z]?=W.heap[z]?:=fun z hz'=>(Below.heap_alloc W' _ z (by omega)).trans (g.block z hz')
 obtain ⟨xs,h1,h2⟩:=F.row
 refine ⟨xs,⟨h1.1,?_⟩,fun e=>by have:=(h1.lt _ e).2;omega,ZbB (fun z hz' hl=>⟨⟨hz'.1,by omega⟩,hz'.2⟩) (fun z _ hl=>hst z hl) h2⟩
 rcases h1.2 with h | ⟨z,cap,cur,e,hbg,hh,h⟩
 ·exact .inl h
 ·exact .inr ⟨z,cap,cur,e,hbg,(hst z (h1.lt z (by rw [e];rfl)).2).trans hh,h⟩
theorem Fm.call (F:Fm w b S g0 gn W i h k t n a s) (g:W.grownBy W' (some b)) {j:Nat} {h':Bool} (p:Ps W' b S j h'):Fm w b S g0 gn W' j h' k t n a s:=
 have h1:=F.h0;have h2:=F.hn;have h3:=F.hb
 ⟨p,Zaa F.fr g (.inl rfl),F.r0.kept g (by simp;omega),F.nd.kept g (by simp;omega),h1,h2,h3⟩
theorem Fm.past (F:Fm w b S g0 gn W i h k t n a s) {g:Nat} (k':W.grownBy W' (some g)) (hg:gn < g):Fm w b S g0 gn W' i h k t n a s:=
 have h1:=F.h0;have h2:=F.hn;have h3:=F.hb
 ⟨F.ps.kept k' (by omega),Zaa F.fr k' (.inr fun j e=>by injection e with e;omega),F.r0.kept k' (by simp;omega),F.nd.kept k' (by simp;omega),h1,h2,h3⟩
theorem Fm.look (F:Fm w b S g0 gn W i h k t n a s) (g:Below W.heap.size W W'):Fm w b S g0 gn W' i h k t n a s:=
 ⟨F.ps.below g F.ps.lt,Zan F.fr (g.mono F.fr.size),F.r0.below g F.r0.lt,F.nd.below g F.nd.lt,F.h0,F.hn,F.hb⟩
theorem Fd.call (F:Fd w b S g0 gn g4 W i h k t n a c s k4 t4 a4) (g:W.grownBy W' (some b)) {j:Nat} {h':Bool} (p:Ps W' b S j h'):Fd w b S g0 gn g4 W' j h' k t n a c s k4 t4 a4:=
 have h1:=F.f.h0;have h2:=F.f.hn;have h3:=F.f.hb;have h4:=F.h4
 ⟨F.f.call g p,F.row.grown g (.inl (by omega)),F.nd4.kept g (by simp;omega),h4⟩
theorem Fd.text (F:Fd w b S g0 gn g4 W i h k t n a c s k4 t4 a4) (g:W.grownBy W' (some g4)) {t':Bs} (hI:Is W' g4 24 #[.int .i64 k4,.string (mk t'),.int .i64 0,.int .i64 a4,.slice none 0 0]):Fd w b S g0 gn g4 W' i h k t n a c s k4 t' a4:=
 ⟨F.f.past g F.h4,F.row.grown g (.inr rfl),hI,F.h4⟩
theorem Fd.look (F:Fd w b S g0 gn g4 W i h k t n a c s k4 t4 a4) (g:Below W.heap.size W W'):Fd w b S g0 gn g4 W' i h k t n a c s k4 t4 a4:=
 ⟨F.f.look g,F.row.stay fun z _ _ hl=>g.block z hl,F.nd4.below g F.nd4.lt,F.h4⟩
end
section
variable {ops:Array Oper} {rest:List Oper} {o:Oper} {act:Act} {Q:Exit→Act→World→Prop}
variable {w W:World} {b g0 gn g4 i:Nat} {S:Pg} {h:Bool} {k:Int} {t:Bs} {n a:Int} {c:List Nd} {s:Value} {k4:Int} {t4:Bs} {a4:Int}
theorem Zjb (F:Fd w b S g0 gn g4 W i h k t n a c s k4 t4 a4) (t':Bs) (hgd:o.guard=none) (x y:Operand) (ho:o.op=.store 9 x y) (hx:act.eval x=.pointer (some ⟨g4,1,none⟩)) (hy:act.eval y=.string (mk t'))
  (hK:∀W',Fd w b S g0 gn g4 W' i h k t n a c s k4 t' a4→wpList prog ops Q rest (act.put o.dst undef) W'):wpList prog ops Q (o::rest) act W:=
 Zc4 F.nd4 (j:=1) (show 1 < 5 by decide) hgd 9 x y ho _ hx hy inf9 rfl fun _ h1 h2=>hK _ (F.text h2 h1)
theorem Zjw (F:Fd w b S g0 gn g4 W i h k t n a c s k4 t4 a4) (hgd:o.guard=none) (x:Operand) (ho:o.op=.load 24 x) (hx:act.eval x=.pointer (some ⟨g4,0,none⟩))
  (hK:wpList prog ops Q rest (act.put o.dst (.agg (nd5 k4 t4 0 a4 (.slice none 0 0)))) W):wpList prog ops Q (o::rest) act W:=
 wpList_load_row hgd 24 x ho g4 hx 24 _ (0,0) _ F.nd4 underlying24 rfl inf24 hK
theorem Zrj (F:Fd w b S g0 gn g4 W i h k t n a c s k4 t4 a4) (hlen:c.length≤100000) (hgd:o.guard=none) (p q:Operand) (ho:o.op=.call { callee:=.builtin .append,args:=#[p,q],argTypes:=#[22,22] }) (hs:act.eval p=s) (hx:act.eval q=.slice (some ⟨W.heap.size,0,none⟩) 1 1)
  (hK:∀v' W',Fm w b S g0 gn W' i h k t n a s→OwnRow W' (gn + 1) (c++[.mk k4 t4 0 a4 []]) v'→wpList prog ops Q rest (act.put o.dst v') W'):wpList prog ops Q (o::rest) act (W.alloc (.cells #[.int .i64 k4,.string (mk t4),.int .i64 0,.int .i64 a4,.slice none 0 0] 24)):=by
 have F1:=F.look ((Below.refl _ _).alloc (Nat.le_refl _) (.cells #[.int .i64 k4,.string (mk t4),.int .i64 0,.int .i64 a4,.slice none 0 0] 24))
 have h4:=F.h4
 have hlt:=F1.nd4.lt
 refine ZgO (base:=gn + 1) (gn:=g4) (g:=W.heap.size) (c:=c) (x:=.mk k4 t4 0 a4 []) (r:=.slice none 0 0) F1.row (Is.fresh W 24 _) ?_ hlen ⟨by omega,hlt⟩ hgd p q ho hs hx ?_
 ·rw [ZgA]
  exact ⟨none,0,rfl,Nat.le_refl _,by show Kids _ _ [] _ _;simp only [Kids]⟩
 ·intro v' W' h1 ⟨g,hg,hg1,hg2⟩
  exact hK v' W' (F1.f.past hg (by omega)) h1.own
end
def ZsT:S8.P (Bs × Int):=do
 let a ← S8.here
 let u ← S8.up
 pure (u,a)
theorem Zkv (S:Pg) (i:Nat):ZsT S.size (S.toks.drop i)=match S8.up S.size (S.toks.drop i) with | .out=>.out | .err a=>.err a | .ok u r=>.ok (u,place S i) r:=by
 unfold ZsT
 refine ZaN ?_ (fun hl=>by rw [ZqG hl])
 rw [S8.Zac]
 cases S8.up S.size (S.toks.drop i) <;> rfl
theorem Zqd (N b:Nat) (S:Pg) (HE:∀h,Does N 138 b S h (single (lim (.expr h)))) (w:World) (i:Nat) (hp:Ps w b S i false) (hN:S.toks.length≤N + i) (hw:Zag S i=S8.wDo) :
  Calls prog 293 #[.pointer (some ⟨b,0,none⟩)] w (Post w b S i false (S8.stmt lim S.size (S.toks.drop i)) (ZaO w)):=by
 have HM:Hid (∀R,(do let t ← S8.low;let l ← S8.list lim S8.mLp .expr S8.mRp;let _ ← S8.must S8.Zit;let q ← ZsT;pure (.mk 59 t 0 (place S i) (l++[.mk 75 q.1 0 q.2 []])):S8.P Nd) S.size (S.toks.drop (i + 1))=R→S8.stmt lim S.size (S.toks.drop i)=R):=hid (by
  intro R h1
  rw [← h1]
  unfold S8.stmt
  refine ZaN ?_ (fun hl=>absurd (ZaL (S:=S) (i:=i) (by rw [hw];decide)) (by omega))
  simp (decide:=true) only [S8.Zac,S8.Zae,Zaf S i (show S8.Zce≠[] by decide),Zaf S i (show S8.Zd0≠[] by decide),Zaf S i (show S8.Zfl≠[] by decide),Zaf S i (show S8.wIf≠[] by decide),Zaf S i (show S8.ZbR≠[] by decide),Zaf S i (show S8.Zkt≠[] by decide),Zaf S i (show S8.ZdS≠[] by decide),Zaf S i (show S8.wDo≠[] by decide),hw,if_true,if_false,Zay S i (show S8.wDo≠[] by decide)]
  cases S8.low S.size (S.toks.drop (i + 1)) with
  | out=>rfl
  | err a=>rfl
  | ok t r=>
   simp only
   cases S8.list lim S8.mLp What.expr S8.mRp S.size r with
   | out=>rfl
   | err a=>rfl
   | ok l r=>
    simp only
    cases S8.must S8.Zit S.size r with
    | out=>rfl
    | err a=>rfl
    | ok z r=>
     simp only
     unfold ZsT
     simp only [S8.Zac]
     cases S8.here S.size r with
     | out=>rfl
     | err a=>rfl
     | ok a2 r=>
      simp only
      cases S8.up S.size r <;> rfl)
 have HC1:Hid (Does N 138 b S false (single (lim (.one .expr)))):=hid (by rw [Zfc];exact HE false)
 clear HE
 have HP:=hid hp
 have HW:=hid hw
 clear hw
 have B0:=ZaH b S i false _ (hp.alloc (.cells z5 24)) 59
 obtain ⟨pl,hpl⟩:∃pl,pl=place S i:=⟨_,rfl⟩
 rw [← hpl] at HM B0
 have HPL:=hid hpl
 have hle:=hp.le
 clear hp hpl
 go_enter func293,ntmps293
 go_wp2_with (first
  | (go_at_call 123;(with_reducible refine B0.mono ?_);rintro e w1 ⟨rfl,h1⟩;have F1:=hid (Fn.start HP.out h1 59 0 pl);clear h1;have C1:=Za6 b S i false _ F1.out.ps ⟨#[100,111]⟩ HW.out (by decide))
  | (go_at_call 119;(with_reducible refine C1.mono ?_);rintro e w2 ⟨rfl,p,g⟩;have F2:=hid (F1.out.call g p);clear g p C1;have C2:=Zcz b S (i + 1) false _ F2.out.ps)
  | (go_at_call 136;(with_reducible refine C2.mono ?_);rintro e w3 h1;rcases h1.ways with ⟨a,j,h',e1,rfl,g,p,rfl⟩ | ⟨t,j3,v,e1,rfl,g,hj3,p,rfl⟩;exact ⟨rfl,Post.err (HM.out _ (by simp only [S8.Zac,e1])) (Zaa F2.out.fr g (.inl rfl)) p⟩;have F3:=hid (F2.out.call g p);have E3:=hid e1;have hl3:=ZaT S8.Za5 e1;clear h1 e1 g p C2)
  | (refine Zbk F3.out t rfl _ _ rfl rfl rfl ?_;intro w4 h1;have F4:=hid h1;clear h1;have C3:=ZeV N b S false HC1.out _ j3 F4.out.ps (by omega))
  | (go_at_call 189;(with_reducible refine C3.mono ?_);rintro e w5 h1;rcases h1.ways with ⟨a,j,h',e1,rfl,g,p,rfl⟩ | ⟨l,j5,v5,e1,rfl,g,hj5,p,ho,hc5⟩;exact ⟨rfl,Post.err (HM.out _ (by simp only [S8.Zac,E3.out,e1])) (Zaa F4.out.fr g (.inl rfl)) p⟩;have F5:=hid (F4.out.call g p);have G5:=hid ho;have E5:=hid e1;have Q5:=hid g.size;clear h1 e1 g p ho C3)
  | (refine Za7 F5.out (G5.out.weak F4.out.size) rfl _ _ rfl rfl rfl ?_;intro w6 h1;have F6:=hid h1;clear h1;have C4:Calls prog 119 #[.pointer (some ⟨b,0,none⟩),.string ⟨#[116,104,101,110]⟩] _ (Post _ b S j5 false (S8.must S8.Zit S.size (S.toks.drop j5)) fun _ v _=>v=.tuple #[]):=Zbd b S j5 false _ F6.out.ps ⟨#[116,104,101,110]⟩ (by decide))
  | (go_at_call 119;(with_reducible refine C4.mono ?_);rintro e w7 h1;rcases h1.ways with ⟨a,j,h',e1,rfl,g,p,rfl⟩ | ⟨u7,j7,v,e1,rfl,g,hj7,p,rfl⟩;exact ⟨rfl,Post.err (HM.out _ (by simp only [S8.Zac,E3.out,E5.out,e1])) (Zaa F6.out.fr g (.inl rfl)) p⟩;have F7:=hid (F6.out.call g p);have E7:=hid e1;have hl7:=ZaT (S8.Zal _) e1;clear h1 e1 g p C4;have C5:=ZaH b S j7 false _ F7.out.ps 75)
  | (go_at_call 123;(with_reducible refine C5.mono ?_);rintro e w8 ⟨rfl,h1⟩;have F8:=hid (Fd.start F7.out h1 75 (place S j7));clear h1 C5;have C6:=ZbO b S j7 false _ F8.out.f.ps)
  | (go_at_call 124;(with_reducible refine C6.mono ?_);rintro e w9 h1;rcases h1.ways with ⟨a,j,h',e1,rfl,g,p,rfl⟩ | ⟨u,j9,v,e1,rfl,g,hj9,p,rfl⟩;exact ⟨rfl,Post.err (HM.out _ (by simp only [S8.Zac,E3.out,E5.out,E7.out,Zkv,e1])) (Zaa F8.out.f.fr g (.inl rfl)) p⟩;have F9:=hid (F8.out.call g p);have E9:=hid e1;have hl9:=ZaT S8.Zbj e1;clear h1 e1 g p C6)
  | (refine Zjb F9.out u rfl _ _ rfl rfl rfl ?_;intro w10 h1;have F10:=hid h1;have d10:=h1.f.nd.at_ 4;have z10:=h1.f.nd.open_ 4;clear h1)
  | (refine Zjw F10.out rfl _ rfl rfl ?_)
  | (at_builtin;refine Zrj F10.out (by omega) rfl _ _ rfl rfl rfl ?_;intro v11 w11 h1 h2;have F11:=hid (And.intro h1 h2);clear h1 h2)
  | (refine ZbX F11.out.1 F11.out.2 rfl _ _ rfl rfl rfl ?_;intro w12 h1;have F12:=hid h1;clear h1)
  | (refine Zax F12.out rfl _ rfl rfl ?_)
  | (refine Zaw F12.out rfl _ _ rfl rfl rfl ?_;intro w13 h1 h2 h3 h4;have F13:=hid (And.intro h1 (And.intro h2 (And.intro h3 h4)));clear h1 h2 h3 h4))
 refine ret24 results293 F13.out.1
  (Post.ok (j:=j9) (HM.out _ (by (try simp only [S8.Zac,E3.out,E5.out,E7.out]);simp only [Zkv,E9.out];rfl)) F13.out.2.1 F13.out.2.2.1 (by omega) F13.out.2.2.2)
open Go.RowKit L7
open S8 (lim single What)
theorem OwnRow.apart {w:World} {gn:Nat} {c:List Nd} {s:Value} (h:OwnRow w (gn + 1) c s):OwnX w (gn + 1) gn c s:=by
 have hlt:=fun g (hg:s.ownBlock=some g)=>h.lt hg
 obtain ⟨xs,h1,h2⟩:=h
 exact ⟨xs,h1,fun e=>by have:=(hlt _ e).1;omega,ZbB (fun g hg _=>⟨⟨hg.1,by omega⟩,hg.2⟩) (fun _ _ _=>rfl) h2⟩
theorem ZcL {w W:World} {o:Obj} {r:Option Nat} (h:(w.alloc o).grownBy W r):w.grownBy W r:=Zaa (Zaj ((Below.refl _ _).alloc (Nat.le_refl _) _)) h (.inl rfl)
abbrev bnd (bt:Bs) (a2:Int):Nd:=.mk 40 bt 0 a2 []
theorem Zpp {w:World} {gn:Nat} (bt:Bs) (a2:Int) (hb:gn + 1≤w.heap.size):OwnX (w.alloc (.cells #[.int .i64 40,.string (mk bt),.int .i64 0,.int .i64 a2,.slice none 0 0] 24)) (gn + 1) gn [bnd bt a2] (.slice (some ⟨w.heap.size,0,none⟩) 1 1):=
 OwnX.single (x:=bnd bt a2) (s:=.slice none 0 0) (OwnRow.nil w (gn + 1)).apart hb (by omega)
theorem Fn.turn2 {w W W':World} {b g0 gn i:Nat} {S:Pg} {h:Bool} {k:Int} {t:Bs} {n a:Int} {c:List Nd} {s:Value} (F:Fn w b S g0 gn W i h k t n a c s) {g:Nat} (k':W.grownBy W' (some g)) (hg:gn + 1≤g):Fm w b S g0 gn W' i h k t n a s:=
 Fm.past ⟨F.ps,F.fr,F.r0,F.nd,F.h0,F.hn,F.hb⟩ k' hg
theorem ZlR (N b:Nat) (S:Pg) (bt:Bs) (a0 a2:Int) (HE:∀h,Does N 138 b S h (single (lim (.expr h)))) (w:World) (i:Nat) (hp:Ps w b S i false) (hN:S.toks.length≤N + i) :
  Calls prog 287 #[.pointer (some ⟨b,0,none⟩),.int .i64 a0,.agg (nd5 40 bt 0 a2 (.slice none 0 0))] w (Post w b S i false ((S8.spawn lim a0 (bnd bt a2)) S.size (S.toks.drop i)) (ZaO w)):=by
 have HM:Hid (∀R,(do let _ ← S8.must S8.Zce;let t ← S8.up;let l ← S8.list lim S8.mLp .expr S8.mRp;if ← S8.ZaC S8.wOn then do { let _ ← S8.must S8.wOn;let e ← single (lim (.expr false));pure (.mk 58 t 1 a0 (bnd bt a2::l++[e])) } else pure (.mk 58 t 0 a0 (bnd bt a2::l)):S8.P Nd) S.size (S.toks.drop i)=R→(S8.spawn lim a0 (bnd bt a2)) S.size (S.toks.drop i)=R):=hid (by
  intro R h1
  exact h1)
 have HC:=hid (HE false)
 have HC1:Hid (Does N 138 b S false (single (lim (.one .expr)))):=hid (by rw [Zfc];exact HE false)
 clear HE
 have HP:=hid hp
 have F0:Hid (Fn (w.alloc (.cells #[.int .i64 40,.string (mk bt),.int .i64 0,.int .i64 a2,.slice none 0 0] 24)) b S (w.heap.size + 1) (w.heap.size + 1 + 1) (((w.alloc (.cells #[.int .i64 40,.string (mk bt),.int .i64 0,.int .i64 a2,.slice none 0 0] 24)).alloc (.cells z5 24)).alloc (.cells #[.int .i64 58,.string ⟨#[]⟩,.int .i64 0,.int .i64 a0,.slice none 0 0] 24)) i false 58 [] 0 a0 [] (.slice none 0 0)):=hid (by
  have h1:=Fn.start (hp.alloc (.cells #[.int .i64 40,.string (mk bt),.int .i64 0,.int .i64 a2,.slice none 0 0] 24)) (Below.refl _ _) 58 0 a0
  simpa using h1)
 have HIn:=hid (Is.fresh w 24 (nd5 40 bt 0 a2 (.slice none 0 0)))
 have hbb:=hp.lt
 have hle:=hp.le
 clear hp
 go_enter func287,ntmps287
 have C1:Calls prog 119 #[.pointer (some ⟨b,0,none⟩),.string ⟨#[115,112,97,119,110]⟩] _ (Post _ b S i false (S8.must S8.Zce S.size (S.toks.drop i)) fun _ v _=>v=.tuple #[]):=Zbd b S i false _ F0.out.ps ⟨#[115,112,97,119,110]⟩ (by decide)
 go_wp2_with (first
  | (go_at_call 119;(with_reducible refine C1.mono ?_);rintro e w1 h1;rcases h1.ways with ⟨a,j,h',e1,rfl,g,p,rfl⟩ | ⟨u1,j1,v,e1,rfl,g,hj1,p,rfl⟩;exact ⟨rfl,Post.err (HM.out _ (by simp only [S8.Zac,e1])) (Zaa (ZcL F0.out.fr) g (.inl rfl)) p⟩;have F1:=hid (F0.out.call g p);have E1:=hid e1;have hl1:=ZaT (S8.Zal _) e1;clear h1 e1 g p C1;have C2:=ZbO b S j1 false _ F1.out.ps)
  | (go_at_call 124;(with_reducible refine C2.mono ?_);rintro e w2 h1;rcases h1.ways with ⟨a,j,h',e1,rfl,g,p,rfl⟩ | ⟨t,j2,v,e1,rfl,g,hj2,p,rfl⟩;exact ⟨rfl,Post.err (HM.out _ (by simp only [S8.Zac,E1.out,e1])) (Zaa (ZcL F1.out.fr) g (.inl rfl)) p⟩;have F2:=hid (F1.out.call g p);have E2:=hid e1;have hl2:=ZaT S8.Zbj e1;clear h1 e1 g p C2)
  | (refine Zbk F2.out t rfl _ _ rfl rfl rfl ?_;intro w3 h1;have F3:=hid h1;clear h1))
 refine ZfN (fun W=>Is W w.heap.size 24 (nd5 40 bt 0 a2 (.slice none 0 0))) (fun k=>decide (k < 4)) [0,2] 1 3 [4,5,6] (by kernel_rfl) (by kernel_rfl) (fun c a a' W hd hq=>⟨hd▸hq.1,hq.2⟩) (show Is w3 w.heap.size 24 (nd5 40 bt 0 a2 (.slice none 0 0)) from HIn.out.kept F3.out.fr (show some w.heap.size≠some b from fun e=>by injection e with e;omega)) ?_
 refine Zab (.agg (nd5 40 bt 0 a2 (.slice none 0 0))) rfl (by rfl) (fun W hS=>Zgy rfl rfl rfl W hS) ?_
 refine fs (.pointer (some ⟨b,0,none⟩)) rfl ?_
 have FF:=F3
 refine ZhL ?_ ?_
 ·refine cs rfl fun K9 HK9=>?_
  go_wp2_with fail
  have R5:=hid ((Zpp bt a2 FF.out.size).drew)
  have F50:=hid (FF.out.look ((Below.refl _ _).alloc (Nat.le_refl _) (.cells #[.int .i64 40,.string (mk bt),.int .i64 0,.int .i64 a2,.slice none 0 0] 24)).drew)
  refine HK9.out _ _ (fun _=>HIn.out.kept F50.out.fr (show some w.heap.size≠some b from fun e=>by injection e with e;omega)) ?_
  have C50:=ZeV N b S false HC1.out _ j2 F50.out.ps (by omega)
  refine cs rfl fun K9 HK9=>?_
  go_wp2_with (go_at_call 189;(with_reducible refine C50.mono ?_);rintro e w51 h1;rcases h1.ways with ⟨a,j,h',e1,rfl,g,p,rfl⟩ | ⟨l,j51,v51,e1,rfl,g,hj51,p,ho,hc51⟩;exact ⟨rfl,Post.err (HM.out _ (by simp only [S8.Zac,E1.out,E2.out,e1])) (Zaa (ZcL F50.out.fr) g (.inl rfl)) p⟩;have F51:=hid (F50.out.call g p);have G51:=hid ho;have E51:=hid e1;have R51:=hid (R5.out.grown g (.inl (by omega)));clear h1 e1 g p ho C50)
  refine HK9.out _ _ (fun _=>HIn.out.kept F51.out.fr (show some w.heap.size≠some b from fun e=>by injection e with e;omega)) ?_
  refine cs rfl fun K9 HK9=>?_
  refine Zfs (base:=(w.heap.size + 1 + 1) + 1) (gn:=(w.heap.size + 1 + 1)) R51.out G51.out ?le (fun _ _=>rfl) ?own ?len ⟨F51.out.size,by have:=F51.out.size;omega⟩ rfl (.tmp 16) (.tmp 18) rfl rfl rfl ?_
  case le=>exact ⟨F50.out.size,by have:=F50.out.size;omega⟩
  case own=>exact fun z hz=>.inl (by have hz2:some _=some z:=hz;injection hz2 with hz2;subst hz2;simp)
  case len=>simp;omega
  intro v53 w53 h1 ⟨z53,h2,h3,h4⟩
  have F53:=hid (And.intro ((F51.out).turn2 h2 h3) h1.own)
  clear h1 h2 h3 h4
  refine HK9.out _ _ (fun h=>by cases h) ?_
  refine cs rfl fun K9 HK9=>?_
  go_wp2_with fail
  refine HK9.out _ _ (fun h=>by cases h) ?_
  refine cs rfl fun K9 HK9=>?_
  refine ZbX F53.out.1 F53.out.2 rfl _ _ rfl rfl rfl ?_
  intro w54 h1
  have F54:=hid h1
  clear h1
  refine HK9.out _ _ (fun h=>by cases h) ?_
  refine Zam ?_
  by_cases hz60:Zag S j51=S8.wOn
  ·have EP60:Hid (S8.ZaC S8.wOn S.size (S.toks.drop j51)=.ok true (S.toks.drop j51)):=hid (by rw [Zaf S j51 (by decide),decide_eq_true hz60])
   have hls60:=ZaL (S:=S) (i:=j51) (by rw [hz60];decide)
   have EM60:Hid (S8.must S8.wOn S.size (S.toks.drop j51)=.ok (ZaK S j51) (S.toks.drop (j51 + 1))):=hid (by rw [Zay S j51 (by decide),if_pos hz60])
   have C60:=ZcR b S j51 false _ F54.out.ps ⟨#[111,110]⟩ hz60 (by decide)
   clear hz60
   go_wp2_with (first
    | (go_at_call 186;(with_reducible refine C60.mono ?_);rintro e w61 ⟨rfl,p,g⟩;have F61:=hid (F54.out.call g p);clear g p C60)
    | (refine Zh4 F61.out 1 rfl _ _ rfl rfl rfl ?_;intro w62 h1;have F62:=hid h1;clear h1))
   have U9:=F62.out.nd.at_ 4
   refine r2 (fun W=>W.cell? ⟨(w.heap.size + 1 + 1),4,none⟩=some (v53)) (fun j=>decide (j < 6)) [0,1,2] [3,4,5,6,7] U9 ?_
   refine fs (.pointer (some ⟨(w.heap.size + 1 + 1),4,none⟩)) rfl ?_
   refine fs (v53) rfl ?_
   refine fs (.pointer (some ⟨b,0,none⟩)) rfl ?_
   refine Zap ?_
   clear U9
   have F63:=hid (F62.out.look (Below.refl _ _).drew)
   have C61:=HC.out _ (j51 + 1) F63.out.ps (by omega)
   refine cs rfl fun K9 HK9=>?_
   go_wp2_with (go_at_call 138;(with_reducible refine C61.mono ?_);rintro e w64 h1;rcases h1.ways with ⟨a,j,h',e1,rfl,g,p,rfl⟩ | ⟨x,j64,v,e1,rfl,g,hj64,p,r64,rfl,ho⟩;exact ⟨rfl,Post.err (HM.out _ (by simp only [S8.Zac,S8.Zae,if_true,E1.out,E2.out,E51.out,EP60.out,EM60.out,e1])) (Zaa (ZcL F63.out.fr) g (.inl rfl)) p⟩;have F64:=hid (And.intro (F63.out.call g p) ho);have E64:=hid e1;clear h1 e1 g p ho C61)
   refine HK9.out _ _ (fun _=>F64.out.1.nd.at_ 4) ?_
   refine cs rfl fun K9 HK9=>?_
   go_wp2_with fail
   have F65:=hid (F64.out.1.look ((Below.refl _ _).alloc (Nat.le_refl _) (.cells (nd5 x.k x.t x.n x.a r64) 24)))
   have HI65:=hid (Is.fresh w64 24 (nd5 x.k x.t x.n x.a r64))
   refine HK9.out _ _ (fun _=>F65.out.nd.at_ 4) ?_
   refine cs rfl fun K9 HK9=>?_
   refine ZbY (base:=(w.heap.size + 1 + 1) + 1) (g:=w64.heap.size) (x:=x) (r:=r64) F65.out.row HI65.out ?kid ?len ?hb rfl (.tmp 25) (.tmp 28) rfl rfl rfl ?_
   case kid=>exact ZbZ F63.out.row F64.out.2 (fun g hg=>Below.heap_alloc w64 _ g hg) F63.out.size
   case len=>simp;omega
   case hb=>exact F65.out.size
   intro v66 w66 h1 h2
   have F66:=hid (And.intro (F65.out.turn h2) h1)
   clear h1 h2
   refine HK9.out _ _ (fun _=>F66.out.1.nd.at_ 4) ?_
   refine cs rfl fun K9 HK9=>?_
   go_wp2_with fail
   refine HK9.out _ _ (fun h=>by cases h) ?_
   refine cs rfl fun K9 HK9=>?_
   refine ZbX F66.out.1 F66.out.2 rfl _ _ rfl rfl rfl ?_
   intro w67 h1
   have F67:=hid h1
   clear h1
   refine HK9.out _ _ (fun h=>by cases h) ?_
   refine Zam ?_
   go_wp2_with (first
    | (refine Zax F67.out rfl _ rfl rfl ?_)
    | (refine Zaw F67.out rfl _ _ rfl rfl rfl ?_;intro w68 h1 h2 h3 h4;have F68:=hid (And.intro h1 (And.intro h2 (And.intro h3 h4)));clear h1 h2 h3 h4))
   refine bodyPost_ret (v:=.agg (nd5 58 t 1 a0 (v66))) (results_cell_row results287 _ _ (w.heap.size + 1) 24 _ (0,0) _ rfl F68.out.1 underlying24 rfl inf24) rfl
    (Post.ok (j:=j64) (HM.out _ (by (try simp only [S8.Zac,S8.Zae,if_true,E1.out,E2.out,E51.out,EP60.out,EM60.out,E64.out]);rfl)) (ZcL F68.out.2.1) F68.out.2.2.1 (by omega) (F68.out.2.2.2.weak (by simp)))
  ·have EP60:Hid (S8.ZaC S8.wOn S.size (S.toks.drop j51)=.ok false (S.toks.drop j51)):=hid (by rw [Zaf S j51 (by decide),decide_eq_false hz60])
   have C60:=ZdC b S j51 false _ F54.out.ps ⟨#[111,110]⟩ hz60
   clear hz60
   go_wp2_with (first
    | (go_at_call 186;(with_reducible refine C60.mono ?_);rintro e w61 ⟨rfl,p,g⟩;have F61:=hid (F54.out.call g p);clear g p C60)
    | (refine Zax F61.out rfl _ rfl rfl ?_)
    | (refine Zaw F61.out rfl _ _ rfl rfl rfl ?_;intro w62 h1 h2 h3 h4;have F62:=hid (And.intro h1 (And.intro h2 (And.intro h3 h4)));clear h1 h2 h3 h4))
   refine bodyPost_ret (v:=.agg (nd5 58 t 0 a0 (v53))) (results_cell_row results287 _ _ (w.heap.size + 1) 24 _ (0,0) _ rfl F62.out.1 underlying24 rfl inf24) rfl
    (Post.ok (j:=j51) (HM.out _ (by (try simp only [S8.Zac,S8.Zae,if_false,Bool.false_eq_true,E1.out,E2.out,E51.out,EP60.out]);rfl)) (ZcL F62.out.2.1) F62.out.2.2.1 (by omega) (F62.out.2.2.2.weak (by simp)))
 ·have F50:=hid (FF.out.look (Below.refl _ _).drew)
  have C50:=ZeV N b S false HC1.out _ j2 F50.out.ps (by omega)
  refine cs rfl fun K9 HK9=>?_
  go_wp2_with (go_at_call 189;(with_reducible refine C50.mono ?_);rintro e w51 h1;rcases h1.ways with ⟨a,j,h',e1,rfl,g,p,rfl⟩ | ⟨l,j51,v51,e1,rfl,g,hj51,p,ho,hc51⟩;exact ⟨rfl,Post.err (HM.out _ (by simp only [S8.Zac,E1.out,E2.out,e1])) (Zaa (ZcL F50.out.fr) g (.inl rfl)) p⟩;have F51:=hid (F50.out.call g p);have G51:=hid ho;have E51:=hid e1;clear h1 e1 g p ho C50)
  refine HK9.out _ _ (fun _=>HIn.out.kept F51.out.fr (show some w.heap.size≠some b from fun e=>by injection e with e;omega)) ?_
  refine cs rfl fun K9 HK9=>?_
  go_wp2_with fail
  have R52:=hid (Zpp bt a2 F51.out.size)
  have F52:=hid (F51.out.look ((Below.refl _ _).alloc (Nat.le_refl _) (.cells #[.int .i64 40,.string (mk bt),.int .i64 0,.int .i64 a2,.slice none 0 0] 24)))
  refine HK9.out _ _ (fun _=>HIn.out.kept F52.out.fr (show some w.heap.size≠some b from fun e=>by injection e with e;omega)) ?_
  refine cs rfl fun K9 HK9=>?_
  refine Zfs (base:=(w.heap.size + 1 + 1) + 1) (gn:=(w.heap.size + 1 + 1)) R52.out G51.out ?le (fun z hz=>Below.heap_alloc w51 _ z hz) ?own ?len ⟨F52.out.size,by have:=F52.out.size;omega⟩ rfl (.tmp 16) (.tmp 18) rfl rfl rfl ?_
  case le=>exact ⟨F50.out.size,by have:=F50.out.size;omega⟩
  case own=>exact fun z hz=>.inr (by have hz2:some _=some z:=hz;injection hz2 with hz2;subst hz2;exact Nat.le_refl _)
  case len=>simp;omega
  intro v53 w53 h1 ⟨z53,h2,h3,h4⟩
  have F53:=hid (And.intro ((F52.out).turn2 h2 h3) h1.own)
  clear h1 h2 h3 h4
  refine HK9.out _ _ (fun h=>by cases h) ?_
  refine cs rfl fun K9 HK9=>?_
  go_wp2_with fail
  refine HK9.out _ _ (fun h=>by cases h) ?_
  refine cs rfl fun K9 HK9=>?_
  refine ZbX F53.out.1 F53.out.2 rfl _ _ rfl rfl rfl ?_
  intro w54 h1
  have F54:=hid h1
  clear h1
  refine HK9.out _ _ (fun h=>by cases h) ?_
  refine Zam ?_
  by_cases hz60:Zag S j51=S8.wOn
  ·have EP60:Hid (S8.ZaC S8.wOn S.size (S.toks.drop j51)=.ok true (S.toks.drop j51)):=hid (by rw [Zaf S j51 (by decide),decide_eq_true hz60])
   have hls60:=ZaL (S:=S) (i:=j51) (by rw [hz60];decide)
   have EM60:Hid (S8.must S8.wOn S.size (S.toks.drop j51)=.ok (ZaK S j51) (S.toks.drop (j51 + 1))):=hid (by rw [Zay S j51 (by decide),if_pos hz60])
   have C60:=ZcR b S j51 false _ F54.out.ps ⟨#[111,110]⟩ hz60 (by decide)
   clear hz60
   go_wp2_with (first
    | (go_at_call 186;(with_reducible refine C60.mono ?_);rintro e w61 ⟨rfl,p,g⟩;have F61:=hid (F54.out.call g p);clear g p C60)
    | (refine Zh4 F61.out 1 rfl _ _ rfl rfl rfl ?_;intro w62 h1;have F62:=hid h1;clear h1))
   have U9:=F62.out.nd.at_ 4
   refine r2 (fun W=>W.cell? ⟨(w.heap.size + 1 + 1),4,none⟩=some (v53)) (fun j=>decide (j < 6)) [0,1,2] [3,4,5,6,7] U9 ?_
   refine fs (.pointer (some ⟨(w.heap.size + 1 + 1),4,none⟩)) rfl ?_
   refine fs (v53) rfl ?_
   refine fs (.pointer (some ⟨b,0,none⟩)) rfl ?_
   refine Zap ?_
   clear U9
   have F63:=hid (F62.out.look (Below.refl _ _).drew)
   have C61:=HC.out _ (j51 + 1) F63.out.ps (by omega)
   refine cs rfl fun K9 HK9=>?_
   go_wp2_with (go_at_call 138;(with_reducible refine C61.mono ?_);rintro e w64 h1;rcases h1.ways with ⟨a,j,h',e1,rfl,g,p,rfl⟩ | ⟨x,j64,v,e1,rfl,g,hj64,p,r64,rfl,ho⟩;exact ⟨rfl,Post.err (HM.out _ (by simp only [S8.Zac,S8.Zae,if_true,E1.out,E2.out,E51.out,EP60.out,EM60.out,e1])) (Zaa (ZcL F63.out.fr) g (.inl rfl)) p⟩;have F64:=hid (And.intro (F63.out.call g p) ho);have E64:=hid e1;clear h1 e1 g p ho C61)
   refine HK9.out _ _ (fun _=>F64.out.1.nd.at_ 4) ?_
   refine cs rfl fun K9 HK9=>?_
   go_wp2_with fail
   have F65:=hid (F64.out.1.look ((Below.refl _ _).alloc (Nat.le_refl _) (.cells (nd5 x.k x.t x.n x.a r64) 24)))
   have HI65:=hid (Is.fresh w64 24 (nd5 x.k x.t x.n x.a r64))
   refine HK9.out _ _ (fun _=>F65.out.nd.at_ 4) ?_
   refine cs rfl fun K9 HK9=>?_
   refine ZbY (base:=(w.heap.size + 1 + 1) + 1) (g:=w64.heap.size) (x:=x) (r:=r64) F65.out.row HI65.out ?kid ?len ?hb rfl (.tmp 25) (.tmp 28) rfl rfl rfl ?_
   case kid=>exact ZbZ F63.out.row F64.out.2 (fun g hg=>Below.heap_alloc w64 _ g hg) F63.out.size
   case len=>simp;omega
   case hb=>exact F65.out.size
   intro v66 w66 h1 h2
   have F66:=hid (And.intro (F65.out.turn h2) h1)
   clear h1 h2
   refine HK9.out _ _ (fun _=>F66.out.1.nd.at_ 4) ?_
   refine cs rfl fun K9 HK9=>?_
   go_wp2_with fail
   refine HK9.out _ _ (fun h=>by cases h) ?_
   refine cs rfl fun K9 HK9=>?_
   refine ZbX F66.out.1 F66.out.2 rfl _ _ rfl rfl rfl ?_
   intro w67 h1
   have F67:=hid h1
   clear h1
   refine HK9.out _ _ (fun h=>by cases h) ?_
   refine Zam ?_
   go_wp2_with (first
    | (refine Zax F67.out rfl _ rfl rfl ?_)
    | (refine Zaw F67.out rfl _ _ rfl rfl rfl ?_;intro w68 h1 h2 h3 h4;have F68:=hid (And.intro h1 (And.intro h2 (And.intro h3 h4)));clear h1 h2 h3 h4))
   refine bodyPost_ret (v:=.agg (nd5 58 t 1 a0 (v66))) (results_cell_row results287 _ _ (w.heap.size + 1) 24 _ (0,0) _ rfl F68.out.1 underlying24 rfl inf24) rfl
    (Post.ok (j:=j64) (HM.out _ (by (try simp only [S8.Zac,S8.Zae,if_true,E1.out,E2.out,E51.out,EP60.out,EM60.out,E64.out]);rfl)) (ZcL F68.out.2.1) F68.out.2.2.1 (by omega) (F68.out.2.2.2.weak (by simp)))
  ·have EP60:Hid (S8.ZaC S8.wOn S.size (S.toks.drop j51)=.ok false (S.toks.drop j51)):=hid (by rw [Zaf S j51 (by decide),decide_eq_false hz60])
   have C60:=ZdC b S j51 false _ F54.out.ps ⟨#[111,110]⟩ hz60
   clear hz60
   go_wp2_with (first
    | (go_at_call 186;(with_reducible refine C60.mono ?_);rintro e w61 ⟨rfl,p,g⟩;have F61:=hid (F54.out.call g p);clear g p C60)
    | (refine Zax F61.out rfl _ rfl rfl ?_)
    | (refine Zaw F61.out rfl _ _ rfl rfl rfl ?_;intro w62 h1 h2 h3 h4;have F62:=hid (And.intro h1 (And.intro h2 (And.intro h3 h4)));clear h1 h2 h3 h4))
   refine bodyPost_ret (v:=.agg (nd5 58 t 0 a0 (v53))) (results_cell_row results287 _ _ (w.heap.size + 1) 24 _ (0,0) _ rfl F62.out.1 underlying24 rfl inf24) rfl
    (Post.ok (j:=j51) (HM.out _ (by (try simp only [S8.Zac,S8.Zae,if_false,Bool.false_eq_true,E1.out,E2.out,E51.out,EP60.out]);rfl)) (ZcL F62.out.2.1) F62.out.2.2.1 (by omega) (F62.out.2.2.2.weak (by simp)))
open Go.RowKit L7
open S8 (lim single What)
def ZrN:S8.P (Bs × Int):=do
 let a ← S8.here
 let u ← S8.low
 pure (u,a)
theorem Zo4 (S:Pg) (i:Nat):ZrN S.size (S.toks.drop i)=match S8.low S.size (S.toks.drop i) with | .out=>.out | .err a=>.err a | .ok u r=>.ok (u,place S i) r:=by
 unfold ZrN
 refine ZaN ?_ (fun hl=>by rw [Zjh hl])
 rw [S8.Zac]
 cases S8.low S.size (S.toks.drop i) <;> rfl
section
variable {ops:Array Oper} {rest:List Oper} {o:Oper} {act:Act} {Q:Exit→Act→World→Prop}
variable {w W W' W0:World} {b g0 gn g4 i:Nat} {S:Pg} {h:Bool} {k:Int} {t:Bs} {n a:Int} {c:List Nd} {s:Value} {k4:Int} {t4:Bs} {a4:Int}
theorem Zrc (F:Fd w b S g0 gn g4 W i h k t n a [] (.slice none 0 0) k4 t4 a4) (t':Bs) (hgd:o.guard=none) (x y:Operand) (ho:o.op=.store 9 x y) (hx:act.eval x=.pointer (some ⟨gn,1,none⟩)) (hy:act.eval y=.string (mk t'))
  (hK:∀W',Fn w b S g0 gn W' i h k t' n a [] (.slice none 0 0)→wpList prog ops Q rest (act.put o.dst undef) W'):wpList prog ops Q (o::rest) act W:=
 Zc4 F.f.nd (j:=1) (show 1 < 5 by decide) hgd 9 x y ho _ hx hy inf9 rfl fun _ h1 h2=>hK _ (Fn.put (t:=t) (k:=k) (n:=n) (a:=a) (c:=[]) (s:=.slice none 0 0) ⟨F.f.ps,F.f.fr,F.f.r0,F.f.nd,F.f.h0,F.f.hn,F.f.hb,OwnRow.nil _ _⟩ h2 h1 (OwnRow.nil _ _))
theorem Fm.hand (F:Fm w b S g0 gn W i h k t n a s) {x:Nd} {r:Value} (ho:OwnRow W W0.heap.size x.c r) (hb:gn + 1≤W0.heap.size) (g:W.grownBy W' (some g0)) :
  w.grownBy W' (some b)∧Ps W' b S i h∧Own W' w.heap.size x (.agg #[.int .i64 x.k,.string (mk x.t),.int .i64 x.n,.int .i64 x.a,r]):=
 have h1:=F.h0;have h2:=F.hn;have h3:=F.hb
 ⟨Zaa F.fr g (.inr fun j e=>by injection e with e;omega),F.ps.kept g (by omega),r,rfl,(ho.grown g (by omega)).weak (by omega)⟩
end
theorem ZnO (N b:Nat) (S:Pg) (HE:∀h,Does N 138 b S h (single (lim (.expr h)))) (w:World) (i:Nat) (hp:Ps w b S i false) (hN:S.toks.length≤N + i) (hw:Zag S i=S8.Zfl) :
  Calls prog 286 #[.pointer (some ⟨b,0,none⟩)] w (Post w b S i false (S8.stmt lim S.size (S.toks.drop i)) (ZaO w)):=by
 have HM:Hid (∀R,(do let q ← ZrN;let _ ← S8.must S8.mEq;if ← S8.ZaC S8.Zce then S8.spawn lim (place S i) (bnd q.1 q.2) else do { let e ← single (lim (.expr false));pure (.mk 50 q.1 0 (place S i) [e]) } : S8.P Nd) S.size (S.toks.drop (i + 1))=R→S8.stmt lim S.size (S.toks.drop i)=R):=hid (by
  intro R h1
  rw [← h1]
  unfold S8.stmt
  refine ZaN ?_ (fun hl=>absurd (ZaL (S:=S) (i:=i) (by rw [hw];decide)) (by omega))
  simp (decide:=true) only [S8.Zac,S8.Zae,Zaf S i (show S8.Zce≠[] by decide),Zaf S i (show S8.Zd0≠[] by decide),Zaf S i (show S8.Zfl≠[] by decide),hw,if_true,if_false,Zay S i (show S8.Zfl≠[] by decide)]
  unfold ZrN
  simp only [S8.Zac]
  cases S8.here S.size (S.toks.drop (i + 1)) with
  | out=>rfl
  | err a=>rfl
  | ok a2 r=>
   simp only
   cases S8.low S.size r with
   | out=>rfl
   | err a=>rfl
   | ok t r=>
    simp only [S8.Zb5])
 have HC:=hid (HE false)
 have HSp:=hid (fun w i bt a0 a2 hp hN=>ZlR N b S bt a0 a2 HE w i hp hN)
 clear HE
 have HP:=hid hp
 have HW:=hid hw
 clear hw
 have B0:=ZaH b S i false _ (hp.alloc (.cells z5 24)) 50
 obtain ⟨pl,hpl⟩:∃pl,pl=place S i:=⟨_,rfl⟩
 rw [← hpl] at HM B0
 have HPL:=hid hpl
 have hle:=hp.le
 clear hp hpl
 go_enter func286,ntmps286
 go_wp2_with (first
  | (go_at_call 123;(with_reducible refine B0.mono ?_);rintro e w1 ⟨rfl,h1⟩;have F1:=hid (Fn.start HP.out h1 50 0 pl);clear h1;have C1:=Za6 b S i false _ F1.out.ps ⟨#[108,101,116]⟩ HW.out (by decide))
  | (go_at_call 119;(with_reducible refine C1.mono ?_);rintro e w2 ⟨rfl,p,g⟩;have F2:=hid (F1.out.call g p);clear g p C1;have C2:=ZaH b S (i + 1) false _ F2.out.ps 40)
  | (go_at_call 123;(with_reducible refine C2.mono ?_);rintro e w3 ⟨rfl,h1⟩;have F3:=hid (Fd.start F2.out h1 40 (place S (i + 1)));clear h1 C2;have C3:=Zcz b S (i + 1) false _ F3.out.f.ps)
  | (go_at_call 136;(with_reducible refine C3.mono ?_);rintro e w4 h1;rcases h1.ways with ⟨a,j,h',e1,rfl,g,p,rfl⟩ | ⟨u,j4,v,e1,rfl,g,hj4,p,rfl⟩;exact ⟨rfl,Post.err (HM.out _ (by simp only [S8.Zac,Zo4,e1])) (Zaa F3.out.f.fr g (.inl rfl)) p⟩;have F4:=hid (F3.out.call g p);have E4:Hid (ZrN S.size (S.toks.drop (i + 1))=.ok (u,place S (i + 1)) (S.toks.drop j4)):=hid (by rw [Zo4,e1]);have hl4:=ZaT S8.Za5 e1;clear h1 e1 g p C3)
  | (refine Zjb F4.out u rfl _ _ rfl rfl rfl ?_;intro w5 h1;have F5:=hid h1;clear h1;have C4:Calls prog 119 #[.pointer (some ⟨b,0,none⟩),.string ⟨#[61]⟩] _ (Post _ b S j4 false (S8.must S8.mEq S.size (S.toks.drop j4)) fun _ v _=>v=.tuple #[]):=Zbd b S j4 false _ F5.out.f.ps ⟨#[61]⟩ (by decide))
  | (go_at_call 119;(with_reducible refine C4.mono ?_);rintro e w6 h1;rcases h1.ways with ⟨a,j,h',e1,rfl,g,p,rfl⟩ | ⟨u6,j6,v,e1,rfl,g,hj6,p,rfl⟩;exact ⟨rfl,Post.err (HM.out _ (by simp only [S8.Zac,E4.out,e1])) (Zaa F5.out.f.fr g (.inl rfl)) p⟩;have F6:=hid (F5.out.call g p);have E6:=hid e1;have hl6:=ZaT (S8.Zal _) e1;clear h1 e1 g p C4))
 by_cases hz6:Zag S j6=S8.Zce
 ·have EP6:Hid (S8.ZaC S8.Zce S.size (S.toks.drop j6)=.ok true (S.toks.drop j6)):=hid (by rw [Zaf S j6 (by decide),hz6];rfl)
  have C5:=Zau b S j6 false _ F6.out.f.ps
  rw [hz6] at C5
  replace C5:Calls prog 60 #[.pointer (some ⟨b,0,none⟩)] _ fun e w'=>e=.returned (.string ⟨#[115,112,97,119,110]⟩)∧Below (World.heap _).size _ w':=C5
  have HZ6:=hid hz6
  clear hz6
  go_wp2_with (first
   | (go_at_call 60;(with_reducible refine C5.mono ?_);rintro e w7 ⟨rfl,h1⟩;have F7:=hid (F6.out.look h1);clear h1 C5;have d3:=F7.out.f.nd.at_ 3;have z3:=F7.out.f.nd.open_ 3)
   | (refine Zjw F7.out rfl _ rfl rfl ?_)
   | (go_at_call 287;(have C6:=HSp.out _ j6 u pl (place S (i + 1)) F7.out.f.ps (by omega));(with_reducible refine C6.mono ?_);rintro e w8 h1;rcases h1.ways with ⟨a,j,h',e1,rfl,g,p,rfl⟩ | ⟨x,j8,v,e1,rfl,g,hj8,p,r8,rfl,ho⟩;exact ⟨rfl,Post.err (HM.out _ (by simp only [S8.Zac,S8.Zae,if_true,E4.out,E6.out,EP6.out,e1])) (Zaa F7.out.f.fr g (.inl rfl)) p⟩;have F8:=hid (And.intro (F7.out.f.call g p) ho);have E8:=hid e1;clear h1 e1 g p ho C6)
   | (refine Zah F8.out.1.r0 rfl 24 _ _ rfl (nd5 x.k x.t x.n x.a r8) rfl rfl inf24 rfl (by have h1:=F8.out.2.one;simp [nd5,h1];exact ⟨rfl,rfl,rfl,rfl⟩) ?_;intro w9 h1 h2;have F9:=hid (And.intro h1 (F8.out.1.hand F8.out.2 (by have:=F7.out.f.nd.lt;omega) h2));clear h1 h2))
  refine ret24 results286 F9.out.1
   (Post.ok (j:=j8) (x:=x) (HM.out _ (by (try simp only [S8.Zac,S8.Zae,if_true,E4.out,E6.out,EP6.out,E8.out]);try rfl)) F9.out.2.1 F9.out.2.2.1 (by omega) F9.out.2.2.2)
 ·have EP6:Hid (S8.ZaC S8.Zce S.size (S.toks.drop j6)=.ok false (S.toks.drop j6)):=hid (by rw [Zaf S j6 (by decide),decide_eq_false hz6])
  have C5:=Zau b S j6 false _ F6.out.f.ps
  obtain ⟨u6,hu⟩:∃u,u=mk (Zag S j6):=⟨_,rfl⟩
  rw [← hu] at C5
  have n6:(u6.toList == [115,112,97,119,110])=false:=by rw [hu,Zas,Zbc];exact beq_eq_false_iff_ne.2 hz6
  clear hu
  have HZ6:=hid hz6
  clear hz6
  go_wp2_with (first
   | (go_at_call 60;(with_reducible refine C5.mono ?_);rintro e w7 ⟨rfl,h1⟩;have F7:=hid (F6.out.look h1);clear h1 C5;have d3:=F7.out.nd4.at_ 1;have z3:=F7.out.nd4.open_ 1)
   | (refine Zrc F7.out u rfl _ _ rfl rfl rfl ?_;intro w8 h1;have F8:=hid h1;clear h1 d3 z3;have C6:=HC.out _ j6 F8.out.ps (by omega))
   | (go_at_call 138;(with_reducible refine C6.mono ?_);rintro e w9 h1;rcases h1.ways with ⟨a,j,h',e1,rfl,g,p,rfl⟩ | ⟨x,j9,v,e1,rfl,g,hj9,p,r9,rfl,ho⟩;exact ⟨rfl,Post.err (HM.out _ (by simp only [S8.Zac,S8.Zae,if_false,Bool.false_eq_true,E4.out,E6.out,EP6.out,e1])) (Zaa F8.out.fr g (.inl rfl)) p⟩;have F9:=hid (And.intro (F8.out.call g p) ho);have G9:=hid (F8.out.single g p ho);have E9:=hid e1;clear h1 e1 g p ho C6)
   | (refine Za7 G9.out.1 G9.out.2 rfl _ _ rfl rfl rfl ?_;intro w10 h1;have F10:=hid h1;clear h1)
   | (refine Zax F10.out rfl _ rfl rfl ?_)
   | (refine Zaw F10.out rfl _ _ rfl rfl rfl ?_;intro w11 h1 h2 h3 h4;have F11:=hid (And.intro h1 (And.intro h2 (And.intro h3 h4)));clear h1 h2 h3 h4))
  refine ret24 results286 F11.out.1
   (Post.ok (j:=j9) (HM.out _ (by (try simp only [S8.Zac,S8.Zae,if_false,Bool.false_eq_true,E4.out,E6.out,EP6.out,E9.out]);rfl)) F11.out.2.1 F11.out.2.2.1 (by omega) F11.out.2.2.2)
open Go.RowKit L7
open S8 (lim single What)
theorem Zhx {S:Pg} {i:Nat} (hw:Zag S i=S8.Zce):S8.stmt lim S.size (S.toks.drop i)=S8.spawn lim (place S i) (bnd S8.ZdF (place S i)) S.size (S.toks.drop i):=by
 unfold S8.stmt
 refine ZaN ?_ (fun hl=>absurd (ZaL (S:=S) (i:=i) (by rw [hw];decide)) (by omega))
 simp (decide:=true) only [S8.Zac,S8.Zae,Zaf S i (show S8.Zce≠[] by decide),hw,if_true]
theorem Zti (N b:Nat) (S:Pg) (HE:∀h,Does N 138 b S h (single (lim (.expr h)))) (w:World) (i:Nat) (hp:Ps w b S i false) (hN:S.toks.length≤N + i) (hw:Zag S i=S8.Zfl) :
  Calls prog 270 #[.pointer (some ⟨b,0,none⟩)] w (Post w b S i false (S8.stmt lim S.size (S.toks.drop i)) (ZaO w)):=by
 have HW:=hid hw
 have HC:=hid HE
 have HP:=hid hp
 have F0:=hid (And.intro (hp.alloc (.cells z5 24)) (And.intro (Is.fresh w 24 z5) (Zaj (r:=some b) ((Below.refl w.heap.size w).alloc (Nat.le_refl _) (.cells z5 24)))))
 have WD:=Zau b S i false _ F0.out.1
 have WD:Calls prog 60 #[.pointer (some ⟨b,0,none⟩)] (w.alloc (.cells z5 24)) fun e w'=>e=.returned (.string ⟨#[108,101,116]⟩)∧Below (w.alloc (.cells z5 24)).heap.size (w.alloc (.cells z5 24)) w':=by
  rw [hw] at WD;exact WD
 clear hp hw HE
 go_enter func270,ntmps270
 go_wp2_with (first
  | (go_at_call 60;(with_reducible refine WD.mono ?_);rintro e w1 ⟨rfl,h1⟩;have p1:=F0.out.1.below h1 F0.out.1.lt;have F1:=hid (And.intro p1 (And.intro (F0.out.2.1.below h1 F0.out.2.1.lt) (Zan F0.out.2.2 (h1.mono F0.out.2.2.size))));have C1:=ZnO N b S HC.out _ i p1 hN HW.out;clear h1 p1 WD)
  | (go_at_call 286;(with_reducible refine C1.mono ?_);rintro e w2 h1;rcases h1.ways with ⟨a,j,h',e1,rfl,g,p,rfl⟩ | ⟨x,j1,v,e1,rfl,g,hj1,p,r,rfl,ho⟩;exact ⟨rfl,Post.err (e1) (Zaa F1.out.2.2 g (.inl rfl)) p⟩;have hbb:=HP.out.lt;have F2:=hid (And.intro p (And.intro (Zaa F1.out.2.2 g (.inl rfl)) (And.intro (F1.out.2.1.kept g (by simp;omega)) (And.intro (ho.weak F1.out.2.1.lt) e1))));clear h1 e1 g p ho C1)
  | (refine Zah F2.out.2.2.1 rfl 24 _ _ rfl (nd5 x.k x.t x.n x.a r) rfl rfl inf24 rfl (by have h1:=F2.out.2.2.2.1.one;simp [nd5,h1];exact ⟨rfl,rfl,rfl,rfl⟩) ?_;intro w3 h1 h2;have F3:=hid (And.intro h1 h2);clear h1 h2))
 refine ret24 results270 F3.out.1
  (Post.ok (j:=j1) (x:=x) (F2.out.2.2.2.2) (Zaa F2.out.2.1 F3.out.2 (.inr fun j e=>by injection e with e;omega)) (F2.out.1.kept F3.out.2 hbb) hj1 ⟨r,rfl,(F2.out.2.2.2.1.grown F3.out.2 (by omega)).weak (by omega)⟩)
theorem Zvz (N b:Nat) (S:Pg) (HE:∀h,Does N 138 b S h (single (lim (.expr h)))) (w:World) (i:Nat) (hp:Ps w b S i false) (hN:S.toks.length≤N + i) (hw:Zag S i=S8.wDo) :
  Calls prog 270 #[.pointer (some ⟨b,0,none⟩)] w (Post w b S i false (S8.stmt lim S.size (S.toks.drop i)) (ZaO w)):=by
 have HW:=hid hw
 have HC:=hid HE
 have HP:=hid hp
 have F0:=hid (And.intro (hp.alloc (.cells z5 24)) (And.intro (Is.fresh w 24 z5) (Zaj (r:=some b) ((Below.refl w.heap.size w).alloc (Nat.le_refl _) (.cells z5 24)))))
 have WD:=Zau b S i false _ F0.out.1
 have WD:Calls prog 60 #[.pointer (some ⟨b,0,none⟩)] (w.alloc (.cells z5 24)) fun e w'=>e=.returned (.string ⟨#[100,111]⟩)∧Below (w.alloc (.cells z5 24)).heap.size (w.alloc (.cells z5 24)) w':=by
  rw [hw] at WD;exact WD
 clear hp hw HE
 go_enter func270,ntmps270
 go_wp2_with (first
  | (go_at_call 60;(with_reducible refine WD.mono ?_);rintro e w1 ⟨rfl,h1⟩;have p1:=F0.out.1.below h1 F0.out.1.lt;have F1:=hid (And.intro p1 (And.intro (F0.out.2.1.below h1 F0.out.2.1.lt) (Zan F0.out.2.2 (h1.mono F0.out.2.2.size))));have C1:=Zqd N b S HC.out _ i p1 hN HW.out;clear h1 p1 WD)
  | (go_at_call 293;(with_reducible refine C1.mono ?_);rintro e w2 h1;rcases h1.ways with ⟨a,j,h',e1,rfl,g,p,rfl⟩ | ⟨x,j1,v,e1,rfl,g,hj1,p,r,rfl,ho⟩;exact ⟨rfl,Post.err (e1) (Zaa F1.out.2.2 g (.inl rfl)) p⟩;have hbb:=HP.out.lt;have F2:=hid (And.intro p (And.intro (Zaa F1.out.2.2 g (.inl rfl)) (And.intro (F1.out.2.1.kept g (by simp;omega)) (And.intro (ho.weak F1.out.2.1.lt) e1))));clear h1 e1 g p ho C1)
  | (refine Zah F2.out.2.2.1 rfl 24 _ _ rfl (nd5 x.k x.t x.n x.a r) rfl rfl inf24 rfl (by have h1:=F2.out.2.2.2.1.one;simp [nd5,h1];exact ⟨rfl,rfl,rfl,rfl⟩) ?_;intro w3 h1 h2;have F3:=hid (And.intro h1 h2);clear h1 h2))
 refine ret24 results270 F3.out.1
  (Post.ok (j:=j1) (x:=x) (F2.out.2.2.2.2) (Zaa F2.out.2.1 F3.out.2 (.inr fun j e=>by injection e with e;omega)) (F2.out.1.kept F3.out.2 hbb) hj1 ⟨r,rfl,(F2.out.2.2.2.1.grown F3.out.2 (by omega)).weak (by omega)⟩)
theorem Zpz (N b:Nat) (S:Pg) (HE:∀h,Does N 138 b S h (single (lim (.expr h)))) (w:World) (i:Nat) (hp:Ps w b S i false) (hN:S.toks.length≤N + i) (hw:Zag S i=S8.Zce) :
  Calls prog 270 #[.pointer (some ⟨b,0,none⟩)] w (Post w b S i false (S8.stmt lim S.size (S.toks.drop i)) (ZaO w)):=by
 have HW:=hid hw
 have HC:=hid HE
 have HP:=hid hp
 have F0:=hid (And.intro (hp.alloc (.cells z5 24)) (And.intro (Is.fresh w 24 z5) (Zaj (r:=some b) ((Below.refl w.heap.size w).alloc (Nat.le_refl _) (.cells z5 24)))))
 have WD:=Zau b S i false _ F0.out.1
 have WD:Calls prog 60 #[.pointer (some ⟨b,0,none⟩)] (w.alloc (.cells z5 24)) fun e w'=>e=.returned (.string ⟨#[115,112,97,119,110]⟩)∧Below (w.alloc (.cells z5 24)).heap.size (w.alloc (.cells z5 24)) w':=by
  rw [hw] at WD;exact WD
 clear hp hw HE
 go_enter func270,ntmps270
 go_wp2_with (first
  | (go_at_call 60;(with_reducible refine WD.mono ?_);rintro e w1 ⟨rfl,h1⟩;have p1:=F0.out.1.below h1 F0.out.1.lt;have F1:=hid (And.intro p1 (And.intro (F0.out.2.1.below h1 F0.out.2.1.lt) (Zan F0.out.2.2 (h1.mono F0.out.2.2.size))));have WO:=Zdq b S i false _ p1;clear h1 p1 WD)
  | (go_at_call 59;(with_reducible refine WO.mono ?_);rintro e w9 ⟨rfl,h1⟩;have p1:=F1.out.1.below h1 F1.out.1.lt;have F9:=hid (And.intro p1 (And.intro (F1.out.2.1.below h1 F1.out.2.1.lt) (Zan F1.out.2.2 (h1.mono F1.out.2.2.size))));have C1:=(show Calls prog 287 #[.pointer (some ⟨b,0,none⟩),.int .i64 (place S i),.agg #[.int .i64 40,.string ⟨#[95]⟩,.int .i64 0,.int .i64 (place S i),.slice none 0 0]] _ (Post _ b S i false _ (ZaO _)) from ZlR N b S S8.ZdF (place S i) (place S i) HC.out _ i p1 hN);clear h1 p1 WO F1;have F1:=F9;clear F9)
  | (go_at_call 287;(with_reducible refine C1.mono ?_);rintro e w2 h1;rcases h1.ways with ⟨a,j,h',e1,rfl,g,p,rfl⟩ | ⟨x,j1,v,e1,rfl,g,hj1,p,r,rfl,ho⟩;exact ⟨rfl,Post.err ((Zhx HW.out).trans e1) (Zaa F1.out.2.2 g (.inl rfl)) p⟩;have hbb:=HP.out.lt;have F2:=hid (And.intro p (And.intro (Zaa F1.out.2.2 g (.inl rfl)) (And.intro (F1.out.2.1.kept g (by simp;omega)) (And.intro (ho.weak F1.out.2.1.lt) e1))));clear h1 e1 g p ho C1)
  | (refine Zah F2.out.2.2.1 rfl 24 _ _ rfl (nd5 x.k x.t x.n x.a r) rfl rfl inf24 rfl (by have h1:=F2.out.2.2.2.1.one;simp [nd5,h1];exact ⟨rfl,rfl,rfl,rfl⟩) ?_;intro w3 h1 h2;have F3:=hid (And.intro h1 h2);clear h1 h2))
 refine ret24 results270 F3.out.1
  (Post.ok (j:=j1) (x:=x) ((Zhx HW.out).trans F2.out.2.2.2.2) (Zaa F2.out.2.1 F3.out.2 (.inr fun j e=>by injection e with e;omega)) (F2.out.1.kept F3.out.2 hbb) hj1 ⟨r,rfl,(F2.out.2.2.2.1.grown F3.out.2 (by omega)).weak (by omega)⟩)
theorem ZlO (b:Nat) (S:Pg):∀N:Nat,Does N 270 b S false (single (lim (.one .stmt)))∧Does N 247 b S false (S8.block lim)∧Does N 305 b S false (single (lim (.one .sarm)))
 | 0=>⟨fun w i hp hN=>absurd hp.le (by omega),fun w i hp hN=>absurd hp.le (by omega),fun w i hp hN=>absurd hp.le (by omega)⟩
 | N + 1=>by
  obtain ⟨HS,HB,HA⟩:=ZlO b S N
  have HE:=fun h=>ZiQ b S N h
  refine ⟨fun w i hp hN=>?_,fun w i hp hN=>ZsJ N b S HS w i hp (by omega),fun w i hp hN=>Ztw N b S HB w i hp (by omega)⟩
  rw [Zth]
  by_cases k0:Zag S i=S8.Zfl
  ·exact Zti N b S HE w i hp (by omega) k0
  by_cases k1:Zag S i=S8.Zce
  ·exact Zpz N b S HE w i hp (by omega) k1
  by_cases k2:Zag S i=S8.wIf
  ·exact Zvy N b S HE HB w i hp (by omega) k2
  by_cases k3:Zag S i=S8.ZbR
  ·exact ZpB N b S HE HA w i hp (by omega) k3
  by_cases k4:Zag S i=S8.Zkt
  ·exact Ztj N b S HE HB w i hp (by omega) k4
  by_cases k5:Zag S i=S8.Zd0
  ·exact ZpA N b S HE w i hp (by omega) k5
  by_cases k6:Zag S i=S8.ZdS
  ·exact ZpC N b S HE w i hp (by omega) k6
  by_cases k7:Zag S i=S8.wDo
  ·exact Zvz N b S HE w i hp (by omega) k7
  by_cases k8:Zag S i=S8.Zg4
  ·exact ZqT N b S w i hp (by omega) k8
  by_cases k9:Zag S i=S8.Zg9
  ·exact ZqU N b S HE w i hp (by omega) k9
  exact Ztg N b S HE w i hp (by omega) (fun s hs=>by
   simp only [List.mem_cons,List.not_mem_nil,or_false] at hs
   rcases hs with rfl | rfl | rfl | rfl | rfl | rfl | rfl | rfl | rfl | rfl <;> assumption)
theorem ZsK (b:Nat) (S:Pg) (N:Nat):Does N 247 b S false (S8.block lim):=(ZlO b S N).2.1
open Go.RowKit L7
open S8 (lim single What)
theorem ZpU (b:Nat) (S:Pg):∀N:Nat,Does N 142 b S false (single (lim (.one .member)))
 | 0=>fun w i hp hN=>absurd hp.le (by omega)
 | N + 1=>ZnL N b S (fun h=>ZiQ b S N h) (ZsK b S N)
theorem Zpg (b:Nat) (S:Pg):∀N:Nat,Does N 45 b S false (single (lim .decl))
 | 0=>fun w i hp hN=>absurd hp.le (by omega)
 | N + 1=>Zsn N b S (fun h=>ZiQ b S N h) (ZpU b S N)
end Go.Proofs.YtaheffiglmglbaaGreatDoor
