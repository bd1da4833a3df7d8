import Derived.Test.YtaheffiglmglbaaGreatDoorKWe
import Derived.Test.YtaheffiglmglbaaGreatDoorKWd
import Derived.Test.YtaheffiglmglbaaGreatDoorKWf
/- WrA, WrD. -/
set_option maxHeartbeats 8000000
set_option maxRecDepth 20000
namespace Go.Proofs.YtaheffiglmglbaaGreatDoor
open Go.Proofs.Tryz
open Go.RowKit L7
section
variable {B g lv N:Nat} {w w2:World} {L:List Tk} {f:S8.Fm} {r:Nat}
theorem Zx8 (HG:Gd B lv N) (v:Value) (x:Nd) (_:Wr w B lv L (r + wt x)) (_:NodeAt w B x v) (hd:dpt x < N + 1) (hk:x.k=2) :
  Calls prog 51 #[.pointer (some ⟨B,0,none⟩),v] w (WPost B lv w L r (S8.run (S8.Zei S8.ideal 2) x)):=
 (bad HG.le hd hk (by decide)).elim
theorem Zx7 (HG:Gd B lv N) (v:Value) (x:Nd) (_:Wr w B lv L (r + wt x)) (_:NodeAt w B x v) (hd:dpt x < N + 1) (hk:x.k=3) :
  Calls prog 51 #[.pointer (some ⟨B,0,none⟩),v] w (WPost B lv w L r (S8.run (S8.Zei S8.ideal 3) x)):=
 (bad HG.le hd hk (by decide)).elim
theorem Zx6 (HG:Gd B lv N) (v:Value) (x:Nd) (_:Wr w B lv L (r + wt x)) (_:NodeAt w B x v) (hd:dpt x < N + 1) (hk:x.k=4) :
  Calls prog 51 #[.pointer (some ⟨B,0,none⟩),v] w (WPost B lv w L r (S8.run (S8.Zei S8.ideal 4) x)):=
 (bad HG.le hd hk (by decide)).elim
theorem Zx5 (HG:Gd B lv N) (v:Value) (x:Nd) (hw:Wr w B lv L (r + wt x)) (hx:NodeAt w B x v) (hd:dpt x < N + 1) (hk:x.k=5) :
  Calls prog 51 #[.pointer (some ⟨B,0,none⟩),v] w (WPost B lv w L r (S8.run (S8.Zei S8.ideal 5) x)):=by
 have HG:=hid HG
 have hk0:∀y∈x.c,dpt y < N:=fun y hy=>by have:=Zbv x y hy;omega
 have hB:=hw.size
 obtain ⟨s,rfl,hk1⟩:=hx
 have b0:Below w.heap.size w (w.alloc (.cells (nd5 x.k x.t x.n x.a s) 24)):=(Below.refl _ _).alloc (Nat.le_refl _) _
 have C0:=Ze5 (r:=r) x _ (hw.below b0) (show NodeAt (w.alloc (.cells (nd5 x.k x.t x.n x.a s) 24)) B x (.agg (nd5 x.k x.t x.n x.a s)) from ⟨s,rfl,ZaF hk1 (b0.mono (by omega))⟩) hk0 (Zc9 (by have:=HG.out.le;omega))
 have HB:=hid b0
 have HI:=hid (Is.fresh w 24 (nd5 x.k x.t x.n x.a s))
 have hq:(do S8.Zei S8.ideal 5;S8.shut:S8.Wm Unit)=(do
   S8.tk (S8.nm S8.Zd7)
   S8.ZaZ S8.ZbF
   S8.ZwL S8.ideal
   S8.shut
   : S8.Wm Unit):=by
  first
  | rfl
  | simp (decide:=true) only [S8.Zei,if_true,if_false,S8.ZaP]
 have HQ:=hid hq
 have HK:=hid (show x.k=5 from hk)
 clear hw hk1 hd hk hk0 b0 hq
 go_enter func51,ntmps51
 go_wp2_with (go_at_call 83;(with_reducible refine C0.mono ?_);rintro e w0 ⟨g,rfl,F0,h1,hg⟩;have A0:=hid (At.node2 (w:=w) HQ.out F0 (HB.out.trans (h1.mono HB.out.size)) (by omega) (Nat.le_trans HB.out.size hg));have z0:=F0.c0;have d0:w0.cell? ⟨w.heap.size,0,none⟩=some (.int .i64 5):=((HI.out.below h1 (by simp)).at_ 0).trans (by rw [← HK.out];rfl);clear F0 h1 hg C0)
 have C1:=A0.out.fo.name ⟨#[102,117,110]⟩ S8.Zd7 rfl (by omega) (by decide) (by decide)
 go_wp2_with (first
  | (go_at_call 85;(with_reducible refine C1.mono ?_);intro e w1 h1;rcases A0.out.step h1 with ⟨rfl,e1,b1⟩ | ⟨y1,f1,l1,v1,rfl,e1,rfl,G⟩;exact ⟨rfl,.node_stop e1 b1⟩;have A1:=hid G;have z1:=G.fo.c0;clear h1 e1 G C1 z0 d0;have C2:=Zib A1.out.fo (by omega))
  | (go_at_call 91;(with_reducible refine C2.mono ?_);intro e w2 h1;rcases A1.out.step h1 with ⟨rfl,e1,b1⟩ | ⟨y2,f2,l2,v2,rfl,e1,rfl,G⟩;exact ⟨rfl,.node_stop e1 b1⟩;have A2:=hid G;have z2:=G.fo.c0;clear h1 e1 G C2 z1;have C3:=Zyv HG.out A2.out.fo (by omega))
  | (go_at_call 93;(with_reducible refine C3.mono ?_);intro e w3 h1;rcases A2.out.step h1 with ⟨rfl,e1,b1⟩ | ⟨y3,f3,l3,v3,rfl,e1,rfl,G⟩;exact ⟨rfl,.node_stop e1 b1⟩;have A3:=hid G;have z3:=G.fo.c0;clear h1 e1 G C3 z2;have C4:=Zfi A3.out.fo)
  | (go_at_call 52;(with_reducible refine C4.mono ?_);intro e w4 h1;rcases A3.out.last h1 with ⟨rfl,e1,b1⟩ | ⟨y,f,l,v,rfl,rfl,e1,F,k⟩;exact ⟨rfl,.node_stop e1 b1⟩;have E4:=hid (And.intro e1 (And.intro F k));clear h1 e1 F k C4 z3))
 go_end0
 exact .node_done E4.out.1 E4.out.2.1 (by omega) E4.out.2.2
theorem Zx4 (HG:Gd B lv N) (v:Value) (x:Nd) (hw:Wr w B lv L (r + wt x)) (hx:NodeAt w B x v) (hd:dpt x < N + 1) (hk:x.k=6) :
  Calls prog 51 #[.pointer (some ⟨B,0,none⟩),v] w (WPost B lv w L r (S8.run (S8.Zei S8.ideal 6) x)):=by
 have HG:=hid HG
 have hk0:∀y∈x.c,dpt y < N:=fun y hy=>by have:=Zbv x y hy;omega
 have hB:=hw.size
 obtain ⟨s,rfl,hk1⟩:=hx
 have b0:Below w.heap.size w (w.alloc (.cells (nd5 x.k x.t x.n x.a s) 24)):=(Below.refl _ _).alloc (Nat.le_refl _) _
 have C0:=Ze5 (r:=r) x _ (hw.below b0) (show NodeAt (w.alloc (.cells (nd5 x.k x.t x.n x.a s) 24)) B x (.agg (nd5 x.k x.t x.n x.a s)) from ⟨s,rfl,ZaF hk1 (b0.mono (by omega))⟩) hk0 (Zc9 (by have:=HG.out.le;omega))
 have HB:=hid b0
 have HI:=hid (Is.fresh w 24 (nd5 x.k x.t x.n x.a s))
 have hq:(do S8.Zei S8.ideal 6;S8.shut:S8.Wm Unit)=(do
   S8.Zkp S8.ideal
   S8.shut
   : S8.Wm Unit):=by
  first
  | rfl
  | simp (decide:=true) only [S8.Zei,if_true,if_false,S8.ZaP,S8.ZgE]
 have HQ:=hid hq
 have HK:=hid (show x.k=6 from hk)
 clear hw hk1 hd hk hk0 b0 hq
 go_enter func51,ntmps51
 go_wp2_with (go_at_call 83;(with_reducible refine C0.mono ?_);rintro e w0 ⟨g,rfl,F0,h1,hg⟩;have A0:=hid (At.node2 (w:=w) HQ.out F0 (HB.out.trans (h1.mono HB.out.size)) (by omega) (Nat.le_trans HB.out.size hg));have z0:=F0.c0;have d0:w0.cell? ⟨w.heap.size,0,none⟩=some (.int .i64 6):=((HI.out.below h1 (by simp)).at_ 0).trans (by rw [← HK.out];rfl);clear F0 h1 hg C0)
 have C1:=Zxg HG.out A0.out.fo (by omega)
 go_wp2_with (first
  | (go_at_call 94;(with_reducible refine C1.mono ?_);intro e w1 h1;rcases A0.out.step h1 with ⟨rfl,e1,b1⟩ | ⟨y1,f1,l1,v1,rfl,e1,rfl,G⟩;exact ⟨rfl,.node_stop e1 b1⟩;have A1:=hid G;have z1:=G.fo.c0;clear h1 e1 G C1 z0 d0;have C2:=Zfi A1.out.fo)
  | (go_at_call 52;(with_reducible refine C2.mono ?_);intro e w2 h1;rcases A1.out.last h1 with ⟨rfl,e1,b1⟩ | ⟨y,f,l,v,rfl,rfl,e1,F,k⟩;exact ⟨rfl,.node_stop e1 b1⟩;have E2:=hid (And.intro e1 (And.intro F k));clear h1 e1 F k C2 z1))
 go_end0
 exact .node_done E2.out.1 E2.out.2.1 (by omega) E2.out.2.2
theorem Zwn (HG:Gd B lv N) (v:Value) (x:Nd) (hw:Wr w B lv L (r + wt x)) (hx:NodeAt w B x v) (hd:dpt x < N + 1) (n2:x.k≠2) (n3:x.k≠3) (n4:x.k≠4) (n5:x.k≠5) (n6:x.k≠6) :
  Calls prog 51 #[.pointer (some ⟨B,0,none⟩),v] w (WPost B lv w L r (S8.run (S8.Zei S8.ideal x.k) x)):=by
 have HOK:=hid (Zex (x:=x) (by have:=HG.le;omega))
 have HG:=hid HG
 have hk0:∀y∈x.c,dpt y < N:=fun y hy=>by have:=Zbv x y hy;omega
 have hB:=hw.size
 obtain ⟨s,rfl,hk1⟩:=hx
 have b0:Below w.heap.size w (w.alloc (.cells (nd5 x.k x.t x.n x.a s) 24)):=(Below.refl _ _).alloc (Nat.le_refl _) _
 have C0:=Ze5 (r:=r) x _ (hw.below b0) (show NodeAt (w.alloc (.cells (nd5 x.k x.t x.n x.a s) 24)) B x (.agg (nd5 x.k x.t x.n x.a s)) from ⟨s,rfl,ZaF hk1 (b0.mono (by omega))⟩) hk0 (Zc9 (by have:=HG.out.le;omega))
 have HB:=hid b0
 have HI:=hid (Is.fresh w 24 (nd5 x.k x.t x.n x.a s))
 have hq:(do S8.Zei S8.ideal x.k;S8.shut:S8.Wm Unit)=(do
   S8.Zcq S8.ideal x.k
   S8.shut
   : S8.Wm Unit):=by
  first
  | rfl
  | simp only [S8.Zei,if_neg n2,if_neg n3,if_neg n4,if_neg n5,if_neg n6]
 have HQ:=hid hq
 have HK:=hid (show x.k=x.k from rfl)
 have m2:(x.k == 2)=false:=by simpa using n2
 have m3:(x.k == 3)=false:=by simpa using n3
 have m4:(x.k == 4)=false:=by simpa using n4
 have m5:(x.k == 5)=false:=by simpa using n5
 have m6:(x.k == 6)=false:=by simpa using n6
 clear hw hk1 hd n2 n3 n4 n5 n6 hk0 b0 hq
 go_enter func51,ntmps51
 go_wp2_with (go_at_call 83;(with_reducible refine C0.mono ?_);rintro e w0 ⟨g,rfl,F0,h1,hg⟩;have A0:=hid (At.node2 (w:=w) HQ.out F0 (HB.out.trans (h1.mono HB.out.size)) (by omega) (Nat.le_trans HB.out.size hg));have z0:=F0.c0;have d0:w0.cell? ⟨w.heap.size,0,none⟩=some (.int .i64 x.k):=((HI.out.below h1 (by simp)).at_ 0).trans (by rw [← HK.out];rfl);clear F0 h1 hg C0)
 have C1:=ZuG HG.out x.k HOK.out A0.out.fo (by omega)
 go_wp2_with (first
  | (go_at_call 95;(with_reducible refine C1.mono ?_);intro e w1 h1;rcases A0.out.step h1 with ⟨rfl,e1,b1⟩ | ⟨y1,f1,l1,v1,rfl,e1,rfl,G⟩;exact ⟨rfl,.node_stop e1 b1⟩;have A1:=hid G;have z1:=G.fo.c0;clear h1 e1 G C1 z0 d0;have C2:=Zfi A1.out.fo)
  | (go_at_call 52;(with_reducible refine C2.mono ?_);intro e w2 h1;rcases A1.out.last h1 with ⟨rfl,e1,b1⟩ | ⟨y,f,l,v,rfl,rfl,e1,F,k⟩;exact ⟨rfl,.node_stop e1 b1⟩;have E2:=hid (And.intro e1 (And.intro F k));clear h1 e1 F k C2 z1))
 go_end0
 exact .node_done E2.out.1 E2.out.2.1 (by omega) E2.out.2.2
theorem ZtF (HG:Gd B lv N):Puts B lv (N + 1) 51 .part:=by
 intro w L r v x hw hx hd
 rw [← S8.Zck _ _ (Zex (by have:=HG.le;omega))]
 show Calls _ _ _ _ (WPost B lv w L r (S8.run (S8.Zei S8.ideal x.k) x))
 by_cases n2:x.k=2
 ·rw [n2];exact Zx8 HG v x hw hx hd n2
 by_cases n3:x.k=3
 ·rw [n3];exact Zx7 HG v x hw hx hd n3
 by_cases n4:x.k=4
 ·rw [n4];exact Zx6 HG v x hw hx hd n4
 by_cases n5:x.k=5
 ·rw [n5];exact Zx5 HG v x hw hx hd n5
 by_cases n6:x.k=6
 ·rw [n6];exact Zx4 HG v x hw hx hd n6
 exact Zwn HG v x hw hx hd n2 n3 n4 n5 n6
end
open Go.RowKit L7
section
variable {B g lv N:Nat} {w w2:World} {L:List Tk} {f:S8.Fm} {r:Nat}
theorem ZwR (HG:Gd B lv N) (v:Value) (x:Nd) (_:Wr w B lv L (r + wt x)) (_:NodeAt w B x v) (hd:dpt x < N + 1) (hk:x.k=37) :
  Calls prog 152 #[.pointer (some ⟨B,0,none⟩),v] w (WPost B lv w L r (S8.run (S8.Zdo S8.ideal 37) x)):=
 (bad HG.le hd hk (by decide)).elim
theorem ZwS (HG:Gd B lv N) (v:Value) (x:Nd) (_:Wr w B lv L (r + wt x)) (_:NodeAt w B x v) (hd:dpt x < N + 1) (hk:x.k=36) :
  Calls prog 152 #[.pointer (some ⟨B,0,none⟩),v] w (WPost B lv w L r (S8.run (S8.Zdo S8.ideal 36) x)):=
 (bad HG.le hd hk (by decide)).elim
theorem ZwQ (HG:Gd B lv N) (v:Value) (x:Nd) (_:Wr w B lv L (r + wt x)) (_:NodeAt w B x v) (hd:dpt x < N + 1) (hk:x.k=38) :
  Calls prog 152 #[.pointer (some ⟨B,0,none⟩),v] w (WPost B lv w L r (S8.run (S8.Zdo S8.ideal 38) x)):=
 (bad HG.le hd hk (by decide)).elim
theorem ZwP (HG:Gd B lv N) (v:Value) (x:Nd) (_:Wr w B lv L (r + wt x)) (_:NodeAt w B x v) (hd:dpt x < N + 1) (hk:x.k=41) :
  Calls prog 152 #[.pointer (some ⟨B,0,none⟩),v] w (WPost B lv w L r (S8.run (S8.Zdo S8.ideal 41) x)):=
 (bad HG.le hd hk (by decide)).elim
theorem ZwT (HG:Gd B lv N) (v:Value) (x:Nd) (hw:Wr w B lv L (r + wt x)) (hx:NodeAt w B x v) (hd:dpt x < N + 1) (hk:x.k=35) :
  Calls prog 152 #[.pointer (some ⟨B,0,none⟩),v] w (WPost B lv w L r (S8.run (S8.Zdo S8.ideal 35) x)):=by
 have HG:=hid HG
 have hk0:∀y∈x.c,dpt y < N:=fun y hy=>by have:=Zbv x y hy;omega
 have hB:=hw.size
 obtain ⟨s,rfl,hk1⟩:=hx
 have b0:Below w.heap.size w (w.alloc (.cells (nd5 x.k x.t x.n x.a s) 24)):=(Below.refl _ _).alloc (Nat.le_refl _) _
 have C0:=Ze5 (r:=r) x _ (hw.below b0) (show NodeAt (w.alloc (.cells (nd5 x.k x.t x.n x.a s) 24)) B x (.agg (nd5 x.k x.t x.n x.a s)) from ⟨s,rfl,ZaF hk1 (b0.mono (by omega))⟩) hk0 (Zc9 (by have:=HG.out.le;omega))
 have HB:=hid b0
 have HI:=hid (Is.fresh w 24 (nd5 x.k x.t x.n x.a s))
 have hq:(do S8.Zdo S8.ideal 35;S8.shut:S8.Wm Unit)=(do
   S8.ZyI S8.ideal
   S8.shut
   : S8.Wm Unit):=by
  first
  | rfl
  | simp (decide:=true) only [S8.Zdo,if_true,if_false,S8.ZaP,S8.ZgE]
 have HQ:=hid hq
 have HK:=hid (show x.k=35 from hk)
 clear hw hk1 hd hk hk0 b0 hq
 go_enter func152,ntmps152
 go_wp2_with (go_at_call 83;(with_reducible refine C0.mono ?_);rintro e w0 ⟨g,rfl,F0,h1,hg⟩;have A0:=hid (At.node2 (w:=w) HQ.out F0 (HB.out.trans (h1.mono HB.out.size)) (by omega) (Nat.le_trans HB.out.size hg));have z0:=F0.c0;have d0:w0.cell? ⟨w.heap.size,0,none⟩=some (.int .i64 35):=((HI.out.below h1 (by simp)).at_ 0).trans (by rw [← HK.out];rfl);clear F0 h1 hg C0)
 have C1:=Zza HG.out A0.out.fo (by omega)
 go_wp2_with (first
  | (go_at_call 215;(with_reducible refine C1.mono ?_);intro e w1 h1;rcases A0.out.step h1 with ⟨rfl,e1,b1⟩ | ⟨y1,f1,l1,v1,rfl,e1,rfl,G⟩;exact ⟨rfl,.node_stop e1 b1⟩;have A1:=hid G;have z1:=G.fo.c0;clear h1 e1 G C1 z0 d0;have C2:=Zfi A1.out.fo)
  | (go_at_call 52;(with_reducible refine C2.mono ?_);intro e w2 h1;rcases A1.out.last h1 with ⟨rfl,e1,b1⟩ | ⟨y,f,l,v,rfl,rfl,e1,F,k⟩;exact ⟨rfl,.node_stop e1 b1⟩;have E2:=hid (And.intro e1 (And.intro F k));clear h1 e1 F k C2 z1))
 go_end0
 exact .node_done E2.out.1 E2.out.2.1 (by omega) E2.out.2.2
theorem ZwU (HG:Gd B lv N) (v:Value) (x:Nd) (_:Wr w B lv L (r + wt x)) (_:NodeAt w B x v) (hd:dpt x < N + 1) (hk:x.k=34) :
  Calls prog 152 #[.pointer (some ⟨B,0,none⟩),v] w (WPost B lv w L r (S8.run (S8.Zdo S8.ideal 34) x)):=
 (bad HG.le hd hk (by decide)).elim
theorem ZwV (HG:Gd B lv N) (v:Value) (x:Nd) (_:Wr w B lv L (r + wt x)) (_:NodeAt w B x v) (hd:dpt x < N + 1) (hk:x.k=33) :
  Calls prog 152 #[.pointer (some ⟨B,0,none⟩),v] w (WPost B lv w L r (S8.run (S8.Zdo S8.ideal 33) x)):=
 (bad HG.le hd hk (by decide)).elim
theorem ZwW (HG:Gd B lv N) (v:Value) (x:Nd) (_:Wr w B lv L (r + wt x)) (_:NodeAt w B x v) (hd:dpt x < N + 1) (hk:x.k=32) :
  Calls prog 152 #[.pointer (some ⟨B,0,none⟩),v] w (WPost B lv w L r (S8.run (S8.Zdo S8.ideal 32) x)):=
 (bad HG.le hd hk (by decide)).elim
theorem ZwY (HG:Gd B lv N) (v:Value) (x:Nd) (_:Wr w B lv L (r + wt x)) (_:NodeAt w B x v) (hd:dpt x < N + 1) (hk:x.k=30) :
  Calls prog 152 #[.pointer (some ⟨B,0,none⟩),v] w (WPost B lv w L r (S8.run (S8.Zdo S8.ideal 30) x)):=
 (bad HG.le hd hk (by decide)).elim
theorem ZwX (HG:Gd B lv N) (v:Value) (x:Nd) (_:Wr w B lv L (r + wt x)) (_:NodeAt w B x v) (hd:dpt x < N + 1) (hk:x.k=31) :
  Calls prog 152 #[.pointer (some ⟨B,0,none⟩),v] w (WPost B lv w L r (S8.run (S8.Zdo S8.ideal 31) x)):=
 (bad HG.le hd hk (by decide)).elim
theorem ZwN (HG:Gd B lv N) (v:Value) (x:Nd) (hw:Wr w B lv L (r + wt x)) (hx:NodeAt w B x v) (hd:dpt x < N + 1) (n37:x.k≠37) (n36:x.k≠36) (n38:x.k≠38) (n41:x.k≠41) (n35:x.k≠35) (n34:x.k≠34) (n33:x.k≠33) (n32:x.k≠32) (n30:x.k≠30) (n31:x.k≠31) :
  Calls prog 152 #[.pointer (some ⟨B,0,none⟩),v] w (WPost B lv w L r (S8.run (S8.Zdo S8.ideal x.k) x)):=by
 have HOK:=hid (Zex (x:=x) (by have:=HG.le;omega))
 have HG:=hid HG
 have hk0:∀y∈x.c,dpt y < N:=fun y hy=>by have:=Zbv x y hy;omega
 have hB:=hw.size
 obtain ⟨s,rfl,hk1⟩:=hx
 have b0:Below w.heap.size w (w.alloc (.cells (nd5 x.k x.t x.n x.a s) 24)):=(Below.refl _ _).alloc (Nat.le_refl _) _
 have C0:=Ze5 (r:=r) x _ (hw.below b0) (show NodeAt (w.alloc (.cells (nd5 x.k x.t x.n x.a s) 24)) B x (.agg (nd5 x.k x.t x.n x.a s)) from ⟨s,rfl,ZaF hk1 (b0.mono (by omega))⟩) hk0 (Zc9 (by have:=HG.out.le;omega))
 have HB:=hid b0
 have HI:=hid (Is.fresh w 24 (nd5 x.k x.t x.n x.a s))
 have hq:(do S8.Zdo S8.ideal x.k;S8.shut:S8.Wm Unit)=(do
   S8.Zdk S8.ideal x.k
   S8.shut
   : S8.Wm Unit):=by
  first
  | rfl
  | simp only [S8.Zdo,if_neg n37,if_neg n36,if_neg n38,if_neg n41,if_neg n35,if_neg n34,if_neg n33,if_neg n32,if_neg n30,if_neg n31]
 have HQ:=hid hq
 have HK:=hid (show x.k=x.k from rfl)
 have m37:(x.k == 37)=false:=by simpa using n37
 have m36:(x.k == 36)=false:=by simpa using n36
 have m38:(x.k == 38)=false:=by simpa using n38
 have m41:(x.k == 41)=false:=by simpa using n41
 have m35:(x.k == 35)=false:=by simpa using n35
 have m34:(x.k == 34)=false:=by simpa using n34
 have m33:(x.k == 33)=false:=by simpa using n33
 have m32:(x.k == 32)=false:=by simpa using n32
 have m30:(x.k == 30)=false:=by simpa using n30
 have m31:(x.k == 31)=false:=by simpa using n31
 clear hw hk1 hd n37 n36 n38 n41 n35 n34 n33 n32 n30 n31 hk0 b0 hq
 go_enter func152,ntmps152
 go_wp2_with (go_at_call 83;(with_reducible refine C0.mono ?_);rintro e w0 ⟨g,rfl,F0,h1,hg⟩;have A0:=hid (At.node2 (w:=w) HQ.out F0 (HB.out.trans (h1.mono HB.out.size)) (by omega) (Nat.le_trans HB.out.size hg));have z0:=F0.c0;have d0:w0.cell? ⟨w.heap.size,0,none⟩=some (.int .i64 x.k):=((HI.out.below h1 (by simp)).at_ 0).trans (by rw [← HK.out];rfl);clear F0 h1 hg C0)
 have C1:=Zx1 HG.out x.k HOK.out A0.out.fo (by omega)
 go_wp2_with (first
  | (go_at_call 218;(with_reducible refine C1.mono ?_);intro e w1 h1;rcases A0.out.step h1 with ⟨rfl,e1,b1⟩ | ⟨y1,f1,l1,v1,rfl,e1,rfl,G⟩;exact ⟨rfl,.node_stop e1 b1⟩;have A1:=hid G;have z1:=G.fo.c0;clear h1 e1 G C1 z0 d0;have C2:=Zfi A1.out.fo)
  | (go_at_call 52;(with_reducible refine C2.mono ?_);intro e w2 h1;rcases A1.out.last h1 with ⟨rfl,e1,b1⟩ | ⟨y,f,l,v,rfl,rfl,e1,F,k⟩;exact ⟨rfl,.node_stop e1 b1⟩;have E2:=hid (And.intro e1 (And.intro F k));clear h1 e1 F k C2 z1))
 go_end0
 exact .node_done E2.out.1 E2.out.2.1 (by omega) E2.out.2.2
theorem ZtG (HG:Gd B lv N):Puts B lv (N + 1) 152 .expr:=by
 intro w L r v x hw hx hd
 rw [← S8.Zck _ _ (Zex (by have:=HG.le;omega))]
 show Calls _ _ _ _ (WPost B lv w L r (S8.run (S8.Zdo S8.ideal x.k) x))
 by_cases n37:x.k=37
 ·rw [n37];exact ZwR HG v x hw hx hd n37
 by_cases n36:x.k=36
 ·rw [n36];exact ZwS HG v x hw hx hd n36
 by_cases n38:x.k=38
 ·rw [n38];exact ZwQ HG v x hw hx hd n38
 by_cases n41:x.k=41
 ·rw [n41];exact ZwP HG v x hw hx hd n41
 by_cases n35:x.k=35
 ·rw [n35];exact ZwT HG v x hw hx hd n35
 by_cases n34:x.k=34
 ·rw [n34];exact ZwU HG v x hw hx hd n34
 by_cases n33:x.k=33
 ·rw [n33];exact ZwV HG v x hw hx hd n33
 by_cases n32:x.k=32
 ·rw [n32];exact ZwW HG v x hw hx hd n32
 by_cases n30:x.k=30
 ·rw [n30];exact ZwY HG v x hw hx hd n30
 by_cases n31:x.k=31
 ·rw [n31];exact ZwX HG v x hw hx hd n31
 exact ZwN HG v x hw hx hd n37 n36 n38 n41 n35 n34 n33 n32 n30 n31
end
end Go.Proofs.YtaheffiglmglbaaGreatDoor
