import Derived.Test.YtaheffiglmglbaaGreatDoorKWb
/- WrU, WrV. -/
set_option maxHeartbeats 8000000
set_option maxRecDepth 20000
namespace Go.Proofs.YtaheffiglmglbaaGreatDoor
open Go.Proofs.Tryz
open Go.RowKit L7
section
variable {B g lv N:Nat} {w w2:World} {L:List Tk} {f:S8.Fm} {r:Nat}
theorem Zyv (HG:Gd B lv N) (F:Fo w B g lv N f L r) (hr:700≤r) :
  Calls prog 93 #[.pointer (some ⟨g,0,none⟩)] w (FPost B g lv N w L (fun _=>r - 700) (S8.ZwL S8.ideal f) isU):=by
 have HG:=hid HG
 have hq:S8.ZwL S8.ideal=(do
   S8.ZvY S8.ideal
   S8.tk (S8.mkt S8.mEq)
   let y3 ← S8.Zdr
   S8.put (S8.ideal .expr y3)
   : S8.Wm Unit):=by
  first
  | rfl
  | simp only [S8.ZwL,S8.ZaP]
 have A0:=hid (At.start2 hq F)
 have z0:=F.c0
 clear hq F
 go_enter func93,ntmps93
 have C1:=ZyV HG.out A0.out.fo (by omega)
 go_wp2_with (first
  | (go_at_call 92;(with_reducible refine C1.mono ?_);intro e w1 h1;rcases A0.out.step h1 with ⟨rfl,e1,b1⟩ | ⟨y1,f1,l1,v1,rfl,e1,rfl,G⟩;exact ⟨rfl,.stop e1 b1⟩;have A1:=hid G;have z1:=G.fo.c0;clear h1 e1 G C1 z0;have C2:=A1.out.fo.mark ⟨#[61]⟩ S8.mEq rfl (by omega) (by decide) (by decide))
  | (go_at_call 146;(with_reducible refine C2.mono ?_);intro e w2 h1;rcases A1.out.step h1 with ⟨rfl,e1,b1⟩ | ⟨y2,f2,l2,v2,rfl,e1,rfl,G⟩;exact ⟨rfl,.stop e1 b1⟩;have A2:=hid G;have z2:=G.fo.c0;clear h1 e1 G C2 z1))
 refine r2 (fun W=>W.cell? ⟨g,0,none⟩=some (.pointer (some ⟨B,0,none⟩))) (fun j=>decide (j < 6)) [0,1,2,3,4] [5,6] A2.out.fo.c0 ?_
 refine fs (.pointer (some ⟨g,0,none⟩)) rfl ?_
 refine fs (.pointer (some ⟨g,0,none⟩)) rfl ?_
 refine fs (.pointer (some ⟨g,0,none⟩)) rfl ?_
 refine fs (.pointer (some ⟨B,0,none⟩)) rfl ?_
 refine fs (.pointer (some ⟨g,0,none⟩)) rfl ?_
 refine Zap ?_
 replace A2:=hid (A2.out.below (Below.refl _ _).drew)
 clear z2
 have C3:=ZfU A2.out.fo
 refine cs rfl fun K9 HK9=>?_
 go_wp2_with (go_at_call 148;(with_reducible refine C3.mono ?_);intro e w3 h1;rcases A2.out.step h1 with ⟨rfl,e1,b1⟩ | ⟨y3,f3,l3,v3,rfl,e1,hv,G⟩;exact ⟨rfl,.stop e1 b1⟩;have A3:=hid G;have V3:=hid hv;clear h1 e1 G C3 hv)
 refine HK9.out _ _ (fun _=>A3.out.fo.c0) ?_
 have C4:=A3.out.fo.kcall (show Puts B lv N 152 .expr from HG.out.pu .expr) V3.out (by omega)
 refine cs rfl fun K9 HK9=>?_
 go_wp2_with (go_at_call 152;(with_reducible refine C4.mono ?_);intro e w4 h1;rcases A3.out.last h1 with ⟨rfl,e1,b1⟩ | ⟨y,f,l,v,rfl,rfl,e1,F,k⟩;exact ⟨rfl,.stop e1 b1⟩;have E4:=hid (And.intro e1 (And.intro F k));clear h1 e1 F k C4)
 refine HK9.out _ _ (fun h=>absurd h (by decide)) ?_
 refine Zam ?_
 go_end0
 exact .done E4.out.1 rfl (E4.out.2.1.less (by omega)) E4.out.2.2
theorem Zzb (HG:Gd B lv N) (F:Fo w B g lv N f L r) (hr:300≤r) :
  Calls prog 211 #[.pointer (some ⟨g,0,none⟩)] w (FPost B g lv N w L (fun _=>r - 300) (S8.Zqs S8.ideal f) isU):=by
 have HG:=hid HG
 have hq:S8.Zqs S8.ideal=(do
   S8.ZaZ S8.ZbF
   S8.tk (S8.mkt S8.mEq)
   let y3 ← S8.Zdr
   S8.put (S8.ideal .expr y3)
   : S8.Wm Unit):=by
  first
  | rfl
  | simp only [S8.Zqs,S8.ZaP]
 have A0:=hid (At.start2 hq F)
 have z0:=F.c0
 clear hq F
 go_enter func211,ntmps211
 have C1:=Zib A0.out.fo (by omega)
 go_wp2_with (first
  | (go_at_call 91;(with_reducible refine C1.mono ?_);intro e w1 h1;rcases A0.out.step h1 with ⟨rfl,e1,b1⟩ | ⟨y1,f1,l1,v1,rfl,e1,rfl,G⟩;exact ⟨rfl,.stop e1 b1⟩;have A1:=hid G;have z1:=G.fo.c0;clear h1 e1 G C1 z0;have C2:=A1.out.fo.mark ⟨#[61]⟩ S8.mEq rfl (by omega) (by decide) (by decide))
  | (go_at_call 146;(with_reducible refine C2.mono ?_);intro e w2 h1;rcases A1.out.step h1 with ⟨rfl,e1,b1⟩ | ⟨y2,f2,l2,v2,rfl,e1,rfl,G⟩;exact ⟨rfl,.stop e1 b1⟩;have A2:=hid G;have z2:=G.fo.c0;clear h1 e1 G C2 z1))
 refine r2 (fun W=>W.cell? ⟨g,0,none⟩=some (.pointer (some ⟨B,0,none⟩))) (fun j=>decide (j < 6)) [0,1,2,3,4] [5,6] A2.out.fo.c0 ?_
 refine fs (.pointer (some ⟨g,0,none⟩)) rfl ?_
 refine fs (.pointer (some ⟨g,0,none⟩)) rfl ?_
 refine fs (.pointer (some ⟨g,0,none⟩)) rfl ?_
 refine fs (.pointer (some ⟨B,0,none⟩)) rfl ?_
 refine fs (.pointer (some ⟨g,0,none⟩)) rfl ?_
 refine Zap ?_
 replace A2:=hid (A2.out.below (Below.refl _ _).drew)
 clear z2
 have C3:=ZfU A2.out.fo
 refine cs rfl fun K9 HK9=>?_
 go_wp2_with (go_at_call 148;(with_reducible refine C3.mono ?_);intro e w3 h1;rcases A2.out.step h1 with ⟨rfl,e1,b1⟩ | ⟨y3,f3,l3,v3,rfl,e1,hv,G⟩;exact ⟨rfl,.stop e1 b1⟩;have A3:=hid G;have V3:=hid hv;clear h1 e1 G C3 hv)
 refine HK9.out _ _ (fun _=>A3.out.fo.c0) ?_
 have C4:=A3.out.fo.kcall (show Puts B lv N 152 .expr from HG.out.pu .expr) V3.out (by omega)
 refine cs rfl fun K9 HK9=>?_
 go_wp2_with (go_at_call 152;(with_reducible refine C4.mono ?_);intro e w4 h1;rcases A3.out.last h1 with ⟨rfl,e1,b1⟩ | ⟨y,f,l,v,rfl,rfl,e1,F,k⟩;exact ⟨rfl,.stop e1 b1⟩;have E4:=hid (And.intro e1 (And.intro F k));clear h1 e1 F k C4)
 refine HK9.out _ _ (fun h=>absurd h (by decide)) ?_
 refine Zam ?_
 go_end0
 exact .done E4.out.1 rfl (E4.out.2.1.less (by omega)) E4.out.2.2
theorem ZxI (HG:Gd B lv N) (F:Fo w B g lv N f L r) (hr:400≤r) :
  Calls prog 274 #[.pointer (some ⟨g,0,none⟩)] w (FPost B g lv N w L (fun _=>r - 400) (S8.Znn S8.ideal f) isU):=by
 have HG:=hid HG
 have hq:S8.Znn S8.ideal=(do
   S8.tk (S8.nm S8.Zd0)
   let y2 ← S8.Zdr
   S8.put (S8.ideal .expr y2)
   S8.ZaZ S8.Zcf
   let y5 ← S8.rest
   S8.put (S8.ZdH S8.mLp (S8.ideal .expr) y5 S8.mRp)
   : S8.Wm Unit):=by
  first
  | rfl
  | simp only [S8.Znn,S8.ZaP]
 have A0:=hid (At.start2 hq F)
 have z0:=F.c0
 clear hq F
 go_enter func274,ntmps274
 have C1:=A0.out.fo.name ⟨#[115,101,110,100]⟩ S8.Zd0 rfl (by omega) (by decide) (by decide)
 go_wp2_with (first
  | (go_at_call 85;(with_reducible refine C1.mono ?_);intro e w1 h1;rcases A0.out.step h1 with ⟨rfl,e1,b1⟩ | ⟨y1,f1,l1,v1,rfl,e1,rfl,G⟩;exact ⟨rfl,.stop e1 b1⟩;have A1:=hid G;have z1:=G.fo.c0;clear h1 e1 G C1 z0))
 refine r2 (fun W=>W.cell? ⟨g,0,none⟩=some (.pointer (some ⟨B,0,none⟩))) (fun j=>decide (j < 6)) [0,1,2,3,4] [5,6] A1.out.fo.c0 ?_
 refine fs (.pointer (some ⟨g,0,none⟩)) rfl ?_
 refine fs (.pointer (some ⟨g,0,none⟩)) rfl ?_
 refine fs (.pointer (some ⟨g,0,none⟩)) rfl ?_
 refine fs (.pointer (some ⟨B,0,none⟩)) rfl ?_
 refine fs (.pointer (some ⟨g,0,none⟩)) rfl ?_
 refine Zap ?_
 replace A1:=hid (A1.out.below (Below.refl _ _).drew)
 clear z1
 have C2:=ZfU A1.out.fo
 refine cs rfl fun K9 HK9=>?_
 go_wp2_with (go_at_call 148;(with_reducible refine C2.mono ?_);intro e w2 h1;rcases A1.out.step h1 with ⟨rfl,e1,b1⟩ | ⟨y2,f2,l2,v2,rfl,e1,hv,G⟩;exact ⟨rfl,.stop e1 b1⟩;have A2:=hid G;have V2:=hid hv;clear h1 e1 G C2 hv)
 refine HK9.out _ _ (fun _=>A2.out.fo.c0) ?_
 have C3:=A2.out.fo.kcall (show Puts B lv N 152 .expr from HG.out.pu .expr) V2.out (by omega)
 refine cs rfl fun K9 HK9=>?_
 go_wp2_with (go_at_call 152;(with_reducible refine C3.mono ?_);intro e w3 h1;rcases A2.out.step h1 with ⟨rfl,e1,b1⟩ | ⟨y3,f3,l3,v3,rfl,e1,rfl,G⟩;exact ⟨rfl,.stop e1 b1⟩;have A3:=hid G;clear h1 e1 G C3)
 refine HK9.out _ _ (fun h=>absurd h (by decide)) ?_
 refine Zam ?_
 have z3:=A3.out.fo.c0
 have C4:=Zfg A3.out.fo (by omega)
 go_wp2_with (first
  | (go_at_call 86;(with_reducible refine C4.mono ?_);intro e w4 h1;rcases A3.out.step h1 with ⟨rfl,e1,b1⟩ | ⟨y4,f4,l4,v4,rfl,e1,rfl,G⟩;exact ⟨rfl,.stop e1 b1⟩;have A4:=hid G;have z4:=G.fo.c0;clear h1 e1 G C4 z3))
 refine r2 (fun W=>W.cell? ⟨g,0,none⟩=some (.pointer (some ⟨B,0,none⟩))) (fun j=>decide (j < 11)) [0,1,2,3,4,6,7,8,9,10] [5,11] A4.out.fo.c0 ?_
 refine fs (.pointer (some ⟨g,0,none⟩)) rfl ?_
 refine fs (.pointer (some ⟨g,0,none⟩)) rfl ?_
 refine fs (.pointer (some ⟨g,0,none⟩)) rfl ?_
 refine fs (.pointer (some ⟨B,0,none⟩)) rfl ?_
 refine fs (.pointer (some ⟨g,0,none⟩)) rfl ?_
 refine fs (.pointer (some ⟨g,0,none⟩)) rfl ?_
 refine fs (.pointer (some ⟨g,0,none⟩)) rfl ?_
 refine fs (.pointer (some ⟨g,0,none⟩)) rfl ?_
 refine fs (.pointer (some ⟨B,0,none⟩)) rfl ?_
 refine fs (.func (.func 152) #[.pointer (some ⟨B,0,none⟩)] #[]) rfl ?_
 refine Zap ?_
 replace A4:=hid (A4.out.below (Below.refl _ _).drew)
 clear z4
 have C5:=Zja A4.out.fo
 refine cs rfl fun K9 HK9=>?_
 go_wp2_with (go_at_call 50;(with_reducible refine C5.mono ?_);intro e w5 h1;rcases A4.out.step h1 with ⟨rfl,e1,b1⟩ | ⟨y5,f5,l5,v5,rfl,e1,hv,G⟩;exact ⟨rfl,.stop e1 b1⟩;have A5:=hid G;have V5:=hid hv;clear h1 e1 G C5 hv)
 refine HK9.out _ _ (fun _=>A5.out.fo.c0) ?_
 have C6:=A5.out.fo.klist (fun _ _=>by kernel_rfl) (show Puts B lv N 152 .expr from HG.out.pu .expr) ⟨#[40]⟩ ⟨#[41]⟩ S8.mLp S8.mRp rfl rfl (by decide) (by decide) (by decide) V5.out (by omega)
 refine cs rfl fun K9 HK9=>?_
 go_wp2_with (go_at_call 87;(with_reducible refine C6.mono ?_);intro e w6 h1;rcases A5.out.last h1 with ⟨rfl,e1,b1⟩ | ⟨y,f,l,v,rfl,rfl,e1,F,k⟩;exact ⟨rfl,.stop e1 b1⟩;have E6:=hid (And.intro e1 (And.intro F k));clear h1 e1 F k C6)
 refine HK9.out _ _ (fun h=>absurd h (by decide)) ?_
 refine Zam ?_
 go_end0
 exact .done E6.out.1 rfl (E6.out.2.1.less (by omega)) E6.out.2.2
theorem Zv5 (HG:Gd B lv N):Puts B lv (N + 1) 156 .set:=by
 intro w L r v x hw hx hd
 rw [← S8.Zck _ _ (Zex (by have:=HG.le;omega))]
 show Calls _ _ _ _ (WPost B lv w L r (S8.beg 28 (S8.Zqs S8.ideal) x))
 have HG:=hid HG
 have hk0:∀y∈x.c,dpt y < N:=fun y hy=>by have:=Zbv x y hy;omega
 have hB:=hw.size
 obtain ⟨s,rfl,hk1⟩:=hx
 have b0:Below w.heap.size w (w.alloc (.cells (nd5 x.k x.t x.n x.a s) 24)):=(Below.refl _ _).alloc (Nat.le_refl _) _
 have X1:NodeAt (w.alloc (.cells (nd5 x.k x.t x.n x.a s) 24)) B x (.agg (nd5 x.k x.t x.n x.a s)):=⟨s,rfl,ZaF hk1 (b0.mono (by omega))⟩
 have HB:=hid b0
 by_cases hk:x.k=28
 case neg=>
  have C0:=ZeE x _ 28 hk X1
  have HM:Hid (S8.beg 28 (S8.Zqs S8.ideal) x=none):=hid (by unfold S8.beg;rw [if_neg hk])
  clear hw hk1 hd hk hk0 b0 X1
  go_enter func156,ntmps156
  go_wp2_with (go_at_call 49;(with_reducible refine C0.mono ?_);rintro e w1 ⟨rfl,h1⟩;exact ⟨rfl,.stop HM.out ((HB.out.trans (h1.mono HB.out.size)).mono (by omega))⟩)
 have C0:=ZdN (r:=r) x _ 28 hk (hw.below b0) X1 hk0 (Zc9 (by have:=HG.out.le;omega))
 rw [show S8.beg 28 (S8.Zqs S8.ideal) x=S8.run (S8.Zqs S8.ideal) x from if_pos hk]
 have hq:(do S8.Zqs S8.ideal;S8.shut:S8.Wm Unit)=(do
   S8.Zqs S8.ideal
   S8.shut
   : S8.Wm Unit):=by
  simp only []
 have HQ:=hid hq
 clear hw hk1 hd hk hk0 b0 X1 hq
 go_enter func156,ntmps156
 go_wp2_with (go_at_call 49;(with_reducible refine C0.mono ?_);rintro e w0 ⟨g,rfl,F0,h1,hg⟩;have A0:=hid (At.node2 (w:=w) HQ.out F0 (HB.out.trans (h1.mono HB.out.size)) (by omega) (Nat.le_trans HB.out.size hg));have z0:=F0.c0;clear F0 h1 hg C0)
 have C1:=Zzb HG.out A0.out.fo (by omega)
 go_wp2_with (first
  | (go_at_call 211;(with_reducible refine C1.mono ?_);intro e w1 h1;rcases A0.out.step h1 with ⟨rfl,e1,b1⟩ | ⟨y1,f1,l1,v1,rfl,e1,rfl,G⟩;exact ⟨rfl,.node_stop e1 b1⟩;have A1:=hid G;have z1:=G.fo.c0;clear h1 e1 G C1 z0;have C2:=Zfi A1.out.fo)
  | (go_at_call 52;(with_reducible refine C2.mono ?_);intro e w2 h1;rcases A1.out.last h1 with ⟨rfl,e1,b1⟩ | ⟨y,f,l,v,rfl,rfl,e1,F,k⟩;exact ⟨rfl,.node_stop e1 b1⟩;have E2:=hid (And.intro e1 (And.intro F k));clear h1 e1 F k C2))
 go_end0
 exact .node_done E2.out.1 E2.out.2.1 (by omega) E2.out.2.2
end
open Go.RowKit L7
section
variable {B g lv N:Nat} {w w2:World} {L:List Tk} {f:S8.Fm} {r:Nat}
theorem Zxw (HG:Gd B lv N) (v:Value) (x:Nd) (hw:Wr w B lv L (r + wt x)) (hx:NodeAt w B x v) (hd:dpt x < N + 1) (hk:x.k=12) :
  Calls prog 147 #[.pointer (some ⟨B,0,none⟩),v] w (WPost B lv w L r (S8.run (S8.Zm7 S8.ideal 12) x)):=by
 have HG:=hid HG
 have hk0:∀y∈x.c,dpt y < N:=fun y hy=>by have:=Zbv x y hy;omega
 have hB:=hw.size
 obtain ⟨s,rfl,hk1⟩:=hx
 have b0:Below w.heap.size w (w.alloc (.cells (nd5 x.k x.t x.n x.a s) 24)):=(Below.refl _ _).alloc (Nat.le_refl _) _
 have C0:=Ze5 (r:=r) x _ (hw.below b0) (show NodeAt (w.alloc (.cells (nd5 x.k x.t x.n x.a s) 24)) B x (.agg (nd5 x.k x.t x.n x.a s)) from ⟨s,rfl,ZaF hk1 (b0.mono (by omega))⟩) hk0 (Zc9 (by have:=HG.out.le;omega))
 have HB:=hid b0
 have HI:=hid (Is.fresh w 24 (nd5 x.k x.t x.n x.a s))
 have hq:(do S8.Zm7 S8.ideal 12;S8.shut:S8.Wm Unit)=(do
   S8.ZaZ S8.Zm8
   S8.shut
   : S8.Wm Unit):=by
  first
  | rfl
  | simp (decide:=true) only [S8.Zm7,if_true,if_false,S8.ZaP,S8.ZgE]
 have HQ:=hid hq
 have HK:=hid (show x.k=12 from hk)
 clear hw hk1 hd hk hk0 b0 hq
 go_enter func147,ntmps147
 go_wp2_with (go_at_call 83;(with_reducible refine C0.mono ?_);rintro e w0 ⟨g,rfl,F0,h1,hg⟩;have A0:=hid (At.node2 (w:=w) HQ.out F0 (HB.out.trans (h1.mono HB.out.size)) (by omega) (Nat.le_trans HB.out.size hg));have z0:=F0.c0;have d0:w0.cell? ⟨w.heap.size,0,none⟩=some (.int .i64 12):=((HI.out.below h1 (by simp)).at_ 0).trans (by rw [← HK.out];rfl);clear F0 h1 hg C0)
 have C1:=ZkD 207 (fun t=>S8.basic t || ZiP t) S8.Zm8 (fun _ _=>by kernel_rfl) Zio Zs1 A0.out.fo (by omega)
 go_wp2_with (first
  | (go_at_call 144;(with_reducible refine C1.mono ?_);intro e w1 h1;rcases A0.out.step h1 with ⟨rfl,e1,b1⟩ | ⟨y1,f1,l1,v1,rfl,e1,rfl,G⟩;exact ⟨rfl,.node_stop e1 b1⟩;have A1:=hid G;have z1:=G.fo.c0;clear h1 e1 G C1 z0;have C2:=Zfi A1.out.fo)
  | (go_at_call 52;(with_reducible refine C2.mono ?_);intro e w2 h1;rcases A1.out.last h1 with ⟨rfl,e1,b1⟩ | ⟨y,f,l,v,rfl,rfl,e1,F,k⟩;exact ⟨rfl,.node_stop e1 b1⟩;have E2:=hid (And.intro e1 (And.intro F k));clear h1 e1 F k C2))
 go_end0
 exact .node_done E2.out.1 E2.out.2.1 (by omega) E2.out.2.2
theorem Zxv (HG:Gd B lv N) (v:Value) (x:Nd) (_:Wr w B lv L (r + wt x)) (_:NodeAt w B x v) (hd:dpt x < N + 1) (hk:x.k=13) :
  Calls prog 147 #[.pointer (some ⟨B,0,none⟩),v] w (WPost B lv w L r (S8.run (S8.Zm7 S8.ideal 13) x)):=
 (bad HG.le hd hk (by decide)).elim
theorem Zxu (HG:Gd B lv N) (v:Value) (x:Nd) (_:Wr w B lv L (r + wt x)) (_:NodeAt w B x v) (hd:dpt x < N + 1) (hk:x.k=14) :
  Calls prog 147 #[.pointer (some ⟨B,0,none⟩),v] w (WPost B lv w L r (S8.run (S8.Zm7 S8.ideal 14) x)):=
 (bad HG.le hd hk (by decide)).elim
theorem Zxt (HG:Gd B lv N) (v:Value) (x:Nd) (_:Wr w B lv L (r + wt x)) (_:NodeAt w B x v) (hd:dpt x < N + 1) (hk:x.k=15) :
  Calls prog 147 #[.pointer (some ⟨B,0,none⟩),v] w (WPost B lv w L r (S8.run (S8.Zm7 S8.ideal 15) x)):=
 (bad HG.le hd hk (by decide)).elim
theorem Zxs (HG:Gd B lv N) (v:Value) (x:Nd) (hw:Wr w B lv L (r + wt x)) (hx:NodeAt w B x v) (hd:dpt x < N + 1) (n12:x.k≠12) (n13:x.k≠13) (n14:x.k≠14) (n15:x.k≠15) :
  Calls prog 147 #[.pointer (some ⟨B,0,none⟩),v] w (WPost B lv w L r (S8.run (S8.Zm7 S8.ideal x.k) x)):=by
 have HG:=hid HG
 have hk0:∀y∈x.c,dpt y < N:=fun y hy=>by have:=Zbv x y hy;omega
 have hB:=hw.size
 obtain ⟨s,rfl,hk1⟩:=hx
 have b0:Below w.heap.size w (w.alloc (.cells (nd5 x.k x.t x.n x.a s) 24)):=(Below.refl _ _).alloc (Nat.le_refl _) _
 have C0:=Ze5 (r:=r) x _ (hw.below b0) (show NodeAt (w.alloc (.cells (nd5 x.k x.t x.n x.a s) 24)) B x (.agg (nd5 x.k x.t x.n x.a s)) from ⟨s,rfl,ZaF hk1 (b0.mono (by omega))⟩) hk0 (Zc9 (by have:=HG.out.le;omega))
 have HB:=hid b0
 have HI:=hid (Is.fresh w 24 (nd5 x.k x.t x.n x.a s))
 have HM:Hid (S8.run (S8.Zm7 S8.ideal x.k) x=none):=hid (by
  simp only [S8.Zm7,if_neg n12,if_neg n13,if_neg n14,if_neg n15]
  rfl)
 have m12:(x.k == 12)=false:=by simpa using n12
 have m13:(x.k == 13)=false:=by simpa using n13
 have m14:(x.k == 14)=false:=by simpa using n14
 have m15:(x.k == 15)=false:=by simpa using n15
 clear hw hk1 hd n12 n13 n14 n15 hk0 b0
 go_enter func147,ntmps147
 go_wp2_with (go_at_call 83;(with_reducible refine C0.mono ?_);rintro e w0 ⟨g,rfl,F0,h1,hg⟩;have H0:=hid h1;have d0:w0.cell? ⟨w.heap.size,0,none⟩=some (.int .i64 x.k):=(HI.out.below h1 (by simp)).at_ 0;clear F0 h1 hg C0)
 exact ⟨rfl,.stop HM.out ((HB.out.trans (H0.out.mono HB.out.size)).mono (by omega))⟩
theorem Zv4 (HG:Gd B lv N):Puts B lv (N + 1) 147 .typ:=by
 intro w L r v x hw hx hd
 rw [← S8.Zck _ _ (Zex (by have:=HG.le;omega))]
 show Calls _ _ _ _ (WPost B lv w L r (S8.run (S8.Zm7 S8.ideal x.k) x))
 by_cases n12:x.k=12
 ·rw [n12];exact Zxw HG v x hw hx hd n12
 by_cases n13:x.k=13
 ·rw [n13];exact Zxv HG v x hw hx hd n13
 by_cases n14:x.k=14
 ·rw [n14];exact Zxu HG v x hw hx hd n14
 by_cases n15:x.k=15
 ·rw [n15];exact Zxt HG v x hw hx hd n15
 exact Zxs HG v x hw hx hd n12 n13 n14 n15
theorem Zt2 (HG:Gd B lv N) (v:Value) (x:Nd) (hw:Wr w B lv L (r + wt x)) (hx:NodeAt w B x v) (hd:dpt x < N + 1) (hk:x.k=9) :
  Calls prog 154 #[.pointer (some ⟨B,0,none⟩),v] w (WPost B lv w L r (S8.run (S8.ZcZ S8.ideal 9) x)):=by
 have HG:=hid HG
 have hk0:∀y∈x.c,dpt y < N:=fun y hy=>by have:=Zbv x y hy;omega
 have hB:=hw.size
 obtain ⟨s,rfl,hk1⟩:=hx
 have b0:Below w.heap.size w (w.alloc (.cells (nd5 x.k x.t x.n x.a s) 24)):=(Below.refl _ _).alloc (Nat.le_refl _) _
 have C0:=Ze5 (r:=r) x _ (hw.below b0) (show NodeAt (w.alloc (.cells (nd5 x.k x.t x.n x.a s) 24)) B x (.agg (nd5 x.k x.t x.n x.a s)) from ⟨s,rfl,ZaF hk1 (b0.mono (by omega))⟩) hk0 (Zc9 (by have:=HG.out.le;omega))
 have HB:=hid b0
 have HI:=hid (Is.fresh w 24 (nd5 x.k x.t x.n x.a s))
 have hq:(do S8.ZcZ S8.ideal 9;S8.shut:S8.Wm Unit)=(do
   S8.tk (S8.nm S8.Zec)
   S8.ZaZ S8.ZbF
   S8.tk (S8.mkt S8.ZfH)
   let y4 ← S8.Zdr
   S8.put (S8.ideal .typ y4)
   S8.tk (S8.mkt S8.mEq)
   let y7 ← S8.Zdr
   S8.put (S8.ideal .expr y7)
   S8.shut
   : S8.Wm Unit):=by
  first
  | rfl
  | simp (decide:=true) only [S8.ZcZ,if_true,if_false,S8.ZaP]
 have HQ:=hid hq
 have HK:=hid (show x.k=9 from hk)
 clear hw hk1 hd hk hk0 b0 hq
 go_enter func154,ntmps154
 go_wp2_with (go_at_call 83;(with_reducible refine C0.mono ?_);rintro e w0 ⟨g,rfl,F0,h1,hg⟩;have A0:=hid (At.node2 (w:=w) HQ.out F0 (HB.out.trans (h1.mono HB.out.size)) (by omega) (Nat.le_trans HB.out.size hg));have z0:=F0.c0;have d0:w0.cell? ⟨w.heap.size,0,none⟩=some (.int .i64 9):=((HI.out.below h1 (by simp)).at_ 0).trans (by rw [← HK.out];rfl);clear F0 h1 hg C0)
 have C1:=A0.out.fo.name ⟨#[115,116,97,116,101]⟩ S8.Zec rfl (by omega) (by decide) (by decide)
 go_wp2_with (first
  | (go_at_call 85;(with_reducible refine C1.mono ?_);intro e w1 h1;rcases A0.out.step h1 with ⟨rfl,e1,b1⟩ | ⟨y1,f1,l1,v1,rfl,e1,rfl,G⟩;exact ⟨rfl,.node_stop e1 b1⟩;have A1:=hid G;have z1:=G.fo.c0;clear h1 e1 G C1 z0;have C2:=Zib A1.out.fo (by omega))
  | (go_at_call 91;(with_reducible refine C2.mono ?_);intro e w2 h1;rcases A1.out.step h1 with ⟨rfl,e1,b1⟩ | ⟨y2,f2,l2,v2,rfl,e1,rfl,G⟩;exact ⟨rfl,.node_stop e1 b1⟩;have A2:=hid G;have z2:=G.fo.c0;clear h1 e1 G C2 z1;have C3:=A2.out.fo.mark ⟨#[58]⟩ S8.ZfH rfl (by omega) (by decide) (by decide))
  | (go_at_call 146;(with_reducible refine C3.mono ?_);intro e w3 h1;rcases A2.out.step h1 with ⟨rfl,e1,b1⟩ | ⟨y3,f3,l3,v3,rfl,e1,rfl,G⟩;exact ⟨rfl,.node_stop e1 b1⟩;have A3:=hid G;have z3:=G.fo.c0;clear h1 e1 G C3 z2))
 refine r2 (fun W=>W.cell? ⟨g,0,none⟩=some (.pointer (some ⟨B,0,none⟩))) (fun j=>decide (j < 6)) [0,1,2,3,4] [5,6] A3.out.fo.c0 ?_
 refine fs (.pointer (some ⟨g,0,none⟩)) rfl ?_
 refine fs (.pointer (some ⟨g,0,none⟩)) rfl ?_
 refine fs (.pointer (some ⟨g,0,none⟩)) rfl ?_
 refine fs (.pointer (some ⟨B,0,none⟩)) rfl ?_
 refine fs (.pointer (some ⟨g,0,none⟩)) rfl ?_
 refine Zap ?_
 replace A3:=hid (A3.out.below (Below.refl _ _).drew)
 clear z3
 have C4:=ZfU A3.out.fo
 refine cs rfl fun K9 HK9=>?_
 go_wp2_with (go_at_call 148;(with_reducible refine C4.mono ?_);intro e w4 h1;rcases A3.out.step h1 with ⟨rfl,e1,b1⟩ | ⟨y4,f4,l4,v4,rfl,e1,hv,G⟩;exact ⟨rfl,.node_stop e1 b1⟩;have A4:=hid G;have V4:=hid hv;clear h1 e1 G C4 hv)
 refine HK9.out _ _ (fun _=>A4.out.fo.c0) ?_
 have C5:=A4.out.fo.kcall (show Puts B lv N 147 .typ from HG.out.pu .typ) V4.out (by omega)
 refine cs rfl fun K9 HK9=>?_
 go_wp2_with (go_at_call 147;(with_reducible refine C5.mono ?_);intro e w5 h1;rcases A4.out.step h1 with ⟨rfl,e1,b1⟩ | ⟨y5,f5,l5,v5,rfl,e1,rfl,G⟩;exact ⟨rfl,.node_stop e1 b1⟩;have A5:=hid G;clear h1 e1 G C5)
 refine HK9.out _ _ (fun h=>absurd h (by decide)) ?_
 refine Zam ?_
 have z5:=A5.out.fo.c0
 have C6:=A5.out.fo.mark ⟨#[61]⟩ S8.mEq rfl (by omega) (by decide) (by decide)
 go_wp2_with (first
  | (go_at_call 146;(with_reducible refine C6.mono ?_);intro e w6 h1;rcases A5.out.step h1 with ⟨rfl,e1,b1⟩ | ⟨y6,f6,l6,v6,rfl,e1,rfl,G⟩;exact ⟨rfl,.node_stop e1 b1⟩;have A6:=hid G;have z6:=G.fo.c0;clear h1 e1 G C6 z5))
 refine r2 (fun W=>W.cell? ⟨g,0,none⟩=some (.pointer (some ⟨B,0,none⟩))) (fun j=>decide (j < 6)) [0,1,2,3,4] [5,6] A6.out.fo.c0 ?_
 refine fs (.pointer (some ⟨g,0,none⟩)) rfl ?_
 refine fs (.pointer (some ⟨g,0,none⟩)) rfl ?_
 refine fs (.pointer (some ⟨g,0,none⟩)) rfl ?_
 refine fs (.pointer (some ⟨B,0,none⟩)) rfl ?_
 refine fs (.pointer (some ⟨g,0,none⟩)) rfl ?_
 refine Zap ?_
 replace A6:=hid (A6.out.below (Below.refl _ _).drew)
 clear z6
 have C7:=ZfU A6.out.fo
 refine cs rfl fun K9 HK9=>?_
 go_wp2_with (go_at_call 148;(with_reducible refine C7.mono ?_);intro e w7 h1;rcases A6.out.step h1 with ⟨rfl,e1,b1⟩ | ⟨y7,f7,l7,v7,rfl,e1,hv,G⟩;exact ⟨rfl,.node_stop e1 b1⟩;have A7:=hid G;have V7:=hid hv;clear h1 e1 G C7 hv)
 refine HK9.out _ _ (fun _=>A7.out.fo.c0) ?_
 have C8:=A7.out.fo.kcall (show Puts B lv N 152 .expr from HG.out.pu .expr) V7.out (by omega)
 refine cs rfl fun K9 HK9=>?_
 go_wp2_with (go_at_call 152;(with_reducible refine C8.mono ?_);intro e w8 h1;rcases A7.out.step h1 with ⟨rfl,e1,b1⟩ | ⟨y8,f8,l8,v8,rfl,e1,rfl,G⟩;exact ⟨rfl,.node_stop e1 b1⟩;have A8:=hid G;clear h1 e1 G C8)
 refine HK9.out _ _ (fun h=>absurd h (by decide)) ?_
 refine Zam ?_
 have z8:=A8.out.fo.c0
 have C9:=Zfi A8.out.fo
 go_wp2_with (first
  | (go_at_call 52;(with_reducible refine C9.mono ?_);intro e w9 h1;rcases A8.out.last h1 with ⟨rfl,e1,b1⟩ | ⟨y,f,l,v,rfl,rfl,e1,F,k⟩;exact ⟨rfl,.node_stop e1 b1⟩;have E9:=hid (And.intro e1 (And.intro F k));clear h1 e1 F k C9))
 go_end0
 exact .node_done E9.out.1 E9.out.2.1 (by omega) E9.out.2.2
theorem ZrJ (HG:Gd B lv N) (v:Value) (x:Nd) (hw:Wr w B lv L (r + wt x)) (hx:NodeAt w B x v) (hd:dpt x < N + 1) (hk:x.k=10) :
  Calls prog 154 #[.pointer (some ⟨B,0,none⟩),v] w (WPost B lv w L r (S8.run (S8.ZcZ S8.ideal 10) x)):=by
 have HG:=hid HG
 have hk0:∀y∈x.c,dpt y < N:=fun y hy=>by have:=Zbv x y hy;omega
 have hB:=hw.size
 obtain ⟨s,rfl,hk1⟩:=hx
 have b0:Below w.heap.size w (w.alloc (.cells (nd5 x.k x.t x.n x.a s) 24)):=(Below.refl _ _).alloc (Nat.le_refl _) _
 have C0:=Ze5 (r:=r) x _ (hw.below b0) (show NodeAt (w.alloc (.cells (nd5 x.k x.t x.n x.a s) 24)) B x (.agg (nd5 x.k x.t x.n x.a s)) from ⟨s,rfl,ZaF hk1 (b0.mono (by omega))⟩) hk0 (Zc9 (by have:=HG.out.le;omega))
 have HB:=hid b0
 have HI:=hid (Is.fresh w 24 (nd5 x.k x.t x.n x.a s))
 have hq:(do S8.ZcZ S8.ideal 10;S8.shut:S8.Wm Unit)=(do
   S8.tk (S8.nm S8.wOn)
   S8.ZaZ S8.Zcf
   S8.ZcP S8.ideal
   let y4 ← S8.Zdr
   S8.put (S8.ideal .block y4)
   S8.shut
   : S8.Wm Unit):=by
  first
  | rfl
  | simp (decide:=true) only [S8.ZcZ,if_true,if_false,S8.ZaP]
 have HQ:=hid hq
 have HK:=hid (show x.k=10 from hk)
 clear hw hk1 hd hk hk0 b0 hq
 go_enter func154,ntmps154
 go_wp2_with (go_at_call 83;(with_reducible refine C0.mono ?_);rintro e w0 ⟨g,rfl,F0,h1,hg⟩;have A0:=hid (At.node2 (w:=w) HQ.out F0 (HB.out.trans (h1.mono HB.out.size)) (by omega) (Nat.le_trans HB.out.size hg));have z0:=F0.c0;have d0:w0.cell? ⟨w.heap.size,0,none⟩=some (.int .i64 10):=((HI.out.below h1 (by simp)).at_ 0).trans (by rw [← HK.out];rfl);clear F0 h1 hg C0)
 have C1:=A0.out.fo.name ⟨#[111,110]⟩ S8.wOn rfl (by omega) (by decide) (by decide)
 go_wp2_with (first
  | (go_at_call 85;(with_reducible refine C1.mono ?_);intro e w1 h1;rcases A0.out.step h1 with ⟨rfl,e1,b1⟩ | ⟨y1,f1,l1,v1,rfl,e1,rfl,G⟩;exact ⟨rfl,.node_stop e1 b1⟩;have A1:=hid G;have z1:=G.fo.c0;clear h1 e1 G C1 z0;have C2:=Zfg A1.out.fo (by omega))
  | (go_at_call 86;(with_reducible refine C2.mono ?_);intro e w2 h1;rcases A1.out.step h1 with ⟨rfl,e1,b1⟩ | ⟨y2,f2,l2,v2,rfl,e1,rfl,G⟩;exact ⟨rfl,.node_stop e1 b1⟩;have A2:=hid G;have z2:=G.fo.c0;clear h1 e1 G C2 z1;have C3:=ZhM HG.out A2.out.fo (by omega))
  | (go_at_call 151;(with_reducible refine C3.mono ?_);intro e w3 h1;rcases A2.out.step h1 with ⟨rfl,e1,b1⟩ | ⟨y3,f3,l3,v3,rfl,e1,rfl,G⟩;exact ⟨rfl,.node_stop e1 b1⟩;have A3:=hid G;have z3:=G.fo.c0;clear h1 e1 G C3 z2))
 refine r2 (fun W=>W.cell? ⟨g,0,none⟩=some (.pointer (some ⟨B,0,none⟩))) (fun j=>decide (j < 6)) [0,1,2,3,4] [5,6] A3.out.fo.c0 ?_
 refine fs (.pointer (some ⟨g,0,none⟩)) rfl ?_
 refine fs (.pointer (some ⟨g,0,none⟩)) rfl ?_
 refine fs (.pointer (some ⟨g,0,none⟩)) rfl ?_
 refine fs (.pointer (some ⟨B,0,none⟩)) rfl ?_
 refine fs (.pointer (some ⟨g,0,none⟩)) rfl ?_
 refine Zap ?_
 replace A3:=hid (A3.out.below (Below.refl _ _).drew)
 clear z3
 have C4:=ZfU A3.out.fo
 refine cs rfl fun K9 HK9=>?_
 go_wp2_with (go_at_call 148;(with_reducible refine C4.mono ?_);intro e w4 h1;rcases A3.out.step h1 with ⟨rfl,e1,b1⟩ | ⟨y4,f4,l4,v4,rfl,e1,hv,G⟩;exact ⟨rfl,.node_stop e1 b1⟩;have A4:=hid G;have V4:=hid hv;clear h1 e1 G C4 hv)
 refine HK9.out _ _ (fun _=>A4.out.fo.c0) ?_
 have C5:=A4.out.fo.kcall (show Puts B lv N 219 .block from HG.out.pu .block) V4.out (by omega)
 refine cs rfl fun K9 HK9=>?_
 go_wp2_with (go_at_call 219;(with_reducible refine C5.mono ?_);intro e w5 h1;rcases A4.out.step h1 with ⟨rfl,e1,b1⟩ | ⟨y5,f5,l5,v5,rfl,e1,rfl,G⟩;exact ⟨rfl,.node_stop e1 b1⟩;have A5:=hid G;clear h1 e1 G C5)
 refine HK9.out _ _ (fun h=>absurd h (by decide)) ?_
 refine Zam ?_
 have z5:=A5.out.fo.c0
 have C6:=Zfi A5.out.fo
 go_wp2_with (first
  | (go_at_call 52;(with_reducible refine C6.mono ?_);intro e w6 h1;rcases A5.out.last h1 with ⟨rfl,e1,b1⟩ | ⟨y,f,l,v,rfl,rfl,e1,F,k⟩;exact ⟨rfl,.node_stop e1 b1⟩;have E6:=hid (And.intro e1 (And.intro F k));clear h1 e1 F k C6))
 go_end0
 exact .node_done E6.out.1 E6.out.2.1 (by omega) E6.out.2.2
theorem ZrI (HG:Gd B lv N) (v:Value) (x:Nd) (hw:Wr w B lv L (r + wt x)) (hx:NodeAt w B x v) (hd:dpt x < N + 1) (n9:x.k≠9) (n10:x.k≠10) :
  Calls prog 154 #[.pointer (some ⟨B,0,none⟩),v] w (WPost B lv w L r (S8.run (S8.ZcZ S8.ideal x.k) x)):=by
 have HG:=hid HG
 have hk0:∀y∈x.c,dpt y < N:=fun y hy=>by have:=Zbv x y hy;omega
 have hB:=hw.size
 obtain ⟨s,rfl,hk1⟩:=hx
 have b0:Below w.heap.size w (w.alloc (.cells (nd5 x.k x.t x.n x.a s) 24)):=(Below.refl _ _).alloc (Nat.le_refl _) _
 have C0:=Ze5 (r:=r) x _ (hw.below b0) (show NodeAt (w.alloc (.cells (nd5 x.k x.t x.n x.a s) 24)) B x (.agg (nd5 x.k x.t x.n x.a s)) from ⟨s,rfl,ZaF hk1 (b0.mono (by omega))⟩) hk0 (Zc9 (by have:=HG.out.le;omega))
 have HB:=hid b0
 have HI:=hid (Is.fresh w 24 (nd5 x.k x.t x.n x.a s))
 have HM:Hid (S8.run (S8.ZcZ S8.ideal x.k) x=none):=hid (by
  simp only [S8.ZcZ,if_neg n9,if_neg n10]
  rfl)
 have m9:(x.k == 9)=false:=by simpa using n9
 have m10:(x.k == 10)=false:=by simpa using n10
 clear hw hk1 hd n9 n10 hk0 b0
 go_enter func154,ntmps154
 go_wp2_with (go_at_call 83;(with_reducible refine C0.mono ?_);rintro e w0 ⟨g,rfl,F0,h1,hg⟩;have H0:=hid h1;have d0:w0.cell? ⟨w.heap.size,0,none⟩=some (.int .i64 x.k):=(HI.out.below h1 (by simp)).at_ 0;clear F0 h1 hg C0)
 exact ⟨rfl,.stop HM.out ((HB.out.trans (H0.out.mono HB.out.size)).mono (by omega))⟩
theorem ZpL (HG:Gd B lv N):Puts B lv (N + 1) 154 .member:=by
 intro w L r v x hw hx hd
 rw [← S8.Zck _ _ (Zex (by have:=HG.le;omega))]
 show Calls _ _ _ _ (WPost B lv w L r (S8.run (S8.ZcZ S8.ideal x.k) x))
 by_cases n9:x.k=9
 ·rw [n9];exact Zt2 HG v x hw hx hd n9
 by_cases n10:x.k=10
 ·rw [n10];exact ZrJ HG v x hw hx hd n10
 exact ZrI HG v x hw hx hd n9 n10
end
end Go.Proofs.YtaheffiglmglbaaGreatDoor
