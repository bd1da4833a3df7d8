import Derived.Test.YtaheffiglmglbaaGreatDoorKWb
import Derived.Test.YtaheffiglmglbaaGreatDoorKWc
/- WrW, WrX, WrY. -/
set_option maxHeartbeats 8000000
set_option maxRecDepth 20000
namespace Go.Proofs.YtaheffiglmglbaaGreatDoor
open Go.Proofs.Tryz
open Go.RowKit L7
section
variable {B g lv N:Nat} {w w2:World} {L:List Tk} {f:S8.Fm} {r:Nat}
theorem Zw6 (HG:Gd B lv N) (F:Fo w B g lv N f L r) (hr:900≤r) :
  Calls prog 155 #[.pointer (some ⟨g,0,none⟩)] w (FPost B g lv N w L (fun _=>r - 900) (S8.Zki S8.ideal f) isU):=by
 have HG:=hid HG
 have hq:S8.Zki S8.ideal=(do
   S8.tk (S8.nm S8.Za2)
   S8.tk (S8.nm S8.ZfI)
   S8.ZaZ S8.Zcf
   let y4 ← S8.num
   if y4=0 then (do
         S8.ZcP S8.ideal
         S8.tk (S8.mkt S8.mEq)
         let y7 ← S8.Zdr
         S8.put (S8.ideal .expr y7)
     )
    else if y4=1 then (do
      S8.tk (S8.mkt S8.ZdG)
      let y10 ← S8.Zdr
      S8.put (S8.beg 24 (S8.ZaZ S8.Zcf) y10)
      S8.ZcP S8.ideal
      S8.tk (S8.mkt S8.mEq)
      let y16 ← S8.Zdr
      S8.put (S8.ideal .expr y16)
     )
    else S8.no
   : S8.Wm Unit):=by
  first
  | rfl
  | simp only [S8.Zki,S8.ZaP,S8.Zkm,S8.ZgE,S8.ZdO]
 have A0:=hid (At.start2 hq F)
 have z0:=F.c0
 clear hq F
 go_enter func155,ntmps155
 have C1:=A0.out.fo.name ⟨#[99,111,110,118,101,114,116]⟩ S8.Za2 rfl (by omega) (by decide) (by decide)
 go_wp2_with (first
  | (go_at_call 85;(with_reducible refine C1.mono ?_);intro e w1 h1;rcases A0.out.step h1 with ⟨rfl,e1,b1⟩ | ⟨y1,f1,l1,v1,rfl,e1,rfl,G⟩;exact ⟨rfl,.stop e1 b1⟩;have A1:=hid G;have z1:=G.fo.c0;clear h1 e1 G C1 z0;have C2:=A1.out.fo.name ⟨#[116,121,112,101]⟩ S8.ZfI rfl (by omega) (by decide) (by decide))
  | (go_at_call 85;(with_reducible refine C2.mono ?_);intro e w2 h1;rcases A1.out.step h1 with ⟨rfl,e1,b1⟩ | ⟨y2,f2,l2,v2,rfl,e1,rfl,G⟩;exact ⟨rfl,.stop e1 b1⟩;have A2:=hid G;have z2:=G.fo.c0;clear h1 e1 G C2 z1;have C3:=Zfg A2.out.fo (by omega))
  | (go_at_call 86;(with_reducible refine C3.mono ?_);intro e w3 h1;rcases A2.out.step h1 with ⟨rfl,e1,b1⟩ | ⟨y3,f3,l3,v3,rfl,e1,rfl,G⟩;exact ⟨rfl,.stop e1 b1⟩;have A3:=hid G;have z3:=G.fo.c0;clear h1 e1 G C3 z2;have C4:=ZtU A3.out.fo)
  | (go_at_call 159;(with_reducible refine C4.mono ?_);intro e w4 h1;rcases A3.out.step h1 with ⟨rfl,e1,b1⟩ | ⟨y4,f4,l4,v4,rfl,e1,⟨rfl,hn4⟩,G⟩;exact ⟨rfl,.stop e1 b1⟩;have A4:=hid G;have z4:=G.fo.c0;clear h1 e1 G C4 z3;rcases ways2 y4 0 1 with rfl | rfl | ⟨m0,m1⟩))
 ·
  replace A4:=hid ((A4.out).pos (by first | trivial | decide))
  have C5:=ZhM HG.out A4.out.fo (by omega)
  go_wp2_with (first
   | (go_at_call 151;(with_reducible refine C5.mono ?_);intro e w5 h1;rcases A4.out.step h1 with ⟨rfl,e1,b1⟩ | ⟨y5,f5,l5,v5,rfl,e1,rfl,G⟩;exact ⟨rfl,.stop e1 b1⟩;have A5:=hid G;have z5:=G.fo.c0;clear h1 e1 G C5 z4;have C6:=A5.out.fo.mark ⟨#[61]⟩ S8.mEq rfl (by omega) (by decide) (by decide))
   | (go_at_call 146;(with_reducible refine C6.mono ?_);intro e w6 h1;rcases A5.out.step h1 with ⟨rfl,e1,b1⟩ | ⟨y6,f6,l6,v6,rfl,e1,rfl,G⟩;exact ⟨rfl,.stop e1 b1⟩;have A6:=hid G;have z6:=G.fo.c0;clear h1 e1 G C6 z5))
  refine r2 (fun W=>W.cell? ⟨g,0,none⟩=some (.pointer (some ⟨B,0,none⟩))) (fun j=>decide (j < 6)) [0,1,2,3,4] [5,6] A6.out.fo.c0 ?_
  refine fs (.pointer (some ⟨g,0,none⟩)) rfl ?_
  refine fs (.pointer (some ⟨g,0,none⟩)) rfl ?_
  refine fs (.pointer (some ⟨g,0,none⟩)) rfl ?_
  refine fs (.pointer (some ⟨B,0,none⟩)) rfl ?_
  refine fs (.pointer (some ⟨g,0,none⟩)) rfl ?_
  refine Zap ?_
  replace A6:=hid (A6.out.below (Below.refl _ _).drew)
  clear z6
  have C7:=ZfU A6.out.fo
  refine cs rfl fun K9 HK9=>?_
  go_wp2_with (go_at_call 148;(with_reducible refine C7.mono ?_);intro e w7 h1;rcases A6.out.step h1 with ⟨rfl,e1,b1⟩ | ⟨y7,f7,l7,v7,rfl,e1,hv,G⟩;exact ⟨rfl,.stop e1 b1⟩;have A7:=hid G;have V7:=hid hv;clear h1 e1 G C7 hv)
  refine HK9.out _ _ (fun _=>A7.out.fo.c0) ?_
  have C8:=A7.out.fo.kcall (show Puts B lv N 152 .expr from HG.out.pu .expr) V7.out (by omega)
  refine cs rfl fun K9 HK9=>?_
  go_wp2_with (go_at_call 152;(with_reducible refine C8.mono ?_);intro e w8 h1;rcases A7.out.last h1 with ⟨rfl,e1,b1⟩ | ⟨y,f,l,v,rfl,rfl,e1,F,k⟩;exact ⟨rfl,.stop e1 b1⟩;have E8:=hid (And.intro e1 (And.intro F k));clear h1 e1 F k C8)
  refine HK9.out _ _ (fun h=>absurd h (by decide)) ?_
  refine Zam ?_
  go_end0
  exact .done E8.out.1 rfl (E8.out.2.1.less (by omega)) E8.out.2.2
 ·
  replace A4:=hid (((A4.out).neg (by decide)).pos (by first | trivial | decide))
  have C9:=A4.out.fo.mark ⟨#[46]⟩ S8.ZdG rfl (by omega) (by decide) (by decide)
  go_wp2_with (first
   | (go_at_call 146;(with_reducible refine C9.mono ?_);intro e w9 h1;rcases A4.out.step h1 with ⟨rfl,e1,b1⟩ | ⟨y9,f9,l9,v9,rfl,e1,rfl,G⟩;exact ⟨rfl,.stop e1 b1⟩;have A9:=hid G;have z9:=G.fo.c0;clear h1 e1 G C9 z4))
  refine r2 (fun W=>W.cell? ⟨g,0,none⟩=some (.pointer (some ⟨B,0,none⟩))) (fun j=>decide (j < 6)) [0,1,2,3,4] [5,6,7] A9.out.fo.c0 ?_
  refine fs (.pointer (some ⟨g,0,none⟩)) rfl ?_
  refine fs (.pointer (some ⟨g,0,none⟩)) rfl ?_
  refine fs (.pointer (some ⟨g,0,none⟩)) rfl ?_
  refine fs (.pointer (some ⟨B,0,none⟩)) rfl ?_
  refine fs (.pointer (some ⟨g,0,none⟩)) rfl ?_
  refine Zap ?_
  replace A9:=hid (A9.out.below (Below.refl _ _).drew)
  clear z9
  have C10:=ZfU A9.out.fo
  refine cs rfl fun K9 HK9=>?_
  go_wp2_with (go_at_call 148;(with_reducible refine C10.mono ?_);intro e w10 h1;rcases A9.out.step h1 with ⟨rfl,e1,b1⟩ | ⟨y10,f10,l10,v10,rfl,e1,hv,G⟩;exact ⟨rfl,.stop e1 b1⟩;have A10:=hid G;have V10:=hid hv;clear h1 e1 G C10 hv)
  refine HK9.out _ _ (fun _=>A10.out.fo.c0) ?_
  by_cases hk10:y10.k=24
  case neg=>
   have C9:=ZeE y10 v10 24 hk10 V10.out.1
   have HD:=hid (Zxb (p:=S8.ZaZ S8.Zcf) hk10)
   have hs9:=A10.out.fo.wr.size
   clear hk10
   refine Zad rfl (fun K9 hK9=>?_)
   clear hK9
   go_wp2_with (go_at_call 49;(with_reducible refine C9.mono ?_);rintro e w9 ⟨rfl,h1⟩;exact ⟨rfl,.stop (A10.out.inner_stop HD.out (h1.mono (by omega))).1 (A10.out.inner_stop HD.out (h1.mono (by omega))).2⟩)
  obtain ⟨q10,rw10,rq10⟩:=A10.out.fo.room y10 (by omega)
  have C11:=ZdN (N:=N) y10 v10 24 hk10 rw10 V10.out.1 (fun y hy=>by have:=Zbv _ y hy;have:=V10.out.2;omega) (Zc9 (by have:=V10.out.2;have:=HG.out.le;omega))
  have HK10:=hid hk10
  have hs10:=A10.out.fo.wr.size
  clear hk10 rw10
  refine cs rfl fun K9 HK9=>?_
  go_wp2_with (go_at_call 49;(with_reducible refine C11.mono ?_);rintro e w11 ⟨h11,rfl,F,h1,hg⟩;have I11:=hid (At.node2 (p:=S8.ZaZ S8.Zcf) (w:=w10) ((show (do S8.ZaZ S8.Zcf;S8.shut:S8.Wm Unit)=(do
     S8.ZaZ S8.Zcf
     S8.shut
     : S8.Wm Unit) from by first | rfl | simp only [S8.ZaP])) F h1 (by omega) hg);have HG11:=hid hg;clear F h1 hg C11)
  refine HK9.out _ _ (fun h=>absurd h (by decide)) ?_
  refine cs rfl fun K9 HK9=>?_
  go_wp2_with fail
  refine HK9.out _ _ (fun h=>absurd h (by decide)) ?_
  refine Zam ?_
  have z11:=I11.out.fo.c0
  have C12:=Zfg I11.out.fo (by omega)
  go_wp2_with (first
   | (go_at_call 86;(with_reducible refine C12.mono ?_);intro e w12 h1;rcases I11.out.step h1 with ⟨rfl,e1,b1⟩ | ⟨y12,f12,l12,v12,rfl,e1,rfl,G⟩;exact ⟨rfl,.stop (A10.out.inner_stop (ZiV HK10.out e1) b1).1 (A10.out.inner_stop (ZiV HK10.out e1) b1).2⟩;have I12:=hid G;have z12:=G.fo.c0;clear h1 e1 G C12 z11;have C13:=Zfi I12.out.fo)
   | (go_at_call 52;(with_reducible refine C13.mono ?_);intro e w13 h1;rcases I12.out.last h1 with ⟨rfl,e1,b1⟩ | ⟨y,f,l,v,rfl,rfl,e1,F,k⟩;exact ⟨rfl,.stop (A10.out.inner_stop (ZiV HK10.out e1) b1).1 (A10.out.inner_stop (ZiV HK10.out e1) b1).2⟩;have E13:=hid (And.intro e1 (And.intro F k));clear h1 e1 F k C13 z12))
  have A13:=hid (A10.out.inner_done (r':=q10) (ZuJ HK10.out E13.out.1) (E13.out.2.1.wr.less (by omega)) (E13.out.2.2.nil fun j hj h=>by omega))
  have z13:=A13.out.fo.c0
  have C14:=ZhM HG.out A13.out.fo (by omega)
  go_wp2_with (first
   | (go_at_call 151;(with_reducible refine C14.mono ?_);intro e w14 h1;rcases A13.out.step h1 with ⟨rfl,e1,b1⟩ | ⟨y14,f14,l14,v14,rfl,e1,rfl,G⟩;exact ⟨rfl,.stop e1 b1⟩;have A14:=hid G;have z14:=G.fo.c0;clear h1 e1 G C14 z13;have C15:=A14.out.fo.mark ⟨#[61]⟩ S8.mEq rfl (by omega) (by decide) (by decide))
   | (go_at_call 146;(with_reducible refine C15.mono ?_);intro e w15 h1;rcases A14.out.step h1 with ⟨rfl,e1,b1⟩ | ⟨y15,f15,l15,v15,rfl,e1,rfl,G⟩;exact ⟨rfl,.stop e1 b1⟩;have A15:=hid G;have z15:=G.fo.c0;clear h1 e1 G C15 z14))
  refine r2 (fun W=>W.cell? ⟨g,0,none⟩=some (.pointer (some ⟨B,0,none⟩))) (fun j=>decide (j < 6)) [0,1,2,3,4] [5,6] A15.out.fo.c0 ?_
  refine fs (.pointer (some ⟨g,0,none⟩)) rfl ?_
  refine fs (.pointer (some ⟨g,0,none⟩)) rfl ?_
  refine fs (.pointer (some ⟨g,0,none⟩)) rfl ?_
  refine fs (.pointer (some ⟨B,0,none⟩)) rfl ?_
  refine fs (.pointer (some ⟨g,0,none⟩)) rfl ?_
  refine Zap ?_
  replace A15:=hid (A15.out.below (Below.refl _ _).drew)
  clear z15
  have C16:=ZfU A15.out.fo
  refine cs rfl fun K9 HK9=>?_
  go_wp2_with (go_at_call 148;(with_reducible refine C16.mono ?_);intro e w16 h1;rcases A15.out.step h1 with ⟨rfl,e1,b1⟩ | ⟨y16,f16,l16,v16,rfl,e1,hv,G⟩;exact ⟨rfl,.stop e1 b1⟩;have A16:=hid G;have V16:=hid hv;clear h1 e1 G C16 hv)
  refine HK9.out _ _ (fun _=>A16.out.fo.c0) ?_
  have C17:=A16.out.fo.kcall (show Puts B lv N 152 .expr from HG.out.pu .expr) V16.out (by omega)
  refine cs rfl fun K9 HK9=>?_
  go_wp2_with (go_at_call 152;(with_reducible refine C17.mono ?_);intro e w17 h1;rcases A16.out.last h1 with ⟨rfl,e1,b1⟩ | ⟨y,f,l,v,rfl,rfl,e1,F,k⟩;exact ⟨rfl,.stop e1 b1⟩;have E17:=hid (And.intro e1 (And.intro F k));clear h1 e1 F k C17)
  refine HK9.out _ _ (fun h=>absurd h (by decide)) ?_
  refine Zam ?_
  go_end0
  exact .done E17.out.1 rfl (E17.out.2.1.less (by omega)) E17.out.2.2
 ·
  replace A4:=hid (((A4.out).neg (by simpa using m0)).neg (by simpa using m1))
  exact ⟨rfl,.stop A4.out.dead A4.out.fr.below⟩
theorem ZtM (HG:Gd B lv N) (F:Fo w B g lv N f L r) (hr:300≤r) :
  Calls prog 153 #[.pointer (some ⟨g,0,none⟩)] w (FPost B g lv N w L (fun _=>r - 300) (S8.Zjd f) isU):=by
 have HG:=hid HG
 have hq:S8.Zjd=(do
   let y1 ← S8.num
   if y1=0 then (do
         pure ()
     )
    else if y1 = -1 then (do
      S8.tk (S8.nm S8.ZbU)
     )
    else (do
      S8.tk (S8.nm S8.Zcl)
      S8.ZjQ (S8.int (y1 - 1)))
   : S8.Wm Unit):=by
  first
  | rfl
  | rfl
 have A0:=hid (At.start2 hq F)
 have z0:=F.c0
 clear hq F
 go_enter func153,ntmps153
 have C1:=ZtU A0.out.fo
 go_wp2_with (first
  | (go_at_call 159;(with_reducible refine C1.mono ?_);intro e w1 h1;rcases A0.out.step h1 with ⟨rfl,e1,b1⟩ | ⟨y1,f1,l1,v1,rfl,e1,⟨rfl,hn1⟩,G⟩;exact ⟨rfl,.stop e1 b1⟩;have A1:=hid G;have z1:=G.fo.c0;clear h1 e1 G C1 z0;rcases ways2 y1 0 (-1) with rfl | rfl | ⟨m0,m1⟩))
 ·
  replace A1:=hid ((A1.out).pos (by first | trivial | decide))
  go_end0
  exact .done A1.out.unit rfl (A1.out.fo.less (by omega)) A1.out.fr
 ·
  replace A1:=hid (((A1.out).neg (by decide)).pos (by first | trivial | decide))
  have C2:=A1.out.fo.name ⟨#[101,115,99,97,108,97,116,101]⟩ S8.ZbU rfl (by omega) (by decide) (by decide)
  go_wp2_with (first
   | (go_at_call 85;(with_reducible refine C2.mono ?_);intro e w2 h1;rcases A1.out.last h1 with ⟨rfl,e1,b1⟩ | ⟨y,f,l,v,rfl,rfl,e1,F,k⟩;exact ⟨rfl,.stop e1 b1⟩;have E2:=hid (And.intro e1 (And.intro F k));clear h1 e1 F k C2 z1))
  go_end0
  exact .done E2.out.1 rfl (E2.out.2.1.less (by omega)) E2.out.2.2
 ·
  replace A1:=hid (((A1.out).neg (by simpa using m0)).neg (by simpa using m1))
  by_cases hmin:y1 = -9223372036854775808
  ·subst hmin
   have C3:=A1.out.fo.name ⟨#[114,101,115,116,97,114,116]⟩ S8.Zcl rfl (by omega) (by decide) (by decide)
   go_wp2_with (first
    | (go_at_call 85;(with_reducible refine C3.mono ?_);intro e w3 h1;rcases A1.out.step h1 with ⟨rfl,e1,b1⟩ | ⟨y3,f3,l3,v3,rfl,e1,rfl,G⟩;exact ⟨rfl,.stop e1 b1⟩;have A3:=hid G;have z3:=G.fo.c0;clear h1 e1 G C3 z1;have C4:=A3.out.fo.int (wrap64 (-9223372036854775809)) (by omega);have HF:=hid (A3.out.fails0 (S8.tkIf_none (by decide))))
    | (go_at_call 158;(with_reducible refine C4.mono ?_);intro e w4 h1;rcases h1.ways with ⟨rfl,e1,b1⟩ | ⟨y,f,l,v,-,e1,-⟩;exact ⟨rfl,.stop HF.out (A3.out.fr.below.trans b1)⟩;rw [S8.tkIf_none (x:=S8.int (wrap64 (-9223372036854775809))) (by kernel_rfl)] at e1;cases e1))
  have lo9:(-9223372036854775808:Int)≤y1 - 1:=by have:=hn1.1;omega
  have hi9:y1 - 1≤(9223372036854775807:Int):=by have:=hn1.2;omega
  have C5:=A1.out.fo.name ⟨#[114,101,115,116,97,114,116]⟩ S8.Zcl rfl (by omega) (by decide) (by decide)
  go_wp2_with (first
   | (go_at_call 85;(with_reducible refine C5.mono ?_);intro e w5 h1;rcases A1.out.step h1 with ⟨rfl,e1,b1⟩ | ⟨y5,f5,l5,v5,rfl,e1,rfl,G⟩;exact ⟨rfl,.stop e1 b1⟩;have A5:=hid G;have z5:=G.fo.c0;clear h1 e1 G C5 z1;have C6:=A5.out.fo.int (y1 - 1) (by omega))
   | (go_at_call 158;(with_reducible refine C6.mono ?_);intro e w6 h1;rcases A5.out.last h1 with ⟨rfl,e1,b1⟩ | ⟨y,f,l,v,rfl,rfl,e1,F,k⟩;exact ⟨rfl,.stop e1 b1⟩;have E6:=hid (And.intro e1 (And.intro F k));clear h1 e1 F k C6 z5))
  go_end0
  exact .done E6.out.1 rfl (E6.out.2.1.less (by omega)) E6.out.2.2
end
open Go.RowKit L7
section
variable {B g lv N:Nat} {w w2:World} {L:List Tk} {f:S8.Fm} {r:Nat}
theorem ZsE (HG:Gd B lv N) (F:Fo w B g lv N f L r) (hr:1000≤r) :
  Calls prog 95 #[.pointer (some ⟨g,0,none⟩),.int .i64 70] w (FPost B g lv N w L (fun _=>r - 1000) (S8.Zcq S8.ideal 70 f) isU):=by
 have HG:=hid HG
 have hq:S8.Zcq S8.ideal 70=(do
   S8.Zki S8.ideal
   : S8.Wm Unit):=by
  first
  | rfl
  | simp (decide:=true) only [S8.Zcq,if_true,if_false,S8.ZaP,S8.ZgE]
 have A0:=hid (At.start2 hq F)
 have z0:=F.c0
 clear hq F
 go_enter func95,ntmps95
 have C1:=Zw6 HG.out A0.out.fo (by omega)
 go_wp2_with (first
  | (go_at_call 155;(with_reducible refine C1.mono ?_);intro e w1 h1;rcases A0.out.last h1 with ⟨rfl,e1,b1⟩ | ⟨y,f,l,v,rfl,rfl,e1,F,k⟩;exact ⟨rfl,.stop e1 b1⟩;have E1:=hid (And.intro e1 (And.intro F k));clear h1 e1 F k C1 z0))
 go_end0
 exact .done E1.out.1 rfl (E1.out.2.1.less (by have:=Zbw;omega)) E1.out.2.2
theorem ZsD (_:Gd B lv N) (hok:S8.okK 71=true) (_:Fo w B g lv N f L r) (_:1000≤r) :
  Calls prog 95 #[.pointer (some ⟨g,0,none⟩),.int .i64 71] w (FPost B g lv N w L (fun _=>r - 1000) (S8.Zcq S8.ideal 71 f) isU):=by cases hok
theorem ZsC (_:Gd B lv N) (hok:S8.okK 72=true) (_:Fo w B g lv N f L r) (_:1000≤r) :
  Calls prog 95 #[.pointer (some ⟨g,0,none⟩),.int .i64 72] w (FPost B g lv N w L (fun _=>r - 1000) (S8.Zcq S8.ideal 72 f) isU):=by cases hok
theorem ZsB (HG:Gd B lv N) (F:Fo w B g lv N f L r) (hr:1000≤r) :
  Calls prog 95 #[.pointer (some ⟨g,0,none⟩),.int .i64 73] w (FPost B g lv N w L (fun _=>r - 1000) (S8.Zcq S8.ideal 73 f) isU):=by
 have HG:=hid HG
 have hq:S8.Zcq S8.ideal 73=(do
   S8.tk (S8.nm S8.Zeo)
   S8.ZaZ S8.Zcf
   S8.tk (S8.nm S8.wTo)
   let y4 ← S8.num
   S8.ZjQ (S8.int y4)
   : S8.Wm Unit):=by
  first
  | rfl
  | simp (decide:=true) only [S8.Zcq,if_true,if_false,S8.ZaP,S8.ZgE]
 have A0:=hid (At.start2 hq F)
 have z0:=F.c0
 clear hq F
 go_enter func95,ntmps95
 have C1:=A0.out.fo.name ⟨#[109,111,118,101]⟩ S8.Zeo rfl (by omega) (by decide) (by decide)
 go_wp2_with (first
  | (go_at_call 85;(with_reducible refine C1.mono ?_);intro e w1 h1;rcases A0.out.step h1 with ⟨rfl,e1,b1⟩ | ⟨y1,f1,l1,v1,rfl,e1,rfl,G⟩;exact ⟨rfl,.stop e1 b1⟩;have A1:=hid G;have z1:=G.fo.c0;clear h1 e1 G C1 z0;have C2:=Zfg A1.out.fo (by omega))
  | (go_at_call 86;(with_reducible refine C2.mono ?_);intro e w2 h1;rcases A1.out.step h1 with ⟨rfl,e1,b1⟩ | ⟨y2,f2,l2,v2,rfl,e1,rfl,G⟩;exact ⟨rfl,.stop e1 b1⟩;have A2:=hid G;have z2:=G.fo.c0;clear h1 e1 G C2 z1;have C3:=A2.out.fo.name ⟨#[116,111]⟩ S8.wTo rfl (by omega) (by decide) (by decide))
  | (go_at_call 85;(with_reducible refine C3.mono ?_);intro e w3 h1;rcases A2.out.step h1 with ⟨rfl,e1,b1⟩ | ⟨y3,f3,l3,v3,rfl,e1,rfl,G⟩;exact ⟨rfl,.stop e1 b1⟩;have A3:=hid G;have z3:=G.fo.c0;clear h1 e1 G C3 z2))
 refine r2 (fun W=>W.cell? ⟨g,0,none⟩=some (.pointer (some ⟨B,0,none⟩))) (fun j=>decide (j < 6)) [0,1,2,3,4] [5,6] A3.out.fo.c0 ?_
 refine fs (.pointer (some ⟨g,0,none⟩)) rfl ?_
 refine fs (.pointer (some ⟨g,0,none⟩)) rfl ?_
 refine fs (.pointer (some ⟨g,0,none⟩)) rfl ?_
 refine fs (.pointer (some ⟨B,0,none⟩)) rfl ?_
 refine fs (.pointer (some ⟨g,0,none⟩)) rfl ?_
 refine Zap ?_
 replace A3:=hid (A3.out.below (Below.refl _ _).drew)
 clear z3
 have C4:=ZtU A3.out.fo
 refine cs rfl fun K9 HK9=>?_
 go_wp2_with (go_at_call 159;(with_reducible refine C4.mono ?_);intro e w4 h1;rcases A3.out.step h1 with ⟨rfl,e1,b1⟩ | ⟨y4,f4,l4,v4,rfl,e1,⟨rfl,hn4⟩,G⟩;exact ⟨rfl,.stop e1 b1⟩;have A4:=hid G;clear h1 e1 G C4)
 refine HK9.out _ _ (fun _=>A4.out.fo.c0) ?_
 have C5:=A4.out.fo.int y4 (by omega)
 refine cs rfl fun K9 HK9=>?_
 go_wp2_with (go_at_call 158;(with_reducible refine C5.mono ?_);intro e w5 h1;rcases A4.out.last h1 with ⟨rfl,e1,b1⟩ | ⟨y,f,l,v,rfl,rfl,e1,F,k⟩;exact ⟨rfl,.stop e1 b1⟩;have E5:=hid (And.intro e1 (And.intro F k));clear h1 e1 F k C5)
 refine HK9.out _ _ (fun h=>absurd h (by decide)) ?_
 refine Zam ?_
 go_end0
 exact .done E5.out.1 rfl (E5.out.2.1.less (by have:=Zbw;omega)) E5.out.2.2
theorem ZsA (HG:Gd B lv N) (F:Fo w B g lv N f L r) (hr:1000≤r) :
  Calls prog 95 #[.pointer (some ⟨g,0,none⟩),.int .i64 74] w (FPost B g lv N w L (fun _=>r - 1000) (S8.Zcq S8.ideal 74 f) isU):=by
 have HG:=hid HG
 have hq:S8.Zcq S8.ideal 74=(do
   S8.tk (S8.nm S8.Zez)
   S8.ZaZ S8.Zcf
   : S8.Wm Unit):=by
  first
  | rfl
  | simp (decide:=true) only [S8.Zcq,if_true,if_false,S8.ZaP,S8.ZgE]
 have A0:=hid (At.start2 hq F)
 have z0:=F.c0
 clear hq F
 go_enter func95,ntmps95
 have C1:=A0.out.fo.name ⟨#[100,114,111,112]⟩ S8.Zez rfl (by omega) (by decide) (by decide)
 go_wp2_with (first
  | (go_at_call 85;(with_reducible refine C1.mono ?_);intro e w1 h1;rcases A0.out.step h1 with ⟨rfl,e1,b1⟩ | ⟨y1,f1,l1,v1,rfl,e1,rfl,G⟩;exact ⟨rfl,.stop e1 b1⟩;have A1:=hid G;have z1:=G.fo.c0;clear h1 e1 G C1 z0;have C2:=Zfg A1.out.fo (by omega))
  | (go_at_call 86;(with_reducible refine C2.mono ?_);intro e w2 h1;rcases A1.out.last h1 with ⟨rfl,e1,b1⟩ | ⟨y,f,l,v,rfl,rfl,e1,F,k⟩;exact ⟨rfl,.stop e1 b1⟩;have E2:=hid (And.intro e1 (And.intro F k));clear h1 e1 F k C2 z1))
 go_end0
 exact .done E2.out.1 rfl (E2.out.2.1.less (by have:=Zbw;omega)) E2.out.2.2
theorem Zsz (_:Fo w B g lv N f L r) (k:Int) (n70:k≠70) (n71:k≠71) (n72:k≠72) (n73:k≠73) (n74:k≠74) :
  Calls prog 95 #[.pointer (some ⟨g,0,none⟩),.int .i64 k] w (FPost B g lv N w L (fun _=>r - 1000) (S8.Zcq S8.ideal k f) isU):=by
 have HM:Hid (S8.Zcq S8.ideal k f=none):=hid (by
  simp only [S8.Zcq,if_neg n70,if_neg n71,if_neg n72,if_neg n73,if_neg n74]
  rfl)
 have m70:(k == 70)=false:=by simpa using n70
 have m71:(k == 71)=false:=by simpa using n71
 have m72:(k == 72)=false:=by simpa using n72
 have m73:(k == 73)=false:=by simpa using n73
 have m74:(k == 74)=false:=by simpa using n74
 clear n70 n71 n72 n73 n74
 go_enter func95,ntmps95
 go_wp2_with fail
 exact ⟨rfl,.stop HM.out (Below.refl _ _)⟩
theorem ZuG (HG:Gd B lv N) (k:Int) (hok:S8.okK k=true) (F:Fo w B g lv N f L r) (hr:1000≤r) :
  Calls prog 95 #[.pointer (some ⟨g,0,none⟩),.int .i64 k] w (FPost B g lv N w L (fun _=>r - 1000) (S8.Zcq S8.ideal k f) isU):=by
 by_cases n70:k=70
 ·subst n70;exact ZsE HG F hr
 by_cases n71:k=71
 ·subst n71;exact ZsD HG hok F hr
 by_cases n72:k=72
 ·subst n72;exact ZsC HG hok F hr
 by_cases n73:k=73
 ·subst n73;exact ZsB HG F hr
 by_cases n74:k=74
 ·subst n74;exact ZsA HG F hr
 exact Zsz F k n70 n71 n72 n73 n74
end
open Go.RowKit L7
section
variable {B g lv N:Nat} {w w2:World} {L:List Tk} {f:S8.Fm} {r:Nat}
theorem Zwi (HG:Gd B lv N) (F:Fo w B g lv N f L r) (hr:400≤r) :
  Calls prog 218 #[.pointer (some ⟨g,0,none⟩),.int .i64 20] w (FPost B g lv N w L (fun _=>r - 400) (S8.Zdk S8.ideal 20 f) isU):=by
 have HG:=hid HG
 have hq:S8.Zdk S8.ideal 20=(do
   let y1 ← S8.num
   S8.ZjQ (S8.int y1)
   : S8.Wm Unit):=by
  first
  | rfl
  | simp (decide:=true) only [S8.Zdk,if_true,if_false,S8.ZaP,S8.ZgE]
 have A0:=hid (At.start2 hq F)
 have z0:=F.c0
 clear hq F
 go_enter func218,ntmps218
 go_wp2_with fail
 refine r2 (fun W=>W.cell? ⟨g,0,none⟩=some (.pointer (some ⟨B,0,none⟩))) (fun j=>decide (j < 6)) [0,1,2,3,4] [5,6] A0.out.fo.c0 ?_
 refine fs (.pointer (some ⟨g,0,none⟩)) rfl ?_
 refine fs (.pointer (some ⟨g,0,none⟩)) rfl ?_
 refine fs (.pointer (some ⟨g,0,none⟩)) rfl ?_
 refine fs (.pointer (some ⟨B,0,none⟩)) rfl ?_
 refine fs (.pointer (some ⟨g,0,none⟩)) rfl ?_
 refine Zap ?_
 replace A0:=hid (A0.out.below (Below.refl _ _).drew)
 clear z0
 have C1:=ZtU A0.out.fo
 refine cs rfl fun K9 HK9=>?_
 go_wp2_with (go_at_call 159;(with_reducible refine C1.mono ?_);intro e w1 h1;rcases A0.out.step h1 with ⟨rfl,e1,b1⟩ | ⟨y1,f1,l1,v1,rfl,e1,⟨rfl,hn1⟩,G⟩;exact ⟨rfl,.stop e1 b1⟩;have A1:=hid G;clear h1 e1 G C1)
 refine HK9.out _ _ (fun _=>A1.out.fo.c0) ?_
 have C2:=A1.out.fo.int y1 (by omega)
 refine cs rfl fun K9 HK9=>?_
 go_wp2_with (go_at_call 158;(with_reducible refine C2.mono ?_);intro e w2 h1;rcases A1.out.last h1 with ⟨rfl,e1,b1⟩ | ⟨y,f,l,v,rfl,rfl,e1,F,k⟩;exact ⟨rfl,.stop e1 b1⟩;have E2:=hid (And.intro e1 (And.intro F k));clear h1 e1 F k C2)
 refine HK9.out _ _ (fun h=>absurd h (by decide)) ?_
 refine Zam ?_
 go_end0
 exact .done E2.out.1 rfl (E2.out.2.1.less (by have:=Zbw;omega)) E2.out.2.2
theorem Zwh (_:Gd B lv N) (hok:S8.okK 21=true) (_:Fo w B g lv N f L r) (_:400≤r) :
  Calls prog 218 #[.pointer (some ⟨g,0,none⟩),.int .i64 21] w (FPost B g lv N w L (fun _=>r - 400) (S8.Zdk S8.ideal 21 f) isU):=by cases hok
theorem Zwg (_:Gd B lv N) (hok:S8.okK 22=true) (_:Fo w B g lv N f L r) (_:400≤r) :
  Calls prog 218 #[.pointer (some ⟨g,0,none⟩),.int .i64 22] w (FPost B g lv N w L (fun _=>r - 400) (S8.Zdk S8.ideal 22 f) isU):=by cases hok
theorem Zwf (_:Gd B lv N) (hok:S8.okK 23=true) (_:Fo w B g lv N f L r) (_:400≤r) :
  Calls prog 218 #[.pointer (some ⟨g,0,none⟩),.int .i64 23] w (FPost B g lv N w L (fun _=>r - 400) (S8.Zdk S8.ideal 23 f) isU):=by cases hok
theorem Zwe (HG:Gd B lv N) (F:Fo w B g lv N f L r) (hr:400≤r) :
  Calls prog 218 #[.pointer (some ⟨g,0,none⟩),.int .i64 24] w (FPost B g lv N w L (fun _=>r - 400) (S8.Zdk S8.ideal 24 f) isU):=by
 have HG:=hid HG
 have hq:S8.Zdk S8.ideal 24=(do
   S8.ZaZ S8.ZbF
   : S8.Wm Unit):=by
  first
  | rfl
  | simp (decide:=true) only [S8.Zdk,if_true,if_false,S8.ZaP,S8.ZgE]
 have A0:=hid (At.start2 hq F)
 have z0:=F.c0
 clear hq F
 go_enter func218,ntmps218
 have C1:=Zib A0.out.fo (by omega)
 go_wp2_with (first
  | (go_at_call 91;(with_reducible refine C1.mono ?_);intro e w1 h1;rcases A0.out.last h1 with ⟨rfl,e1,b1⟩ | ⟨y,f,l,v,rfl,rfl,e1,F,k⟩;exact ⟨rfl,.stop e1 b1⟩;have E1:=hid (And.intro e1 (And.intro F k));clear h1 e1 F k C1 z0))
 go_end0
 exact .done E1.out.1 rfl (E1.out.2.1.less (by have:=Zbw;omega)) E1.out.2.2
theorem Zwd (HG:Gd B lv N) (F:Fo w B g lv N f L r) (hr:400≤r) :
  Calls prog 218 #[.pointer (some ⟨g,0,none⟩),.int .i64 25] w (FPost B g lv N w L (fun _=>r - 400) (S8.Zdk S8.ideal 25 f) isU):=by
 have HG:=hid HG
 have hq:S8.Zdk S8.ideal 25=(do
   S8.tk (S8.nm S8.ZeX)
   : S8.Wm Unit):=by
  first
  | rfl
  | simp (decide:=true) only [S8.Zdk,if_true,if_false,S8.ZaP,S8.ZgE]
 have A0:=hid (At.start2 hq F)
 have z0:=F.c0
 clear hq F
 go_enter func218,ntmps218
 have C1:=A0.out.fo.name ⟨#[115,101,108,102]⟩ S8.ZeX rfl (by omega) (by decide) (by decide)
 go_wp2_with (first
  | (go_at_call 85;(with_reducible refine C1.mono ?_);intro e w1 h1;rcases A0.out.last h1 with ⟨rfl,e1,b1⟩ | ⟨y,f,l,v,rfl,rfl,e1,F,k⟩;exact ⟨rfl,.stop e1 b1⟩;have E1:=hid (And.intro e1 (And.intro F k));clear h1 e1 F k C1 z0))
 go_end0
 exact .done E1.out.1 rfl (E1.out.2.1.less (by have:=Zbw;omega)) E1.out.2.2
theorem Zwc (HG:Gd B lv N) (F:Fo w B g lv N f L r) (hr:400≤r) :
  Calls prog 218 #[.pointer (some ⟨g,0,none⟩),.int .i64 26] w (FPost B g lv N w L (fun _=>r - 400) (S8.Zdk S8.ideal 26 f) isU):=by
 have HG:=hid HG
 have hq:S8.Zdk S8.ideal 26=(do
   let y1 ← S8.rest
   S8.put (S8.ZdH S8.mLk (S8.ideal .expr) y1 S8.mRk)
   : S8.Wm Unit):=by
  first
  | rfl
  | simp (decide:=true) only [S8.Zdk,if_true,if_false,S8.ZaP,S8.ZgE]
 have A0:=hid (At.start2 hq F)
 have z0:=F.c0
 clear hq F
 go_enter func218,ntmps218
 go_wp2_with fail
 refine r2 (fun W=>W.cell? ⟨g,0,none⟩=some (.pointer (some ⟨B,0,none⟩))) (fun j=>decide (j < 11)) [0,1,2,3,4,6,7,8,9,10] [5,11] A0.out.fo.c0 ?_
 refine fs (.pointer (some ⟨g,0,none⟩)) rfl ?_
 refine fs (.pointer (some ⟨g,0,none⟩)) rfl ?_
 refine fs (.pointer (some ⟨g,0,none⟩)) rfl ?_
 refine fs (.pointer (some ⟨B,0,none⟩)) rfl ?_
 refine fs (.pointer (some ⟨g,0,none⟩)) rfl ?_
 refine fs (.pointer (some ⟨g,0,none⟩)) rfl ?_
 refine fs (.pointer (some ⟨g,0,none⟩)) rfl ?_
 refine fs (.pointer (some ⟨g,0,none⟩)) rfl ?_
 refine fs (.pointer (some ⟨B,0,none⟩)) rfl ?_
 refine fs (.func (.func 152) #[.pointer (some ⟨B,0,none⟩)] #[]) rfl ?_
 refine Zap ?_
 replace A0:=hid (A0.out.below (Below.refl _ _).drew)
 clear z0
 have C1:=Zja A0.out.fo
 refine cs rfl fun K9 HK9=>?_
 go_wp2_with (go_at_call 50;(with_reducible refine C1.mono ?_);intro e w1 h1;rcases A0.out.step h1 with ⟨rfl,e1,b1⟩ | ⟨y1,f1,l1,v1,rfl,e1,hv,G⟩;exact ⟨rfl,.stop e1 b1⟩;have A1:=hid G;have V1:=hid hv;clear h1 e1 G C1 hv)
 refine HK9.out _ _ (fun _=>A1.out.fo.c0) ?_
 have C2:=A1.out.fo.klist (fun _ _=>by kernel_rfl) (show Puts B lv N 152 .expr from HG.out.pu .expr) ⟨#[91]⟩ ⟨#[93]⟩ S8.mLk S8.mRk rfl rfl (by decide) (by decide) (by decide) V1.out (by omega)
 refine cs rfl fun K9 HK9=>?_
 go_wp2_with (go_at_call 87;(with_reducible refine C2.mono ?_);intro e w2 h1;rcases A1.out.last h1 with ⟨rfl,e1,b1⟩ | ⟨y,f,l,v,rfl,rfl,e1,F,k⟩;exact ⟨rfl,.stop e1 b1⟩;have E2:=hid (And.intro e1 (And.intro F k));clear h1 e1 F k C2)
 refine HK9.out _ _ (fun h=>absurd h (by decide)) ?_
 refine Zam ?_
 go_end0
 exact .done E2.out.1 rfl (E2.out.2.1.less (by have:=Zbw;omega)) E2.out.2.2
theorem Zwb (_:Gd B lv N) (hok:S8.okK 27=true) (_:Fo w B g lv N f L r) (_:400≤r) :
  Calls prog 218 #[.pointer (some ⟨g,0,none⟩),.int .i64 27] w (FPost B g lv N w L (fun _=>r - 400) (S8.Zdk S8.ideal 27 f) isU):=by cases hok
theorem Zwa (HG:Gd B lv N) (F:Fo w B g lv N f L r) (hr:400≤r) :
  Calls prog 218 #[.pointer (some ⟨g,0,none⟩),.int .i64 29] w (FPost B g lv N w L (fun _=>r - 400) (S8.Zdk S8.ideal 29 f) isU):=by
 have HG:=hid HG
 have hq:S8.Zdk S8.ideal 29=(do
   S8.ZaZ S8.Zcf
   let y2 ← S8.rest
   S8.put (S8.Zqu S8.mLp (S8.ideal .expr) y2 S8.mRp)
   : S8.Wm Unit):=by
  first
  | rfl
  | simp (decide:=true) only [S8.Zdk,if_true,if_false,S8.ZaP,S8.ZgE]
 have A0:=hid (At.start2 hq F)
 have z0:=F.c0
 clear hq F
 go_enter func218,ntmps218
 have C1:=Zfg A0.out.fo (by omega)
 go_wp2_with (first
  | (go_at_call 86;(with_reducible refine C1.mono ?_);intro e w1 h1;rcases A0.out.step h1 with ⟨rfl,e1,b1⟩ | ⟨y1,f1,l1,v1,rfl,e1,rfl,G⟩;exact ⟨rfl,.stop e1 b1⟩;have A1:=hid G;have z1:=G.fo.c0;clear h1 e1 G C1 z0))
 refine r2 (fun W=>W.cell? ⟨g,0,none⟩=some (.pointer (some ⟨B,0,none⟩))) (fun j=>decide (j < 11)) [0,1,2,3,4,6,7,8,9,10] [5,11] A1.out.fo.c0 ?_
 refine fs (.pointer (some ⟨g,0,none⟩)) rfl ?_
 refine fs (.pointer (some ⟨g,0,none⟩)) rfl ?_
 refine fs (.pointer (some ⟨g,0,none⟩)) rfl ?_
 refine fs (.pointer (some ⟨B,0,none⟩)) rfl ?_
 refine fs (.pointer (some ⟨g,0,none⟩)) rfl ?_
 refine fs (.pointer (some ⟨g,0,none⟩)) rfl ?_
 refine fs (.pointer (some ⟨g,0,none⟩)) rfl ?_
 refine fs (.pointer (some ⟨g,0,none⟩)) rfl ?_
 refine fs (.pointer (some ⟨B,0,none⟩)) rfl ?_
 refine fs (.func (.func 152) #[.pointer (some ⟨B,0,none⟩)] #[]) rfl ?_
 refine Zap ?_
 replace A1:=hid (A1.out.below (Below.refl _ _).drew)
 clear z1
 have C2:=Zja A1.out.fo
 refine cs rfl fun K9 HK9=>?_
 go_wp2_with (go_at_call 50;(with_reducible refine C2.mono ?_);intro e w2 h1;rcases A1.out.step h1 with ⟨rfl,e1,b1⟩ | ⟨y2,f2,l2,v2,rfl,e1,hv,G⟩;exact ⟨rfl,.stop e1 b1⟩;have A2:=hid G;have V2:=hid hv;clear h1 e1 G C2 hv)
 refine HK9.out _ _ (fun _=>A2.out.fo.c0) ?_
 have C3:=A2.out.fo.kopt (fun _ _=>by kernel_rfl) (show Puts B lv N 152 .expr from HG.out.pu .expr) ⟨#[40]⟩ ⟨#[41]⟩ S8.mLp S8.mRp rfl rfl (by decide) (by decide) (by decide) V2.out (by omega)
 refine cs rfl fun K9 HK9=>?_
 go_wp2_with (go_at_call 149;(with_reducible refine C3.mono ?_);intro e w3 h1;rcases A2.out.last h1 with ⟨rfl,e1,b1⟩ | ⟨y,f,l,v,rfl,rfl,e1,F,k⟩;exact ⟨rfl,.stop e1 b1⟩;have E3:=hid (And.intro e1 (And.intro F k));clear h1 e1 F k C3)
 refine HK9.out _ _ (fun h=>absurd h (by decide)) ?_
 refine Zam ?_
 go_end0
 exact .done E3.out.1 rfl (E3.out.2.1.less (by have:=Zbw;omega)) E3.out.2.2
theorem Zv9 (_:Fo w B g lv N f L r) (k:Int) (n20:k≠20) (n21:k≠21) (n22:k≠22) (n23:k≠23) (n24:k≠24) (n25:k≠25) (n26:k≠26) (n27:k≠27) (n29:k≠29) :
  Calls prog 218 #[.pointer (some ⟨g,0,none⟩),.int .i64 k] w (FPost B g lv N w L (fun _=>r - 400) (S8.Zdk S8.ideal k f) isU):=by
 have HM:Hid (S8.Zdk S8.ideal k f=none):=hid (by
  simp only [S8.Zdk,if_neg n20,if_neg n21,if_neg n22,if_neg n23,if_neg n24,if_neg n25,if_neg n26,if_neg n27,if_neg n29]
  rfl)
 have m20:(k == 20)=false:=by simpa using n20
 have m21:(k == 21)=false:=by simpa using n21
 have m22:(k == 22)=false:=by simpa using n22
 have m23:(k == 23)=false:=by simpa using n23
 have m24:(k == 24)=false:=by simpa using n24
 have m25:(k == 25)=false:=by simpa using n25
 have m26:(k == 26)=false:=by simpa using n26
 have m27:(k == 27)=false:=by simpa using n27
 have m29:(k == 29)=false:=by simpa using n29
 clear n20 n21 n22 n23 n24 n25 n26 n27 n29
 go_enter func218,ntmps218
 go_wp2_with fail
 exact ⟨rfl,.stop HM.out (Below.refl _ _)⟩
theorem Zx1 (HG:Gd B lv N) (k:Int) (hok:S8.okK k=true) (F:Fo w B g lv N f L r) (hr:400≤r) :
  Calls prog 218 #[.pointer (some ⟨g,0,none⟩),.int .i64 k] w (FPost B g lv N w L (fun _=>r - 400) (S8.Zdk S8.ideal k f) isU):=by
 by_cases n20:k=20
 ·subst n20;exact Zwi HG F hr
 by_cases n21:k=21
 ·subst n21;exact Zwh HG hok F hr
 by_cases n22:k=22
 ·subst n22;exact Zwg HG hok F hr
 by_cases n23:k=23
 ·subst n23;exact Zwf HG hok F hr
 by_cases n24:k=24
 ·subst n24;exact Zwe HG F hr
 by_cases n25:k=25
 ·subst n25;exact Zwd HG F hr
 by_cases n26:k=26
 ·subst n26;exact Zwc HG F hr
 by_cases n27:k=27
 ·subst n27;exact Zwb HG hok F hr
 by_cases n29:k=29
 ·subst n29;exact Zwa HG F hr
 exact Zv9 F k n20 n21 n22 n23 n24 n25 n26 n27 n29
end
end Go.Proofs.YtaheffiglmglbaaGreatDoor
