import Derived.Test.YtaheffiglmglbaaGreatDoorKWe
/- WrI, WrJ, WrC, WrN. -/
set_option maxHeartbeats 8000000
set_option maxRecDepth 20000
namespace Go.Proofs.YtaheffiglmglbaaGreatDoor
open Go.Proofs.Tryz
open Go.RowKit L7
section
variable {B g lv N:Nat} {w w2:World} {L:List Tk} {f:S8.Fm} {r:Nat}
theorem Zzy (HG:Gd B lv N) (F:Fo w B g lv N f L r) (hr:900≤r) :
  Calls prog 272 #[.pointer (some ⟨g,0,none⟩)] w (FPost B g lv N w L (fun _=>r - 900) (S8.ifW S8.ideal f) isU):=by
 have HG:=hid HG
 have hq:S8.ifW S8.ideal=(do
   S8.tk (S8.nm S8.wIf)
   let y2 ← S8.Zdr
   S8.ZmA S8.ideal y2
   let y4 ← S8.Zdr
   S8.put (S8.ideal .block y4)
   let f ← S8.look
   if 0 < f.c.length then (do
      S8.tk (S8.nm S8.Zfo)
      let y7 ← S8.Zdr
      S8.put (S8.ideal .block y7))
    else pure ()
   : S8.Wm Unit):=by
  first
  | rfl
  | simp only [S8.ifW,S8.ZaP]
 have A0:=hid (At.start2 hq F)
 have z0:=F.c0
 clear hq F
 go_enter func272,ntmps272
 have C1:=A0.out.fo.name ⟨#[105,102]⟩ S8.wIf rfl (by omega) (by decide) (by decide)
 go_wp2_with (first
  | (go_at_call 85;(with_reducible refine C1.mono ?_);intro e w1 h1;rcases A0.out.step h1 with ⟨rfl,e1,b1⟩ | ⟨y1,f1,l1,v1,rfl,e1,rfl,G⟩;exact ⟨rfl,.stop e1 b1⟩;have A1:=hid G;have z1:=G.fo.c0;clear h1 e1 G C1 z0))
 refine r2 (fun W=>W.cell? ⟨g,0,none⟩=some (.pointer (some ⟨B,0,none⟩))) (fun j=>decide (j < 6)) [0,1,2,3,4] [5,6] A1.out.fo.c0 ?_
 refine fs (.pointer (some ⟨g,0,none⟩)) rfl ?_
 refine fs (.pointer (some ⟨g,0,none⟩)) rfl ?_
 refine fs (.pointer (some ⟨g,0,none⟩)) rfl ?_
 refine fs (.pointer (some ⟨B,0,none⟩)) rfl ?_
 refine fs (.pointer (some ⟨g,0,none⟩)) rfl ?_
 refine Zap ?_
 replace A1:=hid (A1.out.below (Below.refl _ _).drew)
 clear z1
 have C2:=ZfU A1.out.fo
 refine cs rfl fun K9 HK9=>?_
 go_wp2_with (go_at_call 148;(with_reducible refine C2.mono ?_);intro e w2 h1;rcases A1.out.step h1 with ⟨rfl,e1,b1⟩ | ⟨y2,f2,l2,v2,rfl,e1,hv,G⟩;exact ⟨rfl,.stop e1 b1⟩;have A2:=hid G;have V2:=hid hv;clear h1 e1 G C2 hv)
 refine HK9.out _ _ (fun _=>A2.out.fo.c0) ?_
 have C3:=A2.out.fo.khead (show Puts B lv N 152 .expr from HG.out.pu .expr) V2.out (by omega)
 refine cs rfl fun K9 HK9=>?_
 go_wp2_with (go_at_call 213;(with_reducible refine C3.mono ?_);intro e w3 h1;rcases A2.out.step h1 with ⟨rfl,e1,b1⟩ | ⟨y3,f3,l3,v3,rfl,e1,rfl,G⟩;exact ⟨rfl,.stop e1 b1⟩;have A3:=hid G;clear h1 e1 G C3)
 refine HK9.out _ _ (fun h=>absurd h (by decide)) ?_
 refine Zam ?_
 have z3:=A3.out.fo.c0
 go_wp2_with fail
 refine r2 (fun W=>W.cell? ⟨g,0,none⟩=some (.pointer (some ⟨B,0,none⟩))) (fun j=>decide (j < 6)) [0,1,2,3,4] [5,6] A3.out.fo.c0 ?_
 refine fs (.pointer (some ⟨g,0,none⟩)) rfl ?_
 refine fs (.pointer (some ⟨g,0,none⟩)) rfl ?_
 refine fs (.pointer (some ⟨g,0,none⟩)) rfl ?_
 refine fs (.pointer (some ⟨B,0,none⟩)) rfl ?_
 refine fs (.pointer (some ⟨g,0,none⟩)) rfl ?_
 refine Zap ?_
 replace A3:=hid (A3.out.below (Below.refl _ _).drew)
 clear z3
 have C4:=ZfU A3.out.fo
 refine cs rfl fun K9 HK9=>?_
 go_wp2_with (go_at_call 148;(with_reducible refine C4.mono ?_);intro e w4 h1;rcases A3.out.step h1 with ⟨rfl,e1,b1⟩ | ⟨y4,f4,l4,v4,rfl,e1,hv,G⟩;exact ⟨rfl,.stop e1 b1⟩;have A4:=hid G;have V4:=hid hv;clear h1 e1 G C4 hv)
 refine HK9.out _ _ (fun _=>A4.out.fo.c0) ?_
 have C5:=A4.out.fo.kcall (show Puts B lv N 219 .block from HG.out.pu .block) V4.out (by omega)
 refine cs rfl fun K9 HK9=>?_
 go_wp2_with (go_at_call 219;(with_reducible refine C5.mono ?_);intro e w5 h1;rcases A4.out.step h1 with ⟨rfl,e1,b1⟩ | ⟨y5,f5,l5,v5,rfl,e1,rfl,G⟩;exact ⟨rfl,.stop e1 b1⟩;have A5:=hid G;clear h1 e1 G C5)
 refine HK9.out _ _ (fun h=>absurd h (by decide)) ?_
 refine Zam ?_
 have z5:=A5.out.fo.c0
 obtain ⟨AA,cap,zk⟩:=A5.out.fo.c5
 replace A5:=hid (A5.out.pass (y:=f5) rfl)
 rcases Zuf f5.c with ⟨j1,j2,hz⟩ | ⟨j1,j2,hz⟩
 ·
  have E1:=hid ((A5.out.neg (by rw [hz];decide)).unit)
  clear hz
  go_wp2_with fail
  go_end0
  exact .done E1.out rfl (A5.out.fo.less (by omega)) A5.out.fr
 ·
  replace A5:=hid (A5.out.pos hz)
  clear hz
  have C6:=A5.out.fo.name ⟨#[101,108,115,101]⟩ S8.Zfo rfl (by omega) (by decide) (by decide)
  go_wp2_with (first
   | (go_at_call 85;(with_reducible refine C6.mono ?_);intro e w6 h1;rcases A5.out.step h1 with ⟨rfl,e1,b1⟩ | ⟨y6,f6,l6,v6,rfl,e1,rfl,G⟩;exact ⟨rfl,.stop e1 b1⟩;have A6:=hid G;have z6:=G.fo.c0;clear h1 e1 G C6 z5 zk))
  refine r2 (fun W=>W.cell? ⟨g,0,none⟩=some (.pointer (some ⟨B,0,none⟩))) (fun j=>decide (j < 6)) [0,1,2,3,4] [5,6] A6.out.fo.c0 ?_
  refine fs (.pointer (some ⟨g,0,none⟩)) rfl ?_
  refine fs (.pointer (some ⟨g,0,none⟩)) rfl ?_
  refine fs (.pointer (some ⟨g,0,none⟩)) rfl ?_
  refine fs (.pointer (some ⟨B,0,none⟩)) rfl ?_
  refine fs (.pointer (some ⟨g,0,none⟩)) rfl ?_
  refine Zap ?_
  replace A6:=hid (A6.out.below (Below.refl _ _).drew)
  clear z6
  have C7:=ZfU A6.out.fo
  refine cs rfl fun K9 HK9=>?_
  go_wp2_with (go_at_call 148;(with_reducible refine C7.mono ?_);intro e w7 h1;rcases A6.out.step h1 with ⟨rfl,e1,b1⟩ | ⟨y7,f7,l7,v7,rfl,e1,hv,G⟩;exact ⟨rfl,.stop e1 b1⟩;have A7:=hid G;have V7:=hid hv;clear h1 e1 G C7 hv)
  refine HK9.out _ _ (fun _=>A7.out.fo.c0) ?_
  have C8:=A7.out.fo.kcall (show Puts B lv N 219 .block from HG.out.pu .block) V7.out (by omega)
  refine cs rfl fun K9 HK9=>?_
  go_wp2_with (go_at_call 219;(with_reducible refine C8.mono ?_);intro e w8 h1;rcases A7.out.last h1 with ⟨rfl,e1,b1⟩ | ⟨y,f,l,v,rfl,rfl,e1,F,k⟩;exact ⟨rfl,.stop e1 b1⟩;have E8:=hid (And.intro e1 (And.intro F k));clear h1 e1 F k C8)
  refine HK9.out _ _ (fun h=>absurd h (by decide)) ?_
  refine Zam ?_
  go_end0
  exact .done E8.out.1 rfl (E8.out.2.1.less (by have:=Zbw;omega)) E8.out.2.2
end
open Go.RowKit L7
section
variable {B g lv N:Nat} {w w2:World} {L:List Tk} {f:S8.Fm} {r:Nat}
theorem ZyE (_:Gd B lv N) (hok:S8.okK 58=true) (_:Fo w B g lv N f L r) (_:1000≤r) :
  Calls prog 275 #[.pointer (some ⟨g,0,none⟩),.int .i64 58] w (FPost B g lv N w L (fun _=>r - 1000) (S8.Zdi S8.ideal 58 f) isU):=by cases hok
theorem ZyD (_:Gd B lv N) (hok:S8.okK 59=true) (_:Fo w B g lv N f L r) (_:1000≤r) :
  Calls prog 275 #[.pointer (some ⟨g,0,none⟩),.int .i64 59] w (FPost B g lv N w L (fun _=>r - 1000) (S8.Zdi S8.ideal 59 f) isU):=by cases hok
theorem ZyC (_:Gd B lv N) (hok:S8.okK 60=true) (_:Fo w B g lv N f L r) (_:1000≤r) :
  Calls prog 275 #[.pointer (some ⟨g,0,none⟩),.int .i64 60] w (FPost B g lv N w L (fun _=>r - 1000) (S8.Zdi S8.ideal 60 f) isU):=by cases hok
theorem ZyB (_:Gd B lv N) (hok:S8.okK 61=true) (_:Fo w B g lv N f L r) (_:1000≤r) :
  Calls prog 275 #[.pointer (some ⟨g,0,none⟩),.int .i64 61] w (FPost B g lv N w L (fun _=>r - 1000) (S8.Zdi S8.ideal 61 f) isU):=by cases hok
end
open Go.RowKit L7
section
variable {B g lv N:Nat} {w w2:World} {L:List Tk} {f:S8.Fm} {r:Nat}
theorem ZtI (HG:Gd B lv N):Puts B lv (N + 1) 271 .bind:=by
 intro w L r v x hw hx hd
 rw [← S8.Zck _ _ (Zex (by have:=HG.le;omega))]
 show Calls _ _ _ _ (WPost B lv w L r (S8.beg 40 (S8.Zoj) x))
 have HG:=hid HG
 have hk0:∀y∈x.c,dpt y < N:=fun y hy=>by have:=Zbv x y hy;omega
 have hB:=hw.size
 obtain ⟨s,rfl,hk1⟩:=hx
 have b0:Below w.heap.size w (w.alloc (.cells (nd5 x.k x.t x.n x.a s) 24)):=(Below.refl _ _).alloc (Nat.le_refl _) _
 have X1:NodeAt (w.alloc (.cells (nd5 x.k x.t x.n x.a s) 24)) B x (.agg (nd5 x.k x.t x.n x.a s)):=⟨s,rfl,ZaF hk1 (b0.mono (by omega))⟩
 have HB:=hid b0
 by_cases hk:x.k=40
 case neg=>
  have C0:=ZeE x _ 40 hk X1
  have HM:Hid (S8.beg 40 (S8.Zoj) x=none):=hid (by unfold S8.beg;rw [if_neg hk])
  clear hw hk1 hd hk hk0 b0 X1
  go_enter func271,ntmps271
  go_wp2_with (go_at_call 49;(with_reducible refine C0.mono ?_);rintro e w1 ⟨rfl,h1⟩;exact ⟨rfl,.stop HM.out ((HB.out.trans (h1.mono HB.out.size)).mono (by omega))⟩)
 have C0:=ZdN (r:=r) x _ 40 hk (hw.below b0) X1 hk0 (Zc9 (by have:=HG.out.le;omega))
 rw [show S8.beg 40 (S8.Zoj) x=S8.run (S8.Zoj) x from if_pos hk]
 have hq:(do S8.Zoj;S8.shut:S8.Wm Unit)=(do let f ← S8.look;if f.t=S8.ZdF then (do let t ← S8.text;S8.tk (S8.mkt t);S8.shut) else (do S8.ZaZ S8.ZbF;S8.shut)):=by
  simp only [S8.Zoj,S8.ZaP,S8.Zkm]
 have HQ:=hid hq
 clear hw hk1 hd hk hk0 b0 X1 hq
 by_cases ht:x.t=S8.ZdF
 ·
  have HT:=hid ht
  have tt:=Zvk (t:=S8.ZdF) rfl
  clear ht
  go_enter func271,ntmps271
  go_wp2_with (go_at_call 49;(with_reducible refine C0.mono ?_);rintro e w0 ⟨g,rfl,F0,h1,hg⟩;have A0:=hid ((At.node2 (w:=w) HQ.out F0 (HB.out.trans (h1.mono HB.out.size)) (by omega) (Nat.le_trans HB.out.size hg)).pass (y:=⟨x.t,x.n,x.c⟩) rfl |>.pos HT.out);have z0:=F0.c0;have zt:=F0.c2;rw [show (⟨x.t,x.n,x.c⟩:S8.Fm).t=S8.ZdF from HT.out] at zt;clear F0 h1 hg C0)
  refine r2 (fun W=>W.cell? ⟨g,0,none⟩=some (.pointer (some ⟨B,0,none⟩))) (fun j=>decide (j < 6)) [0,1,2,3,4] [5,6] A0.out.fo.c0 ?_
  refine fs (.pointer (some ⟨g,0,none⟩)) rfl ?_
  refine fs (.pointer (some ⟨g,0,none⟩)) rfl ?_
  refine fs (.pointer (some ⟨g,0,none⟩)) rfl ?_
  refine fs (.pointer (some ⟨B,0,none⟩)) rfl ?_
  refine fs (.pointer (some ⟨g,0,none⟩)) rfl ?_
  refine Zap ?_
  replace A0:=hid (A0.out.below (Below.refl _ _).drew)
  clear z0 zt
  have C1:=Zos A0.out.fo
  refine cs rfl fun K9 HK9=>?_
  go_wp2_with (go_at_call 206;(with_reducible refine C1.mono ?_);intro e w1 h1;rcases A0.out.step h1 with ⟨rfl,e1,b1⟩ | ⟨y1,f1,l1,v1,rfl,e1,rfl,G⟩;exact ⟨rfl,.node_stop e1 b1⟩;obtain rfl:y1=S8.ZdF:=(by simp only [S8.text,Option.some.injEq,Prod.mk.injEq] at e1;exact e1.1.symm.trans HT.out);have A1:=hid G;clear h1 e1 G C1)
  refine HK9.out _ _ (fun _=>A1.out.fo.c0) ?_
  have C2:=A1.out.fo.mark (mk S8.ZdF) S8.ZdF (Zbc _) (by omega) (by decide) (by decide)
  refine cs rfl fun K9 HK9=>?_
  go_wp2_with (go_at_call 146;(with_reducible refine C2.mono ?_);intro e w2 h1;rcases A1.out.step h1 with ⟨rfl,e1,b1⟩ | ⟨y2,f2,l2,v2,rfl,e1,rfl,G⟩;exact ⟨rfl,.node_stop e1 b1⟩;have A2:=hid G;clear h1 e1 G C2)
  refine HK9.out _ _ (fun h=>absurd h (by decide)) ?_
  refine Zam ?_
  have z2:=A2.out.fo.c0
  have C3:=Zfi A2.out.fo
  go_wp2_with (first
   | (go_at_call 52;(with_reducible refine C3.mono ?_);intro e w3 h1;rcases A2.out.last h1 with ⟨rfl,e1,b1⟩ | ⟨y,f,l,v,rfl,rfl,e1,F,k⟩;exact ⟨rfl,.node_stop e1 b1⟩;have E3:=hid (And.intro e1 (And.intro F k));clear h1 e1 F k C3 z2))
  go_end0
  exact .node_done E3.out.1 E3.out.2.1 (by omega) E3.out.2.2
 ·
  have HT:=hid ht
  have tt:=Zxr ht
  clear ht
  go_enter func271,ntmps271
  go_wp2_with (go_at_call 49;(with_reducible refine C0.mono ?_);rintro e w0 ⟨g,rfl,F0,h1,hg⟩;have A0:=hid ((At.node2 (w:=w) HQ.out F0 (HB.out.trans (h1.mono HB.out.size)) (by omega) (Nat.le_trans HB.out.size hg)).pass (y:=⟨x.t,x.n,x.c⟩) rfl |>.neg HT.out);have z0:=F0.c0;have zt:=F0.c2;clear F0 h1 hg C0)
  have C1:=Zib A0.out.fo (by omega)
  go_wp2_with (first
   | (go_at_call 91;(with_reducible refine C1.mono ?_);intro e w1 h1;rcases A0.out.step h1 with ⟨rfl,e1,b1⟩ | ⟨y1,f1,l1,v1,rfl,e1,rfl,G⟩;exact ⟨rfl,.node_stop e1 b1⟩;have A1:=hid G;have z1:=G.fo.c0;clear h1 e1 G C1 z0 zt;have C2:=Zfi A1.out.fo)
   | (go_at_call 52;(with_reducible refine C2.mono ?_);intro e w2 h1;rcases A1.out.last h1 with ⟨rfl,e1,b1⟩ | ⟨y,f,l,v,rfl,rfl,e1,F,k⟩;exact ⟨rfl,.node_stop e1 b1⟩;have E2:=hid (And.intro e1 (And.intro F k));clear h1 e1 F k C2 z1))
  go_end0
  exact .node_done E2.out.1 E2.out.2.1 (by omega) E2.out.2.2
end
open Go.RowKit L7
section
variable {B g lv N:Nat} {w w2:World} {L:List Tk} {f:S8.Fm} {r:Nat}
end
end Go.Proofs.YtaheffiglmglbaaGreatDoor
