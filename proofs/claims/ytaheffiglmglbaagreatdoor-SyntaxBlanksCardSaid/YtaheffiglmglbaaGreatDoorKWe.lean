import Derived.Test.YtaheffiglmglbaaGreatDoorKWb
import Derived.Test.YtaheffiglmglbaaGreatDoorKQh
import Derived.Test.YtaheffiglmglbaaGreatDoorKWc
import Derived.Test.YtaheffiglmglbaaGreatDoorKWd
/- WrB, WrZ, WrK. -/
set_option maxHeartbeats 8000000
set_option maxRecDepth 20000
namespace Go.Proofs.YtaheffiglmglbaaGreatDoor
open Go.Proofs.Tryz
open Go.RowKit L7 Go.Maps
theorem ZpX {w:World} {m:Nat} (h:MapHas w m) (s:ByteArray) (hs:s.size≤maxLen):(Instr.lookup 76 (.map (some m)) (.string s) true).run prog w=.ok (.tuple #[.int .i64 (S8.level (ls s):Int),.bool (decide (S8.level (ls s)≠0))]) w:=by
 obtain ⟨n,D,h,hD⟩:=h
 obtain ⟨v,ps,hrun,hv⟩:=h.look_ok klaw underlying76 (zero3 _) (plainElem_int underlying3 (by decide)) (kstr s hs)
 obtain ⟨c,rfl,hc,-⟩:=plainElem_int_inv underlying3 hv
 have e1:=congrArg Prod.fst hc
 simp only at e1
 rw [(hD (ls s)).1] at e1
 have e2:∀a b:Int,(DataW.lit (Lit.int .i64 a):DataW Unit)=.lit (.int .i64 b)→a=b:=fun a b h=>(Lit.int.inj (DataW.lit.inj h)).2
 rw [hrun,(hD (ls s)).2,← e2 _ _ e1]
theorem Zms {ops:Array Oper} {rest:List Oper} {o:Oper} {a:Act} {w:World} {Q:Exit→Act→World→Prop} {m:Nat} (hm:MapHas w m) (s:ByteArray) (hs:s.size≤maxLen) (hgd:o.guard=none) (x y:Operand) (ho:o.op=.lookup 76 x y true) (hx:a.eval x=.map (some m)) (hy:a.eval y=.string s)
  (h:wpList prog ops Q rest (a.put o.dst (.tuple #[.int .i64 (S8.level (ls s):Int),.bool (decide (S8.level (ls s)≠0))])) w):wpList prog ops Q (o::rest) a w:=by
 refine wpList_plain hgd fun K hK=>?_
 have hr:=ZpX hm s hs
 unfold Oper.wp execOp
 simp only [ho,hx,hy,Sem.run_bind,hr,Result.andThen_ok,Sem.run_pure]
 exact hK _ _ h
theorem Zwp {t:Bs} (h:S8.level t≠0):t.length≤30∧(S8.level t≤2→S8.okT (S8.nm t)=true)∧(¬ S8.level t≤2→S8.okT (S8.mkt t)=true):=by
 have hm:t∈puts.map Prod.fst:=by
  by_cases hm:t∈puts.map Prod.fst
  ·exact hm
  ·exfalso;apply h
   simp only [puts,List.map_cons,List.map_nil,List.mem_cons,List.not_mem_nil,or_false,not_or] at hm
   unfold S8.level
   simp only [S8.wOr,S8.ZqC,S8.ZyO,S8.mNe,S8.mLt,S8.mLe,S8.mGt,S8.mGe,S8.ZyP,S8.Zt7,S8.Zcr,S8.Zt6,S8.Zo0,S8.ZyN,beq_iff_eq,Bool.or_eq_true,hm,if_false,or_self]
 simp only [puts,List.map_cons,List.map_nil,List.mem_cons,List.not_mem_nil,or_false] at hm
 rcases hm with rfl | rfl | rfl | rfl | rfl | rfl | rfl | rfl | rfl | rfl | rfl | rfl | rfl | rfl <;> decide
section
variable {B g lv N:Nat} {w w2:World} {L:List Tk} {f:S8.Fm} {r:Nat}
theorem Zza (HG:Gd B lv N) (F:Fo w B g lv N f L r) (hr:900≤r) :
  Calls prog 215 #[.pointer (some ⟨g,0,none⟩)] w (FPost B g lv N w L (fun _=>r - 900) (S8.ZyI S8.ideal f) isU):=by
 have HG:=hid HG
 have htl:f.t.length≤100000000:=by have:=F.wr.bud;omega
 have A0:=hid (At.start2 (show S8.ZyI S8.ideal=(do let w ← S8.text;S8.req (S8.level w != 0);let x ← S8.Zdr;S8.Zix S8.ideal x (if S8.level w=4 then 5 else S8.level w);S8.tk (if S8.level w≤2 then S8.nm w else S8.mkt w);let y ← S8.Zdr;S8.Zix S8.ideal y (S8.level w + 1)) from rfl) F)
 have C1:=Zos A0.out.fo
 clear F
 by_cases h0:S8.level f.t=0
 ·have R1:=fun W=>ZeH W
  have b0:decide (S8.level f.t≠0)=false:=by simp [h0]
  have HQ:Hid (S8.req (S8.level f.t != 0) ⟨[],f.n,f.c⟩=none):=hid (by simp [S8.req,h0])
  clear h0
  go_enter func215,ntmps215
  go_wp2_with (first
   | (go_at_call 206;(with_reducible refine C1.mono ?_);intro e w1 h1;rcases A0.out.step h1 with ⟨rfl,e1,b1⟩ | ⟨y1,f1,l1,v1,rfl,e1,rfl,G⟩;exact ⟨rfl,.stop e1 b1⟩;obtain ⟨rfl,rfl⟩:y1=f.t∧f1=⟨[],f.n,f.c⟩:=(by simp only [S8.text,Option.some.injEq,Prod.mk.injEq] at e1;exact ⟨e1.1.symm,e1.2.1.symm⟩);have A1:=hid G;have z1:=G.fo.c0;have d1:=G.fo.wr.c1;clear h1 e1 G C1)
   | (refine Zms A1.out.fo.wr.map (mk f.t) (by rw [ZfK];simp only [maxLen];omega) rfl _ _ rfl rfl rfl ?_;rw [Zbc,b0])
   | (go_at_call 82;(with_reducible refine (R1 _).mono ?_);rintro e w2 ⟨rfl,rfl⟩;exact ⟨rfl,.stop (A1.out.fails HQ.out) A1.out.fr.below⟩))
 ·have R1:=fun W=>Zd2 W
  have b0:decide (S8.level f.t≠0)=true:=by simp [h0]
  have hl7:=ZiK f.t
  have HO:=hid (Zwp h0)
  have HQ:Hid (S8.req (S8.level f.t != 0) ⟨[],f.n,f.c⟩=some ((),⟨[],f.n,f.c⟩,[])):=hid (by simp [S8.req,h0])
  have C3:=fun W=>Zmv (S8.level f.t) (by omega) W
  obtain ⟨lev,hlev⟩:∃lev,lev=S8.level f.t:=⟨_,rfl⟩
  obtain ⟨lf,hlf⟩:∃lf:Nat,lf=S8.lft (S8.level f.t):=⟨_,rfl⟩
  rw [← hlf,← hlev] at C3
  rw [← hlev] at b0 hl7
  have HL:=hid (And.intro hlev hlf)
  clear h0 hlev hlf
  go_enter func215,ntmps215
  go_wp2_with (first
   | (go_at_call 206;(with_reducible refine C1.mono ?_);intro e w1 h1;rcases A0.out.step h1 with ⟨rfl,e1,b1⟩ | ⟨y1,f1,l1,v1,rfl,e1,rfl,G⟩;exact ⟨rfl,.stop e1 b1⟩;obtain ⟨rfl,rfl⟩:y1=f.t∧f1=⟨[],f.n,f.c⟩:=(by simp only [S8.text,Option.some.injEq,Prod.mk.injEq] at e1;exact ⟨e1.1.symm,e1.2.1.symm⟩);have A1:=hid (G.pass HQ.out);have z1:=G.fo.c0;have d1:=G.fo.wr.c1;clear h1 e1 G C1)
   | (refine Zms A1.out.fo.wr.map (mk f.t) (by rw [ZfK];simp only [maxLen];omega) rfl _ _ rfl rfl rfl ?_;rw [Zbc,← HL.out.1,b0])
   | (go_at_call 82;(with_reducible refine (R1 _).mono ?_);rintro e w2 ⟨rfl,rfl⟩)
   | (go_at_call 246;(with_reducible refine (C3 _).mono ?_);rintro e w2 ⟨rfl,rfl⟩))
  refine r2 (fun W=>W.cell? ⟨g,0,none⟩=some (.pointer (some ⟨B,0,none⟩))) (fun j=>decide (j < 7)) [0,1,2,3,4,6] [5,7] A1.out.fo.c0 ?_
  refine fs (.pointer (some ⟨g,0,none⟩)) rfl ?_
  refine fs (.pointer (some ⟨g,0,none⟩)) rfl ?_
  refine fs (.pointer (some ⟨g,0,none⟩)) rfl ?_
  refine fs (.pointer (some ⟨B,0,none⟩)) rfl ?_
  refine fs (.pointer (some ⟨g,0,none⟩)) rfl ?_
  refine fs (.int .i64 (lf:Int)) rfl ?_
  refine Zap ?_
  replace A1:=hid (A1.out.below (Below.refl _ _).drew)
  clear z1 d1
  have C2:=ZfU A1.out.fo
  refine cs rfl fun K9 HK9=>?_
  go_wp2_with (go_at_call 148;(with_reducible refine C2.mono ?_);intro e w2 h1;rcases A1.out.step h1 with ⟨rfl,e1,b1⟩ | ⟨y2,f2,l2,v2,rfl,e1,hv,G⟩;exact ⟨rfl,.stop e1 b1⟩;have A2:=hid G;have V2:=hid hv;clear h1 e1 G C2 hv)
  refine HK9.out _ _ (fun _=>A2.out.fo.c0) ?_
  have C3:=A2.out.fo.koper (show Puts B lv N 152 .expr from HG.out.pu .expr) V2.out (if S8.level f.t=4 then 5 else S8.level f.t) (lf:Int) (by rw [HL.out.2];rfl) (by omega)
  refine cs rfl fun K9 HK9=>?_
  go_wp2_with (go_at_call 216;(with_reducible refine C3.mono ?_);intro e w3 h1;rcases A2.out.step h1 with ⟨rfl,e1,b1⟩ | ⟨y3,f3,l3,v3,rfl,e1,rfl,G⟩;exact ⟨rfl,.stop e1 b1⟩;have A3:=hid G;clear h1 e1 G C3)
  refine HK9.out _ _ (fun h=>absurd h (by decide)) ?_
  refine Zam ?_
  have z3:=A3.out.fo.c0
  by_cases hl2:lev≤2
  ·
   have i1:decide ((lev:Int)≤2)=true:=by simp;omega
   have i2:decide (lev≤2)=true:=by simp;omega
   have HT:Hid ((if S8.level f.t≤2 then S8.nm f.t else S8.mkt f.t)=S8.nm f.t):=hid (if_pos (by rw [← HL.out.1];exact hl2))
   have HT2:Hid (S8.okT (S8.nm f.t)=true):=hid (HO.out.2.1 (by rw [← HL.out.1];exact hl2))
   clear hl2
   rw [HT.out] at A3
   have C4:=A3.out.fo.name (mk f.t) f.t (Zbc _) (by omega) HO.out.1 HT2.out
   go_wp2_with (first
    | (go_at_call 85;(with_reducible refine C4.mono ?_);intro e w4 h1;rcases A3.out.step h1 with ⟨rfl,e1,b1⟩ | ⟨y4,f4,l4,v4,rfl,e1,rfl,G⟩;exact ⟨rfl,.stop e1 b1⟩;have A4:=hid G;have z4:=G.fo.c0;clear h1 e1 G C4 z3))
   refine r2 (fun W=>W.cell? ⟨g,0,none⟩=some (.pointer (some ⟨B,0,none⟩))) (fun j=>decide (j < 7)) [0,1,2,3,4,6] [5,7] A4.out.fo.c0 ?_
   refine fs (.pointer (some ⟨g,0,none⟩)) rfl ?_
   refine fs (.pointer (some ⟨g,0,none⟩)) rfl ?_
   refine fs (.pointer (some ⟨g,0,none⟩)) rfl ?_
   refine fs (.pointer (some ⟨B,0,none⟩)) rfl ?_
   refine fs (.pointer (some ⟨g,0,none⟩)) rfl ?_
   refine fs (.int .i64 ((lev:Int) + 1)) rfl ?_
   refine Zap ?_
   replace A4:=hid (A4.out.below (Below.refl _ _).drew)
   clear z4
   have C5:=ZfU A4.out.fo
   refine cs rfl fun K9 HK9=>?_
   go_wp2_with (go_at_call 148;(with_reducible refine C5.mono ?_);intro e w5 h1;rcases A4.out.step h1 with ⟨rfl,e1,b1⟩ | ⟨y5,f5,l5,v5,rfl,e1,hv,G⟩;exact ⟨rfl,.stop e1 b1⟩;have A5:=hid G;have V5:=hid hv;clear h1 e1 G C5 hv)
   refine HK9.out _ _ (fun _=>A5.out.fo.c0) ?_
   have C6:=A5.out.fo.koper (show Puts B lv N 152 .expr from HG.out.pu .expr) V5.out (S8.level f.t + 1) ((lev:Int) + 1) (by rw [HL.out.1];rfl) (by omega)
   refine cs rfl fun K9 HK9=>?_
   go_wp2_with (go_at_call 216;(with_reducible refine C6.mono ?_);intro e w6 h1;rcases A5.out.last h1 with ⟨rfl,e1,b1⟩ | ⟨y,f,l,v,rfl,rfl,e1,F,k⟩;exact ⟨rfl,.stop e1 b1⟩;have E6:=hid (And.intro e1 (And.intro F k));clear h1 e1 F k C6)
   refine HK9.out _ _ (fun h=>absurd h (by decide)) ?_
   refine Zam ?_
   go_end0
   exact .done E6.out.1 rfl (E6.out.2.1.less (by have:=Zbw;omega)) E6.out.2.2
  ·
   have i1:decide ((lev:Int)≤2)=false:=by simp;omega
   have i2:decide (lev≤2)=false:=by simp;omega
   have HT:Hid ((if S8.level f.t≤2 then S8.nm f.t else S8.mkt f.t)=S8.mkt f.t):=hid (if_neg (by rw [← HL.out.1];exact hl2))
   have HT2:Hid (S8.okT (S8.mkt f.t)=true):=hid (HO.out.2.2 (by rw [← HL.out.1];exact hl2))
   clear hl2
   rw [HT.out] at A3
   have C7:=A3.out.fo.mark (mk f.t) f.t (Zbc _) (by omega) HO.out.1 HT2.out
   go_wp2_with (first
    | (go_at_call 146;(with_reducible refine C7.mono ?_);intro e w7 h1;rcases A3.out.step h1 with ⟨rfl,e1,b1⟩ | ⟨y7,f7,l7,v7,rfl,e1,rfl,G⟩;exact ⟨rfl,.stop e1 b1⟩;have A7:=hid G;have z7:=G.fo.c0;clear h1 e1 G C7 z3))
   refine r2 (fun W=>W.cell? ⟨g,0,none⟩=some (.pointer (some ⟨B,0,none⟩))) (fun j=>decide (j < 7)) [0,1,2,3,4,6] [5,7] A7.out.fo.c0 ?_
   refine fs (.pointer (some ⟨g,0,none⟩)) rfl ?_
   refine fs (.pointer (some ⟨g,0,none⟩)) rfl ?_
   refine fs (.pointer (some ⟨g,0,none⟩)) rfl ?_
   refine fs (.pointer (some ⟨B,0,none⟩)) rfl ?_
   refine fs (.pointer (some ⟨g,0,none⟩)) rfl ?_
   refine fs (.int .i64 ((lev:Int) + 1)) rfl ?_
   refine Zap ?_
   replace A7:=hid (A7.out.below (Below.refl _ _).drew)
   clear z7
   have C8:=ZfU A7.out.fo
   refine cs rfl fun K9 HK9=>?_
   go_wp2_with (go_at_call 148;(with_reducible refine C8.mono ?_);intro e w8 h1;rcases A7.out.step h1 with ⟨rfl,e1,b1⟩ | ⟨y8,f8,l8,v8,rfl,e1,hv,G⟩;exact ⟨rfl,.stop e1 b1⟩;have A8:=hid G;have V8:=hid hv;clear h1 e1 G C8 hv)
   refine HK9.out _ _ (fun _=>A8.out.fo.c0) ?_
   have C9:=A8.out.fo.koper (show Puts B lv N 152 .expr from HG.out.pu .expr) V8.out (S8.level f.t + 1) ((lev:Int) + 1) (by rw [HL.out.1];rfl) (by omega)
   refine cs rfl fun K9 HK9=>?_
   go_wp2_with (go_at_call 216;(with_reducible refine C9.mono ?_);intro e w9 h1;rcases A8.out.last h1 with ⟨rfl,e1,b1⟩ | ⟨y,f,l,v,rfl,rfl,e1,F,k⟩;exact ⟨rfl,.stop e1 b1⟩;have E9:=hid (And.intro e1 (And.intro F k));clear h1 e1 F k C9)
   refine HK9.out _ _ (fun h=>absurd h (by decide)) ?_
   refine Zam ?_
   go_end0
   exact .done E9.out.1 rfl (E9.out.2.1.less (by have:=Zbw;omega)) E9.out.2.2
end
open Go.RowKit L7
section
variable {B g lv N:Nat} {w w2:World} {L:List Tk} {f:S8.Fm} {r:Nat}
theorem Zx3 (HG:Gd B lv N) (F:Fo w B g lv N f L r) (hr:500≤r) :
  Calls prog 249 #[.pointer (some ⟨g,0,none⟩)] w (FPost B g lv N w L (fun _=>r - 500) (S8.Zxl S8.ideal f) isU):=by
 have HG:=hid HG
 have z0:=F.c0
 obtain ⟨k0,a0,A00,cap0,i1,i2,i3⟩:=F.is
 have zt:=i1.at_ 2
 simp at zt
 have AA:=(At.start2 (show S8.Zxl S8.ideal=(do let f ← S8.look;if f.t=S8.ZdF then (do let t ← S8.text;S8.tk (S8.mkt t)) else (do S8.ZaZ S8.Zcf;let l ← S8.front 40;S8.put (S8.Zqu S8.mLp (S8.ideal .bind) l S8.mRp))) from rfl) F).pass (y:=f) rfl
 have hq:((mk f.t).toList == [95])=decide (f.t=S8.ZdF):=by rw [Zas,Zbc,Bool.eq_iff_iff,beq_iff_eq,decide_eq_true_eq];rfl
 clear F i1 i2 i3
 by_cases ht:f.t=S8.ZdF
 ·
  have A0:=hid (AA.pos ht)
  have HT:=hid ht
  rw [ht] at zt
  have tt:((mk S8.ZdF).toList == [95])=true:=by rw [Zas,Zbc];rfl
  clear AA ht hq
  go_enter func249,ntmps249
  go_wp2_with fail
  refine r2 (fun W=>W.cell? ⟨g,0,none⟩=some (.pointer (some ⟨B,0,none⟩))) (fun j=>decide (j < 6)) [0,1,2,3,4] [5,6] A0.out.fo.c0 ?_
  refine fs (.pointer (some ⟨g,0,none⟩)) rfl ?_
  refine fs (.pointer (some ⟨g,0,none⟩)) rfl ?_
  refine fs (.pointer (some ⟨g,0,none⟩)) rfl ?_
  refine fs (.pointer (some ⟨B,0,none⟩)) rfl ?_
  refine fs (.pointer (some ⟨g,0,none⟩)) rfl ?_
  refine Zap ?_
  replace A0:=hid (A0.out.below (Below.refl _ _).drew)
  clear z0 zt
  have C1:=Zos A0.out.fo
  refine cs rfl fun K9 HK9=>?_
  go_wp2_with (go_at_call 206;(with_reducible refine C1.mono ?_);intro e w1 h1;rcases A0.out.step h1 with ⟨rfl,e1,b1⟩ | ⟨y1,f1,l1,v1,rfl,e1,rfl,G⟩;exact ⟨rfl,.stop e1 b1⟩;obtain rfl:y1=S8.ZdF:=(by simp only [S8.text,Option.some.injEq,Prod.mk.injEq] at e1;exact e1.1.symm.trans HT.out);have A1:=hid G;clear h1 e1 G C1)
  refine HK9.out _ _ (fun _=>A1.out.fo.c0) ?_
  have C2:=A1.out.fo.mark (mk S8.ZdF) S8.ZdF (Zbc _) (by omega) (by decide) (by decide)
  refine cs rfl fun K9 HK9=>?_
  go_wp2_with (go_at_call 146;(with_reducible refine C2.mono ?_);intro e w2 h1;rcases A1.out.last h1 with ⟨rfl,e1,b1⟩ | ⟨y,f,l,v,rfl,rfl,e1,F,k⟩;exact ⟨rfl,.stop e1 b1⟩;have E2:=hid (And.intro e1 (And.intro F k));clear h1 e1 F k C2)
  refine HK9.out _ _ (fun h=>absurd h (by decide)) ?_
  refine Zam ?_
  go_wp2_with fail
  exact bodyPost_ret (results_none rfl _ _ _) rfl (.done E2.out.1 rfl (E2.out.2.1.less (by omega)) E2.out.2.2)
 ·
  have A0:=hid (AA.neg ht)
  have tt:((mk f.t).toList == [95])=false:=by rw [hq];exact decide_eq_false ht
  clear AA ht hq
  go_enter func249,ntmps249
  have C3:=Zfg A0.out.fo (by omega)
  go_wp2_with (first
   | (go_at_call 86;(with_reducible refine C3.mono ?_);intro e w3 h1;rcases A0.out.step h1 with ⟨rfl,e1,b1⟩ | ⟨y3,f3,l3,v3,rfl,e1,rfl,G⟩;exact ⟨rfl,.stop e1 b1⟩;have A3:=hid G;have z3:=G.fo.c0;clear h1 e1 G C3 z0 zt))
  refine r2 (fun W=>W.cell? ⟨g,0,none⟩=some (.pointer (some ⟨B,0,none⟩))) (fun j=>decide (j < 11)) [0,1,2,3,4,6,7,8,9,10] [5,11] A3.out.fo.c0 ?_
  refine fs (.pointer (some ⟨g,0,none⟩)) rfl ?_
  refine fs (.pointer (some ⟨g,0,none⟩)) rfl ?_
  refine fs (.pointer (some ⟨g,0,none⟩)) rfl ?_
  refine fs (.pointer (some ⟨B,0,none⟩)) rfl ?_
  refine fs (.pointer (some ⟨g,0,none⟩)) rfl ?_
  refine fs (.pointer (some ⟨g,0,none⟩)) rfl ?_
  refine fs (.pointer (some ⟨g,0,none⟩)) rfl ?_
  refine fs (.pointer (some ⟨g,0,none⟩)) rfl ?_
  refine fs (.pointer (some ⟨B,0,none⟩)) rfl ?_
  refine fs (.func (.func 271) #[.pointer (some ⟨B,0,none⟩)] #[]) rfl ?_
  refine Zap ?_
  replace A3:=hid (A3.out.below (Below.refl _ _).drew)
  clear z3
  have C4:=Zsb A3.out.fo 40
  refine cs rfl fun K9 HK9=>?_
  go_wp2_with (go_at_call 210;(with_reducible refine C4.mono ?_);intro e w4 h1;rcases A3.out.step h1 with ⟨rfl,e1,b1⟩ | ⟨y4,f4,l4,v4,rfl,e1,hv,G⟩;exact ⟨rfl,.stop e1 b1⟩;have A4:=hid G;have V4:=hid hv;clear h1 e1 G C4 hv)
  refine HK9.out _ _ (fun _=>A4.out.fo.c0) ?_
  have C5:=A4.out.fo.kopt (fun _ _=>by kernel_rfl) (show Puts B lv N 271 .bind from HG.out.pu .bind) ⟨#[40]⟩ ⟨#[41]⟩ S8.mLp S8.mRp rfl rfl (by decide) (by decide) (by decide) V4.out (by omega)
  refine cs rfl fun K9 HK9=>?_
  go_wp2_with (go_at_call 149;(with_reducible refine C5.mono ?_);intro e w5 h1;rcases A4.out.last h1 with ⟨rfl,e1,b1⟩ | ⟨y,f,l,v,rfl,rfl,e1,F,k⟩;exact ⟨rfl,.stop e1 b1⟩;have E5:=hid (And.intro e1 (And.intro F k));clear h1 e1 F k C5)
  refine HK9.out _ _ (fun h=>absurd h (by decide)) ?_
  refine Zam ?_
  go_end0
  exact .done E5.out.1 rfl (E5.out.2.1.less (by have:=Zbw;omega)) E5.out.2.2
theorem Zv6 (HG:Gd B lv N):Puts B lv (N + 1) 214 .arm:=by
 intro w L r v x hw hx hd
 rw [← S8.Zck _ _ (Zex (by have:=HG.le;omega))]
 show Calls _ _ _ _ (WPost B lv w L r (S8.beg 39 (S8.Zxd S8.ideal) x))
 have HG:=hid HG
 have hk0:∀y∈x.c,dpt y < N:=fun y hy=>by have:=Zbv x y hy;omega
 have hB:=hw.size
 obtain ⟨s,rfl,hk1⟩:=hx
 have b0:Below w.heap.size w (w.alloc (.cells (nd5 x.k x.t x.n x.a s) 24)):=(Below.refl _ _).alloc (Nat.le_refl _) _
 have X1:NodeAt (w.alloc (.cells (nd5 x.k x.t x.n x.a s) 24)) B x (.agg (nd5 x.k x.t x.n x.a s)):=⟨s,rfl,ZaF hk1 (b0.mono (by omega))⟩
 have HB:=hid b0
 by_cases hk:x.k=39
 case neg=>
  have C0:=ZeE x _ 39 hk X1
  have HM:Hid (S8.beg 39 (S8.Zxd S8.ideal) x=none):=hid (by unfold S8.beg;rw [if_neg hk])
  clear hw hk1 hd hk hk0 b0 X1
  go_enter func214,ntmps214
  go_wp2_with (go_at_call 49;(with_reducible refine C0.mono ?_);rintro e w1 ⟨rfl,h1⟩;exact ⟨rfl,.stop HM.out ((HB.out.trans (h1.mono HB.out.size)).mono (by omega))⟩)
 have C0:=ZdN (r:=r) x _ 39 hk (hw.below b0) X1 hk0 (Zc9 (by have:=HG.out.le;omega))
 rw [show S8.beg 39 (S8.Zxd S8.ideal) x=S8.run (S8.Zxd S8.ideal) x from if_pos hk]
 have hq:(do S8.Zxd S8.ideal;S8.shut:S8.Wm Unit)=(do
   S8.Zxl S8.ideal
   S8.tk (S8.mkt S8.Zjg)
   let y3 ← S8.Zdr
   S8.put (S8.ideal .expr y3)
   S8.shut
   : S8.Wm Unit):=by
  simp only [S8.Zxd,S8.ZaP]
 have HQ:=hid hq
 clear hw hk1 hd hk hk0 b0 X1 hq
 go_enter func214,ntmps214
 go_wp2_with (go_at_call 49;(with_reducible refine C0.mono ?_);rintro e w0 ⟨g,rfl,F0,h1,hg⟩;have A0:=hid (At.node2 (w:=w) HQ.out F0 (HB.out.trans (h1.mono HB.out.size)) (by omega) (Nat.le_trans HB.out.size hg));have z0:=F0.c0;clear F0 h1 hg C0)
 have C1:=Zx3 HG.out A0.out.fo (by omega)
 go_wp2_with (first
  | (go_at_call 249;(with_reducible refine C1.mono ?_);intro e w1 h1;rcases A0.out.step h1 with ⟨rfl,e1,b1⟩ | ⟨y1,f1,l1,v1,rfl,e1,rfl,G⟩;exact ⟨rfl,.node_stop e1 b1⟩;have A1:=hid G;have z1:=G.fo.c0;clear h1 e1 G C1 z0;have C2:=A1.out.fo.mark ⟨#[61,62]⟩ S8.Zjg rfl (by omega) (by decide) (by decide))
  | (go_at_call 146;(with_reducible refine C2.mono ?_);intro e w2 h1;rcases A1.out.step h1 with ⟨rfl,e1,b1⟩ | ⟨y2,f2,l2,v2,rfl,e1,rfl,G⟩;exact ⟨rfl,.node_stop e1 b1⟩;have A2:=hid G;have z2:=G.fo.c0;clear h1 e1 G C2 z1))
 refine r2 (fun W=>W.cell? ⟨g,0,none⟩=some (.pointer (some ⟨B,0,none⟩))) (fun j=>decide (j < 6)) [0,1,2,3,4] [5,6] A2.out.fo.c0 ?_
 refine fs (.pointer (some ⟨g,0,none⟩)) rfl ?_
 refine fs (.pointer (some ⟨g,0,none⟩)) rfl ?_
 refine fs (.pointer (some ⟨g,0,none⟩)) rfl ?_
 refine fs (.pointer (some ⟨B,0,none⟩)) rfl ?_
 refine fs (.pointer (some ⟨g,0,none⟩)) rfl ?_
 refine Zap ?_
 replace A2:=hid (A2.out.below (Below.refl _ _).drew)
 clear z2
 have C3:=ZfU A2.out.fo
 refine cs rfl fun K9 HK9=>?_
 go_wp2_with (go_at_call 148;(with_reducible refine C3.mono ?_);intro e w3 h1;rcases A2.out.step h1 with ⟨rfl,e1,b1⟩ | ⟨y3,f3,l3,v3,rfl,e1,hv,G⟩;exact ⟨rfl,.node_stop e1 b1⟩;have A3:=hid G;have V3:=hid hv;clear h1 e1 G C3 hv)
 refine HK9.out _ _ (fun _=>A3.out.fo.c0) ?_
 have C4:=A3.out.fo.kcall (show Puts B lv N 152 .expr from HG.out.pu .expr) V3.out (by omega)
 refine cs rfl fun K9 HK9=>?_
 go_wp2_with (go_at_call 152;(with_reducible refine C4.mono ?_);intro e w4 h1;rcases A3.out.step h1 with ⟨rfl,e1,b1⟩ | ⟨y4,f4,l4,v4,rfl,e1,rfl,G⟩;exact ⟨rfl,.node_stop e1 b1⟩;have A4:=hid G;clear h1 e1 G C4)
 refine HK9.out _ _ (fun h=>absurd h (by decide)) ?_
 refine Zam ?_
 have z4:=A4.out.fo.c0
 have C5:=Zfi A4.out.fo
 go_wp2_with (first
  | (go_at_call 52;(with_reducible refine C5.mono ?_);intro e w5 h1;rcases A4.out.last h1 with ⟨rfl,e1,b1⟩ | ⟨y,f,l,v,rfl,rfl,e1,F,k⟩;exact ⟨rfl,.node_stop e1 b1⟩;have E5:=hid (And.intro e1 (And.intro F k));clear h1 e1 F k C5 z4))
 go_end0
 exact .node_done E5.out.1 E5.out.2.1 (by omega) E5.out.2.2
theorem ZtE (HG:Gd B lv N):Puts B lv (N + 1) 296 .sarm:=by
 intro w L r v x hw hx hd
 rw [← S8.Zck _ _ (Zex (by have:=HG.le;omega))]
 show Calls _ _ _ _ (WPost B lv w L r (S8.beg 54 (S8.Znp S8.ideal) x))
 have HG:=hid HG
 have hk0:∀y∈x.c,dpt y < N:=fun y hy=>by have:=Zbv x y hy;omega
 have hB:=hw.size
 obtain ⟨s,rfl,hk1⟩:=hx
 have b0:Below w.heap.size w (w.alloc (.cells (nd5 x.k x.t x.n x.a s) 24)):=(Below.refl _ _).alloc (Nat.le_refl _) _
 have X1:NodeAt (w.alloc (.cells (nd5 x.k x.t x.n x.a s) 24)) B x (.agg (nd5 x.k x.t x.n x.a s)):=⟨s,rfl,ZaF hk1 (b0.mono (by omega))⟩
 have HB:=hid b0
 by_cases hk:x.k=54
 case neg=>
  have C0:=ZeE x _ 54 hk X1
  have HM:Hid (S8.beg 54 (S8.Znp S8.ideal) x=none):=hid (by unfold S8.beg;rw [if_neg hk])
  clear hw hk1 hd hk hk0 b0 X1
  go_enter func296,ntmps296
  go_wp2_with (go_at_call 49;(with_reducible refine C0.mono ?_);rintro e w1 ⟨rfl,h1⟩;exact ⟨rfl,.stop HM.out ((HB.out.trans (h1.mono HB.out.size)).mono (by omega))⟩)
 have C0:=ZdN (r:=r) x _ 54 hk (hw.below b0) X1 hk0 (Zc9 (by have:=HG.out.le;omega))
 rw [show S8.beg 54 (S8.Znp S8.ideal) x=S8.run (S8.Znp S8.ideal) x from if_pos hk]
 have hq:(do S8.Znp S8.ideal;S8.shut:S8.Wm Unit)=(do
   S8.Zxl S8.ideal
   let y2 ← S8.Zdr
   S8.put (S8.ideal .block y2)
   S8.shut
   : S8.Wm Unit):=by
  simp only [S8.Znp,S8.ZaP]
 have HQ:=hid hq
 clear hw hk1 hd hk hk0 b0 X1 hq
 go_enter func296,ntmps296
 go_wp2_with (go_at_call 49;(with_reducible refine C0.mono ?_);rintro e w0 ⟨g,rfl,F0,h1,hg⟩;have A0:=hid (At.node2 (w:=w) HQ.out F0 (HB.out.trans (h1.mono HB.out.size)) (by omega) (Nat.le_trans HB.out.size hg));have z0:=F0.c0;clear F0 h1 hg C0)
 have C1:=Zx3 HG.out A0.out.fo (by omega)
 go_wp2_with (first
  | (go_at_call 249;(with_reducible refine C1.mono ?_);intro e w1 h1;rcases A0.out.step h1 with ⟨rfl,e1,b1⟩ | ⟨y1,f1,l1,v1,rfl,e1,rfl,G⟩;exact ⟨rfl,.node_stop e1 b1⟩;have A1:=hid G;have z1:=G.fo.c0;clear h1 e1 G C1 z0))
 refine r2 (fun W=>W.cell? ⟨g,0,none⟩=some (.pointer (some ⟨B,0,none⟩))) (fun j=>decide (j < 6)) [0,1,2,3,4] [5,6] A1.out.fo.c0 ?_
 refine fs (.pointer (some ⟨g,0,none⟩)) rfl ?_
 refine fs (.pointer (some ⟨g,0,none⟩)) rfl ?_
 refine fs (.pointer (some ⟨g,0,none⟩)) rfl ?_
 refine fs (.pointer (some ⟨B,0,none⟩)) rfl ?_
 refine fs (.pointer (some ⟨g,0,none⟩)) rfl ?_
 refine Zap ?_
 replace A1:=hid (A1.out.below (Below.refl _ _).drew)
 clear z1
 have C2:=ZfU A1.out.fo
 refine cs rfl fun K9 HK9=>?_
 go_wp2_with (go_at_call 148;(with_reducible refine C2.mono ?_);intro e w2 h1;rcases A1.out.step h1 with ⟨rfl,e1,b1⟩ | ⟨y2,f2,l2,v2,rfl,e1,hv,G⟩;exact ⟨rfl,.node_stop e1 b1⟩;have A2:=hid G;have V2:=hid hv;clear h1 e1 G C2 hv)
 refine HK9.out _ _ (fun _=>A2.out.fo.c0) ?_
 have C3:=A2.out.fo.kcall (show Puts B lv N 219 .block from HG.out.pu .block) V2.out (by omega)
 refine cs rfl fun K9 HK9=>?_
 go_wp2_with (go_at_call 219;(with_reducible refine C3.mono ?_);intro e w3 h1;rcases A2.out.step h1 with ⟨rfl,e1,b1⟩ | ⟨y3,f3,l3,v3,rfl,e1,rfl,G⟩;exact ⟨rfl,.node_stop e1 b1⟩;have A3:=hid G;clear h1 e1 G C3)
 refine HK9.out _ _ (fun h=>absurd h (by decide)) ?_
 refine Zam ?_
 have z3:=A3.out.fo.c0
 have C4:=Zfi A3.out.fo
 go_wp2_with (first
  | (go_at_call 52;(with_reducible refine C4.mono ?_);intro e w4 h1;rcases A3.out.last h1 with ⟨rfl,e1,b1⟩ | ⟨y,f,l,v,rfl,rfl,e1,F,k⟩;exact ⟨rfl,.node_stop e1 b1⟩;have E4:=hid (And.intro e1 (And.intro F k));clear h1 e1 F k C4 z3))
 go_end0
 exact .node_done E4.out.1 E4.out.2.1 (by omega) E4.out.2.2
end
open Go.RowKit L7
section
variable {B g lv N:Nat} {w w2:World} {L:List Tk} {f:S8.Fm} {r:Nat}
theorem Zrg (HG:Gd B lv N):Puts B lv (N + 1) 219 .block:=by
 intro w L r v x hw hx hd
 rw [← S8.Zck _ _ (Zex (by have:=HG.le;omega))]
 show Calls _ _ _ _ (WPost B lv w L r (S8.beg 11 (S8.ZhT S8.ideal) x))
 have HG:=hid HG
 have hk0:∀y∈x.c,dpt y < N:=fun y hy=>by have:=Zbv x y hy;omega
 have hB:=hw.size
 obtain ⟨s,rfl,hk1⟩:=hx
 have b0:Below w.heap.size w (w.alloc (.cells (nd5 x.k x.t x.n x.a s) 24)):=(Below.refl _ _).alloc (Nat.le_refl _) _
 have X1:NodeAt (w.alloc (.cells (nd5 x.k x.t x.n x.a s) 24)) B x (.agg (nd5 x.k x.t x.n x.a s)):=⟨s,rfl,ZaF hk1 (b0.mono (by omega))⟩
 have HB:=hid b0
 by_cases hk:x.k=11
 case neg=>
  have C0:=ZeE x _ 11 hk X1
  have HM:Hid (S8.beg 11 (S8.ZhT S8.ideal) x=none):=hid (by unfold S8.beg;rw [if_neg hk])
  clear hw hk1 hd hk hk0 b0 X1
  go_enter func219,ntmps219
  go_wp2_with (go_at_call 49;(with_reducible refine C0.mono ?_);rintro e w1 ⟨rfl,h1⟩;exact ⟨rfl,.stop HM.out ((HB.out.trans (h1.mono HB.out.size)).mono (by omega))⟩)
 have C0:=ZdN (r:=r) x _ 11 hk (hw.below b0) X1 hk0 (Zc9 (by have:=HG.out.le;omega))
 rw [show S8.beg 11 (S8.ZhT S8.ideal) x=S8.run (S8.ZhT S8.ideal) x from if_pos hk]
 have hq:(do S8.ZhT S8.ideal;S8.shut:S8.Wm Unit)=(do
   S8.tk (S8.mkt S8.mLb)
   let y2 ← S8.rest
   S8.put (S8.Zi8 (S8.ideal .stmt) y2)
   S8.tk (S8.mkt S8.mRb)
   S8.shut
   : S8.Wm Unit):=by
  simp only [S8.ZhT,S8.ZaP]
 have HQ:=hid hq
 clear hw hk1 hd hk hk0 b0 X1 hq
 go_enter func219,ntmps219
 go_wp2_with (go_at_call 49;(with_reducible refine C0.mono ?_);rintro e w0 ⟨g,rfl,F0,h1,hg⟩;have A0:=hid (At.node2 (w:=w) HQ.out F0 (HB.out.trans (h1.mono HB.out.size)) (by omega) (Nat.le_trans HB.out.size hg));have z0:=F0.c0;clear F0 h1 hg C0)
 have C1:=A0.out.fo.mark ⟨#[123]⟩ S8.mLb rfl (by omega) (by decide) (by decide)
 go_wp2_with (first
  | (go_at_call 146;(with_reducible refine C1.mono ?_);intro e w1 h1;rcases A0.out.step h1 with ⟨rfl,e1,b1⟩ | ⟨y1,f1,l1,v1,rfl,e1,rfl,G⟩;exact ⟨rfl,.node_stop e1 b1⟩;have A1:=hid G;have z1:=G.fo.c0;clear h1 e1 G C1 z0;have C2:=Zja A1.out.fo)
  | (go_at_call 50;(with_reducible refine C2.mono ?_);intro e w2 h1;rcases A1.out.step h1 with ⟨rfl,e1,b1⟩ | ⟨y2,f2,l2,v2,rfl,e1,⟨AA,cap,rfl,hc9,hR9,hD9⟩,G⟩;exact ⟨rfl,.node_stop e1 b1⟩;have A2:=hid G;have z2:=G.fo.c0;have V2:=hid (And.intro (hR9.stays (by have:=G.fo.wr.size;omega)) hD9);clear h1 e1 G C2 hc9 hR9 hD9 z1))
 obtain ⟨L1,q0,hL1,W0,hq0,hlen⟩:=A2.out.loop (by omega)
 have HW0:=hid W0
 have HL1:=hid hL1
 clear W0 hL1
 go_loopw [18] (fun vi wr=>∃(i:Nat) (rs:List (List Tk)),i≤y2.length∧vi=.int .i64 i∧Hid (S8.Zg1 (S8.ideal .stmt) (y2.take i)=some rs)∧Hid (Wr wr B lv (L1++rs.flatten) ((q0 + 4 * f2.t.length + wts f2.c) + wts (y2.drop i)))∧Hid (Fr B (fun _=>False) w2 wr)) (fun vi _=>y2.length - (intOf vi).toNat)
 case atStart=>exact ⟨0,[],Nat.zero_le _,rfl,hid rfl,hid (by rw [List.flatten_nil,List.append_nil];exact HW0.out),hid (Fr.refl _ _ _)⟩
 case round=>
  clear HW0 z2
  obtain ⟨i,rs,hi,rfl,HA,HW,HF⟩:=hrel
  have z9:=A2.out.fo.c0_keep (X:=fun _=>False) HF.out id
  by_cases hl:i < y2.length
  ·obtain ⟨x,hx⟩:∃x,y2[i]?=some x:=⟨_,List.getElem?_eq_getElem hl⟩
   obtain ⟨a,y,rfl,ha,hk,d0,d1,d2,d3,d4⟩:=V2.out.1 _ HF.out i x hx
   have i1:decide ((i:Int) < (y2.length:Int))=true:=by simp;omega
   have i2:(0:Int)≤i∧(i:Int) < (y2.length:Int):=by omega
   have HX:=hid (And.intro hx (And.intro hk (V2.out.2 x (List.mem_of_getElem? hx))))
   have hne:(a.add (i * 5)).block≠wr.heap.size:=by omega
   have HI0:=hid (Is.fresh wr 24 z5)
   clear hx hk hl
   have hgt:=HW.out.size
   have e3:wts (y2.drop i)=wt x + 200 + wts (y2.drop (i + 1)):=by rw [ZiR HX.out.1,Zbr]
   go_wp2_with (refine Zah HI0.out rfl 24 _ _ rfl (nd5 x.k x.t x.n x.a y) rfl rfl inf24 rfl (by have h1:=Zbq HX.out.2.1;simp [nd5,h1];exact ⟨rfl,rfl,rfl,rfl⟩) ?_;intro w92 h1 h2;have W2:=(HW.out.alloc (.cells z5 24)).kept HI0.out (by decide) hgt h2;have b2:Below wr.heap.size wr w92:=((Below.refl _ _).alloc (Nat.le_refl _) (.cells z5 24)).trans ⟨h2.os,h2.tape,h2.output,h2.size,fun k hk=>h2.block k (by simp;omega) (by simp;omega)⟩;have HF2:=hid (HF.out.trans (Fr.of_below (X:=fun _=>False) b2 (by omega)) (fun _ _ h=>h));have HI2:=hid (And.intro h1 (And.intro W2 (b2.mono (by omega:B≤wr.heap.size))));clear h1 h2 W2 b2)
   refine Zao (fun W=>W.cell? ⟨g,0,none⟩=some (.pointer (some ⟨B,0,none⟩))∧Is W wr.heap.size 24 (nd5 x.k x.t x.n x.a y)) (fun j=>decide (j < 5)) [0,1,2,3,4] [5] (by kernel_rfl) (by kernel_rfl) (fun c a a' W hd hq=>⟨hd▸hq.1,hq.2⟩) ⟨(show w92.cell? ⟨g,0,none⟩=_ from A2.out.fo.c0_keep (X:=fun _=>False) HF2.out id),HI2.out.1⟩ ?_
   refine fs (.pointer (some ⟨g,0,none⟩)) rfl ?_
   refine fs (.pointer (some ⟨g,0,none⟩)) rfl ?_
   refine fs (.pointer (some ⟨g,0,none⟩)) rfl ?_
   refine Zab (.pointer (some ⟨B,0,none⟩)) rfl (by rfl) (fun W hS=>by have h0:=hS.1;go_simp) ?_
   refine Zab (.agg (nd5 x.k x.t x.n x.a y)) rfl (by rfl) (fun W hS=>by have h0:=hS.2.at_ 0;have h1:=hS.2.at_ 1;have h2:=hS.2.at_ 2;have h3:=hS.2.at_ 3;have h4:=hS.2.at_ 4;go_simp) ?_
   refine Zap ?_
   have hbd:Below w92.heap.size w92 w92.drew:=(Below.refl _ _).drew
   have C9:=(show Puts B lv N 252 .stmt from HG.out.pu .stmt) w92.drew (L1++rs.flatten) ((q0 + 4 * f2.t.length + wts f2.c) + wts (y2.drop (i + 1))) (.agg (nd5 x.k x.t x.n x.a y)) x ((HI2.out.2.1.below hbd).less (by omega)) ⟨y,rfl,ZaF (ZaF HX.out.2.1 HI2.out.2.2) (hbd.mono (by have:=HI2.out.2.1.size;omega))⟩ HX.out.2.2
   have HBD:=hid (Fr.of_below (B:=B) (X:=fun _=>False) hbd (by have:=HI2.out.2.1.size;omega))
   clear hbd z9 d0 d1 d2 d3 d4
   refine cs rfl fun K9 HK9=>?_
   go_wp2_with (go_at_call 252;(with_reducible refine C9.mono ?_);intro e w94 h1;rcases h1.ways with ⟨rfl,h2,h3⟩ | ⟨m,rfl,h2,h3,h4⟩;exact ⟨rfl,.node_stop (A2.out.inner_stop (Ze3 HX.out.1 h2) ((HF2.out.below.trans HBD.out.below).trans h3)).1 (A2.out.inner_stop (Ze3 HX.out.1 h2) ((HF2.out.below.trans HBD.out.below).trans h3)).2⟩;have H4:=hid (And.intro h2 (And.intro h3 h4));clear h1 h2 h3 h4)
   refine HK9.out _ _ (fun h=>absurd h (by decide)) ?_
   refine Zam ?_
   go_wp2_with fail
   go_roundw
   case rel=>exact ⟨i + 1,rs++[m],by omega,by go_num,hid (ZgF HX.out.1 HA.out H4.out.1),hid (by rw [Zjx];have:=H4.out.2.1;simp only [List.append_assoc] at this ⊢;exact this),hid ((HF2.out.trans HBD.out (fun _ _ h=>h)).trans H4.out.2.2 (fun _ _ h=>h))⟩
   case measure=>simp [intOf];omega
  ·have hA2:=HA.out
   rw [List.take_of_length_le (by omega)] at hA2
   have i1:decide ((i:Int) < (y2.length:Int))=false:=by simp;omega
   have i2:decide (i < y2.length)=false:=by simp;omega
   have A3:=hid (A2.out.inner_done (r':=q0) (ZkS hA2) (by rw [← HL1.out];exact HW.out.less (by omega)) HF.out)
   have z3:=A3.out.fo.c0
   clear hA2 hl z9
   have C4:=A3.out.fo.mark ⟨#[125]⟩ S8.mRb rfl (by omega) (by decide) (by decide)
   go_wp2_with (first
    | (go_at_call 146;(with_reducible refine C4.mono ?_);intro e w4 h1;rcases A3.out.step h1 with ⟨rfl,e1,b1⟩ | ⟨y4,f4,l4,v4,rfl,e1,rfl,G⟩;exact ⟨rfl,.node_stop e1 b1⟩;have A4:=hid G;have z4:=G.fo.c0;clear h1 e1 G C4 z3;have C5:=Zfi A4.out.fo)
    | (go_at_call 52;(with_reducible refine C5.mono ?_);intro e w5 h1;rcases A4.out.last h1 with ⟨rfl,e1,b1⟩ | ⟨y,f,l,v,rfl,rfl,e1,F,k⟩;exact ⟨rfl,.node_stop e1 b1⟩;have E5:=hid (And.intro e1 (And.intro F k));clear h1 e1 F k C5 z4))
   go_end0
   exact .node_done E5.out.1 E5.out.2.1 (by omega) E5.out.2.2
theorem Zxg (HG:Gd B lv N) (F:Fo w B g lv N f L r) (hr:1000≤r) :
  Calls prog 94 #[.pointer (some ⟨g,0,none⟩)] w (FPost B g lv N w L (fun _=>r - 1000) (S8.Zkp S8.ideal f) isU):=by
 have HG:=hid HG
 have hq:S8.Zkp S8.ideal=(do
   S8.tk (S8.nm S8.ZbV)
   S8.ZaZ S8.Zcf
   S8.ZcP S8.ideal
   S8.Zjd
   S8.tk (S8.mkt S8.mLb)
   let y6 ← S8.rest
   S8.put (S8.Zi8 (S8.ideal .member) y6)
   S8.tk (S8.mkt S8.mRb)
   : S8.Wm Unit):=by
  first
  | rfl
  | simp only [S8.Zkp,S8.ZaP]
 have A0:=hid (At.start2 hq F)
 have z0:=F.c0
 clear hq F
 go_enter func94,ntmps94
 have C1:=A0.out.fo.name ⟨#[97,99,116,111,114]⟩ S8.ZbV rfl (by omega) (by decide) (by decide)
 go_wp2_with (first
  | (go_at_call 85;(with_reducible refine C1.mono ?_);intro e w1 h1;rcases A0.out.step h1 with ⟨rfl,e1,b1⟩ | ⟨y1,f1,l1,v1,rfl,e1,rfl,G⟩;exact ⟨rfl,.stop e1 b1⟩;have A1:=hid G;have z1:=G.fo.c0;clear h1 e1 G C1 z0;have C2:=Zfg A1.out.fo (by omega))
  | (go_at_call 86;(with_reducible refine C2.mono ?_);intro e w2 h1;rcases A1.out.step h1 with ⟨rfl,e1,b1⟩ | ⟨y2,f2,l2,v2,rfl,e1,rfl,G⟩;exact ⟨rfl,.stop e1 b1⟩;have A2:=hid G;have z2:=G.fo.c0;clear h1 e1 G C2 z1;have C3:=ZhM HG.out A2.out.fo (by omega))
  | (go_at_call 151;(with_reducible refine C3.mono ?_);intro e w3 h1;rcases A2.out.step h1 with ⟨rfl,e1,b1⟩ | ⟨y3,f3,l3,v3,rfl,e1,rfl,G⟩;exact ⟨rfl,.stop e1 b1⟩;have A3:=hid G;have z3:=G.fo.c0;clear h1 e1 G C3 z2;have C4:=ZtM HG.out A3.out.fo (by omega))
  | (go_at_call 153;(with_reducible refine C4.mono ?_);intro e w4 h1;rcases A3.out.step h1 with ⟨rfl,e1,b1⟩ | ⟨y4,f4,l4,v4,rfl,e1,rfl,G⟩;exact ⟨rfl,.stop e1 b1⟩;have A4:=hid G;have z4:=G.fo.c0;clear h1 e1 G C4 z3;have C5:=A4.out.fo.mark ⟨#[123]⟩ S8.mLb rfl (by omega) (by decide) (by decide))
  | (go_at_call 146;(with_reducible refine C5.mono ?_);intro e w5 h1;rcases A4.out.step h1 with ⟨rfl,e1,b1⟩ | ⟨y5,f5,l5,v5,rfl,e1,rfl,G⟩;exact ⟨rfl,.stop e1 b1⟩;have A5:=hid G;have z5:=G.fo.c0;clear h1 e1 G C5 z4;have C6:=Zja A5.out.fo)
  | (go_at_call 50;(with_reducible refine C6.mono ?_);intro e w6 h1;rcases A5.out.step h1 with ⟨rfl,e1,b1⟩ | ⟨y6,f6,l6,v6,rfl,e1,⟨AA,cap,rfl,hc9,hR9,hD9⟩,G⟩;exact ⟨rfl,.stop e1 b1⟩;have A6:=hid G;have z6:=G.fo.c0;have V6:=hid (And.intro (hR9.stays (by have:=G.fo.wr.size;omega)) hD9);clear h1 e1 G C6 hc9 hR9 hD9 z5))
 obtain ⟨L1,q0,hL1,W0,hq0,hlen⟩:=A6.out.loop (by omega)
 have HW0:=hid W0
 have HL1:=hid hL1
 clear W0 hL1
 go_loopw [23] (fun vi wr=>∃(i:Nat) (rs:List (List Tk)),i≤y6.length∧vi=.int .i64 i∧Hid (S8.Zg1 (S8.ideal .member) (y6.take i)=some rs)∧Hid (Wr wr B lv (L1++rs.flatten) ((q0 + 4 * f6.t.length + wts f6.c) + wts (y6.drop i)))∧Hid (Fr B (fun _=>False) w6 wr)) (fun vi _=>y6.length - (intOf vi).toNat)
 case atStart=>exact ⟨0,[],Nat.zero_le _,rfl,hid rfl,hid (by rw [List.flatten_nil,List.append_nil];exact HW0.out),hid (Fr.refl _ _ _)⟩
 case round=>
  clear HW0 z6
  obtain ⟨i,rs,hi,rfl,HA,HW,HF⟩:=hrel
  have z9:=A6.out.fo.c0_keep (X:=fun _=>False) HF.out id
  by_cases hl:i < y6.length
  ·obtain ⟨x,hx⟩:∃x,y6[i]?=some x:=⟨_,List.getElem?_eq_getElem hl⟩
   obtain ⟨a,y,rfl,ha,hk,d0,d1,d2,d3,d4⟩:=V6.out.1 _ HF.out i x hx
   have i1:decide ((i:Int) < (y6.length:Int))=true:=by simp;omega
   have i2:(0:Int)≤i∧(i:Int) < (y6.length:Int):=by omega
   have HX:=hid (And.intro hx (And.intro hk (V6.out.2 x (List.mem_of_getElem? hx))))
   have hne:(a.add (i * 5)).block≠wr.heap.size:=by omega
   have HI0:=hid (Is.fresh wr 24 z5)
   clear hx hk hl
   have hgt:=HW.out.size
   have e3:wts (y6.drop i)=wt x + 200 + wts (y6.drop (i + 1)):=by rw [ZiR HX.out.1,Zbr]
   go_wp2_with (refine Zah HI0.out rfl 24 _ _ rfl (nd5 x.k x.t x.n x.a y) rfl rfl inf24 rfl (by have h1:=Zbq HX.out.2.1;simp [nd5,h1];exact ⟨rfl,rfl,rfl,rfl⟩) ?_;intro w92 h1 h2;have W2:=(HW.out.alloc (.cells z5 24)).kept HI0.out (by decide) hgt h2;have b2:Below wr.heap.size wr w92:=((Below.refl _ _).alloc (Nat.le_refl _) (.cells z5 24)).trans ⟨h2.os,h2.tape,h2.output,h2.size,fun k hk=>h2.block k (by simp;omega) (by simp;omega)⟩;have HF2:=hid (HF.out.trans (Fr.of_below (X:=fun _=>False) b2 (by omega)) (fun _ _ h=>h));have HI2:=hid (And.intro h1 (And.intro W2 (b2.mono (by omega:B≤wr.heap.size))));clear h1 h2 W2 b2)
   refine Zao (fun W=>W.cell? ⟨g,0,none⟩=some (.pointer (some ⟨B,0,none⟩))∧Is W wr.heap.size 24 (nd5 x.k x.t x.n x.a y)) (fun j=>decide (j < 5)) [0,1,2,3,4] [5] (by kernel_rfl) (by kernel_rfl) (fun c a a' W hd hq=>⟨hd▸hq.1,hq.2⟩) ⟨(show w92.cell? ⟨g,0,none⟩=_ from A6.out.fo.c0_keep (X:=fun _=>False) HF2.out id),HI2.out.1⟩ ?_
   refine fs (.pointer (some ⟨g,0,none⟩)) rfl ?_
   refine fs (.pointer (some ⟨g,0,none⟩)) rfl ?_
   refine fs (.pointer (some ⟨g,0,none⟩)) rfl ?_
   refine Zab (.pointer (some ⟨B,0,none⟩)) rfl (by rfl) (fun W hS=>by have h0:=hS.1;go_simp) ?_
   refine Zab (.agg (nd5 x.k x.t x.n x.a y)) rfl (by rfl) (fun W hS=>by have h0:=hS.2.at_ 0;have h1:=hS.2.at_ 1;have h2:=hS.2.at_ 2;have h3:=hS.2.at_ 3;have h4:=hS.2.at_ 4;go_simp) ?_
   refine Zap ?_
   have hbd:Below w92.heap.size w92 w92.drew:=(Below.refl _ _).drew
   have C9:=(show Puts B lv N 154 .member from HG.out.pu .member) w92.drew (L1++rs.flatten) ((q0 + 4 * f6.t.length + wts f6.c) + wts (y6.drop (i + 1))) (.agg (nd5 x.k x.t x.n x.a y)) x ((HI2.out.2.1.below hbd).less (by omega)) ⟨y,rfl,ZaF (ZaF HX.out.2.1 HI2.out.2.2) (hbd.mono (by have:=HI2.out.2.1.size;omega))⟩ HX.out.2.2
   have HBD:=hid (Fr.of_below (B:=B) (X:=fun _=>False) hbd (by have:=HI2.out.2.1.size;omega))
   clear hbd z9 d0 d1 d2 d3 d4
   refine cs rfl fun K9 HK9=>?_
   go_wp2_with (go_at_call 154;(with_reducible refine C9.mono ?_);intro e w94 h1;rcases h1.ways with ⟨rfl,h2,h3⟩ | ⟨m,rfl,h2,h3,h4⟩;exact ⟨rfl,.stop (A6.out.inner_stop (Ze3 HX.out.1 h2) ((HF2.out.below.trans HBD.out.below).trans h3)).1 (A6.out.inner_stop (Ze3 HX.out.1 h2) ((HF2.out.below.trans HBD.out.below).trans h3)).2⟩;have H4:=hid (And.intro h2 (And.intro h3 h4));clear h1 h2 h3 h4)
   refine HK9.out _ _ (fun h=>absurd h (by decide)) ?_
   refine Zam ?_
   go_wp2_with fail
   go_roundw
   case rel=>exact ⟨i + 1,rs++[m],by omega,by go_num,hid (ZgF HX.out.1 HA.out H4.out.1),hid (by rw [Zjx];have:=H4.out.2.1;simp only [List.append_assoc] at this ⊢;exact this),hid ((HF2.out.trans HBD.out (fun _ _ h=>h)).trans H4.out.2.2 (fun _ _ h=>h))⟩
   case measure=>simp [intOf];omega
  ·have hA2:=HA.out
   rw [List.take_of_length_le (by omega)] at hA2
   have i1:decide ((i:Int) < (y6.length:Int))=false:=by simp;omega
   have i2:decide (i < y6.length)=false:=by simp;omega
   have A7:=hid (A6.out.inner_done (r':=q0) (ZkS hA2) (by rw [← HL1.out];exact HW.out.less (by omega)) HF.out)
   have z7:=A7.out.fo.c0
   clear hA2 hl z9
   have C8:=A7.out.fo.mark ⟨#[125]⟩ S8.mRb rfl (by omega) (by decide) (by decide)
   go_wp2_with (first
    | (go_at_call 146;(with_reducible refine C8.mono ?_);intro e w8 h1;rcases A7.out.last h1 with ⟨rfl,e1,b1⟩ | ⟨y,f,l,v,rfl,rfl,e1,F,k⟩;exact ⟨rfl,.stop e1 b1⟩;have E8:=hid (And.intro e1 (And.intro F k));clear h1 e1 F k C8 z7))
   go_end0
   exact .done E8.out.1 rfl (E8.out.2.1.less (by have:=Zbw;omega)) E8.out.2.2
end
end Go.Proofs.YtaheffiglmglbaaGreatDoor
