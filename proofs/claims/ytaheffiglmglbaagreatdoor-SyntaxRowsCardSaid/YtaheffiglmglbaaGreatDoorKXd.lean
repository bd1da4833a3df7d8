import Derived.Test.YtaheffiglmglbaaGreatDoorKXc
import Derived.Test.YtaheffiglmglbaaGreatDoorKXb
import Derived.Test.YtaheffiglmglbaaGreatDoorKXa
import Derived.Test.YtaheffiglmglbaaGreatDoorKWh
/- Few. -/
set_option maxHeartbeats 8000000
set_option maxRecDepth 20000
namespace Go.Proofs.YtaheffiglmglbaaGreatDoor
open Go.Proofs.Tryz
open Go.RowKit L7
theorem ZcN {k n a:Int} {t:Bs} {s:Value} (h:s.oneCell'=true):(nd5 k t n a s).all (·.oneCell')=true:=by
 simp [nd5,h];exact ⟨rfl,rfl,rfl,rfl⟩
structure Nv (w:World) (p:Nat) (x:Nd) (s:Value):Prop where
 is:Is w p 24 (nd5 x.k x.t x.n x.a s)
 kid:Kid w (fun g=>g < w.heap.size) x s
theorem Nv.below {w w':World} {p:Nat} {x:Nd} {s:Value} (h:Nv w p x s) (k:Below w.heap.size w w'):Nv w' p x s:=
 ⟨h.is.below k h.is.lt,Zb0 (fun g _ hl=>by have:=k.size;omega) (fun g _ hl=>k.block g hl) x s h.kid⟩
theorem Nv.at_ {w:World} {p:Nat} {x:Nd} {s:Value} (h:Nv w p x s):NodeAt w w.heap.size x (.agg (nd5 x.k x.t x.n x.a s)):=⟨s,rfl,h.kid⟩
theorem Nv.new {w w':World} {x:Nd} {s:Value} (hk:Kid w (fun g=>g < w.heap.size) x s) (h1:Is w' w.heap.size 24 (nd5 x.k x.t x.n x.a s)) (h2:(w.alloc (.cells z5 24)).grownBy w' (some w.heap.size)):Nv w' w.heap.size x s∧Below w.heap.size w w':=by
 have hb:Below w.heap.size w w':=ZbK ((Below.refl _ _).alloc (Nat.le_refl _) _) h2 (Nat.le_refl _) (by simp)
 exact ⟨⟨h1,Zb0 (fun g _ hl=>by have:=hb.size;omega) (fun g _ hl=>hb.block g hl) x s hk⟩,hb⟩
theorem Zeh {pt:Bool} {s:Bs} {w w':World} {e:Ending} {k n a e0 at0:Int} {t:Bs} {c:List Nd} (h:ZcK pt s w e w') (hv:S8.pv pt s=(.mk k t n a c,e0,at0)) :
  Below w.heap.size w w'∧∃s1,e=.returned (.tuple #[.agg (nd5 k t n a s1),.int .i64 e0,.int .i64 at0])∧Kid w' (fun g=>g < w'.heap.size) (.mk k t n a c) s1:=by
 obtain ⟨h1,v,h2,s1,h3,h4⟩:=h
 rw [hv] at h2 h3 h4
 refine ⟨h1,s1,?_,Zgz h4 fun g h _=>h.2⟩
 rw [h2,h3];rfl
def Fs (w:World) (L:List (Addr × Value)):Prop:=∀q∈L,q.1.block < w.heap.size∧w.cell? q.1=some q.2
theorem Fs.below {w w':World} {L:List (Addr × Value)} (h:Fs w L) (k:Below w.heap.size w w'):Fs w' L:=fun q hq=>⟨Nat.lt_of_lt_of_le (h q hq).1 k.size,(k.cell (h q hq).1).trans (h q hq).2⟩
theorem Fs.cons {w:World} {L:List (Addr × Value)} {a:Addr} {v:Value} (h1:a.block < w.heap.size) (h2:w.cell? a=some v) (h:Fs w L):Fs w ((a,v)::L):=fun q hq=>by
 rcases List.mem_cons.1 hq with rfl | hq
 ·exact ⟨h1,h2⟩
 ·exact h q hq
theorem Fs.nil (w:World):Fs w []:=fun q hq=>by cases hq
theorem Fs.get {w:World} {L:List (Addr × Value)} (h:Fs w L) (i:Nat) {a:Addr} {v:Value} (hi:L[i]?=some (a,v)):w.cell? a=some v:=(h _ (List.mem_of_getElem? hi)).2
def smL (p1 p7:Nat) (a1 aF aB a7:Addr) (AA:Option Addr) (c1 cF cB cA c7:Nat):List (Addr × Value):=[(⟨p1,0,none⟩,.int .i64 1),(⟨p1,1,none⟩,.string (mk [])),(⟨p1,2,none⟩,.int .i64 0),(⟨p1,3,none⟩,.int .i64 0),(⟨p1,4,none⟩,.slice (some a1) 2 c1),(⟨p7,0,none⟩,.int .i64 1),(⟨p7,1,none⟩,.string (mk [])),(⟨p7,2,none⟩,.int .i64 0),(⟨p7,3,none⟩,.int .i64 0),(⟨p7,4,none⟩,.slice (some a7) 3 c7),(a1,.int .i64 5),(⟨a1.block,a1.off + 4,none⟩,.slice (some aF) 3 cF),(⟨a1.block,a1.off + 5,none⟩,.int .i64 6),(⟨a1.block,a1.off + 5 + 2,none⟩,.int .i64 4),(⟨a1.block,a1.off + 5 + 4,none⟩,.slice AA 2 cA),(⟨aF.block,aF.off + 10,none⟩,.int .i64 35),(⟨aF.block,aF.off + 10 + 1,none⟩,.string (mk [43])),(⟨aF.block,aF.off + 10 + 2,none⟩,.int .i64 0),(⟨aF.block,aF.off + 10 + 3,none⟩,.int .i64 21),(⟨aF.block,aF.off + 10 + 4,none⟩,.slice (some aB) 2 cB),(⟨aB.block,aB.off + 5 + 1,none⟩,.string (mk [42])),(⟨a7.block,a7.off + 2,none⟩,.int .i64 2)]
theorem Ztu {w:World} {p1 p7:Nat} {s1 s3:Value} (h1:Nv w p1 (S8.root [S8.nF,S8.nA]) s1) (h3:Nv w p7 (S8.root S8.nC) s3) :
  ∃a1 aF aB a7 AA c1 cF cB cA c7,s1=.slice (some a1) 2 c1∧s3=.slice (some a7) 3 c7∧Fs w (smL p1 p7 a1 aF aB a7 AA c1 cF cB cA c7)∧Kid w (fun g=>g < w.heap.size) S8.nB (.slice (some aB) 2 cB)∧2≤c1:=by
 obtain ⟨A1,c1,rfl,hc1,r1⟩:=ZcG h1.kid
 obtain ⟨A7,c7,rfl,-,r7⟩:=ZcG h3.kid
 obtain ⟨a1,sF,rfl,b0,kF,f0,f1,f2,f3,f4⟩:=r1.rowG (Nat.le_refl _) 0 S8.nF rfl
 obtain ⟨a1',sA,e1,b1,kA,g0,g1,g2,g3,g4⟩:=r1.rowG (Nat.le_refl _) 1 S8.nA rfl
 cases e1
 obtain ⟨a7,sX,rfl,b7,kX,x0,x1,x2,x3,x4⟩:=r7.rowG (Nat.le_refl _) 0 (.mk 73 [65] 2 0 []) rfl
 obtain ⟨AF,cF,rfl,-,rF⟩:=ZcG kF
 obtain ⟨AA,cA,rfl,-,-⟩:=ZcG kA
 obtain ⟨aF,sB,rfl,bB,kB,n0,n1,n2,n3,n4⟩:=rF.rowG (Nat.le_refl _) 2 S8.nB rfl
 have kB0:=kB
 obtain ⟨AB,cB,rfl,-,rB⟩:=ZcG kB
 obtain ⟨aB,sM,rfl,bM,kM,m0,m1,m2,m3,m4⟩:=rB.rowG (Nat.le_refl _) 1 (.mk 35 [42] 0 25 [.mk 20 [] 1 25 [],.mk 20 [] 2 29 []]) rfl
 refine ⟨a1,aF,aB,a7,AA,c1,cF,cB,cA,c7,rfl,rfl,?_,kB0,hc1⟩
 have i0:=h1.is.lt
 have i7:=h3.is.lt
 exact .cons i0 (h1.is.at_ 0) <| .cons i0 (h1.is.at_ 1) <| .cons i0 (h1.is.at_ 2) <| .cons i0 (h1.is.at_ 3) <| .cons i0 (h1.is.at_ 4) <|
  .cons i7 (h3.is.at_ 0) <| .cons i7 (h3.is.at_ 1) <| .cons i7 (h3.is.at_ 2) <| .cons i7 (h3.is.at_ 3) <| .cons i7 (h3.is.at_ 4) <|
  .cons b0 f0 <| .cons b0 f4 <| .cons b1 g0 <| .cons b1 g2 <| .cons b1 g4 <| .cons bB n0 <| .cons bB n1 <| .cons bB n2 <| .cons bB n3 <| .cons bB n4 <| .cons bM m1 <| .cons b7 x2 <| .nil _
def smB (p:Nat) (aB:Addr) (cB:Nat):List (Addr × Value):=[(⟨p,0,none⟩,.int .i64 35),(⟨p,1,none⟩,.string (mk [43])),(⟨p,2,none⟩,.int .i64 0),(⟨p,3,none⟩,.int .i64 21),(⟨p,4,none⟩,.slice (some aB) 2 cB)]
structure Vw (w wi:World) (p1 p7 p13:Nat) (a1 aF aB a7:Addr) (AA:Option Addr) (c1 cF cB cA c7:Nat):Prop where
 be:Below w.heap.size w wi
 n:Nv wi p1 (S8.root [S8.nF,S8.nA]) (.slice (some a1) 2 c1)
 p:Nv wi p7 (S8.root S8.nC) (.slice (some a7) 3 c7)
 b:Kid wi (fun g=>g < wi.heap.size) S8.nB (.slice (some aB) 2 cB)
 f:Fs wi (smL p1 p7 a1 aF aB a7 AA c1 cF cB cA c7)
 g:Fs wi (smB p13 aB cB)
theorem Zmw {w w':World} {x:Nd} {s:Value} (h:Kid w (fun g=>g < w.heap.size) x s) (k:Below w.heap.size w w'):Kid w' (fun g=>g < w'.heap.size) x s:=
 Zb0 (fun g _ hl=>by have:=k.size;omega) (fun g _ hl=>k.block g hl) x s h
section
variable {w wi w':World} {p1 p7 p13:Nat} {a1 aF aB a7:Addr} {AA:Option Addr} {c1 cF cB cA c7:Nat}
theorem Vw.below (h:Vw w wi p1 p7 p13 a1 aF aB a7 AA c1 cF cB cA c7) (k:Below wi.heap.size wi w'):Vw w w' p1 p7 p13 a1 aF aB a7 AA c1 cF cB cA c7:=
 ⟨h.be.trans (k.mono h.be.size),h.n.below k,h.p.below k,Zmw h.b k,h.f.below k,h.g.below k⟩
theorem Zr1 {w:World} {B:Nat} {x y:Nd} {k n a:Int} {t:Bs} {A:Option Addr} {c:Nat} (h:Kid w (fun g=>g < B) (.mk k t n a [x,y]) (.slice A 2 c)):Kid w (fun g=>g < B) (.mk k t n a [x]) (.slice A 1 c):=by
 obtain ⟨A',c',h1,h2,h3⟩:=(ZgA _ _ _ _).1 h
 cases h1
 refine (ZgA _ _ _ _).2 ⟨A,c,rfl,by simp [S8.Nd.c] at h2 ⊢;omega,?_⟩
 simp only [S8.Nd.c,Kids] at h3 ⊢
 exact ⟨h3.1,trivial⟩
end
theorem writ1:S8.writO (S8.root [S8.nF,S8.nA])=some ((S8.raw S8.nF)++(S8.raw S8.nA)):=by
 rw [S8.Zht,if_pos ⟨rfl,rfl,rfl,by decide,by intro y hy;simp only [S8.root,S8.Nd.c,List.mem_cons,List.not_mem_nil,or_false] at hy;rcases hy with rfl | rfl <;> exact ⟨by kernel_rfl,by kernel_rfl⟩⟩]
 simp [S8.root,S8.Nd.c]
theorem writ2:(S8.writO (S8.root S8.nC)).isSome=true:=by
 rw [S8.Zht,if_pos ⟨rfl,rfl,rfl,by decide,by intro y hy;simp only [S8.root,S8.nC,S8.Nd.c,List.mem_cons,List.not_mem_nil,or_false] at hy;rcases hy with rfl | rfl | rfl <;> exact ⟨by kernel_rfl,by kernel_rfl⟩⟩]
 rfl
theorem writ3:(S8.writO S8.nB).isSome=false:=by
 rw [S8.Zht,if_neg (fun h=>by have:=h.1;revert this;decide)]
 rfl
def out1:Bs:=[102,117,110,32,102,32,40,32,120,32,58,32,105,110,116,32,41,32,58,32,105,110,116,32,61,32,120,32,43,32,49,32,42,32,50]
theorem dec1:dec 1=[49]:=by unfold dec;rw [Lib.decDigits,dif_pos (by decide)];rfl
theorem dec2:dec 2=[50]:=by unfold dec;rw [Lib.decDigits,dif_pos (by decide)];rfl
theorem writ4:wrt ((S8.writO (S8.root [S8.nF])).getD [])=out1:=by
 rw [S8.Zht,if_pos ⟨rfl,rfl,rfl,by decide,by intro y hy;simp only [S8.root,S8.Nd.c,List.mem_cons,List.not_mem_nil,or_false] at hy;rcases hy with rfl;exact ⟨by kernel_rfl,by kernel_rfl⟩⟩]
 have e:dec=fun n=>if n=1 then [49] else if n=2 then [50] else dec n:=by
  funext n
  by_cases h:n=1
  ·subst h;rw [if_pos rfl,dec1]
  ·rw [if_neg h]
   by_cases h2:n=2
   ·subst h2;rw [if_pos rfl,dec2]
   ·rw [if_neg h2]
 have k:(match forms (fun n=>if n=1 then [49] else if n=2 then [50] else dec n) (((S8.root [S8.nF]).c.map S8.raw).flatten) with | some xs=>join xs | none=>[])=out1:=by kernel_rfl
 rw [← e] at k
 exact k
theorem same1:Ziv (S8.root [S8.nF,S8.nA]) (S8.root [S8.nF,S8.nA])=true:=by kernel_rfl
theorem same2:Ziv (S8.root [S8.nF,S8.nA]) (S8.root S8.nC)=false:=by kernel_rfl
set_option maxRecDepth 100000 in
theorem Zi6 (w:World) (hl:Lies w):Calls prog 10 #[] w fun e w'=>e=.returned (.bool true)∧Below w.heap.size w w':=by
 have HL:=hid hl
 have HE:Hid (rgd (S8.root [S8.nF,S8.nA])=true∧wt (S8.root [S8.nF,S8.nA])≤19000000∧rgd (S8.root S8.nC)=true∧wt (S8.root S8.nC)≤19000000∧rgd S8.nB=true∧wt S8.nB≤19000000∧rgd (S8.root [S8.nF])=true∧wt (S8.root [S8.nF])≤19000000∧wt (S8.root [S8.nF,S8.nA])≤20000000∧wt (S8.root S8.nC)≤20000000):=hid ⟨by kernel_rfl,by decide +kernel,by kernel_rfl,by decide +kernel,by kernel_rfl,by decide +kernel,by kernel_rfl,by decide +kernel,by decide +kernel,by decide +kernel⟩
 have C1:Calls prog 24 #[.string (mk S8.src1)] w (ZcK false S8.src1 w):=Zhh hl (by decide)
 clear hl
 go_enter func10,ntmps10
 go_wp2_with (first
  | (have X:=V6;clear X;go_at_call 19;refine C10.mono ?_;rintro e w15 ⟨rfl,h⟩;have V7:=hid (V6.out.be.trans (h.mono V6.out.be.size));clear h C10 V6)
  | (have X:=V5;clear X;go_at_call 19;refine C9.mono ?_;rintro e w14 ⟨rfl,h⟩;have V6:=hid (V5.out.below h);clear d0 d1 d2 d3 d4 d5 d6 d7 d8 d9 d10 d11 d12 d13 d14 d15 d16 d17 d18 d19 d20 d21 e0 e1 e2 e3 e4;clear h C9 V5;have d0:=V6.out.f.get 0 rfl;have d1:=V6.out.f.get 1 rfl;have d2:=V6.out.f.get 2 rfl;have d3:=V6.out.f.get 3 rfl;have d4:=V6.out.f.get 4 rfl;have d5:=V6.out.f.get 5 rfl;have d6:=V6.out.f.get 6 rfl;have d7:=V6.out.f.get 7 rfl;have d8:=V6.out.f.get 8 rfl;have d9:=V6.out.f.get 9 rfl;have d10:=V6.out.f.get 10 rfl;have d11:=V6.out.f.get 11 rfl;have d12:=V6.out.f.get 12 rfl;have d13:=V6.out.f.get 13 rfl;have d14:=V6.out.f.get 14 rfl;have d15:=V6.out.f.get 15 rfl;have d16:=V6.out.f.get 16 rfl;have d17:=V6.out.f.get 17 rfl;have d18:=V6.out.f.get 18 rfl;have d19:=V6.out.f.get 19 rfl;have d20:=V6.out.f.get 20 rfl;have d21:=V6.out.f.get 21 rfl;have e0:=V6.out.g.get 0 rfl;have e1:=V6.out.g.get 1 rfl;have e2:=V6.out.g.get 2 rfl;have e3:=V6.out.g.get 3 rfl;have e4:=V6.out.g.get 4 rfl;have C10:=ZuW _ _ _ _ _ w14 HE.out.2.2.2.2.2.2.2.2.1 HE.out.2.2.2.2.2.2.2.2.2 V6.out.n.at_ V6.out.p.at_ (Nat.le_refl _);rw [same2] at C10)
  | (have X:=V4;clear X;go_at_call 17;refine C8.mono ?_;rintro e w13 ⟨rfl,h⟩;have V5:=hid (V4.out.below h);clear d0 d1 d2 d3 d4 d5 d6 d7 d8 d9 d10 d11 d12 d13 d14 d15 d16 d17 d18 d19 d20 d21 e0 e1 e2 e3 e4;clear h C8 V4;have d0:=V5.out.f.get 0 rfl;have d1:=V5.out.f.get 1 rfl;have d2:=V5.out.f.get 2 rfl;have d3:=V5.out.f.get 3 rfl;have d4:=V5.out.f.get 4 rfl;have d5:=V5.out.f.get 5 rfl;have d6:=V5.out.f.get 6 rfl;have d7:=V5.out.f.get 7 rfl;have d8:=V5.out.f.get 8 rfl;have d9:=V5.out.f.get 9 rfl;have d10:=V5.out.f.get 10 rfl;have d11:=V5.out.f.get 11 rfl;have d12:=V5.out.f.get 12 rfl;have d13:=V5.out.f.get 13 rfl;have d14:=V5.out.f.get 14 rfl;have d15:=V5.out.f.get 15 rfl;have d16:=V5.out.f.get 16 rfl;have d17:=V5.out.f.get 17 rfl;have d18:=V5.out.f.get 18 rfl;have d19:=V5.out.f.get 19 rfl;have d20:=V5.out.f.get 20 rfl;have d21:=V5.out.f.get 21 rfl;have e0:=V5.out.g.get 0 rfl;have e1:=V5.out.g.get 1 rfl;have e2:=V5.out.g.get 2 rfl;have e3:=V5.out.g.get 3 rfl;have e4:=V5.out.g.get 4 rfl;have C9:=ZuW _ _ _ _ _ w13 HE.out.2.2.2.2.2.2.2.2.1 HE.out.2.2.2.2.2.2.2.2.1 V5.out.n.at_ V5.out.n.at_ (Nat.le_refl _);rw [same1] at C9)
  | (have X:=V3;clear X;go_at_call 12;refine C7.mono ?_;rintro e w12 ⟨rfl,h⟩;have V4:=hid (V3.out.below h);clear d0 d1 d2 d3 d4 d5 d6 d7 d8 d9 d10 d11 d12 d13 d14 d15 d16 d17 d18 d19 d20 d21 e0 e1 e2 e3 e4;clear h C7 V3;have d0:=V4.out.f.get 0 rfl;have d1:=V4.out.f.get 1 rfl;have d2:=V4.out.f.get 2 rfl;have d3:=V4.out.f.get 3 rfl;have d4:=V4.out.f.get 4 rfl;have d5:=V4.out.f.get 5 rfl;have d6:=V4.out.f.get 6 rfl;have d7:=V4.out.f.get 7 rfl;have d8:=V4.out.f.get 8 rfl;have d9:=V4.out.f.get 9 rfl;have d10:=V4.out.f.get 10 rfl;have d11:=V4.out.f.get 11 rfl;have d12:=V4.out.f.get 12 rfl;have d13:=V4.out.f.get 13 rfl;have d14:=V4.out.f.get 14 rfl;have d15:=V4.out.f.get 15 rfl;have d16:=V4.out.f.get 16 rfl;have d17:=V4.out.f.get 17 rfl;have d18:=V4.out.f.get 18 rfl;have d19:=V4.out.f.get 19 rfl;have d20:=V4.out.f.get 20 rfl;have d21:=V4.out.f.get 21 rfl;have e0:=V4.out.g.get 0 rfl;have e1:=V4.out.g.get 1 rfl;have e2:=V4.out.g.get 2 rfl;have e3:=V4.out.g.get 3 rfl;have e4:=V4.out.g.get 4 rfl;have C8:=Zqy (x:=S8.root [S8.nF]) (v:=.agg (nd5 1 [] 0 0 (.slice (some a1) 1 cc1))) ⟨_,rfl,Zr1 V4.out.n.kid⟩ (Nat.le_refl _) HE.out.2.2.2.2.2.2.1 HE.out.2.2.2.2.2.2.2.1 (HL.out.on V4.out.be);rw [writ4] at C8;have hs4:(mk out1).toList=[102,117,110,32,102,32,40,32,120,32,58,32,105,110,116,32,41,32,58,32,105,110,116,32,61,32,120,32,43,32,49,32,42,32,50]:=(by kernel_rfl))
  | (have X:=V2;clear X;go_at_call 12;refine C6.mono ?_;rintro e w11 ⟨rfl,h⟩;have V3:=hid (V2.out.below h);clear d0 d1 d2 d3 d4 d5 d6 d7 d8 d9 d10 d11 d12 d13 d14 d15 d16 d17 d18 d19 d20 d21 e0 e1 e2 e3 e4;clear h C6 V2;have d0:=V3.out.f.get 0 rfl;have d1:=V3.out.f.get 1 rfl;have d2:=V3.out.f.get 2 rfl;have d3:=V3.out.f.get 3 rfl;have d4:=V3.out.f.get 4 rfl;have d5:=V3.out.f.get 5 rfl;have d6:=V3.out.f.get 6 rfl;have d7:=V3.out.f.get 7 rfl;have d8:=V3.out.f.get 8 rfl;have d9:=V3.out.f.get 9 rfl;have d10:=V3.out.f.get 10 rfl;have d11:=V3.out.f.get 11 rfl;have d12:=V3.out.f.get 12 rfl;have d13:=V3.out.f.get 13 rfl;have d14:=V3.out.f.get 14 rfl;have d15:=V3.out.f.get 15 rfl;have d16:=V3.out.f.get 16 rfl;have d17:=V3.out.f.get 17 rfl;have d18:=V3.out.f.get 18 rfl;have d19:=V3.out.f.get 19 rfl;have d20:=V3.out.f.get 20 rfl;have d21:=V3.out.f.get 21 rfl;have e0:=V3.out.g.get 0 rfl;have e1:=V3.out.g.get 1 rfl;have e2:=V3.out.g.get 2 rfl;have e3:=V3.out.g.get 3 rfl;have e4:=V3.out.g.get 4 rfl;have C7:=ZkT (x:=S8.nB) (v:=.agg (nd5 35 [43] 0 21 (.slice (some aB) 2 cB))) ⟨_,rfl,V3.out.b⟩ (Nat.le_refl _) HE.out.2.2.2.2.1 HE.out.2.2.2.2.2.1 (HL.out.on V3.out.be);rw [writ3] at C7)
  | (have X:=V1;clear X;go_at_call 12;refine C5.mono ?_;rintro e w10 ⟨rfl,h⟩;have V2:=hid (V1.out.below h);clear d0 d1 d2 d3 d4 d5 d6 d7 d8 d9 d10 d11 d12 d13 d14 d15 d16 d17 d18 d19 d20 d21 e0 e1 e2 e3 e4;clear h C5 V1;have d0:=V2.out.f.get 0 rfl;have d1:=V2.out.f.get 1 rfl;have d2:=V2.out.f.get 2 rfl;have d3:=V2.out.f.get 3 rfl;have d4:=V2.out.f.get 4 rfl;have d5:=V2.out.f.get 5 rfl;have d6:=V2.out.f.get 6 rfl;have d7:=V2.out.f.get 7 rfl;have d8:=V2.out.f.get 8 rfl;have d9:=V2.out.f.get 9 rfl;have d10:=V2.out.f.get 10 rfl;have d11:=V2.out.f.get 11 rfl;have d12:=V2.out.f.get 12 rfl;have d13:=V2.out.f.get 13 rfl;have d14:=V2.out.f.get 14 rfl;have d15:=V2.out.f.get 15 rfl;have d16:=V2.out.f.get 16 rfl;have d17:=V2.out.f.get 17 rfl;have d18:=V2.out.f.get 18 rfl;have d19:=V2.out.f.get 19 rfl;have d20:=V2.out.f.get 20 rfl;have d21:=V2.out.f.get 21 rfl;have e0:=V2.out.g.get 0 rfl;have e1:=V2.out.g.get 1 rfl;have e2:=V2.out.g.get 2 rfl;have e3:=V2.out.g.get 3 rfl;have e4:=V2.out.g.get 4 rfl;have C6:=ZkT V2.out.p.at_ (Nat.le_refl _) HE.out.2.2.1 HE.out.2.2.2.1 (HL.out.on V2.out.be);rw [writ2] at C6)
  | (have X:=F1;clear X;refine Zah (g:=w8.heap.size) (t:=24) (old:=z5) (by exact Is.fresh w8 24 _) rfl 24 _ _ rfl (nd5 35 [43] 0 21 (.slice (some aB) 2 cB)) rfl rfl inf24 rfl (ZcN (Zbq KB.out)) ?_;intro w9 h1 h2;have b9:Below w8.heap.size w8 w9:=ZbK ((Below.refl _ _).alloc (Nat.le_refl _) _) h2 (Nat.le_refl _) (by simp);have V1:Hid (Vw w w9 w1.heap.size w5.heap.size w8.heap.size a1 aF aB a7 AA cc1 cF cB cA c7):=hid ⟨M4.out.1.trans (b9.mono M4.out.1.size),M4.out.2.1.below b9,M4.out.2.2.below b9,Zmw KB.out b9,F1.out.below b9,.cons h1.lt (h1.at_ 0) <| .cons h1.lt (h1.at_ 1) <| .cons h1.lt (h1.at_ 2) <| .cons h1.lt (h1.at_ 3) <| .cons h1.lt (h1.at_ 4) <| .nil _⟩;clear d0 d1 d2 d3 d4 d5 d6 d7 d8 d9 d10 d11 d12 d13 d14 d15 d16 d17 d18 d19 d20 d21;clear h1 h2 b9 F1 KB M4;have hs1:(mk [43]).toList=[43]:=(by kernel_rfl);have hs2:(mk [42]).toList=[42]:=(by kernel_rfl);have d0:=V1.out.f.get 0 rfl;have d1:=V1.out.f.get 1 rfl;have d2:=V1.out.f.get 2 rfl;have d3:=V1.out.f.get 3 rfl;have d4:=V1.out.f.get 4 rfl;have d5:=V1.out.f.get 5 rfl;have d6:=V1.out.f.get 6 rfl;have d7:=V1.out.f.get 7 rfl;have d8:=V1.out.f.get 8 rfl;have d9:=V1.out.f.get 9 rfl;have d10:=V1.out.f.get 10 rfl;have d11:=V1.out.f.get 11 rfl;have d12:=V1.out.f.get 12 rfl;have d13:=V1.out.f.get 13 rfl;have d14:=V1.out.f.get 14 rfl;have d15:=V1.out.f.get 15 rfl;have d16:=V1.out.f.get 16 rfl;have d17:=V1.out.f.get 17 rfl;have d18:=V1.out.f.get 18 rfl;have d19:=V1.out.f.get 19 rfl;have d20:=V1.out.f.get 20 rfl;have d21:=V1.out.f.get 21 rfl;have e0:=V1.out.g.get 0 rfl;have e1:=V1.out.g.get 1 rfl;have e2:=V1.out.g.get 2 rfl;have e3:=V1.out.g.get 3 rfl;have e4:=V1.out.g.get 4 rfl;have C5:=ZkT V1.out.n.at_ (Nat.le_refl _) HE.out.1 HE.out.2.1 (HL.out.on V1.out.be);rw [writ1] at C5)
  | (have X:=N4;clear X;refine Zah (g:=w7.heap.size) (t:=24) (old:=z5) (by exact Is.fresh w7 24 _) rfl 24 _ _ rfl (nd5 0 [] 0 0 s4) rfl rfl inf24 rfl (ZcN (Zbq N4.out.2.2.2)) ?_;intro w8 h1 h2;obtain ⟨n1,b2⟩:=Nv.new (x:=S8.Zfm) N4.out.2.2.2 h1 h2;have M4:=hid (And.intro (N4.out.1.trans (b2.mono N4.out.1.size)) (And.intro (N4.out.2.1.below b2) (N4.out.2.2.1.below b2)));clear h1 h2 n1 b2 N4;obtain ⟨a1,aF,aB,a7,AA,cc1,cF,cB,cA,c7,rfl,rfl,F0,kB,hcc⟩:=Ztu M4.out.2.1 M4.out.2.2;have F1:=hid F0;have KB:=hid kB;have hc1:¬ ((cc1:Int) < 1):=(by omega);have hc2:(1:Int)≤(cc1:Int):=(by omega);clear F0 kB hcc;have d0:=F1.out.get 0 rfl;have d1:=F1.out.get 1 rfl;have d2:=F1.out.get 2 rfl;have d3:=F1.out.get 3 rfl;have d4:=F1.out.get 4 rfl;have d5:=F1.out.get 5 rfl;have d6:=F1.out.get 6 rfl;have d7:=F1.out.get 7 rfl;have d8:=F1.out.get 8 rfl;have d9:=F1.out.get 9 rfl;have d10:=F1.out.get 10 rfl;have d11:=F1.out.get 11 rfl;have d12:=F1.out.get 12 rfl;have d13:=F1.out.get 13 rfl;have d14:=F1.out.get 14 rfl;have d15:=F1.out.get 15 rfl;have d16:=F1.out.get 16 rfl;have d17:=F1.out.get 17 rfl;have d18:=F1.out.get 18 rfl;have d19:=F1.out.get 19 rfl;have d20:=F1.out.get 20 rfl;have d21:=F1.out.get 21 rfl)
  | (have X:=M3;clear X;go_at_call 24;refine C4.mono ?_;intro e w7 h;obtain ⟨b1,s4,rfl,k1⟩:=Zeh h S8.run4;have N4:=hid (And.intro (M3.out.1.trans (b1.mono M3.out.1.size)) (And.intro (M3.out.2.1.below b1) (And.intro (M3.out.2.2.below b1) k1)));clear h b1 k1 C4 M3)
  | (have X:=N3;clear X;refine Zah (g:=w5.heap.size) (t:=24) (old:=z5) (by exact Is.fresh w5 24 _) rfl 24 _ _ rfl (nd5 1 [] 0 0 s3) rfl rfl inf24 rfl (ZcN (Zbq N3.out.2.2)) ?_;intro w6 h1 h2;obtain ⟨n1,b2⟩:=Nv.new (x:=S8.root S8.nC) N3.out.2.2 h1 h2;have M3:=hid (And.intro (N3.out.1.trans (b2.mono N3.out.1.size)) (And.intro (N3.out.2.1.below b2) n1));have C4:Calls prog 24 #[.string (mk S8.src4)] w6 (ZcK false S8.src4 w6):=Zhh (HL.out.on M3.out.1) (by decide);clear h1 h2 n1 b2 N3)
  | (go_at_call 21;refine C3.mono ?_;intro e w5 h;obtain ⟨b1,s3,rfl,k1⟩:=Zeh h S8.run3;have N3:=hid (And.intro (M2.out.1.trans (b1.mono M2.out.1.size)) (And.intro (M2.out.2.below b1) k1));clear h b1 k1 C3 M2)
  | (have X:=N2;clear X;refine Zah (g:=w3.heap.size) (t:=24) (old:=z5) (by exact Is.fresh w3 24 _) rfl 24 _ _ rfl (nd5 0 [] 0 0 s2) rfl rfl inf24 rfl (ZcN (Zbq N2.out.2.2)) ?_;intro w4 h1 h2;obtain ⟨n1,b2⟩:=Nv.new (x:=S8.Zfm) N2.out.2.2 h1 h2;have M2:=hid (And.intro (N2.out.1.trans (b2.mono N2.out.1.size)) (N2.out.2.1.below b2));have C3:Calls prog 21 #[.string (mk S8.src3)] w4 (ZcK true S8.src3 w4):=ZfP (HL.out.on M2.out.1) (by decide);clear h1 h2 n1 b2 N2)
  | (have X:=M1;clear X;go_at_call 24;refine C2.mono ?_;intro e w3 h;obtain ⟨b1,s2,rfl,k1⟩:=Zeh h S8.run2;have N2:=hid (And.intro (M1.out.1.trans (b1.mono M1.out.1.size)) (And.intro (M1.out.2.below b1) k1));clear h b1 k1 C2 M1)
  | (have X:=N1;clear X;refine Zah (g:=w1.heap.size) (t:=24) (old:=z5) (by exact Is.fresh w1 24 _) rfl 24 _ _ rfl (nd5 1 [] 0 0 s1) rfl rfl inf24 rfl (ZcN (Zbq N1.out.2)) ?_;intro w2 h1 h2;obtain ⟨n1,b2⟩:=Nv.new (x:=S8.root [S8.nF,S8.nA]) N1.out.2 h1 h2;have M1:=hid (And.intro (N1.out.1.trans (b2.mono N1.out.1.size)) n1);have C2:Calls prog 24 #[.string (mk S8.src2)] w2 (ZcK false S8.src2 w2):=Zhh (HL.out.on M1.out.1) (by decide);clear h1 h2 n1 b2 N1)
  | (go_at_call 24;refine C1.mono ?_;intro e w1 h;obtain ⟨b1,s1,rfl,k1⟩:=Zeh h S8.run1;have N1:=hid (And.intro b1 k1);clear h b1 k1 C1))
 go_ret
 exact ⟨rfl,V7.out⟩
end Go.Proofs.YtaheffiglmglbaaGreatDoor
