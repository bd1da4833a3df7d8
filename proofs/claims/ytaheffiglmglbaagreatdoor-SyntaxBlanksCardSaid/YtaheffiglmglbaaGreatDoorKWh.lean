import Derived.Test.YtaheffiglmglbaaGreatDoorKWf
import Derived.Test.YtaheffiglmglbaaGreatDoorKWg
import Derived.Test.YtaheffiglmglbaaGreatDoorKWb
import Derived.Test.YtaheffiglmglbaaGreatDoorKQk
import Derived.Test.YtaheffiglmglbaaGreatDoorKLd
/- WrF, WrS, Fst, Wtn, Top. -/
set_option maxHeartbeats 8000000
set_option maxRecDepth 20000
namespace Go.Proofs.YtaheffiglmglbaaGreatDoor
open Go.Proofs.Tryz
open Go.RowKit L7
section
variable {B g lv N:Nat} {w w2:World} {L:List Tk} {f:S8.Fm} {r:Nat}
theorem ZyA (_:Fo w B g lv N f L r) (k:Int) (n50:k≠50) (n51:k≠51) (n52:k≠52) (n53:k≠53) (n55:k≠55) (n56:k≠56) (n57:k≠57) (n58:k≠58) (n59:k≠59) (n60:k≠60) (n61:k≠61) :
  Calls prog 275 #[.pointer (some ⟨g,0,none⟩),.int .i64 k] w (FPost B g lv N w L (fun _=>r - 1000) (S8.Zdi S8.ideal k f) isU):=by
 have HM:Hid (S8.Zdi S8.ideal k f=none):=hid (by
  simp only [S8.Zdi,if_neg n50,if_neg n51,if_neg n52,if_neg n53,if_neg n55,if_neg n56,if_neg n57,if_neg n58,if_neg n59,if_neg n60,if_neg n61]
  rfl)
 have m50:(k == 50)=false:=by simpa using n50
 have m51:(k == 51)=false:=by simpa using n51
 have m52:(k == 52)=false:=by simpa using n52
 have m53:(k == 53)=false:=by simpa using n53
 have m55:(k == 55)=false:=by simpa using n55
 have m56:(k == 56)=false:=by simpa using n56
 have m57:(k == 57)=false:=by simpa using n57
 have m58:(k == 58)=false:=by simpa using n58
 have m59:(k == 59)=false:=by simpa using n59
 have m60:(k == 60)=false:=by simpa using n60
 have m61:(k == 61)=false:=by simpa using n61
 clear n50 n51 n52 n53 n55 n56 n57 n58 n59 n60 n61
 go_enter func275,ntmps275
 go_wp2_with fail
 exact ⟨rfl,.stop HM.out (Below.refl _ _)⟩
theorem Zy8 (HG:Gd B lv N) (k:Int) (hok:S8.okK k=true) (F:Fo w B g lv N f L r) (hr:1000≤r) (n50:k≠50) (n51:k≠51) (n52:k≠52) (n53:k≠53) (n55:k≠55) (n56:k≠56) (n57:k≠57) :
  Calls prog 275 #[.pointer (some ⟨g,0,none⟩),.int .i64 k] w (FPost B g lv N w L (fun _=>r - 1000) (S8.Zdi S8.ideal k f) isU):=by
 by_cases n58:k=58
 ·subst n58;exact ZyE HG hok F hr
 by_cases n59:k=59
 ·subst n59;exact ZyD HG hok F hr
 by_cases n60:k=60
 ·subst n60;exact ZyC HG hok F hr
 by_cases n61:k=61
 ·subst n61;exact ZyB HG hok F hr
 exact ZyA F k n50 n51 n52 n53 n55 n56 n57 n58 n59 n60 n61
theorem ZvG (HG:Gd B lv N) (v:Value) (x:Nd) (_:Wr w B lv L (r + wt x)) (_:NodeAt w B x v) (hd:dpt x < N + 1) (hk:x.k=50) :
  Calls prog 252 #[.pointer (some ⟨B,0,none⟩),v] w (WPost B lv w L r (S8.run (S8.Zdi S8.ideal 50) x)):=
 (bad HG.le hd hk (by decide)).elim
theorem ZvF (HG:Gd B lv N) (v:Value) (x:Nd) (_:Wr w B lv L (r + wt x)) (_:NodeAt w B x v) (hd:dpt x < N + 1) (hk:x.k=51) :
  Calls prog 252 #[.pointer (some ⟨B,0,none⟩),v] w (WPost B lv w L r (S8.run (S8.Zdi S8.ideal 51) x)):=
 (bad HG.le hd hk (by decide)).elim
theorem ZvE (HG:Gd B lv N) (v:Value) (x:Nd) (hw:Wr w B lv L (r + wt x)) (hx:NodeAt w B x v) (hd:dpt x < N + 1) (hk:x.k=52) :
  Calls prog 252 #[.pointer (some ⟨B,0,none⟩),v] w (WPost B lv w L r (S8.run (S8.Zdi S8.ideal 52) x)):=by
 have HG:=hid HG
 have hk0:∀y∈x.c,dpt y < N:=fun y hy=>by have:=Zbv x y hy;omega
 have hB:=hw.size
 obtain ⟨s,rfl,hk1⟩:=hx
 have b0:Below w.heap.size w (w.alloc (.cells (nd5 x.k x.t x.n x.a s) 24)):=(Below.refl _ _).alloc (Nat.le_refl _) _
 have C0:=Ze5 (r:=r) x _ (hw.below b0) (show NodeAt (w.alloc (.cells (nd5 x.k x.t x.n x.a s) 24)) B x (.agg (nd5 x.k x.t x.n x.a s)) from ⟨s,rfl,ZaF hk1 (b0.mono (by omega))⟩) hk0 (Zc9 (by have:=HG.out.le;omega))
 have HB:=hid b0
 have HI:=hid (Is.fresh w 24 (nd5 x.k x.t x.n x.a s))
 have hq:(do S8.Zdi S8.ideal 52;S8.shut:S8.Wm Unit)=(do
   S8.ifW S8.ideal
   S8.shut
   : S8.Wm Unit):=by
  first
  | rfl
  | simp (decide:=true) only [S8.Zdi,if_true,if_false,S8.ZaP,S8.ZgE]
 have HQ:=hid hq
 have HK:=hid (show x.k=52 from hk)
 clear hw hk1 hd hk hk0 b0 hq
 go_enter func252,ntmps252
 go_wp2_with (go_at_call 83;(with_reducible refine C0.mono ?_);rintro e w0 ⟨g,rfl,F0,h1,hg⟩;have A0:=hid (At.node2 (w:=w) HQ.out F0 (HB.out.trans (h1.mono HB.out.size)) (by omega) (Nat.le_trans HB.out.size hg));have z0:=F0.c0;have d0:w0.cell? ⟨w.heap.size,0,none⟩=some (.int .i64 52):=((HI.out.below h1 (by simp)).at_ 0).trans (by rw [← HK.out];rfl);clear F0 h1 hg C0)
 have C1:=Zzy HG.out A0.out.fo (by omega)
 go_wp2_with (first
  | (go_at_call 272;(with_reducible refine C1.mono ?_);intro e w1 h1;rcases A0.out.step h1 with ⟨rfl,e1,b1⟩ | ⟨y1,f1,l1,v1,rfl,e1,rfl,G⟩;exact ⟨rfl,.node_stop e1 b1⟩;have A1:=hid G;have z1:=G.fo.c0;clear h1 e1 G C1 z0 d0;have C2:=Zfi A1.out.fo)
  | (go_at_call 52;(with_reducible refine C2.mono ?_);intro e w2 h1;rcases A1.out.last h1 with ⟨rfl,e1,b1⟩ | ⟨y,f,l,v,rfl,rfl,e1,F,k⟩;exact ⟨rfl,.node_stop e1 b1⟩;have E2:=hid (And.intro e1 (And.intro F k));clear h1 e1 F k C2 z1))
 go_end0
 exact .node_done E2.out.1 E2.out.2.1 (by omega) E2.out.2.2
theorem ZvD (HG:Gd B lv N) (v:Value) (x:Nd) (_:Wr w B lv L (r + wt x)) (_:NodeAt w B x v) (hd:dpt x < N + 1) (hk:x.k=53) :
  Calls prog 252 #[.pointer (some ⟨B,0,none⟩),v] w (WPost B lv w L r (S8.run (S8.Zdi S8.ideal 53) x)):=
 (bad HG.le hd hk (by decide)).elim
theorem ZvC (HG:Gd B lv N) (v:Value) (x:Nd) (_:Wr w B lv L (r + wt x)) (_:NodeAt w B x v) (hd:dpt x < N + 1) (hk:x.k=55) :
  Calls prog 252 #[.pointer (some ⟨B,0,none⟩),v] w (WPost B lv w L r (S8.run (S8.Zdi S8.ideal 55) x)):=
 (bad HG.le hd hk (by decide)).elim
theorem ZvB (HG:Gd B lv N) (v:Value) (x:Nd) (hw:Wr w B lv L (r + wt x)) (hx:NodeAt w B x v) (hd:dpt x < N + 1) (hk:x.k=56) :
  Calls prog 252 #[.pointer (some ⟨B,0,none⟩),v] w (WPost B lv w L r (S8.run (S8.Zdi S8.ideal 56) x)):=by
 have HG:=hid HG
 have hk0:∀y∈x.c,dpt y < N:=fun y hy=>by have:=Zbv x y hy;omega
 have hB:=hw.size
 obtain ⟨s,rfl,hk1⟩:=hx
 have b0:Below w.heap.size w (w.alloc (.cells (nd5 x.k x.t x.n x.a s) 24)):=(Below.refl _ _).alloc (Nat.le_refl _) _
 have C0:=Ze5 (r:=r) x _ (hw.below b0) (show NodeAt (w.alloc (.cells (nd5 x.k x.t x.n x.a s) 24)) B x (.agg (nd5 x.k x.t x.n x.a s)) from ⟨s,rfl,ZaF hk1 (b0.mono (by omega))⟩) hk0 (Zc9 (by have:=HG.out.le;omega))
 have HB:=hid b0
 have HI:=hid (Is.fresh w 24 (nd5 x.k x.t x.n x.a s))
 have hq:(do S8.Zdi S8.ideal 56;S8.shut:S8.Wm Unit)=(do
   S8.Znn S8.ideal
   S8.shut
   : S8.Wm Unit):=by
  first
  | rfl
  | simp (decide:=true) only [S8.Zdi,if_true,if_false,S8.ZaP,S8.ZgE]
 have HQ:=hid hq
 have HK:=hid (show x.k=56 from hk)
 clear hw hk1 hd hk hk0 b0 hq
 go_enter func252,ntmps252
 go_wp2_with (go_at_call 83;(with_reducible refine C0.mono ?_);rintro e w0 ⟨g,rfl,F0,h1,hg⟩;have A0:=hid (At.node2 (w:=w) HQ.out F0 (HB.out.trans (h1.mono HB.out.size)) (by omega) (Nat.le_trans HB.out.size hg));have z0:=F0.c0;have d0:w0.cell? ⟨w.heap.size,0,none⟩=some (.int .i64 56):=((HI.out.below h1 (by simp)).at_ 0).trans (by rw [← HK.out];rfl);clear F0 h1 hg C0)
 have C1:=ZxI HG.out A0.out.fo (by omega)
 go_wp2_with (first
  | (go_at_call 274;(with_reducible refine C1.mono ?_);intro e w1 h1;rcases A0.out.step h1 with ⟨rfl,e1,b1⟩ | ⟨y1,f1,l1,v1,rfl,e1,rfl,G⟩;exact ⟨rfl,.node_stop e1 b1⟩;have A1:=hid G;have z1:=G.fo.c0;clear h1 e1 G C1 z0 d0;have C2:=Zfi A1.out.fo)
  | (go_at_call 52;(with_reducible refine C2.mono ?_);intro e w2 h1;rcases A1.out.last h1 with ⟨rfl,e1,b1⟩ | ⟨y,f,l,v,rfl,rfl,e1,F,k⟩;exact ⟨rfl,.node_stop e1 b1⟩;have E2:=hid (And.intro e1 (And.intro F k));clear h1 e1 F k C2 z1))
 go_end0
 exact .node_done E2.out.1 E2.out.2.1 (by omega) E2.out.2.2
theorem ZvA (HG:Gd B lv N) (v:Value) (x:Nd) (_:Wr w B lv L (r + wt x)) (_:NodeAt w B x v) (hd:dpt x < N + 1) (hk:x.k=57) :
  Calls prog 252 #[.pointer (some ⟨B,0,none⟩),v] w (WPost B lv w L r (S8.run (S8.Zdi S8.ideal 57) x)):=
 (bad HG.le hd hk (by decide)).elim
theorem Zvx (HG:Gd B lv N) (v:Value) (x:Nd) (hw:Wr w B lv L (r + wt x)) (hx:NodeAt w B x v) (hd:dpt x < N + 1) (n50:x.k≠50) (n51:x.k≠51) (n52:x.k≠52) (n53:x.k≠53) (n55:x.k≠55) (n56:x.k≠56) (n57:x.k≠57) :
  Calls prog 252 #[.pointer (some ⟨B,0,none⟩),v] w (WPost B lv w L r (S8.run (S8.Zdi S8.ideal x.k) x)):=by
 have HOK:=hid (Zex (x:=x) (by have:=HG.le;omega))
 have HG:=hid HG
 have hk0:∀y∈x.c,dpt y < N:=fun y hy=>by have:=Zbv x y hy;omega
 have hB:=hw.size
 obtain ⟨s,rfl,hk1⟩:=hx
 have b0:Below w.heap.size w (w.alloc (.cells (nd5 x.k x.t x.n x.a s) 24)):=(Below.refl _ _).alloc (Nat.le_refl _) _
 have C0:=Ze5 (r:=r) x _ (hw.below b0) (show NodeAt (w.alloc (.cells (nd5 x.k x.t x.n x.a s) 24)) B x (.agg (nd5 x.k x.t x.n x.a s)) from ⟨s,rfl,ZaF hk1 (b0.mono (by omega))⟩) hk0 (Zc9 (by have:=HG.out.le;omega))
 have HB:=hid b0
 have HI:=hid (Is.fresh w 24 (nd5 x.k x.t x.n x.a s))
 have hq:(do S8.Zdi S8.ideal x.k;S8.shut:S8.Wm Unit)=(do
   S8.Zdi S8.ideal x.k
   S8.shut
   : S8.Wm Unit):=by
  first
  | rfl
  | simp only [S8.Zdi,if_neg n50,if_neg n51,if_neg n52,if_neg n53,if_neg n55,if_neg n56,if_neg n57,S8.ZaP]
 have HQ:=hid hq
 have HK:=hid (show x.k=x.k from rfl)
 have N50:=hid n50
 have N51:=hid n51
 have N52:=hid n52
 have N53:=hid n53
 have N55:=hid n55
 have N56:=hid n56
 have N57:=hid n57
 have m50:(x.k == 50)=false:=by simpa using n50
 have m51:(x.k == 51)=false:=by simpa using n51
 have m52:(x.k == 52)=false:=by simpa using n52
 have m53:(x.k == 53)=false:=by simpa using n53
 have m55:(x.k == 55)=false:=by simpa using n55
 have m56:(x.k == 56)=false:=by simpa using n56
 have m57:(x.k == 57)=false:=by simpa using n57
 clear hw hk1 hd n50 n51 n52 n53 n55 n56 n57 hk0 b0 hq
 go_enter func252,ntmps252
 go_wp2_with (go_at_call 83;(with_reducible refine C0.mono ?_);rintro e w0 ⟨g,rfl,F0,h1,hg⟩;have A0:=hid (At.node2 (w:=w) HQ.out F0 (HB.out.trans (h1.mono HB.out.size)) (by omega) (Nat.le_trans HB.out.size hg));have z0:=F0.c0;have d0:w0.cell? ⟨w.heap.size,0,none⟩=some (.int .i64 x.k):=((HI.out.below h1 (by simp)).at_ 0).trans (by rw [← HK.out];rfl);clear F0 h1 hg C0)
 have C1:=Zy8 HG.out x.k HOK.out A0.out.fo (by omega) N50.out N51.out N52.out N53.out N55.out N56.out N57.out
 go_wp2_with (first
  | (go_at_call 275;(with_reducible refine C1.mono ?_);intro e w1 h1;rcases A0.out.step h1 with ⟨rfl,e1,b1⟩ | ⟨y1,f1,l1,v1,rfl,e1,rfl,G⟩;exact ⟨rfl,.node_stop e1 b1⟩;have A1:=hid G;have z1:=G.fo.c0;clear h1 e1 G C1 z0 d0;have C2:=Zfi A1.out.fo)
  | (go_at_call 52;(with_reducible refine C2.mono ?_);intro e w2 h1;rcases A1.out.last h1 with ⟨rfl,e1,b1⟩ | ⟨y,f,l,v,rfl,rfl,e1,F,k⟩;exact ⟨rfl,.node_stop e1 b1⟩;have E2:=hid (And.intro e1 (And.intro F k));clear h1 e1 F k C2 z1))
 go_end0
 exact .node_done E2.out.1 E2.out.2.1 (by omega) E2.out.2.2
theorem ZtD (HG:Gd B lv N):Puts B lv (N + 1) 252 .stmt:=by
 intro w L r v x hw hx hd
 rw [← S8.Zck _ _ (Zex (by have:=HG.le;omega))]
 show Calls _ _ _ _ (WPost B lv w L r (S8.run (S8.Zdi S8.ideal x.k) x))
 by_cases n50:x.k=50
 ·rw [n50];exact ZvG HG v x hw hx hd n50
 by_cases n51:x.k=51
 ·rw [n51];exact ZvF HG v x hw hx hd n51
 by_cases n52:x.k=52
 ·rw [n52];exact ZvE HG v x hw hx hd n52
 by_cases n53:x.k=53
 ·rw [n53];exact ZvD HG v x hw hx hd n53
 by_cases n55:x.k=55
 ·rw [n55];exact ZvC HG v x hw hx hd n55
 by_cases n56:x.k=56
 ·rw [n56];exact ZvB HG v x hw hx hd n56
 by_cases n57:x.k=57
 ·rw [n57];exact ZvA HG v x hw hx hd n57
 exact Zvx HG v x hw hx hd n50 n51 n52 n53 n55 n56 n57
end
theorem gd (B lv:Nat):∀N,N≤1000→Gd B lv N
 | 0,h=>⟨fun _ _ _ _ _ _ _ _ hd=>absurd hd (by omega),h⟩
 | N + 1,h=>by
  have G:=gd B lv N (by omega)
  refine ⟨fun K=>?_,h⟩
  cases K
  ·exact ZtF G
  ·exact ZtH G
  ·exact ZpL G
  ·exact Zrf G
  ·exact Zv4 G
  ·exact ZtG G
  ·exact Zv6 G
  ·exact Zv5 G
  ·exact Zrg G
  ·exact ZtD G
  ·exact ZtE G
  ·exact ZtI G
open Go.RowKit L7
def Zlj:Option Int→Value
 | some a=>.tuple #[.int .i64 a,.bool true]
 | none=>.tuple #[.int .i64 0,.bool false]
theorem Zli {m d:Nat} {y:Nd} : ∀{c:List Nd} {i:Nat},c[i]?=some y→S8.deeps m d (c.drop i)=match S8.deep m d y with
  | some a=>some a
  | none=>S8.deeps m d (c.drop (i + 1))
 | [],i,h=>by simp at h
 | x::c,0,h=>by simp at h;subst h;simp only [List.drop_zero,List.drop_succ_cons];rw [S8.deeps];cases S8.deep m d x <;> rfl
 | x::c,i + 1,h=>by simp only [List.drop_succ_cons];exact Zli (by simpa using h)
theorem Zgh:∀{c:List Nd} {y:Nd},y∈c→wt y≤wts c
 | [],_,h=>by cases h
 | x::c,y,h=>by
  rw [Zbr]
  rcases List.mem_cons.1 h with rfl | h
  ·omega
  ·have:=Zgh h;omega
theorem Zn4 (x:Nd):∀(d B:Nat) (v:Value) (w:World),d≤41→wt x≤20000000→NodeAt w B x v→B≤w.heap.size→
  Calls prog 47 #[v,.int .i64 d] w fun e w'=>e=.returned (Zlj (S8.deep 40 d x))∧Below w.heap.size w w':=by
 induction x using S8.ZhH with
 | h k t n a c ih=>
 intro d B v w hd hwt hx hB
 obtain ⟨s,rfl,hk⟩:=hx
 obtain ⟨A,cap,rfl,hc,hR⟩:=ZcG hk
 rw [Zm2] at hwt
 simp only [S8.Nd.c,S8.Nd.t,S8.Nd.k,S8.Nd.n,S8.Nd.a] at *
 by_cases h4:40 < d
 ·have i1:decide ((40:Int) < (d:Int))=true:=by simp;omega
  have i2:decide (40 < d)=true:=by simp;omega
  have HD:=hid (show S8.deep 40 d (.mk k t n a c)=some a from by rw [S8.deep,if_pos h4])
  have HB:=hid ((Below.refl w.heap.size w).alloc (Nat.le_refl _) (.cells (nd5 k t n a (.slice A c.length cap)) 24))
  clear ih hR hk h4
  go_enter func47,ntmps47
  go_wp2_with fail
  go_ret2
  exact ⟨by rw [HD.out];rfl,HB.out⟩
 ·have i1:decide ((40:Int) < (d:Int))=false:=by simp;omega
  have i2:decide (40 < d)=false:=by simp;omega
  have HD:=hid (show S8.deep 40 d (.mk k t n a c)=S8.deeps 40 (d + 1) c from by rw [S8.deep,if_neg h4])
  have b0:=((Below.refl w.heap.size w).alloc (Nat.le_refl _) (.cells (nd5 k t n a (.slice A c.length cap)) 24))
  have HB:=hid b0
  have V:=hid (And.intro hR (And.intro hB (And.intro ih hwt)))
  have hlen:c.length≤100000:=by have:=ZfS c;omega
  have hd4:d≤40:=by omega
  clear ih hR hk h4 hd hB hwt b0
  go_enter func47,ntmps47
  go_wp2_with fail
  go_loopw [17] (fun vi wr=>∃(i:Nat),i≤c.length∧vi=.int .i64 i∧Hid (S8.deeps 40 (d + 1) c=S8.deeps 40 (d + 1) (c.drop i))∧Hid (Below w.heap.size w wr)) (fun vi _=>c.length - (intOf vi).toNat)
  case atStart=>exact ⟨0,Nat.zero_le _,rfl,hid rfl,HB⟩
  case round=>
   clear HB
   obtain ⟨i,hi,rfl,HA,HW⟩:=hrel
   by_cases hl:i < c.length
   ·obtain ⟨x,hx⟩:∃x,c[i]?=some x:=⟨_,List.getElem?_eq_getElem hl⟩
    obtain ⟨a1,y,rfl,ha,hk,d0,d1,d2,d3,d4⟩:=(V.out.1.below (HW.out.mono V.out.2.1)).rowG (by have:=HW.out.size;have:=V.out.2.1;omega) i x hx
    have i1:decide ((i:Int) < (c.length:Int))=true:=by simp;omega
    have i2:(0:Int)≤i∧(i:Int) < (c.length:Int):=by omega
    have HX:=hid (And.intro hx hk)
    have hne:(a1.add (i * 5)).block≠wr.heap.size:=by omega
    have HI0:=hid (Is.fresh wr 24 z5)
    clear hx hk hl
    go_wp2_with (first
     | (refine Zah HI0.out rfl 24 _ _ rfl (nd5 x.k x.t x.n x.a y) rfl rfl inf24 rfl (by have h1:=Zbq HX.out.2;simp [nd5,h1];exact ⟨rfl,rfl,rfl,rfl⟩) ?_;intro w92 h1 h2;have b2:Below wr.heap.size wr w92:=((Below.refl _ _).alloc (Nat.le_refl _) (.cells z5 24)).trans ⟨h2.os,h2.tape,h2.output,h2.size,fun k hk=>h2.block k (by simp;omega) (by simp;omega)⟩;have HB2:=hid (HW.out.trans (b2.mono HW.out.size));have e0:=h1.at_ 0;have e1:=h1.at_ 1;have e2:=h1.at_ 2;have e3:=h1.at_ 3;have e4:=h1.at_ 4;have C1:Calls prog 47 #[.agg (nd5 x.k x.t x.n x.a y),.int .i64 ((d:Int) + 1)] w92 (fun e w'=>e=.returned (Zlj (S8.deep 40 (d + 1) x))∧Below w92.heap.size w92 w'):=V.out.2.2.1 x (List.mem_of_getElem? HX.out.1) (d + 1) B (.agg (nd5 x.k x.t x.n x.a y)) w92 (by omega) (by have:=Zgh (List.mem_of_getElem? HX.out.1);have:=V.out.2.2.2;omega) ⟨y,rfl,ZaF HX.out.2 (b2.mono (by have:=HW.out.size;have:=V.out.2.1;omega))⟩ (by have:=HB2.out.size;have:=V.out.2.1;omega);clear h1 h2 b2 d0 d1 d2 d3 d4)
     | (go_at_call 47;(with_reducible refine C1.mono ?_);rintro e w93 ⟨rfl,h3⟩;have HB3:=hid (HB2.out.trans (h3.mono HB2.out.size));cases hdp:S8.deep 40 (d + 1) x <;> simp only [Zlj] <;> (have HDP:=hid hdp;clear hdp h3 e0 e1 e2 e3 e4 C1)))
    ·go_roundw
     case rel=>exact ⟨i + 1,by omega,by go_num,hid (by rw [HA.out,Zli HX.out.1,HDP.out]),HB3⟩
     case measure=>simp [intOf];omega
    ·go_ret2
     exact ⟨by rw [HD.out,HA.out,Zli HX.out.1,HDP.out];rfl,HB3.out⟩
   ·have i1:decide ((i:Int) < (c.length:Int))=false:=by simp;omega
    have i2:decide (i < c.length)=false:=by simp;omega
    have hA:=HA.out
    rw [List.drop_eq_nil_of_le (by omega)] at hA
    have HE:=hid hA
    clear hA hl
    go_wp2_with fail
    go_ret2
    exact ⟨by rw [HD.out,HE.out];rfl,HW.out⟩
open Go.RowKit L7
def S8.fileW (x:S8.Nd):Option (List Tk):=S8.beg 1 (do let l ← S8.rest;S8.put (S8.Zi8 (S8.ideal .part) l)) x
def S8.writO (x:S8.Nd):Option (List Tk):=if S8.deep 40 0 x=none then S8.fileW x else none
def WtPost (w:World) (o:Option (List Tk)) (e:Ending) (w':World):Prop:=Below w.heap.size w w'∧match o with
 | none=>e=.returned (.tuple #[.slice none 0 0,.bool false])
 | some L=>∃A cap,e=.returned (.tuple #[.slice A L.length cap,.bool true])∧L.length≤cap∧ToksIn w' w'.heap.size A (L.map fun t=>(t,0))∧tws L≤20000000
theorem ZuN {w2:World} {p:Nat} {tm:Array Value} {s b:Value} (h2:tm[2]?=some (.pointer (some ⟨p + 1,0,none⟩))) (h3:tm[3]?=some (.pointer (some ⟨p + 1 + 1,0,none⟩))) (hs:Is w2 (p + 1) 28 #[s]) (hb:Is w2 (p + 1 + 1) 4 #[b]) :
  (results Tryz.f27 tm).run prog w2=.ok (.tuple #[s,b]) w2:=by
 have e1:w2.cell? ⟨p + 1,0,none⟩=some s:=hs.at_ 0
 have e2:w2.cell? ⟨p + 1 + 1,0,none⟩=some b:=hb.at_ 0
 simp [results,results27,go_sem,h2,h3,e1,e2]
theorem Zkq {w w2:World} {o:Option (List Tk)} {p:Nat} {tm:Array Value} {s b:Value} (h2:tm[2]?=some (.pointer (some ⟨p + 1,0,none⟩))) (h3:tm[3]?=some (.pointer (some ⟨p + 1 + 1,0,none⟩))) (hs:Is w2 (p + 1) 28 #[s]) (hb:Is w2 (p + 1 + 1) 4 #[b]) (hp:w.heap.size≤p) (ho:o=none) (hw:Below w.heap.size w w2) :
  bodyPostD prog Tryz.f27 (WtPost w o) (Exit.panic pan) { tmps:=tm,defers:=[{ target:=Target.fn (Go.Fn.func 46) #[.pointer (some ⟨p + 1,0,none⟩),.pointer (some ⟨p + 1 + 1,0,none⟩)],args:=#[] }] } w2:=by
 refine leaves_cons (f:=46) (args:=#[.pointer (some ⟨p + 1,0,none⟩),.pointer (some ⟨p + 1 + 1,0,none⟩)]) (by simp) (by simp [go_sem]) ?_
 refine (ZuH (p + 1) (p + 1 + 1) _ _ 103 (.agg #[]) [] _ hs hb (by omega)).mono ?_
 rintro e u' w'' ⟨rfl,rfl,h4,h5,h6⟩
 refine ⟨_,ZuN h2 h3 h4 h5,?_,?_⟩
 ·exact ⟨h6.out.1.os.trans hw.os,h6.out.1.tape.trans hw.tape,h6.out.1.output.trans hw.output,Nat.le_trans hw.size h6.out.1.size,fun k hk=>(h6.out.2 k (by omega) (by omega)).trans (hw.block k hk)⟩
 ·subst ho;rfl
theorem Zqw {w w2:World} {o:Option (List Tk)} {p:Nat} {tm:Array Value} {s b:Value} (h2:tm[2]?=some (.pointer (some ⟨p + 1,0,none⟩))) (h3:tm[3]?=some (.pointer (some ⟨p + 1 + 1,0,none⟩))) (hs:Is w2 (p + 1) 28 #[s]) (hb:Is w2 (p + 1 + 1) 4 #[b]) (ho:WtPost w o (.returned (.tuple #[s,b])) w2) :
  bodyPostD prog Tryz.f27 (WtPost w o) Exit.ret { tmps:=tm,defers:=[{ target:=Target.fn (Go.Fn.func 46) #[.pointer (some ⟨p + 1,0,none⟩),.pointer (some ⟨p + 1 + 1,0,none⟩)],args:=#[] }] } w2:=by
 refine leaves_cons (f:=46) (args:=#[.pointer (some ⟨p + 1,0,none⟩),.pointer (some ⟨p + 1 + 1,0,none⟩)]) (by simp) (by simp [go_sem]) ?_
 refine (ZsF _ _ _).mono ?_
 rintro e u' w'' ⟨rfl,rfl,rfl⟩
 exact ⟨_,ZuN h2 h3 hs hb,ho⟩
theorem ZoS {w:World} {base e size n:Nat} {v:Value} {xs:List Value} (h:w.ownsRow base e size v n xs):∃A c,v=.slice A n c:=by
 rcases h.2 with ⟨h1,h2⟩ | ⟨g,cap,cur,h2,_⟩
 ·subst h1;exact ⟨none,0,by rw [h2]⟩
 ·exact ⟨_,_,h2⟩
theorem ZtR {w:World} {base:Nat} {v:Value} {l:List Tk} (h:w.ownsRow base 42 4 v l.length (ZfA (l.map fun t=>(t,0)))):∃A cap,v=.slice A l.length cap∧l.length≤cap∧ToksIn w w.heap.size A (l.map fun t=>(t,0)):=by
 obtain ⟨A,c,rfl⟩:=ZoS h
 exact ⟨A,c,rfl,ZsH h,ToksIn.of_own h⟩
theorem Zrx {w:World} {base n p:Nat} {v u:Value} {xs:List Value} (h:w.ownsRow base 42 4 v n xs) (hp:p < base):(w.setCell ⟨p,0,none⟩ u).ownsRow base 42 4 v n xs:=
 h.kept (row:=some p) ⟨rfl,rfl,rfl,by simp [World.setCell],fun k hk hne=>Below.heap_setCell w ⟨p,0,none⟩ u k (by intro e;apply hne;rw [e])⟩ (by
  cases ho:v.ownBlock with
  | none=>exact .inl rfl
  | some k=>refine .inr ?_;intro e;cases e;have:=(h.lt _ ho).1;omega)
theorem NodeAt.up {w w':World} {B B':Nat} {x:Nd} {v:Value} (h:NodeAt w B x v) (hB:B≤B') (k:Below B w w'):NodeAt w' B' x v:=by
 obtain ⟨s,e,hk⟩:=h.below k
 exact ⟨s,e,Zb0 (fun g h _=>by omega) (fun _ _ _=>rfl) x s hk⟩
theorem Wr.new {w w2:World} {m:Nat} {r:Nat} (hm:MapHas w2 m) (hl:Lies w) (hb:Below w.heap.size w w2) (hr:r≤20000000):Wr (w2.alloc (.cells #[.slice none 0 0,.map (some m)] 79)) w2.heap.size m [] r:=by
 have h0:=(Below.refl w2.heap.size w2).alloc (Nat.le_refl _) (.cells #[.slice none 0 0,.map (some m)] 79)
 exact ⟨⟨_,Is.fresh _ _ _,World.ownsRow_nil _ _ _ _⟩,hm.stay (h0.block _ hm.lt),hm.lt,⟨w,hl,hb.size,hb.trans (h0.mono hb.size)⟩,by simp [tws];omega⟩
theorem ZuP (x:Nd) (B:Nat) (v:Value) (w:World) (hx:NodeAt w B x v) (hB:B≤w.heap.size) (hr:rgd x=true) (hwt:wt x≤19000000) (hl:Lies w) :
  Calls prog 27 #[v] w (WtPost w (S8.writO x)):=by
 obtain ⟨s,rfl,hk⟩:=hx
 obtain ⟨w0,hw0⟩:∃w0,w0=((w.alloc (.cells (nd5 x.k x.t x.n x.a s) 24)).alloc (.cells #[.slice none 0 0] 28)).alloc (.cells #[.bool false] 4):=⟨_,rfl⟩
 have b0:Below w.heap.size w w0:=by
  rw [hw0];exact (((Below.refl _ _).alloc (Nat.le_refl _) _).alloc (by simp) _).alloc (by simp only [World.size_alloc];omega) _
 have s0:w0.heap.size=w.heap.size + 3:=by rw [hw0];simp only [World.size_alloc]
 have J0:Is w0 w.heap.size 24 (nd5 x.k x.t x.n x.a s):=by rw [hw0];exact ((Is.fresh w 24 _).alloc _).alloc _
 have J1:Is w0 (w.heap.size + 1) 28 #[.slice none 0 0]:=by
  rw [hw0];have:=(Is.fresh (w.alloc (.cells (nd5 x.k x.t x.n x.a s) 24)) 28 #[.slice none 0 0]).alloc (.cells #[.bool false] 4);simpa using this
 have J2:Is w0 (w.heap.size + 1 + 1) 4 #[.bool false]:=by
  rw [hw0];have:=Is.fresh ((w.alloc (.cells (nd5 x.k x.t x.n x.a s) 24)).alloc (.cells #[.slice none 0 0] 28)) 4 #[.bool false];simpa using this
 have C1:Calls prog 47 #[.agg (nd5 x.k x.t x.n x.a s),.int .i64 0] w0 (fun e w''=>e=.returned (Zlj (S8.deep 40 0 x))∧Below w0.heap.size w0 w''):=Zn4 x 0 B _ w0 (by omega) (by omega) ⟨s,rfl,ZaF hk (b0.mono hB)⟩ (by omega)
 rw [hw0] at C1
 have HW:=hid hw0
 have JJ:=hid (And.intro b0 (And.intro s0 (And.intro J0 (And.intro J1 J2))))
 have HX:=hid (And.intro hk (And.intro hB (And.intro hr (And.intro hwt hl))))
 clear hk hB hr hwt hl hw0 b0 s0 J0 J1 J2
 go_enter_defers func27,ntmps27
 go_wp2_with (go_at_call 47;(with_reducible refine C1.mono ?_);rintro e w1 ⟨rfl,h1⟩;rw [← HW.out] at h1;have P:=hid (And.intro (JJ.out.1.trans (h1.mono (by have:=JJ.out.2.1;omega))) (And.intro (JJ.out.2.2.1.below h1 (by have:=JJ.out.2.1;omega)) (And.intro (JJ.out.2.2.2.1.below h1 (by have:=JJ.out.2.1;omega)) (And.intro (JJ.out.2.2.2.2.below h1 (by have:=JJ.out.2.1;omega)) h1.size))));clear h1 C1;have d1:w1.cell? ⟨w.heap.size + 1,0,none⟩=some (.slice none 0 0):=P.out.2.2.1.at_ 0;have z1:=P.out.2.2.1.open_ 0;have d2:w1.cell? ⟨w.heap.size + 1 + 1,0,none⟩=some (.bool false):=P.out.2.2.2.1.at_ 0;have z2:=P.out.2.2.2.1.open_ 0;cases hdp:S8.deep 40 0 x <;> simp only [Zlj] <;> (have HDP:=hid hdp;clear hdp))
 ·have hdep:S8.depth x≤40:=by have:=(S8.ZfB 40 x 0).1 HDP.out;omega
  have hdp:dpt x≤40:=by unfold dpt;rw [HX.out.2.2.1,if_pos rfl];exact hdep
  have HO:=hid (show S8.writO x=S8.fileW x from if_pos HDP.out)
  have C2:=Zj6 w1
  have e0:=P.out.2.1.at_ 0
  have e1:=P.out.2.1.at_ 1
  have e2:=P.out.2.1.at_ 2
  have e3:=P.out.2.1.at_ 3
  have e4:=P.out.2.1.at_ 4
  clear d1 d2 z1 z2
  go_wp2_with (go_at_call 48;(with_reducible refine C2.mono ?_);rintro e w2 ⟨m,rfl,hm,hmw,hb2⟩;have P2:=hid (And.intro hm (And.intro hmw hb2));clear hm hmw hb2 C2;have J3:=(P.out.2.1.below P2.out.2.2 P.out.2.1.lt).alloc (.cells #[.slice none 0 0,.map (some m)] 79);have f0:=J3.at_ 0;have f1:=J3.at_ 1;have f2:=J3.at_ 2;have f3:=J3.at_ 3;have f4:=J3.at_ 4;clear J3 e0 e1 e2 e3 e4)
  clear f0 f1 f2 f3 f4
  have hB3:Below w2.heap.size w2 (w2.alloc (.cells #[.slice none 0 0,.map (some m)] 79)):=(Below.refl _ _).alloc (Nat.le_refl _) _
  have hs1:=P.out.1.size
  have hs2:=P2.out.2.2.size
  have hsz:=P.out.2.2.2.2
  have s0:=JJ.out.2.1
  have b2:Below w.heap.size w w2:=P.out.1.trans (P2.out.2.2.mono hs1)
  have b3:Below w.heap.size w (w2.alloc (.cells #[.slice none 0 0,.map (some m)] 79)):=b2.trans (hB3.mono (by omega))
  obtain ⟨w3,hw3⟩:∃w3,w3=(w2.alloc (.cells #[.slice none 0 0,.map (some m)] 79)):=⟨_,rfl⟩
  have WR:=Wr.new (r:=0 + wt x) P2.out.1 HX.out.2.2.2.2 b2 (by have:=HX.out.2.2.2.1;omega)
  have NA:NodeAt (w2.alloc (.cells #[.slice none 0 0,.map (some m)] 79)) w2.heap.size x (.agg (nd5 x.k x.t x.n x.a s)):=NodeAt.up ⟨s,rfl,HX.out.1⟩ (by have:=HX.out.2.1;omega) (b3.mono HX.out.2.1)
  have Q1:=((P.out.2.2.1.below P2.out.2.2 (by omega)).below hB3 (by omega))
  have Q2:=((P.out.2.2.2.1.below P2.out.2.2 (by omega)).below hB3 (by omega))
  have hlt:w2.heap.size < (w2.alloc (.cells #[.slice none 0 0,.map (some m)] 79)).heap.size:=by simp
  rw [← hw3] at WR NA Q1 Q2 b3 hlt ⊢
  have P3:=hid (And.intro b3 (And.intro WR (And.intro NA (And.intro Q1 (And.intro Q2 (And.intro (show w.heap.size + 1 + 1 < w2.heap.size by omega) (show w.heap.size + 1 < w2.heap.size by omega)))))))
  have HG:=hid (gd w2.heap.size m 41 (by omega))
  obtain ⟨B1,hB1⟩:∃B1,B1=w2.heap.size:=⟨_,rfl⟩
  rw [← hB1] at P3 HG hlt ⊢
  have HP2:=P2
  clear hB3 hs1 hs2 hsz s0 b2 b3 WR NA Q1 Q2 hw3 P2 HP2 hB1
  by_cases hk1:x.k=1
  case neg=>
   have C9:=ZeE x _ 1 hk1 P3.out.2.2.1
   have HN:=hid (show S8.writO x=none from by rw [HO.out,S8.fileW,S8.beg,if_neg hk1])
   clear hk1
   go_wp2_with (go_at_call 49;(with_reducible refine C9.mono ?_);rintro e w9 ⟨rfl,h1⟩;exact Zkq (p:=w.heap.size) rfl rfl (P3.out.2.2.2.1.below (show Below B1 w3 w9 from h1.mono (by omega)) P3.out.2.2.2.2.2.2) (P3.out.2.2.2.2.1.below (show Below B1 w3 w9 from h1.mono (by omega)) P3.out.2.2.2.2.2.1) (Nat.le_refl _) HN.out (P3.out.1.trans ((show Below B1 w3 w9 from h1.mono (by omega)).mono (by have:=P3.out.2.2.2.2.2.2;omega))))
  have HF:=hid (show S8.writO x=S8.run (do let l ← S8.rest;S8.put (S8.Zi8 (S8.ideal .part) l):S8.Wm Unit) x from by rw [HO.out,S8.fileW,S8.beg,if_pos hk1])
  have C2:=ZdN (N:=41) x _ 1 hk1 P3.out.2.1 P3.out.2.2.1 (fun y hy=>by have:=Zbv x y hy;omega) (Zc9 (by omega))
  clear hk1
  go_wp2_with (first
   | (go_at_call 49;(with_reducible refine C2.mono ?_);rintro e w4 ⟨g,rfl,F,h1,hg⟩;have A0:=hid (At.node2 (w:=w3) (p:=(do let l ← S8.rest;S8.put (S8.Zi8 (S8.ideal .part) l):S8.Wm Unit)) (show (do (do let l ← S8.rest;S8.put (S8.Zi8 (S8.ideal .part) l):S8.Wm Unit);S8.shut:S8.Wm Unit)=(do let l ← S8.rest;S8.put (S8.Zi8 (S8.ideal .part) l);S8.shut) from by simp only [S8.ZaP]) F h1 (by omega) hg);have HGG:=hid hg;clear F h1 hg C2;have C3:=Zja A0.out.fo)
   | (go_at_call 50;(with_reducible refine C3.mono ?_);intro e w5 h1;rcases A0.out.step h1 with ⟨rfl,e1,b1⟩ | ⟨y1,f1,l1,v1,rfl,e1,⟨AA,cap,rfl,hc9,hR9,hD9⟩,G⟩;exact Zkq (p:=w.heap.size) rfl rfl (P3.out.2.2.2.1.below b1 P3.out.2.2.2.2.2.2) (P3.out.2.2.2.2.1.below b1 P3.out.2.2.2.2.2.1) (Nat.le_refl _) (by rw [HF.out,Ziq,e1];rfl) (P3.out.1.trans (b1.mono (by have:=P3.out.2.2.2.2.2.2;omega)));have A1:=hid G;have V1:=hid (And.intro (hR9.stays (by have:=G.fo.wr.size;omega)) hD9);clear h1 e1 G C3 hc9 hR9 hD9))
  obtain ⟨L1,q0,hL1,W0,hq0,hlen⟩:=A1.out.loop (by omega)
  have HW0:=hid W0
  have HL1:=hid hL1
  clear W0 hL1
  go_loopw [26] (fun vi wr=>∃(i:Nat) (rs:List (List Tk)),i≤y1.length∧vi=.int .i64 i∧Hid (S8.Zg1 (S8.ideal .part) (y1.take i)=some rs)∧Hid (Wr wr B1 m (L1++rs.flatten) ((q0 + 4 * f1.t.length + wts f1.c) + wts (y1.drop i)))∧Hid (Fr B1 (fun _=>False) w5 wr)) (fun vi _=>y1.length - (intOf vi).toNat)
  case atStart=>exact ⟨0,[],Nat.zero_le _,rfl,hid rfl,hid (by rw [List.flatten_nil,List.append_nil];exact HW0.out),hid (Fr.refl _ _ _)⟩
  case round=>
   clear HW0
   obtain ⟨i,rs,hi,rfl,HA,HW,HFr⟩:=hrel
   by_cases hl:i < y1.length
   ·obtain ⟨x2,hx⟩:∃x2,y1[i]?=some x2:=⟨_,List.getElem?_eq_getElem hl⟩
    obtain ⟨a,y,rfl,ha,hk,d0,d1,d2,d3,d4⟩:=V1.out.1 _ HFr.out i x2 hx
    have i1:decide ((i:Int) < (y1.length:Int))=true:=by simp;omega
    have i2:(0:Int)≤i∧(i:Int) < (y1.length:Int):=by omega
    have HX2:=hid (And.intro hx (And.intro hk (V1.out.2 x2 (List.mem_of_getElem? hx))))
    have hne:(a.add (i * 5)).block≠wr.heap.size:=by omega
    have HI0:=hid (Is.fresh wr 24 z5)
    clear hx hk hl
    have hgt:=HW.out.size
    have e3:wts (y1.drop i)=wt x2 + 200 + wts (y1.drop (i + 1)):=by rw [ZiR HX2.out.1,Zbr]
    go_wp2_with (first
     | (refine Zah HI0.out rfl 24 _ _ rfl (nd5 x2.k x2.t x2.n x2.a y) rfl rfl inf24 rfl (by have h1:=Zbq HX2.out.2.1;simp [nd5,h1];exact ⟨rfl,rfl,rfl,rfl⟩) ?_;intro w92 h1 h2;have W2:=(HW.out.alloc (.cells z5 24)).kept HI0.out (by decide) hgt h2;have b2:Below wr.heap.size wr w92:=((Below.refl _ _).alloc (Nat.le_refl _) (.cells z5 24)).trans ⟨h2.os,h2.tape,h2.output,h2.size,fun k hk=>h2.block k (by simp;omega) (by simp;omega)⟩;have HF2:=hid (HFr.out.trans (Fr.of_below (X:=fun _=>False) b2 (by omega)) (fun _ _ h=>h));have g0:=h1.at_ 0;have g1:=h1.at_ 1;have g2:=h1.at_ 2;have g3:=h1.at_ 3;have g4:=h1.at_ 4;have C9:=(show Puts B1 m 41 51 .part from HG.out.pu .part) w92 (L1++rs.flatten) ((q0 + 4 * f1.t.length + wts f1.c) + wts (y1.drop (i + 1))) (.agg (nd5 x2.k x2.t x2.n x2.a y)) x2 (W2.less (by omega)) ⟨y,rfl,ZaF HX2.out.2.1 (b2.mono (by omega))⟩ HX2.out.2.2;clear h1 h2 W2 b2 d0 d1 d2 d3 d4)
     | (go_at_call 51;(with_reducible refine C9.mono ?_);intro e w94 h1;rcases h1.ways with ⟨rfl,h2,h3⟩ | ⟨m2,rfl,h2,h3,h4⟩;exact Zkq (p:=w.heap.size) rfl rfl (P3.out.2.2.2.1.below (A1.out.inner_stop (Ze3 HX2.out.1 h2) (HF2.out.below.trans h3)).2 P3.out.2.2.2.2.2.2) (P3.out.2.2.2.2.1.below (A1.out.inner_stop (Ze3 HX2.out.1 h2) (HF2.out.below.trans h3)).2 P3.out.2.2.2.2.2.1) (Nat.le_refl _) (by rw [HF.out,Ziq,(A1.out.inner_stop (Ze3 HX2.out.1 h2) (HF2.out.below.trans h3)).1];rfl) (P3.out.1.trans ((A1.out.inner_stop (Ze3 HX2.out.1 h2) (HF2.out.below.trans h3)).2.mono (by have:=P3.out.2.2.2.2.2.2;omega)));have H4:=hid (And.intro h2 (And.intro h3 h4));clear h1 h2 h3 h4 C9 g0 g1 g2 g3 g4))
    go_roundw
    case rel=>exact ⟨i + 1,rs++[m2],by omega,by go_num,hid (ZgF HX2.out.1 HA.out H4.out.1),hid (by rw [Zjx];have:=H4.out.2.1;simp only [List.append_assoc] at this ⊢;exact this),hid (HF2.out.trans H4.out.2.2 (fun _ _ h=>h))⟩
    case measure=>simp [intOf];omega
   ·have hA2:=HA.out
    rw [List.take_of_length_le (by omega)] at hA2
    have i1:decide ((i:Int) < (y1.length:Int))=false:=by simp;omega
    have i2:decide (i < y1.length)=false:=by simp;omega
    have A2:=hid (A1.out.inner_done (r':=q0) (ZkS hA2) (by rw [← HL1.out];exact HW.out.less (by omega)) HFr.out)
    clear hA2 hl
    have C4:=Zfi A2.out.fo
    go_wp2_with (go_at_call 52;(with_reducible refine C4.mono ?_);intro e w6 h1;rcases A2.out.last h1 with ⟨rfl,e1,b1⟩ | ⟨y,f,l,v,rfl,rfl,e1,F,k⟩;exact Zkq (p:=w.heap.size) rfl rfl (P3.out.2.2.2.1.below b1 P3.out.2.2.2.2.2.2) (P3.out.2.2.2.2.1.below b1 P3.out.2.2.2.2.2.1) (Nat.le_refl _) (by rw [HF.out,Ziq,e1];rfl) (P3.out.1.trans (b1.mono (by have:=P3.out.2.2.2.2.2.2;omega)));obtain ⟨s9,hi9,ho9⟩:=F.wr.row;obtain ⟨A9,c9,rfl⟩:=ZoS ho9;have q0':=hi9.at_ 0;have K1:=hid (P3.out.2.2.2.1.below k.below P3.out.2.2.2.2.2.2);have K2:=hid (P3.out.2.2.2.2.1.below k.below P3.out.2.2.2.2.2.1);have d1:w6.cell? ⟨w.heap.size + 1,0,none⟩=some (.slice none 0 0):=K1.out.at_ 0;have z1:=K1.out.open_ 0;have d2:w6.cell? ⟨w.heap.size + 1 + 1,0,none⟩=some (.bool false):=K2.out.at_ 0;have z2:=K2.out.open_ 0;have E6:=hid (And.intro e1 (And.intro ho9 (P3.out.1.trans (k.below.mono (by have:=P3.out.2.2.2.2.2.2;omega)))));have hbud:tws ([]++l)≤20000000:=(by have:=F.wr.bud;omega);clear h1 e1 F k C4 hi9 ho9)
    have J1:=hid ((K1.out.put 0 (.slice A9 ([]++l).length c9)).away (a:=⟨w.heap.size + 1 + 1,0,none⟩) (by show w.heap.size + 1≠w.heap.size + 1 + 1;omega) (.bool true))
    have J2:=hid ((K2.out.away (a:=⟨w.heap.size + 1,0,none⟩) (by show w.heap.size + 1 + 1≠w.heap.size + 1;omega) (.slice A9 ([]++l).length c9)).put 0 (.bool true))
    have HO2:=ZtR (Zrx (u:=.bool true) (Zrx (u:=.slice A9 ([]++l).length c9) E6.out.2.1 (by have:=P3.out.2.2.2.2.2.1;omega:w.heap.size + 1 < B1 + 1)) (by have:=P3.out.2.2.2.2.2.1;omega:w.heap.size + 1 + 1 < B1 + 1))
    obtain ⟨A8,cap8,e8,hc9,ht9⟩:=HO2
    cases e8
    exact Zqw rfl rfl J1.out J2.out ⟨(E6.out.2.2.setCell (by show w.heap.size≤w.heap.size + 1;omega) _).setCell (by show w.heap.size≤w.heap.size + 1 + 1;omega) _,by rw [HF.out,Ziq,E6.out.1];exact ⟨_,_,rfl,hc9,ht9,hbud⟩⟩
 ·have K1:=hid ((P.out.2.2.1.put 0 (.slice none 0 0)).away (a:=⟨w.heap.size + 1 + 1,0,none⟩) (by show w.heap.size + 1≠w.heap.size + 1 + 1;omega) (.bool false))
  have K2:=hid ((P.out.2.2.2.1.away (a:=⟨w.heap.size + 1,0,none⟩) (by show w.heap.size + 1 + 1≠w.heap.size + 1;omega) (.slice none 0 0)).put 0 (.bool false))
  exact Zqw rfl rfl K1.out K2.out ⟨(P.out.1.setCell (by show w.heap.size≤w.heap.size + 1;omega) _).setCell (by show w.heap.size≤w.heap.size + 1 + 1;omega) _,by rw [S8.writO,HDP.out];rfl⟩
open Go.RowKit L7
def Zvg (w:World) (o:Option (List Tk)) (e:Ending) (w':World):Prop:=Below w.heap.size w w'∧∃A cap,e=.returned (.slice A (o.getD []).length cap)∧(o=none→A=none∧cap=0)∧(o.getD []).length≤cap∧ToksIn w' w'.heap.size A ((o.getD []).map fun t=>(t,0))∧tws (o.getD [])≤20000000
theorem WtPost.ways {w w':World} {o:Option (List Tk)} {e:Ending} (h:WtPost w o e w'):∃s b,e=.returned (.tuple #[s,.bool b])∧b=o.isSome∧Zvg w o (.returned s) w':=by
 obtain ⟨h1,h2⟩:=h
 cases o with
 | none=>exact ⟨_,_,h2,rfl,h1,none,0,rfl,fun _=>⟨rfl,rfl⟩,Nat.le_refl _,fun k x hk=>by simp at hk,by simp [tws]⟩
 | some L=>obtain ⟨A,cap,h3,h4,h5,h6⟩:=h2;exact ⟨_,_,h3,rfl,h1,A,cap,rfl,(fun h=>by cases h),h4,h5,h6⟩
section
variable {x:Nd} {B:Nat} {v:Value} {w:World}
theorem ZkT (hx:NodeAt w B x v) (hB:B≤w.heap.size) (hr:rgd x=true) (hwt:wt x≤19000000) (hl:Lies w) :
  Calls prog 12 #[v] w fun e w'=>e=.returned (.bool (S8.writO x).isSome)∧Below w.heap.size w w':=by
 obtain ⟨s,rfl,hk⟩:=hx
 have b0:=(Below.refl w.heap.size w).alloc (Nat.le_refl _) (.cells (nd5 x.k x.t x.n x.a s) 24)
 have C1:=ZuP x B (.agg (nd5 x.k x.t x.n x.a s)) (w.alloc (.cells (nd5 x.k x.t x.n x.a s) 24)) ⟨s,rfl,ZaF hk (b0.mono hB)⟩ (by simp;omega) hr hwt (hl.on b0)
 have HB:=hid b0
 clear hk hl b0
 go_enter func12,ntmps12
 go_wp2_with (go_at_call 27;(with_reducible refine C1.mono ?_);intro e w1 h1;obtain ⟨s1,b1,rfl,rfl,h2⟩:=h1.ways;have H1:=hid (HB.out.trans (h2.1.mono (by simp)));clear h1 h2 C1)
 go_ret
 exact ⟨rfl,H1.out⟩
theorem Zs5 (hx:NodeAt w B x v) (hB:B≤w.heap.size) (hr:rgd x=true) (hwt:wt x≤19000000) (hl:Lies w) :
  Calls prog 15 #[v] w (Zvg w (S8.writO x)):=by
 obtain ⟨s,rfl,hk⟩:=hx
 have b0:=(Below.refl w.heap.size w).alloc (Nat.le_refl _) (.cells (nd5 x.k x.t x.n x.a s) 24)
 have C1:=ZuP x B (.agg (nd5 x.k x.t x.n x.a s)) (w.alloc (.cells (nd5 x.k x.t x.n x.a s) 24)) ⟨s,rfl,ZaF hk (b0.mono hB)⟩ (by simp;omega) hr hwt (hl.on b0)
 have HB:=hid b0
 clear hk hl b0
 go_enter func15,ntmps15
 go_wp2_with (go_at_call 27;(with_reducible refine C1.mono ?_);intro e w1 h1;obtain ⟨s1,b1,rfl,rfl,h2⟩:=h1.ways;have H1:=hid (HB.out.trans (h2.1.mono (by simp)));have H2:=hid h2.2;clear h1 h2 C1)
 go_ret
 exact ⟨H1.out,H2.out⟩
theorem Zqy (hx:NodeAt w B x v) (hB:B≤w.heap.size) (hr:rgd x=true) (hwt:wt x≤19000000) (hl:Lies w) :
  Calls prog 17 #[v] w fun e w'=>e=.returned (.string (mk (wrt ((S8.writO x).getD []))))∧Below w.heap.size w w':=by
 obtain ⟨s,rfl,hk⟩:=hx
 have b0:=(Below.refl w.heap.size w).alloc (Nat.le_refl _) (.cells (nd5 x.k x.t x.n x.a s) 24)
 have C1:=Zs5 (x:=x) (B:=B) (v:=.agg (nd5 x.k x.t x.n x.a s)) (w:=w.alloc (.cells (nd5 x.k x.t x.n x.a s) 24)) ⟨s,rfl,ZaF hk (b0.mono hB)⟩ (by simp;omega) hr hwt (hl.on b0)
 have HB:=hid b0
 have HL:=hid hl
 clear hk hl b0
 go_enter func17,ntmps17
 go_wp2_with (first
  | (go_at_call 15;(with_reducible refine C1.mono ?_);rintro e w1 ⟨h1,A,cap,rfl,h2,h3,h4,h5⟩;have H1:=hid (HB.out.trans (h1.mono (by simp)));have C2:=ZiW A cap w1.heap.size ((S8.writO x).getD [] |>.map fun t=>(t,(0:Int))) w1 (HL.out.on H1.out) h4 (Nat.le_refl _) (by rw [List.map_map];simpa [Function.comp_def] using h5);rw [List.length_map,List.map_map,show ((Prod.fst ∘ fun t:Tk=>(t,(0:Int)))=id) from rfl,List.map_id] at C2;clear h1 h2 h3 h4 h5 C1)
  | (go_at_call 23;(with_reducible refine C2.mono ?_);rintro e w2 ⟨rfl,h1⟩;have H2:=hid (H1.out.trans (h1.mono H1.out.size));clear h1 C2))
 go_ret
 exact ⟨rfl,H2.out⟩
end
end Go.Proofs.YtaheffiglmglbaaGreatDoor
