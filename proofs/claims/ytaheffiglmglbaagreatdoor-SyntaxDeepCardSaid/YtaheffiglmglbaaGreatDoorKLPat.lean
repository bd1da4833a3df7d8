import Derived.Test.YtaheffiglmglbaaGreatDoorKXd
import Derived.Test.YtaheffiglmglbaaGreatDoorKXc
/- LPat. -/
set_option maxHeartbeats 8000000
set_option maxRecDepth 20000
namespace Go.Proofs.YtaheffiglmglbaaGreatDoor
open Go.Proofs.Tryz
open Go.RowKit L7
theorem ZhI (a b:ByteArray):ls (a++b)=ls a++ls b:=by unfold ls;rw [ByteArray.data_append,Array.toList_append]
theorem Zie {y:Nd} : ∀{c:List Nd} {i:Nat},c[i]?=some y→S8.Zc0 (c.drop i)=if S8.ZdV y then S8.Zc0 (c.drop (i + 1)) else some y
 | [],i,h=>by simp at h
 | x::c,0,h=>by simp at h;subst h;simp only [List.drop_zero,List.drop_succ_cons];rw [S8.Zc0]
 | x::c,i + 1,h=>by simp only [List.drop_succ_cons];exact Zie (by simpa using h)
theorem ZoK {w:World} {B:Nat} {c:List Nd} {s:Value} (h:Kid w (fun g=>g < B) (S8.root c) s):∃A cap,s=.slice A c.length cap∧c.length≤cap∧RowAt w B c A:=ZcG h
theorem Zv1 {c:List Nd} (h:wts c≤18000000):wt (S8.root c)≤18001000:=by rw [S8.root,S8.Zg3];simp;omega
theorem Zv3 {p:Bool} {s:Bs} (hs:s.length≤7100) {c:List Nd} {e a:Int} (h:S8.pv p s=(S8.root c,e,a)):wts c≤18000000:=by
 by_cases h0:(S8.pv p s).2.1=0
 ·obtain ⟨l,c',h1,h2,h3,h4,-⟩:=S8.ZoN h0 S8.codes
  rw [h] at h4
  have:c=c':=by injection h4 with h4 _;injection h4
  subst this
  exact S8.Zh3 hs l c [] h1 h2
 ·have:=S8.Zv2 h0
  rw [h] at this
  injection this with h1
  cases h1
theorem nz (e:Int) (h:e≠0):(e != 0)=true:=by simpa using h
theorem Zxa {n:Nat} (h:n≤3000):decide ((3000:Int) < (n:Int))=false:=by simp;omega
theorem Zw9 {n:Nat} (h:¬ n≤3000):decide ((3000:Int) < (n:Int))=true:=by simp;omega
theorem ZnC (s:ByteArray) (w:World) (hl:Lies w):Calls prog 7 #[.string s] w fun e w'=>e=.returned (.bool true)∧Below w.heap.size w w':=by
 have HL:=hid hl
 have C1:=Zi6 w hl
 clear hl
 by_cases hs:s.size≤3000
 case neg=>
  have g:=Zw9 hs
  clear hs
  go_enter func7,ntmps7
  go_wp2_with (go_at_call 10;refine C1.mono ?_;rintro e w1 ⟨rfl,h1⟩;have M0:=hid h1;clear h1 C1)
  go_ret
  exact ⟨rfl,M0.out⟩
 have g:=Zxa hs
 have HS:Hid (s.size≤3000):=hid hs
 clear hs
 by_cases he:(S8.pv true (ls s)).2.1=0
 case neg=>
  have hf:=S8.ZnB S8.codes he
  rcases hx:S8.pv true (ls s) with ⟨⟨xk,xt,xn,xa,xc⟩,e1,a1⟩
  rcases hy:S8.pv false (ls s) with ⟨⟨yk,yt,yn,ya,yc⟩,e2,a2⟩
  rw [hx] at he
  rw [hy] at hf
  have g1:(e1 != 0)=true:=nz _ he
  have g2:(e2 != 0)=true:=nz _ hf
  have HV:=hid hx
  have HV2:=hid hy
  clear hx hy he hf
  go_enter func7,ntmps7
  go_wp2_with (first
   | (have X:=N2;clear X;refine Zah (g:=w4.heap.size) (t:=24) (old:=z5) (by exact Is.fresh w4 24 _) rfl 24 _ _ rfl (nd5 yk yt yn ya s4) rfl rfl inf24 rfl (ZcN (Zbq N2.out.2.2)) ?_;intro w5 h1 h2;obtain ⟨n1,b2⟩:=Nv.new (x:=.mk yk yt yn ya yc) N2.out.2.2 h1 h2;have M2:=hid (And.intro (N2.out.1.trans (b2.mono N2.out.1.size)) (And.intro (N2.out.2.1.below b2) n1));clear n1 b2 N2;clear h1 h2)
   | (go_at_call 24;refine C3.mono ?_;intro e w4 h;obtain ⟨b1,s4,rfl,k1⟩:=Zeh h HV2.out;have N2:=hid (And.intro (M1.out.1.trans (b1.mono M1.out.1.size)) (And.intro (M1.out.2.below b1) k1));clear M1;clear h b1 k1 C3)
   | (have X:=N1;clear X;refine Zah (g:=w2.heap.size) (t:=24) (old:=z5) (by exact Is.fresh w2 24 _) rfl 24 _ _ rfl (nd5 xk xt xn xa s2) rfl rfl inf24 rfl (ZcN (Zbq N1.out.2)) ?_;intro w3 h1 h2;obtain ⟨n1,b2⟩:=Nv.new (x:=.mk xk xt xn xa xc) N1.out.2 h1 h2;have M1:=hid (And.intro (N1.out.1.trans (b2.mono N1.out.1.size)) n1);have C3:Calls prog 24 #[.string s] w3 (ZcK false (ls s) w3):=Zhh (HL.out.on M1.out.1) (by have:=HS.out;omega);clear n1 b2 N1;clear h1 h2)
   | (go_at_call 21;refine C2.mono ?_;intro e w2 h;obtain ⟨b1,s2,rfl,k1⟩:=Zeh h HV.out;have N1:=hid (And.intro (M0.out.trans (b1.mono M0.out.size)) k1);clear M0;clear h b1 k1 C2)
   | (go_at_call 10;refine C1.mono ?_;rintro e w1 ⟨rfl,h1⟩;have M0:=hid h1;have C2:Calls prog 21 #[.string s] w1 (ZcK true (ls s) w1):=ZfP (HL.out.on h1) (by have:=HS.out;omega);clear h1 C1))
  go_ret
  exact ⟨rfl,M2.out.1⟩
 obtain ⟨c,hx,hch,hy⟩:=S8.ZpS S8.codes he
 have hcost:=Zv3 (by have:=HS.out;show s.size≤7100;omega) hx
 have HV:=hid hx
 have HC:=hid (And.intro hch hcost)
 clear he hx hch hcost
 cases hno:S8.Zc0 c with
 | some x=>
  rw [hno] at hy
  have HV2:Hid (S8.pv false (ls s)=(.mk 0 [] 0 0 [],2,x.a)):=hid hy
  have HN:=hid hno
  clear hy hno
  go_enter func7,ntmps7
  go_wp2_with (first
   | (have X:=N2;clear X;refine Zah (g:=w4.heap.size) (t:=24) (old:=z5) (by exact Is.fresh w4 24 _) rfl 24 _ _ rfl (nd5 0 [] 0 0 s4) rfl rfl inf24 rfl (ZcN (Zbq N2.out.2.2)) ?_;intro w5 h1 h2;obtain ⟨n1,b2⟩:=Nv.new (x:=.mk 0 [] 0 0 []) N2.out.2.2 h1 h2;have M2:=hid (And.intro (N2.out.1.trans (b2.mono N2.out.1.size)) (And.intro (N2.out.2.1.below b2) n1));clear n1 b2 N2;obtain ⟨A,cap,rfl,-,r1⟩:=ZoK M2.out.2.1.kid;have R1:=hid r1;have d4:=M2.out.2.1.is.at_ 4;clear r1;clear h1 h2)
   | (go_at_call 24;refine C3.mono ?_;intro e w4 h;obtain ⟨b1,s4,rfl,k1⟩:=Zeh h HV2.out;have N2:=hid (And.intro (M1.out.1.trans (b1.mono M1.out.1.size)) (And.intro (M1.out.2.below b1) k1));clear M1;clear h b1 k1 C3)
   | (have X:=N1;clear X;refine Zah (g:=w2.heap.size) (t:=24) (old:=z5) (by exact Is.fresh w2 24 _) rfl 24 _ _ rfl (nd5 1 [] 0 0 s2) rfl rfl inf24 rfl (ZcN (Zbq N1.out.2)) ?_;intro w3 h1 h2;obtain ⟨n1,b2⟩:=Nv.new (x:=S8.root c) N1.out.2 h1 h2;have M1:=hid (And.intro (N1.out.1.trans (b2.mono N1.out.1.size)) n1);have C3:Calls prog 24 #[.string s] w3 (ZcK false (ls s) w3):=Zhh (HL.out.on M1.out.1) (by have:=HS.out;omega);clear n1 b2 N1;clear h1 h2)
   | (go_at_call 21;refine C2.mono ?_;intro e w2 h;obtain ⟨b1,s2,rfl,k1⟩:=Zeh h HV.out;have N1:=hid (And.intro (M0.out.trans (b1.mono M0.out.size)) k1);clear M0;clear h b1 k1 C2)
   | (go_at_call 10;refine C1.mono ?_;rintro e w1 ⟨rfl,h1⟩;have M0:=hid h1;have C2:Calls prog 21 #[.string s] w1 (ZcK true (ls s) w1):=ZfP (HL.out.on h1) (by have:=HS.out;omega);clear h1 C1))
  go_loopw [10] (fun vi wr=>∃(i:Nat),i≤c.length∧vi=.int .i64 i∧Hid (S8.Zc0 (c.drop i)=some x)∧wr=w5) (fun vi _=>c.length - (intOf vi).toNat)
  case atStart=>exact ⟨0,Nat.zero_le _,rfl,hid HN.out,rfl⟩
  case round=>
   obtain ⟨i,hi,rfl,HA,rfl⟩:=hrel
   by_cases hl:i < c.length
   ·obtain ⟨y,hy⟩:∃y,c[i]?=some y:=⟨_,List.getElem?_eq_getElem hl⟩
    obtain ⟨ad,sy,rfl,hb,hk,f0,f1,f2,f3,f4⟩:=R1.out.rowG (Nat.le_refl _) i y hy
    have i1:decide ((i:Int) < (c.length:Int))=true:=by simp;omega
    have i2:(0:Int)≤i∧(i:Int) < (c.length:Int):=by omega
    have hlen:c.length≤100000:=by have:=ZfS c;have:=HC.out.2;omega
    have hF:=Zie hy
    rw [HA.out] at hF
    rcases S8.ZmT (HC.out.1 y (List.mem_of_getElem? hy)) with ⟨hd,hk7⟩ | ⟨hd,hk7⟩
    ·rw [hd] at hF
     have i3:decide ((70:Int)≤y.k)=false:=by simp;omega
     have HF:Hid (S8.Zc0 (c.drop (i + 1))=some x):=hid hF.symm
     clear hF hd hk7 hk hy hl
     go_wp2_with fail
     go_roundw
     case rel=>exact ⟨i + 1,by omega,by go_num,HF,by first | trivial | rfl⟩
     case measure=>simp [intOf];omega
    ·rw [hd] at hF
     obtain rfl:x=y:=by simpa using hF
     have i3:decide ((70:Int)≤x.k)=true:=by simp;omega
     clear hF hd hk7 hk hy hl
     go_wp2_with fail
     go_ret
     exact ⟨rfl,M2.out.1⟩
   ·exfalso
    have:=HA.out
    rw [List.drop_eq_nil_of_le (by omega)] at this
    cases this
 | none=>
  rw [hno] at hy
  have HV2:Hid (S8.pv false (ls s)=(S8.root c,0,0)):=hid hy
  have HN:=hid hno
  clear hy hno
  go_enter func7,ntmps7
  go_wp2_with (first
   | (have X:=N2;clear X;refine Zah (g:=w4.heap.size) (t:=24) (old:=z5) (by exact Is.fresh w4 24 _) rfl 24 _ _ rfl (nd5 1 [] 0 0 s4) rfl rfl inf24 rfl (ZcN (Zbq N2.out.2.2)) ?_;intro w5 h1 h2;obtain ⟨n1,b2⟩:=Nv.new (x:=S8.root c) N2.out.2.2 h1 h2;have M2:=hid (And.intro (N2.out.1.trans (b2.mono N2.out.1.size)) (And.intro (N2.out.2.1.below b2) n1));clear n1 b2 N2;obtain ⟨A,cap,rfl,-,r1⟩:=ZoK M2.out.2.1.kid;have R1:=hid r1;have d0:=M2.out.2.1.is.at_ 0;have d1:=M2.out.2.1.is.at_ 1;have d2:=M2.out.2.1.is.at_ 2;have d3:=M2.out.2.1.is.at_ 3;have d4:=M2.out.2.1.is.at_ 4;have e0:=M2.out.2.2.is.at_ 0;have e1:=M2.out.2.2.is.at_ 1;have e2:=M2.out.2.2.is.at_ 2;have e3:=M2.out.2.2.is.at_ 3;have e4:=M2.out.2.2.is.at_ 4;clear r1;clear h1 h2)
   | (go_at_call 24;refine C3.mono ?_;intro e w4 h;obtain ⟨b1,s4,rfl,k1⟩:=Zeh h HV2.out;have N2:=hid (And.intro (M1.out.1.trans (b1.mono M1.out.1.size)) (And.intro (M1.out.2.below b1) k1));clear M1;clear h b1 k1 C3)
   | (have X:=N1;clear X;refine Zah (g:=w2.heap.size) (t:=24) (old:=z5) (by exact Is.fresh w2 24 _) rfl 24 _ _ rfl (nd5 1 [] 0 0 s2) rfl rfl inf24 rfl (ZcN (Zbq N1.out.2)) ?_;intro w3 h1 h2;obtain ⟨n1,b2⟩:=Nv.new (x:=S8.root c) N1.out.2 h1 h2;have M1:=hid (And.intro (N1.out.1.trans (b2.mono N1.out.1.size)) n1);have C3:Calls prog 24 #[.string s] w3 (ZcK false (ls s) w3):=Zhh (HL.out.on M1.out.1) (by have:=HS.out;omega);clear n1 b2 N1;clear h1 h2)
   | (go_at_call 21;refine C2.mono ?_;intro e w2 h;obtain ⟨b1,s2,rfl,k1⟩:=Zeh h HV.out;have N1:=hid (And.intro (M0.out.trans (b1.mono M0.out.size)) k1);clear M0;clear h b1 k1 C2)
   | (go_at_call 10;refine C1.mono ?_;rintro e w1 ⟨rfl,h1⟩;have M0:=hid h1;have C2:Calls prog 21 #[.string s] w1 (ZcK true (ls s) w1):=ZfP (HL.out.on h1) (by have:=HS.out;omega);clear h1 C1))
  go_loopw [10] (fun vi wr=>∃(i:Nat),i≤c.length∧vi=.int .i64 i∧Hid (S8.Zc0 (c.drop i)=none)∧wr=w5) (fun vi _=>c.length - (intOf vi).toNat)
  case atStart=>exact ⟨0,Nat.zero_le _,rfl,hid HN.out,rfl⟩
  case round=>
   obtain ⟨i,hi,rfl,HA,rfl⟩:=hrel
   have hlen:c.length≤100000:=by have:=ZfS c;have:=HC.out.2;omega
   by_cases hl:i < c.length
   ·obtain ⟨y,hy⟩:∃y,c[i]?=some y:=⟨_,List.getElem?_eq_getElem hl⟩
    obtain ⟨ad,sy,rfl,hb,hk,f0,f1,f2,f3,f4⟩:=R1.out.rowG (Nat.le_refl _) i y hy
    have i1:decide ((i:Int) < (c.length:Int))=true:=by simp;omega
    have i2:(0:Int)≤i∧(i:Int) < (c.length:Int):=by omega
    have hF:=Zie hy
    rw [HA.out] at hF
    rcases S8.ZmT (HC.out.1 y (List.mem_of_getElem? hy)) with ⟨hd,hk7⟩ | ⟨hd,hk7⟩
    ·rw [hd] at hF
     have i3:decide ((70:Int)≤y.k)=false:=by simp;omega
     have HF:Hid (S8.Zc0 (c.drop (i + 1))=none):=hid hF.symm
     clear hF hd hk7 hk hy hl
     go_wp2_with fail
     go_roundw
     case rel=>exact ⟨i + 1,by omega,by go_num,HF,by first | trivial | rfl⟩
     case measure=>simp [intOf];omega
    ·rw [hd] at hF
     cases hF
   ·have i1:decide ((i:Int) < (c.length:Int))=false:=by simp;omega
    have i2:decide (i < c.length)=false:=by simp;omega
    clear hl
    have C4:=Zw1 (S8.root c) wr.heap.size (.agg (nd5 1 [] 0 0 (.slice A c.length cap))) (.agg (nd5 1 [] 0 0 s4)) wr (by have:=Zv1 HC.out.2;omega) M2.out.2.1.at_ M2.out.2.2.at_ (Nat.le_refl _)
    go_wp2_with (go_at_call 25;refine C4.mono ?_;rintro e w9 ⟨rfl,h9⟩;have M9:=hid (M2.out.1.trans (h9.mono M2.out.1.size));clear h9 C4)
    go_ret
    exact ⟨rfl,M9.out⟩
end Go.Proofs.YtaheffiglmglbaaGreatDoor
