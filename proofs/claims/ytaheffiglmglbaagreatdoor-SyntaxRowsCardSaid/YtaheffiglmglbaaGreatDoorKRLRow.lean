import Derived.Test.YtaheffiglmglbaaGreatDoorKRXf
import Derived.Test.YtaheffiglmglbaaGreatDoorKRApp
/- LRow. -/
set_option maxHeartbeats 8000000
set_option maxRecDepth 20000
namespace Go.Proofs.YtaheffiglmglbaaGreatDoor
open Go.Proofs.Tryz
open Go.RowKit L7
theorem pv_use2 {pt:Bool} {s:Bs} {w w':World} {e:Ending} {k n a e0 at0:Int} {t:Bs} {c:List Nd} (h:ZcK pt s w e w') (hv:S8.pv pt s=(.mk k t n a c,e0,at0)) :
  Below w.heap.size w w'∧∃s1,e=.returned (.tuple #[.agg (nd5 k t n a s1),.int .i64 e0,.int .i64 at0])∧Kid w' (fun g=>w.heap.size≤g∧g < w'.heap.size) (.mk k t n a c) s1:=by
 obtain ⟨h1,v,h2,s1,h3,h4⟩:=h
 rw [hv] at h2 h3 h4
 refine ⟨h1,s1,?_,h4⟩
 rw [h2,h3];rfl
structure Nq (q:Nat) (w:World) (p:Nat) (x:Nd) (s:Value):Prop where
 is:Is w p 24 (nd5 x.k x.t x.n x.a s)
 kid:Kid w (fun g=>g≠q∧g < w.heap.size) x s
theorem Nq.below {q:Nat} {w w':World} {p:Nat} {x:Nd} {s:Value} (h:Nq q w p x s) (k:Below w.heap.size w w'):Nq q w' p x s:=
 ⟨h.is.below k h.is.lt,Zb0 (fun g h _=>⟨h.1,by have:=h.2;have:=k.size;omega⟩) (fun g h _=>k.block g h.2) x s h.kid⟩
theorem Nq.new {q:Nat} {w w':World} {x:Nd} {s:Value} (hk:Kid w (fun g=>g≠q∧g < w.heap.size) x s) (h1:Is w' w.heap.size 24 (nd5 x.k x.t x.n x.a s)) (h2:(w.alloc (.cells z5 24)).grownBy w' (some w.heap.size)):Nq q w' w.heap.size x s∧Below w.heap.size w w':=by
 have hb:Below w.heap.size w w':=ZbK ((Below.refl _ _).alloc (Nat.le_refl _) _) h2 (Nat.le_refl _) (by simp)
 exact ⟨⟨h1,Zb0 (fun g h _=>⟨h.1,by have:=h.2;have:=hb.size;omega⟩) (fun g h _=>hb.block g h.2) x s hk⟩,hb⟩
theorem pv_bound (t:Bs) (h:(S8.pv true t).2.1≠0):0≤(S8.pv true t).2.2∧(S8.pv true t).2.2≤t.length:=by
 cases hs:scan t with
 | error x=>
  obtain ⟨e,k⟩:=x
  rw [S8.ZuX hs]
  simp only;omega
 | ok l=>
  have hb:=(S8.Zqp t t hs hs rfl).2.2 h
  by_cases hx:∀(i:Nat) (hi:i < l.length),((t.length - (l[i]).2:Nat):Int)≠(S8.pv true t).2.2
  ·rw [(hb.2 hx).1];omega
  ·simp only [Classical.not_forall,Classical.not_not] at hx
   obtain ⟨i,hi,hx⟩:=hx
   rw [← hx];omega
theorem app_len {s t:ByteArray} : (s++⟨#[10]⟩++t).size=s.size + 1 + t.size:=by rw [ByteArray.size_append,ByteArray.size_append];rfl
theorem ls_row (s t:ByteArray):ls (s++⟨#[10]⟩++t)=ls s++10::ls t:=by rw [ZhI,ZhI];simp [ls]
def RowsB (s t:ByteArray) (e2 p2 e3 p3:Int):Prop:=
 (∃en k,scan (ls t)=.error (en,k)∧e3=e2∧p3=p2 + (s.size:Int) + 1)∨
 (scan (ls t)=.ok []∧e3=e2∧p3=p2 + (s.size:Int) + 1)∨
 (∃u l,scan (ls t)=.ok (u::l)∧((t.size - u.2:Nat):Int)=p2)∨
 (∃u l,scan (ls t)=.ok (u::l)∧((t.size - u.2:Nat):Int)≠p2∧e3=e2∧p3=p2 + (s.size:Int) + 1)
theorem rows_split {s t:ByteArray} {xk xn xa yk yn ya zk zn za e1 p1 e2 p2 e3 p3:Int} {xt yt zt:Bs} {xc yc zc:List Nd}
  (hx:S8.pv true (ls s)=(.mk xk xt xn xa xc,e1,p1)) (hy:S8.pv true (ls t)=(.mk yk yt yn ya yc,e2,p2)) (hz:S8.pv true (ls s++10::ls t)=(.mk zk zt zn za zc,e3,p3)) :
  e1≠0∨(e1=0∧e2≠0∧(0≤p2∧p2≤t.size)∧RowsB s t e2 p2 e3 p3)∨
  (e1=0∧e2=0∧e3=0∧(xk=1∧xt=[]∧xn=0∧xa=0)∧(yk=1∧yt=[]∧yn=0∧ya=0)∧(zk=1∧zt=[]∧zn=0∧za=0)∧(∃l,scan (ls t)=.ok l)∧zc.map S8.strip=(xc++yc).map S8.strip):=by
 by_cases he:e1=0
 case neg=>exact .inl he
 subst he
 obtain ⟨ca,hx',hbad,hgood⟩:=S8.rows_law (ls s) (ls t) (by rw [hx])
 rw [hy,hz] at hbad hgood
 rw [hx] at hx'
 cases hx'
 simp only [ZaR] at hbad hgood
 by_cases he2:e2=0
 case neg=>
  refine .inr (.inl ⟨rfl,he2,?_,?_⟩)
  ·have hb:=pv_bound (ls t) (by rw [hy];exact he2)
   rw [hy,ZaR] at hb
   exact hb
  ·cases hsc:scan (ls t) with
   | error x=>
    refine .inl ⟨x.1,x.2,hsc,?_⟩
    rcases hbad he2 with ⟨l,h1,-⟩ | ⟨h1,h2⟩
    ·rw [hsc] at h1;cases h1
    ·exact ⟨h1,by rw [h2];omega⟩
   | ok l=>
    cases l with
    | nil=>
     refine .inr (.inl ⟨hsc,?_⟩)
     rcases hbad he2 with ⟨l,h1,u,h2,-⟩ | ⟨h1,h2⟩
     ·rw [hsc] at h1;cases h1;cases h2
     ·exact ⟨h1,by rw [h2];omega⟩
    | cons u l=>
     by_cases hat:((t.size - u.2:Nat):Int)=p2
     ·exact .inr (.inr (.inl ⟨u,l,hsc,hat⟩))
     ·refine .inr (.inr (.inr ⟨u,l,hsc,hat,?_⟩))
      rcases hbad he2 with ⟨l',h1,u',h2,h3⟩ | ⟨h1,h2⟩
      ·rw [hsc] at h1;cases h1;cases h2;exact absurd h3 hat
      ·exact ⟨h1,by rw [h2];omega⟩
 obtain ⟨cb,cc,hyy,hzz,hst⟩:=hgood he2
 obtain ⟨l,c0,hsc,-⟩:=S8.ZoN (by rw [hy];exact he2) S8.codes
 cases hyy
 cases hzz
 exact .inr (.inr ⟨rfl,rfl,rfl,⟨rfl,rfl,rfl,rfl⟩,⟨rfl,rfl,rfl,rfl⟩,⟨rfl,rfl,rfl,rfl⟩,⟨l,hsc⟩,hst⟩)
theorem srows_any (s t:ByteArray) (w:World) (hl:Lies w):Calls prog 6 #[.string s,.string t] w fun e w'=>e=.returned (.bool true)∧Below w.heap.size w w':=by
 have HL:=hid hl
 have C1:=Zi6 w hl
 clear hl
 by_cases hs:s.size≤1500∧t.size≤1500
 case neg=>
  have:decide ((1500:Int) < (s.size:Int))=true∨(decide ((1500:Int) < (s.size:Int))=false∧decide ((1500:Int) < (t.size:Int))=true):=by
   simp only [decide_eq_true_eq,decide_eq_false_iff_not];omega
  clear hs
  rcases this with g1 | ⟨g1,g2⟩
  all_goals
   go_enter func6,ntmps6
   go_wp2_with (go_at_call 10;refine C1.mono ?_;rintro e w1 ⟨rfl,h1⟩;have M0:=hid h1;clear h1 C1)
   go_ret
   exact ⟨rfl,M0.out⟩
 obtain ⟨hs1,hs2⟩:=hs
 have g1:decide ((1500:Int) < (s.size:Int))=false:=by simp;omega
 have g2:decide ((1500:Int) < (t.size:Int))=false:=by simp;omega
 have u1:(s++⟨#[10]⟩).size≤1501:=by rw [ByteArray.size_append];show _ + 1≤1501;omega
 have u2:(s++⟨#[10]⟩++t).size≤3001:=by rw [app_len];omega
 have HU:=hid (And.intro (ls_row s t) u2)
 rcases hx:S8.pv true (ls s) with ⟨⟨xk,xt,xn,xa,xc⟩,e1,p1⟩
 rcases hy:S8.pv true (ls t) with ⟨⟨yk,yt,yn,ya,yc⟩,e2,p2⟩
 rcases hz:S8.pv true (ls (s++⟨#[10]⟩++t)) with ⟨⟨zk,zt,zn,za,zc⟩,e3,p3⟩
 have HV:=hid hx
 have HV2:=hid hy
 have HV3:=hid hz
 have HC:=hid (rows_split hx hy (by rw [← ls_row];exact hz))
 clear hx hy hz
 go_enter func6,ntmps6
 go_wp2_with (first
  | (have Q:=HR;clear Q;go_at_call 22;refine (ZkP t _ (HL.out.on M3.out.1) (by omega)).mono ?_;rintro e w8 ⟨⟨A,c,h1,hT,-,hc⟩,h4⟩;have M4:=hid (M3.out.1.trans (h4.mono M3.out.1.size));clear M3 h4;rcases HR.out with ⟨en,k,hsc,rfl,rfl⟩ | ⟨hsc,rfl,rfl⟩ | ⟨u,l,hsc,hq⟩ | ⟨u,l,hsc,hq,rfl,rfl⟩ <;> rw [hsc] at h1 hT hc <;> first
   | (obtain rfl:e=.returned (.tuple #[.slice none 0 0,.int .i64 en,.int .i64 ((t.size - k:Nat):Int)]):=h1;clear hT hc hsc HR)
   | (obtain rfl:e=.returned (.tuple #[.slice A 0 c,.int .i64 0,.int .i64 0]):=h1;clear hT hc hsc HR)
   | (obtain rfl:e=.returned (.tuple #[.slice A (u::l).length c,.int .i64 0,.int .i64 0]):=h1;have i1:decide ((0:Int) < (((u::l).length:Nat):Int))=true:=(by simp);have i2:(0:Int)≤0∧(0:Int) < (((u::l).length:Nat):Int):=(by simp);obtain ⟨a,rfl,-,-,-,-,f3⟩:=hT.at_ (ZrD (n:=t.size) (i:=0) rfl);simp only at f3;have hcc:(u::l).length≤c:=hc;obtain ⟨q,hq2⟩:∃q,q=t.size - u.2:=⟨_,rfl⟩;rw [← hq2] at f3 hq;have f4:=f3;rw [show a.add (0 * 4)=a from rfl] at f4;(first | (have m3:((q:Int) == p2)=true:=(by simpa using hq)) | (have m3:((q:Int) == p2)=false:=(by simpa using hq)));clear hT hc hsc HR hq hq2))
  | (have Q:=HE;clear Q;go_at_call 22;refine (ZkP t _ (HL.out.on M3.out.1) (by omega)).mono ?_;rintro e w8 ⟨⟨A,c,h1,-,-,-⟩,h4⟩;obtain ⟨l,hsc⟩:=HE.out.1;rw [hsc] at h1;obtain rfl:e=.returned (.tuple #[.slice A l.length c,.int .i64 0,.int .i64 0]):=h1;have M4:=hid (And.intro (M3.out.1.trans (h4.mono M3.out.1.size)) (And.intro (M3.out.2.1.below h4) (And.intro (M3.out.2.2.1.below h4) (M3.out.2.2.2.below h4))));clear h4 M3 hsc)
  | (have X:=N3;clear X;refine Zah (g:=w6.heap.size) (t:=24) (old:=z5) (by exact Is.fresh w6 24 _) rfl 24 _ _ rfl (nd5 zk zt zn za s6) rfl rfl inf24 rfl (ZcN (Zbq N3.out.2.2.2.2)) ?_;intro w7 h1 h2;obtain ⟨n1,b2⟩:=Nq.new (q:=w2.heap.size) (x:=.mk zk zt zn za zc) (Zgz N3.out.2.2.2.2 fun g h _=>⟨fun e=>absurd (Nat.lt_of_lt_of_le N3.out.2.2.2.1 h.1) (by rw [e];exact Nat.lt_irrefl _),h.2⟩) h1 h2;have M3:=hid (And.intro (N3.out.1.trans (b2.mono N3.out.1.size)) (And.intro (N3.out.2.1.below b2) (And.intro (N3.out.2.2.1.below b2) n1)));clear n1 b2 N3;clear h1 h2;rcases HC.out with hc | ⟨rfl,hc,hp,hr⟩ | ⟨rfl,rfl,rfl,⟨rfl,rfl,rfl,rfl⟩,⟨rfl,rfl,rfl,rfl⟩,⟨rfl,rfl,rfl,rfl⟩,he⟩ <;> first
   | (have n1:(e1 != 0)=true:=nz _ hc;clear hc)
   | (have n1:(e2 != 0)=true:=nz _ hc;have hw1:IntKind.i64.wrap (p2 + (s.size:Int))=p2 + (s.size:Int):=IntWalk.i64_in _ ⟨by omega,by omega⟩;have hw2:IntKind.i64.wrap (p2 + (s.size:Int) + 1)=p2 + (s.size:Int) + 1:=IntWalk.i64_in _ ⟨by omega,by omega⟩;have m1:(e2 == e2)=true:=(by simp);have m2:(p2 + (s.size:Int) + 1 == p2 + (s.size:Int) + 1)=true:=(by simp);have HR:=hid hr;clear hc hr hp)
   | (have HE:=hid he;clear he))
  | (go_at_call 21;refine C4.mono ?_;intro e w6 h;obtain ⟨b1,s6,rfl,k1⟩:=pv_use2 h HV3.out;have HB:=hid (Nat.lt_of_lt_of_le M2.out.2.1.is.lt b1.size);have N3:=hid (And.intro (M2.out.1.trans (b1.mono M2.out.1.size)) (And.intro (M2.out.2.1.below b1) (And.intro (M2.out.2.2.below b1) (And.intro M2.out.2.1.is.lt k1))));clear M2;clear h b1 k1 C4)
  | (have X:=N2;clear X;refine Zah (g:=w4.heap.size) (t:=24) (old:=z5) (by exact Is.fresh w4 24 _) rfl 24 _ _ rfl (nd5 yk yt yn ya s4) rfl rfl inf24 rfl (ZcN (Zbq N2.out.2.2.2)) ?_;intro w5 h1 h2;obtain ⟨n1,b2⟩:=Nq.new (q:=w2.heap.size) (x:=.mk yk yt yn ya yc) (Zgz N2.out.2.2.2 fun g h _=>⟨fun e=>absurd (Nat.lt_of_lt_of_le N2.out.2.2.1 h.1) (by rw [e];exact Nat.lt_irrefl _),h.2⟩) h1 h2;have M2:=hid (And.intro (N2.out.1.trans (b2.mono N2.out.1.size)) (And.intro (N2.out.2.1.below b2) n1));have C4:Calls prog 21 #[.string (s++⟨#[10]⟩++t)] w5 (ZcK true (ls (s++⟨#[10]⟩++t)) w5):=ZfP (HL.out.on M2.out.1) (by have:=HU.out.2;omega);clear n1 b2 N2;clear h1 h2)
  | (go_at_call 21;refine C3.mono ?_;intro e w4 h;obtain ⟨b1,s4,rfl,k1⟩:=pv_use2 h HV2.out;have N2:=hid (And.intro (M1.out.1.trans (b1.mono M1.out.1.size)) (And.intro (M1.out.2.below b1) (And.intro M1.out.2.is.lt k1)));clear M1;clear h b1 k1 C3)
  | (have X:=N1;clear X;refine Zah (g:=w2.heap.size) (t:=24) (old:=z5) (by exact Is.fresh w2 24 _) rfl 24 _ _ rfl (nd5 xk xt xn xa s2) rfl rfl inf24 rfl (ZcN (Zbq N1.out.2)) ?_;intro w3 h1 h2;obtain ⟨n1,b2⟩:=Nq.new (q:=w2.heap.size) (x:=.mk xk xt xn xa xc) (Zgz N1.out.2 fun g h _=>⟨Nat.ne_of_lt h.2,h.2⟩) h1 h2;have M1:=hid (And.intro (N1.out.1.trans (b2.mono N1.out.1.size)) n1);have C3:Calls prog 21 #[.string t] w3 (ZcK true (ls t) w3):=ZfP (HL.out.on M1.out.1) (by omega);clear n1 b2 N1;clear h1 h2)
  | (go_at_call 21;refine C2.mono ?_;intro e w2 h;obtain ⟨b1,s2,rfl,k1⟩:=pv_use2 h HV.out;have HA:=hid (Nat.le_trans M0.out.size b1.size);have N1:=hid (And.intro (M0.out.trans (b1.mono M0.out.size)) k1);clear M0;clear h b1 k1 C2)
  | (go_at_call 10;refine C1.mono ?_;rintro e w1 ⟨rfl,h1⟩;have M0:=hid h1;have C2:Calls prog 21 #[.string s] w1 (ZcK true (ls s) w1):=ZfP (HL.out.on h1) (by omega);clear h1 C1))
 ·go_ret
  exact ⟨rfl,M3.out.1⟩
 iterate 4
  ·go_ret
   exact ⟨rfl,M4.out⟩
 have hst:=HE.out.2
 have hcost:wts zc≤18000000:=Zv3 (by rw [ZaR];have:=HU.out.2;omega) HV3.out
 have hlen:=ZfS zc
 have hl2:xc.length + yc.length=zc.length:=by have:=congrArg List.length hst;simp at this;omega
 have hsame:Ziv (S8.root (([]++xc)++yc)) (S8.root zc)=true:=sameN_strip _ _ (by rw [S8.root,S8.root,S8.strip,S8.strip,S8.Zfp,S8.Zfp,List.nil_append,hst])
 have hcost2:wts (([]++xc)++yc)≤18000000:=by rw [List.nil_append,wts_map _ _ hst.symm];exact hcost
 have HS:=hid (And.intro hsame (And.intro hcost (And.intro hcost2 (show xc.length + yc.length≤100000 by omega))))
 clear hst hcost hcost2 hsame hlen hl2
 have HD:=hid (And.intro M4.out.2.1.is.lt M4.out.2.2.1.is.lt)
 refine Zao (fun W=>W.cell? ⟨w2.heap.size,4,none⟩=some s2∧W.cell? ⟨w4.heap.size,4,none⟩=some s4) (fun j=>decide (j < 8)) [1,2,4,5] [0,3,6,7,8] (by kernel_rfl) (by kernel_rfl) (fun c a a' W hd hq=>⟨hd▸hq.1,hq.2⟩) ⟨M4.out.2.1.is.at_ 4,M4.out.2.2.1.is.at_ 4⟩ ?_
 refine fs (.pointer (some ⟨w2.heap.size,4,none⟩)) rfl ?_
 refine Zab s2 rfl (by rfl) (fun W hS=>by obtain ⟨k1,k2⟩:=hS;go_simp) ?_
 refine fs (.pointer (some ⟨w4.heap.size,4,none⟩)) rfl ?_
 refine Zab s4 rfl (by rfl) (fun W hS=>by obtain ⟨k1,k2⟩:=hS;go_simp) ?_
 refine Zap ?_
 have K2:Hid (Kid w8 (fun g=>g≠w2.heap.size∧g < w8.heap.size) (S8.root xc) s2):=hid M4.out.2.1.kid
 have K4:Hid (Kid w8 (fun g=>g≠w2.heap.size∧g < w8.heap.size) (S8.root yc) s4):=hid M4.out.2.2.1.kid
 have stay:∀(W:World) (x:Nd) (v:Value),Below w8.heap.size w8 W→Kid w8 (fun g=>g≠w2.heap.size∧g < w8.heap.size) x v→Kid W (fun g=>g≠w2.heap.size∧g < w8.heap.size) x v:=fun W x v k h=>Zb0 (fun _ h _=>h) (fun g hg _=>k.block g hg.2) _ _ h
 have keep:∀(W:World),Below w8.heap.size w8 W→W.cell? ⟨w2.heap.size,4,none⟩=some s2∧W.cell? ⟨w4.heap.size,4,none⟩=some s4:=fun W k=>⟨(k.cell HD.out.1).trans (M4.out.2.1.is.at_ 4),(k.cell HD.out.2).trans (M4.out.2.2.1.is.at_ 4)⟩
 have L0:Below w8.heap.size w8 w8.drew:=Zbz (Below.refl _ _) 1
 have L1:Below w8.heap.size w8 (w8.drew.alloc (.cells #[] 24)):=L0.alloc (Nat.le_refl _) _
 have LL:=hid L1
 have KE:=hid keep
 have ST:=hid stay
 clear keep stay L0 L1
 refine cs rfl fun K9 HK9=>?_
 go_wp2_with (refine build_none rfl rfl ?_)
 refine HK9.out _ _ (fun _=>KE.out _ LL.out) ?_
 have MN:Hid (Mine (w8.drew.alloc (.cells #[] 24)) w8.heap.size (fun g=>g≠w2.heap.size∧g < w8.heap.size) [] (.slice (some ⟨w8.heap.size,0,none⟩) 0 0)):=hid (Mine.none (Nat.le_refl _))
 generalize w8.drew.alloc (.cells #[] 24)=W1 at LL MN ⊢
 refine cs rfl fun K9 HK9=>?_
 go_simp
 refine push_old (B:=w8.heap.size) (Y:=fun g=>g≠w2.heap.size∧g < w8.heap.size) (c:=[]) (d:=xc) MN.out (fun g h=>h.2) (ST.out _ _ _ LL.out K2.out) (by have:=HS.out.2.2.2;simp;omega) LL.out.size rfl (.tmp 88) (.tmp 90) rfl rfl rfl ?_
 intro v1 W3 m1 b1
 have LL3:=hid (LL.out.trans b1)
 have MM:=hid m1
 clear m1 b1
 refine HK9.out _ _ (fun _=>KE.out _ LL3.out) ?_
 refine cs rfl fun K9 HK9=>?_
 go_simp
 refine push_old (B:=w8.heap.size) (Y:=fun g=>g≠w2.heap.size∧g < w8.heap.size) (c:=[]++xc) (d:=yc) MM.out (fun g h=>h.2) (ST.out _ _ _ LL3.out K4.out) (by have:=HS.out.2.2.2;simp;omega) LL3.out.size rfl (.tmp 91) (.tmp 93) rfl rfl rfl ?_
 intro v2 W4 m1 b1
 have LL4:=hid (LL3.out.trans b1)
 have MM4:=hid m1
 clear m1 b1 LL3 MM LL
 refine HK9.out _ _ (fun _=>KE.out _ LL4.out) ?_
 refine cs rfl fun K9 HK9=>?_
 go_wp2_with fail
 refine HK9.out _ _ (fun _=>KE.out _ LL4.out) ?_
 refine cs rfl fun K9 HK9=>?_
 go_simp
 refine Zc4 (M4.out.2.1.is.below LL4.out HD.out.1) (j:=4) (show (4:Nat) < 5 from by decide) rfl 22 (.tmp 95) (.tmp 94) rfl v2 rfl rfl inf22 MM4.out.one ?_
 intro W5 h1 h2
 have I5:Is W5 w2.heap.size 24 (nd5 1 [] 0 0 v2):=h1
 have I12:Is W5 w6.heap.size 24 (nd5 1 [] 0 0 s6):=(M4.out.2.2.2.is.below LL4.out M4.out.2.2.2.is.lt).kept h2 (fun e=>by injection e with e;have:=HB.out;omega)
 have B5:Below w.heap.size w W5:=ZbK (M4.out.1.trans (LL4.out.mono M4.out.1.size)) h2 HA.out (by have:=M4.out.1.size;have:=LL4.out.size;omega)
 have hsz:W4.heap.size≤W5.heap.size:=h2.size
 have Q5:Kid W5 (fun g=>g < W5.heap.size) (S8.root (([]++xc)++yc)) v2:=Zgz (kid_grown (MM4.out.kid (Y':=fun g=>g≠w2.heap.size) (fun g h _=>h.1) (fun g h _=>by have:=HD.out.1;omega)) h2 (fun h=>h rfl)) (fun g _ h=>h)
 have Q12:Kid W5 (fun g=>g < W5.heap.size) (S8.root zc) s6:=Zgz (kid_grown (ST.out _ _ _ LL4.out M4.out.2.2.2.kid) h2 (fun h=>h.1 rfl)) (fun g _ h=>h)
 have C7:=ZuW (S8.root (([]++xc)++yc)) (S8.root zc) W5.heap.size (.agg (nd5 1 [] 0 0 v2)) (.agg (nd5 1 [] 0 0 s6)) W5 (by have:=Zv1 HS.out.2.2.1;omega) (by have:=Zv1 HS.out.2.1;omega) ⟨v2,rfl,Q5⟩ ⟨s6,rfl,Q12⟩ (Nat.le_refl _)
 rw [HS.out.1] at C7
 have BB:=hid B5
 have d0:=I5.at_ 0
 have d1:=I5.at_ 1
 have d2:=I5.at_ 2
 have d3:=I5.at_ 3
 have d4:=I5.at_ 4
 have f0:=I12.at_ 0
 have f1:=I12.at_ 1
 have f2:=I12.at_ 2
 have f3:=I12.at_ 3
 have f4:=I12.at_ 4
 clear h1 h2 B5 hsz Q5 Q12
 refine HK9.out _ _ (fun h=>by cases h) ?_
 refine Zam ?_
 go_wp2_with (go_at_call 19;refine C7.mono ?_;rintro e w9 ⟨rfl,h9⟩;have M9:=hid (BB.out.trans (h9.mono BB.out.size));clear h9 C7)
 go_ret
 exact ⟨rfl,M9.out⟩
end Go.Proofs.YtaheffiglmglbaaGreatDoor
