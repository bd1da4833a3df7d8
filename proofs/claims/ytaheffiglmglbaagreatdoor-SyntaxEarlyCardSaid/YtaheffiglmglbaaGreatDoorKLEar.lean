import Derived.Test.YtaheffiglmglbaaGreatDoorKLTok
/- LEar. -/
set_option maxHeartbeats 8000000
set_option maxRecDepth 20000
namespace Go.Proofs.YtaheffiglmglbaaGreatDoor
open Go.Proofs.Tryz
open Go.RowKit L7
theorem early2 (s rest:Bs) {l:List (Tk × Nat)} (h1:scan s=.ok l) (h2:(S8.pv true s).2.1=2) {w:Bs} {i:Nat} (hi:i < l.length) (hw:L7.written dec (l[i]).1=some w) (hp:((s.length - (l[i]).2:Nat):Int)=(S8.pv true s).2.2) {lT:List (Tk × Nat)} (hT:scan (s.take (s.length - (l[i]).2)++(w++10::rest))=.ok lT) :
  (S8.pv true (s.take (s.length - (l[i]).2)++(w++10::rest))).2=(2,(S8.pv true s).2.2):=by
 cases hr:scan rest with
 | error e=>
  have:=(ZoH Zvd rest i l s h1 hi hw).2
  rw [hr,hT] at this
  cases this
 | ok m=>
  obtain ⟨m',h3,h4⟩:=S8.Zsi Zvd s rest h1 h2 i hi hw hp hr
  exact h4
theorem Zsj (s r:ByteArray) (w:World) (hl:Lies w):Calls prog 8 #[.string s,.string r] w fun e w'=>e=.returned (.bool true)∧Below w.heap.size w w':=by
 have HL:=hid hl
 have C1:=Zi6 w hl
 clear hl
 by_cases hs:s.size≤2000∧r.size≤1000
 case neg=>
  have:decide ((2000:Int) < (s.size:Int))=true∨(decide ((2000:Int) < (s.size:Int))=false∧decide ((1000:Int) < (r.size:Int))=true):=by
   simp only [decide_eq_true_eq,decide_eq_false_iff_not];omega
  clear hs
  rcases this with g1 | ⟨g1,g2⟩
  all_goals
   go_enter func8,ntmps8
   go_wp2_with (go_at_call 10;refine C1.mono ?_;rintro e w1 ⟨rfl,h1⟩;have M0:=hid h1;clear h1 C1)
   go_ret
   exact ⟨rfl,M0.out⟩
 obtain ⟨hs1,hs2⟩:=hs
 have g1:decide ((2000:Int) < (s.size:Int))=false:=by simp;omega
 have g2:decide ((1000:Int) < (r.size:Int))=false:=by simp;omega
 rcases hx:S8.pv true (ls s) with ⟨⟨xk,xt,xn,xa,xc⟩,e1,p1⟩
 have HV:=hid hx
 cases hsc:scan (ls s) with
 | error x=>
  obtain ⟨en,k⟩:=x
  have C2:=fun W h=>ZjZ (s:=s) (w:=W) hsc (by omega) h
  have n1:((en:Int) != 0)=true:=nz _ (by have:=S8.codes en k hsc;omega)
  clear hsc hx
  go_enter func8,ntmps8
  go_wp2_with (first
   | (have X:=N1;clear X;refine Zah (g:=w3.heap.size) (t:=24) (old:=z5) (by exact Is.fresh w3 24 _) rfl 24 _ _ rfl (nd5 xk xt xn xa s3) rfl rfl inf24 rfl (ZcN (Zbq N1.out.2)) ?_;intro w4 h1 h2;obtain ⟨n1,b2⟩:=Nv.new (x:=.mk xk xt xn xa xc) N1.out.2 h1 h2;have M2:=hid (N1.out.1.trans (b2.mono N1.out.1.size));clear n1 b2 N1;clear h1 h2)
   | (go_at_call 21;refine C4.mono ?_;intro e w3 h;obtain ⟨b1,s3,rfl,k1⟩:=Zeh h HV.out;have N1:=hid (And.intro (M1.out.trans (b1.mono M1.out.size)) k1);clear h b1 k1 C4)
   | (go_at_call 22;refine C3.mono ?_;rintro e w2 ⟨rfl,h1⟩;have M1:=hid (M0.out.trans (h1.mono M0.out.size));have C4:Calls prog 21 #[.string s] w2 (ZcK true (ls s) w2):=ZfP (HL.out.on M1.out) (by omega);clear h1 C3)
   | (go_at_call 10;refine C1.mono ?_;rintro e w1 ⟨rfl,h1⟩;have M0:=hid h1;have C3:=C2 w1 (HL.out.on h1);clear h1 C1 C2))
  go_ret
  exact ⟨rfl,M2.out⟩
 | ok l=>
  have hll:=S8.ZhD l _ hsc
  rw [ZaR] at hll
  have C2:=fun W h=>ZlV (s:=s) (w:=W) hsc (by omega) h
  by_cases he:e1=2
  case neg=>
   have n1:(e1 != 2)=true:=by simpa using he
   clear hsc hx he hll
   go_enter func8,ntmps8
   go_wp2_with (first
    | (have X:=N1;clear X;refine Zah (g:=w3.heap.size) (t:=24) (old:=z5) (by exact Is.fresh w3 24 _) rfl 24 _ _ rfl (nd5 xk xt xn xa s3) rfl rfl inf24 rfl (ZcN (Zbq N1.out.2)) ?_;intro w4 h1 h2;obtain ⟨n1,b2⟩:=Nv.new (x:=.mk xk xt xn xa xc) N1.out.2 h1 h2;have M2:=hid (N1.out.1.trans (b2.mono N1.out.1.size));clear n1 b2 N1;clear h1 h2)
    | (go_at_call 21;refine C4.mono ?_;intro e w3 h;obtain ⟨b1,s3,rfl,k1⟩:=Zeh h HV.out;have N1:=hid (And.intro (M1.out.trans (b1.mono M1.out.size)) k1);clear h b1 k1 C4)
    | (go_at_call 22;refine C3.mono ?_;rintro e w2 ⟨A,c,rfl,hT,hc,h1⟩;have M1:=hid (M0.out.trans (h1.mono M0.out.size));have T1:=hid (And.intro hT hc);have C4:Calls prog 21 #[.string s] w2 (ZcK true (ls s) w2):=ZfP (HL.out.on M1.out) (by omega);clear h1 C3 hT hc)
    | (go_at_call 10;refine C1.mono ?_;rintro e w1 ⟨rfl,h1⟩;have M0:=hid h1;have C3:=C2 w1 (HL.out.on h1);clear h1 C1 C2))
   go_ret
   exact ⟨rfl,M2.out⟩
  subst he
  have HS:=hid (And.intro hsc (And.intro hx (S8.Zgs hsc)))
  have hln:l.length≤2000:=by omega
  clear hsc hx hll
  go_enter func8,ntmps8
  go_wp2_with (first
   | (have X:=N1;clear X;refine Zah (g:=w3.heap.size) (t:=24) (old:=z5) (by exact Is.fresh w3 24 _) rfl 24 _ _ rfl (nd5 xk xt xn xa s3) rfl rfl inf24 rfl (ZcN (Zbq N1.out.2.1)) ?_;intro w4 h1 h2;obtain ⟨n1,b2⟩:=Nv.new (x:=.mk xk xt xn xa xc) N1.out.2.1 h1 h2;have M2:=hid (And.intro (N1.out.1.trans (b2.mono N1.out.1.size)) (And.intro ((N1.out.2.2.1.below (b2.mono N1.out.2.2.2.2))) (And.intro N1.out.2.2.2.1 (Nat.le_trans N1.out.2.2.2.2 b2.size))));clear n1 b2 N1;clear h1 h2)
   | (go_at_call 21;refine C4.mono ?_;intro e w3 h;obtain ⟨b1,s3,rfl,k1⟩:=Zeh h HV.out;have N1:=hid (And.intro (M1.out.trans (b1.mono M1.out.size)) (And.intro k1 (And.intro (T1.out.1.below b1) (And.intro T1.out.2 b1.size))));clear T1;clear h b1 k1 C4)
   | (go_at_call 22;refine C3.mono ?_;rintro e w2 ⟨A,c,rfl,hT,hc,h1⟩;have M1:=hid (M0.out.trans (h1.mono M0.out.size));have T1:=hid (And.intro hT hc);have C4:Calls prog 21 #[.string s] w2 (ZcK true (ls s) w2):=ZfP (HL.out.on M1.out) (by omega);clear h1 C3 hT hc)
   | (go_at_call 10;refine C1.mono ?_;rintro e w1 ⟨rfl,h1⟩;have M0:=hid h1;have C3:=C2 w1 (HL.out.on h1);clear h1 C1 C2))
  go_loopw [12] (fun vi wr=>∃(i:Nat),i≤l.length∧vi=.int .i64 i∧Hid (∀j (hj:j < l.length),j < i→((s.size - (l[j]).2:Nat):Int)≠p1)∧wr=w4) (fun vi _=>l.length - (intOf vi).toNat)
  case atStart=>exact ⟨0,Nat.zero_le _,rfl,hid (fun j hj h=>by omega),rfl⟩
  case round=>
   obtain ⟨i,hi,rfl,HA,rfl⟩:=hrel
   by_cases hlt:i < l.length
   ·have i1:decide ((i:Int) < (l.length:Int))=true:=by simp;omega
    have i2:decide (i < l.length)=true:=by simp;omega
    have i3:(0:Int)≤i∧(i:Int) < (l.length:Int):=by omega
    obtain ⟨⟨t,k⟩,hlk⟩:∃x,l[i]?=some x:=⟨_,List.getElem?_eq_getElem hlt⟩
    obtain ⟨a,rfl,ha,f0,f1,f2,f3⟩:=M2.out.2.1.at_ (ZrD (n:=s.size) hlk)
    simp only at f0 f1 f2 f3
    have hget:l[i]=(t,k):=by have:=List.getElem?_eq_getElem hlt;rw [hlk] at this;exact (Option.some.inj this).symm
    have HG:=hid (And.intro hlt (And.intro hget hlk))
    obtain ⟨q,hq⟩:∃q,q=s.size - k:=⟨_,rfl⟩
    rw [← hq] at f3
    by_cases hat:(q:Int)=p1
    ·obtain rfl:p1=(q:Int):=hat.symm
     have j1:((q:Int) != (q:Int))=false:=by simp
     obtain ⟨wd,hw,hwl⟩:=Zpt HS.out.1 hlt
     rw [hget] at hw
     have hks:=HS.out.2.2 (t,k) (List.mem_of_getElem? hlk)
     have htl:=S8.ZkM HS.out.1 (t,k) (List.mem_of_getElem? hlk)
     simp only [ZaR] at hks htl hwl
     have hqs:q < s.size:=by omega
     have HQ:=hid (And.intro hq (And.intro hw (And.intro hget hlk)))
     have i4:(0:Int)≤q∧(q:Int)≤(s.size:Int):=by omega
     have HE:Hid (ls (s.extract 0 q++mk wd++⟨#[10]⟩++r)=(ls s).take q++(wd++10::ls r)):=hid (by
      rw [ZhI,ZhI,ZhI,Zfb,Zbc,Zbc]
      simp [ls])
     have hsz:(s.extract 0 q).size=q:=by rw [ByteArray.size_extract];omega
     have hsw:(mk wd).size=wd.length:=rfl
     have s1:(s.extract 0 q).size≤2000:=by omega
     have s2:(mk wd).size≤4022:=by omega
     have s3:(s.extract 0 q++mk wd).size≤6022:=by rw [ByteArray.size_append];omega
     have s4:(s.extract 0 q++mk wd++⟨#[10]⟩).size≤6023:=by rw [ByteArray.size_append];show _ + 1≤6023;omega
     have s5:(s.extract 0 q++mk wd++⟨#[10]⟩++r).size≤7023:=by rw [ByteArray.size_append];omega
     have HSZ:=hid s5
     have hcl:(i:Int) + 1≤(c:Int):=by have:=M2.out.2.2.1;omega
     have hwr:IntKind.i64.wrap ((i:Int) + 1)=(i:Int) + 1:=IntWalk.i64_in _ ⟨by omega,by omega⟩
     have hz0:(0:Int)≤(i:Int) + 1:=by omega
     have hci:¬ c=i:=by omega
     have C5:=Zqz (w:=wr.drew) (c:=c - i) (M2.out.2.1.below (Zbz (Below.refl _ _) 1)) M2.out.2.2.2 (ZrD (n:=s.size) hlk) hw (by show t.t.length≤100000;omega) (HL.out.on (M2.out.1.trans (Zbz (Below.refl _ _) 1)))
     clear hat hq hlk hget hw hks htl hwl f0 f1 f2 hsz hsw
     go_wp2
     refine Zao (fun _=>True) (fun _=>true) [0,1,2,3,4,5,6,7,11] [8,9,10,12,13] (by kernel_rfl) (by kernel_rfl) (fun c a a' W hd hq=>⟨hd▸hq.1,hq.2⟩) trivial ?_
     refine fs (.string s) rfl ?_
     refine fs (.int .i64 q) rfl ?_
     refine fs (.string (s.extract 0 q)) rfl ?_
     refine fs (.slice (some a) l.length c) rfl ?_
     refine fs (.int .i64 i) rfl ?_
     refine fs (.int .i64 i) rfl ?_
     refine fs (.int .i64 (i + 1)) rfl ?_
     refine fs (.slice (some (a.add (i * 4))) 1 (c - i)) rfl ?_
     refine fs (.string r) rfl ?_
     refine Zap ?_
     refine cs rfl fun K9 HK9=>?_
     go_wp2_with (go_at_call 23;(with_reducible refine C5.mono ?_);rintro e w6 ⟨rfl,h3⟩;have M3:=hid (M2.out.1.trans ((show Below wr.heap.size wr w6 from (Zbz (Below.refl _ _) 1).trans h3).mono M2.out.1.size));clear h3 C5)
     refine HK9.out _ _ (fun _=>trivial) ?_
     refine cs rfl fun K9 HK9=>?_
     go_wp2_with fail
     refine HK9.out _ _ (fun _=>trivial) ?_
     refine cs rfl fun K9 HK9=>?_
     go_wp2_with fail
     refine HK9.out _ _ (fun _=>trivial) ?_
     refine cs rfl fun K9 HK9=>?_
     go_wp2_with fail
     refine HK9.out _ _ (fun _=>trivial) ?_
     refine cs rfl fun K9 HK9=>?_
     go_wp2_with fail
     refine HK9.out _ _ (fun _=>trivial) ?_
     refine Zam ?_
     clear hwr hz0 hci
     have hT0:=HE.out
     generalize s.extract 0 q++mk wd++⟨#[10]⟩++r=T at HE HSZ s5 hT0 ⊢
     cases hT:scan (ls T) with
     | error x=>
      obtain ⟨en,kk⟩:=x
      have C6:=ZjZ (s:=T) (w:=w6) hT (by have:=HSZ.out;omega) (HL.out.on M3.out)
      have n1:((en:Int) != 0)=true:=nz _ (by have:=S8.codes en kk hT;omega)
      rcases hy:S8.pv true (ls T) with ⟨⟨yk,yt,yn,ya,yc⟩,e2,p2⟩
      have HY:=hid hy
      clear hy hT hT0
      go_wp2_with (first
       | (have X:=N5;clear X;refine Zah (g:=w8.heap.size) (t:=24) (old:=z5) (by exact Is.fresh w8 24 _) rfl 24 _ _ rfl (nd5 yk yt yn ya s8) rfl rfl inf24 rfl (ZcN (Zbq N5.out.2)) ?_;intro w9 h1 h2;obtain ⟨n1,b2⟩:=Nv.new (x:=.mk yk yt yn ya yc) N5.out.2 h1 h2;have M6:=hid (N5.out.1.trans (b2.mono N5.out.1.size));clear n1 b2 N5;clear h1 h2)
       | (go_at_call 21;refine C7.mono ?_;intro e w8 h;obtain ⟨b1,s8,rfl,k1⟩:=Zeh h HY.out;have N5:=hid (And.intro (M4.out.trans (b1.mono M4.out.size)) k1);clear h b1 k1 C7)
       | (go_at_call 22;refine C6.mono ?_;rintro e w7 ⟨rfl,h1⟩;have M4:=hid (M3.out.trans (h1.mono M3.out.size));have C7:Calls prog 21 #[.string T] w7 (ZcK true (ls T) w7):=ZfP (HL.out.on M4.out) (by have:=HSZ.out;omega);clear h1 C6))
      go_ret
      exact ⟨rfl,M6.out⟩
     | ok lT=>
      have C6:=ZlV (s:=T) (w:=w6) hT (by have:=HSZ.out;omega) (HL.out.on M3.out)
      have hy2:=early2 (ls s) (ls r) HS.out.1 (by rw [HV.out]) hlt (by rw [HQ.out.2.2.1];exact HQ.out.2.1) (by rw [HQ.out.2.2.1,HV.out,HQ.out.1];rfl) (lT:=lT) (by rw [HQ.out.2.2.1,ZaR];simp only;rw [← HQ.out.1,← hT0];exact hT)
      rw [HQ.out.2.2.1,ZaR] at hy2
      simp only at hy2
      rw [← HQ.out.1,← hT0,HV.out] at hy2
      rcases hy:S8.pv true (ls T) with ⟨⟨yk,yt,yn,ya,yc⟩,e2,p2⟩
      rw [hy] at hy2
      cases hy2
      have HY:=hid hy
      clear hy hT hT0
      go_wp2_with (first
       | (have X:=N5;clear X;refine Zah (g:=w8.heap.size) (t:=24) (old:=z5) (by exact Is.fresh w8 24 _) rfl 24 _ _ rfl (nd5 yk yt yn ya s8) rfl rfl inf24 rfl (ZcN (Zbq N5.out.2)) ?_;intro w9 h1 h2;obtain ⟨n1,b2⟩:=Nv.new (x:=.mk yk yt yn ya yc) N5.out.2 h1 h2;have M6:=hid (N5.out.1.trans (b2.mono N5.out.1.size));clear n1 b2 N5;clear h1 h2)
       | (go_at_call 21;refine C7.mono ?_;intro e w8 h;obtain ⟨b1,s8,rfl,k1⟩:=Zeh h HY.out;have N5:=hid (And.intro (M4.out.trans (b1.mono M4.out.size)) k1);clear h b1 k1 C7)
       | (go_at_call 22;refine C6.mono ?_;rintro e w7 ⟨A7,c7,rfl,-,-,h1⟩;have M4:=hid (M3.out.trans (h1.mono M3.out.size));have C7:Calls prog 21 #[.string T] w7 (ZcK true (ls T) w7):=ZfP (HL.out.on M4.out) (by have:=HSZ.out;omega);clear h1 C6))
      go_ret
      exact ⟨rfl,M6.out⟩
    ·have j1:((q:Int) != p1)=true:=by simpa using hat
     have HN:=hid (And.intro hq hat)
     clear hat hq hlk hget
     go_wp2_with fail
     go_roundw
     case rel=>exact ⟨i + 1,by have:=HG.out.1;omega,by go_num,hid (fun j hj hji=>by
      by_cases hlast:j=i
      ·subst hlast;rw [HG.out.2.1];have:=HN.out.2;rw [HN.out.1] at this;exact this
      ·exact HA.out j hj (by omega)),by first | trivial | rfl⟩
     case measure=>have:=HG.out.1;simp [intOf];omega
   ·have i1:decide ((i:Int) < (l.length:Int))=false:=by simp;omega
    have i2:decide (i < l.length)=false:=by simp;omega
    have hpl:p1=(s.size:Int):=by
     have hb:=S8.Zqp (ls s) (ls s) HS.out.1 HS.out.1 rfl
     rw [HV.out] at hb
     exact (hb.2.2 (by simp)).2 (fun j hj=>HA.out j hj (by omega)) |>.1
    subst hpl
    clear hlt
    go_wp2_with fail
    go_ret
    exact ⟨rfl,M2.out.1⟩
end Go.Proofs.YtaheffiglmglbaaGreatDoor
