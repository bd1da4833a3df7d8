import Derived.Test.YtaheffiglmglbaaGreatDoorKBXf
import Derived.Test.YtaheffiglmglbaaGreatDoorKBApp
import Derived.Test.YtaheffiglmglbaaGreatDoorKBBlaM
/- LBla. -/
set_option maxHeartbeats 8000000
set_option maxRecDepth 20000
namespace Go.Proofs.YtaheffiglmglbaaGreatDoor
open Go.Proofs.Tryz
open Go.RowKit L7
def intsP (g:Bs) (xs:List Bs) (n:Nat):List Value:=(List.range n).map fun j=>.int .i64 ((partG g xs j).length:Nat)
theorem intsP_next (g:Bs) (xs:List Bs) (n:Nat):intsP g xs (n + 1)=intsP g xs n++[.int .i64 ((partG g xs n).length:Nat)]:=by simp [intsP,List.range_succ]
theorem intsP_at {g:Bs} {xs:List Bs} {n i:Nat} (h:i < n):(intsP g xs n)[i]?=some (.int .i64 ((partG g xs i).length:Nat)):=by simp [intsP,h]
theorem info3p:(prog.info? 3).map (fun i=>(i.zero,i.size,i.bytes))=some (some (.int .i64 0),1,8):=by kernel_rfl
theorem and3 (b:Int):∃q:Nat,q < 4∧bits .and .i64 b 3=(q:Int):=by
 have h:(BitVec.ofInt 64 b &&& BitVec.ofInt 64 3).toNat < 4:=by
  rw [BitVec.toNat_and]
  exact Nat.lt_of_le_of_lt Nat.and_le_right (by decide)
 have e:IntKind.i64.wrap ((BitVec.ofInt 64 b &&& BitVec.ofInt 64 3).toNat:Int)=((BitVec.ofInt 64 b &&& BitVec.ofInt 64 3).toNat:Int):=IntWalk.i64_in _ ⟨by omega,by omega⟩
 exact ⟨_,h,e⟩
theorem gap_of (b:Int):∃(q:Nat) (g:ByteArray),q < 4∧bits .and .i64 b 3=(q:Int)∧Gap (ls g)∧g.size≤10∧∀W:World,(W.alloc (.cells #[.string ⟨#[32]⟩,.string ⟨#[9,13,10]⟩,.string ⟨#[32,47,47,32,123,32,41,32,34,10]⟩,.string ⟨#[10,10]⟩] 9)).cell? ⟨W.heap.size,q,none⟩=some (.string g):=by
 obtain ⟨q,h,hq⟩:=and3 b
 have:q=0∨q=1∨q=2∨q=3:=by omega
 rcases this with rfl | rfl | rfl | rfl
 ·exact ⟨_,⟨#[32]⟩,h,hq,gap_sp,by decide,fun W=>(Is.fresh W 9 _).at_ 0⟩
 ·exact ⟨_,⟨#[9,13,10]⟩,h,hq,gap_tab,by decide,fun W=>(Is.fresh W 9 _).at_ 1⟩
 ·exact ⟨_,⟨#[32,47,47,32,123,32,41,32,34,10]⟩,h,hq,gap_note,by decide,fun W=>(Is.fresh W 9 _).at_ 2⟩
 ·exact ⟨_,⟨#[10,10]⟩,h,hq,gap_lf,by decide,fun W=>(Is.fresh W 9 _).at_ 3⟩
theorem pv_wt {p:Bool} {s:Bs} (hW:∀l c r,scan s=.ok l→S8.File p s.length (offs s.length l) (.ok c r)→wts c≤18000000):wt (S8.pv p s).1≤19000000:=by
 by_cases h0:(S8.pv p s).2.1=0
 ·obtain ⟨l,c,h1,h2,-,h4,-⟩:=S8.ZoN h0 S8.codes
  rw [h4]
  have:=Zv1 (hW l c [] h1 h2)
  show wt (S8.root c)≤_
  omega
 ·rw [S8.Zv2 h0,S8.Zfm,S8.Zg3,Zbw];simp
theorem blanks_any (s:ByteArray) (b:Int) (w:World) (hl:Lies w):Calls prog 5 #[.string s,.int .i64 b] w fun e w'=>e=.returned (.bool true)∧Below w.heap.size w w':=by
 have HL:=hid hl
 have C1:=Zi6 w hl
 clear hl
 by_cases hs:s.size≤2000
 case neg=>
  have g1:decide ((2000:Int) < (s.size:Int))=true:=by simp;omega
  clear hs
  go_enter func5,ntmps5
  go_wp2_with (go_at_call 10;refine C1.mono ?_;rintro e w1 ⟨rfl,h1⟩;have M0:=hid h1;clear h1 C1)
  go_ret
  exact ⟨rfl,M0.out⟩
 have g1:decide ((2000:Int) < (s.size:Int))=false:=by simp;omega
 obtain ⟨q,g,hq4,hq,hg,hgl,hcell⟩:=gap_of b
 have HC:=hid hcell
 have q1:(0:Int)≤(q:Int)∧(q:Int) < 4:=by omega
 clear hcell
 cases hsc:scan (ls s) with
 | error x=>
  obtain ⟨en,k⟩:=x
  have C2:=fun W h=>ZjZ (s:=s) (w:=W) hsc (by omega) h
  have n1:((en:Int) != 0)=true:=nz _ (by have:=S8.codes en k hsc;omega)
  clear hsc
  go_enter func5,ntmps5
  go_wp2_with (first
   | (go_at_call 22;refine (C2 _ (HL.out.on M0.out)).mono ?_;rintro e w2 ⟨rfl,h1⟩;have M1:=hid (M0.out.trans (h1.mono M0.out.size));clear h1 C2 d0)
   | (go_at_call 10;refine C1.mono ?_;rintro e w1 ⟨rfl,h1⟩;have d0:=HC.out w1;have M0:=hid (h1.alloc h1.size (.cells #[.string ⟨#[32]⟩,.string ⟨#[9,13,10]⟩,.string ⟨#[32,47,47,32,123,32,41,32,34,10]⟩,.string ⟨#[10,10]⟩] 9));clear h1 C1))
  go_ret
  exact ⟨rfl,M1.out⟩
 | ok l=>
  have hll:=(S8.ZhD l _ hsc).1
  rw [ZaR] at hll
  have C2:=fun W h=>ZlV (s:=s) (w:=W) hsc (by omega) h
  obtain ⟨xs,hf⟩:=S8.forms_all (L:=l.map Prod.fst) (fun t ht=>by obtain ⟨u,hu,rfl⟩:=List.mem_map.1 ht;exact S8.ZkN hsc u hu)
  have hlen:xs.length=l.length:=by rw [(forms_at hf).1,List.length_map]
  have hmax:∀x∈xs,x.length≤4022:=fun x hx=>by
   obtain ⟨i,hi,rfl⟩:=List.mem_iff_getElem.1 hx
   have hi2:i < l.length:=by omega
   obtain ⟨y,h1,h2⟩:=(forms_at hf).2 i (l[i]).1 (by rw [List.getElem?_map,List.getElem?_eq_getElem hi2];rfl)
   obtain ⟨z,h3,h4⟩:=Zpt hsc hi2
   rw [h2] at h3
   rw [List.getElem?_eq_getElem hi] at h1
   cases h1;cases h3
   rw [ZaR] at h4;omega
  have hbig:∀i,(partG (ls g) xs i).length≤10000000:=fun i=>by
   have h1:=partG_le (g:=ls g) (i:=i) hmax
   have h2:(ls g).length≤10:=by rw [ZaR];exact hgl
   have h3:xs.length * (4022 + (ls g).length)≤2000 * 4032:=Nat.mul_le_mul (by omega) (by omega)
   omega
  have hbl:=S8.Zqp (ls s) (ls s) hsc hsc rfl
  have hgp:=gap_law hg hsc hf
  have hgc:=gap_cost hg hsc hf (by rw [ZaR];omega)
  have hw1:wt (S8.pv true (ls s)).1≤19000000:=pv_wt (S8.Zh3 (by rw [ZaR];omega))
  have hw2:=pv_wt hgc
  have HS:=hid (And.intro hsc (And.intro hf (And.intro hbig hgc)))
  rcases hx:S8.pv true (ls s) with ⟨⟨xk,xt,xn,xa,xc⟩,e1,p1⟩
  rcases hy:S8.pv true (partG (ls g) xs l.length) with ⟨⟨yk,yt,yn,ya,yc⟩,e2,p2⟩
  rw [hx,hy] at hgp
  rw [hx] at hw1
  rw [hy] at hw2
  obtain ⟨he,hst,hpp⟩:=hgp
  simp only at he hst hpp hw1 hw2
  subst he
  rw [hx] at hbl
  have HP:=hid hpp
  have HV:=hid hx
  have HY:=hid hy
  have HW:=hid (And.intro hw1 (And.intro hw2 (sameN_strip _ _ hst)))
  obtain ⟨i0,hi0,hz0,hz1,hz2⟩:=info_parts info3p
  have HI:=hid hi0
  have HZ0:=hid hz0
  have HZ1:=hid hz1
  have HZ2:=hid hz2
  have m1:(e1 != e1)=false:=by simp
  have n0:((0:Int) != 0)=false:=rfl
  have htx:=S8.ZkM hsc
  have HTX:=hid htx
  clear hsc hf hmax hbig hgc hw1 hw2 hpp hst hx hy hbl hi0 hz0 hz1 hz2 htx
  go_enter func5,ntmps5
  go_wp2_with (first
   | (go_at_call 22;refine (C2 _ (HL.out.on M0.out)).mono ?_;rintro e w2 ⟨A,c,rfl,hT,hc,h1⟩;have M1:=hid (M0.out.trans (h1.mono M0.out.size));have T1:=hid (And.intro hT hc);clear h1 C2 d0 hT hc M0)
   | (go_at_call 10;refine C1.mono ?_;rintro e w1 ⟨rfl,h1⟩;have d0:=HC.out w1;have M0:=hid (h1.alloc h1.size (.cells #[.string ⟨#[32]⟩,.string ⟨#[9,13,10]⟩,.string ⟨#[32,47,47,32,123,32,41,32,34,10]⟩,.string ⟨#[10,10]⟩] 9));clear h1 C1))
  go_loopw [11,12,13] (fun v11 v12 v13 wr=>∃(i:Nat) (x:ByteArray),i≤l.length∧v11=.string x∧v13=.int .i64 i∧Hid (ls x=partG (ls g) xs i)∧Hid (wr.ownsRow w2.heap.size 3 1 v12 i (intsP (ls g) xs i))∧Hid (Below w2.heap.size w2 wr)) (fun _ _ v13 _=>l.length - (intOf v13).toNat)
  case atStart=>exact ⟨0,g,Nat.zero_le _,rfl,rfl,hid (List.append_nil _).symm,hid (World.ownsRow_nil _ _ _ _),hid (Below.refl _ _)⟩
  case round=>
   obtain ⟨i,x,hi,rfl,rfl,HX,HO,HB⟩:=hrel
   have s0:x.size≤10000000:=by rw [← ZaR,HX.out];exact HS.out.2.2.1 i
   have hbs:=HB.out.size
   by_cases hlt:i < l.length
   ·have i1:decide ((i:Int) < (l.length:Int))=true:=by simp;omega
    have i2:decide (i < l.length)=true:=by simp;omega
    have i3:(0:Int)≤i∧(i:Int) < (l.length:Int):=by omega
    obtain ⟨⟨tk,k⟩,hlk⟩:∃y,l[i]?=some y:=⟨_,List.getElem?_eq_getElem hlt⟩
    obtain ⟨xi,hxi,hwi⟩:=(forms_at HS.out.2.1).2 i tk (by rw [List.getElem?_map,hlk];rfl)
    obtain ⟨a,rfl,-,-⟩:=T1.out.1.at_ (ZrD (n:=s.size) hlk)
    have htl:=HTX.out (tk,k) (List.mem_of_getElem? hlk)
    rw [ZaR] at htl
    have htl:tk.t.length≤2000:=Nat.le_trans htl hs
    have hwl:=ZjK hwi
    have s2:(mk xi).size≤4022:=by show xi.length≤_;omega
    have s3:(x++mk xi).size≤10004022:=by rw [ByteArray.size_append];omega
    have hcl:(i:Int) + 1≤(c:Int):=by have:=T1.out.2;omega
    have hwr:IntKind.i64.wrap ((i:Int) + 1)=(i:Int) + 1:=IntWalk.i64_in _ ⟨by omega,by omega⟩
    have hz0:(0:Int)≤(i:Int) + 1:=by omega
    have hci:¬ c=i:=by omega
    have HBo:=hid (HO.out.alloc (.cells #[.int .i64 (x.size:Nat)] 3))
    have HN:=hid (World.news_of_block (cs:=#[.int .i64 (x.size:Nat)]) (t:=3) (fr:=(0,0)) (heap_alloc_new wr _))
    have HT:=hid (And.intro hlk (And.intro hxi (And.intro hwi htl)))
    clear hlk hxi hwi htl hwl
    go_wp2_with (at_builtin;refine wpList_append_own _ rfl (.tmp 48) (.tmp 51) 39 rfl w2.heap.size 3 i0 _ 1 8 underlying39 HI.out HZ0.out HZ1.out HZ2.out rfl (by decide) u12 i (intsP (ls g) xs i) rfl HBo.out ⟨wr.heap.size,0,none⟩ 1 1 [.int .i64 (x.size:Nat)] rfl rfl HN.out ?c1 ?c3 ?c4 ?c5 ?_)
    case c1=>first | rfl | (intro u hu;simp at hu;subst hu;rfl)
    case c3=>simp only [maxLen];omega
    case c4=>omega
    case c5=>first | omega | (simp;omega)
    intro v4 w4 hown4 hgr4 _
    have B4:=hid ((HB.out.alloc hbs (.cells #[.int .i64 (x.size:Nat)] 3)).grown hgr4 (by simp;omega) (fun j hj=>(HO.out.lt j hj).1))
    have O4:=hid hown4
    have C5:=Zqz (w:=w4) (c:=c - i) (T1.out.1.below B4.out) B4.out.size (ZrD (n:=s.size) HT.out.1) HT.out.2.2.1 (by have:=HT.out.2.2.2;show tk.t.length≤100000;omega) (HL.out.on (M1.out.trans (B4.out.mono M1.out.size)))
    clear hown4 hgr4 HBo HN
    go_wp2_with (go_at_call 23;(with_reducible refine C5.mono ?_);rintro e w6 ⟨rfl,h3⟩;have B6:=hid (B4.out.trans (h3.mono B4.out.size));have O6:=hid (ZeS O4.out h3);clear h3 C5)
    go_roundw
    case rel=>exact ⟨i + 1,_,by omega,rfl,by go_num,hid (by rw [partG_next HT.out.2.1,← HX.out,ZhI,ZhI,Zbc]),hid (by have:=O6.out;rw [intsP_next,← HX.out,ZaR];exact this),B6⟩
    case measure=>simp [intOf];omega
   ·have i1:decide ((i:Int) < (l.length:Int))=false:=by simp;omega
    have i2:decide (i < l.length)=false:=by simp;omega
    have hil:i=l.length:=by omega
    have HX:Hid (ls x=partG (ls g) xs l.length):=hid (by rw [← hil];exact HX.out)
    have HO:Hid (wr.ownsRow w2.heap.size 3 1 u12 l.length (intsP (ls g) xs l.length)):=hid (by rw [← hil];exact HO.out)
    clear hil
    have hT:=HX.out
    by_cases h32:x.size≤32768
    case neg=>
     have j1:decide ((32768:Int) < (x.size:Int))=true:=by simp;omega
     have j2:decide (32768 < x.size)=true:=by simp;omega
     clear hlt h32
     go_wp2_with fail
     go_ret
     exact ⟨rfl,M1.out.trans (HB.out.mono M1.out.size)⟩
    have j1:decide ((32768:Int) < (x.size:Int))=false:=by simp;omega
    have j2:decide (32768 < x.size)=false:=by simp;omega
    have B0:=hid (M1.out.trans (HB.out.mono M1.out.size))
    have HX2:=hid h32
    have C6:Calls prog 21 #[.string s] wr (ZcK true (ls s) wr):=ZfP (HL.out.on B0.out) (by omega)
    have hlx:(partG (ls g) xs l.length).length=x.size:=by rw [← hT,ZaR]
    have C7:Hid (∀W,Lies W→Calls prog 21 #[.string x] W (ZcK true (partG (ls g) xs l.length) W)):=hid (fun W hW=>by
     have:=Zrk (s:=x) (w:=W) true 21 rfl hW h32 (by rw [hT,← hlx];exact HS.out.2.2.2)
     rw [hT] at this
     exact this)
    have HLX:=hid hlx
    have HE:Hid ((e1 == 0)=true∨(e1 == 0)=false):=hid (by cases e1 == 0 <;> simp)
    clear hT hlt h32 hlx
    go_wp2_with (first
     | (go_at_call 19;refine C9.mono ?_;rintro e w9 ⟨rfl,h9⟩;have M5:=hid (And.intro (M4.out.1.trans (h9.mono M4.out.1.size)) (ZeS M4.out.2.1 h9));clear h9 C9 M4 d0 d1 d2 d3 d4 f0 f1 f2 f3 f4;rcases HE.out with n3 | n3)
     | (have X:=N3;clear X;refine Zah (g:=w5.heap.size) (t:=24) (old:=z5) (by exact Is.fresh w5 24 _) rfl 24 _ _ rfl (nd5 yk yt yn ya s5) rfl rfl inf24 rfl (ZcN (Zbq N3.out.2.2.2)) ?_;intro w6 h1 h2;obtain ⟨n1,b2⟩:=Nv.new (x:=.mk yk yt yn ya yc) N3.out.2.2.2 h1 h2;have k1:=N3.out.2.1.below b2;have M4:=hid (And.intro (N3.out.1.trans (b2.mono N3.out.1.size)) (And.intro (ZeS N3.out.2.2.1 b2) (And.intro k1 n1)));have C9:=ZuW (.mk xk xt xn xa xc) (.mk yk yt yn ya yc) w6.heap.size _ _ w6 (by have:=HW.out.1;omega) (by have:=HW.out.2.1;omega) k1.at_ n1.at_ (Nat.le_refl _);rw [HW.out.2.2] at C9;have d0:=k1.is.at_ 0;have d1:=k1.is.at_ 1;have d2:=k1.is.at_ 2;have d3:=k1.is.at_ 3;have d4:=k1.is.at_ 4;have f0:=n1.is.at_ 0;have f1:=n1.is.at_ 1;have f2:=n1.is.at_ 2;have f3:=n1.is.at_ 3;have f4:=n1.is.at_ 4;clear n1 b2 k1 N3;clear h1 h2)
     | (go_at_call 21;have C8:=C7.out w4 (HL.out.on (B0.out.trans (M2.out.1.mono B0.out.size)));refine C8.mono ?_;intro e w5 h;obtain ⟨b1,s5,rfl,k1⟩:=Zeh h HY.out;have N3:=hid (And.intro (M2.out.1.trans (b1.mono M2.out.1.size)) (And.intro (M2.out.2.2.below b1) (And.intro (ZeS M2.out.2.1 b1) k1)));clear M2;clear h b1 k1 C7 C8)
     | (have X:=N1;clear X;refine Zah (g:=w3.heap.size) (t:=24) (old:=z5) (by exact Is.fresh w3 24 _) rfl 24 _ _ rfl (nd5 xk xt xn xa s3) rfl rfl inf24 rfl (ZcN (Zbq N1.out.2.2)) ?_;intro w4 h1 h2;obtain ⟨n1,b2⟩:=Nv.new (x:=.mk xk xt xn xa xc) N1.out.2.2 h1 h2;have M2:=hid (And.intro (N1.out.1.trans (b2.mono N1.out.1.size)) (And.intro (ZeS N1.out.2.1 b2) n1));clear n1 b2 N1;clear h1 h2)
     | (go_at_call 21;refine C6.mono ?_;intro e w3 h;obtain ⟨b1,s3,rfl,k1⟩:=Zeh h HV.out;have N1:=hid (And.intro b1 (And.intro (ZeS HO.out b1) k1));clear h b1 k1 C6))
    ·go_ret
     exact ⟨rfl,B0.out.trans (M5.out.1.mono B0.out.size)⟩
    have BB:=hid (HB.out.trans (M5.out.1.mono HB.out.size))
    have BW:=hid (B0.out.trans (M5.out.1.mono B0.out.size))
    have TT:=hid (T1.out.1.below BB.out)
    have HP':=hid (HP.out (by intro h;subst h;cases n3))
    go_loopw [20] (fun vi wr'=>∃(i:Nat),i≤l.length∧vi=.int .i64 i∧Hid (∀j (hj:j < l.length),j < i→((s.size - (l[j]).2:Nat):Int)≠p1)∧wr'=w9) (fun vi _=>l.length - (intOf vi).toNat)
    case atStart=>exact ⟨0,Nat.zero_le _,rfl,hid (fun j hj h=>by omega),rfl⟩
    case round=>
     obtain ⟨i,hi,rfl,HA,rfl⟩:=hrel
     by_cases hlt:i < l.length
     ·have i1:decide ((i:Int) < (l.length:Int))=true:=by simp;omega
      have i2:decide (i < l.length)=true:=by simp;omega
      have i3:(0:Int)≤i∧(i:Int) < (l.length:Int):=by omega
      obtain ⟨⟨t,k⟩,hlk⟩:∃y,l[i]?=some y:=⟨_,List.getElem?_eq_getElem hlt⟩
      have hget:l[i]=(t,k):=by have:=List.getElem?_eq_getElem hlt;rw [hlk] at this;exact (Option.some.inj this).symm
      obtain ⟨a,rfl,-,-,-,-,f3⟩:=TT.out.at_ (ZrD (n:=s.size) hlk)
      simp only at f3
      obtain ⟨q2,hq2⟩:∃q,q=s.size - k:=⟨_,rfl⟩
      rw [← hq2] at f3
      have HG:=hid (And.intro hlt (And.intro hget hq2))
      by_cases hat:(q2:Int)=p1
      ·obtain rfl:p1=(q2:Int):=hat.symm
       have k1:((q2:Int) == (q2:Int))=true:=by simp
       have hp2:=HP'.out.1 i hlt (by rw [hget,ZaR];simp only;rw [← hq2])
       obtain ⟨gb,cap,rfl,-⟩:=M5.out.2.form (by omega)
       have dd:=M5.out.2.cells rfl i _ (intsP_at hlt)
       rw [← hp2,show (⟨gb,0,none⟩:Addr).add i=⟨gb,i,none⟩ by simp [Addr.add];omega] at dd
       have k2:(p2 == p2)=true:=by simp
       clear hat hlk hget hq2 hp2
       go_wp2_with fail
       go_ret
       exact ⟨rfl,BW.out⟩
      ·have k1:((q2:Int) == p1)=false:=by simpa using hat
       have HN:=hid hat
       clear hat hlk hget hq2
       go_wp2_with fail
       go_roundw
       case rel=>exact ⟨i + 1,by omega,by go_num,hid (fun j hj hji=>by
        by_cases hlast:j=i
        ·subst hlast;rw [HG.out.2.1];have:=HN.out;rw [HG.out.2.2] at this;exact this
        ·exact HA.out j hj (by omega)),by first | trivial | rfl⟩
       case measure=>have:=HG.out.1;simp [intOf];omega
     ·have i1:decide ((i:Int) < (l.length:Int))=false:=by simp;omega
      have i2:decide (i < l.length)=false:=by simp;omega
      have hpl:=HP'.out.2 (fun j hj=>by rw [ZaR];exact HA.out j hj (by omega))
      rw [ZaR,HLX.out] at hpl
      obtain ⟨rfl,rfl⟩:=hpl
      have k1:((s.size:Int) == (s.size:Int))=true:=by simp
      have k2:((x.size:Int) == (x.size:Int))=true:=by simp
      clear hlt
      go_wp2_with fail
      go_ret
      exact ⟨rfl,BW.out⟩
end Go.Proofs.YtaheffiglmglbaaGreatDoor
