import Derived.Test.YtaheffiglmglbaaGreatDoorKLPat
import Derived.Test.YtaheffiglmglbaaGreatDoorKXb
/- LDeep. -/
set_option maxHeartbeats 8000000
set_option maxRecDepth 20000
namespace Go.Proofs.YtaheffiglmglbaaGreatDoor
open Go.Proofs.Tryz
open Go.RowKit L7
def hdr:Bs:=[102,117,110,32,102,40,41,58,32,105,110,116,32,61,32]
theorem Znq (k:Nat) (b:UInt8):List.replicate k b++[b]=List.replicate (k + 1) b:=by rw [List.replicate_succ']
theorem ZoX (n b:Int) (hn : -9223372036854775808≤n∧n≤9223372036854775807):∀cs,rgd (S8.nest n b cs)=true∧wt (S8.nest n b cs)≤2000 + 2000 * cs.length
 | []=>by
  rw [S8.nest,rgd,rgds,S8.Zg3,Zbw]
  simp [hn.1,hn.2];decide
 | c::cs=>by
  have h:=ZoX n b hn cs
  rw [S8.nest,rgd,rgds,rgds,h.1,S8.Zg3,Zbr,Zbw]
  refine ⟨?_,?_⟩
  ·simp <;> decide
  ·simp
   omega
theorem Zxy {p:Bool} {x:Nd} (h:S8.ZhJ p x=true):S8.ZhJ true x=true:=by
 cases p with
 | true=>exact h
 | false=>
  have h:S8.ZdV x=true:=h
  show (S8.ZdV x || _)=true
  rw [h];rfl
theorem ZtC {p:Bool} {s:Bs} {c:List Nd} {a:Int} (h:S8.pv p s=(S8.root c,0,a)):S8.writO (S8.root c)=some (c.map S8.raw).flatten∧∀x∈c,S8.ZhJ true x=true∧S8.wf x=true:=by
 obtain ⟨l,c',h1,h2,h3,h4,h5⟩:=S8.ZoN (by rw [h]) S8.codes
 rw [h] at h4
 have:c=c':=by injection h4 with h4 _;injection h4
 subst this
 have hv:∀x∈c,S8.ZhJ true x=true∧S8.wf x=true:=fun x hx=>⟨Zxy (h5 x hx).1,(h5 x hx).2⟩
 have hd:=(S8.ZfB 40 (S8.root c) 0).1 (by rw [S8.Zeg,h3])
 refine ⟨?_,hv⟩
 rw [S8.Zht,if_pos ⟨rfl,rfl,rfl,by omega,hv⟩];rfl
theorem Zuy (a b:Int) (w:World) (hl:Lies w):Calls prog 9 #[.int .i64 a,.int .i64 b] w fun e w'=>e=.returned (.bool true)∧Below w.heap.size w w':=by
 have HL:=hid hl
 have C1:=Zi6 w hl
 clear hl
 by_cases hr:0≤a∧a≤100∧0≤b∧b≤100
 case neg=>
  have HR:=hid hr
  clear hr
  have:decide (a < 0)=true∨(decide (a < 0)=false∧(decide ((100:Int) < a)=true∨(decide ((100:Int) < a)=false∧(decide (b < 0)=true∨(decide (b < 0)=false∧decide ((100:Int) < b)=true))))):=by
   have:=HR.out;simp only [decide_eq_true_eq,decide_eq_false_iff_not];omega
  rcases this with g1 | ⟨g1,g2 | ⟨g2,g3 | ⟨g3,g4⟩⟩⟩
  all_goals
   go_enter func9,ntmps9
   go_wp2_with (go_at_call 10;refine C1.mono ?_;rintro e w1 ⟨rfl,h1⟩;have M0:=hid h1;clear h1 C1)
   go_ret
   exact ⟨rfl,M0.out⟩
 obtain ⟨hr1,hr2,hr3,hr4⟩:=hr
 obtain ⟨n,rfl⟩:∃n:Nat,a=(n:Int):=⟨a.toNat,by omega⟩
 obtain ⟨p,rfl⟩:∃p:Nat,b=(p:Int):=⟨b.toNat,by omega⟩
 have g1:decide ((n:Int) < 0)=false:=decide_eq_false (by omega)
 have g2:decide ((100:Int) < (n:Int))=false:=by simp;omega
 have g3:decide ((p:Int) < 0)=false:=decide_eq_false (by omega)
 have g4:decide ((100:Int) < (p:Int))=false:=by simp;omega
 have hn:n≤100:=by omega
 have hp:p≤100:=by omega
 have HD:=hid (S8.Zux n p)
 clear hr1 hr2 hr3 hr4
 go_enter func9,ntmps9
 go_wp2_with (go_at_call 10;refine C1.mono ?_;rintro e w1 ⟨rfl,h1⟩;have M0:=hid h1;clear h1 C1)
 clear g1 g2 g3 g4
 go_loopw [6,7,8] (fun v6 v7 v8 wr=>∃(i:Nat) (x y:ByteArray),i≤p∧v6=.string x∧v7=.string y∧v8=.int .i64 i∧wr=w1∧Hid (ls x=hdr++List.replicate i 40)∧Hid (ls y=List.replicate i 41)) (fun _ _ v8 _=>p - (intOf v8).toNat)
 case atStart=>exact ⟨0,mk hdr,mk [],Nat.zero_le _,rfl,rfl,rfl,rfl,hid (List.append_nil _).symm,hid rfl⟩
 case round=>
  obtain ⟨i,x,y,hi,rfl,rfl,rfl,rfl,HX,HY⟩:=hrel
  have hx1:x.size=15 + i:=by rw [← ZaR,HX.out];simp [hdr];omega
  have hy1:y.size=i:=by rw [← ZaR,HY.out];simp
  by_cases hlt:i < p
  ·have i1:decide ((i:Int) < (p:Int))=true:=by simp;omega
   have i2:decide (i < p)=true:=by simp;omega
   have s1:x.size≤200:=by omega
   have s2:y.size≤200:=by omega
   have HT:=hid hlt
   clear hlt hx1 hy1
   go_wp2_with fail
   go_roundw
   case rel=>exact ⟨i + 1,_,_,by have:=HT.out;omega,rfl,rfl,by go_num,by first | trivial | rfl,hid (by rw [ZhI,HX.out,List.append_assoc];exact congrArg _ (Znq i 40)),hid (by rw [ZhI,HY.out];exact Znq i 41)⟩
   case measure=>have:=HT.out;simp [intOf];omega
  ·have i1:decide ((i:Int) < (p:Int))=false:=by simp;omega
   have i2:decide (i < p)=false:=by simp;omega
   obtain rfl:p=i:=by omega
   have HX1:=hid hx1
   have s0:x.size≤200:=by omega
   clear hlt hx1 hy1
   go_wp2_with fail
   clear i1 i2
   go_loopw [6,7,10] (fun v6 v7 v8 wr'=>∃(i:Nat) (x' y':ByteArray),i≤n∧v6=.string x'∧v7=.string y'∧v8=.int .i64 i∧wr'=wr∧Hid (ls x'=hdr++(List.replicate p 40++List.replicate i 91))∧Hid (ls y'=List.replicate i 93++List.replicate p 41)) (fun _ _ v8 _=>n - (intOf v8).toNat)
   case atStart=>exact ⟨0,x,y,Nat.zero_le _,rfl,rfl,rfl,rfl,hid (by rw [HX.out,List.replicate_zero,List.append_nil]),hid HY.out⟩
   case round=>
    obtain ⟨i,x',y',hi,rfl,rfl,rfl,rfl,HX',HY'⟩:=hrel
    have hx1:x'.size=15 + p + i:=by rw [← ZaR,HX'.out];simp [hdr];omega
    have hy1:y'.size=i + p:=by rw [← ZaR,HY'.out];simp
    by_cases hlt:i < n
    ·have i1:decide ((i:Int) < (n:Int))=true:=by simp;omega
     have i2:decide (i < n)=true:=by simp;omega
     have s1:x'.size≤300:=by omega
     have s2:y'.size≤300:=by omega
     have HT:=hid hlt
     clear hlt hx1 hy1
     go_wp2_with fail
     go_roundw
     case rel=>exact ⟨i + 1,_,_,by have:=HT.out;omega,rfl,rfl,by go_num,by first | trivial | rfl,hid (by rw [ZhI,HX'.out,List.append_assoc,List.append_assoc];exact congrArg (fun z=>hdr++(List.replicate p 40++z)) (Znq i 91)),hid (by rw [ZhI,HY'.out,List.replicate_succ];rfl)⟩
     case measure=>have:=HT.out;simp [intOf];omega
    ·have i1:decide ((i:Int) < (n:Int))=false:=by simp;omega
     have i2:decide (i < n)=false:=by simp;omega
     obtain rfl:n=i:=by omega
     have s1:x'.size≤300:=by omega
     have s2:y'.size≤300:=by omega
     have s3:(x'++⟨#[49]⟩).size≤301:=by rw [ByteArray.size_append];show x'.size + 1≤301;omega
     have HE:Hid (ls (x'++⟨#[49]⟩++y')=S8.ZcT n p):=hid (by rw [ZhI,ZhI,HX'.out,HY'.out,S8.ZcT];simp [hdr];rfl)
     have C2:Calls prog 24 #[.string (x'++⟨#[49]⟩++y')] wr (ZcK false (S8.ZcT n p) wr):=by
      have:=Zhh (s:=x'++⟨#[49]⟩++y') (HL.out.on M0.out) (by rw [ByteArray.size_append,ByteArray.size_append];show x'.size + 1 + y'.size≤_;omega)
      rw [HE.out] at this
      exact this
     clear hlt hx1 hy1
     by_cases h38:n≤38
     ·have HV:Hid (S8.pv false (S8.ZcT n p)=_):=hid (HD.out.trans (if_pos h38))
      have j1:decide ((38:Int) < (n:Int))=false:=by simp;omega
      have j2:decide (38 < n)=false:=by simp;omega
      have HW:=hid (ZoX 1 ((15 + p + n:Nat):Int) (by omega) (S8.plc (S8.ZcT n p).length n (1 + n + p)))
      have HG:=hid (ZtC (p:=false) HV.out)
      have HRG:Hid (rgd (S8.root [.mk 5 [102] 0 0 [.mk 12 S8.ZjN 0 9 [],S8.nest 1 ((15 + p + n:Nat):Int) (S8.plc (S8.ZcT n p).length n (1 + n + p))]])=true):=hid (by
       simp only [S8.root,rgd,rgds,HW.out.1] <;> decide)
      have HWT:Hid (wt (S8.root [.mk 5 [102] 0 0 [.mk 12 S8.ZjN 0 9 [],S8.nest 1 ((15 + p + n:Nat):Int) (S8.plc (S8.ZcT n p).length n (1 + n + p))]])≤19000000):=hid (by
       rw [S8.root,S8.Zg3,Zbr,S8.Zg3,Zbr,Zbr,S8.Zg3,Zbw]
       have:=HW.out.2
       rw [S8.Zhg] at this
       simp only [show (S8.ZjN:Bs).length=3 from rfl,List.length_cons,List.length_nil]
       omega)
      generalize S8.nest 1 ((15 + p + n:Nat):Int) (S8.plc (S8.ZcT n p).length n (1 + n + p))=T at HV HG HWT HW HRG
      clear h38
      go_wp2_with (first
       | (go_at_call 12;refine C5.mono ?_;rintro e w9 ⟨rfl,h9⟩;have M9:=hid (M1.out.1.trans (h9.mono M1.out.1.size));clear h9 C5)
       | (have X:=N1;clear X;refine Zah (g:=w2.heap.size) (t:=24) (old:=z5) (by exact Is.fresh w2 24 _) rfl 24 _ _ rfl (nd5 1 [] 0 0 s2) rfl rfl inf24 rfl (ZcN (Zbq N1.out.2)) ?_;intro w3 h1 h2;obtain ⟨n1,b2⟩:=Nv.new (x:=S8.root [.mk 5 [102] 0 0 [.mk 12 S8.ZjN 0 9 [],T]]) N1.out.2 h1 h2;have d0:=h1.at_ 0;have d1:=h1.at_ 1;have d2:=h1.at_ 2;have d3:=h1.at_ 3;have d4:=h1.at_ 4;have M1:=hid (And.intro (N1.out.1.trans (b2.mono N1.out.1.size)) n1);have C5:=ZkT M1.out.2.at_ (Nat.le_refl _) HRG.out HWT.out (HL.out.on M1.out.1);rw [HG.out.1] at C5;clear n1 b2 N1;clear h1 h2)
       | (go_at_call 24;refine C2.mono ?_;intro e w2 h;obtain ⟨b1,s2,rfl,k1⟩:=Zeh h HV.out;have N1:=hid (And.intro (M0.out.trans (b1.mono M0.out.size)) k1);clear h b1 k1 C2))
      go_ret
      exact ⟨rfl,M9.out⟩
     ·have HV:Hid (S8.pv false (S8.ZcT n p)=_):=hid (HD.out.trans (if_neg h38))
      have j1:decide ((38:Int) < (n:Int))=true:=by simp;omega
      have j2:decide (38 < n)=true:=by simp;omega
      have k1:(((15 + p + 39:Nat):Int) == (x.size:Int) + 39)=true:=by rw [HX1.out];simp
      have k2:((15:Int) + p + 39 == (x.size:Int) + 39)=true:=by rw [HX1.out];simp
      have k3:((15:Int) + p + 39=(x.size:Int) + 39):=by rw [HX1.out];simp
      clear h38
      go_wp2_with (first
       | (have X:=N1;clear X;refine Zah (g:=w2.heap.size) (t:=24) (old:=z5) (by exact Is.fresh w2 24 _) rfl 24 _ _ rfl (nd5 0 [] 0 0 s2) rfl rfl inf24 rfl (ZcN (Zbq N1.out.2)) ?_;intro w3 h1 h2;obtain ⟨n1,b2⟩:=Nv.new (x:=S8.Zfm) N1.out.2 h1 h2;have d0:=h1.at_ 0;have M1:=hid (N1.out.1.trans (b2.mono N1.out.1.size));clear n1 b2 N1;clear h1 h2)
       | (go_at_call 24;refine C2.mono ?_;intro e w2 h;obtain ⟨b1,s2,rfl,k1⟩:=Zeh h HV.out;have N1:=hid (And.intro (M0.out.trans (b1.mono M0.out.size)) k1);clear h b1 k1 C2))
      go_ret
      exact ⟨rfl,M1.out⟩
end Go.Proofs.YtaheffiglmglbaaGreatDoor
