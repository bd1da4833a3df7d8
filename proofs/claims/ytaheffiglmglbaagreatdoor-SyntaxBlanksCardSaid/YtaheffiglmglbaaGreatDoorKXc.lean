import Derived.Test.YtaheffiglmglbaaGreatDoorKQk
import Derived.Test.YtaheffiglmglbaaGreatDoorKWh
import Derived.Test.YtaheffiglmglbaaGreatDoorKXa
import Derived.Test.YtaheffiglmglbaaGreatDoorKLd
/- Prs, Same, Equ. -/
set_option maxHeartbeats 8000000
set_option maxRecDepth 20000
namespace Go.Proofs.YtaheffiglmglbaaGreatDoor
open Go.Proofs.Tryz
open Go.RowKit L7
theorem ZpH {fn:Func} {p u v:Tmp} (h:fn.results=#[.cell p 24,.tmp u,.tmp v]) {w:World} {g:Nat} {tm:Array Value} {c0 c1 c2 c3 c4 x y:Value} (hp:tm[p]?=some (.pointer (some ⟨g,0,none⟩))) (hu:tm[u]?=some x) (hv:tm[v]?=some y) (hi:Is w g 24 #[c0,c1,c2,c3,c4]) :
  (results fn tm).run prog w=.ok (.tuple #[.agg #[c0,c1,c2,c3,c4],x,y]) w:=by
 have e0:w.cell? ⟨g,0,none⟩=some c0:=hi.at_ 0
 have e1:w.cell? ⟨g,1,none⟩=some c1:=hi.at_ 1
 have e2:w.cell? ⟨g,2,none⟩=some c2:=hi.at_ 2
 have e3:w.cell? ⟨g,3,none⟩=some c3:=hi.at_ 3
 have e4:w.cell? ⟨g,4,none⟩=some c4:=hi.at_ 4
 simp [results,h,go_sem,hp,hu,hv,e0,e1,e2,e3,e4]
def Zxh (w:World) (B:Nat) (x:Nd) (v:Value):Prop:=∃s,v=.agg (nd5 x.k x.t x.n x.a s)∧Kid w (fun g=>B≤g∧g < w.heap.size) x s
def ZcK (pt:Bool) (s:Bs) (w:World) (e:Ending) (w':World):Prop:=Below w.heap.size w w'∧∃v,e=.returned (.tuple #[v,.int .i64 (S8.pv pt s).2.1,.int .i64 (S8.pv pt s).2.2])∧Zxh w' w.heap.size (S8.pv pt s).1 v
theorem Zvh (w:World) (B:Nat):Zxh w B S8.Zfm (.agg z5):=⟨.slice none 0 0,rfl,by rw [S8.Zfm,Kid];exact ⟨none,0,rfl,Nat.le_refl _,by rw [Kids];trivial⟩⟩
theorem Zra {pt:Bool} {s:Bs} {w w':World} {x:Nd} {a e:Int} {v:Value} (hv:S8.pv pt s=(x,e,a)) (hb:Below w.heap.size w w') (hn:Zxh w' w.heap.size x v):ZcK pt s w (.returned (.tuple #[v,.int .i64 e,.int .i64 a])) w':=by
 refine ⟨hb,v,?_,?_⟩
 ·rw [hv]
 ·rw [hv];exact hn
theorem ZkV {pt:Bool} {s:Bs} {w w':World} {a e:Int} (hv:S8.pv pt s=(S8.Zfm,e,a)) (hb:Below w.heap.size w w'):ZcK pt s w (.returned (.tuple #[.agg z5,.int .i64 e,.int .i64 a])) w':=Zra hv hb (Zvh _ _)
theorem ZxZ {w:World} {m c:Nat} {A:Option Addr} {s:Bs} {l:List (Tk × Nat)} (hs:scan s=.ok l) (hn:s.length≤32768) (hT:ToksIn w w.heap.size A (offs s.length l)) (hc:l.length≤c) (hm:MapHas w m) :
  Ps (w.alloc (.cells #[.slice A l.length c,.int .i64 0,.int .i64 (s.length:Int),.map (some m),.bool false] 91)) w.heap.size ⟨offs s.length l,A,c,s.length,m⟩ 0 false:=by
 have hb:Below w.heap.size w (w.alloc (.cells #[.slice A l.length c,.int .i64 0,.int .i64 (s.length:Int),.map (some m),.bool false] 91)):=(Below.refl _ _).alloc (Nat.le_refl _) _
 have hlen:(offs s.length l).length=l.length:=by simp [offs]
 have h1:=S8.ZhD l s hs
 refine ⟨?_,Nat.zero_le _,⟨hT.below hb,hm.stay (hb.block _ hm.lt),hm.lt,by rw [hlen];exact hc,by rw [hlen];omega,hn,?_,fun t ht=>?_⟩⟩
 ·simp only [hlen]
  exact Is.fresh w 91 _
 ·rw [S8.Zzc,List.all_eq_true]
  intro t ht
  obtain ⟨u,hu,rfl⟩:=List.mem_map.1 ht
  obtain ⟨v,hv,rfl⟩:=List.mem_map.1 hu
  exact S8.ZkN hs v hv
 ·obtain ⟨v,hv,rfl⟩:=List.mem_map.1 ht
  have:=S8.ZkM hs v hv
  simp only;omega
theorem PgPost.err {b:Nat} {S:Pg} {p:Bool} {w w':World} {e:Ending} {a:Int} (h:PgPost b S p w e w') (hR:S8.File p S.size S.toks (.err a)) :
  w.grownBy w' (some b)∧e=.returned (.tuple #[.agg z5,.bool false])∧∃j h,Ps w' b S j h∧place S j=a:=by
 obtain ⟨R,h1,h2,h3⟩:=h
 obtain rfl:=h1.unique hR
 exact ⟨h2,h3.1,h3.2⟩
theorem PgPost.okay {b:Nat} {S:Pg} {p:Bool} {w w':World} {e:Ending} {c:List Nd} {r:List PTok} (h:PgPost b S p w e w') (hR:S8.File p S.size S.toks (.ok c r)) :
  w.grownBy w' (some b)∧∃A cap,e=.returned (.tuple #[.agg #[.int .i64 1,.string ⟨#[]⟩,.int .i64 0,.int .i64 0,.slice A c.length cap],.bool true])∧Kid w' (fun g=>w.heap.size≤g∧g < w'.heap.size) (S8.root c) (.slice A c.length cap):=by
 obtain ⟨R,h1,h2,h3⟩:=h
 obtain rfl:=h1.unique hR
 obtain ⟨s,h3,h4⟩:=h3
 have h5:=Zhl (h4.kid (S8.root c) rfl)
 obtain ⟨A,cap,rfl,-,-⟩:=(ZgA _ _ _ _).1 h5
 exact ⟨h2,A,cap,h3,h5⟩
theorem ZtB {w w':World} {B T:Nat} {x:Nd} {v:Value} (h:Kid w (fun g=>B≤g∧g < T) x v) (k:Below T w w'):Kid w' (fun g=>B≤g∧g < T) x v:=Zb0 (fun _ h _=>h) (fun g hg _=>k.block g hg.2) x v h
theorem ZxX {w:World} {B T:Nat} {x:Nd} {v:Value} (h:Kid w (fun g=>B≤g∧g < T) x v):Kid w (fun g=>g < T) x v:=Zgz h fun _ h _=>h.2
theorem Zrb {w w':World} {B T g0:Nat} {x:Nd} {v:Value} (h:Kid w (fun g=>B≤g∧g < T) x v) (k:w.grownBy w' (some g0)) (hg:g0 < B):Kid w' (fun g=>g0≤g∧g < w'.heap.size) x v:=
 Zb0 (fun g hy hl=>by have:=k.size;omega) (fun g hg hl=>k.block g hl (by simp;omega)) x v h
theorem Zty (pt:Bool) (s:ByteArray) (w:World) (hl:Lies w) (hs:s.size≤32768) (hW:∀l c r,scan (ls s)=.ok l→S8.File pt s.size (offs s.size l) (.ok c r)→wts c≤18000000) :
  Calls prog 31 #[.string s,.func (.func (Zxk pt)) #[] #[]] w (ZcK pt (ls s) w):=by
 obtain ⟨w0,hw0⟩:∃w0,w0=w.alloc (.cells z5 24):=⟨_,rfl⟩
 have b0:Below w.heap.size w w0:=by rw [hw0];exact (Below.refl _ _).alloc (Nat.le_refl _) _
 have s0:w0.heap.size=w.heap.size + 1:=by rw [hw0];simp
 have J0:Is w0 w.heap.size 24 z5:=by rw [hw0];exact Is.fresh w 24 _
 have C1:=ZkP s w0 (hl.on b0) hs
 rw [hw0] at C1
 have HW:=hid hw0
 have JJ:=hid (And.intro b0 (And.intro s0 J0))
 clear b0 s0 J0 hw0 hl
 cases hsc:scan (ls s) with
 | error x=>
  obtain ⟨en,k⟩:=x
  rw [hsc] at C1
  simp only [Zq6] at C1
  have hne:((en:Int) != 0)=true:=by have:=S8.codes en k hsc;simpa using this
  have HV:=hid (S8.ZuX (p:=pt) hsc)
  clear hsc hW
  go_enter func31,ntmps31
  go_wp2_with (first
   | (go_at_call 22;(with_reducible refine C1.mono ?_);rintro e1 w1 ⟨⟨A,c,rfl,-,-,-⟩,h1⟩;rw [← HW.out] at h1;have P:=hid (And.intro (JJ.out.1.trans (h1.mono (by have:=JJ.out.2.1;omega))) (JJ.out.2.2.below h1 (by have:=JJ.out.2.1;omega)));clear h1 C1)
   | (refine Zah P.out.2 rfl 24 _ _ rfl z5 rfl rfl inf24 rfl Zhs ?_;intro w2 h1 h2;have Q:=hid (And.intro h1 (ZbK P.out.1 h2 (Nat.le_refl _) P.out.1.size));clear h1 h2))
  refine bodyPost_ret (v:=.tuple #[.agg z5,.int .i64 (en:Int),.int .i64 ((s.size - k:Nat):Int)]) (ZpH results31 rfl rfl rfl Q.out.1) rfl (ZkV HV.out Q.out.2)
 | ok l=>
  rw [hsc] at C1
  simp only [Zq6,okL] at C1
  obtain ⟨R,hR⟩:=S8.File.total pt (s.size:Int) (offs s.size l)
  have HV0:S8.pv pt (ls s)=S8.ZjG R:=S8.ZjI hsc hR
  have HS:=hid (And.intro hsc (hW l))
  have HN:Hid (s.size≤32768):=hid hs
  clear hsc hW hs
  go_enter func31,ntmps31
  go_wp2_with (first
   | (go_at_call 22;(with_reducible refine C1.mono ?_);rintro e1 w1 ⟨⟨A,c,rfl,hT,-,hc⟩,h1⟩;rw [← HW.out] at h1;have P:=hid (And.intro (JJ.out.1.trans (h1.mono (by have:=JJ.out.2.1;omega))) (And.intro (JJ.out.2.2.below h1 (by have:=JJ.out.2.1;omega)) (And.intro hT hc)));have C2:=Zj6 w1;clear h1 C1 hT hc)
   | (go_at_call 48;(with_reducible refine C2.mono ?_);rintro e w2 ⟨m,rfl,hm,hmw,hb2⟩;have Q:=hid (And.intro hm (And.intro (P.out.1.trans (hb2.mono P.out.1.size)) (And.intro (P.out.2.1.below hb2 P.out.2.1.lt) (And.intro ((P.out.2.2.1.below hb2).top hb2.size) P.out.2.2.2))));clear hm hmw hb2 C2))
  have hb3:Below w2.heap.size w2 (w2.alloc (.cells #[.slice A l.length c,.int .i64 0,.int .i64 (s.size:Int),.map (some m),.bool false] 91)):=(Below.refl _ _).alloc (Nat.le_refl _) _
  have hp3:=ZxZ HS.out.1 HN.out Q.out.2.2.2.1 Q.out.2.2.2.2 Q.out.1
  have hj3:=Q.out.2.2.1.below hb3 Q.out.2.2.1.lt
  have hw3:=Q.out.2.1.trans (hb3.mono Q.out.2.1.size)
  have hz3:w2.heap.size < (w2.alloc (.cells #[.slice A l.length c,.int .i64 0,.int .i64 (s.size:Int),.map (some m),.bool false] 91)).heap.size:=by simp
  have hlt:w.heap.size < w2.heap.size:=Q.out.2.2.1.lt
  obtain ⟨S,hS⟩:∃S,S=(⟨offs s.size l,A,c,s.size,m⟩:Pg):=⟨_,rfl⟩
  rw [show (⟨offs (ls s).length l,A,c,(ls s).length,m⟩:Pg)=S from hS.symm] at hp3
  rw [show (ls s).length=s.size from rfl] at hp3
  have hR2:S8.File pt S.size S.toks R:=by rw [hS];exact hR
  have hW2:∀c r,R=.ok c r→wts c≤18000000:=fun c r e=>HS.out.2 c r HS.out.1 (by rw [← e];exact hR)
  obtain ⟨b,hb⟩:∃b,b=w2.heap.size:=⟨_,rfl⟩
  generalize w2.alloc (.cells #[.slice A l.length c,.int .i64 0,.int .i64 (s.size:Int),.map (some m),.bool false] 91)=w3 at hb3 hp3 hj3 hw3 hz3 ⊢
  rw [← hb] at hp3 hz3 hlt ⊢
  have C3:=Znt b S pt w3 hp3
  have K:=hid (And.intro hw3 (And.intro hj3 (And.intro hz3 hlt)))
  clear hb3 hp3 hj3 hw3 hz3 hS hR HS HN Q P hb
  cases R with
  | out=>exact absurd rfl hR2.1
  | err a=>
   have HV:=hid HV0
   have HR:=hid hR2
   clear HV0 hR2 hW2 hlt
   go_wp2_with (first
    | (have X:=HQ6;clear X;refine Zah HQ6.out.1 rfl 24 _ _ rfl z5 rfl rfl inf24 rfl Zhs ?_;intro w7 h1 h2;have HQ7:=hid (And.intro h1 (ZbK HQ6.out.2 h2 (Nat.le_refl _) HQ6.out.2.size));clear h1 h2 HQ6)
    | (go_at_call 58;(with_reducible refine C3.mono ?_);intro e w4 h4;obtain ⟨g4,rfl,j,hh,p4,e4⟩:=h4.err HR.out;have hlt4:=K.out.2.2.2;have Q4:=hid (And.intro (K.out.1.grown g4 K.out.1.size (fun j h=>by cases h;omega)) (And.intro (K.out.2.1.kept g4 (by simp;omega)) (And.intro p4 e4)));clear h4 g4 p4 e4 C3 hlt4)
    | (have X:=Q4;clear X;refine Zah (g:=w4.heap.size) (t:=24) (old:=z5) (by exact Is.fresh w4 24 _) rfl 24 _ _ rfl z5 rfl rfl inf24 rfl Zhs ?_;intro w5 h1 h2;have b5:Below w4.heap.size w4 w5:=ZbK ((Below.refl _ _).alloc (Nat.le_refl _) _) h2 (Nat.le_refl _) (by simp);have C4:=Zdq b S j hh w5 (Q4.out.2.2.1.below b5 Q4.out.2.2.1.lt);have HQ5:=hid (And.intro (Q4.out.2.1.below b5 Q4.out.2.1.lt) (Q4.out.1.trans (b5.mono Q4.out.1.size)));rw [Q4.out.2.2.2] at C4;clear h1 h2 b5 Q4)
    | (go_at_call 59;(with_reducible refine C4.mono ?_);rintro e w6 ⟨rfl,h6⟩;have HQ6:=hid (And.intro (HQ5.out.1.below h6 HQ5.out.1.lt) (HQ5.out.2.trans (h6.mono HQ5.out.2.size)));clear h6 C4 HQ5))
   exact bodyPost_ret (v:=.tuple #[.agg z5,.int .i64 2,.int .i64 a]) (ZpH results31 rfl rfl rfl HQ7.out.1) rfl (ZkV HV.out HQ7.out.2)
  | ok c r=>
   have HV:=hid HV0
   have HR:=hid hR2
   have HC:=hid (hW2 c r rfl)
   cases hd:S8.deep 40 0 (S8.root c) with
   | some a=>
    have HV2:Hid (S8.pv pt (ls s)=(S8.Zfm,10,a)):=hid (by rw [HV.out,S8.ZjG,hd])
    have HD:=hid hd
    clear HV0 hR2 hW2 hlt hd
    go_wp2_with (first
     | (have X:=HQ6;clear X;refine Zah HQ6.out.1 rfl 24 _ _ rfl z5 rfl rfl inf24 rfl Zhs ?_;intro w7 h1 h2;have HQ7:=hid (And.intro h1 (ZbK HQ6.out.2 h2 (Nat.le_refl _) HQ6.out.2.size));clear h1 h2 HQ6)
     | (go_at_call 58;(with_reducible refine C3.mono ?_);intro e w4 h4;obtain ⟨g4,A4,cap4,rfl,hk4⟩:=h4.okay HR.out;have hlt4:=K.out.2.2.2;have Q4:=hid (And.intro (K.out.1.grown g4 K.out.1.size (fun j h=>by cases h;omega)) (And.intro (K.out.2.1.kept g4 (by simp;omega)) hk4));clear h4 g4 hk4 C3 hlt4)
     | (have X:=Q4;clear X;refine Zah (g:=w4.heap.size) (t:=24) (old:=z5) (by exact Is.fresh w4 24 _) rfl 24 _ _ rfl (nd5 1 [] 0 0 (.slice A4 c.length cap4)) rfl rfl inf24 rfl (by have h1:=Zbq Q4.out.2.2;simp [nd5,h1];exact ⟨rfl,rfl,rfl⟩) ?_;intro w5 h1 h2;have b5:Below w4.heap.size w4 w5:=ZbK ((Below.refl _ _).alloc (Nat.le_refl _) _) h2 (Nat.le_refl _) (by simp);have C4:Calls prog 47 #[.agg (nd5 1 [] 0 0 (.slice A4 c.length cap4)),.int .i64 0] w5 (fun e w'=>e=.returned (Zlj (S8.deep 40 0 (S8.root c)))∧Below w5.heap.size w5 w'):=Zn4 (S8.root c) 0 w4.heap.size (.agg (nd5 1 [] 0 0 (.slice A4 c.length cap4))) w5 (by omega) (by rw [Zm2];have:=HC.out;show 1000 + 4 * 0 + wts c≤_;omega) ⟨_,rfl,ZxX (ZtB Q4.out.2.2 b5)⟩ b5.size;rw [HD.out] at C4;have HQ5:=hid (And.intro (Q4.out.2.1.below b5 Q4.out.2.1.lt) (Q4.out.1.trans (b5.mono Q4.out.1.size)));have e0:=h1.at_ 0;have e1:=h1.at_ 1;have e2:=h1.at_ 2;have e3:=h1.at_ 3;have e4:=h1.at_ 4;clear h1 h2 b5 Q4)
     | (go_at_call 47;(with_reducible refine C4.mono ?_);rintro e w6 ⟨rfl,h6⟩;have HQ6:=hid (And.intro (HQ5.out.1.below h6 HQ5.out.1.lt) (HQ5.out.2.trans (h6.mono HQ5.out.2.size)));clear h6 C4 HQ5 e0 e1 e2 e3 e4;simp only [Zlj]))
    exact bodyPost_ret (v:=.tuple #[.agg z5,.int .i64 10,.int .i64 a]) (ZpH results31 rfl rfl rfl HQ7.out.1) rfl (ZkV HV2.out HQ7.out.2)
   | none=>
    have HV2:Hid (S8.pv pt (ls s)=(S8.root c,0,0)):=hid (by rw [HV.out,S8.ZjG,hd])
    have HD:=hid hd
    clear HV0 hR2 hW2 hlt hd
    go_wp2_with (first
     | (have X:=HQ6;clear X;refine Zah HQ6.out.1 rfl 24 _ _ rfl (nd5 1 [] 0 0 (.slice A4 c.length cap4)) rfl rfl inf24 rfl (by have h1:=Zbq HQ6.out.2.2;simp [nd5,h1];exact ⟨rfl,rfl,rfl⟩) ?_;intro w7 h1 h2;have b7:=ZbK (HQ6.out.2.1) h2 (Nat.le_refl _) HQ6.out.2.1.size;have HQ7:=hid (And.intro h1 (And.intro b7 (Zrb HQ6.out.2.2 h2 (by have:=K.out.2.2;omega))));clear h1 h2 b7 HQ6)
     | (go_at_call 58;(with_reducible refine C3.mono ?_);intro e w4 h4;obtain ⟨g4,A4,cap4,rfl,hk4⟩:=h4.okay HR.out;have hlt4:=K.out.2.2.2;have Q4:=hid (And.intro (K.out.1.grown g4 K.out.1.size (fun j h=>by cases h;omega)) (And.intro (K.out.2.1.kept g4 (by simp;omega)) hk4));clear h4 g4 hk4 C3 hlt4)
     | (have X:=Q4;clear X;refine Zah (g:=w4.heap.size) (t:=24) (old:=z5) (by exact Is.fresh w4 24 _) rfl 24 _ _ rfl (nd5 1 [] 0 0 (.slice A4 c.length cap4)) rfl rfl inf24 rfl (by have h1:=Zbq Q4.out.2.2;simp [nd5,h1];exact ⟨rfl,rfl,rfl⟩) ?_;intro w5 h1 h2;have b5:Below w4.heap.size w4 w5:=ZbK ((Below.refl _ _).alloc (Nat.le_refl _) _) h2 (Nat.le_refl _) (by simp);have C4:Calls prog 47 #[.agg (nd5 1 [] 0 0 (.slice A4 c.length cap4)),.int .i64 0] w5 (fun e w'=>e=.returned (Zlj (S8.deep 40 0 (S8.root c)))∧Below w5.heap.size w5 w'):=Zn4 (S8.root c) 0 w4.heap.size (.agg (nd5 1 [] 0 0 (.slice A4 c.length cap4))) w5 (by omega) (by rw [Zm2];have:=HC.out;show 1000 + 4 * 0 + wts c≤_;omega) ⟨_,rfl,ZxX (ZtB Q4.out.2.2 b5)⟩ b5.size;rw [HD.out] at C4;have HQ5:=hid (And.intro (Q4.out.2.1.below b5 Q4.out.2.1.lt) (And.intro (Q4.out.1.trans (b5.mono Q4.out.1.size)) (And.intro h1 (ZtB Q4.out.2.2 b5))));have e0:=h1.at_ 0;have e1:=h1.at_ 1;have e2:=h1.at_ 2;have e3:=h1.at_ 3;have e4:=h1.at_ 4;clear h1 h2 b5 Q4)
     | (go_at_call 47;(with_reducible refine C4.mono ?_);rintro e w6 ⟨rfl,h6⟩;have J6:=HQ5.out.2.2.1.below h6 HQ5.out.2.2.1.lt;clear e0 e1 e2 e3 e4;have e0:=J6.at_ 0;have e1:=J6.at_ 1;have e2:=J6.at_ 2;have e3:=J6.at_ 3;have e4:=J6.at_ 4;have HQ6:=hid (And.intro (HQ5.out.1.below h6 HQ5.out.1.lt) (And.intro (HQ5.out.2.1.trans (h6.mono HQ5.out.2.1.size)) (ZtB HQ5.out.2.2.2 (h6.mono (by have:=HQ5.out.2.2.1.lt;omega)))));clear h6 C4 HQ5 J6;simp only [Zlj]))
    exact bodyPost_ret (v:=.tuple #[.agg (nd5 1 [] 0 0 (.slice A4 c.length cap4)),.int .i64 0,.int .i64 0]) (ZpH results31 rfl rfl rfl HQ7.out.1) rfl (Zra HV2.out HQ7.out.2.1 ⟨_,rfl,HQ7.out.2.2⟩)
section
variable {s:ByteArray} {w:World}
theorem Zrk (pt:Bool) (F:Nat) (hF:F=if pt=true then 21 else 24) (hl:Lies w) (hs:s.size≤32768) (hW:∀l c r,scan (ls s)=.ok l→S8.File pt s.size (offs s.size l) (.ok c r)→wts c≤18000000) :
  Calls prog F #[.string s] w (ZcK pt (ls s) w):=by
 have C1:=Zty pt s (w.alloc (.cells z5 24)) (hl.on ((Below.refl _ _).alloc (Nat.le_refl _) _)) hs hW
 have HB:=hid ((Below.refl w.heap.size w).alloc (Nat.le_refl _) (.cells z5 24))
 have HI:=hid (Is.fresh w 24 z5)
 clear hl hs hW
 cases pt with
 | false=>
  subst hF
  have C1:Calls prog 31 #[.string s,.func (.func 45) #[] #[]] (w.alloc (.cells z5 24)) (ZcK false (ls s) (w.alloc (.cells z5 24))):=C1
  go_enter func24,ntmps24
  go_wp2_with (first
   | (have X:=Q;clear X;refine Zah Q.out.1 rfl 24 _ _ rfl (nd5 (S8.pv false (ls s)).1.k (S8.pv false (ls s)).1.t (S8.pv false (ls s)).1.n (S8.pv false (ls s)).1.a s1) rfl rfl inf24 rfl (by have h1:=Zbq Q.out.2.2;simp [nd5,h1];exact ⟨rfl,rfl,rfl,rfl⟩) ?_;intro w7 h1 h2;have b7:=ZbK Q.out.2.1 h2 (Nat.le_refl _) Q.out.2.1.size;have Q7:=hid (And.intro h1 (And.intro b7 (Zrb Q.out.2.2 h2 (by simp))));clear h1 h2 b7 Q)
   | (go_at_call 31;(with_reducible refine C1.mono ?_);rintro e w1 ⟨h1,v,rfl,s1,rfl,hk1⟩;have Q:=hid (And.intro (HI.out.below h1 (by simp)) (And.intro (HB.out.trans (h1.mono HB.out.size)) hk1));clear h1 hk1 C1))
  exact bodyPost_ret (v:=.tuple #[.agg (nd5 (S8.pv false (ls s)).1.k (S8.pv false (ls s)).1.t (S8.pv false (ls s)).1.n (S8.pv false (ls s)).1.a s1),.int .i64 (S8.pv false (ls s)).2.1,.int .i64 (S8.pv false (ls s)).2.2]) (ZpH results24 rfl rfl rfl Q7.out.1) rfl ⟨Q7.out.2.1,_,rfl,s1,rfl,Q7.out.2.2⟩
 | true=>
  subst hF
  have C1:Calls prog 31 #[.string s,.func (.func 32) #[] #[]] (w.alloc (.cells z5 24)) (ZcK true (ls s) (w.alloc (.cells z5 24))):=C1
  go_enter func21,ntmps21
  go_wp2_with (first
   | (have X:=Q;clear X;refine Zah Q.out.1 rfl 24 _ _ rfl (nd5 (S8.pv true (ls s)).1.k (S8.pv true (ls s)).1.t (S8.pv true (ls s)).1.n (S8.pv true (ls s)).1.a s1) rfl rfl inf24 rfl (by have h1:=Zbq Q.out.2.2;simp [nd5,h1];exact ⟨rfl,rfl,rfl,rfl⟩) ?_;intro w7 h1 h2;have b7:=ZbK Q.out.2.1 h2 (Nat.le_refl _) Q.out.2.1.size;have Q7:=hid (And.intro h1 (And.intro b7 (Zrb Q.out.2.2 h2 (by simp))));clear h1 h2 b7 Q)
   | (go_at_call 31;(with_reducible refine C1.mono ?_);rintro e w1 ⟨h1,v,rfl,s1,rfl,hk1⟩;have Q:=hid (And.intro (HI.out.below h1 (by simp)) (And.intro (HB.out.trans (h1.mono HB.out.size)) hk1));clear h1 hk1 C1))
  exact bodyPost_ret (v:=.tuple #[.agg (nd5 (S8.pv true (ls s)).1.k (S8.pv true (ls s)).1.t (S8.pv true (ls s)).1.n (S8.pv true (ls s)).1.a s1),.int .i64 (S8.pv true (ls s)).2.1,.int .i64 (S8.pv true (ls s)).2.2]) (ZpH results21 rfl rfl rfl Q7.out.1) rfl ⟨Q7.out.2.1,_,rfl,s1,rfl,Q7.out.2.2⟩
theorem Zhh (hl:Lies w) (hs:s.size≤7100):Calls prog 24 #[.string s] w (ZcK false (ls s) w):=Zrk false 24 rfl hl (by omega) (S8.Zh3 hs)
theorem ZfP (hl:Lies w) (hs:s.size≤7100):Calls prog 21 #[.string s] w (ZcK true (ls s) w):=Zrk true 21 rfl hl (by omega) (S8.Zh3 hs)
end
open Go.RowKit L7
mutual
def Ziv:Nd→Nd→Bool
 | .mk k t n _ c,.mk k' t' n' _ c'=>k == k' && t == t' && n == n' && Ziw c c'
def Ziw:List Nd→List Nd→Bool
 | [],[]=>true
 | x::l,y::m=>Ziv x y && Ziw l m
 | _,_=>false
end
theorem ZlX:∀{l m:List Nd},Ziw l m=true→l.length=m.length
 | [],[],_=>rfl
 | x::l,y::m,h=>by
  rw [Ziw,Bool.and_eq_true] at h
  simp [ZlX h.2]
 | [],_::_,h=>by simp [Ziw] at h
 | _::_,[],h=>by simp [Ziw] at h
theorem ZoJ {x y:Nd} : ∀{l m:List Nd} {i:Nat},l[i]?=some x→m[i]?=some y→Ziw (l.drop i) (m.drop i)=(Ziv x y && Ziw (l.drop (i + 1)) (m.drop (i + 1)))
 | a::l,b::m,0,h,k=>by simp at h k;subst h;subst k;simp only [List.drop_zero,List.drop_succ_cons];rw [Ziw]
 | a::l,b::m,i + 1,h,k=>by simp only [List.drop_succ_cons];exact ZoJ (by simpa using h) (by simpa using k)
 | [],_,i,h,_=>by simp at h
 | _::_,[],i,_,k=>by simp at k
theorem Zwv (a b:Bs):((mk a).toList == (mk b).toList)=decide (a=b):=by
 rw [Zas,Zas,Zbc,Zbc,Bool.eq_iff_iff,beq_iff_eq,decide_eq_true_eq]
theorem ZuW (x:Nd):∀(y:Nd) (B:Nat) (v u:Value) (w:World),wt x≤20000000→wt y≤20000000→NodeAt w B x v→NodeAt w B y u→B≤w.heap.size→
  Calls prog 19 #[v,u] w fun e w'=>e=.returned (.bool (Ziv x y))∧Below w.heap.size w w':=by
 induction x using S8.ZhH with
 | h k t n a c ih=>
 intro y B v u w hwx hwy hx hy hB
 obtain ⟨k',t',n',a',c'⟩:=y
 obtain ⟨s,rfl,hk⟩:=hx
 obtain ⟨s',rfl,hk'⟩:=hy
 obtain ⟨A,cap,rfl,hc,hR⟩:=ZcG hk
 obtain ⟨A',cap',rfl,hc',hR'⟩:=ZcG hk'
 rw [Zm2] at hwx hwy
 simp only [S8.Nd.c,S8.Nd.t,S8.Nd.k,S8.Nd.n,S8.Nd.a] at *
 by_cases hh:k=k'∧t=t'∧n=n'∧c.length=c'.length
 ·obtain ⟨rfl,rfl,rfl,hl⟩:=hh
  rw [← hl] at hc' hk' ⊢
  have HLL:=hid hl
  clear hl
  have HN:=hid (show Ziv (.mk k t n a c) (.mk k t n a' c')=Ziw c c' from by rw [Ziv];simp)
  obtain ⟨w0,hw0⟩:∃w0,w0=(w.alloc (.cells (nd5 k t n a (.slice A c.length cap)) 24)).alloc (.cells (nd5 k t n a' (.slice A' c.length cap')) 24):=⟨_,rfl⟩
  have b0:Below w.heap.size w w0:=by rw [hw0];exact ((Below.refl w.heap.size w).alloc (Nat.le_refl _) _).alloc (by simp) _
  have s0:w0.heap.size=w.heap.size + 1 + 1:=by rw [hw0];simp
  have I0:Is w0 w.heap.size 24 (nd5 k t n a (.slice A c.length cap)):=by rw [hw0];exact (Is.fresh w 24 _).alloc _
  have I1:Is w0 (w.heap.size + 1) 24 (nd5 k t n a' (.slice A' c.length cap')):=by
   rw [hw0];have:=Is.fresh (w.alloc (.cells (nd5 k t n a (.slice A c.length cap)) 24)) 24 (nd5 k t n a' (.slice A' c.length cap'));simpa using this
  have W:=hid hw0
  have J:=hid (And.intro b0 (And.intro s0 (And.intro I0 I1)))
  have V:=hid (And.intro hR (And.intro hR' (And.intro hB (And.intro ih (And.intro hwx hwy)))))
  have hlen:c.length≤100000:=by have:=ZfS c;omega
  have q:=Zwv t t
  clear ih hR hR' hk hk' hw0 b0 s0 I0 I1
  go_enter func19,ntmps19
  go_wp2_with fail
  rw [← W.out]
  go_loopw [37] (fun vi wr=>∃(i:Nat),i≤c.length∧vi=.int .i64 i∧Hid (Ziw c c'=Ziw (c.drop i) (c'.drop i))∧Hid (Below (w.heap.size + 1 + 1) w0 wr)) (fun vi _=>c.length - (intOf vi).toNat)
  case atStart=>exact ⟨0,Nat.zero_le _,rfl,hid rfl,hid (Below.refl _ _)⟩
  case round=>
   obtain ⟨i,hi,rfl,HA,HW⟩:=hrel
   by_cases hl2:i < c.length
   ·obtain ⟨x1,hx⟩:∃x1,c[i]?=some x1:=⟨_,List.getElem?_eq_getElem hl2⟩
    obtain ⟨x2,hx2⟩:∃x2,c'[i]?=some x2:=⟨_,List.getElem?_eq_getElem (by have:=HLL.out;omega)⟩
    have hW0:=J.out.1.trans (HW.out.mono (by omega))
    obtain ⟨a1,y1,rfl,ha,hk,d0,d1,d2,d3,d4⟩:=(V.out.1.below (hW0.mono V.out.2.2.1)).rowG (by have:=hW0.size;have:=V.out.2.2.1;omega) i x1 hx
    obtain ⟨a2,y2,rfl,ha2,hk2,f0,f1,f2,f3,f4⟩:=(V.out.2.1.below (hW0.mono V.out.2.2.1)).rowG (by have:=hW0.size;have:=V.out.2.2.1;omega) i x2 hx2
    have j0:=J.out.2.2.1.below HW.out (by omega)
    have j1:=J.out.2.2.2.below HW.out (by omega)
    have i1:decide ((i:Int) < (c.length:Int))=true:=by simp;omega
    have i2:(0:Int)≤i∧(i:Int) < (c.length:Int):=by omega
    have C1:=V.out.2.2.2.1 x1 (List.mem_of_getElem? hx) x2 B (.agg (nd5 x1.k x1.t x1.n x1.a y1)) (.agg (nd5 x2.k x2.t x2.n x2.a y2))
    have HX:=hid (And.intro hx (And.intro hx2 (And.intro hk (And.intro hk2 hW0))))
    have g0:=j0.at_ 4
    have g1:=j1.at_ 4
    clear hx hx2 hk hk2 hW0 j0 j1 hl2
    go_wp2
    simp only [List.getElem?_toArray,List.getElem?_cons_succ,List.getElem?_cons_zero] at g0 g1
    refine Zao (fun W=>(W.cell? ⟨w.heap.size,4,none⟩=some (.slice (some a1) c.length cap)∧W.cell? ⟨w.heap.size + 1,4,none⟩=some (.slice (some a2) c.length cap'))∧(W.cell? (a1.add (i * 5))=some (.int .i64 x1.k)∧W.cell? ⟨(a1.add (i * 5)).block,(a1.add (i * 5)).off + 1,none⟩=some (.string (mk x1.t))∧W.cell? ⟨(a1.add (i * 5)).block,(a1.add (i * 5)).off + 2,none⟩=some (.int .i64 x1.n)∧W.cell? ⟨(a1.add (i * 5)).block,(a1.add (i * 5)).off + 3,none⟩=some (.int .i64 x1.a)∧W.cell? ⟨(a1.add (i * 5)).block,(a1.add (i * 5)).off + 4,none⟩=some y1)∧W.cell? (a2.add (i * 5))=some (.int .i64 x2.k)∧W.cell? ⟨(a2.add (i * 5)).block,(a2.add (i * 5)).off + 1,none⟩=some (.string (mk x2.t))∧W.cell? ⟨(a2.add (i * 5)).block,(a2.add (i * 5)).off + 2,none⟩=some (.int .i64 x2.n)∧W.cell? ⟨(a2.add (i * 5)).block,(a2.add (i * 5)).off + 3,none⟩=some (.int .i64 x2.a)∧W.cell? ⟨(a2.add (i * 5)).block,(a2.add (i * 5)).off + 4,none⟩=some y2) (fun j=>decide (j < 10)) [0,1,2,3,4,5,6,7,8,9] [10,11] (by kernel_rfl) (by kernel_rfl) (fun c a a' W hd hq=>?hq) ⟨⟨g0,g1⟩,⟨d0,d1,d2,d3,d4⟩,f0,f1,f2,f3,f4⟩ ?_
    case hq=>exact ⟨hd▸hq.1,hq.2⟩
    clear d0 d1 d2 d3 d4 f0 f1 f2 f3 f4 g0 g1
    refine fs (.pointer (some ⟨w.heap.size,4,none⟩)) rfl ?_
    refine Zab (.slice (some a1) c.length cap) rfl (by rfl) (fun W hS=>by obtain ⟨⟨h1,h2⟩,-⟩:=hS;go_simp) ?_
    refine fs (.int .i64 i) rfl ?_
    refine fs (.pointer (some (a1.add (i * 5)))) rfl ?_
    refine Zab (.agg (nd5 x1.k x1.t x1.n x1.a y1)) rfl (by rfl) (fun W hS=>by obtain ⟨-,⟨h1,h2,h3,h4,h5⟩,-⟩:=hS;go_simp) ?_
    refine fs (.pointer (some ⟨w.heap.size + 1,4,none⟩)) rfl ?_
    refine Zab (.slice (some a2) c.length cap') rfl (by rfl) (fun W hS=>by obtain ⟨⟨h1,h2⟩,-⟩:=hS;go_simp) ?_
    refine fs (.int .i64 i) rfl ?_
    refine fs (.pointer (some (a2.add (i * 5)))) rfl ?_
    refine Zab (.agg (nd5 x2.k x2.t x2.n x2.a y2)) rfl (by rfl) (fun W hS=>by obtain ⟨-,-,h1,h2,h3,h4,h5⟩:=hS;go_simp) ?_
    refine Zap ?_
    have C2:Calls prog 19 #[.agg (nd5 x1.k x1.t x1.n x1.a y1),.agg (nd5 x2.k x2.t x2.n x2.a y2)] wr.drew (fun e w'=>e=.returned (.bool (Ziv x1 x2))∧Below wr.drew.heap.size wr.drew w'):=C1 wr.drew (by have:=Zgh (List.mem_of_getElem? HX.out.1);omega) (by have:=Zgh (List.mem_of_getElem? HX.out.2.1);omega) ⟨y1,rfl,ZaF HX.out.2.2.1 (Zbz (Below.refl _ _) 1)⟩ ⟨y2,rfl,ZaF HX.out.2.2.2.1 (Zbz (Below.refl _ _) 1)⟩ (by have:=HX.out.2.2.2.2.size;exact Nat.le_trans hB this)
    clear C1
    refine cs rfl fun K9 HK9=>?_
    go_wp2_with (go_at_call 19;(with_reducible refine C2.mono ?_);rintro e w93 ⟨rfl,h3⟩;have HB3:=hid (HW.out.trans (show Below (w.heap.size + 1 + 1) wr w93 from (Zbz (Below.refl _ _) 1:Below (w.heap.size + 1 + 1) wr wr.drew).trans (h3.mono (by have:=HW.out.size;have:=J.out.2.1;show _≤wr.heap.size;omega))));clear h3 C2)
    refine HK9.out _ _ (fun h=>by cases h) ?_
    refine cs rfl fun K9 HK9=>?_
    go_wp2_with fail
    refine HK9.out _ _ (fun h=>by cases h) ?_
    refine Zam ?_
    have HSA:=hid (ZoJ HX.out.1 HX.out.2.1)
    cases hsm:Ziv x1 x2 with
    | true=>
     have HSM:=hid hsm
     clear hsm
     go_wp2_with fail
     go_roundw
     case rel=>exact ⟨i + 1,by omega,by go_num,hid (by rw [HA.out,HSA.out,HSM.out,Bool.true_and]),HB3⟩
     case measure=>simp [intOf];omega
    | false=>
     have HSM:=hid hsm
     clear hsm
     go_wp2_with fail
     go_ret
     exact ⟨by rw [HN.out,HA.out,HSA.out,HSM.out];rfl,J.out.1.trans (HB3.out.mono (by omega))⟩
   ·have i1:decide ((i:Int) < (c.length:Int))=false:=by simp;omega
    have i2:decide (i < c.length)=false:=by simp;omega
    have hA:=HA.out
    rw [List.drop_eq_nil_of_le (by omega),List.drop_eq_nil_of_le (by have:=HLL.out;omega)] at hA
    have HE:=hid hA
    clear hA
    go_wp2_with fail
    go_ret
    exact ⟨by rw [HN.out,HE.out];rfl,J.out.1.trans (HW.out.mono (by omega))⟩
 ·have h1:=ZlX (l:=c) (m:=c')
  have HN:=hid (show Ziv (.mk k t n a c) (.mk k' t' n' a' c')=false from by
   cases hs:Ziv (.mk k t n a c) (.mk k' t' n' a' c') with
   | false=>rfl
   | true=>
    exfalso;apply hh
    rw [Ziv] at hs
    simp only [Bool.and_eq_true,beq_iff_eq] at hs
    exact ⟨hs.1.1.1,hs.1.1.2,hs.1.2,h1 hs.2⟩)
  have HB:=hid (((Below.refl w.heap.size w).alloc (Nat.le_refl _) (.cells (nd5 k t n a (.slice A c.length cap)) 24)).alloc (by simp) (.cells (nd5 k' t' n' a' (.slice A' c'.length cap')) 24))
  have q:=Zwv t t'
  clear ih hR hk hR' hk' h1
  by_cases h1:k=k'
  ·subst h1
   by_cases h2:t=t'
   ·subst h2
    by_cases h3:n=n'
    ·subst h3
     have h4:c.length≠c'.length:=fun e=>hh ⟨rfl,rfl,rfl,e⟩
     have i4:((c.length:Int) == (c'.length:Int))=false:=by simp;omega
     go_enter func19,ntmps19
     go_wp2_with fail
     go_ret
     exact ⟨by rw [HN.out];rfl,HB.out⟩
    ·have i3:(n == n')=false:=by simpa using h3
     go_enter func19,ntmps19
     go_wp2_with fail
     go_ret
     exact ⟨by rw [HN.out];rfl,HB.out⟩
   ·have i2:((mk t).toList == (mk t').toList)=false:=by rw [q];simpa using h2
    go_enter func19,ntmps19
    go_wp2_with fail
    go_ret
    exact ⟨by rw [HN.out];rfl,HB.out⟩
  ·have i1:(k == k')=false:=by simpa using h1
   go_enter func19,ntmps19
   go_wp2_with fail
   go_ret
   exact ⟨by rw [HN.out];rfl,HB.out⟩
open Go.RowKit L7
theorem Zw1 (x:Nd):∀(B:Nat) (v u:Value) (w:World),wt x≤20000000→NodeAt w B x v→NodeAt w B x u→B≤w.heap.size→
  Calls prog 25 #[v,u] w fun e w'=>e=.returned (.bool true)∧Below w.heap.size w w':=by
 induction x using S8.ZhH with
 | h k t n a c ih=>
 intro B v u w hwx hx hy hB
 obtain ⟨s,rfl,hk⟩:=hx
 obtain ⟨s',rfl,hk'⟩:=hy
 obtain ⟨A,cap,rfl,hc,hR⟩:=ZcG hk
 obtain ⟨A',cap',rfl,hc',hR'⟩:=ZcG hk'
 rw [Zm2] at hwx
 simp only [S8.Nd.c,S8.Nd.t,S8.Nd.k,S8.Nd.n,S8.Nd.a] at *
 obtain ⟨w0,hw0⟩:∃w0,w0=(w.alloc (.cells (nd5 k t n a (.slice A c.length cap)) 24)).alloc (.cells (nd5 k t n a (.slice A' c.length cap')) 24):=⟨_,rfl⟩
 have b0:Below w.heap.size w w0:=by rw [hw0];exact ((Below.refl w.heap.size w).alloc (Nat.le_refl _) _).alloc (by simp) _
 have s0:w0.heap.size=w.heap.size + 1 + 1:=by rw [hw0];simp
 have I0:Is w0 w.heap.size 24 (nd5 k t n a (.slice A c.length cap)):=by rw [hw0];exact (Is.fresh w 24 _).alloc _
 have I1:Is w0 (w.heap.size + 1) 24 (nd5 k t n a (.slice A' c.length cap')):=by
  rw [hw0];have:=Is.fresh (w.alloc (.cells (nd5 k t n a (.slice A c.length cap)) 24)) 24 (nd5 k t n a (.slice A' c.length cap'));simpa using this
 have W:=hid hw0
 have J:=hid (And.intro b0 (And.intro s0 (And.intro I0 I1)))
 have V:=hid (And.intro hR (And.intro hR' (And.intro hB (And.intro ih hwx))))
 have hlen:c.length≤100000:=by have:=ZfS c;omega
 have q:=Zwv t t
 clear ih hR hR' hk hk' hw0 b0 s0 I0 I1
 go_enter func25,ntmps25
 go_wp2_with fail
 rw [← W.out]
 go_loopw [5] (fun vi wr=>∃(i:Nat),i≤c.length∧vi=.int .i64 i∧Hid (Below (w.heap.size + 1 + 1) w0 wr)) (fun vi _=>c.length - (intOf vi).toNat)
 case atStart=>exact ⟨0,Nat.zero_le _,rfl,hid (Below.refl _ _)⟩
 case round=>
  obtain ⟨i,hi,rfl,HW⟩:=hrel
  have j0:=J.out.2.2.1.below HW.out (by have:=J.out.2.1;omega)
  have g0:=j0.at_ 4
  by_cases hl2:i < c.length
  ·obtain ⟨x1,hx⟩:∃x1,c[i]?=some x1:=⟨_,List.getElem?_eq_getElem hl2⟩
   have hW0:=J.out.1.trans (HW.out.mono (by omega))
   obtain ⟨a1,y1,rfl,ha,hk,d0,d1,d2,d3,d4⟩:=(V.out.1.below (hW0.mono V.out.2.2.1)).rowG (by have:=hW0.size;have:=V.out.2.2.1;omega) i x1 hx
   obtain ⟨a2,y2,rfl,ha2,hk2,f0,f1,f2,f3,f4⟩:=(V.out.2.1.below (hW0.mono V.out.2.2.1)).rowG (by have:=hW0.size;have:=V.out.2.2.1;omega) i x1 hx
   have j1:=J.out.2.2.2.below HW.out (by omega)
   have i1:decide ((i:Int) < (c.length:Int))=true:=by simp;omega
   have i2:(0:Int)≤i∧(i:Int) < (c.length:Int):=by omega
   have C1:=V.out.2.2.2.1 x1 (List.mem_of_getElem? hx) B (.agg (nd5 x1.k x1.t x1.n x1.a y1)) (.agg (nd5 x1.k x1.t x1.n x1.a y2))
   have HX:=hid (And.intro hx (And.intro hk (And.intro hk2 hW0)))
   have g1:=j1.at_ 4
   clear hx hk hk2 hW0 j0 j1 hl2
   go_wp2
   simp only [List.getElem?_toArray,List.getElem?_cons_succ,List.getElem?_cons_zero] at g0 g1
   refine Zao (fun W=>(W.cell? ⟨w.heap.size,4,none⟩=some (.slice (some a1) c.length cap)∧W.cell? ⟨w.heap.size + 1,4,none⟩=some (.slice (some a2) c.length cap'))∧(W.cell? (a1.add (i * 5))=some (.int .i64 x1.k)∧W.cell? ⟨(a1.add (i * 5)).block,(a1.add (i * 5)).off + 1,none⟩=some (.string (mk x1.t))∧W.cell? ⟨(a1.add (i * 5)).block,(a1.add (i * 5)).off + 2,none⟩=some (.int .i64 x1.n)∧W.cell? ⟨(a1.add (i * 5)).block,(a1.add (i * 5)).off + 3,none⟩=some (.int .i64 x1.a)∧W.cell? ⟨(a1.add (i * 5)).block,(a1.add (i * 5)).off + 4,none⟩=some y1)∧W.cell? (a2.add (i * 5))=some (.int .i64 x1.k)∧W.cell? ⟨(a2.add (i * 5)).block,(a2.add (i * 5)).off + 1,none⟩=some (.string (mk x1.t))∧W.cell? ⟨(a2.add (i * 5)).block,(a2.add (i * 5)).off + 2,none⟩=some (.int .i64 x1.n)∧W.cell? ⟨(a2.add (i * 5)).block,(a2.add (i * 5)).off + 3,none⟩=some (.int .i64 x1.a)∧W.cell? ⟨(a2.add (i * 5)).block,(a2.add (i * 5)).off + 4,none⟩=some y2) (fun j=>decide (j < 10)) [0,1,2,3,4,5,6,7,8,9] [10,11] (by kernel_rfl) (by kernel_rfl) (fun c a a W hd hq=>?hq) ⟨⟨g0,g1⟩,⟨d0,d1,d2,d3,d4⟩,f0,f1,f2,f3,f4⟩ ?_
   case hq=>exact ⟨hd▸hq.1,hq.2⟩
   clear d0 d1 d2 d3 d4 f0 f1 f2 f3 f4 g0 g1
   refine fs (.pointer (some ⟨w.heap.size,4,none⟩)) rfl ?_
   refine Zab (.slice (some a1) c.length cap) rfl (by rfl) (fun W hS=>by obtain ⟨⟨h1,h2⟩,-⟩:=hS;go_simp) ?_
   refine fs (.int .i64 i) rfl ?_
   refine fs (.pointer (some (a1.add (i * 5)))) rfl ?_
   refine Zab (.agg (nd5 x1.k x1.t x1.n x1.a y1)) rfl (by rfl) (fun W hS=>by obtain ⟨-,⟨h1,h2,h3,h4,h5⟩,-⟩:=hS;go_simp) ?_
   refine fs (.pointer (some ⟨w.heap.size + 1,4,none⟩)) rfl ?_
   refine Zab (.slice (some a2) c.length cap') rfl (by rfl) (fun W hS=>by obtain ⟨⟨h1,h2⟩,-⟩:=hS;go_simp) ?_
   refine fs (.int .i64 i) rfl ?_
   refine fs (.pointer (some (a2.add (i * 5)))) rfl ?_
   refine Zab (.agg (nd5 x1.k x1.t x1.n x1.a y2)) rfl (by rfl) (fun W hS=>by obtain ⟨-,-,h1,h2,h3,h4,h5⟩:=hS;go_simp) ?_
   refine Zap ?_
   have C2:Calls prog 25 #[.agg (nd5 x1.k x1.t x1.n x1.a y1),.agg (nd5 x1.k x1.t x1.n x1.a y2)] wr.drew (fun e w'=>e=.returned (.bool true)∧Below wr.drew.heap.size wr.drew w'):=C1 wr.drew (by have:=Zgh (List.mem_of_getElem? HX.out.1);have:=V.out.2.2.2.2;omega) ⟨y1,rfl,ZaF HX.out.2.1 (Zbz (Below.refl _ _) 1)⟩ ⟨y2,rfl,ZaF HX.out.2.2.1 (Zbz (Below.refl _ _) 1)⟩ (by have:=HX.out.2.2.2.size;exact Nat.le_trans hB this)
   clear C1
   refine cs rfl fun K9 HK9=>?_
   go_wp2_with (go_at_call 25;(with_reducible refine C2.mono ?_);rintro e w93 ⟨rfl,h3⟩;have HB3:=hid (HW.out.trans (show Below (w.heap.size + 1 + 1) wr w93 from (Zbz (Below.refl _ _) 1:Below (w.heap.size + 1 + 1) wr wr.drew).trans (h3.mono (by have:=HW.out.size;have:=J.out.2.1;show _≤wr.heap.size;omega))));clear h3 C2)
   refine HK9.out _ _ (fun h=>by cases h) ?_
   refine cs rfl fun K9 HK9=>?_
   go_wp2_with fail
   refine HK9.out _ _ (fun h=>by cases h) ?_
   refine Zam ?_
   go_wp2_with fail
   go_roundw
   case rel=>exact ⟨i + 1,by omega,by go_num,HB3⟩
   case measure=>simp [intOf];omega
  ·have i1:decide ((i:Int) < (c.length:Int))=false:=by simp;omega
   have i2:decide (i < c.length)=false:=by simp;omega
   clear j0
   go_wp2_with fail
   go_ret
   exact ⟨rfl,J.out.1.trans (HW.out.mono (by omega))⟩
end Go.Proofs.YtaheffiglmglbaaGreatDoor
