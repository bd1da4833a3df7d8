import Derived.WalkLawsBesides
import Derived.Recover
import Derived.Laws.AppendOwnNone
import Derived.Maps.AppendAt
import Derived.Test.YtaheffiglmglbaaGreatDoorKQa
import Derived.Test.YtaheffiglmglbaaGreatDoorKLc
/- Par, Tok, Push, List, Rows2, Between, Node, Chain. -/
set_option maxHeartbeats 8000000
set_option maxRecDepth 20000
namespace Go.Proofs.YtaheffiglmglbaaGreatDoor
open Go.Proofs.Tryz
open Go.RowKit L7
structure Pg where
 toks:List PTok
 A:Option Addr
 cap:Nat
 size:Nat
 lv:Nat
structure Env (w:World) (b:Nat) (S:Pg):Prop where
 tok:ToksIn w b S.A S.toks
 map:MapHas w S.lv
 lt:S.lv < b
 cap:S.toks.length≤S.cap
 num:S.toks.length≤32768
 size:S.size≤32768
 ok:S8.Zzc (S.toks.map Prod.fst)=true
 txt:∀t∈S.toks,t.1.t.length≤32768
structure Ps (w:World) (b:Nat) (S:Pg) (i:Nat) (h:Bool):Prop where
 is:Is w b 91 #[.slice S.A S.toks.length S.cap,.int .i64 (i:Int),.int .i64 (S.size:Int),.map (some S.lv),.bool h]
 le:i≤S.toks.length
 env:Env w b S
def place (S:Pg) (i:Nat):Int:=match S.toks[i]? with
 | some t=>t.2
 | none=>S.size
def ZaK (S:Pg) (i:Nat):Tk:=match S.toks[i]? with
 | some t=>t.1
 | none=>⟨0,[],0⟩
def Zag (S:Pg) (i:Nat):Bs:=if (ZaK S i).k=1∨(ZaK S i).k=4 then (ZaK S i).t else []
section
variable {w w':World} {b:Nat} {S:Pg} {i:Nat} {h:Bool}
theorem Env.stay (k:Env w b S) (hb:∀g,g < b→w'.heap[g]?=w.heap[g]?):Env w' b S:=
 ⟨fun j x hx=>by
  obtain ⟨a,h1,h2,h3⟩:=k.tok j x hx
  refine ⟨a,h1,h2,fun c u hu=>?_⟩
  rw [← h3 c u hu]
  unfold World.cell?
  rw [Zdt,hb _ h2],k.map.stay (hb _ k.lt),k.lt,k.cap,k.num,k.size,k.ok,k.txt⟩
theorem Ps.lt (k:Ps w b S i h):b < w.heap.size:=k.is.lt
theorem Ps.below {B:Nat} (k:Ps w b S i h) (hb:Below B w w') (hB:b < B):Ps w' b S i h:=⟨k.is.below hb hB,k.le,k.env.stay fun g hg=>hb.block g (by omega)⟩
theorem Ps.alloc (k:Ps w b S i h) (o:Obj):Ps (w.alloc o) b S i h:=⟨k.is.alloc o,k.le,k.env.stay fun g hg=>Below.heap_alloc w o g (by have:=k.lt;omega)⟩
theorem Ps.away (k:Ps w b S i h) {a:Addr} (ha:b < a.block) (u:Value):Ps (w.setCell a u) b S i h:=⟨k.is.away (by omega) u,k.le,k.env.stay fun g hg=>Below.heap_setCell w a u g (by omega)⟩
theorem Ps.next (k:Ps w b S i h) {j:Nat} (hj:j≤S.toks.length):Ps (w.setCell ⟨b,1,none⟩ (.int .i64 (j:Int))) b S j h:=⟨k.is.put 1 _,hj,k.env.stay fun g hg=>Below.heap_setCell w _ _ g (by show g≠b;omega)⟩
theorem Ps.head (k:Ps w b S i h) (h':Bool):Ps (w.setCell ⟨b,4,none⟩ (.bool h')) b S i h':=⟨k.is.put 4 _,k.le,k.env.stay fun g hg=>Below.heap_setCell w _ _ g (by show g≠b;omega)⟩
theorem Ps.kept {g:Nat} (k:Ps w b S i h) (hg:w.grownBy w' (some g)) (hb:b < g):Ps w' b S i h:=
 ⟨k.is.kept hg (by simp;omega),k.le,k.env.stay fun j hj=>hg.block j (by have:=k.lt;omega) (by simp;omega)⟩
end
theorem Zrm {S:Pg} {i:Nat} (h:S.toks.length=i):place S i=S.size:=by unfold place;rw [List.getElem?_eq_none (by omega)]
theorem Zvt {S:Pg} {i:Nat} (h:S.toks.length=i):ZaK S i=⟨0,[],0⟩:=by unfold ZaK;rw [List.getElem?_eq_none (by omega)]
theorem Zdp {S:Pg} {i:Nat} {t:PTok} (h:S.toks[i]?=some t):place S i=t.2:=by unfold place;rw [h]
theorem Ze0 {S:Pg} {i:Nat} {t:PTok} (h:S.toks[i]?=some t):ZaK S i=t.1:=by unfold ZaK;rw [h]
theorem Zdq (b:Nat) (S:Pg) (i:Nat) (h:Bool) (w:World) (hp:Ps w b S i h) :
  Calls prog 59 #[.pointer (some ⟨b,0,none⟩)] w fun e w'=>e=.returned (.int .i64 (place S i))∧Below w.heap.size w w':=by
 have HE:=hid hp.env
 have c0:w.cell? ⟨b,0,none⟩=some (.slice S.A S.toks.length S.cap):=hp.is.at_ 0
 have c1:w.cell? ⟨b,1,none⟩=some (.int .i64 (i:Int)):=hp.is.at_ 1
 have c2:w.cell? ⟨b,2,none⟩=some (.int .i64 (S.size:Int)):=hp.is.at_ 2
 have hle:=hp.le
 by_cases hi:i < S.toks.length
 ·have hn:((i:Int) == (S.toks.length:Int))=false:=by simp;omega
  obtain ⟨x,hx⟩:∃x,S.toks[i]?=some x:=⟨_,List.getElem?_eq_getElem hi⟩
  obtain ⟨a,hA,hat,d0,d1,d2,d3⟩:=HE.out.tok.at_ hx
  have hbn:(0:Int)≤(i:Int)∧(i:Int) < (S.toks.length:Int):=by omega
  rw [Zdp hx]
  rw [hA] at c0
  clear hx hA
  go_enter func59,ntmps59
  go_wp2
  go_quiet (fail)
  go_wp2
  go_quiet (fail)
  go_wp2
  go_ret
  exact ⟨rfl,Zbz (Zbz (Below.refl _ _) _) _⟩
 ·have hn:((i:Int) == (S.toks.length:Int))=true:=by simp;omega
  rw [Zrm (by omega)]
  go_enter func59,ntmps59
  go_wp2
  go_quiet (fail)
  go_wp2
  go_ret
  exact ⟨rfl,Zbz (Below.refl _ _) _⟩
theorem inf42:(prog.info? 42).map (·.size)=some 4:=by kernel_rfl
theorem inf24:(prog.info? 24).map (·.size)=some 5:=by kernel_rfl
theorem inf3:(prog.info? 3).map (·.size)=some 1:=by kernel_rfl
theorem inf9:(prog.info? 9).map (·.size)=some 1:=by kernel_rfl
theorem inf22:(prog.info? 22).map (·.size)=some 1:=by kernel_rfl
theorem ret24 {fn:Func} {p:Tmp} {R:Ending→World→Prop} {a:Act} {w:World} {g:Nat} {cs:Array Value} (h:fn.results=#[.cell p 24]) (hi:Is w g 24 cs) (hR:R (.returned (.agg cs)) w) (hp:a.tmps.getD p undef=.pointer (some ⟨g,0,none⟩):=by rfl) (hc:some 5=some cs.size:=by rfl) (hd:a.defers=[]:=by rfl):bodyPost prog fn R .ret a w:=
 bodyPost_ret (results_cell_row h _ _ g 24 cs (0,0) _ hp hi underlying24 rfl (inf24.trans hc)) hd hR
theorem Zdz (b:Nat) (S:Pg) (i:Nat) (h:Bool) (w:World) (hp:Ps w b S i h) :
  Calls prog 118 #[.pointer (some ⟨b,0,none⟩)] w fun e w'=>e=.returned (.agg #[.int .i64 (ZaK S i).k,.string (mk (ZaK S i).t),.int .i64 (ZaK S i).n,.int .i64 (if i < S.toks.length then place S i else 0)])∧Below w.heap.size w w':=by
 have HE:=hid hp.env
 have c0:w.cell? ⟨b,0,none⟩=some (.slice S.A S.toks.length S.cap):=hp.is.at_ 0
 have c1:w.cell? ⟨b,1,none⟩=some (.int .i64 (i:Int)):=hp.is.at_ 1
 have hle:=hp.le
 have hlt:=hp.lt
 have hne:w.heap.size≠b:=by omega
 by_cases hi:i < S.toks.length
 ·have hn:((i:Int) == (S.toks.length:Int))=false:=by simp;omega
  obtain ⟨x,hx⟩:∃x,S.toks[i]?=some x:=⟨_,List.getElem?_eq_getElem hi⟩
  obtain ⟨a,hA,hat,d0,d1,d2,d3⟩:=HE.out.tok.at_ hx
  have hbn:(0:Int)≤(i:Int)∧(i:Int) < (S.toks.length:Int):=by omega
  rw [if_pos hi,Zdp hx,Ze0 hx]
  rw [hA] at c0
  have hne2:(a.add (i * 4)).block≠w.heap.size:=by omega
  have hB:Below w.heap.size w (w.alloc (.cells #[.int .i64 0,.string ⟨#[]⟩,.int .i64 0,.int .i64 0] 42)):=(Below.refl _ _).alloc (Nat.le_refl _) _
  have e0:=(hB.cell (p:=a.add (i * 4)) (by omega)).trans d0
  have e1:=(hB.cell (p:=⟨(a.add (i * 4)).block,(a.add (i * 4)).off + 1,none⟩) (show (a.add (i * 4)).block < _ by omega)).trans d1
  have e2:=(hB.cell (p:=⟨(a.add (i * 4)).block,(a.add (i * 4)).off + 2,none⟩) (show (a.add (i * 4)).block < _ by omega)).trans d2
  have e3:=(hB.cell (p:=⟨(a.add (i * 4)).block,(a.add (i * 4)).off + 3,none⟩) (show (a.add (i * 4)).block < _ by omega)).trans d3
  have HB:=hid hB
  clear hx hA hB
  go_enter func118,ntmps118
  go_wp2
  go_quiet (fail)
  go_wp2
  go_region
  have J:Is ((((((w.alloc (.cells #[.int .i64 0,.string ⟨#[]⟩,.int .i64 0,.int .i64 0] 42)).drewN (nq + 1)).setCell ⟨w.heap.size,0,none⟩ (.int .i64 x.1.k)).setCell ⟨w.heap.size,1,none⟩ (.string (mk x.1.t))).setCell ⟨w.heap.size,2,none⟩ (.int .i64 x.1.n)).setCell ⟨w.heap.size,3,none⟩ (.int .i64 x.2)) w.heap.size 42 #[.int .i64 x.1.k,.string (mk x.1.t),.int .i64 x.1.n,.int .i64 x.2]:=(((((show Is ((w.alloc (.cells #[.int .i64 0,.string ⟨#[]⟩,.int .i64 0,.int .i64 0] 42)).drewN (nq + 1)) w.heap.size 42 _ from Is.fresh w 42 _)).put 0 _).put 1 _).put 2 _).put 3 _
  have JB:Below w.heap.size w ((((((w.alloc (.cells #[.int .i64 0,.string ⟨#[]⟩,.int .i64 0,.int .i64 0] 42)).drewN (nq + 1)).setCell ⟨w.heap.size,0,none⟩ (.int .i64 x.1.k)).setCell ⟨w.heap.size,1,none⟩ (.string (mk x.1.t))).setCell ⟨w.heap.size,2,none⟩ (.int .i64 x.1.n)).setCell ⟨w.heap.size,3,none⟩ (.int .i64 x.2)):=
   ((((Zbz HB.out (nq + 1)).setCell (Nat.le_refl _) _).setCell (Nat.le_refl _) _).setCell (Nat.le_refl _) _).setCell (Nat.le_refl _) _
  clear e0 e1 e2 e3
  generalize World.setCell _ ⟨w.heap.size,3,none⟩ _=W at J JB ⊢
  have HJ:=hid J
  have HJB:=hid JB
  clear J JB
  go_wp2
  refine bodyPost_ret (v:=.agg #[.int .i64 x.1.k,.string (mk x.1.t),.int .i64 x.1.n,.int .i64 x.2]) (results_cell_row results118 _ _ w.heap.size 42 _ (0,0) _ rfl HJ.out underlying42 rfl inf42) rfl ⟨rfl,HJB.out⟩
 ·have hn:((i:Int) == (S.toks.length:Int))=true:=by simp;omega
  rw [if_neg hi,Zvt (by omega)]
  go_enter func118,ntmps118
  go_wp2_with fail
  go_quiet (fail)
  go_wp2
  have J0:Is ((w.alloc (.cells #[.int .i64 0,.string ⟨#[]⟩,.int .i64 0,.int .i64 0] 42)).drewN nq) w.heap.size 42 #[.int .i64 0,.string ⟨#[]⟩,.int .i64 0,.int .i64 0]:=Is.fresh w 42 _
  have J1:Below w.heap.size w ((w.alloc (.cells #[.int .i64 0,.string ⟨#[]⟩,.int .i64 0,.int .i64 0] 42)).drewN nq):=Zbz ((Below.refl _ _).alloc (Nat.le_refl _) _) _
  refine bodyPost_ret (v:=.agg #[.int .i64 0,.string ⟨#[]⟩,.int .i64 0,.int .i64 0]) (results_cell_row results118 _ _ w.heap.size 42 #[.int .i64 0,.string ⟨#[]⟩,.int .i64 0,.int .i64 0] (0,0) _ rfl ((((J0.put 0 _).put 1 _).put 2 _).put 3 _) underlying42 rfl inf42) rfl
   ⟨rfl,(((J1.setCell (Nat.le_refl _) _).setCell (Nat.le_refl _) _).setCell (Nat.le_refl _) _).setCell (Nat.le_refl _) _⟩
theorem Zau (b:Nat) (S:Pg) (i:Nat) (h:Bool) (w:World) (hp:Ps w b S i h) :
  Calls prog 60 #[.pointer (some ⟨b,0,none⟩)] w fun e w'=>e=.returned (.string (mk (Zag S i)))∧Below w.heap.size w w':=by
 have T:=Zdz b S i h w hp
 have HW:Hid (Zag S i=if (ZaK S i).k=1∨(ZaK S i).k=4 then (ZaK S i).t else []):=hid rfl
 obtain ⟨p,hpp⟩:∃p,p=(if i < S.toks.length then place S i else 0):=⟨_,rfl⟩
 obtain ⟨k,hk⟩:∃k,k=(ZaK S i).k:=⟨_,rfl⟩
 obtain ⟨n,hn⟩:∃n,n=(ZaK S i).n:=⟨_,rfl⟩
 rw [← hpp,← hk,← hn] at T
 rw [← hk] at HW
 clear hpp hk hn
 go_enter func60,ntmps60
 go_wp2_with (go_at_call 118;refine T.mono ?_;rintro e w1 ⟨rfl,h1⟩;have B1:=hid h1;clear h1)
 all_goals (go_ret;refine ⟨?_,B1.out.alloc B1.out.size _⟩;rw [HW.out];first | rfl | (simp_all;rfl) | (simp_all;done))
theorem ZaL {S:Pg} {i:Nat} (h:Zag S i≠[]):i < S.toks.length:=by
 by_cases hi:i < S.toks.length
 ·exact hi
 ·exfalso;apply h
  unfold Zag ZaK
  rw [List.getElem?_eq_none (by omega)];rfl
theorem ZcR (b:Nat) (S:Pg) (i:Nat) (h:Bool) (w:World) (hp:Ps w b S i h) (s:ByteArray) (hs:Zag S i=ls s) (hs0:ls s≠[]) :
  Calls prog 186 #[.pointer (some ⟨b,0,none⟩),.string s] w fun e w'=>e=.returned (.bool true)∧Ps w' b S (i + 1) h∧w.grownBy w' (some b):=by
 have T:=Zau b S i h w hp
 have HP:=hid hp
 have hle:=ZaL (by rw [hs];exact hs0)
 have hn:i≤32768:=by have:=hp.env.num;omega
 rw [hs,Zt1] at T
 clear hs hs0 hp
 go_enter func186,ntmps186
 go_wp2_with (go_at_call 60;refine T.mono ?_;rintro e w1 ⟨rfl,h1⟩;have B1:=hid h1;have P1:=HP.out.below h1 HP.out.lt;have HP1:=hid P1;have c1:w1.cell? ⟨b,1,none⟩=some (.int .i64 (i:Int)):=P1.is.at_ 1;have z1:=P1.is.open_ 1;clear h1 P1)
 go_ret
 exact ⟨rfl,HP1.out.next (j:=i + 1) (by omega),ZcJ (Zaj B1.out) 1 _⟩
theorem ZdC (b:Nat) (S:Pg) (i:Nat) (h:Bool) (w:World) (hp:Ps w b S i h) (s:ByteArray) (hs:Zag S i≠ls s) :
  Calls prog 186 #[.pointer (some ⟨b,0,none⟩),.string s] w fun e w'=>e=.returned (.bool false)∧Ps w' b S i h∧w.grownBy w' (some b):=by
 have T:=Zau b S i h w hp
 have HP:=hid hp
 obtain ⟨u,hu⟩:∃u,u=mk (Zag S i):=⟨_,rfl⟩
 rw [← hu] at T
 have hne:(u.toList == s.toList)=false:=by
  rw [Zas,Zas,hu,Zbc];simpa using hs
 clear hs hp hu
 go_enter func186,ntmps186
 go_wp2_with (go_at_call 60;refine T.mono ?_;rintro e w1 ⟨rfl,h1⟩;have B1:=hid h1;have HP1:=hid (HP.out.below h1 HP.out.lt);clear h1)
 go_ret
 exact ⟨rfl,HP1.out,Zaj B1.out⟩
def pan:List PanicEntry:=[{ v:=.iface 103 (.agg #[]),recovered:=false }]
theorem Za6 (b:Nat) (S:Pg) (i:Nat) (h:Bool) (w:World) (hp:Ps w b S i h) (s:ByteArray) (hs:Zag S i=ls s) (hs0:ls s≠[]) :
  Calls prog 119 #[.pointer (some ⟨b,0,none⟩),.string s] w fun e w'=>e=.returned (.tuple #[])∧Ps w' b S (i + 1) h∧w.grownBy w' (some b):=by
 have T:=ZcR b S i h w hp s hs hs0
 clear hs hs0 hp
 go_enter func119,ntmps119
 go_wp2_with (go_at_call 186;refine T.mono ?_;rintro e w1 ⟨rfl,h1,h2⟩;have HP1:=hid h1;have B1:=hid h2;clear h1 h2)
 go_end0
 exact ⟨rfl,HP1.out,B1.out⟩
theorem Znc (b:Nat) (S:Pg) (i:Nat) (h:Bool) (w:World) (hp:Ps w b S i h) (s:ByteArray) (hs:Zag S i≠ls s) :
  Calls prog 119 #[.pointer (some ⟨b,0,none⟩),.string s] w fun e w'=>e=.panicked pan∧Ps w' b S i h∧w.grownBy w' (some b):=by
 have T:=ZdC b S i h w hp s hs
 clear hs hp
 go_enter func119,ntmps119
 go_wp2_with (go_at_call 186;refine T.mono ?_;rintro e w1 ⟨rfl,h1,h2⟩;have HP1:=hid h1;have B1:=hid h2;clear h1 h2)
 trace_state
 exact ⟨rfl,rfl,HP1.out,B1.out⟩
open Go.RowKit L7
def Post {α:Type} (w:World) (b:Nat) (S:Pg) (i:Nat) (h:Bool) (r:S8.Res α) (V:α→Value→World→Prop) (e:Ending) (w':World):Prop:=
 w.grownBy w' (some b)∧match r with
  | .out=>False
  | .err a=>e=.panicked pan∧∃j h',Ps w' b S j h'∧place S j=a
  | .ok x l=>∃j v,e=.returned v∧l=S.toks.drop j∧i≤j∧Ps w' b S j h∧V x v w'
theorem Post.ways {α:Type} {w w':World} {b:Nat} {S:Pg} {i:Nat} {h:Bool} {r:S8.Res α} {V:α→Value→World→Prop} {e:Ending} (k:Post w b S i h r V e w') :
  (∃a j h',r=.err a∧e=.panicked pan∧w.grownBy w' (some b)∧Ps w' b S j h'∧place S j=a)∨(∃x j v,r=.ok x (S.toks.drop j)∧e=.returned v∧w.grownBy w' (some b)∧i≤j∧Ps w' b S j h∧V x v w'):=by
 obtain ⟨g,k⟩:=k
 cases r with
 | out=>exact k.elim
 | err a=>obtain ⟨e1,j,h',p,q⟩:=k;exact .inl ⟨a,j,h',rfl,e1,g,p,q⟩
 | ok x l=>obtain ⟨j,v,e1,e2,e3,e4,e5⟩:=k;subst e2;exact .inr ⟨x,j,v,rfl,e1,g,e3,e4,e5⟩
theorem Post.err {α:Type} {w w':World} {b:Nat} {S:Pg} {i j:Nat} {h h':Bool} {r:S8.Res α} {V:α→Value→World→Prop} (hr:r=.err (place S j)) (g:w.grownBy w' (some b)) (p:Ps w' b S j h'):Post w b S i h r V (.panicked pan) w':=by
 subst hr;exact ⟨g,rfl,j,h',p,rfl⟩
theorem Post.ok {α:Type} {w w':World} {b:Nat} {S:Pg} {i j:Nat} {h:Bool} {r:S8.Res α} {V:α→Value→World→Prop} {x:α} {v:Value} (hr:r=.ok x (S.toks.drop j)) (g:w.grownBy w' (some b)) (p:Ps w' b S j h) (hj:i≤j) (hv:V x v w'):Post w b S i h r V (.returned v) w':=by
 subst hr;exact ⟨g,j,v,rfl,rfl,hj,p,hv⟩
theorem ZdK {S:Pg} {i:Nat} {t:PTok} (h:S.toks[i]?=some t):S.toks.drop i=t::S.toks.drop (i + 1):=by
 obtain ⟨hl,he⟩:=List.getElem?_eq_some_iff.1 h
 rw [List.drop_eq_getElem_cons hl,he]
theorem ZdL {S:Pg} {i:Nat} (h:S.toks[i]?=none):S.toks.drop i=[]:=List.drop_eq_nil_of_le (by simpa using h)
theorem Zpd {S:Pg} {i:Nat} {t:PTok} (h:S.toks[i]?=some t) {s:Bs} (hs:s≠[]):S8.isW s t.1=decide (Zag S i=s):=by
 rw [Bool.eq_iff_iff,decide_eq_true_eq]
 unfold S8.isW Zag
 rw [Ze0 h]
 simp only [Bool.and_eq_true,Bool.or_eq_true,beq_iff_eq]
 constructor
 ·rintro ⟨h1,h2⟩
  rw [if_pos (by rcases h1 with h1 | h1 <;> simp [h1])];exact h2
 ·intro h1
  split at h1
  ·rename_i h2
   exact ⟨by rcases h2 with h2 | h2 <;> simp [h2],h1⟩
  ·exact absurd h1.symm hs
theorem ZiX {S:Pg} {i:Nat} (h:S.toks[i]?=none):Zag S i=[]:=by unfold Zag ZaK;rw [h];rfl
theorem Zay (S:Pg) (i:Nat) {s:Bs} (hs:s≠[]):S8.must s S.size (S.toks.drop i)=if Zag S i=s then .ok (ZaK S i) (S.toks.drop (i + 1)) else .err (place S i):=by
 cases h:S.toks[i]? with
 | none=>
  rw [ZdL h,ZiX h,if_neg (fun e=>hs e.symm),place,h];rfl
 | some t=>
  rw [ZdK h]
  obtain ⟨t1,t2⟩:=t
  unfold S8.must
  rw [S8.Zbs,Zpd (S:=S) (t:=(t1,t2)) h hs,Zdp h,Ze0 h]
  by_cases hw:Zag S i=s
  ·rw [if_pos (by simpa using hw),if_pos hw]
  ·rw [if_neg (by simpa using hw),if_neg hw]
theorem Zaf (S:Pg) (i:Nat) {s:Bs} (hs:s≠[]):S8.ZaC s S.size (S.toks.drop i)=.ok (decide (Zag S i=s)) (S.toks.drop i):=by
 cases h:S.toks[i]? with
 | none=>
  rw [ZdL h,ZiX h,S8.Zro]
  rw [show decide (([]:Bs)=s)=false by simpa using hs]
 | some t=>
  rw [ZdK h]
  obtain ⟨t1,t2⟩:=t
  rw [S8.ZaI,Zpd (S:=S) (t:=(t1,t2)) h hs]
theorem Zbd (b:Nat) (S:Pg) (i:Nat) (h:Bool) (w:World) (hp:Ps w b S i h) (s:ByteArray) (hs:ls s≠[]) :
  Calls prog 119 #[.pointer (some ⟨b,0,none⟩),.string s] w (Post w b S i h (S8.must (ls s) S.size (S.toks.drop i)) fun _ v _=>v=.tuple #[]):=by
 rw [Zay S i hs]
 by_cases hw:Zag S i=ls s
 ·rw [if_pos hw]
  exact (Za6 b S i h w hp s hw hs).mono fun e w' ⟨h1,h2,h3⟩=>⟨h3,i + 1,_,h1,rfl,by omega,h2,rfl⟩
 ·rw [if_neg hw]
  exact (Znc b S i h w hp s hw).mono fun e w' ⟨h1,h2,h3⟩=>⟨h3,h1,i,h,h2,rfl⟩
def Zf8 (f:Bs→Bool):S8.P Bs:=do let t ← S8.Zed (fun t=>t.k == 1 && f t.t);pure t.t
theorem Zk1 (f:Bs→Bool) (S:Pg) (i:Nat):Zf8 f S.size (S.toks.drop i)=if (ZaK S i).k=1∧f (ZaK S i).t=true then .ok (ZaK S i).t (S.toks.drop (i + 1)) else .err (place S i):=by
 unfold Zf8
 rw [S8.Zac]
 cases h:S.toks[i]? with
 | none=>
  rw [ZdL h,ZaK,h,if_neg (by simp),place,h];rfl
 | some t=>
  rw [ZdK h,Zdp h,Ze0 h]
  obtain ⟨t1,t2⟩:=t
  rw [S8.Zbs]
  by_cases hw:t1.k=1∧f t1.t=true
  ·rw [if_pos (by simpa using hw),if_pos hw];rfl
  ·rw [if_neg (by simpa using hw),if_neg hw]
theorem ZnX (S:Pg) (i:Nat):S8.number S.size (S.toks.drop i)=if (ZaK S i).k=2 then .ok (ZaK S i).n (S.toks.drop (i + 1)) else .err (place S i):=by
 unfold S8.number
 rw [S8.Zac]
 cases h:S.toks[i]? with
 | none=>
  rw [ZdL h,ZaK,h,if_neg (by simp),place,h];rfl
 | some t=>
  rw [ZdK h,Zdp h,Ze0 h]
  obtain ⟨t1,t2⟩:=t
  rw [S8.Zbs]
  by_cases hw:t1.k=2
  ·rw [if_pos (by simpa using hw),if_pos hw];rfl
  ·rw [if_neg (by simpa using hw),if_neg hw]
theorem Zep {S:Pg} {i:Nat} (h:(ZaK S i).k≠0):i < S.toks.length:=by
 by_cases hi:i < S.toks.length
 ·exact hi
 ·exfalso;apply h
  unfold ZaK
  rw [List.getElem?_eq_none (by omega)]
theorem tok_ok {w:World} {b:Nat} {S:Pg} {i:Nat} (k:Env w b S) (h:(ZaK S i).k≠0):S8.okT (ZaK S i)=true:=by
 have hi:=Zep h
 have h1:=k.ok
 rw [S8.Zzc,List.all_eq_true] at h1
 unfold ZaK
 rw [List.getElem?_eq_getElem hi]
 exact h1 _ (List.mem_map.2 ⟨_,List.getElem_mem hi,rfl⟩)
theorem Zgx {t:Tk} (hk:t.k=1) (h:S8.okT t=true):ZbM t.t=true:=by
 unfold S8.okT at h
 simp [hk] at h
 exact h.2
theorem Zmk {t:Bs} (h:ZbM t=true):∃c r,t=c::r∧Ziz c=true:=by
 cases t with
 | nil=>cases h
 | cons c r=>exact ⟨c,r,rfl,by simp [ZbM] at h;exact h.1⟩
theorem ZiJ {t:Bs} (h:ZbM t=true):Zhq t=S8.ZbF t:=by
 obtain ⟨c,r,rfl,hc⟩:=Zmk h
 unfold Zhq S8.ZbF
 rw [h]
 rw [Zlf] at hc
 simp only [Bool.or_eq_true,Bool.and_eq_true,decide_eq_true_eq] at hc
 rw [Bool.eq_iff_iff]
 simp
 omega
theorem Zha {t:Bs} (h:ZbM t=true):ZiP t=S8.Zcf t:=by
 obtain ⟨c,r,rfl,hc⟩:=Zmk h
 unfold ZiP S8.Zcf
 rw [h]
 rw [Zlf] at hc
 simp only [Bool.or_eq_true,Bool.and_eq_true,decide_eq_true_eq] at hc
 rw [Bool.eq_iff_iff]
 simp
 omega
theorem ZgS {w:World} {b:Nat} {S:Pg} (k:Env w b S) (i:Nat) {f g:Bs→Bool} (hfg:∀t,ZbM t=true→f t=g t):Zf8 f S.size (S.toks.drop i)=Zf8 g S.size (S.toks.drop i):=by
 rw [Zk1,Zk1]
 by_cases h1:(ZaK S i).k=1
 ·rw [hfg _ (Zgx h1 (tok_ok k (by rw [h1];decide)))]
 ·rw [if_neg (fun h=>h1 h.1),if_neg (fun h=>h1 h.1)]
theorem Zyi {w:World} {b:Nat} {S:Pg} (k:Env w b S) (i:Nat):S8.low S.size (S.toks.drop i)=Zf8 Zhq S.size (S.toks.drop i):=(ZgS k i (fun _ h=>(ZiJ h).symm):Zf8 S8.ZbF _ _=_)
theorem ZyS {w:World} {b:Nat} {S:Pg} (k:Env w b S) (i:Nat):S8.up S.size (S.toks.drop i)=Zf8 ZiP S.size (S.toks.drop i):=(ZgS k i (fun _ h=>(Zha h).symm):Zf8 S8.Zcf _ _=_)
theorem Zyf {w:World} {b:Nat} {S:Pg} (k:Env w b S) (i:Nat):S8.Zdn S.size (S.toks.drop i)=Zf8 (fun t=>ZiP t || t == S8.ZhX) S.size (S.toks.drop i):=
 (ZgS k i (fun _ h=>by rw [Zha h]):Zf8 (fun t=>S8.Zcf t || t == S8.ZhX) _ _=_)
theorem Zfz {w w1:World} {b:Nat} (h:Below w.heap.size w w1) (o:Obj):w.grownBy (w1.alloc o) (some b):=Zaj (h.alloc h.size o)
theorem ZiH (K:Nat) (f:Bs→Bool) (hK:∀(args:Array Value) (w:World),(callFunc K args).run prog w=.ok (.enter K args) w) (hf:∀s w,Calls prog K #[.string s] w fun e w'=>e=.returned (.bool (f (ls s)))∧w=w') (b:Nat) (S:Pg) (i:Nat) (h:Bool) (w:World) (hp:Ps w b S i h) :
  Calls prog 190 #[.pointer (some ⟨b,0,none⟩),.func (.func K) #[] #[]] w (Post w b S i h (Zf8 f S.size (S.toks.drop i)) fun x v _=>v=.string (mk x)):=by
 rw [Zk1]
 have T:=Zdz b S i h w hp
 have HP:=hid hp
 obtain ⟨t,ht⟩:∃t,t=ZaK S i:=⟨_,rfl⟩
 have hi:t.k=1→i < S.toks.length∧i≤32768:=fun hk=>by
  have h1:=Zep (S:=S) (i:=i) (by rw [← ht,hk];decide)
  have:=hp.env.num
  omega
 rw [← ht] at T ⊢
 obtain ⟨p,hpp⟩:∃p,p=(if i < S.toks.length then place S i else 0):=⟨_,rfl⟩
 rw [← hpp] at T
 have F:=hf (mk t.t)
 rw [Zbc] at F
 clear hpp hp ht hf
 by_cases hk:t.k=1
 ·rw [hk] at T
  obtain ⟨hi1,hi2⟩:=hi hk
  clear hi
  cases hb:f t.t with
  | true=>
   rw [hb] at F
   rw [if_pos ⟨hk,rfl⟩]
   clear hb hk
   go_enter func190,ntmps190
   go_wp2_with (first
    | (go_at_call 118;(with_reducible refine T.mono ?_);rintro e w1 ⟨rfl,h1⟩;have B1:=hid h1;have P1:=(HP.out.below h1 HP.out.lt).alloc (.cells #[.int .i64 1,.string (mk t.t),.int .i64 t.n,.int .i64 p] 42);have HP1:=hid P1;have c1:(w1.alloc (.cells #[.int .i64 1,.string (mk t.t),.int .i64 t.n,.int .i64 p] 42)).cell? ⟨b,1,none⟩=some (.int .i64 (i:Int)):=P1.is.at_ 1;have z1:=P1.is.open_ 1;have hne:w1.heap.size≠b:=(by have:=h1.size;have:=HP.out.lt;omega);clear h1 P1)
    | ((with_reducible refine (F _).mono ?_);rintro e w2 ⟨rfl,rfl⟩))
   go_ret
   exact ⟨ZcJ (Zfz B1.out _) 1 _,i + 1,_,rfl,rfl,by omega,HP1.out.next (j:=i + 1) (by omega),rfl⟩
  | false=>
   rw [hb] at F
   rw [if_neg (by simp)]
   clear hb hk
   go_enter func190,ntmps190
   go_wp2_with (first
    | (go_at_call 118;(with_reducible refine T.mono ?_);rintro e w1 ⟨rfl,h1⟩;have B1:=hid h1;have P1:=(HP.out.below h1 HP.out.lt).alloc (.cells #[.int .i64 1,.string (mk t.t),.int .i64 t.n,.int .i64 p] 42);have HP1:=hid P1;have c1:(w1.alloc (.cells #[.int .i64 1,.string (mk t.t),.int .i64 t.n,.int .i64 p] 42)).cell? ⟨b,1,none⟩=some (.int .i64 (i:Int)):=P1.is.at_ 1;have z1:=P1.is.open_ 1;have hne:w1.heap.size≠b:=(by have:=h1.size;have:=HP.out.lt;omega);clear h1 P1)
    | ((with_reducible refine (F _).mono ?_);rintro e w2 ⟨rfl,rfl⟩))
   exact ⟨rfl,Zfz B1.out _,rfl,i,h,HP1.out,rfl⟩
 ·rw [if_neg (fun h=>hk h.1)]
  have hk2:(t.k != 1)=true:=by simpa using hk
  clear hi F hk
  go_enter func190,ntmps190
  go_wp2_with (go_at_call 118;(with_reducible refine T.mono ?_);rintro e w1 ⟨rfl,h1⟩;have B1:=hid h1;have P1:=(HP.out.below h1 HP.out.lt).alloc (.cells #[.int .i64 t.k,.string (mk t.t),.int .i64 t.n,.int .i64 p] 42);have HP1:=hid P1;have c1:(w1.alloc (.cells #[.int .i64 t.k,.string (mk t.t),.int .i64 t.n,.int .i64 p] 42)).cell? ⟨b,1,none⟩=some (.int .i64 (i:Int)):=P1.is.at_ 1;have z1:=P1.is.open_ 1;have hne:w1.heap.size≠b:=(by have:=h1.size;have:=HP.out.lt;omega);clear h1 P1)
  exact ⟨rfl,Zfz B1.out _,rfl,i,h,HP1.out,rfl⟩
theorem ent150 (args:Array Value) (w:World):(callFunc 150 args).run prog w=.ok (.enter 150 args) w:=by kernel_rfl
theorem ent145 (args:Array Value) (w:World):(callFunc 145 args).run prog w=.ok (.enter 145 args) w:=by kernel_rfl
theorem ent207 (args:Array Value) (w:World):(callFunc 207 args).run prog w=.ok (.enter 207 args) w:=by kernel_rfl
theorem ent220 (args:Array Value) (w:World):(callFunc 220 args).run prog w=.ok (.enter 220 args) w:=by kernel_rfl
section
variable (b:Nat) (S:Pg) (i:Nat) (h:Bool) (w:World) (hp:Ps w b S i h)
include hp
theorem Zcz:Calls prog 136 #[.pointer (some ⟨b,0,none⟩)] w (Post w b S i h (S8.low S.size (S.toks.drop i)) fun x v _=>v=.string (mk x)):=by
 have C:=ZiH 150 Zhq ent150 Zji b S i h w hp
 rw [Zyi hp.env]
 obtain ⟨R,hR⟩:∃R,R=Zf8 Zhq S.size (S.toks.drop i):=⟨_,rfl⟩
 rw [← hR] at C ⊢
 clear hR hp
 go_enter func136,ntmps136
 go_wp2_with (go_at_call 190;(with_reducible refine C.mono ?_);rintro e w1 h1;rcases h1.ways with ⟨a,j,h',e1,rfl,g,p,rfl⟩ | ⟨x,j,v,e1,rfl,g,hj,p,rfl⟩;exact ⟨rfl,Post.err e1 g p⟩;have HK:=hid (And.intro e1 (And.intro g p));clear h1 e1 g p)
 go_ret
 exact Post.ok HK.out.1 HK.out.2.1 HK.out.2.2 hj rfl
theorem ZbO:Calls prog 124 #[.pointer (some ⟨b,0,none⟩)] w (Post w b S i h (S8.up S.size (S.toks.drop i)) fun x v _=>v=.string (mk x)):=by
 have C:=ZiH 145 ZiP ent145 ZjP b S i h w hp
 rw [ZyS hp.env]
 obtain ⟨R,hR⟩:∃R,R=Zf8 ZiP S.size (S.toks.drop i):=⟨_,rfl⟩
 rw [← hR] at C ⊢
 clear hR hp
 go_enter func124,ntmps124
 go_wp2_with (go_at_call 190;(with_reducible refine C.mono ?_);rintro e w1 h1;rcases h1.ways with ⟨a,j,h',e1,rfl,g,p,rfl⟩ | ⟨x,j,v,e1,rfl,g,hj,p,rfl⟩;exact ⟨rfl,Post.err e1 g p⟩;have HK:=hid (And.intro e1 (And.intro g p));clear h1 e1 g p)
 go_ret
 exact Post.ok HK.out.1 HK.out.2.1 HK.out.2.2 hj rfl
end
theorem ZaH (b:Nat) (S:Pg) (i:Nat) (h:Bool) (w:World) (hp:Ps w b S i h) (k:Int) :
  Calls prog 123 #[.pointer (some ⟨b,0,none⟩),.int .i64 k] w fun e w'=>e=.returned (.agg #[.int .i64 k,.string ⟨#[]⟩,.int .i64 0,.int .i64 (place S i),.slice none 0 0])∧Below w.heap.size w w':=by
 have HB:=hid ((Below.refl w.heap.size w).alloc (Nat.le_refl _) (.cells z5 24))
 have C:=Zdq b S i h _ (hp.alloc (.cells z5 24))
 have HI:=hid (Is.fresh w 24 z5)
 clear hp
 go_enter func123,ntmps123
 go_wp2_with (first
  | (go_at_call 59;(with_reducible refine C.mono ?_);rintro e w1 ⟨rfl,h1⟩;have B1:=hid h1;have HI1:=hid (HI.out.below h1 (by simp));clear h1)
  | (refine Zah HI1.out rfl 24 _ _ rfl _ rfl rfl inf24 rfl (by simp [Value.oneCell']) ?_;intro w2 J JB;have HJ:=hid J;have HJB:=hid JB;clear J JB))
 refine ret24 results123 HJ.out
  ⟨rfl,ZbK (HB.out.trans (B1.out.mono (by simp))) HJB.out (Nat.le_refl _) (Nat.le_trans (by simp) B1.out.size)⟩
theorem Zjt (b:Nat) (S:Pg) (i:Nat) (h:Bool) (w:World) (hp:Ps w b S i h) :
  Calls prog 125 #[.pointer (some ⟨b,0,none⟩)] w (Post w b S i h (S8.number S.size (S.toks.drop i)) fun x v _=>v=.int .i64 x):=by
 rw [ZnX]
 have T:=Zdz b S i h w hp
 have HP:=hid hp
 obtain ⟨t,ht⟩:∃t,t=ZaK S i:=⟨_,rfl⟩
 have hi:t.k=2→i < S.toks.length∧i≤32768:=fun hk=>by
  have h1:=Zep (S:=S) (i:=i) (by rw [← ht,hk];decide)
  have:=hp.env.num
  omega
 rw [← ht] at T ⊢
 obtain ⟨p,hpp⟩:∃p,p=(if i < S.toks.length then place S i else 0):=⟨_,rfl⟩
 rw [← hpp] at T
 clear hpp hp ht
 by_cases hk:t.k=2
 ·rw [hk] at T
  obtain ⟨hi1,hi2⟩:=hi hk
  rw [if_pos hk]
  clear hi hk
  go_enter func125,ntmps125
  go_wp2_with (go_at_call 118;(with_reducible refine T.mono ?_);rintro e w1 ⟨rfl,h1⟩;have B1:=hid h1;have P1:=(HP.out.below h1 HP.out.lt).alloc (.cells #[.int .i64 2,.string (mk t.t),.int .i64 t.n,.int .i64 p] 42);have HP1:=hid P1;have c1:(w1.alloc (.cells #[.int .i64 2,.string (mk t.t),.int .i64 t.n,.int .i64 p] 42)).cell? ⟨b,1,none⟩=some (.int .i64 (i:Int)):=P1.is.at_ 1;have z1:=P1.is.open_ 1;have hne:w1.heap.size≠b:=(by have:=h1.size;have:=HP.out.lt;omega);clear h1 P1)
  go_ret
  exact ⟨ZcJ (Zfz B1.out _) 1 _,i + 1,_,rfl,rfl,by omega,HP1.out.next (j:=i + 1) (by omega),rfl⟩
 ·rw [if_neg hk]
  have hk2:(t.k != 2)=true:=by simpa using hk
  clear hi hk
  go_enter func125,ntmps125
  go_wp2_with (go_at_call 118;(with_reducible refine T.mono ?_);rintro e w1 ⟨rfl,h1⟩;have B1:=hid h1;have P1:=(HP.out.below h1 HP.out.lt).alloc (.cells #[.int .i64 t.k,.string (mk t.t),.int .i64 t.n,.int .i64 p] 42);have HP1:=hid P1;have c1:(w1.alloc (.cells #[.int .i64 t.k,.string (mk t.t),.int .i64 t.n,.int .i64 p] 42)).cell? ⟨b,1,none⟩=some (.int .i64 (i:Int)):=P1.is.at_ 1;have z1:=P1.is.open_ 1;have hne:w1.heap.size≠b:=(by have:=h1.size;have:=HP.out.lt;omega);clear h1 P1)
  exact ⟨rfl,Zfz B1.out _,rfl,i,h,HP1.out,rfl⟩
open Go.RowKit L7
theorem info24:(prog.info? 24).map (fun i=>(i.zero,i.size,i.bytes))=some (some (.agg z5),5,64):=by kernel_rfl
theorem Zds:∃i,prog.info? 24=some i∧i.zero=some (.agg z5)∧i.size=5∧i.bytes=64:=by
 have h:=info24
 cases hi:prog.info? 24 with
 | none=>rw [hi] at h;cases h
 | some i=>
  rw [hi] at h
  simp only [Option.map_some,Option.some.injEq,Prod.mk.injEq] at h
  exact ⟨i,rfl,h.1,h.2.1,h.2.2⟩
theorem Zbq {w:World} {Y:Nat→Prop} {x:Nd} {s:Value} (h:Kid w Y x s):s.oneCell'=true:=by
 obtain ⟨A,cap,e,-⟩:=(ZgA w Y x s).1 h
 rw [e];rfl
theorem OwnRow.one {w:World} {base:Nat} {c:List Nd} {s:Value} (h:OwnRow w base c s):s.oneCell'=true:=by
 rcases h.form with ⟨e,-⟩ | ⟨g,cap,e,-⟩ <;> rw [e] <;> rfl
theorem Zea {w:World} {Y:Nat→Prop} : ∀{l:List Nd} {xs:List Value},ZmZ w Y l xs→∀u∈xs,u.oneCell'=true
 | [],_,h,u,hu=>by rw [show _=[] from h] at hu;cases hu
 | x::l,_,⟨s,r,e,h1,h2⟩,u,hu=>by
  rw [e,List.mem_append] at hu
  rcases hu with hu | hu
  ·simp only [ndc,List.mem_cons,List.not_mem_nil,or_false] at hu
   rcases hu with rfl | rfl | rfl | rfl | rfl
   ·rfl
   ·rfl
   ·rfl
   ·rfl
   ·exact Zbq h1
  ·exact Zea h2 u hu
section
variable {ops:Array Oper} {rest:List Oper} {o:Oper} {a:Act} {w:World} {Q:Exit→Act→World→Prop}
theorem Zj0 {base:Nat} {c d:List Nd} {s:Value} {news:List Value} (hown:OwnRow w base c s) (hlen:c.length + d.length≤1000000) (hb:base≤w.heap.size) (hd:ZmZ w (fun g=>base≤g∧some g≠s.ownBlock) d news)
  (hgd:o.guard=none) (p q:Operand) (ho:o.op=.call { callee:=.builtin .append,args:=#[p,q],argTypes:=#[22,22] }) (hs:a.eval p=s) (ad:Addr) (k:Nat) (hx:a.eval q=.slice (some ad) d.length k) (hn:∀j u,news[j]?=some u→w.cell? (ad.add j)=some u)
  (h:∀v' w',OwnRow w' base (c++d) v'→Below base w w'→wpList prog ops Q rest (a.put o.dst v') w'):wpList prog ops Q (o::rest) a w:=by
 obtain ⟨i,hi,hz,hsz,hby⟩:=Zds
 obtain ⟨xs,h1,h2⟩:=hown
 refine wpList_plain hgd fun K hK=>?_
 have hl:news.length=d.length * 5:=ZhF hd
 obtain ⟨v',w',hr,h4,h5,-,h6⟩:=run_append_own_at (P:=prog) w base 22 o.type 24 i _ 5 64 underlying22 hi hz hsz hby rfl (by decide) s c.length xs h1 ad d.length k news hl hn (Zea hd) (by simp only [maxLen];omega) (by omega) hb
 have hbel:Below base w w':=(Below.refl _ _).grown h5 hb (fun g hg=>(h1.lt g hg).1)
 have hways:v'.ownBlock=s.ownBlock∨∀g,v'.ownBlock=some g→w.heap.size≤g:=by
  rcases h6 with h6 | h6
  ·exact .inl h6
  ·exact .inr fun g hg=>by rw [h6] at hg;injection hg with hg;omega
 have hfin:=h v' w' (OwnRow.app h2 hd h4 h5 hways) hbel
 unfold Oper.wp execOp
 simp only [ho,resolve,invoke,builtin,Sem.run_bind,Sem.run_pure,Result.andThen_ok,List.map_toArray,List.map_cons,List.map_nil,hs,hx,hr]
 exact hK _ _ hfin
theorem ZbY {base g:Nat} {c:List Nd} {x:Nd} {s r:Value} (hown:OwnRow w base c s) (hI:Is w g 24 #[.int .i64 x.k,.string (mk x.t),.int .i64 x.n,.int .i64 x.a,r]) (hk:Kid w (fun h=>base≤h∧some h≠s.ownBlock) x r) (hlen:c.length≤100000) (hb:base≤w.heap.size)
  (hgd:o.guard=none) (p q:Operand) (ho:o.op=.call { callee:=.builtin .append,args:=#[p,q],argTypes:=#[22,22] }) (hs:a.eval p=s) (hx:a.eval q=.slice (some ⟨g,0,none⟩) 1 1)
  (h:∀v' w',OwnRow w' base (c++[x]) v'→Below base w w'→wpList prog ops Q rest (a.put o.dst v') w'):wpList prog ops Q (o::rest) a w:=
 Zj0 hown (d:=[x]) (by simp;omega) hb (ZfM hk) hgd p q ho hs ⟨g,0,none⟩ 1 hx (fun j u hu=>by
  have hj:j < 5:=(List.getElem?_eq_some_iff.1 hu).1
  have:(⟨g,0,none⟩:Addr).add j=⟨g,j,none⟩:=by
   unfold Addr.add;split
   ·rename_i h0;rw [h0]
   ·simp
  rw [this,hI.at_ j]
  simpa [ndc] using hu) h
theorem Ze4 {base base2:Nat} {c d:List Nd} {s r:Value} (hown:OwnRow w base c s) (hd:OwnRow w base2 d r) (hle:base≤base2) (hs2:∀g,s.ownBlock=some g→g < base2) (hlen:c.length + d.length≤1000000) (hb:base≤w.heap.size)
  (hgd:o.guard=none) (p q:Operand) (ho:o.op=.call { callee:=.builtin .append,args:=#[p,q],argTypes:=#[22,22] }) (hs:a.eval p=s) (hx:a.eval q=r)
  (h:∀v' w',OwnRow w' base (c++d) v'→Below base w w'→wpList prog ops Q rest (a.put o.dst v') w'):wpList prog ops Q (o::rest) a w:=by
 rcases hd.form with ⟨e,hd0⟩ | ⟨g,cap,e,hg,hlt,hnc,-⟩
 ·subst hd0
  obtain ⟨i,hi,hz,hsz,hby⟩:=Zds
  have hf:=h s w (by rw [List.append_nil];exact hown) (Below.refl _ _)
  obtain ⟨xs,h1,h2⟩:=hown
  exact wpList_append_own_none hgd p q 22 ho base 24 i 5 underlying22 hi s c.length xs hs h1 (hx.trans e) hf
 ·obtain ⟨ys,k1,k2⟩:=hd
  refine Zj0 hown (d:=d) hlen hb (ZbB (fun h hh _=>⟨by omega,fun e=>?_⟩) (fun _ _ _=>rfl) k2) hgd p q ho hs ⟨g,0,none⟩ cap (hx.trans e) (fun j u hu=>k1.cells (g:=g) (by rw [e];rfl) j u hu) h
  have:=hs2 h e.symm
  omega
end
open Go.RowKit L7
open S8 (lim single What)
noncomputable def cont (s:Bs) (wt:What):S8.P (List Nd):=do
 if ← S8.ZaC S8.mCm then do
  let _ ← S8.must S8.mCm
  lim (.seps s wt)
 else do
  let _ ← S8.must s
  pure []
theorem Zdl (wt:What) (e:Int) (l:List PTok):single (lim (.one wt)) e l=S8.elem1 lim wt e l:=by
 rw [S8.ZbG,S8.Zbb (nt:=.one wt) rfl]
 show (match S8.one (S8.elem1 lim wt) e l with | .out=>_ | .err a=>_ | .ok [x] r=>_ | .ok _ r=>_)=_
 unfold S8.one
 rw [S8.Zac]
 cases S8.elem1 lim wt e l <;> rfl
theorem Znm {s:Bs} {wt:What} {e:Int} {l r:List PTok} {x:Nd} (h:single (lim (.one wt)) e l=.ok x r):lim (.seps s wt) e l=S8.pre [x] (cont s wt e r):=by
 rw [S8.Zbb (nt:=.seps s wt) rfl]
 show S8.seps lim s wt e l=_
 unfold S8.seps cont
 rw [S8.Zac,h]
 simp only [S8.Zac,S8.Zae]
 cases S8.ZaC S8.mCm e r with
 | out=>rfl
 | err a=>rfl
 | ok b q=>
  cases b with
  | true=>
   simp only [if_true]
   cases S8.must S8.mCm e q with
   | out=>rfl
   | err a=>rfl
   | ok t q=>
    simp only
    cases lim (.seps s wt) e q <;> rfl
  | false=>
   simp only [Bool.false_eq_true,if_false]
   cases S8.must s e q <;> rfl
theorem ZkL {s:Bs} {wt:What} {e a:Int} {l:List PTok} (h:single (lim (.one wt)) e l=.err a):lim (.seps s wt) e l=.err a:=by
 rw [S8.Zbb (nt:=.seps s wt) rfl]
 show S8.seps lim s wt e l=_
 unfold S8.seps
 rw [S8.Zac,h]
theorem Zo1:S8.mCm≠[]:=by decide
theorem ZmQ {S:Pg} {i:Nat} (s:Bs) (wt:What) (h:Zag S i=S8.mCm):cont s wt S.size (S.toks.drop i)=lim (.seps s wt) S.size (S.toks.drop (i + 1)):=by
 unfold cont
 simp only [S8.Zac,Zaf S i Zo1,h,decide_true,S8.Zae,if_true,Zay S i Zo1]
theorem Zpl {S:Pg} {i:Nat} (s:Bs) (wt:What) (h:Zag S i≠S8.mCm):cont s wt S.size (S.toks.drop i)=(S8.must s >>= fun _=>pure []) S.size (S.toks.drop i):=by
 unfold cont
 simp only [S8.Zac,Zaf S i Zo1,h,decide_false,S8.Zae,Bool.false_eq_true,if_false]
theorem Znx (c d:List Nd) (R:S8.Res (List Nd)):S8.pre c (S8.pre d R)=S8.pre (c++d) R:=by cases R <;> simp [S8.pre]
def ZaO (w:World):Nd→Value→World→Prop:=fun x v w'=>Own w' w.heap.size x v
def Does (N K b:Nat) (S:Pg) (h:Bool) (q:S8.P Nd):Prop:=∀(w:World) (i:Nat),Ps w b S i h→S.toks.length < N + i→Calls prog K #[.pointer (some ⟨b,0,none⟩)] w (Post w b S i h (q S.size (S.toks.drop i)) (ZaO w))
theorem Zmd {wt:What} {S:Pg} {i j:Nat} {x:Nd} (h:single (lim (.one wt)) S.size (S.toks.drop i)=.ok x (S.toks.drop j)):i < j:=by
 obtain ⟨u,q,h1⟩:=S8.ZaY (S8.Zll (.one wt) rfl) _ _ _ _ h
 have h2:=congrArg List.length h1
 simp only [List.length_drop,List.length_append,List.length_cons] at h2
 omega
theorem OwnRow.lt {w:World} {base:Nat} {c:List Nd} {s:Value} (h:OwnRow w base c s) {g:Nat} (hg:s.ownBlock=some g):base≤g∧g < w.heap.size:=by
 obtain ⟨xs,h1,-⟩:=h
 exact h1.lt g hg
theorem ZbZ {w w2 w3:World} {base:Nat} {c:List Nd} {u s:Value} {x:Nd} (hu:OwnRow w2 base c u) (ho:OwnRow w3 w2.heap.size x.c s) (hw:∀g,g < w3.heap.size→w.heap[g]?=w3.heap[g]?) (hb:base≤w2.heap.size):Kid w (fun h=>base≤h∧some h≠u.ownBlock) x s:=
 Zb0 (fun h hh _=>⟨by omega,fun e=>by have:=(hu.lt e.symm).2;omega⟩) (fun g _ hg=>hw g hg) x s (ho.kid x rfl)
def nextIn (b:Nat) (w:World):Nat:=match w.cell? ⟨b,1,none⟩ with
 | some (.int _ n)=>n.toNat
 | _=>0
theorem Ps.nextIn {w:World} {b:Nat} {S:Pg} {i:Nat} {h:Bool} (k:Ps w b S i h):nextIn b w=i:=by
 unfold Go.Proofs.YtaheffiglmglbaaGreatDoor.nextIn
 rw [k.is.at_ 1];rfl
theorem ZjW {w w1:World} {x:Nd} {s:Value} (g:w.heap.size≤w1.heap.size) (h:OwnRow w1 w.heap.size x.c s) :
  OwnRow (w1.alloc (.cells #[.int .i64 x.k,.string (mk x.t),.int .i64 x.n,.int .i64 x.a,s] 24)) w.heap.size [x] (.slice (some ⟨w1.heap.size,0,none⟩) 1 1):=
 OwnRow.single (Is.fresh w1 24 _) g (Zb0 (fun h hh hlt=>⟨hh,by omega⟩) (fun h _ hlt=>Below.heap_alloc w1 _ h hlt) x s (Zhl (h.kid x rfl) |> fun k=>Zgz k (fun _ h _=>h.1)))
theorem Zu8:ls (⟨#[44]⟩:ByteArray)=S8.mCm:=rfl
def SPost (w:World) (b:Nat) (S:Pg) (i:Nat) (h:Bool) (wt:What) (e:Ending) (w':World):Prop:=
 w.grownBy w' (some b)∧((∃j h',e=.panicked pan∧Ps w' b S j h'∧∀s,lim (.seps s wt) S.size (S.toks.drop i)=.err (place S j))∨
  ∃c j v,e=.returned v∧i≤j∧Ps w' b S j h∧OwnRow w' w.heap.size c v∧c.length≤j∧Zag S j≠S8.mCm∧∀s,lim (.seps s wt) S.size (S.toks.drop i)=S8.pre c (cont s wt S.size (S.toks.drop j)))
theorem ZjX (N K b:Nat) (S:Pg) (h:Bool) (wt:What) (hK:∀(args:Array Value) (w:World),(callFunc K args).run prog w=.ok (.enter K args) w) (HD:Does N K b S h (single (lim (.one wt)))) (w:World) (i:Nat) (hp:Ps w b S i h) (hN:S.toks.length < N + i) :
  Calls prog 196 #[.pointer (some ⟨b,0,none⟩),.func (.func K) #[.pointer (some ⟨b,0,none⟩)] #[]] w (SPost w b S i h wt):=by
 have C0:=HD w i hp hN
 have HC:=hid HD
 have hlt:=hp.lt
 clear HD hp
 go_enter func196,ntmps196
 go_wp2_with (((with_reducible refine C0.mono ?_);rintro e w1 h1;rcases h1.ways with ⟨a,j,h',e1,rfl,g,p,rfl⟩ | ⟨x,j,v,e1,rfl,g,hj,p,s,rfl,ho⟩;exact ⟨rfl,g,.inl ⟨j,h',rfl,p,fun s=>ZkL e1⟩⟩;have HX:=hid (And.intro e1 (And.intro g (And.intro p ho)));clear h1 e1 g p ho))
 have T0:Hid (Ps (w1.alloc (.cells #[.int .i64 x.k,.string (mk x.t),.int .i64 x.n,.int .i64 x.a,s] 24)) b S j h∧OwnRow (w1.alloc (.cells #[.int .i64 x.k,.string (mk x.t),.int .i64 x.n,.int .i64 x.a,s] 24)) w.heap.size [x] (.slice (some ⟨w1.heap.size,0,none⟩) 1 1)∧w.grownBy (w1.alloc (.cells #[.int .i64 x.k,.string (mk x.t),.int .i64 x.n,.int .i64 x.a,s] 24)) (some b)∧i < j∧
   ∀s,lim (.seps s wt) S.size (S.toks.drop i)=S8.pre [x] (cont s wt S.size (S.toks.drop j))):=hid
  ⟨HX.out.2.2.1.alloc _,ZjW HX.out.2.1.size HX.out.2.2.2,Zbl HX.out.2.1 _,Zmd HX.out.1,fun s=>Znm HX.out.1⟩
 clear HX C0
 go_loopw [5] (fun v5 wr=>∃(j:Nat) (c:List Nd),Hid (Ps wr b S j h∧OwnRow wr w.heap.size c v5∧w.grownBy wr (some b)∧i < j∧
   ∀s,lim (.seps s wt) S.size (S.toks.drop i)=S8.pre c (cont s wt S.size (S.toks.drop j)))∧c.length≤j) (fun _ wr=>S.toks.length - nextIn b wr)
 case atStart=>exact ⟨j,[x],T0,by (have:=T0.out.2.2.2.1;simp;omega)⟩
 case round=>
  clear T0
  obtain ⟨j,c,HR,hcl⟩:=hrel
  have hnx:=HR.out.1.nextIn
  have hjl:=HR.out.1.le
  have hnum:=HR.out.1.env.num
  have hij:=HR.out.2.2.2.1
  by_cases hw:Zag S j=S8.mCm
  ·have C1:=ZcR b S j h wr HR.out.1 ⟨#[44]⟩ (by rw [Zu8];exact hw) (by decide)
   have hjl2:=ZaL (S:=S) (i:=j) (by rw [hw];exact Zo1)
   have HW:=hid hw
   clear hw
   go_wp2_with (first
    | (go_at_call 186;(with_reducible refine C1.mono ?_);rintro e w2 ⟨rfl,h1,h2⟩;have K2:=hid (And.intro h1 (And.intro (HR.out.2.1.grown h2 hlt) (Zaa HR.out.2.2.1 h2 (.inl rfl))));have D2:=HC.out w2 (j + 1) h1 (by omega);clear h1 h2)
    | ((with_reducible refine D2.mono ?_);rintro e w3 h1;rcases h1.ways with ⟨a,j',h',e1,rfl,g,p,rfl⟩ | ⟨x,j',v,e1,rfl,g,hj',p,s,rfl,ho⟩;exact ⟨rfl,Zaa K2.out.2.2 g (.inl rfl),.inl ⟨j',h',rfl,p,fun s=>by rw [HR.out.2.2.2.2 s,ZmQ s wt HW.out,ZkL e1];rfl⟩⟩;have HX:=hid (And.intro e1 (And.intro (K2.out.2.1.grown g hlt) (And.intro (Zaa K2.out.2.2 g (.inl rfl)) (And.intro p (And.intro ho g)))));clear h1 e1 g p ho)
    | (at_builtin;refine ZbY (base:=w.heap.size) (g:=w3.heap.size) (c:=c) (x:=x) (r:=s) (HX.out.2.1.alloc _) (Is.fresh w3 24 _) ?kid (by omega) ?hb rfl (.tmp 11) (.tmp 14) rfl rfl rfl ?_;rotate_left 2;intro v' w5 h1 h2;have HZ:=hid (And.intro h1 h2);clear h1 h2))
   case kid=>exact ZbZ K2.out.2.1 HX.out.2.2.2.2.1 (fun g hg=>Below.heap_alloc w3 _ g hg) K2.out.2.2.size
   case hb=>exact Nat.le_trans HX.out.2.2.1.size (by simp)
   have P5:=(HX.out.2.2.2.1.alloc (.cells #[.int .i64 x.k,.string (mk x.t),.int .i64 x.n,.int .i64 x.a,s] 24)).below HZ.out.2 hlt
   have hjj:=P5.le
   refine ⟨⟨j',c++[x],hid ⟨P5,HZ.out.1,Zan (Zbl HX.out.2.2.1 _) HZ.out.2,by omega,fun s=>?_⟩,by simp;omega⟩,by rw [P5.nextIn,hnx];omega⟩
   rw [HR.out.2.2.2.2 s,ZmQ s wt HW.out,Znm HX.out.1,Znx]
  ·have C1:=ZdC b S j h wr HR.out.1 ⟨#[44]⟩ (by rw [Zu8];exact hw)
   have HW:=hid hw
   clear hw
   go_wp2_with (go_at_call 186;(with_reducible refine C1.mono ?_);rintro e w2 ⟨rfl,h1,h2⟩;have K2:=hid (And.intro h1 (And.intro (HR.out.2.1.grown h2 hlt) (Zaa HR.out.2.2.1 h2 (.inl rfl))));clear h1 h2)
   go_ret
   exact ⟨K2.out.2.2,.inr ⟨c,j,u5,rfl,by omega,K2.out.1,K2.out.2.1,hcl,HW.out,HR.out.2.2.2.2⟩⟩
open Go.RowKit L7
open S8 (lim single What)
theorem ZrM:S8.mRb≠[]:=by decide
theorem Zu7:ls (⟨#[125]⟩:ByteArray)=S8.mRb:=rfl
theorem ZrL {S:Pg} {i:Nat} (wt:What) (h:Zag S i=S8.mRb):lim (.many wt false) S.size (S.toks.drop i)=.ok [] (S.toks.drop (i + 1)):=by
 rw [S8.Zbb (nt:=.many wt false) rfl]
 show S8.many lim wt false S.size (S.toks.drop i)=_
 unfold S8.many
 simp only [S8.Zac,Zaf S i ZrM,h,decide_true,Bool.not_false,Bool.and_self,S8.Zae,if_true,Zay S i ZrM]
 rfl
theorem Zmp (least:Bool) {S:Pg} {i:Nat} (wt:What) (h:Zag S i≠S8.mRb∨least=true):lim (.many wt least) S.size (S.toks.drop i)=(do let x ← single (lim (.one wt));let l ← lim (.many wt false);pure (x::l):S8.P (List Nd)) S.size (S.toks.drop i):=by
 rw [S8.Zbb (nt:=.many wt least) rfl]
 show S8.many lim wt least S.size (S.toks.drop i)=_
 unfold S8.many
 have h2:(decide (Zag S i=S8.mRb) && !least)=false:=by
  rcases h with h | h <;> simp [h]
 simp only [S8.Zac,Zaf S i ZrM,h2,S8.Zae,Bool.false_eq_true,if_false]
theorem Zwx {least:Bool} {S:Pg} {i:Nat} {wt:What} (h:Zag S i≠S8.mRb∨least=true) {x:Nd} {r:List PTok} (hx:single (lim (.one wt)) S.size (S.toks.drop i)=.ok x r):lim (.many wt least) S.size (S.toks.drop i)=S8.pre [x] (lim (.many wt false) S.size r):=by
 rw [Zmp least wt h]
 simp only [S8.Zac,hx]
 cases lim (.many wt false) S.size r <;> rfl
theorem Zt5 {least:Bool} {S:Pg} {i:Nat} {wt:What} (h:Zag S i≠S8.mRb∨least=true) {a:Int} (hx:single (lim (.one wt)) S.size (S.toks.drop i)=.err a):lim (.many wt least) S.size (S.toks.drop i)=.err a:=by
 rw [Zmp least wt h]
 simp only [S8.Zac,hx]
def Zim (w:World):List Nd→Value→World→Prop:=fun c v w'=>OwnRow w' w.heap.size c v∧c.length≤40000
theorem ZkR (N K b:Nat) (S:Pg) (h:Bool) (wt:What) (hK:∀(args:Array Value) (w:World),(callFunc K args).run prog w=.ok (.enter K args) w) (HD:Does N K b S h (single (lim (.one wt)))) (w:World) (i:Nat) (hp:Ps w b S i h) (hN:S.toks.length < N + i) :
  Calls prog 141 #[.pointer (some ⟨b,0,none⟩),.func (.func K) #[.pointer (some ⟨b,0,none⟩)] #[]] w (Post w b S i h (lim (.many wt false) S.size (S.toks.drop i)) (Zim w)):=by
 have HC:=hid HD
 have hlt:=hp.lt
 have T0:Hid (Ps w b S i h∧OwnRow w w.heap.size [] (.slice none 0 0)∧w.grownBy w (some b)∧i≤i∧lim (.many wt false) S.size (S.toks.drop i)=S8.pre [] (lim (.many wt false) S.size (S.toks.drop i))):=hid
  ⟨hp,OwnRow.nil _ _,World.grownBy.refl _ _,Nat.le_refl _,by cases lim (.many wt false) S.size (S.toks.drop i) <;> rfl⟩
 clear HD hp
 go_enter func141,ntmps141
 go_wp2
 go_loopw [5] (fun v5 wr=>∃(j:Nat) (c:List Nd),Hid (Ps wr b S j h∧OwnRow wr w.heap.size c v5∧w.grownBy wr (some b)∧i≤j∧
   lim (.many wt false) S.size (S.toks.drop i)=S8.pre c (lim (.many wt false) S.size (S.toks.drop j)))∧c.length≤j) (fun _ wr=>S.toks.length - nextIn b wr)
 case atStart=>exact ⟨i,[],T0,by simp⟩
 case round=>
  clear T0
  obtain ⟨j,c,HR,hcl⟩:=hrel
  have hnx:=HR.out.1.nextIn
  have hjl:=HR.out.1.le
  have hnum:=HR.out.1.env.num
  have hij:=HR.out.2.2.2.1
  by_cases hw:Zag S j=S8.mRb
  ·have C1:=ZcR b S j h wr HR.out.1 ⟨#[125]⟩ (by rw [Zu7];exact hw) (by decide)
   have HW:=hid hw
   clear hw
   go_wp2_with (go_at_call 186;(with_reducible refine C1.mono ?_);rintro e w2 ⟨rfl,h1,h2⟩;have K2:=hid (And.intro h1 (And.intro (HR.out.2.1.grown h2 hlt) (Zaa HR.out.2.2.1 h2 (.inl rfl))));clear h1 h2)
   go_ret
   refine Post.ok (j:=j + 1) (x:=c) ?_ K2.out.2.2 K2.out.1 (by omega) ⟨K2.out.2.1,by omega⟩
   rw [HR.out.2.2.2.2,ZrL wt HW.out]
   simp [S8.pre]
  ·have C1:=ZdC b S j h wr HR.out.1 ⟨#[125]⟩ (by rw [Zu7];exact hw)
   have HW:=hid hw
   clear hw
   go_wp2_with (first
    | (go_at_call 186;(with_reducible refine C1.mono ?_);rintro e w2 ⟨rfl,h1,h2⟩;have K2:=hid (And.intro h1 (And.intro (HR.out.2.1.grown h2 hlt) (Zaa HR.out.2.2.1 h2 (.inl rfl))));have D2:=HC.out w2 j h1 (by omega);clear h1 h2)
    | ((with_reducible refine D2.mono ?_);rintro e w3 h1;rcases h1.ways with ⟨a,j',h',e1,rfl,g,p,rfl⟩ | ⟨x,j',v,e1,rfl,g,hj',p,s,rfl,ho⟩;exact ⟨rfl,Post.err (by rw [HR.out.2.2.2.2,Zt5 (.inl HW.out) e1];rfl) (Zaa K2.out.2.2 g (.inl rfl)) p⟩;have HX:=hid (And.intro e1 (And.intro (K2.out.2.1.grown g hlt) (And.intro (Zaa K2.out.2.2 g (.inl rfl)) (And.intro p (And.intro ho g)))));clear h1 e1 g p ho)
    | (at_builtin;refine ZbY (base:=w.heap.size) (g:=w3.heap.size) (c:=c) (x:=x) (r:=s) (HX.out.2.1.alloc _) (Is.fresh w3 24 _) ?kid (by omega) ?hb rfl (.tmp 9) (.tmp 12) rfl rfl rfl ?_;rotate_left 2;intro v' w5 h1 h2;have HZ:=hid (And.intro h1 h2);clear h1 h2))
   case kid=>exact ZbZ K2.out.2.1 HX.out.2.2.2.2.1 (fun g hg=>Below.heap_alloc w3 _ g hg) K2.out.2.2.size
   case hb=>exact Nat.le_trans HX.out.2.2.1.size (by simp)
   have P5:=(HX.out.2.2.2.1.alloc (.cells #[.int .i64 x.k,.string (mk x.t),.int .i64 x.n,.int .i64 x.a,s] 24)).below HZ.out.2 hlt
   have hjj:=P5.le
   have htk:=Zmd HX.out.1
   refine ⟨⟨j',c++[x],hid ⟨P5,HZ.out.1,Zan (Zbl HX.out.2.2.1 _) HZ.out.2,by omega,?_⟩,by simp;omega⟩,by rw [P5.nextIn,hnx];omega⟩
   rw [HR.out.2.2.2.2,Zwx (.inl HW.out) HX.out.1,Znx]
section
variable (b:Nat) (S:Pg) (i:Nat) (h:Bool) (w:World) (hp:Ps w b S i h) (s:ByteArray)
include hp
theorem Zk0 (hs:Zag S i=ls s) (hs0:ls s≠[]):Calls prog 195 #[.pointer (some ⟨b,0,none⟩),.string s] w fun e w'=>e=.returned (.bool h)∧Ps w' b S (i + 1) false∧w.grownBy w' (some b):=by
 have T:=Za6 b S i h w hp s hs hs0
 clear hs hs0 hp
 go_enter func195,ntmps195
 go_wp2_with (go_at_call 119;(with_reducible refine T.mono ?_);rintro e w1 ⟨rfl,h1,h2⟩;have HP1:=hid h1;have B1:=hid h2;have c4:w1.cell? ⟨b,4,none⟩=some (.bool h):=h1.is.at_ 4;have z4:=h1.is.open_ 4;clear h1 h2)
 go_ret
 exact ⟨rfl,HP1.out.head false,ZcJ B1.out 4 _⟩
theorem ZnE (hs:Zag S i≠ls s):Calls prog 195 #[.pointer (some ⟨b,0,none⟩),.string s] w fun e w'=>e=.panicked pan∧Ps w' b S i h∧w.grownBy w' (some b):=by
 have T:=Znc b S i h w hp s hs
 clear hs hp
 go_enter func195,ntmps195
 go_wp2_with (go_at_call 119;(with_reducible refine T.mono ?_);rintro e w1 ⟨rfl,h1,h2⟩;exact ⟨rfl,rfl,h1,h2⟩)
theorem ZjD (h':Bool) (hs:Zag S i=ls s) (hs0:ls s≠[]):Calls prog 197 #[.pointer (some ⟨b,0,none⟩),.string s,.bool h'] w fun e w'=>e=.returned (.tuple #[])∧Ps w' b S (i + 1) h'∧w.grownBy w' (some b):=by
 have T:=Za6 b S i h w hp s hs hs0
 clear hs hs0 hp
 go_enter func197,ntmps197
 go_wp2_with (go_at_call 119;(with_reducible refine T.mono ?_);rintro e w1 ⟨rfl,h1,h2⟩;have HP1:=hid h1;have B1:=hid h2;have c4:w1.cell? ⟨b,4,none⟩=some (.bool h):=h1.is.at_ 4;have z4:=h1.is.open_ 4;clear h1 h2)
 go_end0
 exact ⟨rfl,HP1.out.head h',ZcJ B1.out 4 _⟩
theorem Zlp (h':Bool) (hs:Zag S i≠ls s):Calls prog 197 #[.pointer (some ⟨b,0,none⟩),.string s,.bool h'] w fun e w'=>e=.panicked pan∧Ps w' b S i h∧w.grownBy w' (some b):=by
 have T:=Znc b S i h w hp s hs
 clear hs hp
 go_enter func197,ntmps197
 go_wp2_with (go_at_call 119;(with_reducible refine T.mono ?_);rintro e w1 ⟨rfl,h1,h2⟩;exact ⟨rfl,rfl,h1,h2⟩)
end
open Go.RowKit L7
open S8 (lim single What)
theorem ZmP {S:Pg} {j:Nat} {s:Bs} (wt:What) (h:Zag S j≠S8.mCm) (hs:Zag S j=s) (hs0:s≠[]):cont s wt S.size (S.toks.drop j)=.ok [] (S.toks.drop (j + 1)):=by
 rw [Zpl s wt h]
 simp only [S8.Zac,Zay S j hs0,hs,if_true];rfl
theorem Zpm {S:Pg} {j:Nat} {s:Bs} (wt:What) (h:Zag S j≠S8.mCm) (hs:Zag S j≠s) (hs0:s≠[]):cont s wt S.size (S.toks.drop j)=.err (place S j):=by
 rw [Zpl s wt h]
 simp only [S8.Zac,Zay S j hs0,hs,if_false]
theorem ZvK {S:Pg} {i:Nat} {o s:Bs} {wt:What} (ho:Zag S i=o) (ho0:o≠[]):S8.some1 lim o wt s S.size (S.toks.drop i)=lim (.seps s wt) S.size (S.toks.drop (i + 1)):=by
 unfold S8.some1
 simp only [S8.Zac,Zay S i ho0,ho,if_true]
theorem ZvJ {S:Pg} {i:Nat} {o s:Bs} {wt:What} (ho:Zag S i≠o) (ho0:o≠[]):S8.some1 lim o wt s S.size (S.toks.drop i)=.err (place S i):=by
 unfold S8.some1
 simp only [S8.Zac,Zay S i ho0,ho,if_false]
theorem ZwA {S:Pg} {i:Nat} {o s:Bs} {wt:What} (ho:Zag S i≠o) (ho0:o≠[]):S8.list lim o wt s S.size (S.toks.drop i)=.err (place S i):=by
 unfold S8.list
 simp only [S8.Zac,Zay S i ho0,ho,if_false]
theorem ZpY {S:Pg} {i:Nat} {o s:Bs} {wt:What} (ho:Zag S i=o) (ho0:o≠[]) (hs:Zag S (i + 1)=s) (hs0:s≠[]):S8.list lim o wt s S.size (S.toks.drop i)=.ok [] (S.toks.drop (i + 2)):=by
 unfold S8.list
 simp only [S8.Zac,Zay S i ho0,ho,if_true,Zaf S (i + 1) hs0,hs,decide_true,S8.Zae,Zay S (i + 1) hs0];rfl
theorem ZrQ {S:Pg} {i:Nat} {o s:Bs} {wt:What} (ho:Zag S i=o) (ho0:o≠[]) (hs:Zag S (i + 1)≠s) (hs0:s≠[]):S8.list lim o wt s S.size (S.toks.drop i)=lim (.seps s wt) S.size (S.toks.drop (i + 1)):=by
 unfold S8.list
 simp only [S8.Zac,Zay S i ho0,ho,if_true,Zaf S (i + 1) hs0,hs,decide_false,S8.Zae,Bool.false_eq_true,if_false]
theorem ZxB {S:Pg} {i:Nat} {s:ByteArray} (h:Zag S i=ls s):mk (Zag S i)=s:=by rw [h,Zt1]
theorem ZxA {S:Pg} {i:Nat} {s:ByteArray} (h:Zag S i≠ls s):((mk (Zag S i)).toList == s.toList)=false:=by
 rw [Zas,Zas,Zbc];simpa using h
section
variable (N K b:Nat) (S:Pg) (wt:What) (hK:∀(args:Array Value) (w:World),(callFunc K args).run prog w=.ok (.enter K args) w) (HD:Does N K b S false (single (lim (.one wt))))
 (h:Bool) (w:World) (i:Nat) (hp:Ps w b S i h) (hN:S.toks.length≤N + i) (o s:ByteArray) (ho0:ls o≠[]) (hs0:ls s≠[])
include hK HD hp hN ho0 hs0
theorem Ze2:Calls prog 134 #[.pointer (some ⟨b,0,none⟩),.string o,.func (.func K) #[.pointer (some ⟨b,0,none⟩)] #[],.string s] w (Post w b S i h (S8.some1 lim (ls o) wt (ls s) S.size (S.toks.drop i)) (Zim w)):=by
 by_cases ho:Zag S i=ls o
 ·rw [ZvK ho ho0]
  have O:=Zk0 b S i h w hp o ho ho0
  have HC:=hid HD
  have HCl:=hid (fun w j hp=>ZjD b S j false w hp s h)
  have HCn:=hid (fun w j hp=>Zlp b S j false w hp s h)
  have hlt:=hp.lt
  clear ho HD hp
  go_enter func134,ntmps134
  go_wp2_with (first
   | (go_at_call 195;(with_reducible refine O.mono ?_);rintro e w1 ⟨rfl,h1,h2⟩;have K1:=hid (And.intro h1 h2);have SS:=ZjX N K b S false wt hK HC.out w1 (i + 1) h1 (by omega);clear h1 h2)
   | (go_at_call 196;(with_reducible refine SS.mono ?_);rintro e w2 ⟨g,h1⟩;rcases h1 with ⟨j,h',rfl,p,hx⟩ | ⟨c,j,v,rfl,hij,p,ho,hc,hne,hx⟩;exact ⟨rfl,Post.err (hx _) (Zaa K1.out.2 g (.inl rfl)) p⟩;have K2:=hid (And.intro (Zaa K1.out.2 g (.inl rfl)) (And.intro p (And.intro (ho.weak K1.out.2.size) (And.intro hc (And.intro hne hx)))));clear g p ho hc hne hx))
  have hjl:=K2.out.2.1.le
  have hnum:=K2.out.2.1.env.num
  by_cases hs:Zag S j=ls s
  ·have C1:=HCl.out w2 j K2.out.2.1 hs hs0
   have HS:=hid hs
   clear hs
   go_wp2_with (go_at_call 197;(with_reducible refine C1.mono ?_);rintro e w3 ⟨rfl,h1,h2⟩;have K3:=hid (And.intro h1 h2);clear h1 h2)
   go_ret
   refine Post.ok (j:=j + 1) (x:=c) ?_ (Zaa K2.out.1 K3.out.2 (.inl rfl)) K3.out.1 (by omega) ⟨K2.out.2.2.1.grown K3.out.2 hlt,by have:=K2.out.2.2.2.1;omega⟩
   rw [K2.out.2.2.2.2.2,ZmP wt K2.out.2.2.2.2.1 HS.out hs0]
   simp [S8.pre]
  ·have C1:=HCn.out w2 j K2.out.2.1 hs
   have HS:=hid hs
   clear hs
   go_wp2_with (go_at_call 197;(with_reducible refine C1.mono ?_);rintro e w3 ⟨rfl,h1,h2⟩;exact ⟨rfl,Post.err (by rw [K2.out.2.2.2.2.2,Zpm wt K2.out.2.2.2.2.1 HS.out hs0];rfl) (Zaa K2.out.1 h2 (.inl rfl)) h1⟩)
 ·rw [ZvJ ho ho0]
  have O:=ZnE b S i h w hp o ho
  clear ho HD hp
  go_enter func134,ntmps134
  go_wp2_with (go_at_call 195;(with_reducible refine O.mono ?_);rintro e w1 ⟨rfl,h1,h2⟩;exact ⟨rfl,Post.err rfl h2 h1⟩)
theorem Ze8:Calls prog 132 #[.pointer (some ⟨b,0,none⟩),.string o,.func (.func K) #[.pointer (some ⟨b,0,none⟩)] #[],.string s] w (Post w b S i h (S8.list lim (ls o) wt (ls s) S.size (S.toks.drop i)) (Zim w)):=by
 by_cases ho:Zag S i=ls o
 ·have O:=Zk0 b S i h w hp o ho ho0
  have HC:=hid HD
  have HCl:=hid (fun w j hp=>ZjD b S j false w hp s h)
  have HCn:=hid (fun w j hp=>Zlp b S j false w hp s h)
  have HWd:=hid (fun w hp=>Zau b S (i + 1) false w hp)
  have hlt:=hp.lt
  obtain ⟨u,hu⟩:∃u,u=mk (Zag S (i + 1)):=⟨_,rfl⟩
  rw [← hu] at HWd
  by_cases hz:Zag S (i + 1)=ls s
  ·rw [ZpY ho ho0 hz hs0]
   have hu2:(u.toList == s.toList)=true:=by rw [hu,ZxB hz];simp
   have HZ:=hid hz
   clear ho HD hp hz hu
   go_enter func132,ntmps132
   go_wp2_with (first
    | (go_at_call 195;(with_reducible refine O.mono ?_);rintro e w1 ⟨rfl,h1,h2⟩;have K1:=hid (And.intro h1 h2);have WW:=HWd.out w1 h1;clear h1 h2)
    | (go_at_call 60;(with_reducible refine WW.mono ?_);rintro e w2 ⟨rfl,h1⟩;have p2:=K1.out.1.below h1 K1.out.1.lt;have K2:=hid (And.intro p2 (Zan K1.out.2 (h1.mono K1.out.2.size)));have C1:=HCl.out w2 (i + 1) p2 HZ.out hs0;clear h1 p2)
    | (go_at_call 197;(with_reducible refine C1.mono ?_);rintro e w3 ⟨rfl,h1,h2⟩;have K3:=hid (And.intro h1 h2);clear h1 h2))
   go_ret
   exact Post.ok (j:=i + 1 + 1) (x:=[]) rfl (Zaa K2.out.2 K3.out.2 (.inl rfl)) K3.out.1 (by omega) ⟨OwnRow.nil _ _,by simp⟩
  ·rw [ZrQ ho ho0 hz hs0]
   have hu2:(u.toList == s.toList)=false:=by rw [hu];exact ZxA hz
   clear ho HD hp hz hu
   go_enter func132,ntmps132
   go_wp2_with (first
    | (go_at_call 195;(with_reducible refine O.mono ?_);rintro e w0 ⟨rfl,h1,h2⟩;have K0:=hid (And.intro h1 h2);have WW:=HWd.out w0 h1;clear h1 h2)
    | (go_at_call 60;(with_reducible refine WW.mono ?_);rintro e w1 ⟨rfl,h1⟩;have p2:=K0.out.1.below h1 K0.out.1.lt;have K1:=hid (And.intro p2 (Zan K0.out.2 (h1.mono K0.out.2.size)));have SS:=ZjX N K b S false wt hK HC.out w1 (i + 1) p2 (by omega);clear h1 p2)
    | (go_at_call 196;(with_reducible refine SS.mono ?_);rintro e w2 ⟨g,h1⟩;rcases h1 with ⟨j,h',rfl,p,hx⟩ | ⟨c,j,v,rfl,hij,p,ho,hc,hne,hx⟩;exact ⟨rfl,Post.err (hx _) (Zaa K1.out.2 g (.inl rfl)) p⟩;have K2:=hid (And.intro (Zaa K1.out.2 g (.inl rfl)) (And.intro p (And.intro (ho.weak K1.out.2.size) (And.intro hc (And.intro hne hx)))));clear g p ho hc hne hx))
   have hjl:=K2.out.2.1.le
   have hnum:=K2.out.2.1.env.num
   by_cases hs:Zag S j=ls s
   ·have C1:=HCl.out w2 j K2.out.2.1 hs hs0
    have HS:=hid hs
    clear hs
    go_wp2_with (go_at_call 197;(with_reducible refine C1.mono ?_);rintro e w3 ⟨rfl,h1,h2⟩;have K3:=hid (And.intro h1 h2);clear h1 h2)
    go_ret
    refine Post.ok (j:=j + 1) (x:=c) ?_ (Zaa K2.out.1 K3.out.2 (.inl rfl)) K3.out.1 (by omega) ⟨K2.out.2.2.1.grown K3.out.2 hlt,by have:=K2.out.2.2.2.1;omega⟩
    rw [K2.out.2.2.2.2.2,ZmP wt K2.out.2.2.2.2.1 HS.out hs0]
    simp [S8.pre]
   ·have C1:=HCn.out w2 j K2.out.2.1 hs
    have HS:=hid hs
    clear hs
    go_wp2_with (go_at_call 197;(with_reducible refine C1.mono ?_);rintro e w3 ⟨rfl,h1,h2⟩;exact ⟨rfl,Post.err (by rw [K2.out.2.2.2.2.2,Zpm wt K2.out.2.2.2.2.1 HS.out hs0];rfl) (Zaa K2.out.1 h2 (.inl rfl)) h1⟩)
 ·rw [ZwA ho ho0]
  have O:=ZnE b S i h w hp o ho
  clear ho HD hp
  go_enter func132,ntmps132
  go_wp2_with (go_at_call 195;(with_reducible refine O.mono ?_);rintro e w1 ⟨rfl,h1,h2⟩;exact ⟨rfl,Post.err rfl h2 h1⟩)
end
open Go.RowKit L7
open S8 (lim single What)
abbrev nd5 (k:Int) (t:Bs) (n a:Int) (s:Value):Array Value:=#[.int .i64 k,.string (mk t),.int .i64 n,.int .i64 a,s]
structure Fn (w:World) (b:Nat) (S:Pg) (g0 gn:Nat) (W:World) (i:Nat) (h:Bool) (k:Int) (t:Bs) (n a:Int) (c:List Nd) (s:Value):Prop where
 laid ::
 ps:Ps W b S i h
 fr:w.grownBy W (some b)
 r0:Is W g0 24 z5
 nd:Is W gn 24 #[.int .i64 k,.string (mk t),.int .i64 n,.int .i64 a,s]
 h0:w.heap.size≤g0
 hn:g0 < gn
 hb:b < w.heap.size
 row:OwnRow W (gn + 1) c s
structure Fm (w:World) (b:Nat) (S:Pg) (g0 gn:Nat) (W:World) (i:Nat) (h:Bool) (k:Int) (t:Bs) (n a:Int) (s:Value):Prop where
 laid ::
 ps:Ps W b S i h
 fr:w.grownBy W (some b)
 r0:Is W g0 24 z5
 nd:Is W gn 24 #[.int .i64 k,.string (mk t),.int .i64 n,.int .i64 a,s]
 h0:w.heap.size≤g0
 hn:g0 < gn
 hb:b < w.heap.size
section
variable {w W W':World} {b g0 gn i:Nat} {S:Pg} {h:Bool} {k:Int} {t:Bs} {n a:Int} {c:List Nd} {s:Value}
theorem Fn.size (F:Fn w b S g0 gn W i h k t n a c s):gn + 1≤W.heap.size:=F.nd.lt
theorem Fn.call (F:Fn w b S g0 gn W i h k t n a c s) (g:W.grownBy W' (some b)) {j:Nat} {h':Bool} (p:Ps W' b S j h'):Fn w b S g0 gn W' j h' k t n a c s:=
 have h1:=F.h0;have h2:=F.hn;have h3:=F.hb
 ⟨p,Zaa F.fr g (.inl rfl),F.r0.kept g (by simp;omega),F.nd.kept g (by simp;omega),F.h0,F.hn,F.hb,F.row.grown g (by omega)⟩
theorem Fn.look (F:Fn w b S g0 gn W i h k t n a c s) (g:Below W.heap.size W W'):Fn w b S g0 gn W' i h k t n a c s:=
 ⟨F.ps.below g F.ps.lt,Zan F.fr (g.mono F.fr.size),F.r0.below g F.r0.lt,F.nd.below g F.nd.lt,F.h0,F.hn,F.hb,F.row.below g (Nat.le_refl _)⟩
theorem Fn.put (F:Fn w b S g0 gn W i h k t n a c s) (g:W.grownBy W' (some gn)) {k':Int} {t':Bs} {n' a':Int} {s':Value} {c':List Nd} (hI:Is W' gn 24 #[.int .i64 k',.string (mk t'),.int .i64 n',.int .i64 a',s']) (hr:OwnRow W (gn + 1) c' s'):Fn w b S g0 gn W' i h k' t' n' a' c' s':=
 have h1:=F.h0;have h2:=F.hn;have h3:=F.hb
 ⟨F.ps.kept g (by omega),Zaa F.fr g (.inr fun j e=>by injection e with e;omega),F.r0.kept g (by simp;omega),hI,F.h0,F.hn,F.hb,hr.grown g (by omega)⟩
theorem Fn.turn (F:Fn w b S g0 gn W i h k t n a c s) (g:Below (gn + 1) W W'):Fm w b S g0 gn W' i h k t n a s:=
 have h1:=F.h0;have h2:=F.hn;have h3:=F.hb
 ⟨F.ps.below g (by omega),Zan F.fr (g.mono (by omega)),F.r0.below g (by omega),F.nd.below g (by omega),h1,h2,h3⟩
theorem Fm.put (F:Fm w b S g0 gn W i h k t n a s) (g:W.grownBy W' (some gn)) {s':Value} {c':List Nd} (hI:Is W' gn 24 #[.int .i64 k,.string (mk t),.int .i64 n,.int .i64 a,s']) (hr:OwnRow W (gn + 1) c' s'):Fn w b S g0 gn W' i h k t n a c' s':=
 have h1:=F.h0;have h2:=F.hn;have h3:=F.hb
 ⟨F.ps.kept g (by omega),Zaa F.fr g (.inr fun j e=>by injection e with e;omega),F.r0.kept g (by simp;omega),hI,F.h0,F.hn,F.hb,hr.grown g (by omega)⟩
theorem Fn.start (p:Ps w b S i h) {w1:World} (hB:Below (w.alloc (.cells z5 24)).heap.size (w.alloc (.cells z5 24)) w1) (k:Int) (n:Int) (a:Int) :
  Fn w b S w.heap.size w1.heap.size (w1.alloc (.cells #[.int .i64 k,.string ⟨#[]⟩,.int .i64 n,.int .i64 a,.slice none 0 0] 24)) i h k [] n a [] (.slice none 0 0):=
 have h1:w.heap.size + 1≤w1.heap.size:=by have:=hB.size;simpa using this
 ⟨((p.alloc _).below hB (by have:=p.lt;simp;omega)).alloc _,Zaj ((((Below.refl _ _).alloc (Nat.le_refl _) _).trans (hB.mono (by simp))).alloc (by omega) _),((Is.fresh w 24 _).below hB (by simp)).alloc _,Is.fresh w1 24 _,Nat.le_refl _,by omega,p.lt,OwnRow.nil _ _⟩
theorem Fn.done (F:Fn w b S g0 gn W i h k t n a c s) (g:W.grownBy W' (some g0)):w.grownBy W' (some b)∧Ps W' b S i h∧Own W' w.heap.size (.mk k t n a c) (.agg #[.int .i64 k,.string (mk t),.int .i64 n,.int .i64 a,s]):=
 have h1:=F.h0;have h2:=F.hn;have h3:=F.hb
 ⟨Zaa F.fr g (.inr fun j e=>by injection e with e;omega),F.ps.kept g (by omega),s,rfl,(F.row.grown g (by omega)).weak (by omega)⟩
theorem Fn.one (F:Fn w b S g0 gn W i h k t n a c s):s.oneCell'=true:=F.row.one
end
section
variable {ops:Array Oper} {rest:List Oper} {o:Oper} {act:Act} {Q:Exit→Act→World→Prop}
variable {w W:World} {b g0 gn i:Nat} {S:Pg} {h:Bool} {k:Int} {t:Bs} {n a:Int} {c:List Nd} {s:Value}
theorem Zbk (F:Fn w b S g0 gn W i h k t n a c s) (t':Bs) (hgd:o.guard=none) (x y:Operand) (ho:o.op=.store 9 x y) (hx:act.eval x=.pointer (some ⟨gn,1,none⟩)) (hy:act.eval y=.string (mk t'))
  (hK:∀W',Fn w b S g0 gn W' i h k t' n a c s→wpList prog ops Q rest (act.put o.dst undef) W'):wpList prog ops Q (o::rest) act W:=
 Zc4 F.nd (j:=1) (show 1 < 5 by decide) hgd 9 x y ho _ hx hy inf9 rfl fun _ h1 h2=>hK _ (F.put h2 h1 F.row)
theorem Zh4 (F:Fn w b S g0 gn W i h k t n a c s) (n':Int) (hgd:o.guard=none) (x y:Operand) (ho:o.op=.store 3 x y) (hx:act.eval x=.pointer (some ⟨gn,2,none⟩)) (hy:act.eval y=.int .i64 n')
  (hK:∀W',Fn w b S g0 gn W' i h k t n' a c s→wpList prog ops Q rest (act.put o.dst undef) W'):wpList prog ops Q (o::rest) act W:=
 Zc4 F.nd (j:=2) (show 2 < 5 by decide) hgd 3 x y ho _ hx hy inf3 rfl fun _ h1 h2=>hK _ (F.put h2 h1 F.row)
theorem ZkW (F:Fn w b S g0 gn W i h k t n a c s) (k':Int) (hgd:o.guard=none) (x y:Operand) (ho:o.op=.store 3 x y) (hx:act.eval x=.pointer (some ⟨gn,0,none⟩)) (hy:act.eval y=.int .i64 k')
  (hK:∀W',Fn w b S g0 gn W' i h k' t n a c s→wpList prog ops Q rest (act.put o.dst undef) W'):wpList prog ops Q (o::rest) act W:=
 Zc4 F.nd (j:=0) (show 0 < 5 by decide) hgd 3 x y ho _ hx hy inf3 rfl fun _ h1 h2=>hK _ (F.put h2 h1 F.row)
theorem Zrh (F:Fn w b S g0 gn W i h k t n a c s) (a':Int) (hgd:o.guard=none) (x y:Operand) (ho:o.op=.store 3 x y) (hx:act.eval x=.pointer (some ⟨gn,3,none⟩)) (hy:act.eval y=.int .i64 a')
  (hK:∀W',Fn w b S g0 gn W' i h k t n a' c s→wpList prog ops Q rest (act.put o.dst undef) W'):wpList prog ops Q (o::rest) act W:=
 Zc4 F.nd (j:=3) (show 3 < 5 by decide) hgd 3 x y ho _ hx hy inf3 rfl fun _ h1 h2=>hK _ (F.put h2 h1 F.row)
theorem Za7 (F:Fn w b S g0 gn W i h k t n a c s) {c':List Nd} {s':Value} (hr:OwnRow W (gn + 1) c' s') (hgd:o.guard=none) (x y:Operand) (ho:o.op=.store 22 x y) (hx:act.eval x=.pointer (some ⟨gn,4,none⟩)) (hy:act.eval y=s')
  (hK:∀W',Fn w b S g0 gn W' i h k t n a c' s'→wpList prog ops Q rest (act.put o.dst undef) W'):wpList prog ops Q (o::rest) act W:=
 Zc4 F.nd (j:=4) (show 4 < 5 by decide) hgd 22 x y ho _ hx hy inf22 hr.one fun _ h1 h2=>hK _ (F.put h2 h1 hr)
theorem ZbX (F:Fm w b S g0 gn W i h k t n a s) {c':List Nd} {s':Value} (hr:OwnRow W (gn + 1) c' s') (hgd:o.guard=none) (x y:Operand) (ho:o.op=.store 22 x y) (hx:act.eval x=.pointer (some ⟨gn,4,none⟩)) (hy:act.eval y=s')
  (hK:∀W',Fn w b S g0 gn W' i h k t n a c' s'→wpList prog ops Q rest (act.put o.dst undef) W'):wpList prog ops Q (o::rest) act W:=
 Zc4 F.nd (j:=4) (show 4 < 5 by decide) hgd 22 x y ho _ hx hy inf22 hr.one fun _ h1 h2=>hK _ (F.put h2 h1 hr)
theorem Zax (F:Fn w b S g0 gn W i h k t n a c s) (hgd:o.guard=none) (x:Operand) (ho:o.op=.load 24 x) (hx:act.eval x=.pointer (some ⟨gn,0,none⟩))
  (hK:wpList prog ops Q rest (act.put o.dst (.agg (nd5 k t n a s))) W):wpList prog ops Q (o::rest) act W:=
 wpList_load_row hgd 24 x ho gn hx 24 _ (0,0) _ F.nd underlying24 rfl inf24 hK
theorem Zaw (F:Fn w b S g0 gn W i h k t n a c s) (hgd:o.guard=none) (x y:Operand) (ho:o.op=.store 24 x y) (hx:act.eval x=.pointer (some ⟨g0,0,none⟩)) (hy:act.eval y=.agg (nd5 k t n a s))
  (hK:∀W',Is W' g0 24 (nd5 k t n a s)→w.grownBy W' (some b)→Ps W' b S i h→Own W' w.heap.size (.mk k t n a c) (.agg (nd5 k t n a s))→wpList prog ops Q rest (act.put o.dst undef) W'):wpList prog ops Q (o::rest) act W:=
 Zah F.r0 hgd 24 x y ho _ hx hy inf24 rfl (by have h1:=F.one;simp [nd5,h1];exact ⟨rfl,rfl,rfl,rfl⟩) fun _ h1 h2=>hK _ h1 (F.done h2).1 (F.done h2).2.1 (F.done h2).2.2
theorem Fn.single {W1:World} (F:Fn w b S g0 gn W i h k t n a c s) {j:Nat} {h':Bool} (g:W.grownBy W1 (some b)) (p:Ps W1 b S j h') {x:Nd} {r:Value} (ho:OwnRow W1 W.heap.size x.c r) :
  Fn w b S g0 gn (W1.alloc (.cells (nd5 x.k x.t x.n x.a r) 24)) j h' k t n a c s∧OwnRow (W1.alloc (.cells (nd5 x.k x.t x.n x.a r) 24)) (gn + 1) [x] (.slice (some ⟨W1.heap.size,0,none⟩) 1 1):=
 ⟨(F.call g p).look ((Below.refl _ _).alloc (Nat.le_refl _) _),(ZjW g.size ho).weak F.size⟩
end
theorem ZaN {α:Type} {S:Pg} {i:Nat} {f:Int→S8.P α} {R:S8.Res α} (h:f (place S i) S.size (S.toks.drop i)=R) (h0:S.toks.length≤i→R=.err (place S i)):(S8.here >>= f) S.size (S.toks.drop i)=R:=by
 rw [S8.Zac]
 cases hx:S.toks[i]? with
 | none=>
  have hl:S.toks.length≤i:=by simpa using hx
  rw [h0 hl,ZdL hx,place,hx];rfl
 | some t=>
  rw [← h,ZdK hx,Zdp hx]
  rfl
theorem ZaT {α:Type} {p:S8.P α} (hc:S8.Con p) {S:Pg} {i j:Nat} {x:α} (h:p S.size (S.toks.drop i)=.ok x (S.toks.drop j)):i < j∧i < S.toks.length:=by
 obtain ⟨u,q,h1⟩:=hc _ _ _ _ h
 have h2:=congrArg List.length h1
 simp only [List.length_drop,List.length_append,List.length_cons] at h2
 omega
theorem Zg7 {α:Type} {q:S8.Res α} {a c:Int} (h:q=.err a) (k:q=.err c):a=c:=by rw [h] at k;injection k
theorem Zci {S:Pg} {i:Nat} (hl:S.toks.length≤i):S.toks.drop i=[]∧place S i=S.size:=⟨List.drop_eq_nil_of_le hl,by unfold place;rw [List.getElem?_eq_none hl]⟩
theorem Zjh {S:Pg} {i:Nat} (hl:S.toks.length≤i):S8.low S.size (S.toks.drop i)=.err (place S i):=by rw [(Zci hl).1,(Zci hl).2];rfl
theorem ZqG {S:Pg} {i:Nat} (hl:S.toks.length≤i):S8.up S.size (S.toks.drop i)=.err (place S i):=by rw [(Zci hl).1,(Zci hl).2];rfl
theorem Zsd (N b:Nat) (S:Pg) (h:Bool) (HT:Does N 198 b S h (single (lim (.one .type)))) (w:World) (i:Nat) (hp:Ps w b S i h) (hN:S.toks.length≤N + i) :
  Calls prog 133 #[.pointer (some ⟨b,0,none⟩)] w (Post w b S i h (single (lim (.one .field)) S.size (S.toks.drop i)) (ZaO w)):=by
 have HM:Hid (∀R,(do let t ← S8.low;let _ ← S8.must S8.ZfH;let y ← single (lim (.one .type));pure (.mk 7 t 0 (place S i) [y]):S8.P Nd) S.size (S.toks.drop i)=R→(S.toks.length≤i→R=.err (place S i))→single (lim (.one .field)) S.size (S.toks.drop i)=R):=hid (fun R h1 h2=>by
  rw [Zdl];exact ZaN h1 h2)
 have HC:=hid HT
 have HP:=hid hp
 have B0:=ZaH b S i h _ (hp.alloc (.cells z5 24)) 7
 obtain ⟨pl,hpl⟩:∃pl,pl=place S i:=⟨_,rfl⟩
 rw [← hpl] at HM B0
 have HPL:=hid hpl
 have hle:=hp.le
 clear HT hp hpl
 go_enter func133,ntmps133
 go_wp2_with (first
  | (go_at_call 123;(with_reducible refine B0.mono ?_);rintro e w1 ⟨rfl,h1⟩;have F1:=hid (Fn.start HP.out h1 7 0 pl);have C1:=Zcz b S i h _ F1.out.ps;clear h1)
  | (go_at_call 136;(with_reducible refine C1.mono ?_);rintro e w2 h1;rcases h1.ways with ⟨a,j,h',e1,rfl,g,p,rfl⟩ | ⟨t,j1,v,e1,rfl,g,hj1,p,rfl⟩;exact ⟨rfl,Post.err (HM.out _ (by simp only [S8.Zac,e1]) (fun hl=>by rw [HPL.out,Zg7 e1 (Zjh hl)])) (Zaa F1.out.fr g (.inl rfl)) p⟩;have hl1:=ZaT S8.Za5 e1;have F2:=hid (F1.out.call g p);have E1:=hid e1;clear h1 e1 g p)
  | (refine Zbk F2.out t rfl _ _ rfl rfl rfl ?_;intro w3 h1;have F3:=hid h1;have C2:Calls prog 119 #[.pointer (some ⟨b,0,none⟩),.string ⟨#[58]⟩] w3 (Post w3 b S j1 h (S8.must S8.ZfH S.size (S.toks.drop j1)) fun _ v _=>v=.tuple #[]):=Zbd b S j1 h _ h1.ps ⟨#[58]⟩ (by decide);clear h1)
  | (go_at_call 119;(with_reducible refine C2.mono ?_);rintro e w4 h1;rcases h1.ways with ⟨a,j,h',e1,rfl,g,p,rfl⟩ | ⟨u2,j2,v,e1,rfl,g,hj2,p,rfl⟩;exact ⟨rfl,Post.err (HM.out _ (by simp only [S8.Zac,E1.out,e1]) (fun hl=>absurd hl (by omega))) (Zaa F3.out.fr g (.inl rfl)) p⟩;have F4:=hid (F3.out.call g p);have E2:=hid e1;have C3:=HC.out _ j2 p (by omega);clear h1 e1 g p)
  | (go_at_call 198;(with_reducible refine C3.mono ?_);rintro e w5 h1;rcases h1.ways with ⟨a,j,h',e1,rfl,g,p,rfl⟩ | ⟨x,j3,v,e1,rfl,g,hj3,p,s,rfl,ho⟩;exact ⟨rfl,Post.err (HM.out _ (by simp only [S8.Zac,E1.out,E2.out,e1]) (fun hl=>absurd hl (by omega))) (Zaa F4.out.fr g (.inl rfl)) p⟩;have F5:=hid (F4.out.single g p ho);have E3:=hid e1;clear h1 e1 g p ho)
  | (refine Za7 F5.out.1 F5.out.2 rfl _ _ rfl rfl rfl ?_;intro w6 h1;have F6:=hid h1;clear h1)
  | (refine Zax F6.out rfl _ rfl rfl ?_)
  | (refine Zaw F6.out rfl _ _ rfl rfl rfl ?_;intro w7 h1 h2 h3 h4;have F7:=hid (And.intro h1 (And.intro h2 (And.intro h3 h4)));clear h1 h2 h3 h4))
 refine ret24 results133 F7.out.1
  (Post.ok (j:=j3) (HM.out _ (by simp only [S8.Zac,E1.out,E2.out,E3.out];rfl) (fun hl=>absurd hl (by omega))) F7.out.2.1 F7.out.2.2.1 (by omega) F7.out.2.2.2)
open Go.RowKit L7
open S8 (lim single What)
section
variable {P:Program} {ops:Array Oper} {Q:Exit→Act→World→Prop} {S:World→Prop} {N:Nat→Bool}
theorem ZqA {o:Oper} {a:Act} {w:World} {K K':Act→World→Prop} (h:o.wp P a w K (Exit.then K' Q)):o.wp P a w K Q:=by
 unfold Oper.wp at *
 generalize (execOp a.eval o).run P w=r at *
 cases r with
 | ok n w'=>
  cases n with
  | enter f args=>
   refine Calls.mono h fun e w'' he=>?_
   cases e with
   | returned u=>exact he
   | panicked c=>exact he
   | outgrown=>exact he
  | value v=>exact h
  | skip=>exact h
  | defer d=>exact h
  | row row args=>exact h
  | _=>exact h
 | halt x w'=>cases x <;> exact h
theorem Zad {i:Nat} {o:Oper} {r:List Nat} {a:Act} {w:World} (ho:ops[i]?=some o) (h:∀K:Act→World→Prop,(∀a' w',(N i=true→S w')→Zcn P ops Q S N r a' w'→K a' w')→wpList P ops (Exit.then K Q) [o] a w):Zcn P ops Q S N (i::r) a w:=by
 have hh:=h (fun a' w'=>(N i=true→S w')∧Zcn P ops Q S N r a' w') (fun a' w' h1 h2=>⟨h1,h2⟩)
 unfold Zcn wpOp
 simp only [ho]
 unfold wpList at hh
 split
 ·rename_i hw
  simp only [hw,if_true] at hh
  rcases hh with hh | hh
  ·exact .inl (ZqA hh)
  ·exact .inr hh
 ·rename_i hw
  simp only [hw] at hh
  exact hh
theorem Zab {i:Nat} {o:Oper} {r:List Nat} {a:Act} {K:Act→Prop} (v:Value) (ho:ops[i]?=some o) (hw:Region.wanted o (yielded ops a.tmps)=true) (hv:∀w,S w→(execOp a.eval o).run P w=.ok (.value v) w) (h:ZcC P ops S K r (a.put o.dst v)):ZcC P ops S K (i::r) a:=
 ⟨o,v,ho,.inl ⟨hw,hv⟩,h⟩
theorem fs {i:Nat} {o:Oper} {r:List Nat} {a:Act} {K:Act→Prop} (v:Value) (ho:ops[i]?=some o) (h:ZcC P ops S K r (a.put o.dst v)) (hw:Region.wanted o (yielded ops a.tmps)=true:=by rfl) (hv:∀w,S w→(execOp a.eval o).run P w=.ok (.value v) w:=by intro W hS;go_simp):ZcC P ops S K (i::r) a:=Zab v ho hw hv h
theorem cs {i:Nat} {o:Oper} {r:List Nat} {a:Act} {w:World} (ho:ops[i]?=some o) (h:∀K:Act→World→Prop,Hid (∀a' w',(N i=true→S w')→Zcn P ops Q S N r a' w'→K a' w')→wpList P ops (Exit.then K Q) [o] a w):Zcn P ops Q S N (i::r) a w:=Zad ho fun K hK=>h K (hid hK)
theorem Zam {a:Act} {w:World} (h:Q .normal a w):Zcn P ops Q S N [] a w:=h
theorem Zap {c:List Nat} {a:Act} {w:World} (h:Zcn P ops Q S N c a w):ZcC P ops S (fun a'=>Zcn P ops Q S N c a' w) [] a:=h
end
end Go.Proofs.YtaheffiglmglbaaGreatDoor
