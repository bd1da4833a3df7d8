import Derived.Test.YtaheffiglmglbaaGreatDoorKQb
import Derived.Test.YtaheffiglmglbaaGreatDoorKLc
import Derived.Test.YtaheffiglmglbaaGreatDoorKPf
/- WrM, WrP, WrQ, WrE, WrG, WrH. -/
set_option maxHeartbeats 8000000
set_option maxRecDepth 20000
namespace Go.Proofs.YtaheffiglmglbaaGreatDoor
open Go.Proofs.Tryz
open Go.RowKit L7
mutual
def wt:Nd→Nat
 | .mk _ t _ _ c=>1000 + 4 * t.length + wts c
def wts:List Nd→Nat
 | []=>0
 | x::l=>wt x + 200 + wts l
end
theorem Zm2 (x:Nd):wt x=1000 + 4 * x.t.length + wts x.c:=by cases x;rw [wt];rfl
theorem Zbr (x:Nd) (l:List Nd):wts (x::l)=wt x + 200 + wts l:=by rw [wts]
theorem Zbw:wts []=0:=by rw [wts]
theorem ZeM:∀l m:List Nd,wts (l++m)=wts l + wts m
 | [],m=>by rw [Zbw];simp
 | x::l,m=>by rw [List.cons_append,Zbr,Zbr,ZeM l m];omega
def In64 (n:Int):Prop:=-9223372036854775808≤n∧n≤9223372036854775807
mutual
def rgd:Nd→Bool
 | .mk k _ n _ c=>((decide (-9223372036854775808≤n) && decide (n≤9223372036854775807)) && S8.okK k) && rgds c
def rgds:List Nd→Bool
 | []=>true
 | x::l=>rgd x && rgds l
end
theorem ZoL:∀{c:List Nd} {y:Nd},rgds c=true→y∈c→rgd y=true
 | [],_,_,h=>by cases h
 | x::l,y,h,hy=>by
  rw [rgds,Bool.and_eq_true] at h
  rcases List.mem_cons.1 hy with rfl | hy
  ·exact h.1
  ·exact ZoL h.2 hy
def dpt (x:Nd):Nat:=S8.depth x + if rgd x=true then 0 else 1000000
theorem Zc9 {x:Nd} (h:dpt x < 1000000):In64 x.n:=by
 unfold dpt at h
 obtain ⟨k,t,n,a,c⟩:=x
 cases hr:rgd (.mk k t n a c) with
 | true=>
  rw [rgd] at hr
  simp only [Bool.and_eq_true,decide_eq_true_eq] at hr
  exact hr.1.1
 | false=>rw [hr,if_neg (by decide)] at h;omega
theorem Zex {x:Nd} (h:dpt x < 1000000):S8.okK x.k=true:=by
 unfold dpt at h
 obtain ⟨k,t,n,a,c⟩:=x
 cases hr:rgd (.mk k t n a c) with
 | true=>
  rw [rgd] at hr
  simp only [Bool.and_eq_true,decide_eq_true_eq] at hr
  exact hr.1.2
 | false=>rw [hr,if_neg (by decide)] at h;omega
theorem bad {N:Nat} {x:Nd} (hN:N≤1000) (hd:dpt x < N + 1) {k:Int} (hk:x.k=k) (h:S8.okK k=false):False:=by
 have:=Zex (x:=x) (by omega)
 rw [hk,h] at this;cases this
mutual
theorem Zqe:∀(x:Nd),∀y∈x.c,S8.depth y < S8.depth x
 | .mk _ _ _ _ c,y,hy=>by rw [S8.depth];exact Zkf c y hy
theorem Zkf:∀(c:List Nd),∀y∈c,S8.depth y < S8.depths c
 | [],_,h=>by cases h
 | x::l,y,h=>by
  rw [S8.depths]
  rcases List.mem_cons.1 h with rfl | h
  ·omega
  ·have:=Zkf l y h;omega
end
theorem Zbv (x:Nd) (y:Nd) (hy:y∈x.c):dpt y < dpt x:=by
 have h1:=Zqe x y hy
 unfold dpt
 cases hr:rgd x with
 | true=>
  have:rgd y=true:=by
   obtain ⟨k,t,n,a,c⟩:=x
   rw [rgd,Bool.and_eq_true] at hr
   exact ZoL hr.2 hy
  rw [this];simp;exact h1
 | false=>split <;> simp <;> omega
structure Fr (B:Nat) (X:Nat→Prop) (w w':World):Prop where
 laid ::
 below:Below B w w'
 keep:∀g t c,Is w g t c→B < g→¬ X g→t≠42→Is w' g t c
section
variable {B lv:Nat} {X X':Nat→Prop} {w w1 w2 w':World} {L:List Tk} {r:Nat}
theorem Fr.refl (B:Nat) (X:Nat→Prop) (w:World):Fr B X w w:=⟨Below.refl _ _,fun _ _ _ h _ _ _=>h⟩
theorem Fr.trans (h:Fr B X w w1) (k:Fr B X' w1 w2) (hX:∀g,g < w.heap.size→X' g→X g):Fr B X w w2:=
 ⟨h.below.trans k.below,fun g t c hI hB hx ht=>k.keep g t c (h.keep g t c hI hB hx ht) hB (fun e=>hx (hX g hI.lt e)) ht⟩
theorem Fr.weak (h:Fr B X w w1) (hX:∀g,g < w.heap.size→X g→X' g):Fr B X' w w1:=
 ⟨h.below,fun g t c hI hB hx ht=>h.keep g t c hI hB (fun e=>hx (hX g hI.lt e)) ht⟩
theorem Fr.nil (h:Fr B X w w1) (hX:∀g,g < w.heap.size→¬ X g):Fr B (fun _=>False) w w1:=h.weak fun g hg hx=>hX g hg hx
theorem Fr.of_below (h:Below w.heap.size w w') (hB:B≤w.heap.size):Fr B X w w':=⟨h.mono hB,fun _ _ _ hI _ _ _=>hI.below h hI.lt⟩
theorem Fr.of_grown {g:Nat} (h:w.grownBy w' (some g)) (hB:B≤g) (hw:B≤w.heap.size):Fr B (fun j=>j=g) w w':=
 ⟨⟨h.os,h.tape,h.output,h.size,fun k hk=>h.block k (by omega) (by simp;omega)⟩,fun j t c hI _ hx _=>hI.kept h (by simpa using hx)⟩
structure Wr (w:World) (B lv:Nat) (L:List Tk) (r:Nat):Prop where
 laid ::
 row:∃s,Is w B 79 #[s,.map (some lv)]∧w.ownsRow (B + 1) 42 4 s L.length (ZfA (L.map fun t=>(t,0)))
 map:MapHas w lv
 lt:lv < B
 lies:∃w0,Lies w0∧w0.heap.size≤B∧Below w0.heap.size w0 w
 bud:tws L + r≤20000000
theorem Wr.size (h:Wr w B lv L r):B < w.heap.size:=by obtain ⟨s,h1,-⟩:=h.row;exact h1.lt
theorem Wr.lie (h:Wr w B lv L r):Lies w:=by obtain ⟨w0,h1,-,h3⟩:=h.lies;exact h1.on h3
theorem Wr.less (h:Wr w B lv L r) {r':Nat} (hr:r'≤r):Wr w B lv L r':=⟨h.row,h.map,h.lt,h.lies,by have:=h.bud;omega⟩
theorem Wr.stay (h:Wr w B lv L r) (hb:Below (B + 1) w w') (ho:∀s n xs,w.ownsRow (B + 1) 42 4 s n xs→w'.ownsRow (B + 1) 42 4 s n xs):Wr w' B lv L r:=by
 obtain ⟨s,h1,h2⟩:=h.row
 obtain ⟨w0,k1,k2,k3⟩:=h.lies
 have hl:=h.lt
 exact ⟨⟨s,h1.below hb (by omega),ho _ _ _ h2⟩,h.map.stay (hb.block _ (by omega)),h.lt,⟨w0,k1,k2,k3.trans (hb.mono (by omega))⟩,h.bud⟩
theorem Wr.below (h:Wr w B lv L r) (k:Below w.heap.size w w'):Wr w' B lv L r:=
 h.stay (k.mono h.size) fun _ _ _ ho=>ZeS ho k
theorem Wr.kept (h:Wr w B lv L r) {g:Nat} {t:TypeId} {c:Array Value} (hI:Is w g t c) (ht:42≠t) (hB:B < g) (k:w.grownBy w' (some g)):Wr w' B lv L r:=
 h.stay ⟨k.os,k.tape,k.output,k.size,fun j hj=>k.block j (by have:=h.size;omega) (by simp;omega)⟩ fun s n xs ho=>ho.kept k (.inr fun e=>Is.row_apart ho hI ht e.symm)
theorem Wr.alloc (h:Wr w B lv L r) (o:Obj):Wr (w.alloc o) B lv L r:=h.below ((Below.refl _ _).alloc (Nat.le_refl _) o)
def NodeAt (w:World) (B:Nat) (x:Nd) (v:Value):Prop:=∃s,v=.agg (nd5 x.k x.t x.n x.a s)∧Kid w (fun g=>g < B) x s
theorem ZaF {x:Nd} {v:Value} (h:Kid w (fun g=>g < B) x v) (k:Below B w w'):Kid w' (fun g=>g < B) x v:=Zb0 (fun _ h _=>h) (fun g hg _=>k.block g hg) x v h
theorem NodeAt.below {x:Nd} {v:Value} (h:NodeAt w B x v) (k:Below B w w'):NodeAt w' B x v:=by
 obtain ⟨s,e,h⟩:=h;exact ⟨s,e,ZaF h k⟩
def RowAt (w:World) (B:Nat) (c:List Nd) (A:Option Addr):Prop:=
 ∀j x,c[j]?=some x→∃a s,A=some a∧a.block < B∧(∀i u,(ndc x s)[i]?=some u→w.cell? (a.add (j * 5 + i))=some u)∧Kid w (fun g=>g < B) x s
theorem RowAt.below {c:List Nd} {A:Option Addr} (h:RowAt w B c A) (k:Below B w w'):RowAt w' B c A:=fun j x hj=>by
 obtain ⟨a,s,h1,h2,h3,h4⟩:=h j x hj
 exact ⟨a,s,h1,h2,fun i u hu=>(k.cell (by rw [Zdt];exact h2)).trans (h3 i u hu),ZaF h4 k⟩
theorem Zr0 {A:Option Addr} : ∀{c:List Nd} {i:Nat},Kids w (fun g=>g < B) c A i→∀j x,c[j]?=some x→∃a s,A=some a∧a.block < B∧(∀l u,(ndc x s)[l]?=some u→w.cell? (a.add ((i + j) * 5 + l))=some u)∧Kid w (fun g=>g < B) x s
 | [],_,_,j,x,hj=>by simp at hj
 | y::c,i,h,0,x,hj=>by
  simp only [Kids] at h
  obtain ⟨⟨a,s,h1,h2,h3,h4⟩,-⟩:=h
  simp at hj;subst hj
  exact ⟨a,s,h1,h2,h3,h4⟩
 | y::c,i,h,j + 1,x,hj=>by
  simp only [Kids] at h
  have:=Zr0 h.2 j x (by simpa using hj)
  rw [show i + 1 + j=i + (j + 1) by omega] at this
  exact this
theorem ZcG {x:Nd} {v:Value} (h:Kid w (fun g=>g < B) x v):∃A cap,v=.slice A x.c.length cap∧x.c.length≤cap∧RowAt w B x.c A:=by
 obtain ⟨A,cap,h1,h2,h3⟩:=(ZgA _ _ _ _).1 h
 refine ⟨A,cap,h1,h2,fun j y hj=>?_⟩
 have:=Zr0 h3 j y hj
 rw [Nat.zero_add] at this
 exact this
structure Fo (w:World) (B g lv N:Nat) (f:S8.Fm) (L:List Tk) (r:Nat):Prop where
 laid ::
 wr:Wr w B lv L (r + 4 * f.t.length + wts f.c)
 is:∃k a A cap,Is w g 108 #[.pointer (some ⟨B,0,none⟩),.int .i64 k,.string (mk f.t),.int .i64 f.n,.int .i64 a,.slice A f.c.length cap]∧f.c.length≤cap∧RowAt w B f.c A
 gt:B < g
 dp:∀y∈f.c,dpt y < N
 nr:In64 f.n
theorem Fo.less {g N:Nat} {f:S8.Fm} (h:Fo w B g lv N f L r) {r':Nat} (hr:r'≤r):Fo w B g lv N f L r':=⟨h.wr.less (by omega),h.is,h.gt,h.dp,h.nr⟩
theorem Fo.lt {g N:Nat} {f:S8.Fm} (h:Fo w B g lv N f L r):g < w.heap.size:=by obtain ⟨k,a,A,cap,h1,-⟩:=h.is;exact h1.lt
theorem Fo.emit {g N:Nat} {f:S8.Fm} (h:Fo w B g lv N f L r) {M:List Tk} {r':Nat} (k:Wr w' B lv M (r' + 4 * f.t.length + wts f.c)) (hf:Fr B X w w') (hg:¬ X g):Fo w' B g lv N f M r':=by
 obtain ⟨k1,a,A,cap,h1,h2,h3⟩:=h.is
 exact ⟨k,⟨k1,a,A,cap,hf.keep _ _ _ h1 h.gt hg (by decide),h2,h3.below hf.below⟩,h.gt,h.dp,h.nr⟩
def WPost (B lv:Nat) (w:World) (L:List Tk) (r:Nat) (o:Option (List Tk)) (e:Ending) (w':World):Prop:=match o with
 | none=>e=.panicked pan∧Below B w w'
 | some l=>e=.returned (.tuple #[])∧Wr w' B lv (L++l) r∧Fr B (fun _=>False) w w'
def FPost {α:Type} (B g lv N:Nat) (w:World) (L:List Tk) (r:α→Nat) (o:Option (α × S8.Fm × List Tk)) (V:α→Value→World→Prop) (e:Ending) (w':World):Prop:=match o with
 | none=>e=.panicked pan∧Below B w w'
 | some (x,f',l)=>∃v,e=.returned v∧V x v w'∧Fo w' B g lv N f' (L++l) (r x)∧Fr B (fun j=>j=g) w w'
abbrev isU:Unit→Value→World→Prop:=fun _ v _=>v=.tuple #[]
theorem WPost.lift {g N:Nat} {f:S8.Fm} {o:Option (List Tk)} {e:Ending} {r0:Nat} (F:Fo w B g lv N f L r0) (h:WPost B lv w L (r + 4 * f.t.length + wts f.c) o e w'):FPost B g lv N w L (fun _=>r) (S8.put o f) isU e w':=by
 cases o with
 | none=>exact h
 | some l=>
  obtain ⟨h1,h2,h3⟩:=h
  exact ⟨_,h1,rfl,F.emit h2 h3 id,h3.weak fun _ _ k=>k.elim⟩
end
open Go.RowKit L7
theorem ZsQ (a:Addr) (n k:Nat):(a.add n).add k=a.add (n + k):=by
 unfold Addr.add
 by_cases hn:n=0 <;> by_cases hk:k=0 <;> simp [hn,hk] <;> omega
theorem RowAt.take {w:World} {B:Nat} {c:List Nd} {A:Option Addr} (h:RowAt w B c A) (m:Nat):RowAt w B (c.take m) A:=fun j x hj=>
 h j x (by rw [List.getElem?_take] at hj;split at hj;exact hj;cases hj)
theorem RowAt.drop {w:World} {B:Nat} {c:List Nd} {A:Option Addr} (h:RowAt w B c A) (m:Nat):RowAt w B (c.drop m) (A.map fun x=>x.add (m * 5)):=fun j x hj=>by
 rw [List.getElem?_drop] at hj
 obtain ⟨a,s,rfl,h2,h3,h4⟩:=h _ x hj
 refine ⟨_,s,rfl,by rw [Zdt];exact h2,fun i u hu=>?_,h4⟩
 rw [ZsQ,show m * 5 + (j * 5 + i)=(m + j) * 5 + i by omega]
 exact h3 i u hu
theorem RowAt.nil (w:World) (B:Nat) (A:Option Addr):RowAt w B [] A:=fun j x hj=>by simp at hj
theorem Zd2 (w:World):Calls prog 82 #[.bool true] w fun e w'=>e=.returned (.tuple #[])∧w=w':=by
 go_enter func82,ntmps82
 go_wp2_with fail
 go_end0
 exact ⟨rfl,rfl⟩
theorem ZeH (w:World):Calls prog 82 #[.bool false] w fun e w'=>e=.panicked pan∧w=w':=by
 go_enter func82,ntmps82
 go_wp2_with fail
 exact ⟨rfl,rfl,rfl⟩
section
variable {B g lv N:Nat} {w w':World} {f:S8.Fm} {L:List Tk} {r:Nat}
theorem Fo.put (F:Fo w B g lv N f L r) {j:Nat} {u:Value} {f':S8.Fm} {r':Nat} (hr:r' + 4 * f'.t.length + wts f'.c≤r + 4 * f.t.length + wts f.c)
  (hI:∃k a A cap,Is (w.setCell ⟨g,j,none⟩ u) g 108 #[.pointer (some ⟨B,0,none⟩),.int .i64 k,.string (mk f'.t),.int .i64 f'.n,.int .i64 a,.slice A f'.c.length cap]∧f'.c.length≤cap∧RowAt w B f'.c A) (hd:∀y∈f'.c,y∈f.c) (hn:In64 f'.n) :
  Fo (w.setCell ⟨g,j,none⟩ u) B g lv N f' L r'∧Fr B (fun j=>j=g) w (w.setCell ⟨g,j,none⟩ u):=by
 obtain ⟨k0,a0,A0,cap0,h1,h2,h3⟩:=F.is
 have hgt:=F.gt
 have hs:=F.wr.size
 have hg:w.grownBy (w.setCell ⟨g,j,none⟩ u) (some g):=ZcJ (World.grownBy.refl _ _) j u
 have hf:=Fr.of_grown hg (by omega) (by omega:B≤w.heap.size)
 obtain ⟨k,a,A,cap,h4,h5,h6⟩:=hI
 exact ⟨⟨(F.wr.kept h1 (by decide) hgt hg).less hr,⟨k,a,A,cap,h4,h5,h6.below hf.below⟩,hgt,fun y hy=>F.dp y (hd y hy),hn⟩,hf⟩
theorem Ze5 (x:Nd) (v:Value) (hw:Wr w B lv L (r + wt x)) (hx:NodeAt w B x v) (hd:∀y∈x.c,dpt y < N) (hn:In64 x.n) :
  Calls prog 83 #[.pointer (some ⟨B,0,none⟩),v] w fun e w'=>∃g,e=.returned (.pointer (some ⟨g,0,none⟩))∧Fo w' B g lv N ⟨x.t,x.n,x.c⟩ L (r + 1000)∧Below w.heap.size w w'∧w.heap.size≤g:=by
 obtain ⟨s,rfl,hk⟩:=hx
 obtain ⟨A,cap,rfl,hc,hR⟩:=ZcG hk
 have HW:=hid hw
 have HR:=hid hR
 have HD:=hid hd
 clear hw hk hR hd
 go_enter func83,ntmps83
 go_wp2_with fail
 go_ret
 have hs:=HW.out.size
 have hb:Below w.heap.size w ((w.alloc (.cells (nd5 x.k x.t x.n x.a (.slice A x.c.length cap)) 24)).alloc (.cells #[.pointer (some ⟨B,0,none⟩),.int .i64 x.k,.string (mk x.t),.int .i64 x.n,.int .i64 x.a,.slice A x.c.length cap] 108)):=((Below.refl _ _).alloc (Nat.le_refl _) _).alloc (by simp) _
 refine ⟨w.heap.size + 1,rfl,⟨(HW.out.below hb).less (by have:=Zm2 x;simp only;omega),⟨x.k,x.a,A,cap,?_,hc,HR.out.below (hb.mono (by omega))⟩,by omega,HD.out,hn⟩,hb,by omega⟩
 have:=Is.fresh (w.alloc (.cells (nd5 x.k x.t x.n x.a (.slice A x.c.length cap)) 24)) 108 #[.pointer (some ⟨B,0,none⟩),.int .i64 x.k,.string (mk x.t),.int .i64 x.n,.int .i64 x.a,.slice A x.c.length cap]
 simpa using this
theorem Zos (F:Fo w B g lv N f L r):Calls prog 206 #[.pointer (some ⟨g,0,none⟩)] w (FPost B g lv N w L (fun _=>r + 4 * f.t.length) (S8.text f) fun t v _=>v=.string (mk t)):=by
 obtain ⟨k,a,A,cap,h1,h2,h3⟩:=F.is
 have c1:=h1.at_ 2
 have z1:=h1.open_ 2
 simp at c1
 have HF:=hid F
 have HI:=hid (And.intro h1 h3)
 clear F h1 h3
 go_enter func206,ntmps206
 go_wp2_with fail
 go_ret
 have:=HF.out.put (j:=2) (u:=.string ⟨#[]⟩) (f':=⟨[],f.n,f.c⟩) (r':=r + 4 * f.t.length) (by simp) ⟨k,a,A,cap,HI.out.1.put 2 _,h2,HI.out.2⟩ (fun _ h=>h) HF.out.nr
 exact ⟨_,rfl,rfl,by rw [List.append_nil];exact this.1,this.2⟩
theorem ZtU (F:Fo w B g lv N f L r):Calls prog 159 #[.pointer (some ⟨g,0,none⟩)] w (FPost B g lv N w L (fun _=>r) (S8.num f) fun n v _=>v=.int .i64 n∧In64 n):=by
 obtain ⟨k,a,A,cap,h1,h2,h3⟩:=F.is
 have c1:=h1.at_ 3
 have z1:=h1.open_ 3
 simp at c1
 have HF:=hid F
 have HI:=hid (And.intro h1 h3)
 clear F h1 h3
 go_enter func159,ntmps159
 go_wp2_with fail
 go_ret
 have:=HF.out.put (j:=3) (u:=.int .i64 0) (f':=⟨f.t,0,f.c⟩) (r':=r) (by simp) ⟨k,a,A,cap,HI.out.1.put 3 _,h2,HI.out.2⟩ (fun _ h=>h) ⟨by simp,by simp⟩
 exact ⟨_,rfl,⟨rfl,HF.out.nr⟩,by rw [List.append_nil];exact this.1,this.2⟩
def Zol (B N:Nat) (l:List Nd) (v:Value) (w':World):Prop:=∃A cap,v=.slice A l.length cap∧l.length≤cap∧RowAt w' B l A∧∀y∈l,dpt y < N
theorem ZrZ (F:Fo w B g lv N f L r) (m:Nat) (hm:m≤f.c.length):Calls prog 84 #[.pointer (some ⟨g,0,none⟩),.int .i64 m] w fun e w'=>∃v,e=.returned v∧Zol B N (f.c.take m) v w'∧Fo w' B g lv N ⟨f.t,f.n,f.c.drop m⟩ L (r + wts (f.c.take m))∧Fr B (fun j=>j=g) w w':=by
 obtain ⟨k,a,A,cap,h1,h2,h3⟩:=F.is
 have c1:=h1.at_ 5
 have z1:=h1.open_ 5
 simp at c1
 have HF:=hid F
 have HI:=hid (And.intro h1 h3)
 have h0:(0:Int)≤(m:Int):=by omega
 have hd:(m:Int)≤(f.c.length:Int):=by omega
 have R1:=Zd2 w
 have HX:Hid (∀A' cap',f.c.length - m≤cap'→RowAt w B (f.c.drop m) A'→m≤cap→(fun e w'=>∃v,e=.returned v∧Zol B N (f.c.take m) v w'∧Fo w' B g lv N ⟨f.t,f.n,f.c.drop m⟩ L (r + wts (f.c.take m))∧Fr B (fun j=>j=g) w w') (Ending.returned (.slice A m cap)) (w.setCell ⟨g,5,none⟩ (.slice A' (f.c.length - m:Nat) cap'))):=hid (by
  intro A' cap' hc hR hm2
  have h:=HF.out.put (j:=5) (u:=.slice A' (f.c.length - m:Nat) cap') (f':=⟨f.t,f.n,f.c.drop m⟩) (r':=r + wts (f.c.take m)) (by
   have e:=congrArg wts (List.take_append_drop m f.c)
   rw [ZeM] at e
   simp only;omega) ⟨k,a,A',cap',by simp only [List.length_drop];exact HI.out.1.put 5 _,by simp only [List.length_drop];exact hc,hR⟩ (fun y hy=>List.mem_of_mem_drop hy) HF.out.nr
  refine ⟨_,rfl,⟨A,cap,by rw [List.length_take,Nat.min_eq_left hm],by rw [List.length_take,Nat.min_eq_left hm];exact hm2,(HI.out.2.take m).below h.2.below,fun y hy=>HF.out.dp y (List.mem_of_mem_take hy)⟩,h.1,h.2⟩)
 clear F h1 h3
 go_enter func84,ntmps84
 go_wp2_with (go_at_call 82;(with_reducible refine R1.mono ?_);rintro e w1 ⟨rfl,rfl⟩)
 ·subst h
  go_ret
  exact HX.out A 0 (by omega) (by rw [List.drop_eq_nil_of_le h2];exact RowAt.nil _ _ _) (Nat.le_refl _)
 ·go_ret
  exact HX.out _ _ (by omega) (HI.out.2.drop m) (by omega)
theorem ZwF (F:Fo w B g lv N f L r) (m:Int) (hm:m < 0∨(f.c.length:Int) < m):Calls prog 84 #[.pointer (some ⟨g,0,none⟩),.int .i64 m] w fun e w'=>e=.panicked pan∧w=w':=by
 obtain ⟨k,a,A,cap,h1,h2,h3⟩:=F.is
 have c1:=h1.at_ 5
 simp at c1
 have R1:=ZeH w
 clear F h1 h3
 by_cases h0:(0:Int)≤m
 ·have hd:decide (m≤(f.c.length:Int))=false:=by simp;omega
  clear hm
  go_enter func84,ntmps84
  go_wp2_with (go_at_call 82;(with_reducible refine R1.mono ?_);rintro e w1 ⟨rfl,rfl⟩;exact ⟨rfl,rfl,rfl⟩)
 ·have hd:decide ((0:Int)≤m)=false:=by simp;omega
  clear hm h0
  go_enter func84,ntmps84
  go_wp2_with (go_at_call 82;(with_reducible refine R1.mono ?_);rintro e w1 ⟨rfl,rfl⟩;exact ⟨rfl,rfl,rfl⟩)
end
open Go.RowKit L7
theorem RowAt.at_ {w:World} {B:Nat} {c:List Nd} {A:Option Addr} (h:RowAt w B c A) {j:Nat} {x:Nd} (hj:c[j]?=some x):∃a s,A=some a∧(a.add (j * 5)).block < B∧Kid w (fun g=>g < B) x s∧
  w.cell? (a.add (j * 5))=some (.int .i64 x.k)∧w.cell? ⟨(a.add (j * 5)).block,(a.add (j * 5)).off + 1,none⟩=some (.string (mk x.t))∧w.cell? ⟨(a.add (j * 5)).block,(a.add (j * 5)).off + 2,none⟩=some (.int .i64 x.n)∧
  w.cell? ⟨(a.add (j * 5)).block,(a.add (j * 5)).off + 3,none⟩=some (.int .i64 x.a)∧w.cell? ⟨(a.add (j * 5)).block,(a.add (j * 5)).off + 4,none⟩=some s:=by
 obtain ⟨a,s,h1,h2,h3,h4⟩:=h j x hj
 refine ⟨a,s,h1,by rw [Zdt];exact h2,h4,h3 0 _ rfl,?_,?_,?_,?_⟩
 ·rw [ZfY _ _ 1 (by decide)];exact h3 1 _ rfl
 ·rw [ZfY _ _ 2 (by decide)];exact h3 2 _ rfl
 ·rw [ZfY _ _ 3 (by decide)];exact h3 3 _ rfl
 ·rw [ZfY _ _ 4 (by decide)];exact h3 4 _ rfl
theorem add0 (a:Addr):a.add (0 * 5)=a:=by unfold Addr.add;simp
section
variable {B g lv N:Nat} {w w':World} {f:S8.Fm} {L:List Tk} {r:Nat}
theorem Fo.alloc (F:Fo w B g lv N f L r) (o:Obj):Fo (w.alloc o) B g lv N f L r:=by
 have hs:=F.wr.size
 exact F.emit (X:=fun _=>False) (F.wr.alloc o) (Fr.of_below ((Below.refl _ _).alloc (Nat.le_refl _) o) (by omega)) id
theorem Fo.below (F:Fo w B g lv N f L r) (k:Below w.heap.size w w'):Fo w' B g lv N f L r:=
 F.emit (X:=fun _=>False) (F.wr.below k) (Fr.of_below k (by have:=F.wr.size;omega)) id
theorem Zyn (F:Fo w B g lv N f L r) (m:Nat) (i:Int) (hi:(m:Int)=i) (hm:m≤f.c.length):Calls prog 84 #[.pointer (some ⟨g,0,none⟩),.int .i64 i] w fun e w'=>∃v,e=.returned v∧Zol B N (f.c.take m) v w'∧Fo w' B g lv N ⟨f.t,f.n,f.c.drop m⟩ L (r + wts (f.c.take m))∧Fr B (fun j=>j=g) w w':=by
 subst hi;exact ZrZ F m hm
theorem ZfU (F:Fo w B g lv N f L r):Calls prog 148 #[.pointer (some ⟨g,0,none⟩)] w (FPost B g lv N w L (fun x=>r + wt x + 200) (S8.Zdr f) fun x v w'=>NodeAt w' B x v∧dpt x < N):=by
 obtain ⟨t,n,c⟩:=f
 have F0:=F.alloc (.cells z5 24)
 have hsz:=F.wr.size
 have HB:Hid (Fr B (fun j=>j=g) w (w.alloc (.cells z5 24))):=hid (Fr.of_below ((Below.refl _ _).alloc (Nat.le_refl _) _) (by omega))
 have hgl:=F.lt
 have hgt:=F.gt
 cases c with
 | nil=>
  have C1:=ZwF F0 1 (.inr (by simp))
  clear F F0
  go_enter func148,ntmps148
  go_wp2_with (go_at_call 84;(with_reducible refine C1.mono ?_);rintro e w1 ⟨rfl,rfl⟩;exact ⟨rfl,rfl,HB.out.below⟩)
 | cons x c=>
  have C1:=Zyn F0 1 1 rfl (by simp)
  have J0:=hid (Is.fresh w 24 z5)
  clear F F0
  go_enter func148,ntmps148
  go_wp2_with (first
   | (go_at_call 84;(with_reducible refine C1.mono ?_);rintro e w1 ⟨v,rfl,⟨A,cap,rfl,hc,hR,hD⟩,F1,K1⟩;obtain ⟨a,s,rfl,ha,hk,d0,d1,d2,d3,d4⟩:=hR.at_ (j:=0) rfl;rw [add0] at ha d0 d1 d2 d3 d4;have HF:=hid (And.intro F1 (And.intro K1 (And.intro hk (hD x (by simp)))));have J1:=hid (K1.keep _ _ _ J0.out (by omega) (by show ¬ (w.heap.size=g);omega) (by decide));clear F1 K1 hk hD hR C1)
   | (refine Zah J1.out rfl 24 _ _ rfl (nd5 x.k x.t x.n x.a s) rfl rfl inf24 rfl (by have h1:=Zbq HF.out.2.2.1;simp [nd5,h1];exact ⟨rfl,rfl,rfl,rfl⟩) ?_;intro w2 h1 h2;have HX:=hid (And.intro h1 h2);clear h1 h2))
  have hs1:=HF.out.1.wr.size
  have K2:=Fr.of_grown (B:=B) HX.out.2 (by omega) (by omega)
  have F2:=HF.out.1.emit (X:=fun j=>j=w.heap.size) (HF.out.1.wr.kept J1.out (by decide) (by omega) HX.out.2) K2 (by show ¬ (g=w.heap.size);omega)
  refine ret24 results148 HX.out.1 ⟨_,rfl,⟨⟨s,rfl,ZaF HF.out.2.2.1 K2.below⟩,HF.out.2.2.2⟩,?_,(HB.out.trans HF.out.2.1 (fun _ _ h=>h)).trans K2 (fun j hj h=>by omega)⟩
  rw [List.append_nil]
  refine F2.less ?_
  simp [Zbr,Zbw];omega
theorem ZfS:∀c:List Nd,200 * c.length≤wts c
 | []=>by simp
 | x::c=>by have:=ZfS c;rw [Zbr];simp;omega
theorem Zja (F:Fo w B g lv N f L r):Calls prog 50 #[.pointer (some ⟨g,0,none⟩)] w (FPost B g lv N w L (fun l=>r + wts l) (S8.rest f) (Zol B N)):=by
 obtain ⟨k,a,A,cap,h1,h2,h3⟩:=F.is
 have c1:=h1.at_ 5
 simp at c1
 have C1:=ZrZ F f.c.length (Nat.le_refl _)
 rw [List.take_length,List.drop_length] at C1
 clear h1 h2 h3 F
 go_enter func50,ntmps50
 go_wp2_with (go_at_call 84;(with_reducible refine C1.mono ?_);rintro e w1 ⟨v,rfl,hK,F1,K1⟩;have HF:=hid (And.intro F1 (And.intro K1 hK));clear F1 K1 hK C1)
 go_ret
 exact ⟨_,rfl,HF.out.2.2,by rw [List.append_nil];exact HF.out.1,HF.out.2.1⟩
theorem ZrR {k:Int} : ∀{c:List Nd} {i:Nat},i < S8.lead k c→∃x,c[i]?=some x∧x.k=k
 | [],i,h=>by simp [S8.lead] at h
 | x::c,i,h=>by
  unfold S8.lead at h
  split at h
  ·rename_i hx
   cases i with
   | zero=>exact ⟨x,rfl,hx⟩
   | succ i=>obtain ⟨y,h1,h2⟩:=ZrR (k:=k) (c:=c) (i:=i) (by omega);exact ⟨y,by simpa using h1,h2⟩
  ·omega
theorem ZrT {k:Int} : ∀{c:List Nd} {x:Nd},c[S8.lead k c]?=some x→x.k≠k
 | [],x,h=>by simp at h
 | y::c,x,h=>by
  unfold S8.lead at h
  split at h
  ·exact ZrT (c:=c) (by simpa using h)
  ·rename_i hx;simp at h;subst h;exact hx
theorem ZrS {k:Int} : ∀(c:List Nd),S8.lead k c≤c.length
 | []=>Nat.le_refl _
 | y::c=>by
  unfold S8.lead
  have:=ZrS (k:=k) c
  split <;> simp <;> omega
theorem ZdN (x:Nd) (v:Value) (k:Int) (hk:x.k=k) (hw:Wr w B lv L (r + wt x)) (hx:NodeAt w B x v) (hd:∀y∈x.c,dpt y < N) (hn:In64 x.n) :
  Calls prog 49 #[.pointer (some ⟨B,0,none⟩),v,.int .i64 k] w fun e w'=>∃g,e=.returned (.pointer (some ⟨g,0,none⟩))∧Fo w' B g lv N ⟨x.t,x.n,x.c⟩ L (r + 1000)∧Below w.heap.size w w'∧w.heap.size≤g:=by
 obtain ⟨s,rfl,hk1⟩:=hx
 have hs:=hw.size
 have C1:=Ze5 (w:=w.alloc (.cells (nd5 x.k x.t x.n x.a s) 24)) x _ (hw.alloc _) ⟨s,rfl,ZaF hk1 ((Below.refl _ _).alloc (by omega) _)⟩ hd hn
 have R1:=Zd2 (w.alloc (.cells (nd5 x.k x.t x.n x.a s) 24))
 have HB:=hid ((Below.refl w.heap.size w).alloc (Nat.le_refl _) (.cells (nd5 x.k x.t x.n x.a s) 24))
 have hb:(x.k == k)=true:=by simpa using hk
 clear hw hk1 hd hk
 go_enter func49,ntmps49
 go_wp2_with (first
  | (go_at_call 82;(with_reducible refine R1.mono ?_);rintro e w1 ⟨rfl,rfl⟩)
  | (go_at_call 83;(with_reducible refine C1.mono ?_);rintro e w1 ⟨g,rfl,h1,h2,h3⟩;have HF:=hid (And.intro h1 (And.intro h2 h3));clear h1 h2 h3))
 go_ret
 exact ⟨g,rfl,HF.out.1,HB.out.trans (HF.out.2.1.mono HB.out.size),Nat.le_trans HB.out.size HF.out.2.2⟩
theorem ZeE (x:Nd) (v:Value) (k:Int) (hk:x.k≠k) (hx:NodeAt w B x v) :
  Calls prog 49 #[.pointer (some ⟨B,0,none⟩),v,.int .i64 k] w fun e w'=>e=.panicked pan∧Below w.heap.size w w':=by
 obtain ⟨s,rfl,hk1⟩:=hx
 have R1:=ZeH (w.alloc (.cells (nd5 x.k x.t x.n x.a s) 24))
 have HB:=hid ((Below.refl w.heap.size w).alloc (Nat.le_refl _) (.cells (nd5 x.k x.t x.n x.a s) 24))
 have hb:(x.k == k)=false:=by simpa using hk
 clear hk1 hk
 go_enter func49,ntmps49
 go_wp2_with (go_at_call 82;(with_reducible refine R1.mono ?_);rintro e w1 ⟨rfl,rfl⟩;exact ⟨rfl,rfl,HB.out⟩)
theorem Zfi (F:Fo w B g lv N f L r):Calls prog 52 #[.pointer (some ⟨g,0,none⟩)] w (FPost B g lv N w L (fun _=>r) (S8.shut f) isU):=by
 obtain ⟨k,a,A,cap,h1,h2,h3⟩:=F.is
 have c1:=h1.at_ 2
 have c2:=h1.at_ 3
 have c3:=h1.at_ 5
 simp at c1 c2 c3
 have RY:=Zd2 w
 have RN:=ZeH w
 have HF:=hid F
 have t0:(mk []).toList.isEmpty=true:=by rw [Zas,Zbc];rfl
 have ht:((mk f.t).toList == [])=f.t.isEmpty:=by rw [Zas,Zbc];cases f.t <;> rfl
 clear h1 h2 h3 F
 by_cases h1:f.t=[]
 ·by_cases h2:f.n=0
  ·by_cases h3:f.c=[]
   ·have e:S8.shut f=some ((),f,[]):=by unfold S8.shut;rw [if_pos ⟨h1,h2,h3⟩]
    rw [e]
    rw [h1] at c1
    rw [h2] at c2
    rw [h3] at c3
    clear h1 h2 h3 e ht
    go_enter func52,ntmps52
    go_wp2_with (go_at_call 82;(with_reducible refine RY.mono ?_);rintro e w1 ⟨rfl,rfl⟩)
    go_end0
    exact ⟨_,rfl,rfl,by rw [List.append_nil];exact HF.out,Fr.refl _ _ _⟩
   ·have e:S8.shut f=none:=by unfold S8.shut;rw [if_neg (fun k=>h3 k.2.2)]
    rw [e]
    rw [h1] at c1
    rw [h2] at c2
    have n3:((f.c.length:Int) == 0)=false:=by cases hc:f.c with | nil=>exact absurd hc h3 | cons x c=>simp;omega
    clear h1 h2 h3 e ht
    go_enter func52,ntmps52
    go_wp2_with (go_at_call 82;(with_reducible refine RN.mono ?_);rintro e w1 ⟨rfl,rfl⟩;exact ⟨rfl,rfl,Below.refl _ _⟩)
  ·have e:S8.shut f=none:=by unfold S8.shut;rw [if_neg (fun k=>h2 k.2.1)]
   rw [e]
   rw [h1] at c1
   have n3:(f.n == 0)=false:=by simpa using h2
   clear h1 h2 e ht
   go_enter func52,ntmps52
   go_wp2_with (go_at_call 82;(with_reducible refine RN.mono ?_);rintro e w1 ⟨rfl,rfl⟩;exact ⟨rfl,rfl,Below.refl _ _⟩)
 ·have e:S8.shut f=none:=by unfold S8.shut;rw [if_neg (fun k=>h1 k.1)]
  rw [e]
  rw [show f.t.isEmpty=false by cases hc:f.t with | nil=>exact absurd hc h1 | cons x c=>rfl] at ht
  have ht2:(mk f.t).toList.isEmpty=false:=by cases h:(mk f.t).toList with | nil=>rw [h] at ht;cases ht | cons x c=>rfl
  clear h1 e
  go_enter func52,ntmps52
  go_wp2_with (go_at_call 82;(with_reducible refine RN.mono ?_);rintro e w1 ⟨rfl,rfl⟩;exact ⟨rfl,rfl,Below.refl _ _⟩)
theorem Zsb (F:Fo w B g lv N f L r) (k:Int):Calls prog 210 #[.pointer (some ⟨g,0,none⟩),.int .i64 k] w (FPost B g lv N w L (fun l=>r + wts l) (S8.front k f) (Zol B N)):=by
 obtain ⟨k1,a,A,cap,h1,h2,h3⟩:=F.is
 have c1:=h1.at_ 5
 simp at c1
 have hlen:f.c.length≤100000:=by
  have h4:=F.wr.bud
  have h5:=ZfS f.c
  omega
 have hle:=ZrS (k:=k) f.c
 have C1:=ZrZ F (S8.lead k f.c) hle
 have HR:=hid h3
 clear h1 h2 h3 F
 go_enter func210,ntmps210
 go_wp2
 go_loopw [5] (fun v5 wr=>∃i:Nat,i≤S8.lead k f.c∧v5=.int .i64 i∧wr=w) (fun v5 _=>f.c.length - (intOf v5).toNat)
 case atStart=>exact ⟨0,Nat.zero_le _,rfl,rfl⟩
 case round=>
  obtain ⟨i,hi,rfl,rfl⟩:=hrel
  by_cases hl:i < S8.lead k f.c
  ·obtain ⟨x,hx,hk⟩:=ZrR hl
   obtain ⟨a0,s,rfl,ha,-,d0,-,-,-,-⟩:=HR.out.at_ hx
   have i1:decide ((i:Int) < (f.c.length:Int))=true:=by simp;omega
   have i2:(0:Int)≤i∧(i:Int) < (f.c.length:Int):=by omega
   have i3:(x.k == k)=true:=by simpa using hk
   clear hk hx
   go_wp2
   go_roundw
   case rel=>exact ⟨i + 1,by omega,by go_num,by simp⟩
   case measure=>simp [intOf];omega
  ·obtain rfl:i=S8.lead k f.c:=by omega
   have HD:=hid C1
   clear C1
   cases hx:f.c[S8.lead k f.c]? with
   | none=>
    have i1:decide (((S8.lead k f.c:Nat):Int) < (f.c.length:Int))=false:=by
     have:=List.getElem?_eq_none_iff.1 hx
     simp;omega
    have i2:decide (S8.lead k f.c < f.c.length)=false:=by
     have:=List.getElem?_eq_none_iff.1 hx
     simp;omega
    clear hx hl
    go_wp2_with (go_at_call 84;(with_reducible refine HD.out.mono ?_);rintro e w1 ⟨v,rfl,hK,F1,K1⟩;have HF:=hid (And.intro F1 (And.intro K1 hK));clear F1 K1 hK)
    go_ret
    exact ⟨_,rfl,HF.out.2.2,by rw [List.append_nil];exact HF.out.1,HF.out.2.1⟩
   | some x=>
    have hk:=ZrT hx
    obtain ⟨a0,s,rfl,ha,-,d0,-,-,-,-⟩:=HR.out.at_ hx
    have hlt:=(List.getElem?_eq_some_iff.1 hx).1
    have i1:decide (((S8.lead k f.c:Nat):Int) < (f.c.length:Int))=true:=by simp;omega
    have i2:(0:Int)≤(S8.lead k f.c:Nat)∧((S8.lead k f.c:Nat):Int) < (f.c.length:Int):=by omega
    have i3:(x.k == k)=false:=by simpa using hk
    clear hx hl hk
    go_wp2_with (go_at_call 84;(with_reducible refine HD.out.mono ?_);rintro e w1 ⟨v,rfl,hK,F1,K1⟩;have HF:=hid (And.intro F1 (And.intro K1 hK));clear F1 K1 hK)
    go_ret
    exact ⟨_,rfl,HF.out.2.2,by rw [List.append_nil];exact HF.out.1,HF.out.2.1⟩
end
open Go.RowKit L7
theorem Zmf (t:Tk):S8.okT t=ZdT t:=by
 unfold S8.okT ZdT
 by_cases h1:t.k=1
 ·simp [h1]
  by_cases a:t.n=0 <;> by_cases b:ZbM t.t=true <;> simp [a,b]
 ·by_cases h2:t.k=2
  ·simp [h2,S8.ZeY]
   cases t.t <;> simp <;> rfl
  ·by_cases h3:t.k=3
   ·simp [h3]
    by_cases a:t.n=0 <;> by_cases b:t.t.length≤4096 <;> simp [a,b]
   ·by_cases h4:t.k=4
    ·simp [h4]
     by_cases a:t.n=0 <;> by_cases b:ZdI t.t=true <;> simp [a,b]
    ·simp [h1,h2,h3,h4]
theorem Zqx (t:Tk):(wrt [t]=[])=(S8.okT t=false):=by
 rw [Zmf,← Zey]
 unfold wrt forms
 cases h:L7.written dec t with
 | none=>simp [forms]
 | some x=>
  have hx:x≠[]:=by
   unfold L7.written at h
   split at h
   ·split at h
    ·injection h with h;subst h;exact Zve _
    ·cases h
   ·split at h
    ·cases h
    ·split at h
     ·injection h with h;subst h;simp
     ·split at h
      ·rename_i h2
       injection h with h;subst h
       intro e
       rw [e] at h2
       rcases h2 with ⟨-,h2⟩ | ⟨-,h2⟩ <;> cases h2
      ·cases h
  simp [forms,join,hx]
section
variable {B lv:Nat} {w w':World} {L:List Tk} {r:Nat} {x:Tk}
theorem Zvr (w:World) (x:Tk):ToksIn (w.alloc (.cells #[.int .i64 x.k,.string (mk x.t),.int .i64 x.n,.int .i64 0] 42)) (w.heap.size + 1) (some ⟨w.heap.size,0,none⟩) [(x,0)]:=fun k y hk=>by
 cases k with
 | zero=>
  simp at hk;subst hk
  refine ⟨_,rfl,Nat.lt_succ_self _,fun j u hu=>?_⟩
  have hI:=Is.fresh w 42 #[.int .i64 x.k,.string (mk x.t),.int .i64 x.n,.int .i64 0]
  rw [show (⟨w.heap.size,0,none⟩:Addr).add (0 * 4 + j)=⟨w.heap.size,j,none⟩ by unfold Addr.add;split <;> simp_all,hI.at_ j]
  simpa [cells4] using hu
 | succ k=>simp at hk
abbrev tk4 (x:Tk):Array Value:=#[.int .i64 x.k,.string (mk x.t),.int .i64 x.n,.int .i64 0]
theorem Zpr (hw:Wr w B lv L (r + tw x)):Calls prog 23 #[.slice (some ⟨w.heap.size + 1,0,none⟩) 1 1] ((w.alloc (.cells (tk4 x) 42)).alloc (.cells (tk4 x) 42)) fun e w'=>e=.returned (.string (mk (wrt [x])))∧Below (w.heap.size + 2) ((w.alloc (.cells (tk4 x) 42)).alloc (.cells (tk4 x) 42)) w':=by
 have hb:=hw.bud
 have C1:=ZiW (some ⟨w.heap.size + 1,0,none⟩) 1 (w.heap.size + 2) [(x,0)] ((w.alloc (.cells (tk4 x) 42)).alloc (.cells (tk4 x) 42)) ((hw.alloc _).alloc _).lie
  (by have:=Zvr (w.alloc (.cells (tk4 x) 42)) x;simpa using this) (by simp) (by simp [Zkx];omega)
 exact C1.mono fun e w' h=>⟨h.1,h.2.mono (by simp)⟩
theorem Zmy:∃i,prog.info? 42=some i∧i.zero=some (.agg #[.int .i64 0,.string ⟨#[]⟩,.int .i64 0,.int .i64 0])∧i.size=4∧i.bytes=40:=by
 have h:=info32
 cases hi:prog.info? 42 with
 | none=>rw [hi] at h;cases h
 | some i=>
  rw [hi] at h
  simp only [Option.map_some,Option.some.injEq,Prod.mk.injEq] at h
  exact ⟨i,rfl,h.1,h.2.1,h.2.2⟩
theorem ZtJ {ops:Array Oper} {rest:List Oper} {o:Oper} {a:Act} {Q:Exit→Act→World→Prop} {base n g:Nat} {s:Value} {xs:List Value} (hown:w.ownsRow base 42 4 s n xs) (hI:Is w g 42 (tk4 x)) (hlen:n≤1000000) (hb:base≤w.heap.size)
  (hgd:o.guard=none) (p q:Operand) (ho:o.op=.call { callee:=.builtin .append,args:=#[p,q],argTypes:=#[28,28] }) (hs:a.eval p=s) (hx:a.eval q=.slice (some ⟨g,0,none⟩) 1 1)
  (h:∀v' w',w'.ownsRow base 42 4 v' (n + 1) (xs++cells4 (x,0))→w.grownBy w' s.ownBlock→wpList prog ops Q rest (a.put o.dst v') w'):wpList prog ops Q (o::rest) a w:=by
 obtain ⟨i,hi,hz,hsz,hby⟩:=Zmy
 exact wpList_append_own w hgd p q 28 ho base 42 i _ 4 40 underlying28 hi hz hsz hby rfl (by decide) s n xs hs hown ⟨g,0,none⟩ 1 1 (cells4 (x,0)) hx rfl (fun j u hu=>by
  rw [show (⟨g,0,none⟩:Addr).add j=⟨g,j,none⟩ by unfold Addr.add;split <;> simp_all,hI.at_ j]
  simpa [cells4] using hu) (fun u hu=>by simp [cells4] at hu;rcases hu with rfl | rfl | rfl | rfl <;> rfl) (by simp only [maxLen];omega) (by omega) hb fun v' w' h1 h2 _=>h v' w' h1 h2
theorem ZyK (hw:Wr w B lv L (r + tw x)) (h:S8.okT x=false):Calls prog 143 #[.pointer (some ⟨B,0,none⟩),.agg (tk4 x)] w fun e w'=>e=.panicked pan∧Below B w w':=by
 have hs:=hw.size
 have C1:=Zpr hw
 rw [show wrt [x]=[] from (Zqx x).symm▸h] at C1
 have R1:=fun W=>ZeH W
 have HB:=hid (((Below.refl w.heap.size w).alloc (Nat.le_refl _) (.cells (tk4 x) 42)).alloc (by simp) (.cells (tk4 x) 42))
 have t0:(mk []).toList.isEmpty=true:=by rw [Zas,Zbc];rfl
 clear hw h
 go_enter func143,ntmps143
 go_wp2_with (first
  | (go_at_call 23;(with_reducible refine C1.mono ?_);rintro e w1 ⟨rfl,h1⟩;have H1:=hid h1;clear h1)
  | (go_at_call 82;(with_reducible refine (R1 _).mono ?_);rintro e w2 ⟨rfl,rfl⟩;exact ⟨rfl,rfl,(HB.out.trans (H1.out.mono (by omega))).mono (by omega)⟩))
theorem Zxe (hw:Wr w B lv L (r + tw x)) (h:S8.okT x=true):Calls prog 143 #[.pointer (some ⟨B,0,none⟩),.agg (tk4 x)] w fun e w'=>e=.returned (.tuple #[])∧Wr w' B lv (L++[x]) r∧Fr B (fun _=>False) w w':=by
 have hs:=hw.size
 have C1:=Zpr hw
 have hne:wrt [x]≠[]:=fun e=>by have:=(Zqx x)▸e;rw [h] at this;cases this
 have R1:=fun W=>Zd2 W
 have HB:=hid (((Below.refl w.heap.size w).alloc (Nat.le_refl _) (.cells (tk4 x) 42)).alloc (by simp) (.cells (tk4 x) 42))
 have HW:=hid hw
 obtain ⟨u,hu⟩:∃u,u=mk (wrt [x]):=⟨_,rfl⟩
 rw [← hu] at C1
 have t0:u.toList.isEmpty=false:=by rw [hu,Zas,Zbc];cases hx:wrt [x] with | nil=>exact absurd hx hne | cons _ _=>rfl
 clear hw h hne hu
 go_enter func143,ntmps143
 go_wp2_with (first
  | (go_at_call 23;(with_reducible refine C1.mono ?_);rintro e w1 ⟨rfl,h1⟩;have H1:=hid h1;clear h1)
  | (go_at_call 82;(with_reducible refine (R1 _).mono ?_);rintro e w2 ⟨rfl,rfl⟩))
 have hsz1:=H1.out.size
 simp at hsz1
 have HB1:=hid (HB.out.trans (H1.out.mono (by omega)))
 have W1:=HW.out.below HB1.out
 have J1:Is w1 w.heap.size 42 (tk4 x):=((Is.fresh w 42 (tk4 x)).alloc (.cells (tk4 x) 42)).below H1.out (by omega)
 obtain ⟨s,i1,i2⟩:=HW.out.row
 have hbud:=W1.bud
 have hlen:=ZqL L
 have hB1:w.heap.size≤w1.heap.size:=HB1.out.size
 have HI:=hid (And.intro (i1.below HB1.out (by omega)) (ZeS i2 HB1.out))
 have HJ1:=hid J1
 have HO:Hid (∀g,s.ownBlock=some g→B + 1≤g∧g < w.heap.size):=hid (fun g hg=>i2.lt g hg)
 have HX:Hid (∀v w2 w3,w2.ownsRow (B + 1) 42 4 v (L.length + 1) (ZfA (L.map fun t=>(t,0))++cells4 (x,0))→(w1.drew.alloc (.cells (tk4 x) 42)).grownBy w2 s.ownBlock→w2.grownBy w3 (some B)→Is w3 B 79 #[v,.map (some lv)]→Wr w3 B lv (L++[x]) r∧Fr B (fun _=>False) w w3):=hid (by
  intro v w2 w3 k1 k2 k3 k4
  have hb1:Below w1.heap.size w1 (w1.drew.alloc (.cells (tk4 x) 42)):=(show Below w1.heap.size w1 w1.drew from (Below.refl _ _).drew).alloc (Nat.le_refl _) _
  have hb2:Below B (w1.drew.alloc (.cells (tk4 x) 42)) w2:=⟨k2.os,k2.tape,k2.output,k2.size,fun k hk=>k2.block k (by have:=hb1.size;omega) (fun e=>by have:=(HO.out k e.symm).1;omega)⟩
  have hb3:Below B w2 w3:=⟨k3.os,k3.tape,k3.output,k3.size,fun k hk=>k3.block k (by have:=hb1.size;have:=hb2.size;omega) (by simp;omega)⟩
  have hb:Below B w w3:=(((HB1.out.mono (by omega)).trans (hb1.mono (by omega))).trans hb2).trans hb3
  obtain ⟨w0,n1,n2,n3⟩:=HW.out.lies
  have hlt:=HW.out.lt
  refine ⟨⟨⟨v,k4,?_⟩,HW.out.map.stay (hb.block _ hlt),hlt,⟨w0,n1,n2,n3.trans (hb.mono n2)⟩,?_⟩,hb,fun g t c hI hg _ ht=>?_⟩
  ·have h:=k1.kept k3 (by
    cases hv:v.ownBlock with
    | none=>exact .inl rfl
    | some g=>exact .inr (fun e=>by have:=(k1.lt g hv).1;injection e with e;omega))
   rw [List.length_append,List.map_append,List.map_cons,List.map_nil,Zkc];exact h
  ·rw [ZhZ,Zkx];omega
  ·exact ((((hI.below HB1.out hI.lt).below hb1 (by have:=hI.lt;omega)).kept k2 (Is.row_apart i2 hI (fun e=>ht e.symm)))).kept k3 (by simp;omega))
 refine Zao (fun W=>W.cell? ⟨B,0,none⟩=some s∧Is W w.heap.size 42 (tk4 x)) (fun j=>decide (j < 8)) [0,1,2,3,4,5] [6,7,8,9,10] (by kernel_rfl) (by kernel_rfl) (fun c a a' W hd hq=>⟨hd▸hq.1,hq.2⟩) ⟨HI.out.1.at_ 0,J1⟩ ?_
 clear J1 i1 i2 W1
 refine fs (.pointer (some ⟨B,0,none⟩)) rfl ?_
 refine fs (.pointer (some ⟨B,0,none⟩)) rfl ?_
 refine fs (.pointer (some ⟨B,0,none⟩)) rfl ?_
 refine fs (.pointer (some ⟨B,0,none⟩)) rfl ?_
 refine Zab s rfl (by rfl) (fun W hS=>by have h0:=hS.1;go_simp) ?_
 refine Zab (.agg (tk4 x)) rfl (by rfl) (fun W hS=>by have h0:=hS.2.at_ 0;have h1:=hS.2.at_ 1;have h2:=hS.2.at_ 2;have h3:=hS.2.at_ 3;go_simp) ?_
 refine Zap ?_
 refine cs rfl fun K9 HK9=>?_
 go_wp2_with fail
 have HI2:=hid (Is.fresh w1.drew 42 (tk4 x))
 have HJ2:=hid ((show Is w1.drew w.heap.size 42 (tk4 x) from HJ1.out).alloc (.cells (tk4 x) 42))
 refine HK9.out _ _ (fun _=>⟨((show Is w1.drew B 79 _ from HI.out.1).alloc (.cells (tk4 x) 42)).at_ 0,HJ2.out⟩) ?_
 refine cs rfl fun K9 HK9=>?_
 refine ZtJ (base:=B + 1) (g:=w1.drew.heap.size) (s:=s) (xs:=ZfA (L.map fun t=>(t,0))) (n:=L.length) ?row HI2.out (by omega) ?hb rfl (.tmp 13) (.tmp 15) rfl rfl rfl ?_
 case row=>exact ZeS HI.out.2 ((show Below w1.heap.size w1 w1.drew from (Below.refl _ _).drew).alloc (Nat.le_refl _) _)
 case hb=>simp;omega
 intro v2 w2 k1 k2
 have hs2:w1.drew.heap.size < w2.heap.size:=by have:=k2.size;simp at this;exact this
 have HI3:=hid (((show Is w1.drew B 79 _ from HI.out.1).alloc (.cells (tk4 x) 42)).kept k2 (fun e=>by have:=(HO.out B e.symm).1;omega))
 have HJ3:=hid (HJ2.out.kept k2 (fun e=>by have:=(HO.out _ e.symm).2;omega))
 have HK:=hid (And.intro k1 k2)
 clear k1 k2
 refine HK9.out _ _ (fun _=>⟨HI3.out.at_ 0,HJ3.out⟩) ?_
 refine cs rfl fun K9 HK9=>?_
 have c0:=HI3.out.at_ 0
 have z0:=HI3.out.open_ 0
 go_wp2_with fail
 refine HK9.out _ _ (fun h=>absurd h (by decide)) ?_
 refine cs rfl fun K9 HK9=>?_
 go_wp2_with fail
 refine HK9.out _ _ (fun h=>absurd h (by decide)) ?_
 refine cs rfl fun K9 HK9=>?_
 refine Zc4 HI3.out (j:=0) (show 0 < 2 by decide) rfl 28 _ _ rfl v2 rfl rfl (by kernel_rfl) ?one ?_
 case one=>rcases HK.out.1.2 with ⟨e,-⟩ | ⟨g,cap,cur,e,-⟩ <;> rw [e] <;> rfl
 intro w3 k3 k4
 have HE:=hid (HX.out v2 w2 w3 HK.out.1 HK.out.2 k4 k3)
 clear k3 k4 c0 z0
 refine HK9.out _ _ (fun h=>absurd h (by decide)) ?_
 refine Zam ?_
 go_wp2_with fail
 go_end0
 exact ⟨rfl,HE.out⟩
def tkO (x:Tk):Option (List Tk):=if S8.okT x=true then some [x] else none
theorem Zlz (hw:Wr w B lv L (r + tw x)):Calls prog 143 #[.pointer (some ⟨B,0,none⟩),.agg (tk4 x)] w (WPost B lv w L r (tkO x)):=by
 unfold tkO
 cases h:S8.okT x with
 | true=>exact Zxe hw h
 | false=>exact ZyK hw h
theorem WPost.ways {o:Option (List Tk)} {e:Ending} (h:WPost B lv w L r o e w'):(e=.panicked pan∧o=none∧Below B w w')∨(∃l,e=.returned (.tuple #[])∧o=some l∧Wr w' B lv (L++l) r∧Fr B (fun _=>False) w w'):=by
 cases o with
 | none=>exact .inl ⟨h.1,rfl,h.2⟩
 | some l=>exact .inr ⟨l,h.1,rfl,h.2.1,h.2.2⟩
theorem WPost.stop {o:Option (List Tk)} (h:o=none) (b:Below B w w'):WPost B lv w L r o (.panicked pan) w':=by subst h;exact ⟨rfl,b⟩
theorem WPost.done {o:Option (List Tk)} {l:List Tk} (h:o=some l) (k:Wr w' B lv (L++l) r) (f:Fr B (fun _=>False) w w'):WPost B lv w L r o (.returned (.tuple #[])) w':=by subst h;exact ⟨rfl,k,f⟩
theorem Zu5 (s:ByteArray) (hw:Wr w B lv L (r + tw (S8.nm (ls s)))):Calls prog 85 #[.pointer (some ⟨B,0,none⟩),.string s] w (WPost B lv w L r (tkO (S8.nm (ls s)))):=by
 have C1:Calls prog 143 #[.pointer (some ⟨B,0,none⟩),.agg #[.int .i64 1,.string s,.int .i64 0,.int .i64 0]] w (WPost B lv w L r (tkO (S8.nm (ls s)))):=Zlz hw
 clear hw
 go_enter func85,ntmps85
 go_wp2_with (go_at_call 143;(with_reducible refine C1.mono ?_);intro e w1 h1;rcases h1.ways with ⟨rfl,h2,h3⟩ | ⟨l,rfl,h2,h3,h4⟩;exact ⟨rfl,.stop h2 h3⟩;have H1:=hid (And.intro h2 (And.intro h3 h4));clear h1 h2 h3 h4)
 go_end0
 exact .done H1.out.1 H1.out.2.1 H1.out.2.2
theorem ZoZ (s:ByteArray) (hw:Wr w B lv L (r + tw (S8.mkt (ls s)))):Calls prog 146 #[.pointer (some ⟨B,0,none⟩),.string s] w (WPost B lv w L r (tkO (S8.mkt (ls s)))):=by
 have C1:Calls prog 143 #[.pointer (some ⟨B,0,none⟩),.agg #[.int .i64 4,.string s,.int .i64 0,.int .i64 0]] w (WPost B lv w L r (tkO (S8.mkt (ls s)))):=Zlz hw
 clear hw
 go_enter func146,ntmps146
 go_wp2_with (go_at_call 143;(with_reducible refine C1.mono ?_);intro e w1 h1;rcases h1.ways with ⟨rfl,h2,h3⟩ | ⟨l,rfl,h2,h3,h4⟩;exact ⟨rfl,.stop h2 h3⟩;have H1:=hid (And.intro h2 (And.intro h3 h4));clear h1 h2 h3 h4)
 go_end0
 exact .done H1.out.1 H1.out.2.1 H1.out.2.2
theorem Zy3 (n:Int) (hw:Wr w B lv L (r + tw (S8.int n))):Calls prog 158 #[.pointer (some ⟨B,0,none⟩),.int .i64 n] w (WPost B lv w L r (tkO (S8.int n))):=by
 have C1:Calls prog 143 #[.pointer (some ⟨B,0,none⟩),.agg #[.int .i64 2,.string ⟨#[]⟩,.int .i64 n,.int .i64 0]] w (WPost B lv w L r (tkO (S8.int n))):=Zlz hw
 clear hw
 go_enter func158,ntmps158
 go_wp2_with (go_at_call 143;(with_reducible refine C1.mono ?_);intro e w1 h1;rcases h1.ways with ⟨rfl,h2,h3⟩ | ⟨l,rfl,h2,h3,h4⟩;exact ⟨rfl,.stop h2 h3⟩;have H1:=hid (And.intro h2 (And.intro h3 h4));clear h1 h2 h3 h4)
 go_end0
 exact .done H1.out.1 H1.out.2.1 H1.out.2.2
end
open Go.RowKit L7
structure At {α:Type} (B g lv N:Nat) (w0:World) (X:Nat→Prop) (L:List Tk) (W:Option (α × S8.Fm × List Tk)) (q:S8.Wm α) (f:S8.Fm) (l:List Tk) (r:Nat) (w:World):Prop where
 laid ::
 fo:Fo w B g lv N f (L++l) r
 fr:Fr B X w0 w
 xg:X g
 re:W=(q f).map fun z=>(z.1,z.2.1,l++z.2.2)
section
variable {α β:Type} {B g lv N:Nat} {w0 w w2:World} {X:Nat→Prop} {L:List Tk} {W:Option (α × S8.Fm × List Tk)} {f:S8.Fm} {l:List Tk} {r:Nat}
theorem At.step {p:S8.Wm β} {q:β→S8.Wm α} {r':β→Nat} {V:β→Value→World→Prop} {e:Ending} (G:At B g lv N w0 X L W (p >>= q) f l r w) (h:FPost B g lv N w (L++l) r' (p f) V e w2) :
  (e=.panicked pan∧W=none∧Below B w0 w2)∨∃y f' l' v,e=.returned v∧p f=some (y,f',l')∧V y v w2∧At B g lv N w0 X L W (q y) f' (l++l') (r' y) w2:=by
 have hr:=G.re
 rw [S8.wb] at hr
 cases hp:p f with
 | none=>
  rw [hp] at h hr
  exact .inl ⟨h.1,hr,G.fr.below.trans h.2⟩
 | some z=>
  obtain ⟨y,f',l'⟩:=z
  rw [hp] at h hr
  obtain ⟨v,h1,h2,h3,h4⟩:=h
  refine .inr ⟨y,f',l',v,h1,rfl,h2,⟨by rw [← List.append_assoc];exact h3,G.fr.trans h4 (fun j _ e=>e▸G.xg),G.xg,?_⟩⟩
  rw [hr]
  simp only
  cases q y f' with
  | none=>rfl
  | some z=>simp [List.append_assoc]
theorem At.last {r':α→Nat} {V:α→Value→World→Prop} {e:Ending} {q:S8.Wm α} (G:At B g lv N w0 X L W q f l r w) (h:FPost B g lv N w (L++l) r' (q f) V e w2) :
  (e=.panicked pan∧W=none∧Below B w0 w2)∨∃y f' l' v,e=.returned v∧V y v w2∧W=some (y,f',l')∧Fo w2 B g lv N f' (L++l') (r' y)∧Fr B X w0 w2:=by
 have hr:=G.re
 cases hp:q f with
 | none=>
  rw [hp] at h hr
  exact .inl ⟨h.1,hr,G.fr.below.trans h.2⟩
 | some z=>
  obtain ⟨y,f',l'⟩:=z
  rw [hp] at h hr
  obtain ⟨v,h1,h2,h3,h4⟩:=h
  exact .inr ⟨y,f',l++l',v,h1,h2,hr,by rw [← List.append_assoc];exact h3,G.fr.trans h4 (fun j _ e=>e▸G.xg)⟩
theorem At.pass {p:S8.Wm β} {q:β→S8.Wm α} {y:β} (G:At B g lv N w0 X L W (p >>= q) f l r w) (h:p f=some (y,f,[])):At B g lv N w0 X L W (q y) f l r w:=by
 refine ⟨G.fo,G.fr,G.xg,?_⟩
 rw [G.re,S8.wb,h]
 simp only
 cases q y f with
 | none=>rfl
 | some z=>simp
theorem At.fails {p:S8.Wm β} {q:β→S8.Wm α} (G:At B g lv N w0 X L W (p >>= q) f l r w) (h:p f=none):W=none:=by
 rw [G.re,S8.wb,h];rfl
theorem At.below {q:S8.Wm α} (G:At B g lv N w0 X L W q f l r w) (h:Below w.heap.size w w2):At B g lv N w0 X L W q f l r w2:=
 ⟨G.fo.below h,G.fr.trans (Fr.of_below (X:=fun _=>False) h (by have:=G.fo.wr.size;omega)) (fun _ _ k=>k.elim),G.xg,G.re⟩
theorem At.start {q:S8.Wm α} (F:Fo w B g lv N f L r):At B g lv N w (fun j=>j=g) L (q f) q f [] r w:=
 ⟨by rw [List.append_nil];exact F,Fr.refl _ _ _,rfl,by cases q f <;> rfl⟩
theorem FPost.ways {r':α→Nat} {V:α→Value→World→Prop} {o:Option (α × S8.Fm × List Tk)} {e:Ending} (h:FPost B g lv N w L r' o V e w2):(e=.panicked pan∧o=none∧Below B w w2)∨∃y f' l' v,e=.returned v∧o=some (y,f',l')∧V y v w2∧Fo w2 B g lv N f' (L++l') (r' y)∧Fr B (fun j=>j=g) w w2:=by
 cases o with
 | none=>exact .inl ⟨h.1,rfl,h.2⟩
 | some z=>obtain ⟨y,f',l'⟩:=z;obtain ⟨v,h1,h2,h3,h4⟩:=h;exact .inr ⟨y,f',l',v,h1,rfl,h2,h3,h4⟩
theorem FPost.stop {r':α→Nat} {V:α→Value→World→Prop} {o:Option (α × S8.Fm × List Tk)} (h:o=none) (b:Below B w w2):FPost B g lv N w L r' o V (.panicked pan) w2:=by subst h;exact ⟨rfl,b⟩
theorem FPost.done {r':α→Nat} {V:α→Value→World→Prop} {o:Option (α × S8.Fm × List Tk)} {y:α} {f':S8.Fm} {l':List Tk} {v:Value} (h:o=some (y,f',l')) (hv:V y v w2) (F:Fo w2 B g lv N f' (L++l') (r' y)) (k:Fr B (fun j=>j=g) w w2):FPost B g lv N w L r' o V (.returned v) w2:=by subst h;exact ⟨v,rfl,hv,F,k⟩
theorem Ziq {p:S8.Wm Unit} {x:Nd} : S8.run p x=((do p;S8.shut:S8.Wm Unit) ⟨x.t,x.n,x.c⟩).map fun z=>z.2.2:=by
 unfold S8.run
 cases (do p;S8.shut:S8.Wm Unit) ⟨x.t,x.n,x.c⟩ with
 | none=>rfl
 | some z=>rfl
theorem At.node {p:S8.Wm Unit} {x:Nd} (F:Fo w2 B g lv N ⟨x.t,x.n,x.c⟩ L r) (h:Below w.heap.size w w2) (hB:B≤w.heap.size) (hg:w.heap.size≤g):At B g lv N w (fun j=>w.heap.size≤j) L ((do p;S8.shut:S8.Wm Unit) ⟨x.t,x.n,x.c⟩) (do p;S8.shut) ⟨x.t,x.n,x.c⟩ [] r w2:=
 ⟨by rw [List.append_nil];exact F,Fr.of_below h hB,hg,by cases (do p;S8.shut:S8.Wm Unit) ⟨x.t,x.n,x.c⟩ <;> rfl⟩
theorem WPost.node_stop {p:S8.Wm Unit} {x:Nd} (h:(do p;S8.shut:S8.Wm Unit) ⟨x.t,x.n,x.c⟩=none) (b:Below B w w2):WPost B lv w L r (S8.run p x) (.panicked pan) w2:=.stop (by rw [Ziq,h];rfl) b
theorem WPost.node_done {p:S8.Wm Unit} {x:Nd} {f':S8.Fm} {l':List Tk} {r':Nat} (h:(do p;S8.shut:S8.Wm Unit) ⟨x.t,x.n,x.c⟩=some ((),f',l')) (F:Fo w2 B g lv N f' (L++l') r') (hr:r≤r') (k:Fr B (fun j=>w.heap.size≤j) w w2):WPost B lv w L r (S8.run p x) (.returned (.tuple #[])) w2:=
 .done (by rw [Ziq,h];rfl) (F.wr.less (by omega)) (k.nil fun j hj h=>by omega)
end
section
variable {B g lv N:Nat} {w w2:World} {L:List Tk} {f:S8.Fm} {r:Nat}
theorem ZuY {x:Tk} (hx:S8.okT x=true) {V:Unit→Value→World→Prop} {r':Unit→Nat} {e:Ending} (h:FPost B g lv N w L r' (S8.put (tkO x) f) V e w2):FPost B g lv N w L r' (S8.tk x f) V e w2:=by
 unfold tkO at h
 rw [if_pos hx] at h
 exact h
theorem ZuZ {x:Tk} {V:Unit→Value→World→Prop} {r':Unit→Nat} {e:Ending} (h:FPost B g lv N w L r' (S8.put (tkO x) f) V e w2):FPost B g lv N w L r' (S8.ZjQ x f) V e w2:=by
 unfold tkO at h
 unfold S8.ZjQ
 cases hx:S8.okT x with
 | true=>rw [hx,if_pos rfl] at h;rw [if_pos rfl];exact h
 | false=>rw [hx,if_neg (by decide)] at h;rw [if_neg (by decide)];exact h
theorem FPost.put_ways {o:Option (List Tk)} {r':Unit→Nat} {e:Ending} (h:FPost B g lv N w L r' (S8.put o f) isU e w2):(e=.panicked pan∧o=none∧Below B w w2)∨∃l,e=.returned (.tuple #[])∧o=some l∧Fo w2 B g lv N f (L++l) (r' ())∧Fr B (fun j=>j=g) w w2:=by
 cases o with
 | none=>exact .inl ⟨h.1,rfl,h.2⟩
 | some l=>obtain ⟨v,h1,h2,h3,h4⟩:=h;subst h2;exact .inr ⟨l,h1,rfl,h3,h4⟩
theorem Fo.name (F:Fo w B g lv N f L r) (s:ByteArray) (t:Bs) (hs:ls s=t) (hr:100≤r) (ht:t.length≤30) (hx:S8.okT (S8.nm t)=true):Calls prog 85 #[.pointer (some ⟨B,0,none⟩),.string s] w (FPost B g lv N w L (fun _=>r - 100) (S8.tk (S8.nm t) f) isU):=by
 subst hs
 exact (Zu5 s (r:=r - 100 + 4 * f.t.length + wts f.c) (F.wr.less (by simp only [tw,S8.nm];omega))).mono fun e w' h=>ZuY hx (h.lift F)
theorem Fo.mark (F:Fo w B g lv N f L r) (s:ByteArray) (t:Bs) (hs:ls s=t) (hr:100≤r) (ht:t.length≤30) (hx:S8.okT (S8.mkt t)=true):Calls prog 146 #[.pointer (some ⟨B,0,none⟩),.string s] w (FPost B g lv N w L (fun _=>r - 100) (S8.tk (S8.mkt t) f) isU):=by
 subst hs
 exact (ZoZ s (r:=r - 100 + 4 * f.t.length + wts f.c) (F.wr.less (by simp only [tw,S8.mkt];omega))).mono fun e w' h=>ZuY hx (h.lift F)
theorem Fo.int (F:Fo w B g lv N f L r) (n:Int) (hr:100≤r):Calls prog 158 #[.pointer (some ⟨B,0,none⟩),.int .i64 n] w (FPost B g lv N w L (fun _=>r - 100) (S8.ZjQ (S8.int n) f) isU):=
 (Zy3 n (r:=r - 100 + 4 * f.t.length + wts f.c) (F.wr.less (by simp only [tw,S8.int,List.length_nil];omega))).mono fun e w' h=>ZuZ (h.lift F)
end
open Go.RowKit L7
theorem Zu4 (t:Bs):S8.okT (S8.nm t)=ZbM t:=by simp [S8.okT,S8.nm]
section
variable {B g lv N:Nat} {w w2:World} {L:List Tk} {f:S8.Fm} {r:Nat}
theorem Fo.add (F:Fo w B g lv N f L r) (x:Tk) (hr:tw x≤r):Calls prog 143 #[.pointer (some ⟨B,0,none⟩),.agg (tk4 x)] w (FPost B g lv N w L (fun _=>r - tw x) (S8.ZjQ x f) isU):=
 (Zlz (r:=r - tw x + 4 * f.t.length + wts f.c) (F.wr.less (by omega))).mono fun e w' h=>ZuZ (h.lift F)
theorem Fo.c0 (F:Fo w B g lv N f L r):w.cell? ⟨g,0,none⟩=some (.pointer (some ⟨B,0,none⟩)):=by
 obtain ⟨k,a,A,cap,h1,-⟩:=F.is;exact h1.at_ 0
theorem ZkD (K:Nat) (is p:Bs→Bool) (hK:∀(args:Array Value) (w:World),(callFunc K args).run prog w=.ok (.enter K args) w) (hf:∀s w,Calls prog K #[.string s] w fun e w'=>e=.returned (.bool (is (ls s)))∧w=w') (hp:∀t,(is t && ZbM t)=p t) (F:Fo w B g lv N f L r) (hr:100≤r) :
  Calls prog 144 #[.pointer (some ⟨g,0,none⟩),.func (.func K) #[] #[]] w (FPost B g lv N w L (fun _=>r - 100) (S8.ZaZ p f) isU):=by
 obtain ⟨t,n,c⟩:=f
 have C1:=Zos F
 have C2:=fun W=>hf (mk t) W
 rw [Zbc] at C2
 have HM:Hid (S8.ZaZ p ⟨t,n,c⟩=if (is t && ZbM t)=true then some ((),⟨[],n,c⟩,[S8.nm t]) else none):=hid (by rw [hp];rfl)
 clear hf hp F
 cases hi:is t with
 | false=>
  rw [hi] at C2 HM
  have R1:=fun W=>ZeH W
  clear hi
  go_enter func144,ntmps144
  go_wp2_with (first
   | (go_at_call 206;(with_reducible refine C1.mono ?_);rintro e w1 ⟨v,rfl,rfl,h1,h2⟩;have H1:=hid h2;clear h1 h2 C1)
   | (go_at_call 82;(with_reducible refine (R1 _).mono ?_);rintro e w3 ⟨rfl,rfl⟩;exact ⟨rfl,.stop (by rw [HM.out];rfl) H1.out.below⟩)
   | ((with_reducible refine (C2 _).mono ?_);rintro e w2 ⟨rfl,rfl⟩))
 | true=>
  rw [hi] at C2 HM
  have R1:=fun W=>Zd2 W
  clear hi
  go_enter func144,ntmps144
  go_wp2_with (first
   | (go_at_call 206;(with_reducible refine C1.mono ?_);rintro e w1 ⟨v,rfl,rfl,h1,h2⟩;have d0:=h1.c0;have C3:=Zu5 (w:=w1) (B:=B) (lv:=lv) (L:=L++[]) (r:=r - 100 + 4 * 0 + wts c) (mk t) (h1.wr.less (by rw [Zbc];simp only [tw,S8.nm,List.length_nil];omega));have H1:=hid (And.intro h2 h1);clear h1 h2 C1)
   | (go_at_call 82;(with_reducible refine (R1 _).mono ?_);rintro e w3 ⟨rfl,rfl⟩)
   | (go_at_call 85;(with_reducible refine C3.mono ?_);intro e w4 h1;rcases (h1.lift (f:=⟨[],n,c⟩) H1.out.2).put_ways with ⟨rfl,h2,h3⟩ | ⟨l,rfl,h2,h3,h4⟩;exact ⟨rfl,.stop (by rw [Zbc] at h2;unfold tkO at h2;rw [Zu4] at h2;rw [HM.out,if_neg (by intro hh;simp at hh;rw [hh,if_pos rfl] at h2;cases h2)]) (H1.out.1.below.trans h3)⟩;have H4:=hid (And.intro h2 (And.intro h3 h4));clear h1 h2 h3 h4)
   | ((with_reducible refine (C2 _).mono ?_);rintro e w2 ⟨rfl,rfl⟩))
  go_end0
  have h2:=H4.out.1
  rw [Zbc] at h2
  unfold tkO at h2
  rw [Zu4] at h2
  cases hn:ZbM t with
  | false=>rw [hn,if_neg (by decide)] at h2;cases h2
  | true=>
   rw [hn,if_pos rfl] at h2
   injection h2 with h2
   refine .done (HM.out.trans (by rw [hn];rfl)) rfl ?_ (H1.out.1.trans H4.out.2.2 (fun j _ h=>h))
   rw [h2]
   have:=H4.out.2.1
   simpa using this
end
end Go.Proofs.YtaheffiglmglbaaGreatDoor
