import Derived.KernelRfl
import Derived.OrdersHeld
import Derived.WalkKit
import Derived.Maps.OwnSet
import Derived.Maps.OwnOps
import Derived.Maps.Views
import Derived.StringKeys
import Derived.Laws.Tables
import Derived.Laws.Rows
import Derived.Defers
import Derived.Lib.ReflectliteSwap
import Derived.Test.YtaheffiglmglbaaGreatDoorKLa
import Derived.Test.YtaheffiglmglbaaGreatDoorKPe
import Derived.Test.YtaheffiglmglbaaGreatDoorKLb
/- Seq, Seq2, Tree, Words, Lev, Laws. -/
set_option maxHeartbeats 8000000
set_option maxRecDepth 20000
namespace Go.Proofs.YtaheffiglmglbaaGreatDoor
open Go.Proofs.Tryz
open Go
section
variable {P:Program} {ops:Array Oper} {Q:Exit→Act→World→Prop} {S:World→Prop} {N:Nat→Bool} {md:Region.Mode}
def Whole (md:Region.Mode) (ops:Array Oper) (l:Array Bool):Prop:=∀k o,ops[k]?=some o→l.getD k false=true→∀e∈o.after,Region.binds md e=true→l.getD e.on false=true
def waits (md:Region.Mode) (ops:Array Oper):Nat→Nat→Nat→Bool
 | 0,_,_=>false
 | n + 1,j,i=>match ops[j]? with
  | none=>false
  | some o=>o.after.any fun e=>Region.binds md e && (e.on == i || waits md ops n e.on i)
theorem Zin {l:Array Bool} (hw:Whole md ops l) {i:Nat} : ∀n j o,ops[j]?=some o→(∀e∈o.after,Region.binds md e=true→l.getD e.on false=true)→waits md ops n j i=true→l.getD i false=true
 | 0,_,_,_,_,h=>by cases h
 | n + 1,j,o,ho,hd,h=>by
  simp only [waits,ho] at h
  obtain ⟨e,he,hb⟩:=Array.any_eq_true'.1 h
  simp only [Bool.and_eq_true,Bool.or_eq_true,beq_iff_eq] at hb
  obtain ⟨hb,hc⟩:=hb
  have hl:=hd e he hb
  rcases hc with rfl | hc
  ·exact hl
  ·cases hk:ops[e.on]? with
   | none=>cases n <;> simp [waits,hk] at hc
   | some o'=>exact Zin hw n e.on o' hk (hw e.on o' hk hl) hc
theorem ZiY {l:Array Bool} (hw:Whole md ops l) {j:Nat} (hj:j∈Region.ready md ops l):Whole md ops (l.setIfInBounds j true):=fun k o ho hk e he hb=>by
 by_cases hkj:j=k
 ·subst hkj
  obtain ⟨-,o',ho',hall⟩:=mem_ready.1 hj
  rw [ho] at ho'
  cases ho'
  exact getD_set_true (hall e he hb)
 ·rw [getD_set_ne false hkj] at hk
  exact getD_set_true (hw k o ho hk e he hb)
def wpN (P:Program) (md:Region.Mode) (ops:Array Oper) (Q:Exit→Act→World→Prop) (S:World→Prop) (N:Nat→Bool):Nat→Array Bool→Act→World→Prop
 | 0,l,a,w=>Region.ready md ops l=[]∧Q .normal a w
 | n + 1,l,a,w=>(Region.ready md ops l=[]→Q .normal a w)∧
  ∀i∈Region.ready md ops l,wpOp P ops Q i (fun a' w'=>(N i=true→S w')∧wpN P md ops Q S N n (l.setIfInBounds i true) a' w') a w
theorem Zkr:∀(n:Nat) (l:Array Bool) (a:Act) (w:World),wpN P md ops Q S N n l a w→wpAny P md ops Q n l a w
 | 0,_,_,_,h=>h
 | n + 1,_,_,_,h=>⟨h.1,fun i hi=>wpOp_mono (fun a' w' h'=>Zkr n _ a' w' h'.2) (h.2 i hi)⟩
theorem ZlF {i:Nat} {oi:Oper} {v:Value} (hi:ops[i]?=some oi) (hsel:∀(j:Nat) (o:Oper) cs b,ops[j]?=some o→o.op≠.select cs b)
  (hQ:∀c a w,Q (.panic c) (a.put oi.dst v) w→Q (.panic c) a w) (hN:∀j,j < ops.size→N j=false→waits md ops ops.size j i=true) :
  ∀(n:Nat) (l:Array Bool) (a:Act) (w:World),Whole md ops l→
   (∀j oj,ops[j]?=some oj→j≠i→l.getD j true=false→(∀e∈oj.after,Region.binds md e=true→e.on≠i)→oi.apart ops oj=true)→
   i∈Region.ready md ops l→YieldsIf P ops S oi v a→S w→
   wpN P md ops Q S N n (l.setIfInBounds i true) (a.put oi.dst v) w→wpN P md ops Q S N (n + 1) l a w:=by
 intro n
 induction n with
 | zero=>
  intro l a w _ _ hr hy hS H
  refine ⟨fun h=>(by rw [h] at hr;cases hr),fun j hj=>?_⟩
  by_cases hji:j=i
  ·subst hji;exact hy.wpOp hi hS ⟨fun _=>hS,H⟩
  ·have:=ready_mono hj hji
   rw [H.1] at this
   cases this
 | succ n ih=>
  intro l a w hwh hfree hr hy hS H
  refine ⟨fun h=>(by rw [h] at hr;cases hr),fun j hj=>?_⟩
  by_cases hji:j=i
  ·subst hji;exact hy.wpOp hi hS ⟨fun _=>hS,H⟩
  ·have h1:=H.2 j (ready_mono hj hji)
   obtain ⟨hjun,oj,hoj,hall⟩:=mem_ready.1 hj
   have hi0:l.getD i false=false:=by
    have h0:=(mem_ready.1 hr).1
    rcases Nat.lt_or_ge i l.size with h' | h'
    ·simp [h'] at h0 ⊢;exact h0
    ·simp [Array.getElem?_eq_none h'] at h0
   have hnot:∀e∈oj.after,Region.binds md e=true→e.on≠i:=fun e he hb heq=>by
    have h2:=hall e he hb
    rw [heq,hi0] at h2
    cases h2
   have hNj:N j=true:=by
    cases hn:N j with
    | true=>rfl
    | false=>
     have h2:=Zin hwh _ j oj hoj hall (hN j (Array.getElem?_eq_some_iff.1 hoj).1 hn)
     rw [hi0] at h2
     cases h2
   have h2:=wpOp_putIf hoj (hfree j oj hoj hji hjun hnot) (fun cs b=>hsel i oi cs b hi) (fun cs b=>hsel j oj cs b hoj) hQ hy h1
   have hfree':∀k ok,ops[k]?=some ok→k≠i→(l.setIfInBounds j true).getD k true=false→(∀e∈ok.after,Region.binds md e=true→e.on≠i)→oi.apart ops ok=true:=fun k ok hk hki hun hno=>by
    refine hfree k ok hk hki ?_ hno
    by_cases hjk:j=k
    ·subst hjk;exact hjun
    ·rw [getD_set_ne true hjk] at hun;exact hun
   refine wpOp_mono (fun a' w' h3=>⟨h3.2.1,ih (l.setIfInBounds j true) a' w' (ZiY hwh hj) hfree' (ready_mono hr (Ne.symm hji)) h3.1 (h3.2.1 hNj) ?_⟩) h2
   rw [Array.setIfInBounds_comm _ _ hji]
   exact h3.2.2
def firsts (md:Region.Mode) (ops:Array Oper):List Nat→Array Bool→Bool
 | [],_=>true
 | i::r,l=>(Region.ready md ops l).contains i && Region.free md ops l i && firsts md ops r (l.setIfInBounds i true)
def chain (md:Region.Mode) (ops:Array Oper):List Nat→Array Bool→Bool
 | [],l=>(Region.ready md ops l).isEmpty
 | i::r,l=>Region.ready md ops l == [i] && chain md ops r (l.setIfInBounds i true)
def ZfR (l:Array Bool):List Nat→Array Bool
 | []=>l
 | i::r=>ZfR (l.setIfInBounds i true) r
def Zkz (ops:Array Oper) (N:Nat→Bool) (f c:List Nat):Bool:=
 Region.noSelect ops && firsts .any ops f (Array.replicate ops.size false) && chain .any ops c (ZfR (Array.replicate ops.size false) f) && (f.length + c.length == ops.size) &&
  f.all fun i=>(List.range ops.size).all fun j=>N j || waits .any ops ops.size j i
def ZcC (P:Program) (ops:Array Oper) (S:World→Prop) (K:Act→Prop):List Nat→Act→Prop
 | [],a=>K a
 | i::r,a=>∃o v,ops[i]?=some o∧YieldsIf P ops S o v a∧ZcC P ops S K r (a.put o.dst v)
def Zcn (P:Program) (ops:Array Oper) (Q:Exit→Act→World→Prop) (S:World→Prop) (N:Nat→Bool):List Nat→Act→World→Prop
 | [],a,w=>Q .normal a w
 | i::r,a,w=>wpOp P ops Q i (fun a' w'=>(N i=true→S w')∧Zcn P ops Q S N r a' w') a w
theorem Zhv:∀(c:List Nat) (l:Array Bool) (a:Act) (w:World),chain md ops c l=true→Zcn P ops Q S N c a w→wpN P md ops Q S N c.length l a w
 | [],l,a,w,h,k=>by
  show wpN P md ops Q S N 0 l a w
  exact ⟨by simpa [chain] using h,k⟩
 | i::r,l,a,w,h,k=>by
  simp only [chain,Bool.and_eq_true,beq_iff_eq] at h
  show wpN P md ops Q S N (r.length + 1) l a w
  refine ⟨fun h0=>(by rw [h.1] at h0;cases h0),fun j hj=>?_⟩
  rw [h.1,List.mem_singleton] at hj
  subst hj
  exact wpOp_mono (fun a' w' h'=>⟨h'.1,Zhv r _ a' w' h.2 h'.2⟩) k
theorem ZhV (hs:Region.noSelect ops=true) (hQ:∀c a a' w,a'.defers=a.defers→Q (.panic c) a' w→Q (.panic c) a w) (n:Nat):∀(f:List Nat) (l:Array Bool) (a:Act) (w:World),Whole md ops l→firsts md ops f l=true→
  (∀i∈f,∀j,j < ops.size→N j=false→waits md ops ops.size j i=true)→S w→ZcC P ops S (fun a'=>wpN P md ops Q S N n (ZfR l f) a' w) f a→wpN P md ops Q S N (f.length + n) l a w
 | [],l,a,w,_,_,_,_,k=>by
  rw [show ([]:List Nat).length + n=n by simp]
  exact k
 | i::r,l,a,w,hw,h,hN,hS,k=>by
  simp only [firsts,Bool.and_eq_true] at h
  obtain ⟨⟨h1,h2⟩,h3⟩:=h
  obtain ⟨o,v,ho,hy,k⟩:=k
  have hr:i∈Region.ready md ops l:=by simpa using h1
  rw [show (i::r).length + n=(r.length + n) + 1 by simp;omega]
  refine ZlF ho (Region.noSelect_spec hs) (fun c a w=>hQ c a _ w (by cases o.dst <;> rfl)) (hN i (by simp)) _ l a w hw (Region.free_spec ho h2) hr hy hS ?_
  exact ZhV hs hQ n r _ _ w (ZiY hw hr) h3 (fun i hi=>hN i (by simp [hi])) hS k
theorem Zao {id:Nat} {a:Act} {w:World} (S:World→Prop) (N:Nat→Bool) (f c:List Nat) (hm:P.follows .mixedOrders=true) (hB:Zkz ops N f c=true)
  (hQ:∀c a a' w,a'.defers=a.defers→Q (.panic c) a' w→Q (.panic c) a w) (hS:S w.drew) (h:ZcC P ops S (fun a'=>Zcn P ops Q S N c a' w.drew) f a):(Code.region id ops true).wp P Q a w:=by
 simp only [Zkz,Bool.and_eq_true,beq_iff_eq,List.all_eq_true,List.mem_range,Bool.or_eq_true] at hB
 obtain ⟨⟨⟨⟨h1,h2⟩,h3⟩,h4⟩,h5⟩:=hB
 refine wp_region_any hm (Zkr (S:=S) (N:=N) _ _ _ _ ?_)
 have hw:Whole .any ops (Array.replicate ops.size false):=fun k o ho hk=>by
  exfalso
  rcases Nat.lt_or_ge k ops.size with hl | hl
  ·simp [hl] at hk
  ·simp [Nat.not_lt.2 hl] at hk
 have mono:∀(f:List Nat) (a:Act) (K K':Act→Prop),(∀a,K a→K' a)→ZcC P ops S K f a→ZcC P ops S K' f a:=by
  intro f
  induction f with
  | nil=>exact fun a K K' hk h=>hk a h
  | cons i r ih=>exact fun a K K' hk ⟨o,v,ho,hy,h⟩=>⟨o,v,ho,hy,ih _ K K' hk h⟩
 have hx:=ZhV (P:=P) (S:=S) (N:=N) h1 hQ c.length f (Array.replicate ops.size false) a w.drew hw h2 (fun i hi j hj hn=>(h5 i hi j hj).resolve_left (by rw [hn];decide)) hS
  (mono f a _ _ (fun a' h'=>Zhv c _ a' _ h3 h') h)
 rw [h4] at hx
 exact hx
theorem r2 {id:Nat} {a:Act} {w:World} (S:World→Prop) (N:Nat→Bool) (f c:List Nat) (hS:S w.drew) (h:ZcC P ops S (fun a'=>Zcn P ops Q S N c a' w.drew) f a) (hm:P.follows .mixedOrders=true:=by kernel_rfl) (hB:Zkz ops N f c=true:=by kernel_rfl)
  (hQ:∀c a a' w,a'.defers=a.defers→Q (.panic c) a' w→Q (.panic c) a w:=by intro c a a' W hd hq;exact ⟨hd▸hq.1,hq.2⟩):(Code.region id ops true).wp P Q a w:=Zao S N f c hm hB hQ hS h
end
open Go
section
variable {P:Program} {ops:Array Oper} {Q:Exit→Act→World→Prop} {S S':World→Prop} {N N':Nat→Bool} {md:Region.Mode}
theorem Zon {n:Nat} {l:Array Bool} {a:Act} {w:World} (r:List Nat) (h:Region.ready md ops l=r) (hr:r≠[]) (k:∀i∈r,wpOp P ops Q i (fun a' w'=>(N i=true→S w')∧wpN P md ops Q S N n (l.setIfInBounds i true) a' w') a w):wpN P md ops Q S N (n + 1) l a w:=
 ⟨fun h0=>absurd (h.symm.trans h0) hr,fun i hi=>k i (h▸hi)⟩
theorem Zoo:∀(n:Nat) (l:Array Bool) (a:Act) (w:World),(∀i,i < ops.size→N i=true→l.getD i false=true)→wpN P md ops Q S' N' n l a w→wpN P md ops Q S N n l a w
 | 0,_,_,_,_,h=>h
 | n + 1,l,a,w,hl,h=>⟨h.1,fun i hi=>wpOp_mono (fun a' w' h'=>⟨fun hN=>by
     obtain ⟨hun,o,ho,-⟩:=mem_ready.1 hi
     have h1:=hl i (Array.getElem?_eq_some_iff.1 ho).1 hN
     exfalso
     rcases Nat.lt_or_ge i l.size with hs | hs
     ·simp [hs] at h1 hun;rw [h1] at hun;cases hun
     ·simp [Array.getElem?_eq_none hs] at h1,Zoo n _ a' w' (fun j hj hN=>by
      have:=hl j hj hN
      exact getD_set_true this) h'.2⟩) (h.2 i hi)⟩
def Zmq (ops:Array Oper) (N:Nat→Bool) (f:List Nat) (n:Nat):Bool:=
 Region.noSelect ops && firsts .any ops f (Array.replicate ops.size false) && (f.length + n == ops.size) &&
  f.all fun i=>(List.range ops.size).all fun j=>N j || waits .any ops ops.size j i
end
open Go.RowKit L7
theorem Zpq (a:Addr) (n:Nat):(a.add n).block=a.block:=by
 unfold Addr.add;split <;> rfl
abbrev Nd:=S8.Nd
abbrev PTok:=S8.Tok
def ndc (x:Nd) (s:Value):List Value:=[.int .i64 x.k,.string (mk x.t),.int .i64 x.n,.int .i64 x.a,s]
theorem Zh9 (x:Nd) (s:Value):(ndc x s).length=5:=rfl
mutual
def Kid (w:World) (Y:Nat→Prop):Nd→Value→Prop
 | .mk _ _ _ _ c,v=>∃A cap,v=.slice A c.length cap∧c.length≤cap∧Kids w Y c A 0
def Kids (w:World) (Y:Nat→Prop):List Nd→Option Addr→Nat→Prop
 | [],_,_=>True
 | x::l,A,i=>(∃a s,A=some a∧Y a.block∧(∀j u,(ndc x s)[j]?=some u→w.cell? (a.add (i * 5 + j))=some u)∧Kid w Y x s)∧Kids w Y l A (i + 1)
end
theorem ZgA (w:World) (Y:Nat→Prop) (x:Nd) (v:Value):Kid w Y x v↔∃A cap,v=.slice A x.c.length cap∧x.c.length≤cap∧Kids w Y x.c A 0:=by
 cases x;rw [Kid];rfl
theorem Zb0 {w w':World} {Y Y':Nat→Prop} (hY:∀g,Y g→g < w.heap.size→Y' g) (hw:∀g,Y g→g < w.heap.size→w'.heap[g]?=w.heap[g]?):∀(x:Nd) (v:Value),Kid w Y x v→Kid w' Y' x v:=by
 intro x
 induction x using S8.ZhH with
 | h k t n a c ih=>
  intro v h
  rw [Kid] at h ⊢
  obtain ⟨A,cap,e1,e2,h3⟩:=h
  refine ⟨A,cap,e1,e2,?_⟩
  have go:∀(l:List Nd) (i:Nat),(∀x∈l,x∈c)→Kids w Y l A i→Kids w' Y' l A i:=by
   intro l
   induction l with
   | nil=>intro i _ _;simp only [Kids]
   | cons x l ihl=>
    intro i hm h
    simp only [Kids] at h ⊢
    obtain ⟨⟨a,s,e,hy,hc,hk⟩,h2⟩:=h
    have hlt:a.block < w.heap.size:=by
     have h0:=hc 0 _ rfl
     have:=World.block_lt_of_cell? w _ h0
     rwa [Zpq] at this
    refine ⟨⟨a,s,e,hY _ hy hlt,fun j u hu=>?_,ih x (hm x (by simp)) s hk⟩,ihl (i + 1) (fun y hy=>hm y (by simp [hy])) h2⟩
    rw [← hc j u hu]
    unfold World.cell?
    rw [Zpq,hw _ hy hlt]
  exact go c 0 (fun _ h=>h) h3
theorem Zhl {w:World} {Y:Nat→Prop} {x:Nd} {v:Value} (h:Kid w Y x v):Kid w (fun g=>Y g∧g < w.heap.size) x v:=Zb0 (fun _ h1 h2=>⟨h1,h2⟩) (fun _ _ _=>rfl) x v h
theorem Zgz {w:World} {Y Y':Nat→Prop} {x:Nd} {v:Value} (h:Kid w Y x v) (hY:∀g,Y g→g < w.heap.size→Y' g):Kid w Y' x v:=Zb0 hY (fun _ _ _=>rfl) x v h
def ZmZ (w:World) (Y:Nat→Prop):List Nd→List Value→Prop
 | [],xs=>xs=[]
 | x::l,xs=>∃s r,xs=ndc x s++r∧Kid w Y x s∧ZmZ w Y l r
theorem ZhF {w:World} {Y:Nat→Prop} : ∀{l:List Nd} {xs:List Value},ZmZ w Y l xs→xs.length=l.length * 5
 | [],xs,h=>by rw [show xs=[] from h];rfl
 | x::l,xs,h=>by
  obtain ⟨s,r,e,-,h2⟩:=h
  rw [e,List.length_append,ZhF h2,Zh9,List.length_cons];omega
theorem ZbB {w w':World} {Y Y':Nat→Prop} (hY:∀g,Y g→g < w.heap.size→Y' g) (hw:∀g,Y g→g < w.heap.size→w'.heap[g]?=w.heap[g]?):∀{l:List Nd} {xs:List Value},ZmZ w Y l xs→ZmZ w' Y' l xs
 | [],_,h=>h
 | x::_,_,⟨s,r,e,h1,h2⟩=>⟨s,r,e,Zb0 hY hw x s h1,ZbB hY hw h2⟩
theorem ZhG {w:World} {Y:Nat→Prop} : ∀{l l':List Nd} {xs xs':List Value},ZmZ w Y l xs→ZmZ w Y l' xs'→ZmZ w Y (l++l') (xs++xs')
 | [],_,_,_,h,k=>by rw [show _=[] from h];exact k
 | _::_,_,_,xs',⟨s,r,e,h1,h2⟩,k=>⟨s,r++xs',by rw [e,List.append_assoc],h1,ZhG h2 k⟩
theorem ZfM {w:World} {Y:Nat→Prop} {x:Nd} {s:Value} (h:Kid w Y x s):ZmZ w Y [x] (ndc x s):=⟨s,[],by simp,h,rfl⟩
theorem Zi9 {w:World} {Y Y':Nat→Prop} {a:Addr} (hb:Y' a.block) (hY:∀g,Y g→g < w.heap.size→Y' g):∀{l:List Nd} {xs:List Value} {i:Nat},ZmZ w Y l xs→(∀j u,xs[j]?=some u→w.cell? (a.add (i * 5 + j))=some u)→Kids w Y' l (some a) i
 | [],_,_,_,_=>by simp only [Kids]
 | x::l,xs,i,⟨s,r,e,h1,h2⟩,hc=>by
  simp only [Kids]
  refine ⟨⟨a,s,rfl,hb,fun j u hu=>hc j u ?_,Zgz h1 hY⟩,Zi9 hb hY h2 fun j u hu=>?_⟩
  ·rw [e,List.getElem?_append_left (by
    have:=(List.getElem?_eq_some_iff.1 hu).1
    exact this)]
   exact hu
  ·have:=hc (5 + j) u (by rw [e,List.getElem?_append_right (by rw [Zh9];omega),Zh9];rw [← hu];congr 1;omega)
   rw [show i * 5 + (5 + j)=(i + 1) * 5 + j by omega] at this
   exact this
def OwnRow (w:World) (base:Nat) (c:List Nd) (s:Value):Prop:=∃xs,w.ownsRow base 24 5 s c.length xs∧ZmZ w (fun g=>base≤g∧some g≠s.ownBlock) c xs
def Own (w:World) (base:Nat) (x:Nd) (v:Value):Prop:=∃s,v=.agg #[.int .i64 x.k,.string (mk x.t),.int .i64 x.n,.int .i64 x.a,s]∧OwnRow w base x.c s
section
variable {w w':World} {base:Nat} {c:List Nd} {s:Value}
theorem OwnRow.nil (w:World) (base:Nat):OwnRow w base [] (.slice none 0 0):=⟨[],World.ownsRow_nil _ _ _ _,rfl⟩
theorem OwnRow.weak (h:OwnRow w base c s) {base':Nat} (hb:base'≤base):OwnRow w base' c s:=by
 obtain ⟨xs,h1,h2⟩:=h
 refine ⟨xs,⟨h1.1,?_⟩,ZbB (fun g hg _=>⟨by omega,hg.2⟩) (fun _ _ _=>rfl) h2⟩
 rcases h1.2 with h | ⟨g,cap,cur,e,hbg,h⟩
 ·exact .inl h
 ·exact .inr ⟨g,cap,cur,e,by omega,h⟩
theorem OwnRow.stay (h:OwnRow w base c s) (hw:∀g,base≤g→g < w.heap.size→w'.heap[g]?=w.heap[g]?):OwnRow w' base c s:=by
 obtain ⟨xs,h1,h2⟩:=h
 refine ⟨xs,⟨h1.1,?_⟩,ZbB (fun g hg _=>hg) (fun g hg hlt=>hw g hg.1 hlt) h2⟩
 rcases h1.2 with h | ⟨g,cap,cur,e,hbg,hh,h⟩
 ·exact .inl h
 ·exact .inr ⟨g,cap,cur,e,hbg,(hw g hbg (h1.lt g (by rw [e];rfl)).2).trans hh,h⟩
theorem OwnRow.grown {b:Nat} (h:OwnRow w base c s) (k:w.grownBy w' (some b)) (hb:b < base):OwnRow w' base c s:=
 h.stay fun g hg hlt=>k.block g hlt (fun e=>by injection e with e;omega)
theorem OwnRow.below {B:Nat} (h:OwnRow w base c s) (k:Below B w w') (hB:w.heap.size≤B):OwnRow w' base c s:=
 h.stay fun g _ hlt=>k.block g (by omega)
theorem OwnRow.set (h:OwnRow w base c s) {a:Addr} (u:Value) (ha:a.block < base):OwnRow (w.setCell a u) base c s:=
 h.stay fun g hg _=>Below.heap_setCell w a u g (by omega)
theorem OwnRow.alloc (h:OwnRow w base c s) (o:Obj):OwnRow (w.alloc o) base c s:=
 h.stay fun g _ hlt=>Below.heap_alloc w o g hlt
theorem OwnRow.drew (h:OwnRow w base c s) (n:Nat):OwnRow (w.drewN n) base c s:=h.stay fun _ _ _=>rfl
theorem OwnRow.form (h:OwnRow w base c s):(s=.slice none 0 0∧c=[])∨∃g cap,s=.slice (some ⟨g,0,none⟩) c.length cap∧base≤g∧g < w.heap.size∧c.length≤cap∧cap≤maxLen:=by
 obtain ⟨xs,h1,h2⟩:=h
 rcases h1.2 with ⟨e,hn⟩ | ⟨g,cap,cur,e,hbg,hh,hnc,hcm,-⟩
 ·exact .inl ⟨e,List.eq_nil_of_length_eq_zero hn⟩
 ·exact .inr ⟨g,cap,e,hbg,(h1.lt g (by rw [e];rfl)).2,hnc,hcm⟩
theorem OwnRow.kid (h:OwnRow w base c s) (x:Nd) (hx:x.c=c):Kid w (fun g=>base≤g) x s:=by
 have hf:=h.form
 obtain ⟨xs,h1,h2⟩:=h
 rw [ZgA,hx]
 rcases hf with ⟨e,hc⟩ | ⟨g,cap,e,hbg,hlt,hnc,-⟩
 ·subst hc
  exact ⟨none,0,e,Nat.le_refl _,by simp only [Kids]⟩
 ·refine ⟨_,cap,e,hnc,Zi9 (i:=0) hbg (fun g hg _=>hg.1) h2 fun j u hu=>?_⟩
  have:=h1.cells (g:=g) (by rw [e];rfl) j u hu
  rw [show 0 * 5 + j=j by omega]
  exact this
theorem Own.weak {x:Nd} {v:Value} (h:Own w base x v) {base':Nat} (hb:base'≤base):Own w base' x v:=by
 obtain ⟨s,e,h⟩:=h;exact ⟨s,e,h.weak hb⟩
theorem OwnRow.single {x:Nd} {r:Value} {g:Nat} (hg:Is w g 24 #[.int .i64 x.k,.string (mk x.t),.int .i64 x.n,.int .i64 x.a,r]) (hb:base≤g) (hk:Kid w (fun h=>base≤h∧h≠g) x r) :
  OwnRow w base [x] (.slice (some ⟨g,0,none⟩) 1 1):=by
 refine ⟨ndc x r,⟨rfl,.inr ⟨g,1,_,rfl,hb,hg,Nat.le_refl _,by decide,rfl,rfl⟩⟩,ZfM (Zgz hk fun h hh _=>⟨hh.1,fun e=>hh.2 (by simpa [Value.ownBlock] using e)⟩)⟩
theorem OwnRow.app {d:List Nd} {s':Value} {xs news:List Value} (h2:ZmZ w (fun g=>base≤g∧some g≠s.ownBlock) c xs) (hd:ZmZ w (fun g=>base≤g∧some g≠s.ownBlock) d news)
  (ho:w'.ownsRow base 24 5 s' (c.length + d.length) (xs++news)) (hg:w.grownBy w' s.ownBlock) (hs:s'.ownBlock=s.ownBlock∨∀g,s'.ownBlock=some g→w.heap.size≤g):OwnRow w' base (c++d) s':=by
 refine ⟨xs++news,by rw [List.length_append];exact ho,ZhG (ZbB ?_ ?_ h2) (ZbB ?_ ?_ hd)⟩
 all_goals
  first
  | exact fun g hg' hlt=>⟨hg'.1,fun e=>by
    rcases hs with hs | hs
    ·rw [hs] at e;exact hg'.2 e
    ·have:=hs g e.symm;omega⟩
  | exact fun g hg' hlt=>hg.block g hlt hg'.2
end
open Go.RowKit L7
def Zhq (t:Bs):Bool:=match t with
 | []=>false
 | c::_=>decide ((97:Int)≤(c.toNat:Int)) && decide ((c.toNat:Int)≤122) && !S8.reserved.contains t
def ZiP (t:Bs):Bool:=match t with
 | []=>false
 | c::_=>decide ((65:Int)≤(c.toNat:Int)) && decide ((c.toNat:Int)≤90)
theorem Zas (s:ByteArray):s.toList=ls s:=by rw [ByteArray.toList_eq];rfl
theorem ZmX (s:ByteArray) (w:World):Calls prog 248 #[.string s] w fun e w'=>e=.returned (.bool (S8.basic (ls s)))∧w=w':=by
 have HM:Hid (S8.basic (ls s)=(s.toList == [105,110,116] || s.toList == [98,111,111,108] || s.toList == [116,101,120,116] || s.toList == [117,110,105,116])):=hid (by rw [Zas];rfl)
 go_enter func248,ntmps248
 go_wp2
 all_goals (go_ret;exact ⟨ZbJ (by rw [HM.out];first | (simp [*];done) | (simp_all;done)),rfl⟩)
def Zhf:List Bs:=[[114,101,99,111,114,100],[118,97,114,105,97,110,116],[101,102,102,101,99,116],[102,117,110],[97,99,116,111,114],[114,101,115,116,97,114,116],[101,115,99,97,108,97,116,101],[115,116,97,116,101],[111,110],[108,101,116],[105,110],[105,102],[116,104,101,110],[101,108,115,101],[109,97,116,99,104],[119,105,116,104],[97,110,100],[111,114],[110,111,116],[116,114,117,101],[102,97,108,115,101],[115,101,108,102],[102,111,114],[115,101,110,100],[97,102,116,101,114],[115,112,97,119,110],[100,111],[115,116,111,112],[102,97,105,108]]
theorem Zq8 (l:Bs):S8.reserved.contains l=(Zhf.contains l || (l == [114,101,102] || S8.basic l)):=by
 have h1:S8.reserved.contains l=decide (l∈S8.reserved):=by rw [Bool.eq_iff_iff];simp
 have h2:Zhf.contains l=decide (l∈Zhf):=by rw [Bool.eq_iff_iff];simp
 have h3:(l == [114,101,102] || S8.basic l)=decide (l∈[[114,101,102],[105,110,116],[98,111,111,108],[116,101,120,116],[117,110,105,116]]):=by
  rw [Bool.eq_iff_iff]
  simp only [S8.basic,S8.ZjN,S8.ZsY,S8.ZsX,S8.ZsW,Bool.or_eq_true,beq_iff_eq,decide_eq_true_eq,List.mem_cons,List.not_mem_nil,or_false,or_assoc]
 have h4:S8.reserved.Perm (Zhf++[[114,101,102],[105,110,116],[98,111,111,108],[116,101,120,116],[117,110,105,116]]):=by decide
 rw [h1,h2,h3,Bool.eq_iff_iff]
 simp only [Bool.or_eq_true,decide_eq_true_eq]
 rw [h4.mem_iff,List.mem_append]
theorem ZlY (s:ByteArray) (w:World):Calls prog 209 #[.string s] w fun e w'=>e=.returned (.bool (S8.reserved.contains (ls s)))∧w=w':=by
 have HM:Hid (S8.reserved.contains (ls s)=(Zhf.contains s.toList || (s.toList == [114,101,102] || S8.basic (ls s)))):=hid (by rw [Zas];exact Zq8 _)
 have B:=ZmX s w
 go_enter func209,ntmps209
 go_wp2_with (go_at_call 248;refine B.mono ?_;rintro e w' ⟨rfl,rfl⟩)
 all_goals (go_ret;exact ⟨ZbJ (by rw [HM.out];first | (simp [Zhf, *];done) | (simp_all [Zhf];done)),rfl⟩)
theorem Zji (s:ByteArray) (w:World):Calls prog 150 #[.string s] w fun e w'=>e=.returned (.bool (Zhq (ls s)))∧w=w':=by
 have R:=ZlY s w
 have HE:=hid (Zas s)
 cases hl:ls s with
 | nil=>
  have h0:(s.toList == [])=true:=by rw [Zas,hl];rfl
  have h1:s.toList.isEmpty=true:=by rw [Zas,hl];rfl
  clear hl
  go_enter func150,ntmps150
  go_wp2_with (go_at_call 209;refine R.mono ?_;rintro e w' ⟨rfl,rfl⟩)
  all_goals (go_ret;exact ⟨rfl,rfl⟩)
 | cons c r=>
  have h0:(s.toList == [])=false:=by rw [Zas,hl];rfl
  have h1:s.toList.isEmpty=false:=by rw [Zas,hl];rfl
  have hs:0 < s.size:=by rw [← ZaR,hl];simp
  have hc:s[0]=c:=by
   have:(ls s)[0]'(by rw [hl];simp)=c:=by simp [hl]
   rw [← this];rfl
  have HL:=hid hl
  have HC:=hid hc
  clear hl hc
  go_enter func150,ntmps150
  go_wp2_with (go_at_call 209;refine R.mono ?_;rintro e w' ⟨rfl,rfl⟩)
  all_goals (go_ret;refine ⟨ZbJ ?_,rfl⟩;have hC:=HC.out;unfold Zhq;(try rw [HL.out]);simp_all <;> omega)
theorem ZjP (s:ByteArray) (w:World):Calls prog 145 #[.string s] w fun e w'=>e=.returned (.bool (ZiP (ls s)))∧w=w':=by
 cases hl:ls s with
 | nil=>
  have h0:(s.toList == [])=true:=by rw [Zas,hl];rfl
  have h1:s.toList.isEmpty=true:=by rw [Zas,hl];rfl
  clear hl
  go_enter func145,ntmps145
  go_wp2
  all_goals (go_ret;exact ⟨rfl,rfl⟩)
 | cons c r=>
  have h0:(s.toList == [])=false:=by rw [Zas,hl];rfl
  have h1:s.toList.isEmpty=false:=by rw [Zas,hl];rfl
  have hs:0 < s.size:=by rw [← ZaR,hl];simp
  have hc:s[0]=c:=by
   have:(ls s)[0]'(by rw [hl];simp)=c:=by simp [hl]
   rw [← this];rfl
  have HL:=hid hl
  have HC:=hid hc
  clear hl hc
  go_enter func145,ntmps145
  go_wp2
  all_goals (go_ret;refine ⟨ZbJ ?_,rfl⟩;have hC:=HC.out;unfold ZiP;simp_all <;> omega)
theorem Zio (s:ByteArray) (w:World):Calls prog 207 #[.string s] w fun e w'=>e=.returned (.bool (S8.basic (ls s) || ZiP (ls s)))∧w=w':=by
 have B:=ZmX s w
 have U:=ZjP s w
 cases hb:S8.basic (ls s)
 all_goals
  rw [hb] at B
  clear hb
  go_enter func207,ntmps207
  go_wp2_with (first | (go_at_call 248;refine B.mono ?_;rintro e w' ⟨rfl,rfl⟩) | (go_at_call 145;refine U.mono ?_;rintro e w' ⟨rfl,rfl⟩))
  all_goals (go_ret;exact ⟨ZbJ (by simp),rfl⟩)
theorem ZnK (s:ByteArray) (w:World):Calls prog 220 #[.string s] w fun e w'=>e=.returned (.bool (ZiP (ls s) || ls s == S8.ZhX))∧w=w':=by
 have U:=ZjP s w
 cases hm:ls s == S8.ZhX
 all_goals
  have h1:=hm
  rw [show (ls s == S8.ZhX)=(s.toList == [105,110,105,116]) by rw [Zas];rfl] at h1
  clear hm
  go_enter func220,ntmps220
  go_wp2_with (go_at_call 145;refine U.mono ?_;rintro e w' ⟨rfl,rfl⟩)
  all_goals (go_ret;exact ⟨ZbJ (by simp),rfl⟩)
open Go.RowKit L7 Go.Maps
theorem klaw:Keyed prog 9:=string_keyed underlying9
theorem zero3 (w:World):(zeroValue 3).run prog w=.ok (.int .i64 0) w:=by kernel_rfl
theorem kstr (s:ByteArray) (h:s.size≤maxLen):keyOf prog 9 (.string s)=some (.string (ls s)):=Go.WideMaps.keyOf_string_mk underlying9 h
theorem kis (t:Bs):WideAt.IsKeyLit (.string t):=trivial
def puts:List (Bs × Int):=[([111,114],1),([97,110,100],2),([61,61],4),([33,61],4),([60],4),([60,61],4),([62],4),([62,61],4),([43,43],5),([43],6),([45],6),([42],7),([47],7),([37],7)]
def putAll (l:List (Bs × Int)) (D:DataW Unit):DataW Unit:=l.foldl (fun D p=>D.put (.string p.1) (.lit (.int .i64 p.2))) D
theorem Zri (t:Bs):∀(l:List (Bs × Int)) (D:DataW Unit),IsMap D→(putAll l D).atKey (.string t) (.lit (.int .i64 0))=(match l.reverse.find? (fun p=>p.1 == t) with | some p=>.lit (.int .i64 p.2) | none=>D.atKey (.string t) (.lit (.int .i64 0)))∧has (putAll l D) (.string t)=(match l.reverse.find? (fun p=>p.1 == t) with | some _=>true | none=>has D (.string t)):=by
 intro l
 induction l with
 | nil=>exact fun D _=>⟨rfl,rfl⟩
 | cons p l ih=>
  intro D hD
  have h:=ih (D.put (.string p.1) (.lit (.int .i64 p.2))) (hD.put _ _)
  have e:putAll (p::l) D=putAll l (D.put (.string p.1) (.lit (.int .i64 p.2))):=rfl
  rw [e,List.reverse_cons,List.find?_append]
  cases hf:l.reverse.find? (fun p=>p.1 == t) with
  | some q=>rw [hf] at h;exact h
  | none=>
   rw [hf] at h
   simp only [Option.none_or,List.find?_cons,List.find?_nil]
   by_cases hp:p.1=t
   ·have:(p.1 == t)=true:=by simpa using hp
    rw [this]
    simp only at h ⊢
    rw [h.1,h.2,← hp]
    exact ⟨atKey_put_same hD (kis _) _ _,has_put_same hD (kis _) _⟩
   ·have:(p.1 == t)=false:=by simpa using hp
    rw [this]
    simp only at h ⊢
    have hne:(Lit.string t)≠.string p.1:=fun e=>hp (by injection e with e;exact e.symm)
    rw [h.1,h.2]
    exact ⟨atKey_put_other hne _ _,has_put_other hne _⟩
def DL:DataW Unit:=putAll puts (.map [])
theorem Zp0 (t:Bs):(match puts.reverse.find? (fun p=>p.1 == t) with | some p=>(p.2,true) | none=>((0:Int),false))=((S8.level t:Int),decide (S8.level t≠0)):=by
 by_cases h:t∈puts.map Prod.fst
 ·simp only [puts,List.map_cons,List.map_nil,List.mem_cons,List.not_mem_nil,or_false] at h
  rcases h with rfl | rfl | rfl | rfl | rfl | rfl | rfl | rfl | rfl | rfl | rfl | rfl | rfl | rfl <;> decide
 ·have h1:puts.reverse.find? (fun p=>p.1 == t)=none:=by
   rw [List.find?_eq_none]
   intro p hp he
   exact h (List.mem_map.2 ⟨p,by simpa using hp,by simpa using he⟩)
  have h2:S8.level t=0:=by
   simp only [puts,List.map_cons,List.map_nil,List.mem_cons,List.not_mem_nil,or_false,not_or] at h
   unfold S8.level
   simp only [S8.wOr,S8.ZqC,S8.ZyO,S8.mNe,S8.mLt,S8.mLe,S8.mGt,S8.mGe,S8.ZyP,S8.Zt7,S8.Zcr,S8.Zt6,S8.Zo0,S8.ZyN,beq_iff_eq,Bool.or_eq_true,h,if_false,or_self]
  rw [h1,h2];rfl
theorem Zzd (t:Bs):DL.atKey (.string t) (.lit (.int .i64 0))=.lit (.int .i64 (S8.level t:Int))∧has DL (.string t)=decide (S8.level t≠0):=by
 have h:=Zri t puts (.map []) ⟨_,rfl⟩
 have k:=Zp0 t
 cases hf:puts.reverse.find? (fun p=>p.1 == t) with
 | some p=>
  rw [hf] at h k
  simp only [Prod.mk.injEq] at k
  exact ⟨h.1.trans (congrArg (fun z=>(DataW.lit (Lit.int .i64 z):DataW Unit)) k.1),h.2.trans k.2⟩
 | none=>
  rw [hf] at h k
  simp only [Prod.mk.injEq] at k
  refine ⟨h.1.trans ?_,h.2.trans k.2⟩
  rw [← k.1];rfl
def Says (D:DataW Unit):Prop:=∀t:Bs,D.atKey (.string t) (.lit (.int .i64 0))=.lit (.int .i64 (S8.level t:Int))∧has D (.string t)=decide (S8.level t≠0)
theorem Zxi:Says DL:=Zzd
def MapHas (w:World) (m:Nat):Prop:=∃n D,w.ownsMap prog 9 (plainElem prog 3) m n D∧Says D
theorem MapHas.lt {w:World} {m:Nat} (h:MapHas w m):m < w.heap.size:=by obtain ⟨n,D,h,-⟩:=h;exact h.lt
theorem MapHas.stay {w w':World} {m:Nat} (h:MapHas w m) (hh:w'.heap[m]?=w.heap[m]?):MapHas w' m:=by
 obtain ⟨n,D,⟨es,clock,h1,h2,h3,h4⟩,h5⟩:=h
 exact ⟨n,D,⟨es,clock,hh.trans h1,h2,h3,h4⟩,h5⟩
theorem Zo5 {w:World} {m:Nat} (h:MapHas w m) (s:ByteArray) (hs:s.size≤maxLen):(Instr.lookup 76 (.map (some m)) (.string s) false).run prog w=.ok (.int .i64 (S8.level (ls s):Int)) w:=by
 obtain ⟨n,D,h,hD⟩:=h
 have hz:(zeroValue 3).run prog w=.ok (.int .i64 0) w:=zero3 w
 have hk:=kstr s hs
 obtain ⟨c,hrun,hat,-⟩:=World.ownsMap.lookup_int h klaw (t:=76) (e:=3) underlying76 underlying3 hz hk
 rw [(hD (ls s)).1] at hat
 have e2:∀a b:Int,(DataW.lit (Lit.int .i64 a):DataW Unit)=.lit (.int .i64 b)→a=b:=fun a b h=>(Lit.int.inj (DataW.lit.inj h)).2
 rw [hrun,e2 _ _ hat]
theorem Zks {P:Program} {w:World} {ops:Array Oper} {rest:List Oper} {o:Oper} {a:Act} {Q:Exit→Act→World→Prop} {b n:Nat} {D:DataW Unit} (hown:w.ownsMap P 9 (plainElem P 3) b n D) (hg:o.guard=none) (m x v:Operand) (t:TypeId) (hop:o.op=Op.insert t m x v)
  (K:Keyed P 9) (ht:P.underlying t=some (.map 9 3)) (hm:a.eval m=.map (some b)) (hn:n < maxLen) (key:ByteArray) (hx:a.eval x=.string key) (q:Int) (hv:a.eval v=.int .i64 q) (hkey:keyOf P 9 (.string key)=some (.string (ls key)))
  (hval:plainElem P 3 (.int .i64 q)=some ((.lit (.int .i64 q):DataW Unit),[]))
  (hK:∀w',w'.ownsMap P 9 (plainElem P 3) b (n + 1) (D.put (.string (ls key)) (.lit (.int .i64 q)))→w.grownBy w' (some b)→wpList P ops Q rest (a.put o.dst undef) w'):wpList P ops Q (o::rest) a w:=by
 refine wpList_plain hg fun K' hK'=>?_
 obtain ⟨w',hrun,r1,r2⟩:=hown.store K ht hn hkey hval
 unfold Oper.wp
 simp only [execOp,hop,hm,hx,hv]
 simp [hrun,Result.andThen]
 exact hK' _ _ (hK w' r1 r2.grown)
theorem Zj6 (w:World):Calls prog 48 #[] w fun e w'=>∃m,e=.returned (.map (some m))∧MapHas w' m∧w.heap.size≤m∧Below w.heap.size w w':=by
 have hmm:=@run_makeMap prog
 have HO:Hid ((w.alloc (.map #[] 0)).ownsMap prog 9 (plainElem prog 3) w.heap.size 0 (.map []:DataW Unit)):=hid (World.ownsMap_made w prog 9 _)
 have HB:Hid (Below w.heap.size w (w.alloc (.map #[] 0))):=hid ((Below.refl _ _).alloc (Nat.le_refl _) _)
 go_enter func48,ntmps48
 go_wp2_with (refine Zks HO.out (by rfl) _ _ _ 76 (by rfl) klaw underlying76 (by rfl) (by simp only [maxLen];omega) _ (by rfl) _ (by rfl) (kstr _ (by simp only [maxLen];exact Nat.le_of_ble_eq_true (by rfl))) (plainElem_int underlying3 (by rfl)) ?_;intro w1 h1 h2;have HO:=hid h1;have HB:=hid (ZbK HB.out h2 (Nat.le_refl _) HB.out.size);clear h1 h2)
 go_ret
 exact ⟨_,rfl,⟨_,_,HO.out,Zxi⟩,Nat.le_refl _,HB.out⟩
open Go.RowKit
section
variable {P:Program} {ops:Array Oper} {rest:List Oper} {o:Oper} {a:Act} {w:World} {Q:Exit→Act→World→Prop}
theorem Zah {g:Nat} {t:TypeId} {old:Array Value} (hI:Is w g t old) (hgd:o.guard=none) (ty:TypeId) (x y:Operand) (ho:o.op=.store ty x y) (cells:Array Value) (hx:a.eval x=.pointer (some ⟨g,0,none⟩)) (hy:a.eval y=.agg cells)
  (hi:(P.info? ty).map (·.size)=some cells.size) (hold:old.size=cells.size) (h1:cells.all (·.oneCell')=true)
  (h:∀w',Is w' g t cells→w.grownBy w' (some g)→wpList P ops Q rest (a.put o.dst undef) w'):wpList P ops Q (o::rest) a w:=
 wpList_store_row hgd ty x y ho g cells hx hy t old hI hi hold h1
  (h _ (setRow_heap w g old cells t (0,0) hI) ⟨rfl,rfl,rfl,by simp,fun k _ hk=>setRow_other w g k _ (fun e=>hk (by rw [e]))⟩)
theorem Zc4 {g j:Nat} {t:TypeId} {c:Array Value} (hI:Is w g t c) (hj:j < c.size) (hgd:o.guard=none) (ty:TypeId) (x y:Operand) (ho:o.op=.store ty x y) (v:Value) (hx:a.eval x=.pointer (some ⟨g,j,none⟩)) (hy:a.eval y=v)
  (hi:(P.info? ty).map (·.size)=some 1) (h1:v.oneCell'=true)
  (h:∀w',Is w' g t (c.setIfInBounds j v)→w.grownBy w' (some g)→wpList P ops Q rest (a.put o.dst undef) w'):wpList P ops Q (o::rest) a w:=by
 refine wpList_plain hgd fun K hK=>?_
 have hc:w.cell? ⟨g,j,none⟩=some c[j]:=by rw [hI.at_ j];exact Array.getElem?_eq_getElem hj
 have hz:=hI.open_ j
 have hk:=hK _ _ (h _ (hI.put j v) (ZcJ (World.grownBy.refl w (some g)) j v))
 cases hie:P.info? ty with
 | none=>rw [hie] at hi;cases hi
 | some ie=>
  rw [hie] at hi
  have hs:ie.size=1:=by simpa using hi
  have hr:=Lib.rl_storeVar_one (P:=P) ty ie hie hs ⟨g,j,none⟩ v _ h1 w hc hz
  unfold Oper.wp execOp
  simp only [ho,hx,hy,Instr.storeAt,Instr.sureAddr,Sem.run_bind,Sem.run_pure,Result.andThen_ok,hr]
  exact hk
end
end Go.Proofs.YtaheffiglmglbaaGreatDoor
