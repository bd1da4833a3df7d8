import Derived.Test.YtaheffiglmglbaaGreatDoorKRXf
import Derived.Test.YtaheffiglmglbaaGreatDoorKRLPat
import Derived.Test.YtaheffiglmglbaaGreatDoorKRLTok
/- App. -/
set_option maxHeartbeats 8000000
set_option maxRecDepth 20000
namespace Go.Proofs.YtaheffiglmglbaaGreatDoor
open Go.Proofs.Tryz
open Go.RowKit L7
theorem sameL_map:∀(l m:List Nd),(∀x∈l,∀y,S8.strip x=S8.strip y→Ziv x y=true)→l.map S8.strip=m.map S8.strip→Ziw l m=true
 | [],[],_,_=>by rw [Ziw]
 | [],_::_,_,h=>by cases h
 | _::_,[],_,h=>by cases h
 | x::l,y::m,H,h=>by
  rw [List.map_cons,List.map_cons] at h
  injection h with h1 h2
  rw [Ziw,H x (by simp) y h1,sameL_map l m (fun z hz=>H z (by simp [hz])) h2]
  rfl
theorem sameN_strip (x:Nd):∀y:Nd,S8.strip x=S8.strip y→Ziv x y=true:=by
 induction x using S8.ZhH with
 | h k t n a c ih=>
  rintro ⟨k',t',n',a',c'⟩ h
  rw [S8.strip,S8.strip] at h
  injection h with h1 h2 h3 h4 h5
  subst h1 h2 h3
  rw [S8.Zfp,S8.Zfp] at h5
  rw [Ziv,sameL_map c c' ih h5]
  simp
theorem wts_map:∀(l m:List Nd),l.map S8.strip=m.map S8.strip→wts l=wts m
 | [],[],_=>rfl
 | [],_::_,h=>by cases h
 | _::_,[],h=>by cases h
 | x::l,y::m,h=>by
  rw [List.map_cons,List.map_cons] at h
  injection h with h1 h2
  rw [Zbr,Zbr,wts_map l m h2,← S8.wts_strip x,← S8.wts_strip y,h1]
theorem kids_rowC {w:World} {Y:Nat→Prop} {A:Option Addr} : ∀{c:List Nd} {i:Nat},Kids w Y c A i→∃news,ZmZ w Y c news∧∀j u,news[j]?=some u→∃a,A=some a∧w.cell? (a.add (i * 5 + j))=some u
 | [],_,_=>⟨[],rfl,fun j u h=>by simp at h⟩
 | x::l,i,h=>by
  simp only [Kids] at h
  obtain ⟨⟨a,s,rfl,hb,hc,hk⟩,h2⟩:=h
  obtain ⟨r,h3,h4⟩:=kids_rowC h2
  refine ⟨ndc x s++r,⟨s,r,rfl,hk,h3⟩,fun j u hu=>?_⟩
  by_cases hj:j < 5
  ·rw [List.getElem?_append_left (by rw [Zh9];exact hj)] at hu
   exact ⟨a,rfl,hc j u hu⟩
  ·rw [List.getElem?_append_right (by rw [Zh9];omega),Zh9] at hu
   obtain ⟨a',e,h5⟩:=h4 (j - 5) u hu
   cases e
   exact ⟨a,rfl,by rw [show i * 5 + j=(i + 1) * 5 + (j - 5) by omega];exact h5⟩
theorem run_none {P:Program} {w:World} (base:Nat) (t ty e:TypeId) (i:TypeInfo) (size:Nat) (ht:P.underlying t=some (.slice e)) (hi:P.info? e=some i) (v:Value) (n:Nat) (xs:List Value) (hown:w.ownsRow base e size v n xs) (c:Nat) :
  (Builtin.append_ #[t,t] ty #[v,.slice none 0 c]).run P w=.ok v w:=by
 rcases hown.2 with ⟨rfl,rfl⟩ | ⟨g,cap,cur,rfl,_,_,hnc,_⟩
 ·simp [Builtin.append_,run_underlying ht,sizeOf,typeInfo,hi,Builtin.lenOf,Builtin.firstCells]
 ·simp [Builtin.append_,run_underlying ht,sizeOf,typeInfo,hi,Builtin.lenOf,Builtin.firstCells,hnc,storeCells]
def Mine (w:World) (B:Nat) (Y:Nat→Prop) (c:List Nd) (s:Value):Prop:=∃xs,w.ownsRow B 24 5 s c.length xs∧ZmZ w Y c xs
section
variable {ops:Array Oper} {rest:List Oper} {o:Oper} {a:Act} {w:World} {Q:Exit→Act→World→Prop}
theorem none_map (f:Nat→Value):Array.map f (Array.range 0)=#[]:=Array.eq_empty_of_size_eq_zero (by simp)
theorem run_build0 (w:World):(Instr.buildSlice 22 0 #[]).run prog w=.ok (.slice (some ⟨w.heap.size,0,none⟩) 0 0) (w.alloc (.cells #[] 24)):=by
 obtain ⟨i,hi,hz,hsz,hby⟩:=Zds
 simp [Instr.buildSlice,run_underlying underlying22,sizeOf,typeInfo,hi,Instr.fill,newRow,none_map]
theorem build_none (hgd:o.guard=none) (ho:o.op=.buildSlice 22 0 #[])
  (h:wpList prog ops Q rest (a.put o.dst (.slice (some ⟨w.heap.size,0,none⟩) 0 0)) (w.alloc (.cells #[] 24))):wpList prog ops Q (o::rest) a w:=by
 refine wpList_plain hgd fun K hK=>?_
 unfold Oper.wp execOp
 simp only [ho,Sem.run_bind,Sem.run_pure,List.map_toArray,List.map_nil,run_build0,Result.andThen_ok]
 exact hK _ _ h
theorem push_old {B:Nat} {Y:Nat→Prop} {c d:List Nd} {s r:Value} (hown:Mine w B Y c s) (hY:∀g,Y g→g < B) (hd:Kid w Y (S8.root d) r) (hlen:c.length + d.length≤1000000) (hb:B≤w.heap.size)
  (hgd:o.guard=none) (p q:Operand) (ho:o.op=.call { callee:=.builtin .append,args:=#[p,q],argTypes:=#[22,22] }) (hs:a.eval p=s) (hx:a.eval q=r)
  (h:∀v' w',Mine w' B Y (c++d) v'→Below B w w'→wpList prog ops Q rest (a.put o.dst v') w'):wpList prog ops Q (o::rest) a w:=by
 obtain ⟨i,hi,hz,hsz,hby⟩:=Zds
 obtain ⟨xs,h1,h2⟩:=hown
 obtain ⟨A,cap,rfl,hcap,hk⟩:=(ZgA _ _ _ _).1 hd
 change Kids w Y d A 0 at hk
 obtain ⟨news,h3,h4⟩:=kids_rowC hk
 have hl:news.length=d.length * 5:=ZhF h3
 have hx:a.eval q=.slice A d.length cap:=hx
 refine wpList_plain hgd fun K hK=>?_
 cases A with
 | none=>
  obtain rfl:d=[]:=by
   cases d with
   | nil=>rfl
   | cons x l=>simp only [Kids] at hk;obtain ⟨⟨_,_,e,-⟩,-⟩:=hk;cases e
  have hrun:=run_none (P:=prog) B 22 o.type 24 i 5 underlying22 hi s c.length xs h1 cap
  have hfin:=h s w ⟨xs,by simpa using h1,by simpa using h2⟩ (Below.refl _ _)
  rw [List.length_nil] at hx
  unfold Oper.wp execOp
  simp only [ho,resolve,invoke,builtin,Sem.run_bind,Sem.run_pure,Result.andThen_ok,List.map_toArray,List.map_cons,List.map_nil,hs,hx,hrun]
  exact hK _ _ hfin
 | some ad=>
  obtain ⟨v',w',hr,h5,h6,-,h7⟩:=run_append_own_at (P:=prog) w B 22 o.type 24 i _ 5 64 underlying22 hi hz hsz hby rfl (by decide) s c.length xs h1 ad d.length cap news hl (fun j u hu=>by
   obtain ⟨a',e,h8⟩:=h4 j u hu
   cases e
   simpa using h8) (Zea h3) (by simp only [maxLen];omega) (by omega) hb
  have hbel:Below B w w':=(Below.refl _ _).grown h6 hb (fun g hg=>(h1.lt g hg).1)
  have hfin:=h v' w' ⟨xs++news,by rw [List.length_append];exact h5,ZhG (ZbB (fun g hg _=>hg) (fun g hg _=>hbel.block g (hY g hg)) h2) (ZbB (fun g hg _=>hg) (fun g hg _=>hbel.block g (hY g hg)) h3)⟩ hbel
  unfold Oper.wp execOp
  simp only [ho,resolve,invoke,builtin,Sem.run_bind,Sem.run_pure,Result.andThen_ok,List.map_toArray,List.map_cons,List.map_nil,hs,hx,hr]
  exact hK _ _ hfin
theorem Mine.one {B:Nat} {Y:Nat→Prop} {c:List Nd} {s:Value} (h:Mine w B Y c s):s.oneCell'=true:=by
 obtain ⟨xs,h1,-⟩:=h
 rcases h1.2 with ⟨e,-⟩ | ⟨g,cap,cur,e,-⟩ <;> rw [e] <;> rfl
theorem Mine.kid {B:Nat} {Y Y':Nat→Prop} {c:List Nd} {s:Value} (h:Mine w B Y c s) (hY:∀g,Y g→g < w.heap.size→Y' g) (hB:∀g,B≤g→g < w.heap.size→Y' g):Kid w Y' (S8.root c) s:=by
 obtain ⟨xs,h1,h2⟩:=h
 rw [ZgA]
 change ∃A cap,s=.slice A c.length cap∧c.length≤cap∧Kids w Y' c A 0
 rcases h1.2 with ⟨e,hn⟩ | ⟨g,cap,cur,e,hbg,hh,hnc,hcm,-⟩
 ·obtain rfl:c=[]:=List.eq_nil_of_length_eq_zero hn
  exact ⟨none,0,e,Nat.le_refl _,by simp only [Kids]⟩
 ·refine ⟨_,cap,e,hnc,Zi9 (i:=0) (hB g hbg (h1.lt g (by rw [e];rfl)).2) hY h2 fun j u hu=>?_⟩
  have:=h1.cells (g:=g) (by rw [e];rfl) j u hu
  rw [show 0 * 5 + j=j by omega]
  exact this
theorem Mine.none {B:Nat} {Y:Nat→Prop} (hb:B≤w.heap.size):Mine (w.alloc (.cells #[] 24)) B Y [] (.slice (some ⟨w.heap.size,0,.none⟩) 0 0):=
 ⟨[],World.ownsRow_lit w #[] 0 hb (by decide) rfl,rfl⟩
end
end Go.Proofs.YtaheffiglmglbaaGreatDoor
