import Derived.Test.YtaheffiglmglbaaGreatDoorKBXf
import Derived.Test.YtaheffiglmglbaaGreatDoorKBLPat
import Derived.Test.YtaheffiglmglbaaGreatDoorKBLTok
/- App. -/
set_option maxHeartbeats 8000000
set_option maxRecDepth 20000
namespace Go.Proofs.YtaheffiglmglbaaGreatDoor
open Go.Proofs.Tryz
open Go.RowKit L7
theorem sameL_map:∀(l m:List Nd),(∀x∈l,∀y,S8.strip x=S8.strip y→Ziv x y=true)→l.map S8.strip=m.map S8.strip→Ziw l m=true
 | [],[],_,_=>by rw [Ziw]
 | [],_::_,_,h=>by cases h
 | _::_,[],_,h=>by cases h
 | x::l,y::m,H,h=>by
  rw [List.map_cons,List.map_cons] at h
  injection h with h1 h2
  rw [Ziw,H x (by simp) y h1,sameL_map l m (fun z hz=>H z (by simp [hz])) h2]
  rfl
theorem sameN_strip (x:Nd):∀y:Nd,S8.strip x=S8.strip y→Ziv x y=true:=by
 induction x using S8.ZhH with
 | h k t n a c ih=>
  rintro ⟨k',t',n',a',c'⟩ h
  rw [S8.strip,S8.strip] at h
  injection h with h1 h2 h3 h4 h5
  subst h1 h2 h3
  rw [S8.Zfp,S8.Zfp] at h5
  rw [Ziv,sameL_map c c' ih h5]
  simp
def Mine (w:World) (B:Nat) (Y:Nat→Prop) (c:List Nd) (s:Value):Prop:=∃xs,w.ownsRow B 24 5 s c.length xs∧ZmZ w Y c xs
section
variable {ops:Array Oper} {rest:List Oper} {o:Oper} {a:Act} {w:World} {Q:Exit→Act→World→Prop}
theorem Mine.one {B:Nat} {Y:Nat→Prop} {c:List Nd} {s:Value} (h:Mine w B Y c s):s.oneCell'=true:=by
 obtain ⟨xs,h1,-⟩:=h
 rcases h1.2 with ⟨e,-⟩ | ⟨g,cap,cur,e,-⟩ <;> rw [e] <;> rfl
theorem Mine.kid {B:Nat} {Y Y':Nat→Prop} {c:List Nd} {s:Value} (h:Mine w B Y c s) (hY:∀g,Y g→g < w.heap.size→Y' g) (hB:∀g,B≤g→g < w.heap.size→Y' g):Kid w Y' (S8.root c) s:=by
 obtain ⟨xs,h1,h2⟩:=h
 rw [ZgA]
 change ∃A cap,s=.slice A c.length cap∧c.length≤cap∧Kids w Y' c A 0
 rcases h1.2 with ⟨e,hn⟩ | ⟨g,cap,cur,e,hbg,hh,hnc,hcm,-⟩
 ·obtain rfl:c=[]:=List.eq_nil_of_length_eq_zero hn
  exact ⟨none,0,e,Nat.le_refl _,by simp only [Kids]⟩
 ·refine ⟨_,cap,e,hnc,Zi9 (i:=0) (hB g hbg (h1.lt g (by rw [e];rfl)).2) hY h2 fun j u hu=>?_⟩
  have:=h1.cells (g:=g) (by rw [e];rfl) j u hu
  rw [show 0 * 5 + j=j by omega]
  exact this
theorem Mine.none {B:Nat} {Y:Nat→Prop} (hb:B≤w.heap.size):Mine (w.alloc (.cells #[] 24)) B Y [] (.slice (some ⟨w.heap.size,0,.none⟩) 0 0):=
 ⟨[],World.ownsRow_lit w #[] 0 hb (by decide) rfl,rfl⟩
end
end Go.Proofs.YtaheffiglmglbaaGreatDoor
