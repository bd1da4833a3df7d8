import Derived.Test.YtkagfhfjomhkdaaDoorProg
import Derived.WalkKit
import Derived.WalkSpells
import Derived.Below
import Derived.OwnWalk
import Derived.Deep.Draws
import Derived.Lib.Hide
import Derived.Outline
import Derived.Deep.DeepFit
import Derived.Handy
import Derived.Deep.AppendLies
import Derived.Lib.AppendStr
import Derived.Lib.BufferRead
import Derived.Deep.QuietTactic
import Derived.BigQuiet
/-
  Words for memory in this seat: a block known whole, what a call may have changed, strings as lists of bytes.
-/
namespace Go.Proofs.YtkagfhfjomhkdaaDoor
open Go.RowKit

/-- Block g is these cells of type t, none frozen. -/
def Is (w : World) (g : Nat) (t : TypeId) (c : Array Value) : Prop := w.heap[g]? = some (.cells c t (0, 0))
section
variable {w w1 w2 : World} {g : Nat} {t : TypeId} {c : Array Value}
theorem Is.lt (h : Is w g t c) : g < w.heap.size := by
  by_cases hg : g < w.heap.size
  · exact hg
  · exfalso
    unfold Is at h
    rw [Array.getElem?_eq_none (by omega)] at h
    cases h
theorem Is.at_ (h : Is w g t c) (i : Nat) : w.cell? ⟨g, i, none⟩ = c[i]? := cell_of_row w g i c t (0, 0) h
theorem Is.open_ (h : Is w g t c) (i : Nat) : w.frozen? ⟨g, i, none⟩ = false := by
  unfold Is at h
  simp [World.frozen?, h]
theorem Is.put (h : Is w g t c) (i : Nat) (u : Value) : Is (w.setCell ⟨g, i, none⟩ u) g t (c.setIfInBounds i u) := by
  unfold Is at h ⊢
  simp [World.setCell, Array.getElem?_modify, h]
theorem Is.away (h : Is w g t c) {a : Addr} (ha : g ≠ a.block) (u : Value) : Is (w.setCell a u) g t c := (Below.heap_setCell w a u g ha).trans h
theorem Is.fresh (w : World) (t : TypeId) (c : Array Value) : Is (w.alloc (.cells c t)) w.heap.size t c := heap_alloc_new w _
theorem Is.alloc (h : Is w g t c) (o : Obj) : Is (w.alloc o) g t c := (Below.heap_alloc w o g h.lt).trans h
theorem Is.below {B : Nat} (h : Is w g t c) (hb : Below B w w1) (hg : g < B) : Is w1 g t c := (hb.block g hg).trans h
theorem Is.kept {row : Option Nat} (h : Is w g t c) (hb : w.grownBy w1 row) (hg : some g ≠ row) : Is w1 g t c := (hb.block g h.lt hg).trans h
theorem Is.apart {g' : Nat} {t' : TypeId} {c' : Array Value} (h : Is w g t c) (h' : Is w g' t' c') (ht : t ≠ t') : g ≠ g' := by
  intro e
  subst e
  unfold Is at h h'
  rw [h] at h'
  simp only [Option.some.injEq, Obj.cells.injEq] at h'
  exact ht h'.2.1
theorem Is.row_apart {base : Nat} {e : TypeId} {size n : Nat} {v : Value} {xs : List Value} (h : w.ownsRow base e size v n xs) (hg : Is w g t c) (ht : e ≠ t) : some g ≠ v.ownBlock := by
  rcases h.2 with ⟨rfl, _⟩ | ⟨g', cap, cur, rfl, _, hh, _⟩
  · simp [Value.ownBlock]
  · intro he
    have hgg : g = g' := by simpa [Value.ownBlock] using he
    subst hgg
    exact Is.apart (t := e) (c := cur) (g := g) (g' := g) hh hg ht rfl

theorem grown_trans {r r' : Option Nat} (h : w.grownBy w1 r) (k : w1.grownBy w2 r') (hr : r' = r ∨ ∀ b, r' = some b → w.heap.size ≤ b) : w.grownBy w2 r :=
  ⟨k.os.trans h.os, k.tape.trans h.tape, k.output.trans h.output, Nat.le_trans h.size k.size, fun i hi hne =>
    (k.block i (Nat.lt_of_lt_of_le hi h.size) (by
      rcases hr with rfl | hr
      · exact hne
      · intro e; have := hr i e.symm; omega)).trans (h.block i hi hne)⟩
theorem grown_below {r : Option Nat} (h : w.grownBy w1 r) (k : Below w.heap.size w1 w2) : w.grownBy w2 r :=
  ⟨k.os.trans h.os, k.tape.trans h.tape, k.output.trans h.output, Nat.le_trans h.size k.size, fun i hi hne => (k.block i hi).trans (h.block i hi hne)⟩
theorem grown_of_below {r : Option Nat} (k : Below w.heap.size w w1) : w.grownBy w1 r := grown_below (World.grownBy.refl w r) k
theorem grown_set {b : Nat} (h : w.grownBy w1 (some b)) (i : Nat) (u : Value) : w.grownBy (w1.setCell ⟨b, i, none⟩ u) (some b) :=
  ⟨h.os, h.tape, h.output, by simpa [World.setCell] using h.size, fun k hk hne => (Below.heap_setCell w1 ⟨b, i, none⟩ u k (by
    intro e; apply hne; rw [e])).trans (h.block k hk hne)⟩
theorem grown_alloc {r : Option Nat} (h : w.grownBy w1 r) (o : Obj) : w.grownBy (w1.alloc o) r := grown_below h ((Below.refl _ _).alloc h.size o)
theorem grown_drew {r : Option Nat} (h : w.grownBy w1 r) (n : Nat) : w.grownBy (w1.drewN n) r := ⟨h.os, h.tape, h.output, h.size, h.block⟩
theorem below_drew {B : Nat} (h : Below B w w1) (n : Nat) : Below B w (w1.drewN n) := ⟨h.os, h.tape, h.output, h.size, h.block⟩
theorem below_grown {B b : Nat} (h : Below B w w1) (k : w1.grownBy w2 (some b)) (hb : B ≤ b) (hB : B ≤ w1.heap.size) : Below B w w2 :=
  h.grown k hB (fun j hj => by injection hj with hj; omega)
end

def mk (l : List UInt8) : ByteArray := ⟨l.toArray⟩
def ls (s : ByteArray) : List UInt8 := s.data.toList
theorem mk_ls (s : ByteArray) : mk (ls s) = s := rfl
theorem ls_mk (l : List UInt8) : ls (mk l) = l := rfl
theorem size_mk (l : List UInt8) : (mk l).size = l.length := rfl
theorem ls_length (s : ByteArray) : (ls s).length = s.size := rfl
theorem ls_inj {s t : ByteArray} (h : ls s = ls t) : s = t := by rw [← mk_ls s, h, mk_ls]
theorem extract_drop (s : ByteArray) (k : Nat) : s.extract k s.size = mk ((ls s).drop k) := by
  apply ls_inj
  show (s.extract k s.size).data.toList = (ls s).drop k
  rw [ByteArray.data_extract, Array.toList_extract]
  rw [List.extract_eq_take_drop]
  apply List.take_of_length_le
  rw [List.length_drop]
  exact Nat.le_refl _
theorem extract_take (s : ByteArray) (k : Nat) : s.extract 0 k = mk ((ls s).take k) := by
  apply ls_inj
  show (s.extract 0 k).data.toList = (ls s).take k
  rw [ByteArray.data_extract, Array.toList_extract]
  rw [List.extract_eq_take_drop]
  rfl
end Go.Proofs.YtkagfhfjomhkdaaDoor