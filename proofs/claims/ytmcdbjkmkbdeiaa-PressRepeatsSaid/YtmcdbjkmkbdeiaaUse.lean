/-
  What the texts of this stage use of layer 2: opening a reader, the end of the input, worlds joined.
-/
import Derived.Test.YtmcdbjkmkbdeiaaWrite
import Derived.Deep.QuietTactic
import Derived.BigQuiet
namespace Go.Proofs.Ytmcdbjkmkbdeiaa
open Go.RowKit
theorem mkl (l : List UInt8) : (mk l).toList = l := by rw [ByteArray.toList_eq]; rfl
theorem mk_beq (a b : List UInt8) : ((mk a).toList == (mk b).toList) = decide (a = b) := by
  rw [mkl, mkl]
  by_cases h : a = b
  · subst h; simp
  · simp [h]

def doneB : St → Bool
  | none => false
  | some l => l.isEmpty
theorem cdone_any (b : Nat) (st : St) (w : World) (h : Rd w b 58 st) : Calls Try.prog 18 #[.pointer (some ⟨b, 0, none⟩)] w fun e w' => e = .returned (.bool (doneB st)) ∧ w = w' := by
  cases st with
  | none => exact done_true b _ w h
  | some l =>
    have := done_false b _ w h
    rw [mkl] at this
    exact this
theorem open_any (l : List UInt8) (w : World) : Calls Try.prog 15 #[.string (mk l)] w fun e w' => ∃ b, e = .returned (.pointer (some ⟨b, 0, none⟩)) ∧ w.heap.size ≤ b ∧ Rd w' b 58 (some l) ∧ Below w.heap.size w w' := by
  go_enter Try.func15, Try.ntmps15
  go_wp2
  go_ret
  exact ⟨_, rfl, Nat.le_refl _, Is.fresh w 58 _, (Below.refl _ _).alloc (Nat.le_refl _) _⟩
theorem bw {B : Nat} {w w1 w2 : World} (h : Below B w w1) (k : Below w1.heap.size w1 w2) (hB : B ≤ w1.heap.size) : Below B w w2 := h.trans (k.mono hB)
theorem bwa {B : Nat} {w w1 w2 : World} (h : Below B w w1) (hB : B ≤ w1.heap.size) (o : Obj) (k : Below (w1.alloc o).heap.size (w1.alloc o) w2) : Below B w w2 := by
  have h1 := h.alloc hB o
  exact bw h1 k (by simp; omega)
end Go.Proofs.Ytmcdbjkmkbdeiaa
