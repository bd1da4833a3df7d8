/-
  The two functions Less.
-/
import Derived.Test.YtmcdbjkmkbdeiaaDoorS3Mem
import Derived.Outline
import Derived.BigQuiet
namespace Go.Proofs.YtmcdbjkmkbdeiaaDoor.S3
open Go.RowKit
/-- A byte string's cells. -/
def dig (l : List UInt8) : Array Value := (l.map fun b => Value.int .u8 (b.toNat : Nat)).toArray
theorem dig_at (l : List UInt8) (k : Nat) (h : k < l.length) : (dig l)[k]? = some (.int .u8 (l[k].toNat : Nat)) := by
  unfold dig
  simp [h]
theorem dig_size (l : List UInt8) : (dig l).size = l.length := by simp [dig]
theorem less_step (x : UInt8) (a b : List UInt8) : Op.bytesLess (x :: a) (x :: b) = Op.bytesLess a b := by
  simp [Op.bytesLess]
theorem less_at (k : Nat) (a b : List UInt8) (ha : k < a.length) (hb : k < b.length) (ht : a.take k = b.take k) (hn : a[k].toNat ≠ b[k].toNat) : Op.bytesLess a b = decide (a[k].toNat < b[k].toNat) := by
  induction k generalizing a b with
  | zero =>
    match a, b, ha, hb with
    | x :: a, y :: b, _, _ =>
      simp only [List.getElem_cons_zero] at hn ⊢
      have hne : (x == y) = false := by simp; exact fun e => hn (by rw [e])
      simp [Op.bytesLess, hne, UInt8.lt_iff_toNat_lt]
  | succ k ih =>
    match a, b, ha, hb with
    | x :: a, y :: b, ha, hb =>
      simp only [List.take_succ_cons, List.cons.injEq] at ht
      obtain ⟨rfl, ht⟩ := ht
      simp only [List.getElem_cons_succ] at hn ⊢
      rw [less_step]
      exact ih a b (by simpa using ha) (by simpa using hb) ht hn

end Go.Proofs.YtmcdbjkmkbdeiaaDoor.S3
