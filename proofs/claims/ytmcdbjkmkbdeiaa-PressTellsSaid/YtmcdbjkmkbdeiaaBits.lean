/-
  Plain facts that the two loops of Reader.Num ask: the high bytes up to an index, the number so far, shifting and or-ing a digit in.
-/
import Derived.Test.YtmcdbjkmkbdeiaaMem
namespace Go.Proofs.Ytmcdbjkmkbdeiaa
open Go.RowKit

theorem hi_at (l : List UInt8) (k : Nat) (hk : k < l.length) (h : k ≤ hi l) : (128 ≤ l[k].toNat → k + 1 ≤ hi l) ∧ (l[k].toNat < 128 → hi l = k) := by
  induction l generalizing k with
  | nil => simp at hk
  | cons b r ih =>
    by_cases hb : 128 ≤ b.toNat
    · rw [hi_up b r hb] at h ⊢
      cases k with
      | zero => simp only [List.getElem_cons_zero]; omega
      | succ k =>
        simp only [List.getElem_cons_succ]
        have := ih k (by simpa using hk) (by omega)
        omega
    · have e := hi_lo b r (by omega)
      rw [e] at h
      obtain rfl : k = 0 := by omega
      simp only [List.getElem_cons_zero]
      exact ⟨fun h1 => absurd h1 hb, fun _ => e⟩
theorem hi_le (l : List UInt8) : hi l ≤ l.length := by
  induction l with
  | nil => simp [hi]
  | cons b r ih => unfold hi; split <;> simp only [List.length_cons] <;> omega
theorem val_snoc (l : List UInt8) (k : Nat) (hk : k < l.length) : val (l.take (k + 1)) = val (l.take k) + l[k].toNat % 128 * 128 ^ k := by
  induction l generalizing k with
  | nil => simp at hk
  | cons b r ih =>
    cases k with
    | zero => simp [val]
    | succ k =>
      have hk' : k < r.length := by simpa using hk
      rw [List.take_succ_cons, List.take_succ_cons]
      simp only [val, List.getElem_cons_succ]
      rw [ih k hk', Nat.pow_succ, Nat.mul_add, ← Nat.mul_assoc]
      have : 128 * (r[k].toNat % 128) * 128 ^ k = r[k].toNat % 128 * (128 ^ k * 128) := by
        rw [Nat.mul_comm 128, Nat.mul_assoc, Nat.mul_comm 128]
      omega
theorem bv64 (a : Nat) (h : a < 9223372036854775808) : (BitVec.ofInt 64 (a : Int)).toNat = a := by
  simp only [BitVec.toNat_ofInt]
  omega
theorem or64 (a b : Nat) (ha : a < 9223372036854775808) (hb : b < 9223372036854775808) : bits .or .i64 (a : Int) (b : Int) = ((a ||| b : Nat) : Int) := by
  have hlt : a ||| b < 2 ^ 63 := Nat.or_lt_two_pow (by omega) (by omega)
  have e : bits .or .i64 (a : Int) (b : Int) = IntKind.i64.wrap ((BitVec.ofInt 64 (a : Int) ||| BitVec.ofInt 64 (b : Int)).toNat : Int) := rfl
  rw [e, BitVec.toNat_or, bv64 a ha, bv64 b hb]
  exact IntWalk.i64_in _ (by omega)
theorem pow7 (k : Nat) : (2 : Nat) ^ (7 * k) = 128 ^ k := by rw [Nat.pow_mul]
theorem pow_nine (k : Nat) (h : k ≤ 9) : 128 ^ k ≤ (9223372036854775808 : Nat) := by
  have : (128 : Nat) ^ k ≤ 128 ^ 9 := Nat.pow_le_pow_right (by omega) h
  omega
/-- One digit or-ed in. -/
theorem digit_in (s : ByteArray) (k : Nat) (hk : k < s.size) (h9 : k < 9) :
    bits .or .i64 ((val ((ls s).take k) : Nat) : Int) (wrap64 (((s[k]'hk).toNat : Int) % 128 * 2 ^ (7 * k))) = ((val ((ls s).take (k + 1)) : Nat) : Int) := by
  have h1 := val_snoc (ls s) k hk
  have h2 := val_take_lt k (ls s)
  have h3 := val_take_lt (k + 1) (ls s)
  have h4 := pow_nine k (by omega)
  have h5 := pow_nine (k + 1) (by omega)
  have e0 : (ls s)[k]'hk = s[k]'hk := rfl
  rw [e0] at h1
  have hx : (s[k]'hk).toNat % 128 * 128 ^ k < 9223372036854775808 := by omega
  have e1 : (((s[k]'hk).toNat : Int) % 128 * 2 ^ (7 * k)) = (((s[k]'hk).toNat % 128 * 128 ^ k : Nat) : Int) := by
    rw [← pow7 k]
    simp
  rw [e1, IntWalk.wrap64_in _ (by omega), or64 _ _ (by omega) hx, h1]
  have h6 : val ((ls s).take k) < 2 ^ (7 * k) := by rw [pow7]; exact h2
  have h7 := Nat.two_pow_add_eq_or_of_lt h6 ((s[k]'hk).toNat % 128)
  rw [pow7, Nat.mul_comm] at h7
  rw [Nat.or_comm, ← h7, Nat.add_comm]
end Go.Proofs.Ytmcdbjkmkbdeiaa
