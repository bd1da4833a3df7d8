/-
  The canonical decimal forms as lists of bytes, and what Itoa and Atoi make of them. No program is named here.
-/
import Derived.Lib.ItoaNum
import Derived.Lib.AtoiAll
namespace Go.Proofs.YtkagfhfjomhkdaaDoor
open Go

def digB (c : UInt8) : Bool := decide (48 ≤ c.toNat ∧ c.toNat ≤ 57)
def posB (l : List UInt8) : Bool := match l with
  | [] => false
  | c :: r => decide (c.toNat ≠ 48) && (c :: r).all digB
def canonB (l : List UInt8) : Bool := match l with
  | [] => false
  | c :: r => if c.toNat = 45 then posB r else if c.toNat = 48 then r.isEmpty else posB (c :: r)
/-- What a row of digits spells, behind what the digits before it spell. -/
def valN (acc : Nat) (l : List UInt8) : Nat := l.foldl (fun a c => a * 10 + (c.toNat - 48)) acc
def canV (l : List UInt8) : Int := match l with
  | [] => 0
  | c :: r => if c.toNat = 45 then -(valN 0 r : Int) else (valN 0 (c :: r) : Int)

theorem valN_snoc (acc : Nat) (l : List UInt8) (c : UInt8) : valN acc (l ++ [c]) = valN acc l * 10 + (c.toNat - 48) := by
  unfold valN
  rw [List.foldl_append, List.foldl_cons, List.foldl_nil]
theorem valN_cons (acc : Nat) (c : UInt8) (l : List UInt8) : valN acc (c :: l) = valN (acc * 10 + (c.toNat - 48)) l := by
  unfold valN
  rw [List.foldl_cons]
theorem valN_ge : ∀ (l : List UInt8) (acc : Nat), acc ≤ valN acc l
  | [], _ => Nat.le_refl _
  | c :: l, acc => by
    rw [valN_cons]
    have := valN_ge l (acc * 10 + (c.toNat - 48))
    omega
theorem valN_append (acc : Nat) (l m : List UInt8) : valN acc (l ++ m) = valN (valN acc l) m := by
  unfold valN
  rw [List.foldl_append]

theorem digB_iff (c : UInt8) : digB c = true ↔ 48 ≤ c.toNat ∧ c.toNat ≤ 57 := by
  unfold digB
  simp

/-- The digits of a number: its value, and that they are digits. -/
theorem dec_val (u : Nat) : valN 0 (Lib.decDigits u) = u ∧ (Lib.decDigits u).all digB = true := by
  induction u using Nat.strongRecOn with
  | _ u ih =>
    rw [Lib.decDigits]
    by_cases h : u < 10
    · rw [dif_pos h]
      have e : (UInt8.ofNat (48 + u)).toNat = 48 + u := by
        rw [UInt8.toNat_ofNat']
        omega
      constructor
      · simp only [valN, List.foldl_cons, List.foldl_nil, e]
        omega
      · simp only [List.all_cons, List.all_nil, Bool.and_true, digB_iff, e]
        omega
    · rw [dif_neg h]
      obtain ⟨h1, h2⟩ := ih (u / 10) (by omega)
      have e : (UInt8.ofNat (48 + u % 10)).toNat = 48 + u % 10 := by
        rw [UInt8.toNat_ofNat']
        omega
      constructor
      · rw [valN_snoc, h1, e]
        omega
      · rw [List.all_append, h2]
        simp only [List.all_cons, List.all_nil, Bool.and_true, Bool.true_and, digB_iff, e]
        omega
theorem dec_ne (u : Nat) : Lib.decDigits u ≠ [] := by
  rw [Lib.decDigits]
  by_cases h : u < 10
  · rw [dif_pos h]
    simp
  · rw [dif_neg h]
    simp
theorem dec_head (u : Nat) (h0 : 0 < u) : ∃ c r, Lib.decDigits u = c :: r ∧ c.toNat ≠ 48 := by
  induction u using Nat.strongRecOn with
  | _ u ih =>
    rw [Lib.decDigits]
    by_cases h : u < 10
    · rw [dif_pos h]
      refine ⟨_, _, rfl, ?_⟩
      rw [UInt8.toNat_ofNat']
      omega
    · rw [dif_neg h]
      obtain ⟨c, r, e, hc⟩ := ih (u / 10) (by omega) (by omega)
      rw [e]
      exact ⟨c, r ++ _, rfl, hc⟩
theorem dec_posB (u : Nat) (h0 : 0 < u) : posB (Lib.decDigits u) = true := by
  obtain ⟨c, r, e, hc⟩ := dec_head u h0
  have h2 := (dec_val u).2
  rw [e] at h2 ⊢
  unfold posB
  simp only [h2, Bool.and_true]
  simpa using hc

/-- A row of digits is its value's digits, where it doesn't begin with a zero. -/
theorem val_dec (l : List UInt8) (h : posB l = true) : Lib.decDigits (valN 0 l) = l ∧ 0 < valN 0 l := by
  have key : ∀ (n : Nat) (l : List UInt8), l.length = n → posB l = true → Lib.decDigits (valN 0 l) = l ∧ 0 < valN 0 l := by
    intro n
    induction n with
    | zero =>
      intro l hl h
      rw [List.eq_nil_of_length_eq_zero hl] at h
      cases h
    | succ n ih =>
      intro l hl h
      rcases List.eq_nil_or_concat l with rfl | ⟨m, c, rfl⟩
      · simp at hl
      · rw [List.concat_eq_append] at *
        have hm : m.length = n := by simpa using hl
        cases m with
        | nil =>
          unfold posB at h
          simp only [List.nil_append, List.all_cons, List.all_nil, Bool.and_true, Bool.and_eq_true, digB_iff, decide_eq_true_eq] at h
          obtain ⟨a, b, d⟩ := h
          have e : valN 0 ([] ++ [c]) = c.toNat - 48 := by simp [valN]
          rw [e]
          refine ⟨?_, by omega⟩
          rw [Lib.decDigits, dif_pos (by omega)]
          have e2 : UInt8.ofNat (48 + (c.toNat - 48)) = c := by
            apply UInt8.toNat_inj.1
            rw [UInt8.toNat_ofNat']
            omega
          rw [e2]
          rfl
        | cons a m =>
          unfold posB at h
          simp only [List.cons_append, Bool.and_eq_true, decide_eq_true_eq] at h
          obtain ⟨ha, hall⟩ := h
          have hall2 : (a :: m).all digB = true ∧ digB c = true := by
            rw [← List.cons_append, List.all_append] at hall
            simpa using hall
          obtain ⟨ih1, ih2⟩ := ih (a :: m) hm (by unfold posB; simp only [hall2.1, Bool.and_true]; simpa using ha)
          have hc := (digB_iff c).1 hall2.2
          rw [valN_snoc]
          generalize valN 0 (a :: m) = v at ih1 ih2
          refine ⟨?_, by omega⟩
          rw [Lib.decDigits, dif_neg (by omega)]
          have e1 : (v * 10 + (c.toNat - 48)) / 10 = v := by omega
          have e2 : (v * 10 + (c.toNat - 48)) % 10 = c.toNat - 48 := by omega
          rw [e1, e2, ih1]
          have e3 : UInt8.ofNat (48 + (c.toNat - 48)) = c := by
            apply UInt8.toNat_inj.1
            rw [UInt8.toNat_ofNat']
            omega
          rw [e3]
  exact key l.length l rfl h

theorem itoa_canon (n : Int) : canonB (Lib.itoa n) = true ∧ canV (Lib.itoa n) = n := by
  unfold Lib.itoa
  by_cases h : n < 0
  · rw [if_pos h]
    unfold canonB canV
    have e45 : (45 : UInt8).toNat = 45 := rfl
    simp only [e45, if_true]
    refine ⟨dec_posB _ (by omega), ?_⟩
    rw [(dec_val _).1]
    omega
  · rw [if_neg h]
    by_cases h0 : n = 0
    · subst h0
      have e : Lib.decDigits (Int.toNat 0) = [48] := by
        rw [Lib.decDigits, dif_pos (by decide)]
        rfl
      rw [e]
      exact ⟨rfl, rfl⟩
    · obtain ⟨c, r, e, hc⟩ := dec_head n.toNat (by omega)
      have h2 := dec_val n.toNat
      have h3 := dec_posB n.toNat (by omega)
      rw [e] at h2 h3 ⊢
      have hd : digB c = true := by
        have := h2.2
        simp only [List.all_cons, Bool.and_eq_true] at this
        exact this.1
      have hd2 := (digB_iff c).1 hd
      unfold canonB canV
      simp only
      rw [if_neg (by omega), if_neg hc, if_neg (by omega), h2.1]
      exact ⟨h3, by omega⟩

theorem canon_itoa (l : List UInt8) (h : canonB l = true) : Lib.itoa (canV l) = l := by
  cases l with
  | nil => cases h
  | cons c r =>
    unfold canonB at h
    unfold canV
    simp only at h ⊢
    by_cases h1 : c.toNat = 45
    · rw [if_pos h1] at h ⊢
      obtain ⟨e1, e2⟩ := val_dec r h
      unfold Lib.itoa
      rw [if_pos (by omega)]
      have e3 : (-(valN 0 r : Int)).natAbs = valN 0 r := by omega
      rw [e3, e1]
      have e4 : c = 45 := UInt8.toNat_inj.1 h1
      rw [e4]
    · rw [if_neg h1] at h ⊢
      unfold Lib.itoa
      rw [if_neg (by omega)]
      have e3 : ((valN 0 (c :: r) : Nat) : Int).toNat = valN 0 (c :: r) := by omega
      rw [e3]
      by_cases h2 : c.toNat = 48
      · rw [if_pos h2] at h
        have e4 : c = 48 := UInt8.toNat_inj.1 h2
        have e5 : r = [] := by simpa using h
        subst e4 e5
        have e6 : valN 0 [48] = 0 := rfl
        rw [e6, Lib.decDigits, dif_pos (by decide)]
        rfl
      · rw [if_neg h2] at h
        exact (val_dec _ h).1

theorem parse_digits : ∀ (l : List UInt8) (acc : Nat), acc < 18446744073709551616 → l.all digB = true →
    Lib.parseUint10 acc l = if valN acc l < 18446744073709551616 then .ok (valN acc l) else .range
  | [], acc, ha, _ => by
    have e : valN acc [] = acc := rfl
    rw [e, if_pos ha]
    rfl
  | c :: l, acc, ha, h => by
    simp only [List.all_cons, Bool.and_eq_true] at h
    have hc := (digB_iff c).1 h.1
    have hge := valN_ge l (acc * 10 + (c.toNat - 48))
    unfold Lib.parseUint10
    rw [if_pos hc, valN_cons]
    by_cases h1 : 1844674407370955162 ≤ acc
    · rw [if_pos h1, if_neg (by omega)]
    · rw [if_neg h1]
      by_cases h2 : 18446744073709551616 ≤ acc * 10 + (c.toNat - 48)
      · rw [if_pos h2, if_neg (by omega)]
      · rw [if_neg h2]
        exact parse_digits l _ (by omega) h.2

theorem posB_all {l : List UInt8} (h : posB l = true) : l ≠ [] ∧ l.all digB = true := by
  cases l with
  | nil => cases h
  | cons c r =>
    unfold posB at h
    simp only [Bool.and_eq_true] at h
    exact ⟨by simp, h.2⟩

theorem canon_atoi (l : List UInt8) (h : canonB l = true) :
    Lib.atoiAll l = if -9223372036854775808 ≤ canV l ∧ canV l ≤ 9223372036854775807 then .ok (canV l) else .range := by
  cases l with
  | nil => cases h
  | cons c r =>
    unfold canonB at h
    unfold canV Lib.atoiAll
    simp only at h ⊢
    by_cases h1 : c.toNat = 45
    · rw [if_pos h1] at h ⊢
      rw [if_pos (Or.inr h1)]
      obtain ⟨hn, ha⟩ := posB_all h
      unfold Lib.parseMag
      rw [if_neg hn, parse_digits r 0 (by omega) ha]
      by_cases h2 : valN 0 r < 18446744073709551616
      · rw [if_pos h2]
        simp only [h1, not_true_eq_false, false_and, if_false, true_and, if_true]
        by_cases h3 : 9223372036854775808 < valN 0 r
        · rw [if_pos h3, if_neg (by omega)]
        · rw [if_neg h3, if_pos (by omega)]
      · rw [if_neg h2, if_neg (by omega)]
    · rw [if_neg h1] at h ⊢
      have hall : (c :: r).all digB = true := by
        by_cases h2 : c.toNat = 48
        · rw [if_pos h2] at h
          have e5 : r = [] := by simpa using h
          subst e5
          simp only [List.all_cons, List.all_nil, Bool.and_true, digB_iff]
          omega
        · rw [if_neg h2] at h
          exact (posB_all h).2
      have hd : digB c = true := by
        simp only [List.all_cons, Bool.and_eq_true] at hall
        exact hall.1
      have hd2 := (digB_iff c).1 hd
      rw [if_neg (by omega)]
      unfold Lib.parseMag
      rw [if_neg (by simp), parse_digits (c :: r) 0 (by omega) hall]
      by_cases h2 : valN 0 (c :: r) < 18446744073709551616
      · rw [if_pos h2]
        simp only [h1, not_false_eq_true, true_and, if_false, false_and]
        by_cases h3 : 9223372036854775808 ≤ valN 0 (c :: r)
        · rw [if_pos h3, if_neg (by omega)]
        · rw [if_neg h3, if_pos (by omega)]
      · rw [if_neg h2, if_neg (by omega)]

/-- What Parse returns. -/
def parseF (l : List UInt8) (low high : Int) : Int × Bool := if canonB l = true ∧ low ≤ canV l ∧ canV l ≤ high then (canV l, true) else (0, false)

end Go.Proofs.YtkagfhfjomhkdaaDoor
