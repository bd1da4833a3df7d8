/-
  Plain mathematics of layer 3: hexadecimal digits of bytes, read back; the order of byte lists and of their hexadecimal forms.
-/
import GoSem.Op.String
namespace Go.Proofs.YtmcdbjkmkbdeiaaDoor.S3.Hex
open Go.Op
/-- The digit of a number below 16. -/
def hd (n : Nat) : UInt8 := if n < 10 then UInt8.ofNat (48 + n) else UInt8.ofNat (87 + n)
def hex2 (b : UInt8) : List UInt8 := [hd (b.toNat / 16), hd (b.toNat % 16)]
def hexL (l : List UInt8) : List UInt8 := l.flatMap hex2
/-- A digit's number, or 16. -/
def un (c : UInt8) : Nat := if 48 ≤ c.toNat ∧ c.toNat ≤ 57 then c.toNat - 48 else if 97 ≤ c.toNat ∧ c.toNat ≤ 102 then c.toNat - 87 else 16
/-- Pairs of digits read back. -/
def unhex : List UInt8 → Option (List UInt8)
  | [] => some []
  | a :: b :: r => if un a < 16 ∧ un b < 16 then (unhex r).map (UInt8.ofNat (16 * un a + un b) :: ·) else none
  | _ => none
theorem toNat_of (n : Nat) (h : n < 256) : (UInt8.ofNat n).toNat = n := by rw [UInt8.toNat_ofNat']; exact Nat.mod_eq_of_lt (by omega)
theorem hd_nat (n : Nat) (h : n < 16) : (hd n).toNat = if n < 10 then 48 + n else 87 + n := by
  unfold hd
  split
  · rw [toNat_of _ (by omega)]
  · rw [toNat_of _ (by omega)]
theorem un_hd (n : Nat) (h : n < 16) : un (hd n) = n := by
  unfold un
  rw [hd_nat n h]
  split <;> split <;> first | omega | (split <;> omega)
theorem hd_un (c : UInt8) (h : un c < 16) : hd (un c) = c := by
  have e : (hd (un c)).toNat = c.toNat := by
    rw [hd_nat _ h]
    unfold un at h ⊢
    split at h
    · rename_i h1
      rw [if_pos h1]
      split <;> omega
    · rename_i h1
      rw [if_neg h1]
      split at h
      · rename_i h2
        rw [if_pos h2]
        split <;> omega
      · omega
  exact UInt8.toNat_inj.1 e
theorem byte_parts (b : UInt8) : UInt8.ofNat (16 * (b.toNat / 16) + b.toNat % 16) = b := by
  rw [show 16 * (b.toNat / 16) + b.toNat % 16 = b.toNat by omega]
  exact UInt8.ofNat_toNat
theorem unhex_hexL (l : List UInt8) : unhex (hexL l) = some l := by
  induction l with
  | nil => rfl
  | cons b l ih =>
    have hb := b.toNat_lt
    show unhex (hd (b.toNat / 16) :: hd (b.toNat % 16) :: hexL l) = _
    rw [unhex, un_hd _ (by omega), un_hd _ (by omega), if_pos ⟨by omega, by omega⟩, ih, byte_parts]
    rfl
theorem hexL_unhex (s l : List UInt8) (h : unhex s = some l) : hexL l = s := by
  induction l generalizing s with
  | nil =>
    match s, h with
    | [], _ => rfl
    | [a], h => simp [unhex] at h
    | a :: b :: r, h =>
      rw [unhex] at h
      split at h
      · rcases e : unhex r with _ | q <;> rw [e] at h <;> simp at h
      · simp at h
  | cons c l ih =>
    match s, h with
    | [], h => simp [unhex] at h
    | [a], h => simp [unhex] at h
    | a :: b :: r, h =>
      rw [unhex] at h
      split at h
      · rename_i hab
        rcases e : unhex r with _ | q
        · rw [e] at h; simp at h
        · rw [e] at h
          simp only [Option.map_some, Option.some.injEq, List.cons.injEq] at h
          obtain ⟨h1, rfl⟩ := h
          have hr := ih r e
          show hd (c.toNat / 16) :: hd (c.toNat % 16) :: hexL q = _
          rw [hr, ← h1, toNat_of _ (by omega), show (16 * un a + un b) / 16 = un a by omega, show (16 * un a + un b) % 16 = un b by omega, hd_un _ hab.1, hd_un _ hab.2]
      · simp at h
theorem hexL_length (l : List UInt8) : (hexL l).length = 2 * l.length := by
  induction l with
  | nil => rfl
  | cons b l ih =>
    show (hexL l).length + 1 + 1 = _
    rw [ih, List.length_cons]
    omega
theorem hd_lt (a b : Nat) (ha : a < 16) (hb : b < 16) : (hd a < hd b) ↔ a < b := by
  rw [UInt8.lt_iff_toNat_lt, hd_nat a ha, hd_nat b hb]
  split <;> split <;> omega
theorem hd_inj (a b : Nat) (ha : a < 16) (hb : b < 16) (h : hd a = hd b) : a = b := by
  have := congrArg un h
  rwa [un_hd a ha, un_hd b hb] at this
theorem hd_beq (a b : Nat) (ha : a < 16) (hb : b < 16) : (hd a == hd b) = decide (a = b) := by
  by_cases h : a = b
  · subst h; simp
  · have : hd a ≠ hd b := fun e => h (hd_inj a b ha hb e)
    simp [h, this]
/-- The order of the hexadecimal forms is the order of the bytes. -/
theorem hex_less (a b : List UInt8) (h : a.length = b.length) : bytesLess (hexL a) (hexL b) = bytesLess a b := by
  induction a generalizing b with
  | nil =>
    obtain rfl : b = [] := List.eq_nil_of_length_eq_zero h.symm
    rfl
  | cons x a ih =>
    cases b with
    | nil => simp at h
    | cons y b =>
      have hx := x.toNat_lt
      have hy := y.toNat_lt
      have hr := ih b (by simpa using h)
      show bytesLess (hd (x.toNat / 16) :: hd (x.toNat % 16) :: hexL a) (hd (y.toNat / 16) :: hd (y.toNat % 16) :: hexL b) = _
      simp only [bytesLess]
      rw [hr, hd_beq _ _ (by omega) (by omega), hd_beq _ _ (by omega) (by omega)]
      simp only [hd_lt _ _ (show x.toNat / 16 < 16 by omega) (show y.toNat / 16 < 16 by omega), hd_lt _ _ (show x.toNat % 16 < 16 by omega) (show y.toNat % 16 < 16 by omega)]
      by_cases h1 : x.toNat = y.toNat
      · have e : x = y := UInt8.toNat_inj.1 h1
        subst e
        simp
      · have hne : ¬ x = y := fun e => h1 (by rw [e])
        have hb : (x == y) = false := by simpa using hne
        rw [hb, Bool.false_and, Bool.or_false]
        rw [Bool.eq_iff_iff]
        simp only [Bool.or_eq_true, Bool.and_eq_true, decide_eq_true_eq, UInt8.lt_iff_toNat_lt]
        constructor
        · rintro (h2 | ⟨h2, h3 | ⟨h3, h4⟩⟩) <;> omega
        · intro h2
          by_cases h3 : x.toNat / 16 < y.toNat / 16
          · exact .inl h3
          · exact .inr ⟨by omega, .inl (by omega)⟩
theorem less_irrefl (a : List UInt8) : bytesLess a a = false := by
  induction a with
  | nil => rfl
  | cons x a ih => simp [bytesLess, ih]
theorem less_trans (a b c : List UInt8) (h1 : bytesLess a b = true) (h2 : bytesLess b c = true) : bytesLess a c = true := by
  induction a generalizing b c with
  | nil => cases b with
    | nil => simp [bytesLess] at h1
    | cons y b => cases c with
      | nil => simp [bytesLess] at h2
      | cons z c => rfl
  | cons x a ih => cases b with
    | nil => simp [bytesLess] at h1
    | cons y b => cases c with
      | nil => simp [bytesLess] at h2
      | cons z c =>
        simp only [bytesLess, Bool.or_eq_true, decide_eq_true_eq, Bool.and_eq_true, beq_iff_eq, UInt8.lt_iff_toNat_lt] at h1 h2 ⊢
        rcases h1 with h1 | ⟨rfl, h1⟩
        · rcases h2 with h2 | ⟨rfl, h2⟩
          · left; omega
          · left; exact h1
        · rcases h2 with h2 | ⟨rfl, h2⟩
          · left; exact h2
          · right; exact ⟨rfl, ih b c h1 h2⟩
theorem less_total (a b : List UInt8) (h : a.length = b.length) (h1 : bytesLess a b = false) (h2 : bytesLess b a = false) : a = b := by
  induction a generalizing b with
  | nil => exact (List.eq_nil_of_length_eq_zero h.symm).symm
  | cons x a ih =>
    cases b with
    | nil => simp at h
    | cons y b =>
      simp only [bytesLess, Bool.or_eq_false_iff, decide_eq_false_iff_not, UInt8.lt_iff_toNat_lt] at h1 h2
      have e : x = y := UInt8.toNat_inj.1 (by omega)
      subst e
      have r1 : bytesLess a b = false := by simpa using h1.2
      have r2 : bytesLess b a = false := by simpa using h2.2
      rw [ih b (by simpa using h) r1 r2]
end Go.Proofs.YtmcdbjkmkbdeiaaDoor.S3.Hex
