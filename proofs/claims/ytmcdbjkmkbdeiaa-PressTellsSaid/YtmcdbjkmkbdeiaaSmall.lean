/-
  The example that each law runs first: it returns true.
-/
import Derived.Test.YtmcdbjkmkbdeiaaPress
namespace Go.Proofs.Ytmcdbjkmkbdeiaa
open Go.RowKit
def vs (n : Nat) : List UInt8 := if n < 128 then [UInt8.ofNat n] else vint n
theorem vs_eq (n : Nat) : vs n = vint n := by
  unfold vs
  split <;> rename_i h
  · exact (vint_small n h).symm
  · rfl
def litF (s : List UInt8) : List UInt8 := if s = [] then [] else vs (2 * s.length) ++ s
def goF : Nat → List UInt8 → Nat → Nat → List UInt8
  | 0, _, _, _ => []
  | n + 1, l, f, i =>
    if i < l.length then
      if (longestE l i).1 < 4 then goF n l f (i + 1)
      else litF ((l.take i).drop f) ++ (vs (2 * (longestE l i).1 + 1) ++ (vs (longestE l i).2 ++ goF n l (i + (longestE l i).1) (i + (longestE l i).1)))
    else litF (l.drop f)
theorem goF_eq (n : Nat) (l : List UInt8) (f i : Nat) (h : l.length - i < n) : goF n l f i = go l f i := by
  induction n generalizing f i with
  | zero => omega
  | succ n ih =>
    have e : ∀ s, litF s = lit s := fun s => by unfold litF lit; rw [vs_eq]
    unfold goF
    by_cases hlt : i < l.length
    · by_cases hk : (longestE l i).1 < 4
      · rw [if_pos hlt, if_pos hk, go_lit l f i hlt hk, ih f (i + 1) (by omega)]
      · rw [if_pos hlt, if_neg hk, go_match l f i hlt hk, ih _ _ (by omega), e, vs_eq, vs_eq]
    · rw [if_neg hlt, go_end l f i hlt, e]
theorem pack_F (l : List UInt8) (h : l.length ≤ 16777216) : packE l = vs l.length ++ goF (l.length + 1) l 0 0 := by
  rw [pack_in l h, vs_eq, goF_eq _ _ _ _ (by omega)]
def unpF : Nat → Nat → List UInt8 → St → Option (List UInt8 × St)
  | 0, _, _, _ => none
  | m + 1, n, out, st =>
    if out.length < n then
      if (rNum st).1 / 2 < 1 ∨ n - out.length < (rNum st).1 / 2 then none
      else if (rNum st).1 % 2 = 0 then
        if (rTake ((rNum st).1 / 2 : Nat) (rNum st).2).1.length ≠ (rNum st).1 / 2 then none
        else unpF m n (out ++ (rTake ((rNum st).1 / 2 : Nat) (rNum st).2).1) (rTake ((rNum st).1 / 2 : Nat) (rNum st).2).2
      else if (rNum (rNum st).2).1 < 1 ∨ out.length < (rNum (rNum st).2).1 then none
      else unpF m n (copy out (rNum (rNum st).2).1 ((rNum st).1 / 2)) (rNum (rNum st).2).2
    else some (out, st)
theorem unpF_eq (m n : Nat) (out : List UInt8) (st : St) (h : n - out.length < m) : unpF m n out st = unp n out st := by
  induction m generalizing out st with
  | zero => omega
  | succ m ih =>
    rw [unp]
    unfold unpF
    by_cases h0 : out.length < n
    · rw [if_pos h0, if_pos h0]
      by_cases h1 : (rNum st).1 / 2 < 1 ∨ n - out.length < (rNum st).1 / 2
      · rw [if_pos h1, if_pos h1]
      · rw [if_neg h1, if_neg h1]
        by_cases h2 : (rNum st).1 % 2 = 0
        · rw [if_pos h2, if_pos h2]
          by_cases h3 : (rTake ((rNum st).1 / 2 : Nat) (rNum st).2).1.length ≠ (rNum st).1 / 2
          · rw [if_pos h3, if_pos h3]
          · rw [if_neg h3, if_neg h3]
            exact ih _ _ (by rw [List.length_append]; omega)
        · rw [if_neg h2, if_neg h2]
          by_cases h3 : (rNum (rNum st).2).1 < 1 ∨ out.length < (rNum (rNum st).2).1
          · rw [if_pos h3, if_pos h3]
          · rw [if_neg h3, if_neg h3]
            exact ih _ _ (by rw [copy_length]; omega)
    · rw [if_neg h0, if_neg h0]
theorem unpack_F (l : List UInt8) (n : Nat) (st : St) (h : rNum (some l) = (n, st)) (hn : n ≤ 16777216) (R : Option (List UInt8)) (hR : endE (unpF (n + 1) n [] st) = R) : unpackE l = R := by
  unfold unpackE
  rw [h]
  simp only
  rw [if_neg (by omega), ← unpF_eq (n + 1) n [] st (by simp only [List.length_nil]; omega), hR]
theorem ex1 : packE [97, 97, 97, 97, 97, 97] = [6, 2, 97, 11, 1] := by rw [pack_F _ (by decide)]; decide +kernel
theorem ex2 : packE [97, 98, 99, 100, 101, 97, 98, 99, 100, 101, 102] = [11, 10, 97, 98, 99, 100, 101, 11, 5, 2, 102] := by rw [pack_F _ (by decide)]; decide +kernel
theorem ex3 : packE [] = [0] := by rw [pack_F _ (by decide)]; decide +kernel
theorem ex4 : unpackE [6, 2, 97, 11, 1] = some [97, 97, 97, 97, 97, 97] := by rw [← ex1]; exact unpack_back _ (by decide)
theorem ex5 : unpackE [11, 10, 97, 98, 99, 100, 101, 11, 5, 2, 102] = some [97, 98, 99, 100, 101, 97, 98, 99, 100, 101, 102] := by rw [← ex2]; exact unpack_back _ (by decide)
theorem ex6 : unpackE [3, 2, 120, 5, 1] = some [120, 120, 120] := unpack_F _ 3 (some [2, 120, 5, 1]) (by decide +kernel) (by decide) _ (by decide +kernel)
theorem ex7 : unpackE [3, 2, 120, 5, 2] = none := unpack_F _ 3 (some [2, 120, 5, 2]) (by decide +kernel) (by decide) _ (by decide +kernel)
theorem ex8 : unpackE [2, 2, 120, 5, 1] = none := unpack_F _ 2 (some [2, 120, 5, 1]) (by decide +kernel) (by decide) _ (by decide +kernel)
theorem ex9 : unpackE [1, 2, 120, 120] = none := unpack_F _ 1 (some [2, 120, 120]) (by decide +kernel) (by decide) _ (by decide +kernel)
theorem ex0 : unpackE [] = none := unpack_F _ 0 none (by decide +kernel) (by decide) _ (by decide +kernel)
theorem pk (l m : List UInt8) (h : packE l = m) (hl : l.length ≤ 16777216) (w : World) : Calls Try.prog 12 #[.string (mk l)] w fun e w' => e = .returned (.string (mk m)) ∧ Below w.heap.size w w' := by
  rw [← h]; exact pack_any l w hl
theorem uk (l m : List UInt8) (h : unpackE l = some m) (hl : l.length ≤ 1000000000) (w : World) : Calls Try.prog 10 #[.string (mk l)] w fun e w' => e = .returned (.tuple #[.string (mk m), .bool true]) ∧ Below w.heap.size w w' := by
  have := unpack_any l w hl
  rw [h] at this; exact this
theorem un (l : List UInt8) (h : unpackE l = none) (hl : l.length ≤ 1000000000) (w : World) : Calls Try.prog 10 #[.string (mk l)] w fun e w' => e = .returned (.tuple #[.string ⟨#[]⟩, .bool false]) ∧ Below w.heap.size w w' := by
  have := unpack_any l w hl
  rw [h] at this; exact this
set_option maxRecDepth 40000 in
set_option maxHeartbeats 1000000 in
theorem small_any (w : World) : Calls Try.prog 7 #[] w fun e w' => e = .returned (.bool true) ∧ Below w.heap.size w w' := by
  have P1 : Hid (∀ w, Calls Try.prog 12 #[.string ⟨#[97, 97, 97, 97, 97, 97]⟩] w fun e w' => e = .returned (.string ⟨#[6, 2, 97, 11, 1]⟩) ∧ Below w.heap.size w w') := Lib.hid (pk _ _ ex1 (by decide))
  have P2 : Hid (∀ w, Calls Try.prog 12 #[.string ⟨#[97, 98, 99, 100, 101, 97, 98, 99, 100, 101, 102]⟩] w fun e w' => e = .returned (.string ⟨#[11, 10, 97, 98, 99, 100, 101, 11, 5, 2, 102]⟩) ∧ Below w.heap.size w w') := Lib.hid (pk _ _ ex2 (by decide))
  have P3 : Hid (∀ w, Calls Try.prog 12 #[.string ⟨#[]⟩] w fun e w' => e = .returned (.string ⟨#[0]⟩) ∧ Below w.heap.size w w') := Lib.hid (pk _ _ ex3 (by decide))
  have U1 : Hid (∀ w, Calls Try.prog 10 #[.string ⟨#[6, 2, 97, 11, 1]⟩] w fun e w' => e = .returned (.tuple #[.string ⟨#[97, 97, 97, 97, 97, 97]⟩, .bool true]) ∧ Below w.heap.size w w') := Lib.hid (uk _ _ ex4 (by decide))
  have U2 : Hid (∀ w, Calls Try.prog 10 #[.string ⟨#[11, 10, 97, 98, 99, 100, 101, 11, 5, 2, 102]⟩] w fun e w' => e = .returned (.tuple #[.string ⟨#[97, 98, 99, 100, 101, 97, 98, 99, 100, 101, 102]⟩, .bool true]) ∧ Below w.heap.size w w') := Lib.hid (uk _ _ ex5 (by decide))
  have U3 : Hid (∀ w, Calls Try.prog 10 #[.string ⟨#[3, 2, 120, 5, 1]⟩] w fun e w' => e = .returned (.tuple #[.string ⟨#[120, 120, 120]⟩, .bool true]) ∧ Below w.heap.size w w') := Lib.hid (uk _ _ ex6 (by decide))
  have N1 : Hid (∀ w, Calls Try.prog 10 #[.string ⟨#[3, 2, 120, 5, 2]⟩] w fun e w' => e = .returned (.tuple #[.string ⟨#[]⟩, .bool false]) ∧ Below w.heap.size w w') := Lib.hid (un _ ex7 (by decide))
  have N2 : Hid (∀ w, Calls Try.prog 10 #[.string ⟨#[2, 2, 120, 5, 1]⟩] w fun e w' => e = .returned (.tuple #[.string ⟨#[]⟩, .bool false]) ∧ Below w.heap.size w w') := Lib.hid (un _ ex8 (by decide))
  have N3 : Hid (∀ w, Calls Try.prog 10 #[.string ⟨#[1, 2, 120, 120]⟩] w fun e w' => e = .returned (.tuple #[.string ⟨#[]⟩, .bool false]) ∧ Below w.heap.size w w') := Lib.hid (un _ ex9 (by decide))
  have N4 : Hid (∀ w, Calls Try.prog 10 #[.string ⟨#[]⟩] w fun e w' => e = .returned (.tuple #[.string ⟨#[]⟩, .bool false]) ∧ Below w.heap.size w w') := Lib.hid (un _ ex0 (by decide))
  have B0 := Lib.hid (Below.refl w.heap.size w)
  go_enter Try.func7, Try.ntmps7
  go_wp2_with (fail)
  refine (P1.out _).mono ?_
  rintro e w1 ⟨rfl, h1⟩
  have B1 := Lib.hid (bw B0.out h1 B0.out.size)
  clear h1
  go_wp2_with (fail)
  refine (U1.out _).mono ?_
  rintro e w2 ⟨rfl, h1⟩
  have B2 := Lib.hid (bw B1.out h1 B1.out.size)
  clear h1
  go_wp2_with (fail)
  refine (P2.out _).mono ?_
  rintro e w3 ⟨rfl, h1⟩
  have B3 := Lib.hid (bw B2.out h1 B2.out.size)
  clear h1
  go_wp2_with (fail)
  refine (U2.out _).mono ?_
  rintro e w4 ⟨rfl, h1⟩
  have B4 := Lib.hid (bw B3.out h1 B3.out.size)
  clear h1
  go_wp2_with (fail)
  refine (U3.out _).mono ?_
  rintro e w5 ⟨rfl, h1⟩
  have B5 := Lib.hid (bw B4.out h1 B4.out.size)
  clear h1
  go_wp2_with (fail)
  refine (N1.out _).mono ?_
  rintro e w6 ⟨rfl, h1⟩
  have B6 := Lib.hid (bw B5.out h1 B5.out.size)
  clear h1
  go_wp2_with (fail)
  refine (N2.out _).mono ?_
  rintro e w7 ⟨rfl, h1⟩
  have B7 := Lib.hid (bw B6.out h1 B6.out.size)
  clear h1
  go_wp2_with (fail)
  refine (N3.out _).mono ?_
  rintro e w8 ⟨rfl, h1⟩
  have B8 := Lib.hid (bw B7.out h1 B7.out.size)
  clear h1
  go_wp2_with (fail)
  refine (N4.out _).mono ?_
  rintro e w9 ⟨rfl, h1⟩
  have B9 := Lib.hid (bw B8.out h1 B8.out.size)
  clear h1
  go_wp2_with (fail)
  refine (P3.out _).mono ?_
  rintro e w10 ⟨rfl, h1⟩
  have B10 := Lib.hid (bw B9.out h1 B9.out.size)
  clear h1
  go_wp2
  go_ret
  exact ⟨rfl, B10.out⟩
end Go.Proofs.Ytmcdbjkmkbdeiaa
