/-
  The contract of NumDivides: whatever the two integers, the call returns true.
-/
import Derived.Test.YteibjolnnonmnaaDoorSmall
import Derived.Test.YteibjolnnonmnaaDoorLaws
import Derived.Lib.Hide
namespace Go.Proofs.YteibjolnnonmnaaDoor
open Go.RowKit

theorem div_as {a b x : Int} {k : Bool} (h : Hid (divF a b = (x, k))) (W : World) : Calls Tryd.prog 15 #[.int .i64 a, .int .i64 b] W fun e w' => e = .returned (.tuple #[.int .i64 x, .bool k]) ∧ W = w' := by
  have := div_any a b W
  rw [h.out] at this
  exact this
theorem mod_as {a b x : Int} {k : Bool} (h : Hid (modF a b = (x, k))) (W : World) : Calls Tryd.prog 17 #[.int .i64 a, .int .i64 b] W fun e w' => e = .returned (.tuple #[.int .i64 x, .bool k]) ∧ W = w' := by
  have := mod_any a b W
  rw [h.out] at this
  exact this
theorem div_facts (a b : Int) (h : InR a ∧ InR b ∧ b ≠ 0) : mulF b (a.tdiv b) = (b * a.tdiv b, true) ∧ addF (b * a.tdiv b) (a.tmod b) = (a, true) ∧ -9007199254740992 ≤ a.tmod b ∧ a.tmod b ≤ 9007199254740992 ∧
    (a.tmod b).natAbs < b.natAbs ∧ (0 ≤ a → 0 ≤ a.tmod b) ∧ (a ≤ 0 → a.tmod b ≤ 0) := by
  obtain ⟨ha, hb, h0⟩ := h
  have e := Int.mul_tdiv_add_tmod a b
  have l1 := tdiv_abs a b
  have l2 := tmod_abs a b
  have l3 : (a.tmod b).natAbs < b.natAbs := by
    rw [Int.natAbs_tmod]
    exact Nat.mod_lt _ (by omega)
  have s1 : 0 ≤ a → 0 ≤ a.tmod b := fun h => Int.tmod_nonneg b h
  have s2 : a ≤ 0 → a.tmod b ≤ 0 := fun h => by
    have := Int.tmod_nonneg b (a := -a) (by omega)
    rw [Int.neg_tmod] at this
    omega
  obtain ⟨a1, a2⟩ := ha
  have hp : InR (b * a.tdiv b) := by
    by_cases hn : 0 ≤ a
    · have := s1 hn
      exact ⟨by omega, by omega⟩
    · have := s2 (by omega)
      exact ⟨by omega, by omega⟩
  refine ⟨?_, ?_, by omega, by omega, l3, s1, s2⟩
  · unfold mulF
    rw [if_pos ⟨hb, ⟨by omega, by omega⟩, hp⟩]
  · unfold addF
    rw [e, if_pos ⟨hp, ⟨by omega, by omega⟩, ⟨a1, a2⟩⟩]
set_option maxHeartbeats 400000 in
theorem divides_a1 (a b : Int) (w : World) (hw : Lies w) (h1 : a < -9007199254740992) (H1 : Hid (divF a b = (0, false))) (H2 : Hid (modF a b = (0, false))) : Calls Tryd.prog 5 #[.int .i64 a, .int .i64 b] w fun e w' => e = .returned (.bool true) ∧ Below w.heap.size w w' := by
  go_enter Tryd.func5, Tryd.ntmps5
  go_wp2_with fail
  refine (small_any _ hw).mono ?_
  rintro e0 w1 ⟨rfl, hbel⟩
  go_wp2_with fail
  refine (div_as H1 _).mono ?_
  rintro e0 w0 ⟨rfl, rfl⟩
  go_wp2_with fail
  refine (mod_as H2 _).mono ?_
  rintro e0 w0 ⟨rfl, rfl⟩
  go_wp2_with fail
  go_ret
  exact ⟨rfl, hbel⟩
set_option maxHeartbeats 400000 in
theorem divides_a2 (a b : Int) (w : World) (hw : Lies w) (h0 : -9007199254740992 ≤ a) (h1 : 9007199254740992 < a) (H1 : Hid (divF a b = (0, false))) (H2 : Hid (modF a b = (0, false))) : Calls Tryd.prog 5 #[.int .i64 a, .int .i64 b] w fun e w' => e = .returned (.bool true) ∧ Below w.heap.size w w' := by
  have hd : decide (a ≤ 9007199254740992) = false := decide_eq_false (by omega)
  go_enter Tryd.func5, Tryd.ntmps5
  go_wp2_with fail
  refine (small_any _ hw).mono ?_
  rintro e0 w1 ⟨rfl, hbel⟩
  go_wp2_with fail
  refine (div_as H1 _).mono ?_
  rintro e0 w0 ⟨rfl, rfl⟩
  go_wp2_with fail
  refine (mod_as H2 _).mono ?_
  rintro e0 w0 ⟨rfl, rfl⟩
  go_wp2_with fail
  go_ret
  exact ⟨rfl, hbel⟩
set_option maxHeartbeats 400000 in
theorem divides_b1 (a b : Int) (w : World) (hw : Lies w) (g1 : -9007199254740992 ≤ a) (g2 : a ≤ 9007199254740992) (h1 : b < -9007199254740992) (H1 : Hid (divF a b = (0, false))) (H2 : Hid (modF a b = (0, false))) : Calls Tryd.prog 5 #[.int .i64 a, .int .i64 b] w fun e w' => e = .returned (.bool true) ∧ Below w.heap.size w w' := by
  go_enter Tryd.func5, Tryd.ntmps5
  go_wp2_with fail
  refine (small_any _ hw).mono ?_
  rintro e0 w1 ⟨rfl, hbel⟩
  go_wp2_with fail
  refine (div_as H1 _).mono ?_
  rintro e0 w0 ⟨rfl, rfl⟩
  go_wp2_with fail
  refine (mod_as H2 _).mono ?_
  rintro e0 w0 ⟨rfl, rfl⟩
  go_wp2_with fail
  go_ret
  exact ⟨rfl, hbel⟩
set_option maxHeartbeats 400000 in
theorem divides_b2 (a b : Int) (w : World) (hw : Lies w) (g1 : -9007199254740992 ≤ a) (g2 : a ≤ 9007199254740992) (h0 : -9007199254740992 ≤ b) (h1 : 9007199254740992 < b) (H1 : Hid (divF a b = (0, false))) (H2 : Hid (modF a b = (0, false))) : Calls Tryd.prog 5 #[.int .i64 a, .int .i64 b] w fun e w' => e = .returned (.bool true) ∧ Below w.heap.size w w' := by
  have hd : decide (b ≤ 9007199254740992) = false := decide_eq_false (by omega)
  go_enter Tryd.func5, Tryd.ntmps5
  go_wp2_with fail
  refine (small_any _ hw).mono ?_
  rintro e0 w1 ⟨rfl, hbel⟩
  go_wp2_with fail
  refine (div_as H1 _).mono ?_
  rintro e0 w0 ⟨rfl, rfl⟩
  go_wp2_with fail
  refine (mod_as H2 _).mono ?_
  rintro e0 w0 ⟨rfl, rfl⟩
  go_wp2_with fail
  go_ret
  exact ⟨rfl, hbel⟩
set_option maxHeartbeats 400000 in
theorem divides_b0 (a : Int) (w : World) (hw : Lies w) (g1 : -9007199254740992 ≤ a) (g2 : a ≤ 9007199254740992) (H1 : Hid (divF a 0 = (0, false))) (H2 : Hid (modF a 0 = (0, false))) : Calls Tryd.prog 5 #[.int .i64 a, .int .i64 0] w fun e w' => e = .returned (.bool true) ∧ Below w.heap.size w w' := by
  go_enter Tryd.func5, Tryd.ntmps5
  go_wp2_with fail
  refine (small_any _ hw).mono ?_
  rintro e0 w1 ⟨rfl, hbel⟩
  go_wp2_with fail
  refine (div_as H1 _).mono ?_
  rintro e0 w0 ⟨rfl, rfl⟩
  go_wp2_with fail
  refine (mod_as H2 _).mono ?_
  rintro e0 w0 ⟨rfl, rfl⟩
  go_wp2_with fail
  go_ret
  exact ⟨rfl, hbel⟩
set_option maxHeartbeats 800000 in
theorem divides_in_nn (a b q p : Int) (r : Int) (w : World) (hw : Lies w) (g1 : -9007199254740992 ≤ a) (g2 : a ≤ 9007199254740992) (hb1 : 1 ≤ b) (hb2 : b ≤ 9007199254740992) (hr : 1 ≤ r) (ha : a < 0) (hr2 : r ≤ 9007199254740992) (hl : r < b) (H1 : Hid (divF a (-b) = (q, true))) (H2 : Hid (modF a (-b) = ((-r), true))) (H3 : Hid (mulF (-b) q = (p, true))) (H4 : Hid (addF p (-r) = (a, true))) : Calls Tryd.prog 5 #[.int .i64 a, .int .i64 (-b)] w fun e w' => e = .returned (.bool true) ∧ Below w.heap.size w w' := by
  have hne : ((-b) != 0) = true := by rw [bne_iff_ne]; omega
  have hs1 : ((-r) == 0) = false := by rw [beq_eq_false_iff_ne]; omega
  have hs2 : decide (0 < r) = true := decide_eq_true (by omega)
  have hs3 : decide (a < 0) = true := decide_eq_true (by omega)
  have gb : -b ≤ 9007199254740992 := by omega
  go_enter Tryd.func5, Tryd.ntmps5
  go_wp2_with fail
  refine (small_any _ hw).mono ?_
  rintro e0 w1 ⟨rfl, hbel⟩
  go_wp2_with fail
  refine (div_as H1 _).mono ?_
  rintro e0 w0 ⟨rfl, rfl⟩
  go_wp2_with fail
  refine (mod_as H2 _).mono ?_
  rintro e0 w0 ⟨rfl, rfl⟩
  go_wp2_with fail
  refine (mul_as H3 _).mono ?_
  rintro e0 w0 ⟨rfl, rfl⟩
  go_wp2_with fail
  refine (add_as H4 _).mono ?_
  rintro e0 w0 ⟨rfl, rfl⟩
  go_wp2_with fail
  go_ret
  exact ⟨rfl, hbel⟩
set_option maxHeartbeats 800000 in
theorem divides_in_np (a b q p : Int) (r : Int) (w : World) (hw : Lies w) (g1 : -9007199254740992 ≤ a) (g2 : a ≤ 9007199254740992) (hb1 : 1 ≤ b) (hb2 : b ≤ 9007199254740992) (hr : 1 ≤ r) (ha : a < 0) (hr2 : r ≤ 9007199254740992) (hl : r < b) (H1 : Hid (divF a b = (q, true))) (H2 : Hid (modF a b = ((-r), true))) (H3 : Hid (mulF b q = (p, true))) (H4 : Hid (addF p (-r) = (a, true))) : Calls Tryd.prog 5 #[.int .i64 a, .int .i64 b] w fun e w' => e = .returned (.bool true) ∧ Below w.heap.size w w' := by
  have hne : (b != 0) = true := by rw [bne_iff_ne]; omega
  have hs1 : ((-r) == 0) = false := by rw [beq_eq_false_iff_ne]; omega
  have hs2 : decide (0 < r) = true := decide_eq_true (by omega)
  have hs3 : decide (a < 0) = true := decide_eq_true (by omega)
  go_enter Tryd.func5, Tryd.ntmps5
  go_wp2_with fail
  refine (small_any _ hw).mono ?_
  rintro e0 w1 ⟨rfl, hbel⟩
  go_wp2_with fail
  refine (div_as H1 _).mono ?_
  rintro e0 w0 ⟨rfl, rfl⟩
  go_wp2_with fail
  refine (mod_as H2 _).mono ?_
  rintro e0 w0 ⟨rfl, rfl⟩
  go_wp2_with fail
  refine (mul_as H3 _).mono ?_
  rintro e0 w0 ⟨rfl, rfl⟩
  go_wp2_with fail
  refine (add_as H4 _).mono ?_
  rintro e0 w0 ⟨rfl, rfl⟩
  go_wp2_with fail
  go_ret
  exact ⟨rfl, hbel⟩
set_option maxHeartbeats 800000 in
theorem divides_in_zn (a b q p : Int) (w : World) (hw : Lies w) (g1 : -9007199254740992 ≤ a) (g2 : a ≤ 9007199254740992) (hb1 : 1 ≤ b) (hb2 : b ≤ 9007199254740992)   (H1 : Hid (divF a (-b) = (q, true))) (H2 : Hid (modF a (-b) = (0, true))) (H3 : Hid (mulF (-b) q = (p, true))) (H4 : Hid (addF p 0 = (a, true))) : Calls Tryd.prog 5 #[.int .i64 a, .int .i64 (-b)] w fun e w' => e = .returned (.bool true) ∧ Below w.heap.size w w' := by
  have hne : ((-b) != 0) = true := by rw [bne_iff_ne]; omega
  have gb : -b ≤ 9007199254740992 := by omega
  go_enter Tryd.func5, Tryd.ntmps5
  go_wp2_with fail
  refine (small_any _ hw).mono ?_
  rintro e0 w1 ⟨rfl, hbel⟩
  go_wp2_with fail
  refine (div_as H1 _).mono ?_
  rintro e0 w0 ⟨rfl, rfl⟩
  go_wp2_with fail
  refine (mod_as H2 _).mono ?_
  rintro e0 w0 ⟨rfl, rfl⟩
  go_wp2_with fail
  refine (mul_as H3 _).mono ?_
  rintro e0 w0 ⟨rfl, rfl⟩
  go_wp2_with fail
  refine (add_as H4 _).mono ?_
  rintro e0 w0 ⟨rfl, rfl⟩
  go_wp2_with fail
  go_ret
  exact ⟨rfl, hbel⟩
set_option maxHeartbeats 800000 in
theorem divides_in_zp (a b q p : Int) (w : World) (hw : Lies w) (g1 : -9007199254740992 ≤ a) (g2 : a ≤ 9007199254740992) (hb1 : 1 ≤ b) (hb2 : b ≤ 9007199254740992)   (H1 : Hid (divF a b = (q, true))) (H2 : Hid (modF a b = (0, true))) (H3 : Hid (mulF b q = (p, true))) (H4 : Hid (addF p 0 = (a, true))) : Calls Tryd.prog 5 #[.int .i64 a, .int .i64 b] w fun e w' => e = .returned (.bool true) ∧ Below w.heap.size w w' := by
  have hne : (b != 0) = true := by rw [bne_iff_ne]; omega
  go_enter Tryd.func5, Tryd.ntmps5
  go_wp2_with fail
  refine (small_any _ hw).mono ?_
  rintro e0 w1 ⟨rfl, hbel⟩
  go_wp2_with fail
  refine (div_as H1 _).mono ?_
  rintro e0 w0 ⟨rfl, rfl⟩
  go_wp2_with fail
  refine (mod_as H2 _).mono ?_
  rintro e0 w0 ⟨rfl, rfl⟩
  go_wp2_with fail
  refine (mul_as H3 _).mono ?_
  rintro e0 w0 ⟨rfl, rfl⟩
  go_wp2_with fail
  refine (add_as H4 _).mono ?_
  rintro e0 w0 ⟨rfl, rfl⟩
  go_wp2_with fail
  go_ret
  exact ⟨rfl, hbel⟩
set_option maxHeartbeats 800000 in
theorem divides_in_pn (a b q p : Int) (r : Int) (w : World) (hw : Lies w) (g1 : -9007199254740992 ≤ a) (g2 : a ≤ 9007199254740992) (hb1 : 1 ≤ b) (hb2 : b ≤ 9007199254740992) (hr : 1 ≤ r) (ha : 0 ≤ a) (hr2 : r ≤ 9007199254740992) (hl : r < b) (H1 : Hid (divF a (-b) = (q, true))) (H2 : Hid (modF a (-b) = (r, true))) (H3 : Hid (mulF (-b) q = (p, true))) (H4 : Hid (addF p r = (a, true))) : Calls Tryd.prog 5 #[.int .i64 a, .int .i64 (-b)] w fun e w' => e = .returned (.bool true) ∧ Below w.heap.size w w' := by
  have hne : ((-b) != 0) = true := by rw [bne_iff_ne]; omega
  have hs1 : (r == 0) = false := by rw [beq_eq_false_iff_ne]; omega
  have hs2 : decide (r < 0) = false := decide_eq_false (by omega)
  have hs3 : decide (a < 0) = false := decide_eq_false (by omega)
  have gb : -b ≤ 9007199254740992 := by omega
  go_enter Tryd.func5, Tryd.ntmps5
  go_wp2_with fail
  refine (small_any _ hw).mono ?_
  rintro e0 w1 ⟨rfl, hbel⟩
  go_wp2_with fail
  refine (div_as H1 _).mono ?_
  rintro e0 w0 ⟨rfl, rfl⟩
  go_wp2_with fail
  refine (mod_as H2 _).mono ?_
  rintro e0 w0 ⟨rfl, rfl⟩
  go_wp2_with fail
  refine (mul_as H3 _).mono ?_
  rintro e0 w0 ⟨rfl, rfl⟩
  go_wp2_with fail
  refine (add_as H4 _).mono ?_
  rintro e0 w0 ⟨rfl, rfl⟩
  go_wp2_with fail
  go_ret
  exact ⟨rfl, hbel⟩
set_option maxHeartbeats 800000 in
theorem divides_in_pp (a b q p : Int) (r : Int) (w : World) (hw : Lies w) (g1 : -9007199254740992 ≤ a) (g2 : a ≤ 9007199254740992) (hb1 : 1 ≤ b) (hb2 : b ≤ 9007199254740992) (hr : 1 ≤ r) (ha : 0 ≤ a) (hr2 : r ≤ 9007199254740992) (hl : r < b) (H1 : Hid (divF a b = (q, true))) (H2 : Hid (modF a b = (r, true))) (H3 : Hid (mulF b q = (p, true))) (H4 : Hid (addF p r = (a, true))) : Calls Tryd.prog 5 #[.int .i64 a, .int .i64 b] w fun e w' => e = .returned (.bool true) ∧ Below w.heap.size w w' := by
  have hne : (b != 0) = true := by rw [bne_iff_ne]; omega
  have hs1 : (r == 0) = false := by rw [beq_eq_false_iff_ne]; omega
  have hs2 : decide (r < 0) = false := decide_eq_false (by omega)
  have hs3 : decide (a < 0) = false := decide_eq_false (by omega)
  go_enter Tryd.func5, Tryd.ntmps5
  go_wp2_with fail
  refine (small_any _ hw).mono ?_
  rintro e0 w1 ⟨rfl, hbel⟩
  go_wp2_with fail
  refine (div_as H1 _).mono ?_
  rintro e0 w0 ⟨rfl, rfl⟩
  go_wp2_with fail
  refine (mod_as H2 _).mono ?_
  rintro e0 w0 ⟨rfl, rfl⟩
  go_wp2_with fail
  refine (mul_as H3 _).mono ?_
  rintro e0 w0 ⟨rfl, rfl⟩
  go_wp2_with fail
  refine (add_as H4 _).mono ?_
  rintro e0 w0 ⟨rfl, rfl⟩
  go_wp2_with fail
  go_ret
  exact ⟨rfl, hbel⟩
theorem divides_any (a b : Int) (w : World) (hw : Lies w) : Calls Tryd.prog 5 #[.int .i64 a, .int .i64 b] w fun e w' => e = .returned (.bool true) ∧ Below w.heap.size w w' := by
  by_cases c : InR a ∧ InR b ∧ b ≠ 0
  · obtain ⟨f1, f2, f3, f4, f5, f6, f7⟩ := div_facts a b c
    have H1 : divF a b = (a.tdiv b, true) := if_pos c
    have H2 : modF a b = (a.tmod b, true) := if_pos c
    obtain ⟨⟨g1, g2⟩, ⟨g3, g4⟩, g5⟩ := c
    generalize b * a.tdiv b = p at f1 f2
    generalize a.tdiv b = q at f1 H1
    generalize a.tmod b = r at f2 f3 f4 f5 f6 f7 H2
    by_cases hbs : 0 < b
    · rcases Int.lt_trichotomy r 0 with hr | hr | hr
      · obtain ⟨r', rfl⟩ : ∃ r', r = -r' := ⟨-r, by omega⟩
        exact divides_in_np a b q p r' w hw g1 g2 (by omega) g4 (by omega) (by omega) (by omega) (by omega) H1 H2 f1 f2
      · subst hr
        exact divides_in_zp a b q p w hw g1 g2 (by omega) g4 H1 H2 f1 f2
      · exact divides_in_pp a b q p r w hw g1 g2 (by omega) g4 (by omega) (by omega) (by omega) (by omega) H1 H2 f1 f2
    · obtain ⟨b', rfl⟩ : ∃ b', b = -b' := ⟨-b, by omega⟩
      rcases Int.lt_trichotomy r 0 with hr | hr | hr
      · obtain ⟨r', rfl⟩ : ∃ r', r = -r' := ⟨-r, by omega⟩
        exact divides_in_nn a b' q p r' w hw g1 g2 (by omega) (by omega) (by omega) (by omega) (by omega) (by omega) H1 H2 f1 f2
      · subst hr
        exact divides_in_zn a b' q p w hw g1 g2 (by omega) (by omega) H1 H2 f1 f2
      · exact divides_in_pn a b' q p r w hw g1 g2 (by omega) (by omega) (by omega) (by omega) (by omega) (by omega) H1 H2 f1 f2
  · have H1 : divF a b = (0, false) := if_neg c
    have H2 : modF a b = (0, false) := if_neg c
    by_cases h1 : a < -9007199254740992
    · exact divides_a1 a b w hw h1 H1 H2
    · by_cases h2 : 9007199254740992 < a
      · exact divides_a2 a b w hw (by omega) h2 H1 H2
      · by_cases h3 : b < -9007199254740992
        · exact divides_b1 a b w hw (by omega) (by omega) h3 H1 H2
        · by_cases h4 : 9007199254740992 < b
          · exact divides_b2 a b w hw (by omega) (by omega) (by omega) h4 H1 H2
          · by_cases h5 : b = 0
            · subst h5
              exact divides_b0 a w hw (by omega) (by omega) H1 H2
            · exact absurd ⟨⟨by omega, by omega⟩, ⟨by omega, by omega⟩, h5⟩ c
end Go.Proofs.YteibjolnnonmnaaDoor
