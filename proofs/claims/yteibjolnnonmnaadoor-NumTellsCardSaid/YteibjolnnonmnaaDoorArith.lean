/-
  The contracts of the functions of package num, and of its reference, that only compute with integers: each call returns what the plain function of YteibjolnnonmnaaDoorMath says, for every argument; the world is as it was.
-/
import Derived.Test.YteibjolnnonmnaaDoorProg
import Derived.Test.YteibjolnnonmnaaDoorMath
import Derived.WalkKit
namespace Go.Proofs.YteibjolnnonmnaaDoor
open Go.RowKit

set_option maxHeartbeats 400000 in
theorem add_any (a b : Int) (w : World) : Calls Tryd.prog 8 #[.int .i64 a, .int .i64 b] w fun e w' => e = .returned (.tuple #[.int .i64 (addF a b).1, .bool (addF a b).2]) ∧ w = w' := by
  by_cases c1 : InR a ∧ InR b ∧ InR (a + b)
  · rw [show addF a b = (a + b, true) from if_pos c1]
    obtain ⟨⟨h1, h2⟩, ⟨h3, h4⟩, ⟨h5, h6⟩⟩ := c1
    go_enter Tryd.func8, Tryd.ntmps8
    go_wp2
    go_ret2
    exact ⟨rfl, rfl⟩
  · rw [show addF a b = (0, false) from if_neg c1]
    simp only [InR] at c1
    by_cases h1 : a < -9007199254740992
    · clear c1
      go_enter Tryd.func8, Tryd.ntmps8
      go_wp2
      go_ret2
      exact ⟨rfl, rfl⟩
    · have h1' : -9007199254740992 ≤ a := by omega
      clear h1
      by_cases h2 : 9007199254740992 < a
      · have hd : decide (a ≤ 9007199254740992) = false := decide_eq_false (by omega)
        clear c1
        go_enter Tryd.func8, Tryd.ntmps8
        go_wp2
        go_ret2
        exact ⟨rfl, rfl⟩
      · have h2' : a ≤ 9007199254740992 := by omega
        clear h2
        by_cases h3 : b < -9007199254740992
        · clear c1
          go_enter Tryd.func8, Tryd.ntmps8
          go_wp2
          go_ret2
          exact ⟨rfl, rfl⟩
        · have h3' : -9007199254740992 ≤ b := by omega
          clear h3
          by_cases h4 : 9007199254740992 < b
          · have hd : decide (b ≤ 9007199254740992) = false := decide_eq_false (by omega)
            clear c1
            go_enter Tryd.func8, Tryd.ntmps8
            go_wp2
            go_ret2
            exact ⟨rfl, rfl⟩
          · have h4' : b ≤ 9007199254740992 := by omega
            clear h4
            by_cases h5 : a + b < -9007199254740992
            · clear c1
              go_enter Tryd.func8, Tryd.ntmps8
              go_wp2
              go_ret2
              exact ⟨rfl, rfl⟩
            · have h6 : 9007199254740992 < a + b := by omega
              have hd : decide (a + b ≤ 9007199254740992) = false := decide_eq_false (by omega)
              clear c1 h5
              go_enter Tryd.func8, Tryd.ntmps8
              go_wp2
              go_ret2
              exact ⟨rfl, rfl⟩
set_option maxHeartbeats 400000 in
theorem radd_any (a b : Int) (w : World) : Calls Tryd.prog 9 #[.int .i64 a, .int .i64 b] w fun e w' => e = .returned (.tuple #[.int .i64 (addF a b).1, .bool (addF a b).2]) ∧ w = w' := by
  by_cases c1 : InR a ∧ InR b ∧ InR (a + b)
  · rw [show addF a b = (a + b, true) from if_pos c1]
    obtain ⟨⟨h1, h2⟩, ⟨h3, h4⟩, ⟨h5, h6⟩⟩ := c1
    go_enter Tryd.func9, Tryd.ntmps9
    go_wp2
    go_ret2
    exact ⟨rfl, rfl⟩
  · rw [show addF a b = (0, false) from if_neg c1]
    simp only [InR] at c1
    by_cases h1 : a < -9007199254740992
    · clear c1
      go_enter Tryd.func9, Tryd.ntmps9
      go_wp2
      go_ret2
      exact ⟨rfl, rfl⟩
    · have h1' : -9007199254740992 ≤ a := by omega
      clear h1
      by_cases h2 : 9007199254740992 < a
      · have hd : decide (a ≤ 9007199254740992) = false := decide_eq_false (by omega)
        clear c1
        go_enter Tryd.func9, Tryd.ntmps9
        go_wp2
        go_ret2
        exact ⟨rfl, rfl⟩
      · have h2' : a ≤ 9007199254740992 := by omega
        clear h2
        by_cases h3 : b < -9007199254740992
        · clear c1
          go_enter Tryd.func9, Tryd.ntmps9
          go_wp2
          go_ret2
          exact ⟨rfl, rfl⟩
        · have h3' : -9007199254740992 ≤ b := by omega
          clear h3
          by_cases h4 : 9007199254740992 < b
          · have hd : decide (b ≤ 9007199254740992) = false := decide_eq_false (by omega)
            clear c1
            go_enter Tryd.func9, Tryd.ntmps9
            go_wp2
            go_ret2
            exact ⟨rfl, rfl⟩
          · have h4' : b ≤ 9007199254740992 := by omega
            clear h4
            by_cases h5 : a + b < -9007199254740992
            · clear c1
              go_enter Tryd.func9, Tryd.ntmps9
              go_wp2
              go_ret2
              exact ⟨rfl, rfl⟩
            · have h6 : 9007199254740992 < a + b := by omega
              have hd : decide (a + b ≤ 9007199254740992) = false := decide_eq_false (by omega)
              clear c1 h5
              go_enter Tryd.func9, Tryd.ntmps9
              go_wp2
              go_ret2
              exact ⟨rfl, rfl⟩
set_option maxHeartbeats 400000 in
theorem sub_any (a b : Int) (w : World) : Calls Tryd.prog 11 #[.int .i64 a, .int .i64 b] w fun e w' => e = .returned (.tuple #[.int .i64 (subF a b).1, .bool (subF a b).2]) ∧ w = w' := by
  by_cases c1 : InR a ∧ InR b ∧ InR (a - b)
  · rw [show subF a b = (a - b, true) from if_pos c1]
    obtain ⟨⟨h1, h2⟩, ⟨h3, h4⟩, ⟨h5, h6⟩⟩ := c1
    go_enter Tryd.func11, Tryd.ntmps11
    go_wp2
    go_ret2
    exact ⟨rfl, rfl⟩
  · rw [show subF a b = (0, false) from if_neg c1]
    simp only [InR] at c1
    by_cases h1 : a < -9007199254740992
    · clear c1
      go_enter Tryd.func11, Tryd.ntmps11
      go_wp2
      go_ret2
      exact ⟨rfl, rfl⟩
    · have h1' : -9007199254740992 ≤ a := by omega
      clear h1
      by_cases h2 : 9007199254740992 < a
      · have hd : decide (a ≤ 9007199254740992) = false := decide_eq_false (by omega)
        clear c1
        go_enter Tryd.func11, Tryd.ntmps11
        go_wp2
        go_ret2
        exact ⟨rfl, rfl⟩
      · have h2' : a ≤ 9007199254740992 := by omega
        clear h2
        by_cases h3 : b < -9007199254740992
        · clear c1
          go_enter Tryd.func11, Tryd.ntmps11
          go_wp2
          go_ret2
          exact ⟨rfl, rfl⟩
        · have h3' : -9007199254740992 ≤ b := by omega
          clear h3
          by_cases h4 : 9007199254740992 < b
          · have hd : decide (b ≤ 9007199254740992) = false := decide_eq_false (by omega)
            clear c1
            go_enter Tryd.func11, Tryd.ntmps11
            go_wp2
            go_ret2
            exact ⟨rfl, rfl⟩
          · have h4' : b ≤ 9007199254740992 := by omega
            clear h4
            by_cases h5 : a - b < -9007199254740992
            · clear c1
              go_enter Tryd.func11, Tryd.ntmps11
              go_wp2
              go_ret2
              exact ⟨rfl, rfl⟩
            · have h6 : 9007199254740992 < a - b := by omega
              have hd : decide (a - b ≤ 9007199254740992) = false := decide_eq_false (by omega)
              clear c1 h5
              go_enter Tryd.func11, Tryd.ntmps11
              go_wp2
              go_ret2
              exact ⟨rfl, rfl⟩
set_option maxHeartbeats 400000 in
theorem rsub_any (a b : Int) (w : World) : Calls Tryd.prog 12 #[.int .i64 a, .int .i64 b] w fun e w' => e = .returned (.tuple #[.int .i64 (subF a b).1, .bool (subF a b).2]) ∧ w = w' := by
  by_cases c1 : InR a ∧ InR b ∧ InR (a - b)
  · rw [show subF a b = (a - b, true) from if_pos c1]
    obtain ⟨⟨h1, h2⟩, ⟨h3, h4⟩, ⟨h5, h6⟩⟩ := c1
    go_enter Tryd.func12, Tryd.ntmps12
    go_wp2
    go_ret2
    exact ⟨rfl, rfl⟩
  · rw [show subF a b = (0, false) from if_neg c1]
    simp only [InR] at c1
    by_cases h1 : a < -9007199254740992
    · clear c1
      go_enter Tryd.func12, Tryd.ntmps12
      go_wp2
      go_ret2
      exact ⟨rfl, rfl⟩
    · have h1' : -9007199254740992 ≤ a := by omega
      clear h1
      by_cases h2 : 9007199254740992 < a
      · have hd : decide (a ≤ 9007199254740992) = false := decide_eq_false (by omega)
        clear c1
        go_enter Tryd.func12, Tryd.ntmps12
        go_wp2
        go_ret2
        exact ⟨rfl, rfl⟩
      · have h2' : a ≤ 9007199254740992 := by omega
        clear h2
        by_cases h3 : b < -9007199254740992
        · clear c1
          go_enter Tryd.func12, Tryd.ntmps12
          go_wp2
          go_ret2
          exact ⟨rfl, rfl⟩
        · have h3' : -9007199254740992 ≤ b := by omega
          clear h3
          by_cases h4 : 9007199254740992 < b
          · have hd : decide (b ≤ 9007199254740992) = false := decide_eq_false (by omega)
            clear c1
            go_enter Tryd.func12, Tryd.ntmps12
            go_wp2
            go_ret2
            exact ⟨rfl, rfl⟩
          · have h4' : b ≤ 9007199254740992 := by omega
            clear h4
            by_cases h5 : a - b < -9007199254740992
            · clear c1
              go_enter Tryd.func12, Tryd.ntmps12
              go_wp2
              go_ret2
              exact ⟨rfl, rfl⟩
            · have h6 : 9007199254740992 < a - b := by omega
              have hd : decide (a - b ≤ 9007199254740992) = false := decide_eq_false (by omega)
              clear c1 h5
              go_enter Tryd.func12, Tryd.ntmps12
              go_wp2
              go_ret2
              exact ⟨rfl, rfl⟩
set_option maxHeartbeats 400000 in
theorem div_any (a b : Int) (w : World) : Calls Tryd.prog 15 #[.int .i64 a, .int .i64 b] w fun e w' => e = .returned (.tuple #[.int .i64 (divF a b).1, .bool (divF a b).2]) ∧ w = w' := by
  by_cases c1 : InR a ∧ InR b ∧ b ≠ 0
  · rw [show divF a b = (a.tdiv b, true) from if_pos c1]
    obtain ⟨⟨h1, h2⟩, ⟨h3, h4⟩, h5⟩ := c1
    have h6 : -9007199254740992 ≤ a.tdiv b := tdiv_lo a b h1 h2
    have h7 : a.tdiv b ≤ 9007199254740992 := tdiv_hi a b h1 h2
    have h8 : (b == 0) = false := by simpa using h5
    have h9 : ¬ b = 0 := h5
    clear h5
    go_enter Tryd.func15, Tryd.ntmps15
    go_wp2
    go_ret2
    exact ⟨rfl, rfl⟩
  · rw [show divF a b = (0, false) from if_neg c1]
    simp only [InR] at c1
    by_cases h1 : a < -9007199254740992
    · clear c1
      go_enter Tryd.func15, Tryd.ntmps15
      go_wp2
      go_ret2
      exact ⟨rfl, rfl⟩
    · have h1' : -9007199254740992 ≤ a := by omega
      clear h1
      by_cases h2 : 9007199254740992 < a
      · have hd : decide (a ≤ 9007199254740992) = false := decide_eq_false (by omega)
        clear c1
        go_enter Tryd.func15, Tryd.ntmps15
        go_wp2
        go_ret2
        exact ⟨rfl, rfl⟩
      · have h2' : a ≤ 9007199254740992 := by omega
        clear h2
        by_cases h3 : b < -9007199254740992
        · clear c1
          go_enter Tryd.func15, Tryd.ntmps15
          go_wp2
          go_ret2
          exact ⟨rfl, rfl⟩
        · have h3' : -9007199254740992 ≤ b := by omega
          clear h3
          by_cases h4 : 9007199254740992 < b
          · have hd : decide (b ≤ 9007199254740992) = false := decide_eq_false (by omega)
            clear c1
            go_enter Tryd.func15, Tryd.ntmps15
            go_wp2
            go_ret2
            exact ⟨rfl, rfl⟩
          · have h4' : b ≤ 9007199254740992 := by omega
            clear h4
            obtain rfl : b = 0 := by omega
            clear c1 h3' h4'
            go_enter Tryd.func15, Tryd.ntmps15
            go_wp2
            go_ret2
            exact ⟨rfl, rfl⟩
set_option maxHeartbeats 400000 in
theorem rdiv_any (a b : Int) (w : World) : Calls Tryd.prog 16 #[.int .i64 a, .int .i64 b] w fun e w' => e = .returned (.tuple #[.int .i64 (divF a b).1, .bool (divF a b).2]) ∧ w = w' := by
  by_cases c1 : InR a ∧ InR b ∧ b ≠ 0
  · rw [show divF a b = (a.tdiv b, true) from if_pos c1]
    obtain ⟨⟨h1, h2⟩, ⟨h3, h4⟩, h5⟩ := c1
    have h6 : -9007199254740992 ≤ a.tdiv b := tdiv_lo a b h1 h2
    have h7 : a.tdiv b ≤ 9007199254740992 := tdiv_hi a b h1 h2
    have h8 : (b == 0) = false := by simpa using h5
    have h9 : ¬ b = 0 := h5
    clear h5
    go_enter Tryd.func16, Tryd.ntmps16
    go_wp2
    go_ret2
    exact ⟨rfl, rfl⟩
  · rw [show divF a b = (0, false) from if_neg c1]
    simp only [InR] at c1
    by_cases h1 : a < -9007199254740992
    · clear c1
      go_enter Tryd.func16, Tryd.ntmps16
      go_wp2
      go_ret2
      exact ⟨rfl, rfl⟩
    · have h1' : -9007199254740992 ≤ a := by omega
      clear h1
      by_cases h2 : 9007199254740992 < a
      · have hd : decide (a ≤ 9007199254740992) = false := decide_eq_false (by omega)
        clear c1
        go_enter Tryd.func16, Tryd.ntmps16
        go_wp2
        go_ret2
        exact ⟨rfl, rfl⟩
      · have h2' : a ≤ 9007199254740992 := by omega
        clear h2
        by_cases h3 : b < -9007199254740992
        · clear c1
          go_enter Tryd.func16, Tryd.ntmps16
          go_wp2
          go_ret2
          exact ⟨rfl, rfl⟩
        · have h3' : -9007199254740992 ≤ b := by omega
          clear h3
          by_cases h4 : 9007199254740992 < b
          · have hd : decide (b ≤ 9007199254740992) = false := decide_eq_false (by omega)
            clear c1
            go_enter Tryd.func16, Tryd.ntmps16
            go_wp2
            go_ret2
            exact ⟨rfl, rfl⟩
          · have h4' : b ≤ 9007199254740992 := by omega
            clear h4
            obtain rfl : b = 0 := by omega
            clear c1 h3' h4'
            go_enter Tryd.func16, Tryd.ntmps16
            go_wp2
            go_ret2
            exact ⟨rfl, rfl⟩
set_option maxHeartbeats 400000 in
theorem mod_any (a b : Int) (w : World) : Calls Tryd.prog 17 #[.int .i64 a, .int .i64 b] w fun e w' => e = .returned (.tuple #[.int .i64 (modF a b).1, .bool (modF a b).2]) ∧ w = w' := by
  by_cases c1 : InR a ∧ InR b ∧ b ≠ 0
  · rw [show modF a b = (a.tmod b, true) from if_pos c1]
    obtain ⟨⟨h1, h2⟩, ⟨h3, h4⟩, h5⟩ := c1
    have h6 : -9007199254740992 ≤ a.tmod b := tmod_lo a b h1 h2
    have h7 : a.tmod b ≤ 9007199254740992 := tmod_hi a b h1 h2
    have h8 : (b == 0) = false := by simpa using h5
    have h9 : ¬ b = 0 := h5
    clear h5
    go_enter Tryd.func17, Tryd.ntmps17
    go_wp2
    go_ret2
    exact ⟨rfl, rfl⟩
  · rw [show modF a b = (0, false) from if_neg c1]
    simp only [InR] at c1
    by_cases h1 : a < -9007199254740992
    · clear c1
      go_enter Tryd.func17, Tryd.ntmps17
      go_wp2
      go_ret2
      exact ⟨rfl, rfl⟩
    · have h1' : -9007199254740992 ≤ a := by omega
      clear h1
      by_cases h2 : 9007199254740992 < a
      · have hd : decide (a ≤ 9007199254740992) = false := decide_eq_false (by omega)
        clear c1
        go_enter Tryd.func17, Tryd.ntmps17
        go_wp2
        go_ret2
        exact ⟨rfl, rfl⟩
      · have h2' : a ≤ 9007199254740992 := by omega
        clear h2
        by_cases h3 : b < -9007199254740992
        · clear c1
          go_enter Tryd.func17, Tryd.ntmps17
          go_wp2
          go_ret2
          exact ⟨rfl, rfl⟩
        · have h3' : -9007199254740992 ≤ b := by omega
          clear h3
          by_cases h4 : 9007199254740992 < b
          · have hd : decide (b ≤ 9007199254740992) = false := decide_eq_false (by omega)
            clear c1
            go_enter Tryd.func17, Tryd.ntmps17
            go_wp2
            go_ret2
            exact ⟨rfl, rfl⟩
          · have h4' : b ≤ 9007199254740992 := by omega
            clear h4
            obtain rfl : b = 0 := by omega
            clear c1 h3' h4'
            go_enter Tryd.func17, Tryd.ntmps17
            go_wp2
            go_ret2
            exact ⟨rfl, rfl⟩
set_option maxHeartbeats 400000 in
theorem rmod_any (a b : Int) (w : World) : Calls Tryd.prog 18 #[.int .i64 a, .int .i64 b] w fun e w' => e = .returned (.tuple #[.int .i64 (modF a b).1, .bool (modF a b).2]) ∧ w = w' := by
  by_cases c1 : InR a ∧ InR b ∧ b ≠ 0
  · rw [show modF a b = (a.tmod b, true) from if_pos c1]
    obtain ⟨⟨h1, h2⟩, ⟨h3, h4⟩, h5⟩ := c1
    have h6 : -9007199254740992 ≤ a.tmod b := tmod_lo a b h1 h2
    have h7 : a.tmod b ≤ 9007199254740992 := tmod_hi a b h1 h2
    have h8 : (b == 0) = false := by simpa using h5
    have h9 : ¬ b = 0 := h5
    clear h5
    go_enter Tryd.func18, Tryd.ntmps18
    go_wp2
    go_ret2
    exact ⟨rfl, rfl⟩
  · rw [show modF a b = (0, false) from if_neg c1]
    simp only [InR] at c1
    by_cases h1 : a < -9007199254740992
    · clear c1
      go_enter Tryd.func18, Tryd.ntmps18
      go_wp2
      go_ret2
      exact ⟨rfl, rfl⟩
    · have h1' : -9007199254740992 ≤ a := by omega
      clear h1
      by_cases h2 : 9007199254740992 < a
      · have hd : decide (a ≤ 9007199254740992) = false := decide_eq_false (by omega)
        clear c1
        go_enter Tryd.func18, Tryd.ntmps18
        go_wp2
        go_ret2
        exact ⟨rfl, rfl⟩
      · have h2' : a ≤ 9007199254740992 := by omega
        clear h2
        by_cases h3 : b < -9007199254740992
        · clear c1
          go_enter Tryd.func18, Tryd.ntmps18
          go_wp2
          go_ret2
          exact ⟨rfl, rfl⟩
        · have h3' : -9007199254740992 ≤ b := by omega
          clear h3
          by_cases h4 : 9007199254740992 < b
          · have hd : decide (b ≤ 9007199254740992) = false := decide_eq_false (by omega)
            clear c1
            go_enter Tryd.func18, Tryd.ntmps18
            go_wp2
            go_ret2
            exact ⟨rfl, rfl⟩
          · have h4' : b ≤ 9007199254740992 := by omega
            clear h4
            obtain rfl : b = 0 := by omega
            clear c1 h3' h4'
            go_enter Tryd.func18, Tryd.ntmps18
            go_wp2
            go_ret2
            exact ⟨rfl, rfl⟩
set_option maxHeartbeats 400000 in
theorem neg_any (a : Int) (w : World) (ha : -9223372036854775808 ≤ a) (hb : a ≤ 9223372036854775807) : Calls Tryd.prog 19 #[.int .i64 a] w fun e w' => e = .returned (.tuple #[.int .i64 (negF a).1, .bool (negF a).2]) ∧ w = w' := by
  by_cases c1 : InR a
  · rw [show negF a = (-a, true) from if_pos c1]
    obtain ⟨h1, h2⟩ := c1
    have h3 : -a ≤ 9007199254740992 := by omega
    clear ha hb
    go_enter Tryd.func19, Tryd.ntmps19
    go_wp2
    go_ret2
    exact ⟨rfl, rfl⟩
  · rw [show negF a = (0, false) from if_neg c1]
    simp only [InR] at c1
    by_cases h0 : a = -9223372036854775808
    · subst h0
      have h3 : wrap64 9223372036854775808 < -9007199254740992 := by unfold wrap64; omega
      clear c1 ha hb
      go_enter Tryd.func19, Tryd.ntmps19
      go_wp2
      go_ret2
      exact ⟨rfl, rfl⟩
    · have h0' : -9223372036854775807 ≤ a := by omega
      clear h0 ha
      by_cases h1 : a < -9007199254740992
      · have hd : decide (-a ≤ 9007199254740992) = false := decide_eq_false (by omega)
        clear c1
        go_enter Tryd.func19, Tryd.ntmps19
        go_wp2
        go_ret2
        exact ⟨rfl, rfl⟩
      · have h2 : 9007199254740992 < a := by omega
        have hd : decide (a ≤ 9007199254740992) = false := decide_eq_false (by omega)
        clear c1 h1
        go_enter Tryd.func19, Tryd.ntmps19
        go_wp2
        go_ret2
        exact ⟨rfl, rfl⟩
set_option maxHeartbeats 400000 in
theorem rneg_any (a : Int) (w : World) (ha : -9223372036854775808 ≤ a) (hb : a ≤ 9223372036854775807) : Calls Tryd.prog 20 #[.int .i64 a] w fun e w' => e = .returned (.tuple #[.int .i64 (negF a).1, .bool (negF a).2]) ∧ w = w' := by
  by_cases c1 : InR a
  · rw [show negF a = (-a, true) from if_pos c1]
    obtain ⟨h1, h2⟩ := c1
    have h3 : -a ≤ 9007199254740992 := by omega
    clear ha hb
    go_enter Tryd.func20, Tryd.ntmps20
    go_wp2
    go_ret2
    exact ⟨rfl, rfl⟩
  · rw [show negF a = (0, false) from if_neg c1]
    simp only [InR] at c1
    by_cases h0 : a = -9223372036854775808
    · subst h0
      have h3 : wrap64 9223372036854775808 < -9007199254740992 := by unfold wrap64; omega
      clear c1 ha hb
      go_enter Tryd.func20, Tryd.ntmps20
      go_wp2
      go_ret2
      exact ⟨rfl, rfl⟩
    · have h0' : -9223372036854775807 ≤ a := by omega
      clear h0 ha
      by_cases h1 : a < -9007199254740992
      · have hd : decide (-a ≤ 9007199254740992) = false := decide_eq_false (by omega)
        clear c1
        go_enter Tryd.func20, Tryd.ntmps20
        go_wp2
        go_ret2
        exact ⟨rfl, rfl⟩
      · have h2 : 9007199254740992 < a := by omega
        have hd : decide (a ≤ 9007199254740992) = false := decide_eq_false (by omega)
        clear c1 h1
        go_enter Tryd.func20, Tryd.ntmps20
        go_wp2
        go_ret2
        exact ⟨rfl, rfl⟩
theorem clamp_any (n l h : Int) (w : World) : Calls Tryd.prog 25 #[.int .i64 n, .int .i64 l, .int .i64 h] w fun e w' => e = .returned (.int .i64 (clampF n l h)) ∧ w = w' := by
  unfold clampF
  by_cases h1 : n < l
  · rw [if_pos h1]
    go_enter Tryd.func25, Tryd.ntmps25
    go_wp2
    go_ret
    exact ⟨rfl, rfl⟩
  · rw [if_neg h1]
    have h1' : l ≤ n := by omega
    clear h1
    by_cases h2 : h < n
    · rw [if_pos h2]
      go_enter Tryd.func25, Tryd.ntmps25
      go_wp2
      go_ret
      exact ⟨rfl, rfl⟩
    · rw [if_neg h2]
      have h2' : n ≤ h := by omega
      clear h2
      go_enter Tryd.func25, Tryd.ntmps25
      go_wp2
      go_ret
      exact ⟨rfl, rfl⟩
theorem rclamp_any (n l h : Int) (w : World) : Calls Tryd.prog 26 #[.int .i64 n, .int .i64 l, .int .i64 h] w fun e w' => e = .returned (.int .i64 (clampF n l h)) ∧ w = w' := by
  unfold clampF
  by_cases h1 : n < l
  · rw [if_pos h1]
    go_enter Tryd.func26, Tryd.ntmps26
    go_wp2
    go_ret
    exact ⟨rfl, rfl⟩
  · rw [if_neg h1]
    have h1' : l ≤ n := by omega
    clear h1
    by_cases h2 : h < n
    · rw [if_pos h2]
      go_enter Tryd.func26, Tryd.ntmps26
      go_wp2
      go_ret
      exact ⟨rfl, rfl⟩
    · rw [if_neg h2]
      have h2' : n ≤ h := by omega
      clear h2
      go_enter Tryd.func26, Tryd.ntmps26
      go_wp2
      go_ret
      exact ⟨rfl, rfl⟩
theorem same_refl (a : Int) (b : Bool) (w : World) : Calls Tryd.prog 10 #[.int .i64 a, .bool b, .int .i64 a, .bool b] w fun e w' => e = .returned (.bool true) ∧ w = w' := by
  have h1 : (a == a) = true := by simp
  have h2 : (b == b) = true := by simp
  go_enter Tryd.func10, Tryd.ntmps10
  go_wp2
  go_ret
  exact ⟨rfl, rfl⟩
end Go.Proofs.YteibjolnnonmnaaDoor
