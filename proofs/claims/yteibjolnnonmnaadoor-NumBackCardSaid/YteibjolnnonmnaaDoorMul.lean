/-
  The contract of Mul of package num, and of its reference: whatever the two integers, the call returns what mulF says; the world is as it was.
-/
import Derived.Test.YteibjolnnonmnaaDoorProg
import Derived.Test.YteibjolnnonmnaaDoorMath
import Derived.WalkKit
namespace Go.Proofs.YteibjolnnonmnaaDoor
open Go.RowKit

theorem mulF_no (u v : Int) {p : Int} (h : 9007199254740992 < p) (huv : u * v = p ∨ u * v = -p) : mulF u v = (0, false) := by
  unfold mulF
  rw [if_neg]
  intro k
  have k1 := k.2.2.1
  have k2 := k.2.2.2
  omega
theorem mulF_ok (u v : Int) {p : Int} (h0 : 0 ≤ p) (h : p ≤ 9007199254740992) (hu : InR u) (hv : InR v) (huv : u * v = p ∨ u * v = -p) : mulF u v = (u * v, true) := by
  unfold mulF
  rw [if_pos ⟨hu, hv, ⟨by omega, by omega⟩⟩]
set_option maxHeartbeats 400000 in
theorem mul_pp_yes (x y : Int) (w : World) (h1 : 1 ≤ x) (h2 : x ≤ 9007199254740992) (h3 : 0 ≤ y) (h4 : y ≤ 9007199254740992) (h5 : y ≤ 9007199254740992 / x) (h6 : x * y ≤ 9007199254740992) (h7 : -9007199254740992 ≤ x * y) : Calls Tryd.prog 13 #[.int .i64 x, .int .i64 y] w fun e w' => e = .returned (.tuple #[.int .i64 (x * y), .bool true]) ∧ w = w' := by
  have hn : (x != 0) = true := by rw [bne_iff_ne]; omega
  have hd : decide (9007199254740992 / x < y) = false := decide_eq_false (by omega)
  go_enter Tryd.func13, Tryd.ntmps13
  go_wp2
  go_ret2
  exact ⟨rfl, rfl⟩
set_option maxHeartbeats 400000 in
theorem mul_pp_no (x y : Int) (w : World) (h1 : 1 ≤ x) (h2 : x ≤ 9007199254740992) (h3 : 0 ≤ y) (h4 : y ≤ 9007199254740992) (h5 : 9007199254740992 / x < y) : Calls Tryd.prog 13 #[.int .i64 x, .int .i64 y] w fun e w' => e = .returned (.tuple #[.int .i64 0, .bool false]) ∧ w = w' := by
  have hn : (x != 0) = true := by rw [bne_iff_ne]; omega
  have hd : decide (9007199254740992 / x < y) = true := decide_eq_true (by omega)
  go_enter Tryd.func13, Tryd.ntmps13
  go_wp2
  go_ret2
  exact ⟨rfl, rfl⟩
theorem mul_pp (x y : Int) (w : World) (h1 : 1 ≤ x) (h2 : x ≤ 9007199254740992) (h3 : 0 ≤ y) (h4 : y ≤ 9007199254740992) : Calls Tryd.prog 13 #[.int .i64 x, .int .i64 y] w fun e w' => e = .returned (.tuple #[.int .i64 (mulF x y).1, .bool (mulF x y).2]) ∧ w = w' := by
  have ht := mul_test x y h1
  have hpos : 0 ≤ x * y := Int.mul_nonneg (by omega) (by omega)
  have er : x * y = x * y ∨ x * y = -(x * y) := Or.inl rfl
  by_cases hq : 9007199254740992 / x < y
  · rw [mulF_no x y (ht.1 hq) er]
    exact mul_pp_no x y w h1 h2 h3 h4 hq
  · have hsm : x * y ≤ 9007199254740992 := Int.not_lt.1 (fun k => hq (ht.2 k))
    rw [mulF_ok x y hpos hsm ⟨by omega, by omega⟩ ⟨by omega, by omega⟩ er]
    exact mul_pp_yes x y w h1 h2 h3 h4 (Int.not_lt.1 hq) (by omega) (by omega)
set_option maxHeartbeats 400000 in
theorem mul_pn_yes (x y : Int) (w : World) (h1 : 1 ≤ x) (h2 : x ≤ 9007199254740992) (h3 : 1 ≤ y) (h4 : y ≤ 9007199254740992) (h5 : y ≤ 9007199254740992 / x) (h6 : x * -y ≤ 9007199254740992) (h7 : -9007199254740992 ≤ x * -y) : Calls Tryd.prog 13 #[.int .i64 x, .int .i64 (-y)] w fun e w' => e = .returned (.tuple #[.int .i64 (x * -y), .bool true]) ∧ w = w' := by
  have hn : (x != 0) = true := by rw [bne_iff_ne]; omega
  have hd : decide (9007199254740992 / x < y) = false := decide_eq_false (by omega)
  have gb : -y ≤ 9007199254740992 := by omega
  go_enter Tryd.func13, Tryd.ntmps13
  go_wp2
  go_ret2
  exact ⟨rfl, rfl⟩
set_option maxHeartbeats 400000 in
theorem mul_pn_no (x y : Int) (w : World) (h1 : 1 ≤ x) (h2 : x ≤ 9007199254740992) (h3 : 1 ≤ y) (h4 : y ≤ 9007199254740992) (h5 : 9007199254740992 / x < y) : Calls Tryd.prog 13 #[.int .i64 x, .int .i64 (-y)] w fun e w' => e = .returned (.tuple #[.int .i64 0, .bool false]) ∧ w = w' := by
  have hn : (x != 0) = true := by rw [bne_iff_ne]; omega
  have hd : decide (9007199254740992 / x < y) = true := decide_eq_true (by omega)
  have gb : -y ≤ 9007199254740992 := by omega
  go_enter Tryd.func13, Tryd.ntmps13
  go_wp2
  go_ret2
  exact ⟨rfl, rfl⟩
theorem mul_pn (x y : Int) (w : World) (h1 : 1 ≤ x) (h2 : x ≤ 9007199254740992) (h3 : 1 ≤ y) (h4 : y ≤ 9007199254740992) : Calls Tryd.prog 13 #[.int .i64 x, .int .i64 (-y)] w fun e w' => e = .returned (.tuple #[.int .i64 (mulF x (-y)).1, .bool (mulF x (-y)).2]) ∧ w = w' := by
  have ht := mul_test x y h1
  have hpos : 0 ≤ x * y := Int.mul_nonneg (by omega) (by omega)
  have er : x * -y = x * y ∨ x * -y = -(x * y) := Or.inr (Int.mul_neg x y)
  by_cases hq : 9007199254740992 / x < y
  · rw [mulF_no x (-y) (ht.1 hq) er]
    exact mul_pn_no x y w h1 h2 h3 h4 hq
  · have hsm : x * y ≤ 9007199254740992 := Int.not_lt.1 (fun k => hq (ht.2 k))
    rw [mulF_ok x (-y) hpos hsm ⟨by omega, by omega⟩ ⟨by omega, by omega⟩ er]
    exact mul_pn_yes x y w h1 h2 h3 h4 (Int.not_lt.1 hq) (by omega) (by omega)
set_option maxHeartbeats 400000 in
theorem mul_np_yes (x y : Int) (w : World) (h1 : 1 ≤ x) (h2 : x ≤ 9007199254740992) (h3 : 0 ≤ y) (h4 : y ≤ 9007199254740992) (h5 : y ≤ 9007199254740992 / x) (h6 : -x * y ≤ 9007199254740992) (h7 : -9007199254740992 ≤ -x * y) : Calls Tryd.prog 13 #[.int .i64 (-x), .int .i64 y] w fun e w' => e = .returned (.tuple #[.int .i64 (-x * y), .bool true]) ∧ w = w' := by
  have hn : (-x != 0) = true := by rw [bne_iff_ne]; omega
  have hd : decide (9007199254740992 / x < y) = false := decide_eq_false (by omega)
  have ga : -x ≤ 9007199254740992 := by omega
  go_enter Tryd.func13, Tryd.ntmps13
  go_wp2
  go_ret2
  exact ⟨rfl, rfl⟩
set_option maxHeartbeats 400000 in
theorem mul_np_no (x y : Int) (w : World) (h1 : 1 ≤ x) (h2 : x ≤ 9007199254740992) (h3 : 0 ≤ y) (h4 : y ≤ 9007199254740992) (h5 : 9007199254740992 / x < y) : Calls Tryd.prog 13 #[.int .i64 (-x), .int .i64 y] w fun e w' => e = .returned (.tuple #[.int .i64 0, .bool false]) ∧ w = w' := by
  have hn : (-x != 0) = true := by rw [bne_iff_ne]; omega
  have hd : decide (9007199254740992 / x < y) = true := decide_eq_true (by omega)
  have ga : -x ≤ 9007199254740992 := by omega
  go_enter Tryd.func13, Tryd.ntmps13
  go_wp2
  go_ret2
  exact ⟨rfl, rfl⟩
theorem mul_np (x y : Int) (w : World) (h1 : 1 ≤ x) (h2 : x ≤ 9007199254740992) (h3 : 0 ≤ y) (h4 : y ≤ 9007199254740992) : Calls Tryd.prog 13 #[.int .i64 (-x), .int .i64 y] w fun e w' => e = .returned (.tuple #[.int .i64 (mulF (-x) y).1, .bool (mulF (-x) y).2]) ∧ w = w' := by
  have ht := mul_test x y h1
  have hpos : 0 ≤ x * y := Int.mul_nonneg (by omega) (by omega)
  have er : -x * y = x * y ∨ -x * y = -(x * y) := Or.inr (Int.neg_mul x y)
  by_cases hq : 9007199254740992 / x < y
  · rw [mulF_no (-x) y (ht.1 hq) er]
    exact mul_np_no x y w h1 h2 h3 h4 hq
  · have hsm : x * y ≤ 9007199254740992 := Int.not_lt.1 (fun k => hq (ht.2 k))
    rw [mulF_ok (-x) y hpos hsm ⟨by omega, by omega⟩ ⟨by omega, by omega⟩ er]
    exact mul_np_yes x y w h1 h2 h3 h4 (Int.not_lt.1 hq) (by omega) (by omega)
set_option maxHeartbeats 400000 in
theorem mul_nn_yes (x y : Int) (w : World) (h1 : 1 ≤ x) (h2 : x ≤ 9007199254740992) (h3 : 1 ≤ y) (h4 : y ≤ 9007199254740992) (h5 : y ≤ 9007199254740992 / x) (h6 : -x * -y ≤ 9007199254740992) (h7 : -9007199254740992 ≤ -x * -y) : Calls Tryd.prog 13 #[.int .i64 (-x), .int .i64 (-y)] w fun e w' => e = .returned (.tuple #[.int .i64 (-x * -y), .bool true]) ∧ w = w' := by
  have hn : (-x != 0) = true := by rw [bne_iff_ne]; omega
  have hd : decide (9007199254740992 / x < y) = false := decide_eq_false (by omega)
  have ga : -x ≤ 9007199254740992 := by omega
  have gb : -y ≤ 9007199254740992 := by omega
  go_enter Tryd.func13, Tryd.ntmps13
  go_wp2
  go_ret2
  exact ⟨rfl, rfl⟩
set_option maxHeartbeats 400000 in
theorem mul_nn_no (x y : Int) (w : World) (h1 : 1 ≤ x) (h2 : x ≤ 9007199254740992) (h3 : 1 ≤ y) (h4 : y ≤ 9007199254740992) (h5 : 9007199254740992 / x < y) : Calls Tryd.prog 13 #[.int .i64 (-x), .int .i64 (-y)] w fun e w' => e = .returned (.tuple #[.int .i64 0, .bool false]) ∧ w = w' := by
  have hn : (-x != 0) = true := by rw [bne_iff_ne]; omega
  have hd : decide (9007199254740992 / x < y) = true := decide_eq_true (by omega)
  have ga : -x ≤ 9007199254740992 := by omega
  have gb : -y ≤ 9007199254740992 := by omega
  go_enter Tryd.func13, Tryd.ntmps13
  go_wp2
  go_ret2
  exact ⟨rfl, rfl⟩
theorem mul_nn (x y : Int) (w : World) (h1 : 1 ≤ x) (h2 : x ≤ 9007199254740992) (h3 : 1 ≤ y) (h4 : y ≤ 9007199254740992) : Calls Tryd.prog 13 #[.int .i64 (-x), .int .i64 (-y)] w fun e w' => e = .returned (.tuple #[.int .i64 (mulF (-x) (-y)).1, .bool (mulF (-x) (-y)).2]) ∧ w = w' := by
  have ht := mul_test x y h1
  have hpos : 0 ≤ x * y := Int.mul_nonneg (by omega) (by omega)
  have er : -x * -y = x * y ∨ -x * -y = -(x * y) := Or.inl (Int.neg_mul_neg x y)
  by_cases hq : 9007199254740992 / x < y
  · rw [mulF_no (-x) (-y) (ht.1 hq) er]
    exact mul_nn_no x y w h1 h2 h3 h4 hq
  · have hsm : x * y ≤ 9007199254740992 := Int.not_lt.1 (fun k => hq (ht.2 k))
    rw [mulF_ok (-x) (-y) hpos hsm ⟨by omega, by omega⟩ ⟨by omega, by omega⟩ er]
    exact mul_nn_yes x y w h1 h2 h3 h4 (Int.not_lt.1 hq) (by omega) (by omega)
set_option maxHeartbeats 400000 in
theorem mul_zero (b : Int) (w : World) (h3 : -9007199254740992 ≤ b) (h4 : b ≤ 9007199254740992) : Calls Tryd.prog 13 #[.int .i64 0, .int .i64 b] w fun e w' => e = .returned (.tuple #[.int .i64 0, .bool true]) ∧ w = w' := by
  by_cases h : b < 0
  · go_enter Tryd.func13, Tryd.ntmps13
    go_wp2
    go_ret2
    exact ⟨rfl, rfl⟩
  · have h' : 0 ≤ b := by omega
    clear h h3
    go_enter Tryd.func13, Tryd.ntmps13
    go_wp2
    go_ret2
    exact ⟨rfl, rfl⟩
set_option maxHeartbeats 400000 in
theorem mul_out (a b : Int) (w : World) (c : ¬ (InR a ∧ InR b)) : Calls Tryd.prog 13 #[.int .i64 a, .int .i64 b] w fun e w' => e = .returned (.tuple #[.int .i64 0, .bool false]) ∧ w = w' := by
  simp only [InR] at c
  by_cases h1 : a < -9007199254740992
  · clear c
    go_enter Tryd.func13, Tryd.ntmps13
    go_wp2
    go_ret2
    exact ⟨rfl, rfl⟩
  · have h1' : -9007199254740992 ≤ a := by omega
    clear h1
    by_cases h2 : 9007199254740992 < a
    · have hd : decide (a ≤ 9007199254740992) = false := decide_eq_false (by omega)
      clear c
      go_enter Tryd.func13, Tryd.ntmps13
      go_wp2
      go_ret2
      exact ⟨rfl, rfl⟩
    · have h2' : a ≤ 9007199254740992 := by omega
      clear h2
      by_cases h3 : b < -9007199254740992
      · clear c
        go_enter Tryd.func13, Tryd.ntmps13
        go_wp2
        go_ret2
        exact ⟨rfl, rfl⟩
      · have h4 : 9007199254740992 < b := by omega
        have hd : decide (b ≤ 9007199254740992) = false := decide_eq_false (by omega)
        clear c h3
        go_enter Tryd.func13, Tryd.ntmps13
        go_wp2
        go_ret2
        exact ⟨rfl, rfl⟩
theorem mul_any (a b : Int) (w : World) : Calls Tryd.prog 13 #[.int .i64 a, .int .i64 b] w fun e w' => e = .returned (.tuple #[.int .i64 (mulF a b).1, .bool (mulF a b).2]) ∧ w = w' := by
  by_cases c : InR a ∧ InR b
  · obtain ⟨⟨h1, h2⟩, ⟨h3, h4⟩⟩ := c
    by_cases h0 : a = 0
    · subst h0
      have e : mulF 0 b = (0, true) := by
        unfold mulF
        rw [Int.zero_mul, if_pos ⟨⟨by omega, by omega⟩, ⟨h3, h4⟩, ⟨by omega, by omega⟩⟩]
      rw [e]
      exact mul_zero b w h3 h4
    · by_cases ha : 0 < a
      · by_cases hb : 0 ≤ b
        · exact mul_pp a b w (by omega) h2 hb h4
        · obtain ⟨y, rfl⟩ : ∃ y, b = -y := ⟨-b, by omega⟩
          exact mul_pn a y w (by omega) h2 (by omega) (by omega)
      · obtain ⟨x, rfl⟩ : ∃ x, a = -x := ⟨-a, by omega⟩
        by_cases hb : 0 ≤ b
        · exact mul_np x b w (by omega) (by omega) hb h4
        · obtain ⟨y, rfl⟩ : ∃ y, b = -y := ⟨-b, by omega⟩
          exact mul_nn x y w (by omega) (by omega) (by omega) (by omega)
  · rw [show mulF a b = (0, false) from if_neg (fun k => c ⟨k.1, k.2.1⟩)]
    exact mul_out a b w c
set_option maxHeartbeats 400000 in
theorem rmul_pp_yes (x y : Int) (w : World) (h1 : 1 ≤ x) (h2 : x ≤ 9007199254740992) (h3 : 0 ≤ y) (h4 : y ≤ 9007199254740992) (h5 : y ≤ 9007199254740992 / x) (h6 : x * y ≤ 9007199254740992) (h7 : -9007199254740992 ≤ x * y) : Calls Tryd.prog 14 #[.int .i64 x, .int .i64 y] w fun e w' => e = .returned (.tuple #[.int .i64 (x * y), .bool true]) ∧ w = w' := by
  have hn : (x != 0) = true := by rw [bne_iff_ne]; omega
  have hd : decide (9007199254740992 / x < y) = false := decide_eq_false (by omega)
  go_enter Tryd.func14, Tryd.ntmps14
  go_wp2
  go_ret2
  exact ⟨rfl, rfl⟩
set_option maxHeartbeats 400000 in
theorem rmul_pp_no (x y : Int) (w : World) (h1 : 1 ≤ x) (h2 : x ≤ 9007199254740992) (h3 : 0 ≤ y) (h4 : y ≤ 9007199254740992) (h5 : 9007199254740992 / x < y) : Calls Tryd.prog 14 #[.int .i64 x, .int .i64 y] w fun e w' => e = .returned (.tuple #[.int .i64 0, .bool false]) ∧ w = w' := by
  have hn : (x != 0) = true := by rw [bne_iff_ne]; omega
  have hd : decide (9007199254740992 / x < y) = true := decide_eq_true (by omega)
  go_enter Tryd.func14, Tryd.ntmps14
  go_wp2
  go_ret2
  exact ⟨rfl, rfl⟩
theorem rmul_pp (x y : Int) (w : World) (h1 : 1 ≤ x) (h2 : x ≤ 9007199254740992) (h3 : 0 ≤ y) (h4 : y ≤ 9007199254740992) : Calls Tryd.prog 14 #[.int .i64 x, .int .i64 y] w fun e w' => e = .returned (.tuple #[.int .i64 (mulF x y).1, .bool (mulF x y).2]) ∧ w = w' := by
  have ht := mul_test x y h1
  have hpos : 0 ≤ x * y := Int.mul_nonneg (by omega) (by omega)
  have er : x * y = x * y ∨ x * y = -(x * y) := Or.inl rfl
  by_cases hq : 9007199254740992 / x < y
  · rw [mulF_no x y (ht.1 hq) er]
    exact rmul_pp_no x y w h1 h2 h3 h4 hq
  · have hsm : x * y ≤ 9007199254740992 := Int.not_lt.1 (fun k => hq (ht.2 k))
    rw [mulF_ok x y hpos hsm ⟨by omega, by omega⟩ ⟨by omega, by omega⟩ er]
    exact rmul_pp_yes x y w h1 h2 h3 h4 (Int.not_lt.1 hq) (by omega) (by omega)
set_option maxHeartbeats 400000 in
theorem rmul_pn_yes (x y : Int) (w : World) (h1 : 1 ≤ x) (h2 : x ≤ 9007199254740992) (h3 : 1 ≤ y) (h4 : y ≤ 9007199254740992) (h5 : y ≤ 9007199254740992 / x) (h6 : x * -y ≤ 9007199254740992) (h7 : -9007199254740992 ≤ x * -y) : Calls Tryd.prog 14 #[.int .i64 x, .int .i64 (-y)] w fun e w' => e = .returned (.tuple #[.int .i64 (x * -y), .bool true]) ∧ w = w' := by
  have hn : (x != 0) = true := by rw [bne_iff_ne]; omega
  have hd : decide (9007199254740992 / x < y) = false := decide_eq_false (by omega)
  have gb : -y ≤ 9007199254740992 := by omega
  go_enter Tryd.func14, Tryd.ntmps14
  go_wp2
  go_ret2
  exact ⟨rfl, rfl⟩
set_option maxHeartbeats 400000 in
theorem rmul_pn_no (x y : Int) (w : World) (h1 : 1 ≤ x) (h2 : x ≤ 9007199254740992) (h3 : 1 ≤ y) (h4 : y ≤ 9007199254740992) (h5 : 9007199254740992 / x < y) : Calls Tryd.prog 14 #[.int .i64 x, .int .i64 (-y)] w fun e w' => e = .returned (.tuple #[.int .i64 0, .bool false]) ∧ w = w' := by
  have hn : (x != 0) = true := by rw [bne_iff_ne]; omega
  have hd : decide (9007199254740992 / x < y) = true := decide_eq_true (by omega)
  have gb : -y ≤ 9007199254740992 := by omega
  go_enter Tryd.func14, Tryd.ntmps14
  go_wp2
  go_ret2
  exact ⟨rfl, rfl⟩
theorem rmul_pn (x y : Int) (w : World) (h1 : 1 ≤ x) (h2 : x ≤ 9007199254740992) (h3 : 1 ≤ y) (h4 : y ≤ 9007199254740992) : Calls Tryd.prog 14 #[.int .i64 x, .int .i64 (-y)] w fun e w' => e = .returned (.tuple #[.int .i64 (mulF x (-y)).1, .bool (mulF x (-y)).2]) ∧ w = w' := by
  have ht := mul_test x y h1
  have hpos : 0 ≤ x * y := Int.mul_nonneg (by omega) (by omega)
  have er : x * -y = x * y ∨ x * -y = -(x * y) := Or.inr (Int.mul_neg x y)
  by_cases hq : 9007199254740992 / x < y
  · rw [mulF_no x (-y) (ht.1 hq) er]
    exact rmul_pn_no x y w h1 h2 h3 h4 hq
  · have hsm : x * y ≤ 9007199254740992 := Int.not_lt.1 (fun k => hq (ht.2 k))
    rw [mulF_ok x (-y) hpos hsm ⟨by omega, by omega⟩ ⟨by omega, by omega⟩ er]
    exact rmul_pn_yes x y w h1 h2 h3 h4 (Int.not_lt.1 hq) (by omega) (by omega)
set_option maxHeartbeats 400000 in
theorem rmul_np_yes (x y : Int) (w : World) (h1 : 1 ≤ x) (h2 : x ≤ 9007199254740992) (h3 : 0 ≤ y) (h4 : y ≤ 9007199254740992) (h5 : y ≤ 9007199254740992 / x) (h6 : -x * y ≤ 9007199254740992) (h7 : -9007199254740992 ≤ -x * y) : Calls Tryd.prog 14 #[.int .i64 (-x), .int .i64 y] w fun e w' => e = .returned (.tuple #[.int .i64 (-x * y), .bool true]) ∧ w = w' := by
  have hn : (-x != 0) = true := by rw [bne_iff_ne]; omega
  have hd : decide (9007199254740992 / x < y) = false := decide_eq_false (by omega)
  have ga : -x ≤ 9007199254740992 := by omega
  go_enter Tryd.func14, Tryd.ntmps14
  go_wp2
  go_ret2
  exact ⟨rfl, rfl⟩
set_option maxHeartbeats 400000 in
theorem rmul_np_no (x y : Int) (w : World) (h1 : 1 ≤ x) (h2 : x ≤ 9007199254740992) (h3 : 0 ≤ y) (h4 : y ≤ 9007199254740992) (h5 : 9007199254740992 / x < y) : Calls Tryd.prog 14 #[.int .i64 (-x), .int .i64 y] w fun e w' => e = .returned (.tuple #[.int .i64 0, .bool false]) ∧ w = w' := by
  have hn : (-x != 0) = true := by rw [bne_iff_ne]; omega
  have hd : decide (9007199254740992 / x < y) = true := decide_eq_true (by omega)
  have ga : -x ≤ 9007199254740992 := by omega
  go_enter Tryd.func14, Tryd.ntmps14
  go_wp2
  go_ret2
  exact ⟨rfl, rfl⟩
theorem rmul_np (x y : Int) (w : World) (h1 : 1 ≤ x) (h2 : x ≤ 9007199254740992) (h3 : 0 ≤ y) (h4 : y ≤ 9007199254740992) : Calls Tryd.prog 14 #[.int .i64 (-x), .int .i64 y] w fun e w' => e = .returned (.tuple #[.int .i64 (mulF (-x) y).1, .bool (mulF (-x) y).2]) ∧ w = w' := by
  have ht := mul_test x y h1
  have hpos : 0 ≤ x * y := Int.mul_nonneg (by omega) (by omega)
  have er : -x * y = x * y ∨ -x * y = -(x * y) := Or.inr (Int.neg_mul x y)
  by_cases hq : 9007199254740992 / x < y
  · rw [mulF_no (-x) y (ht.1 hq) er]
    exact rmul_np_no x y w h1 h2 h3 h4 hq
  · have hsm : x * y ≤ 9007199254740992 := Int.not_lt.1 (fun k => hq (ht.2 k))
    rw [mulF_ok (-x) y hpos hsm ⟨by omega, by omega⟩ ⟨by omega, by omega⟩ er]
    exact rmul_np_yes x y w h1 h2 h3 h4 (Int.not_lt.1 hq) (by omega) (by omega)
set_option maxHeartbeats 400000 in
theorem rmul_nn_yes (x y : Int) (w : World) (h1 : 1 ≤ x) (h2 : x ≤ 9007199254740992) (h3 : 1 ≤ y) (h4 : y ≤ 9007199254740992) (h5 : y ≤ 9007199254740992 / x) (h6 : -x * -y ≤ 9007199254740992) (h7 : -9007199254740992 ≤ -x * -y) : Calls Tryd.prog 14 #[.int .i64 (-x), .int .i64 (-y)] w fun e w' => e = .returned (.tuple #[.int .i64 (-x * -y), .bool true]) ∧ w = w' := by
  have hn : (-x != 0) = true := by rw [bne_iff_ne]; omega
  have hd : decide (9007199254740992 / x < y) = false := decide_eq_false (by omega)
  have ga : -x ≤ 9007199254740992 := by omega
  have gb : -y ≤ 9007199254740992 := by omega
  go_enter Tryd.func14, Tryd.ntmps14
  go_wp2
  go_ret2
  exact ⟨rfl, rfl⟩
set_option maxHeartbeats 400000 in
theorem rmul_nn_no (x y : Int) (w : World) (h1 : 1 ≤ x) (h2 : x ≤ 9007199254740992) (h3 : 1 ≤ y) (h4 : y ≤ 9007199254740992) (h5 : 9007199254740992 / x < y) : Calls Tryd.prog 14 #[.int .i64 (-x), .int .i64 (-y)] w fun e w' => e = .returned (.tuple #[.int .i64 0, .bool false]) ∧ w = w' := by
  have hn : (-x != 0) = true := by rw [bne_iff_ne]; omega
  have hd : decide (9007199254740992 / x < y) = true := decide_eq_true (by omega)
  have ga : -x ≤ 9007199254740992 := by omega
  have gb : -y ≤ 9007199254740992 := by omega
  go_enter Tryd.func14, Tryd.ntmps14
  go_wp2
  go_ret2
  exact ⟨rfl, rfl⟩
theorem rmul_nn (x y : Int) (w : World) (h1 : 1 ≤ x) (h2 : x ≤ 9007199254740992) (h3 : 1 ≤ y) (h4 : y ≤ 9007199254740992) : Calls Tryd.prog 14 #[.int .i64 (-x), .int .i64 (-y)] w fun e w' => e = .returned (.tuple #[.int .i64 (mulF (-x) (-y)).1, .bool (mulF (-x) (-y)).2]) ∧ w = w' := by
  have ht := mul_test x y h1
  have hpos : 0 ≤ x * y := Int.mul_nonneg (by omega) (by omega)
  have er : -x * -y = x * y ∨ -x * -y = -(x * y) := Or.inl (Int.neg_mul_neg x y)
  by_cases hq : 9007199254740992 / x < y
  · rw [mulF_no (-x) (-y) (ht.1 hq) er]
    exact rmul_nn_no x y w h1 h2 h3 h4 hq
  · have hsm : x * y ≤ 9007199254740992 := Int.not_lt.1 (fun k => hq (ht.2 k))
    rw [mulF_ok (-x) (-y) hpos hsm ⟨by omega, by omega⟩ ⟨by omega, by omega⟩ er]
    exact rmul_nn_yes x y w h1 h2 h3 h4 (Int.not_lt.1 hq) (by omega) (by omega)
set_option maxHeartbeats 400000 in
theorem rmul_zero (b : Int) (w : World) (h3 : -9007199254740992 ≤ b) (h4 : b ≤ 9007199254740992) : Calls Tryd.prog 14 #[.int .i64 0, .int .i64 b] w fun e w' => e = .returned (.tuple #[.int .i64 0, .bool true]) ∧ w = w' := by
  by_cases h : b < 0
  · go_enter Tryd.func14, Tryd.ntmps14
    go_wp2
    go_ret2
    exact ⟨rfl, rfl⟩
  · have h' : 0 ≤ b := by omega
    clear h h3
    go_enter Tryd.func14, Tryd.ntmps14
    go_wp2
    go_ret2
    exact ⟨rfl, rfl⟩
set_option maxHeartbeats 400000 in
theorem rmul_out (a b : Int) (w : World) (c : ¬ (InR a ∧ InR b)) : Calls Tryd.prog 14 #[.int .i64 a, .int .i64 b] w fun e w' => e = .returned (.tuple #[.int .i64 0, .bool false]) ∧ w = w' := by
  simp only [InR] at c
  by_cases h1 : a < -9007199254740992
  · clear c
    go_enter Tryd.func14, Tryd.ntmps14
    go_wp2
    go_ret2
    exact ⟨rfl, rfl⟩
  · have h1' : -9007199254740992 ≤ a := by omega
    clear h1
    by_cases h2 : 9007199254740992 < a
    · have hd : decide (a ≤ 9007199254740992) = false := decide_eq_false (by omega)
      clear c
      go_enter Tryd.func14, Tryd.ntmps14
      go_wp2
      go_ret2
      exact ⟨rfl, rfl⟩
    · have h2' : a ≤ 9007199254740992 := by omega
      clear h2
      by_cases h3 : b < -9007199254740992
      · clear c
        go_enter Tryd.func14, Tryd.ntmps14
        go_wp2
        go_ret2
        exact ⟨rfl, rfl⟩
      · have h4 : 9007199254740992 < b := by omega
        have hd : decide (b ≤ 9007199254740992) = false := decide_eq_false (by omega)
        clear c h3
        go_enter Tryd.func14, Tryd.ntmps14
        go_wp2
        go_ret2
        exact ⟨rfl, rfl⟩
theorem rmul_any (a b : Int) (w : World) : Calls Tryd.prog 14 #[.int .i64 a, .int .i64 b] w fun e w' => e = .returned (.tuple #[.int .i64 (mulF a b).1, .bool (mulF a b).2]) ∧ w = w' := by
  by_cases c : InR a ∧ InR b
  · obtain ⟨⟨h1, h2⟩, ⟨h3, h4⟩⟩ := c
    by_cases h0 : a = 0
    · subst h0
      have e : mulF 0 b = (0, true) := by
        unfold mulF
        rw [Int.zero_mul, if_pos ⟨⟨by omega, by omega⟩, ⟨h3, h4⟩, ⟨by omega, by omega⟩⟩]
      rw [e]
      exact rmul_zero b w h3 h4
    · by_cases ha : 0 < a
      · by_cases hb : 0 ≤ b
        · exact rmul_pp a b w (by omega) h2 hb h4
        · obtain ⟨y, rfl⟩ : ∃ y, b = -y := ⟨-b, by omega⟩
          exact rmul_pn a y w (by omega) h2 (by omega) (by omega)
      · obtain ⟨x, rfl⟩ : ∃ x, a = -x := ⟨-a, by omega⟩
        by_cases hb : 0 ≤ b
        · exact rmul_np x b w (by omega) (by omega) hb h4
        · obtain ⟨y, rfl⟩ : ∃ y, b = -y := ⟨-b, by omega⟩
          exact rmul_nn x y w (by omega) (by omega) (by omega) (by omega)
  · rw [show mulF a b = (0, false) from if_neg (fun k => c ⟨k.1, k.2.1⟩)]
    exact rmul_out a b w c
end Go.Proofs.YteibjolnnonmnaaDoor
