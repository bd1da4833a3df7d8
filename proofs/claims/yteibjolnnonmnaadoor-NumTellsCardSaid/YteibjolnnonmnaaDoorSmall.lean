/-
  The contract of small: the sanity example that every statement of layer 1 evaluates first returns true.
-/
import Derived.Test.YteibjolnnonmnaaDoorParse
import Derived.Test.YteibjolnnonmnaaDoorArith
import Derived.Test.YteibjolnnonmnaaDoorMul
import Derived.Outline
namespace Go.Proofs.YteibjolnnonmnaaDoor
open Go.RowKit

theorem parse_one (W : World) (hW : Lies W) : Calls Tryd.prog 21 #[.string ⟨#[45, 51, 48, 53]⟩, .int .i64 (-305), .int .i64 9] W fun e w' => e = .returned (.tuple #[.int .i64 (-305), .bool true]) ∧ Below W.heap.size W w' :=
  parse_any ⟨#[45, 51, 48, 53]⟩ (-305) 9 (by decide) (by decide) (by decide) W hW
theorem parse_two (W : World) (hW : Lies W) : Calls Tryd.prog 21 #[.string ⟨#[48, 48, 55]⟩, .int .i64 0, .int .i64 9] W fun e w' => e = .returned (.tuple #[.int .i64 0, .bool false]) ∧ Below W.heap.size W w' :=
  parse_any ⟨#[48, 48, 55]⟩ 0 9 (by decide) (by decide) (by decide) W hW
theorem itoa_305 : Lib.itoa (-305) = [45, 51, 48, 53] := canon_itoa [45, 51, 48, 53] rfl
theorem text_one (W : World) (hW : Lies W) : Calls Tryd.prog 23 #[.int .i64 (-305)] W fun e w' => e = .returned (.string ⟨#[45, 51, 48, 53]⟩) ∧ Below W.heap.size W w' := by
  have h := text_any (-305) (by decide) (by decide) W hW
  rw [itoa_305] at h
  exact h
theorem add_one (W : World) : Calls Tryd.prog 8 #[.int .i64 9007199254740991, .int .i64 1] W fun e w' => e = .returned (.tuple #[.int .i64 9007199254740992, .bool true]) ∧ W = w' := add_any _ _ W
theorem add_two (W : World) : Calls Tryd.prog 8 #[.int .i64 9007199254740992, .int .i64 1] W fun e w' => e = .returned (.tuple #[.int .i64 0, .bool false]) ∧ W = w' := add_any _ _ W
theorem mul_one' (W : World) : Calls Tryd.prog 13 #[.int .i64 (-1073741824), .int .i64 8388608] W fun e w' => e = .returned (.tuple #[.int .i64 (-9007199254740992), .bool true]) ∧ W = w' := mul_any _ _ W
theorem mul_two (W : World) : Calls Tryd.prog 13 #[.int .i64 1099511627776, .int .i64 1048576] W fun e w' => e = .returned (.tuple #[.int .i64 0, .bool false]) ∧ W = w' := mul_any _ _ W
theorem div_one (W : World) : Calls Tryd.prog 15 #[.int .i64 (-7), .int .i64 2] W fun e w' => e = .returned (.tuple #[.int .i64 (-3), .bool true]) ∧ W = w' := div_any _ _ W
theorem mod_one (W : World) : Calls Tryd.prog 17 #[.int .i64 (-7), .int .i64 2] W fun e w' => e = .returned (.tuple #[.int .i64 (-1), .bool true]) ∧ W = w' := mod_any _ _ W
theorem div_two (W : World) : Calls Tryd.prog 15 #[.int .i64 1, .int .i64 0] W fun e w' => e = .returned (.tuple #[.int .i64 0, .bool false]) ∧ W = w' := div_any _ _ W
theorem neg_one (W : World) : Calls Tryd.prog 19 #[.int .i64 5] W fun e w' => e = .returned (.tuple #[.int .i64 (-5), .bool true]) ∧ W = w' := neg_any _ W (by decide) (by decide)
theorem sub_one (W : World) : Calls Tryd.prog 11 #[.int .i64 (-9007199254740992), .int .i64 1] W fun e w' => e = .returned (.tuple #[.int .i64 0, .bool false]) ∧ W = w' := sub_any _ _ W
theorem clamp_one (W : World) : Calls Tryd.prog 25 #[.int .i64 5, .int .i64 1, .int .i64 3] W fun e w' => e = .returned (.int .i64 3) ∧ W = w' := clamp_any _ _ _ W
theorem clamp_two (W : World) : Calls Tryd.prog 25 #[.int .i64 0, .int .i64 1, .int .i64 3] W fun e w' => e = .returned (.int .i64 1) ∧ W = w' := clamp_any _ _ _ W

set_option maxRecDepth 100000 in
set_option maxHeartbeats 400000 in
theorem small_any (w : World) (hw : Lies w) : Calls Tryd.prog 7 #[] w fun e w' => e = .returned (.bool true) ∧ Below w.heap.size w w' := by
  go_enter Tryd.func7, Tryd.ntmps7
  go_wp2_with fail
  refine (add_one _).mono ?_
  rintro e w' ⟨rfl, rfl⟩
  go_wp2_with fail
  refine (add_two _).mono ?_
  rintro e w' ⟨rfl, rfl⟩
  go_wp2_with fail
  refine (mul_one' _).mono ?_
  rintro e w' ⟨rfl, rfl⟩
  go_wp2_with fail
  refine (mul_two _).mono ?_
  rintro e w' ⟨rfl, rfl⟩
  go_wp2_with fail
  refine (div_one _).mono ?_
  rintro e w' ⟨rfl, rfl⟩
  go_wp2_with fail
  refine (mod_one _).mono ?_
  rintro e w' ⟨rfl, rfl⟩
  go_wp2_with fail
  refine (div_two _).mono ?_
  rintro e w' ⟨rfl, rfl⟩
  go_wp2_with fail
  refine (parse_one _ hw).mono ?_
  rintro e w1 ⟨rfl, hb1⟩
  have hw1 := hw.on hb1
  go_wp2_with fail
  refine (parse_two _ hw1).mono ?_
  rintro e w2 ⟨rfl, hb2⟩
  have hw2 := hw1.on hb2
  have hb3 := hb1.trans (hb2.mono hb1.size)
  clear hb1 hb2 hw1
  go_wp2_with fail
  refine (neg_one _).mono ?_
  rintro e w' ⟨rfl, rfl⟩
  go_wp2_with fail
  refine (sub_one _).mono ?_
  rintro e w' ⟨rfl, rfl⟩
  go_wp2_with fail
  refine (text_one _ hw2).mono ?_
  rintro e w4 ⟨rfl, hb4⟩
  have hb5 := hb3.trans (hb4.mono hb3.size)
  clear hb3 hb4 hw2
  go_wp2_with fail
  refine (clamp_one _).mono ?_
  rintro e w' ⟨rfl, rfl⟩
  go_wp2_with fail
  refine (clamp_two _).mono ?_
  rintro e w' ⟨rfl, rfl⟩
  go_wp2_with fail
  go_ret
  exact ⟨rfl, hb5⟩
end Go.Proofs.YteibjolnnonmnaaDoor
