/-
  The contract of NumLaws: whatever the three integers, the call returns true.
-/
import Derived.Test.YteibjolnnonmnaaDoorSmall
import Derived.Lib.Hide
namespace Go.Proofs.YteibjolnnonmnaaDoor
open Go.RowKit

theorem add_as {a b x : Int} {k : Bool} (h : Hid (addF a b = (x, k))) (W : World) : Calls Tryd.prog 8 #[.int .i64 a, .int .i64 b] W fun e w' => e = .returned (.tuple #[.int .i64 x, .bool k]) ∧ W = w' := by
  have := add_any a b W
  rw [h.out] at this
  exact this
theorem sub_as {a b x : Int} {k : Bool} (h : Hid (subF a b = (x, k))) (W : World) : Calls Tryd.prog 11 #[.int .i64 a, .int .i64 b] W fun e w' => e = .returned (.tuple #[.int .i64 x, .bool k]) ∧ W = w' := by
  have := sub_any a b W
  rw [h.out] at this
  exact this
theorem mul_as {a b x : Int} {k : Bool} (h : Hid (mulF a b = (x, k))) (W : World) : Calls Tryd.prog 13 #[.int .i64 a, .int .i64 b] W fun e w' => e = .returned (.tuple #[.int .i64 x, .bool k]) ∧ W = w' := by
  have := mul_any a b W
  rw [h.out] at this
  exact this
theorem neg_as {a x : Int} {k : Bool} (ha : -9223372036854775808 ≤ a) (hb : a ≤ 9223372036854775807) (h : Hid (negF a = (x, k))) (W : World) : Calls Tryd.prog 19 #[.int .i64 a] W fun e w' => e = .returned (.tuple #[.int .i64 x, .bool k]) ∧ W = w' := by
  have := neg_any a W ha hb
  rw [h.out] at this
  exact this
set_option maxRecDepth 100000 in
set_option maxHeartbeats 800000 in
theorem laws_tttt (a b c x p n e f : Int) (nb : Bool) (l : Int) (lb : Bool) (r : Int) (rb : Bool) (w : World) (hw : Lies w) (ha : -9223372036854775808 ≤ a) (hb : a ≤ 9223372036854775807) (hx1 : -9007199254740992 ≤ x) (hx2 : x ≤ 9007199254740992)
    (H1 : Hid (addF a b = (x, true))) (H2 : Hid (addF b a = (x, true))) (H3 : Hid (mulF a b = (p, true))) (H4 : Hid (mulF b a = (p, true))) (H5 : Hid (negF a = (n, nb))) (H6 : Hid (subF 0 a = (n, nb)))
    (H8 : Hid (addF b c = (e, true))) (H9 : Hid (mulF a c = (f, true))) (H7 : Hid (subF x b = (a, true))) (HA : Hid (addF x c = (l, lb))) (HB : Hid (addF a e = (l, lb))) (HC : Hid (addF p f = (r, rb))) (HD : Hid (mulF a e = (r, rb))) :
    Calls Tryd.prog 4 #[.int .i64 a, .int .i64 b, .int .i64 c] w fun e w' => e = .returned (.bool true) ∧ Below w.heap.size w w' := by
  go_enter Tryd.func4, Tryd.ntmps4
  go_wp2_with fail
  refine (small_any _ hw).mono ?_
  rintro e0 w1 ⟨rfl, hbel⟩
  go_wp2_with fail
  refine (add_as H1 _).mono ?_
  rintro e0 w0 ⟨rfl, rfl⟩
  go_wp2_with fail
  refine (add_as H2 _).mono ?_
  rintro e0 w0 ⟨rfl, rfl⟩
  go_wp2_with fail
  refine (same_refl _ _ _).mono ?_
  rintro e0 w0 ⟨rfl, rfl⟩
  go_wp2_with fail
  refine (mul_as H3 _).mono ?_
  rintro e0 w0 ⟨rfl, rfl⟩
  go_wp2_with fail
  refine (mul_as H4 _).mono ?_
  rintro e0 w0 ⟨rfl, rfl⟩
  go_wp2_with fail
  refine (same_refl _ _ _).mono ?_
  rintro e0 w0 ⟨rfl, rfl⟩
  go_wp2_with fail
  refine (neg_as ha hb H5 _).mono ?_
  rintro e0 w0 ⟨rfl, rfl⟩
  go_wp2_with fail
  refine (sub_as H6 _).mono ?_
  rintro e0 w0 ⟨rfl, rfl⟩
  go_wp2_with fail
  refine (same_refl _ _ _).mono ?_
  rintro e0 w0 ⟨rfl, rfl⟩
  go_wp2_with fail
  refine (sub_as H7 _).mono ?_
  rintro e0 w0 ⟨rfl, rfl⟩
  go_wp2_with fail
  refine (add_as H8 _).mono ?_
  rintro e0 w0 ⟨rfl, rfl⟩
  go_wp2_with fail
  refine (mul_as H9 _).mono ?_
  rintro e0 w0 ⟨rfl, rfl⟩
  go_wp2_with fail
  refine (add_as HA _).mono ?_
  rintro e0 w0 ⟨rfl, rfl⟩
  go_wp2_with fail
  refine (add_as HB _).mono ?_
  rintro e0 w0 ⟨rfl, rfl⟩
  go_wp2_with fail
  refine (same_refl _ _ _).mono ?_
  rintro e0 w0 ⟨rfl, rfl⟩
  go_wp2_with fail
  refine (add_as HC _).mono ?_
  rintro e0 w0 ⟨rfl, rfl⟩
  go_wp2_with fail
  refine (mul_as HD _).mono ?_
  rintro e0 w0 ⟨rfl, rfl⟩
  go_wp2_with fail
  refine (same_refl _ _ _).mono ?_
  rintro e0 w0 ⟨rfl, rfl⟩
  go_wp2_with fail
  go_ret
  exact ⟨rfl, hbel⟩
set_option maxRecDepth 100000 in
set_option maxHeartbeats 800000 in
theorem laws_tttf (a b c x p n e f : Int) (nb : Bool) (l : Int) (lb : Bool) (w : World) (hw : Lies w) (ha : -9223372036854775808 ≤ a) (hb : a ≤ 9223372036854775807) (hx1 : -9007199254740992 ≤ x) (hx2 : x ≤ 9007199254740992)
    (H1 : Hid (addF a b = (x, true))) (H2 : Hid (addF b a = (x, true))) (H3 : Hid (mulF a b = (p, true))) (H4 : Hid (mulF b a = (p, true))) (H5 : Hid (negF a = (n, nb))) (H6 : Hid (subF 0 a = (n, nb)))
    (H8 : Hid (addF b c = (e, true))) (H9 : Hid (mulF a c = (f, false))) (H7 : Hid (subF x b = (a, true))) (HA : Hid (addF x c = (l, lb))) (HB : Hid (addF a e = (l, lb))) :
    Calls Tryd.prog 4 #[.int .i64 a, .int .i64 b, .int .i64 c] w fun e w' => e = .returned (.bool true) ∧ Below w.heap.size w w' := by
  go_enter Tryd.func4, Tryd.ntmps4
  go_wp2_with fail
  refine (small_any _ hw).mono ?_
  rintro e0 w1 ⟨rfl, hbel⟩
  go_wp2_with fail
  refine (add_as H1 _).mono ?_
  rintro e0 w0 ⟨rfl, rfl⟩
  go_wp2_with fail
  refine (add_as H2 _).mono ?_
  rintro e0 w0 ⟨rfl, rfl⟩
  go_wp2_with fail
  refine (same_refl _ _ _).mono ?_
  rintro e0 w0 ⟨rfl, rfl⟩
  go_wp2_with fail
  refine (mul_as H3 _).mono ?_
  rintro e0 w0 ⟨rfl, rfl⟩
  go_wp2_with fail
  refine (mul_as H4 _).mono ?_
  rintro e0 w0 ⟨rfl, rfl⟩
  go_wp2_with fail
  refine (same_refl _ _ _).mono ?_
  rintro e0 w0 ⟨rfl, rfl⟩
  go_wp2_with fail
  refine (neg_as ha hb H5 _).mono ?_
  rintro e0 w0 ⟨rfl, rfl⟩
  go_wp2_with fail
  refine (sub_as H6 _).mono ?_
  rintro e0 w0 ⟨rfl, rfl⟩
  go_wp2_with fail
  refine (same_refl _ _ _).mono ?_
  rintro e0 w0 ⟨rfl, rfl⟩
  go_wp2_with fail
  refine (sub_as H7 _).mono ?_
  rintro e0 w0 ⟨rfl, rfl⟩
  go_wp2_with fail
  refine (add_as H8 _).mono ?_
  rintro e0 w0 ⟨rfl, rfl⟩
  go_wp2_with fail
  refine (mul_as H9 _).mono ?_
  rintro e0 w0 ⟨rfl, rfl⟩
  go_wp2_with fail
  refine (add_as HA _).mono ?_
  rintro e0 w0 ⟨rfl, rfl⟩
  go_wp2_with fail
  refine (add_as HB _).mono ?_
  rintro e0 w0 ⟨rfl, rfl⟩
  go_wp2_with fail
  refine (same_refl _ _ _).mono ?_
  rintro e0 w0 ⟨rfl, rfl⟩
  go_wp2_with fail
  go_ret
  exact ⟨rfl, hbel⟩
set_option maxRecDepth 100000 in
set_option maxHeartbeats 800000 in
theorem laws_ttft (a b c x p n e f : Int) (nb : Bool) (l : Int) (lb : Bool) (w : World) (hw : Lies w) (ha : -9223372036854775808 ≤ a) (hb : a ≤ 9223372036854775807) (hx1 : -9007199254740992 ≤ x) (hx2 : x ≤ 9007199254740992)
    (H1 : Hid (addF a b = (x, true))) (H2 : Hid (addF b a = (x, true))) (H3 : Hid (mulF a b = (p, false))) (H4 : Hid (mulF b a = (p, false))) (H5 : Hid (negF a = (n, nb))) (H6 : Hid (subF 0 a = (n, nb)))
    (H8 : Hid (addF b c = (e, true))) (H9 : Hid (mulF a c = (f, true))) (H7 : Hid (subF x b = (a, true))) (HA : Hid (addF x c = (l, lb))) (HB : Hid (addF a e = (l, lb))) :
    Calls Tryd.prog 4 #[.int .i64 a, .int .i64 b, .int .i64 c] w fun e w' => e = .returned (.bool true) ∧ Below w.heap.size w w' := by
  go_enter Tryd.func4, Tryd.ntmps4
  go_wp2_with fail
  refine (small_any _ hw).mono ?_
  rintro e0 w1 ⟨rfl, hbel⟩
  go_wp2_with fail
  refine (add_as H1 _).mono ?_
  rintro e0 w0 ⟨rfl, rfl⟩
  go_wp2_with fail
  refine (add_as H2 _).mono ?_
  rintro e0 w0 ⟨rfl, rfl⟩
  go_wp2_with fail
  refine (same_refl _ _ _).mono ?_
  rintro e0 w0 ⟨rfl, rfl⟩
  go_wp2_with fail
  refine (mul_as H3 _).mono ?_
  rintro e0 w0 ⟨rfl, rfl⟩
  go_wp2_with fail
  refine (mul_as H4 _).mono ?_
  rintro e0 w0 ⟨rfl, rfl⟩
  go_wp2_with fail
  refine (same_refl _ _ _).mono ?_
  rintro e0 w0 ⟨rfl, rfl⟩
  go_wp2_with fail
  refine (neg_as ha hb H5 _).mono ?_
  rintro e0 w0 ⟨rfl, rfl⟩
  go_wp2_with fail
  refine (sub_as H6 _).mono ?_
  rintro e0 w0 ⟨rfl, rfl⟩
  go_wp2_with fail
  refine (same_refl _ _ _).mono ?_
  rintro e0 w0 ⟨rfl, rfl⟩
  go_wp2_with fail
  refine (sub_as H7 _).mono ?_
  rintro e0 w0 ⟨rfl, rfl⟩
  go_wp2_with fail
  refine (add_as H8 _).mono ?_
  rintro e0 w0 ⟨rfl, rfl⟩
  go_wp2_with fail
  refine (mul_as H9 _).mono ?_
  rintro e0 w0 ⟨rfl, rfl⟩
  go_wp2_with fail
  refine (add_as HA _).mono ?_
  rintro e0 w0 ⟨rfl, rfl⟩
  go_wp2_with fail
  refine (add_as HB _).mono ?_
  rintro e0 w0 ⟨rfl, rfl⟩
  go_wp2_with fail
  refine (same_refl _ _ _).mono ?_
  rintro e0 w0 ⟨rfl, rfl⟩
  go_wp2_with fail
  go_ret
  exact ⟨rfl, hbel⟩
set_option maxRecDepth 100000 in
set_option maxHeartbeats 800000 in
theorem laws_ttff (a b c x p n e f : Int) (nb : Bool) (l : Int) (lb : Bool) (w : World) (hw : Lies w) (ha : -9223372036854775808 ≤ a) (hb : a ≤ 9223372036854775807) (hx1 : -9007199254740992 ≤ x) (hx2 : x ≤ 9007199254740992)
    (H1 : Hid (addF a b = (x, true))) (H2 : Hid (addF b a = (x, true))) (H3 : Hid (mulF a b = (p, false))) (H4 : Hid (mulF b a = (p, false))) (H5 : Hid (negF a = (n, nb))) (H6 : Hid (subF 0 a = (n, nb)))
    (H8 : Hid (addF b c = (e, true))) (H9 : Hid (mulF a c = (f, false))) (H7 : Hid (subF x b = (a, true))) (HA : Hid (addF x c = (l, lb))) (HB : Hid (addF a e = (l, lb))) :
    Calls Tryd.prog 4 #[.int .i64 a, .int .i64 b, .int .i64 c] w fun e w' => e = .returned (.bool true) ∧ Below w.heap.size w w' := by
  go_enter Tryd.func4, Tryd.ntmps4
  go_wp2_with fail
  refine (small_any _ hw).mono ?_
  rintro e0 w1 ⟨rfl, hbel⟩
  go_wp2_with fail
  refine (add_as H1 _).mono ?_
  rintro e0 w0 ⟨rfl, rfl⟩
  go_wp2_with fail
  refine (add_as H2 _).mono ?_
  rintro e0 w0 ⟨rfl, rfl⟩
  go_wp2_with fail
  refine (same_refl _ _ _).mono ?_
  rintro e0 w0 ⟨rfl, rfl⟩
  go_wp2_with fail
  refine (mul_as H3 _).mono ?_
  rintro e0 w0 ⟨rfl, rfl⟩
  go_wp2_with fail
  refine (mul_as H4 _).mono ?_
  rintro e0 w0 ⟨rfl, rfl⟩
  go_wp2_with fail
  refine (same_refl _ _ _).mono ?_
  rintro e0 w0 ⟨rfl, rfl⟩
  go_wp2_with fail
  refine (neg_as ha hb H5 _).mono ?_
  rintro e0 w0 ⟨rfl, rfl⟩
  go_wp2_with fail
  refine (sub_as H6 _).mono ?_
  rintro e0 w0 ⟨rfl, rfl⟩
  go_wp2_with fail
  refine (same_refl _ _ _).mono ?_
  rintro e0 w0 ⟨rfl, rfl⟩
  go_wp2_with fail
  refine (sub_as H7 _).mono ?_
  rintro e0 w0 ⟨rfl, rfl⟩
  go_wp2_with fail
  refine (add_as H8 _).mono ?_
  rintro e0 w0 ⟨rfl, rfl⟩
  go_wp2_with fail
  refine (mul_as H9 _).mono ?_
  rintro e0 w0 ⟨rfl, rfl⟩
  go_wp2_with fail
  refine (add_as HA _).mono ?_
  rintro e0 w0 ⟨rfl, rfl⟩
  go_wp2_with fail
  refine (add_as HB _).mono ?_
  rintro e0 w0 ⟨rfl, rfl⟩
  go_wp2_with fail
  refine (same_refl _ _ _).mono ?_
  rintro e0 w0 ⟨rfl, rfl⟩
  go_wp2_with fail
  go_ret
  exact ⟨rfl, hbel⟩
set_option maxRecDepth 100000 in
set_option maxHeartbeats 800000 in
theorem laws_tftt (a b c x p n e f : Int) (nb : Bool) (w : World) (hw : Lies w) (ha : -9223372036854775808 ≤ a) (hb : a ≤ 9223372036854775807) (hx1 : -9007199254740992 ≤ x) (hx2 : x ≤ 9007199254740992)
    (H1 : Hid (addF a b = (x, true))) (H2 : Hid (addF b a = (x, true))) (H3 : Hid (mulF a b = (p, true))) (H4 : Hid (mulF b a = (p, true))) (H5 : Hid (negF a = (n, nb))) (H6 : Hid (subF 0 a = (n, nb)))
    (H8 : Hid (addF b c = (e, false))) (H9 : Hid (mulF a c = (f, true))) (H7 : Hid (subF x b = (a, true))) :
    Calls Tryd.prog 4 #[.int .i64 a, .int .i64 b, .int .i64 c] w fun e w' => e = .returned (.bool true) ∧ Below w.heap.size w w' := by
  go_enter Tryd.func4, Tryd.ntmps4
  go_wp2_with fail
  refine (small_any _ hw).mono ?_
  rintro e0 w1 ⟨rfl, hbel⟩
  go_wp2_with fail
  refine (add_as H1 _).mono ?_
  rintro e0 w0 ⟨rfl, rfl⟩
  go_wp2_with fail
  refine (add_as H2 _).mono ?_
  rintro e0 w0 ⟨rfl, rfl⟩
  go_wp2_with fail
  refine (same_refl _ _ _).mono ?_
  rintro e0 w0 ⟨rfl, rfl⟩
  go_wp2_with fail
  refine (mul_as H3 _).mono ?_
  rintro e0 w0 ⟨rfl, rfl⟩
  go_wp2_with fail
  refine (mul_as H4 _).mono ?_
  rintro e0 w0 ⟨rfl, rfl⟩
  go_wp2_with fail
  refine (same_refl _ _ _).mono ?_
  rintro e0 w0 ⟨rfl, rfl⟩
  go_wp2_with fail
  refine (neg_as ha hb H5 _).mono ?_
  rintro e0 w0 ⟨rfl, rfl⟩
  go_wp2_with fail
  refine (sub_as H6 _).mono ?_
  rintro e0 w0 ⟨rfl, rfl⟩
  go_wp2_with fail
  refine (same_refl _ _ _).mono ?_
  rintro e0 w0 ⟨rfl, rfl⟩
  go_wp2_with fail
  refine (sub_as H7 _).mono ?_
  rintro e0 w0 ⟨rfl, rfl⟩
  go_wp2_with fail
  refine (add_as H8 _).mono ?_
  rintro e0 w0 ⟨rfl, rfl⟩
  go_wp2_with fail
  refine (mul_as H9 _).mono ?_
  rintro e0 w0 ⟨rfl, rfl⟩
  go_wp2_with fail
  go_ret
  exact ⟨rfl, hbel⟩
set_option maxRecDepth 100000 in
set_option maxHeartbeats 800000 in
theorem laws_tftf (a b c x p n e f : Int) (nb : Bool) (w : World) (hw : Lies w) (ha : -9223372036854775808 ≤ a) (hb : a ≤ 9223372036854775807) (hx1 : -9007199254740992 ≤ x) (hx2 : x ≤ 9007199254740992)
    (H1 : Hid (addF a b = (x, true))) (H2 : Hid (addF b a = (x, true))) (H3 : Hid (mulF a b = (p, true))) (H4 : Hid (mulF b a = (p, true))) (H5 : Hid (negF a = (n, nb))) (H6 : Hid (subF 0 a = (n, nb)))
    (H8 : Hid (addF b c = (e, false))) (H9 : Hid (mulF a c = (f, false))) (H7 : Hid (subF x b = (a, true))) :
    Calls Tryd.prog 4 #[.int .i64 a, .int .i64 b, .int .i64 c] w fun e w' => e = .returned (.bool true) ∧ Below w.heap.size w w' := by
  go_enter Tryd.func4, Tryd.ntmps4
  go_wp2_with fail
  refine (small_any _ hw).mono ?_
  rintro e0 w1 ⟨rfl, hbel⟩
  go_wp2_with fail
  refine (add_as H1 _).mono ?_
  rintro e0 w0 ⟨rfl, rfl⟩
  go_wp2_with fail
  refine (add_as H2 _).mono ?_
  rintro e0 w0 ⟨rfl, rfl⟩
  go_wp2_with fail
  refine (same_refl _ _ _).mono ?_
  rintro e0 w0 ⟨rfl, rfl⟩
  go_wp2_with fail
  refine (mul_as H3 _).mono ?_
  rintro e0 w0 ⟨rfl, rfl⟩
  go_wp2_with fail
  refine (mul_as H4 _).mono ?_
  rintro e0 w0 ⟨rfl, rfl⟩
  go_wp2_with fail
  refine (same_refl _ _ _).mono ?_
  rintro e0 w0 ⟨rfl, rfl⟩
  go_wp2_with fail
  refine (neg_as ha hb H5 _).mono ?_
  rintro e0 w0 ⟨rfl, rfl⟩
  go_wp2_with fail
  refine (sub_as H6 _).mono ?_
  rintro e0 w0 ⟨rfl, rfl⟩
  go_wp2_with fail
  refine (same_refl _ _ _).mono ?_
  rintro e0 w0 ⟨rfl, rfl⟩
  go_wp2_with fail
  refine (sub_as H7 _).mono ?_
  rintro e0 w0 ⟨rfl, rfl⟩
  go_wp2_with fail
  refine (add_as H8 _).mono ?_
  rintro e0 w0 ⟨rfl, rfl⟩
  go_wp2_with fail
  refine (mul_as H9 _).mono ?_
  rintro e0 w0 ⟨rfl, rfl⟩
  go_wp2_with fail
  go_ret
  exact ⟨rfl, hbel⟩
set_option maxRecDepth 100000 in
set_option maxHeartbeats 800000 in
theorem laws_tfft (a b c x p n e f : Int) (nb : Bool) (w : World) (hw : Lies w) (ha : -9223372036854775808 ≤ a) (hb : a ≤ 9223372036854775807) (hx1 : -9007199254740992 ≤ x) (hx2 : x ≤ 9007199254740992)
    (H1 : Hid (addF a b = (x, true))) (H2 : Hid (addF b a = (x, true))) (H3 : Hid (mulF a b = (p, false))) (H4 : Hid (mulF b a = (p, false))) (H5 : Hid (negF a = (n, nb))) (H6 : Hid (subF 0 a = (n, nb)))
    (H8 : Hid (addF b c = (e, false))) (H9 : Hid (mulF a c = (f, true))) (H7 : Hid (subF x b = (a, true))) :
    Calls Tryd.prog 4 #[.int .i64 a, .int .i64 b, .int .i64 c] w fun e w' => e = .returned (.bool true) ∧ Below w.heap.size w w' := by
  go_enter Tryd.func4, Tryd.ntmps4
  go_wp2_with fail
  refine (small_any _ hw).mono ?_
  rintro e0 w1 ⟨rfl, hbel⟩
  go_wp2_with fail
  refine (add_as H1 _).mono ?_
  rintro e0 w0 ⟨rfl, rfl⟩
  go_wp2_with fail
  refine (add_as H2 _).mono ?_
  rintro e0 w0 ⟨rfl, rfl⟩
  go_wp2_with fail
  refine (same_refl _ _ _).mono ?_
  rintro e0 w0 ⟨rfl, rfl⟩
  go_wp2_with fail
  refine (mul_as H3 _).mono ?_
  rintro e0 w0 ⟨rfl, rfl⟩
  go_wp2_with fail
  refine (mul_as H4 _).mono ?_
  rintro e0 w0 ⟨rfl, rfl⟩
  go_wp2_with fail
  refine (same_refl _ _ _).mono ?_
  rintro e0 w0 ⟨rfl, rfl⟩
  go_wp2_with fail
  refine (neg_as ha hb H5 _).mono ?_
  rintro e0 w0 ⟨rfl, rfl⟩
  go_wp2_with fail
  refine (sub_as H6 _).mono ?_
  rintro e0 w0 ⟨rfl, rfl⟩
  go_wp2_with fail
  refine (same_refl _ _ _).mono ?_
  rintro e0 w0 ⟨rfl, rfl⟩
  go_wp2_with fail
  refine (sub_as H7 _).mono ?_
  rintro e0 w0 ⟨rfl, rfl⟩
  go_wp2_with fail
  refine (add_as H8 _).mono ?_
  rintro e0 w0 ⟨rfl, rfl⟩
  go_wp2_with fail
  refine (mul_as H9 _).mono ?_
  rintro e0 w0 ⟨rfl, rfl⟩
  go_wp2_with fail
  go_ret
  exact ⟨rfl, hbel⟩
set_option maxRecDepth 100000 in
set_option maxHeartbeats 800000 in
theorem laws_tfff (a b c x p n e f : Int) (nb : Bool) (w : World) (hw : Lies w) (ha : -9223372036854775808 ≤ a) (hb : a ≤ 9223372036854775807) (hx1 : -9007199254740992 ≤ x) (hx2 : x ≤ 9007199254740992)
    (H1 : Hid (addF a b = (x, true))) (H2 : Hid (addF b a = (x, true))) (H3 : Hid (mulF a b = (p, false))) (H4 : Hid (mulF b a = (p, false))) (H5 : Hid (negF a = (n, nb))) (H6 : Hid (subF 0 a = (n, nb)))
    (H8 : Hid (addF b c = (e, false))) (H9 : Hid (mulF a c = (f, false))) (H7 : Hid (subF x b = (a, true))) :
    Calls Tryd.prog 4 #[.int .i64 a, .int .i64 b, .int .i64 c] w fun e w' => e = .returned (.bool true) ∧ Below w.heap.size w w' := by
  go_enter Tryd.func4, Tryd.ntmps4
  go_wp2_with fail
  refine (small_any _ hw).mono ?_
  rintro e0 w1 ⟨rfl, hbel⟩
  go_wp2_with fail
  refine (add_as H1 _).mono ?_
  rintro e0 w0 ⟨rfl, rfl⟩
  go_wp2_with fail
  refine (add_as H2 _).mono ?_
  rintro e0 w0 ⟨rfl, rfl⟩
  go_wp2_with fail
  refine (same_refl _ _ _).mono ?_
  rintro e0 w0 ⟨rfl, rfl⟩
  go_wp2_with fail
  refine (mul_as H3 _).mono ?_
  rintro e0 w0 ⟨rfl, rfl⟩
  go_wp2_with fail
  refine (mul_as H4 _).mono ?_
  rintro e0 w0 ⟨rfl, rfl⟩
  go_wp2_with fail
  refine (same_refl _ _ _).mono ?_
  rintro e0 w0 ⟨rfl, rfl⟩
  go_wp2_with fail
  refine (neg_as ha hb H5 _).mono ?_
  rintro e0 w0 ⟨rfl, rfl⟩
  go_wp2_with fail
  refine (sub_as H6 _).mono ?_
  rintro e0 w0 ⟨rfl, rfl⟩
  go_wp2_with fail
  refine (same_refl _ _ _).mono ?_
  rintro e0 w0 ⟨rfl, rfl⟩
  go_wp2_with fail
  refine (sub_as H7 _).mono ?_
  rintro e0 w0 ⟨rfl, rfl⟩
  go_wp2_with fail
  refine (add_as H8 _).mono ?_
  rintro e0 w0 ⟨rfl, rfl⟩
  go_wp2_with fail
  refine (mul_as H9 _).mono ?_
  rintro e0 w0 ⟨rfl, rfl⟩
  go_wp2_with fail
  go_ret
  exact ⟨rfl, hbel⟩
set_option maxRecDepth 100000 in
set_option maxHeartbeats 800000 in
theorem laws_fttt (a b c x p n e f : Int) (nb : Bool) (r : Int) (rb : Bool) (w : World) (hw : Lies w) (ha : -9223372036854775808 ≤ a) (hb : a ≤ 9223372036854775807)
    (H1 : Hid (addF a b = (x, false))) (H2 : Hid (addF b a = (x, false))) (H3 : Hid (mulF a b = (p, true))) (H4 : Hid (mulF b a = (p, true))) (H5 : Hid (negF a = (n, nb))) (H6 : Hid (subF 0 a = (n, nb)))
    (H8 : Hid (addF b c = (e, true))) (H9 : Hid (mulF a c = (f, true))) (HC : Hid (addF p f = (r, rb))) (HD : Hid (mulF a e = (r, rb))) :
    Calls Tryd.prog 4 #[.int .i64 a, .int .i64 b, .int .i64 c] w fun e w' => e = .returned (.bool true) ∧ Below w.heap.size w w' := by
  go_enter Tryd.func4, Tryd.ntmps4
  go_wp2_with fail
  refine (small_any _ hw).mono ?_
  rintro e0 w1 ⟨rfl, hbel⟩
  go_wp2_with fail
  refine (add_as H1 _).mono ?_
  rintro e0 w0 ⟨rfl, rfl⟩
  go_wp2_with fail
  refine (add_as H2 _).mono ?_
  rintro e0 w0 ⟨rfl, rfl⟩
  go_wp2_with fail
  refine (same_refl _ _ _).mono ?_
  rintro e0 w0 ⟨rfl, rfl⟩
  go_wp2_with fail
  refine (mul_as H3 _).mono ?_
  rintro e0 w0 ⟨rfl, rfl⟩
  go_wp2_with fail
  refine (mul_as H4 _).mono ?_
  rintro e0 w0 ⟨rfl, rfl⟩
  go_wp2_with fail
  refine (same_refl _ _ _).mono ?_
  rintro e0 w0 ⟨rfl, rfl⟩
  go_wp2_with fail
  refine (neg_as ha hb H5 _).mono ?_
  rintro e0 w0 ⟨rfl, rfl⟩
  go_wp2_with fail
  refine (sub_as H6 _).mono ?_
  rintro e0 w0 ⟨rfl, rfl⟩
  go_wp2_with fail
  refine (same_refl _ _ _).mono ?_
  rintro e0 w0 ⟨rfl, rfl⟩
  go_wp2_with fail
  refine (add_as H8 _).mono ?_
  rintro e0 w0 ⟨rfl, rfl⟩
  go_wp2_with fail
  refine (mul_as H9 _).mono ?_
  rintro e0 w0 ⟨rfl, rfl⟩
  go_wp2_with fail
  refine (add_as HC _).mono ?_
  rintro e0 w0 ⟨rfl, rfl⟩
  go_wp2_with fail
  refine (mul_as HD _).mono ?_
  rintro e0 w0 ⟨rfl, rfl⟩
  go_wp2_with fail
  refine (same_refl _ _ _).mono ?_
  rintro e0 w0 ⟨rfl, rfl⟩
  go_wp2_with fail
  go_ret
  exact ⟨rfl, hbel⟩
set_option maxRecDepth 100000 in
set_option maxHeartbeats 800000 in
theorem laws_fttf (a b c x p n e f : Int) (nb : Bool) (w : World) (hw : Lies w) (ha : -9223372036854775808 ≤ a) (hb : a ≤ 9223372036854775807)
    (H1 : Hid (addF a b = (x, false))) (H2 : Hid (addF b a = (x, false))) (H3 : Hid (mulF a b = (p, true))) (H4 : Hid (mulF b a = (p, true))) (H5 : Hid (negF a = (n, nb))) (H6 : Hid (subF 0 a = (n, nb)))
    (H8 : Hid (addF b c = (e, true))) (H9 : Hid (mulF a c = (f, false))) :
    Calls Tryd.prog 4 #[.int .i64 a, .int .i64 b, .int .i64 c] w fun e w' => e = .returned (.bool true) ∧ Below w.heap.size w w' := by
  go_enter Tryd.func4, Tryd.ntmps4
  go_wp2_with fail
  refine (small_any _ hw).mono ?_
  rintro e0 w1 ⟨rfl, hbel⟩
  go_wp2_with fail
  refine (add_as H1 _).mono ?_
  rintro e0 w0 ⟨rfl, rfl⟩
  go_wp2_with fail
  refine (add_as H2 _).mono ?_
  rintro e0 w0 ⟨rfl, rfl⟩
  go_wp2_with fail
  refine (same_refl _ _ _).mono ?_
  rintro e0 w0 ⟨rfl, rfl⟩
  go_wp2_with fail
  refine (mul_as H3 _).mono ?_
  rintro e0 w0 ⟨rfl, rfl⟩
  go_wp2_with fail
  refine (mul_as H4 _).mono ?_
  rintro e0 w0 ⟨rfl, rfl⟩
  go_wp2_with fail
  refine (same_refl _ _ _).mono ?_
  rintro e0 w0 ⟨rfl, rfl⟩
  go_wp2_with fail
  refine (neg_as ha hb H5 _).mono ?_
  rintro e0 w0 ⟨rfl, rfl⟩
  go_wp2_with fail
  refine (sub_as H6 _).mono ?_
  rintro e0 w0 ⟨rfl, rfl⟩
  go_wp2_with fail
  refine (same_refl _ _ _).mono ?_
  rintro e0 w0 ⟨rfl, rfl⟩
  go_wp2_with fail
  refine (add_as H8 _).mono ?_
  rintro e0 w0 ⟨rfl, rfl⟩
  go_wp2_with fail
  refine (mul_as H9 _).mono ?_
  rintro e0 w0 ⟨rfl, rfl⟩
  go_wp2_with fail
  go_ret
  exact ⟨rfl, hbel⟩
set_option maxRecDepth 100000 in
set_option maxHeartbeats 800000 in
theorem laws_ftft (a b c x p n e f : Int) (nb : Bool) (w : World) (hw : Lies w) (ha : -9223372036854775808 ≤ a) (hb : a ≤ 9223372036854775807)
    (H1 : Hid (addF a b = (x, false))) (H2 : Hid (addF b a = (x, false))) (H3 : Hid (mulF a b = (p, false))) (H4 : Hid (mulF b a = (p, false))) (H5 : Hid (negF a = (n, nb))) (H6 : Hid (subF 0 a = (n, nb)))
    (H8 : Hid (addF b c = (e, true))) (H9 : Hid (mulF a c = (f, true))) :
    Calls Tryd.prog 4 #[.int .i64 a, .int .i64 b, .int .i64 c] w fun e w' => e = .returned (.bool true) ∧ Below w.heap.size w w' := by
  go_enter Tryd.func4, Tryd.ntmps4
  go_wp2_with fail
  refine (small_any _ hw).mono ?_
  rintro e0 w1 ⟨rfl, hbel⟩
  go_wp2_with fail
  refine (add_as H1 _).mono ?_
  rintro e0 w0 ⟨rfl, rfl⟩
  go_wp2_with fail
  refine (add_as H2 _).mono ?_
  rintro e0 w0 ⟨rfl, rfl⟩
  go_wp2_with fail
  refine (same_refl _ _ _).mono ?_
  rintro e0 w0 ⟨rfl, rfl⟩
  go_wp2_with fail
  refine (mul_as H3 _).mono ?_
  rintro e0 w0 ⟨rfl, rfl⟩
  go_wp2_with fail
  refine (mul_as H4 _).mono ?_
  rintro e0 w0 ⟨rfl, rfl⟩
  go_wp2_with fail
  refine (same_refl _ _ _).mono ?_
  rintro e0 w0 ⟨rfl, rfl⟩
  go_wp2_with fail
  refine (neg_as ha hb H5 _).mono ?_
  rintro e0 w0 ⟨rfl, rfl⟩
  go_wp2_with fail
  refine (sub_as H6 _).mono ?_
  rintro e0 w0 ⟨rfl, rfl⟩
  go_wp2_with fail
  refine (same_refl _ _ _).mono ?_
  rintro e0 w0 ⟨rfl, rfl⟩
  go_wp2_with fail
  refine (add_as H8 _).mono ?_
  rintro e0 w0 ⟨rfl, rfl⟩
  go_wp2_with fail
  refine (mul_as H9 _).mono ?_
  rintro e0 w0 ⟨rfl, rfl⟩
  go_wp2_with fail
  go_ret
  exact ⟨rfl, hbel⟩
set_option maxRecDepth 100000 in
set_option maxHeartbeats 800000 in
theorem laws_ftff (a b c x p n e f : Int) (nb : Bool) (w : World) (hw : Lies w) (ha : -9223372036854775808 ≤ a) (hb : a ≤ 9223372036854775807)
    (H1 : Hid (addF a b = (x, false))) (H2 : Hid (addF b a = (x, false))) (H3 : Hid (mulF a b = (p, false))) (H4 : Hid (mulF b a = (p, false))) (H5 : Hid (negF a = (n, nb))) (H6 : Hid (subF 0 a = (n, nb)))
    (H8 : Hid (addF b c = (e, true))) (H9 : Hid (mulF a c = (f, false))) :
    Calls Tryd.prog 4 #[.int .i64 a, .int .i64 b, .int .i64 c] w fun e w' => e = .returned (.bool true) ∧ Below w.heap.size w w' := by
  go_enter Tryd.func4, Tryd.ntmps4
  go_wp2_with fail
  refine (small_any _ hw).mono ?_
  rintro e0 w1 ⟨rfl, hbel⟩
  go_wp2_with fail
  refine (add_as H1 _).mono ?_
  rintro e0 w0 ⟨rfl, rfl⟩
  go_wp2_with fail
  refine (add_as H2 _).mono ?_
  rintro e0 w0 ⟨rfl, rfl⟩
  go_wp2_with fail
  refine (same_refl _ _ _).mono ?_
  rintro e0 w0 ⟨rfl, rfl⟩
  go_wp2_with fail
  refine (mul_as H3 _).mono ?_
  rintro e0 w0 ⟨rfl, rfl⟩
  go_wp2_with fail
  refine (mul_as H4 _).mono ?_
  rintro e0 w0 ⟨rfl, rfl⟩
  go_wp2_with fail
  refine (same_refl _ _ _).mono ?_
  rintro e0 w0 ⟨rfl, rfl⟩
  go_wp2_with fail
  refine (neg_as ha hb H5 _).mono ?_
  rintro e0 w0 ⟨rfl, rfl⟩
  go_wp2_with fail
  refine (sub_as H6 _).mono ?_
  rintro e0 w0 ⟨rfl, rfl⟩
  go_wp2_with fail
  refine (same_refl _ _ _).mono ?_
  rintro e0 w0 ⟨rfl, rfl⟩
  go_wp2_with fail
  refine (add_as H8 _).mono ?_
  rintro e0 w0 ⟨rfl, rfl⟩
  go_wp2_with fail
  refine (mul_as H9 _).mono ?_
  rintro e0 w0 ⟨rfl, rfl⟩
  go_wp2_with fail
  go_ret
  exact ⟨rfl, hbel⟩
set_option maxRecDepth 100000 in
set_option maxHeartbeats 800000 in
theorem laws_fftt (a b c x p n e f : Int) (nb : Bool) (w : World) (hw : Lies w) (ha : -9223372036854775808 ≤ a) (hb : a ≤ 9223372036854775807)
    (H1 : Hid (addF a b = (x, false))) (H2 : Hid (addF b a = (x, false))) (H3 : Hid (mulF a b = (p, true))) (H4 : Hid (mulF b a = (p, true))) (H5 : Hid (negF a = (n, nb))) (H6 : Hid (subF 0 a = (n, nb)))
    (H8 : Hid (addF b c = (e, false))) (H9 : Hid (mulF a c = (f, true))) :
    Calls Tryd.prog 4 #[.int .i64 a, .int .i64 b, .int .i64 c] w fun e w' => e = .returned (.bool true) ∧ Below w.heap.size w w' := by
  go_enter Tryd.func4, Tryd.ntmps4
  go_wp2_with fail
  refine (small_any _ hw).mono ?_
  rintro e0 w1 ⟨rfl, hbel⟩
  go_wp2_with fail
  refine (add_as H1 _).mono ?_
  rintro e0 w0 ⟨rfl, rfl⟩
  go_wp2_with fail
  refine (add_as H2 _).mono ?_
  rintro e0 w0 ⟨rfl, rfl⟩
  go_wp2_with fail
  refine (same_refl _ _ _).mono ?_
  rintro e0 w0 ⟨rfl, rfl⟩
  go_wp2_with fail
  refine (mul_as H3 _).mono ?_
  rintro e0 w0 ⟨rfl, rfl⟩
  go_wp2_with fail
  refine (mul_as H4 _).mono ?_
  rintro e0 w0 ⟨rfl, rfl⟩
  go_wp2_with fail
  refine (same_refl _ _ _).mono ?_
  rintro e0 w0 ⟨rfl, rfl⟩
  go_wp2_with fail
  refine (neg_as ha hb H5 _).mono ?_
  rintro e0 w0 ⟨rfl, rfl⟩
  go_wp2_with fail
  refine (sub_as H6 _).mono ?_
  rintro e0 w0 ⟨rfl, rfl⟩
  go_wp2_with fail
  refine (same_refl _ _ _).mono ?_
  rintro e0 w0 ⟨rfl, rfl⟩
  go_wp2_with fail
  refine (add_as H8 _).mono ?_
  rintro e0 w0 ⟨rfl, rfl⟩
  go_wp2_with fail
  refine (mul_as H9 _).mono ?_
  rintro e0 w0 ⟨rfl, rfl⟩
  go_wp2_with fail
  go_ret
  exact ⟨rfl, hbel⟩
set_option maxRecDepth 100000 in
set_option maxHeartbeats 800000 in
theorem laws_fftf (a b c x p n e f : Int) (nb : Bool) (w : World) (hw : Lies w) (ha : -9223372036854775808 ≤ a) (hb : a ≤ 9223372036854775807)
    (H1 : Hid (addF a b = (x, false))) (H2 : Hid (addF b a = (x, false))) (H3 : Hid (mulF a b = (p, true))) (H4 : Hid (mulF b a = (p, true))) (H5 : Hid (negF a = (n, nb))) (H6 : Hid (subF 0 a = (n, nb)))
    (H8 : Hid (addF b c = (e, false))) (H9 : Hid (mulF a c = (f, false))) :
    Calls Tryd.prog 4 #[.int .i64 a, .int .i64 b, .int .i64 c] w fun e w' => e = .returned (.bool true) ∧ Below w.heap.size w w' := by
  go_enter Tryd.func4, Tryd.ntmps4
  go_wp2_with fail
  refine (small_any _ hw).mono ?_
  rintro e0 w1 ⟨rfl, hbel⟩
  go_wp2_with fail
  refine (add_as H1 _).mono ?_
  rintro e0 w0 ⟨rfl, rfl⟩
  go_wp2_with fail
  refine (add_as H2 _).mono ?_
  rintro e0 w0 ⟨rfl, rfl⟩
  go_wp2_with fail
  refine (same_refl _ _ _).mono ?_
  rintro e0 w0 ⟨rfl, rfl⟩
  go_wp2_with fail
  refine (mul_as H3 _).mono ?_
  rintro e0 w0 ⟨rfl, rfl⟩
  go_wp2_with fail
  refine (mul_as H4 _).mono ?_
  rintro e0 w0 ⟨rfl, rfl⟩
  go_wp2_with fail
  refine (same_refl _ _ _).mono ?_
  rintro e0 w0 ⟨rfl, rfl⟩
  go_wp2_with fail
  refine (neg_as ha hb H5 _).mono ?_
  rintro e0 w0 ⟨rfl, rfl⟩
  go_wp2_with fail
  refine (sub_as H6 _).mono ?_
  rintro e0 w0 ⟨rfl, rfl⟩
  go_wp2_with fail
  refine (same_refl _ _ _).mono ?_
  rintro e0 w0 ⟨rfl, rfl⟩
  go_wp2_with fail
  refine (add_as H8 _).mono ?_
  rintro e0 w0 ⟨rfl, rfl⟩
  go_wp2_with fail
  refine (mul_as H9 _).mono ?_
  rintro e0 w0 ⟨rfl, rfl⟩
  go_wp2_with fail
  go_ret
  exact ⟨rfl, hbel⟩
set_option maxRecDepth 100000 in
set_option maxHeartbeats 800000 in
theorem laws_ffft (a b c x p n e f : Int) (nb : Bool) (w : World) (hw : Lies w) (ha : -9223372036854775808 ≤ a) (hb : a ≤ 9223372036854775807)
    (H1 : Hid (addF a b = (x, false))) (H2 : Hid (addF b a = (x, false))) (H3 : Hid (mulF a b = (p, false))) (H4 : Hid (mulF b a = (p, false))) (H5 : Hid (negF a = (n, nb))) (H6 : Hid (subF 0 a = (n, nb)))
    (H8 : Hid (addF b c = (e, false))) (H9 : Hid (mulF a c = (f, true))) :
    Calls Tryd.prog 4 #[.int .i64 a, .int .i64 b, .int .i64 c] w fun e w' => e = .returned (.bool true) ∧ Below w.heap.size w w' := by
  go_enter Tryd.func4, Tryd.ntmps4
  go_wp2_with fail
  refine (small_any _ hw).mono ?_
  rintro e0 w1 ⟨rfl, hbel⟩
  go_wp2_with fail
  refine (add_as H1 _).mono ?_
  rintro e0 w0 ⟨rfl, rfl⟩
  go_wp2_with fail
  refine (add_as H2 _).mono ?_
  rintro e0 w0 ⟨rfl, rfl⟩
  go_wp2_with fail
  refine (same_refl _ _ _).mono ?_
  rintro e0 w0 ⟨rfl, rfl⟩
  go_wp2_with fail
  refine (mul_as H3 _).mono ?_
  rintro e0 w0 ⟨rfl, rfl⟩
  go_wp2_with fail
  refine (mul_as H4 _).mono ?_
  rintro e0 w0 ⟨rfl, rfl⟩
  go_wp2_with fail
  refine (same_refl _ _ _).mono ?_
  rintro e0 w0 ⟨rfl, rfl⟩
  go_wp2_with fail
  refine (neg_as ha hb H5 _).mono ?_
  rintro e0 w0 ⟨rfl, rfl⟩
  go_wp2_with fail
  refine (sub_as H6 _).mono ?_
  rintro e0 w0 ⟨rfl, rfl⟩
  go_wp2_with fail
  refine (same_refl _ _ _).mono ?_
  rintro e0 w0 ⟨rfl, rfl⟩
  go_wp2_with fail
  refine (add_as H8 _).mono ?_
  rintro e0 w0 ⟨rfl, rfl⟩
  go_wp2_with fail
  refine (mul_as H9 _).mono ?_
  rintro e0 w0 ⟨rfl, rfl⟩
  go_wp2_with fail
  go_ret
  exact ⟨rfl, hbel⟩
set_option maxRecDepth 100000 in
set_option maxHeartbeats 800000 in
theorem laws_ffff (a b c x p n e f : Int) (nb : Bool) (w : World) (hw : Lies w) (ha : -9223372036854775808 ≤ a) (hb : a ≤ 9223372036854775807)
    (H1 : Hid (addF a b = (x, false))) (H2 : Hid (addF b a = (x, false))) (H3 : Hid (mulF a b = (p, false))) (H4 : Hid (mulF b a = (p, false))) (H5 : Hid (negF a = (n, nb))) (H6 : Hid (subF 0 a = (n, nb)))
    (H8 : Hid (addF b c = (e, false))) (H9 : Hid (mulF a c = (f, false))) :
    Calls Tryd.prog 4 #[.int .i64 a, .int .i64 b, .int .i64 c] w fun e w' => e = .returned (.bool true) ∧ Below w.heap.size w w' := by
  go_enter Tryd.func4, Tryd.ntmps4
  go_wp2_with fail
  refine (small_any _ hw).mono ?_
  rintro e0 w1 ⟨rfl, hbel⟩
  go_wp2_with fail
  refine (add_as H1 _).mono ?_
  rintro e0 w0 ⟨rfl, rfl⟩
  go_wp2_with fail
  refine (add_as H2 _).mono ?_
  rintro e0 w0 ⟨rfl, rfl⟩
  go_wp2_with fail
  refine (same_refl _ _ _).mono ?_
  rintro e0 w0 ⟨rfl, rfl⟩
  go_wp2_with fail
  refine (mul_as H3 _).mono ?_
  rintro e0 w0 ⟨rfl, rfl⟩
  go_wp2_with fail
  refine (mul_as H4 _).mono ?_
  rintro e0 w0 ⟨rfl, rfl⟩
  go_wp2_with fail
  refine (same_refl _ _ _).mono ?_
  rintro e0 w0 ⟨rfl, rfl⟩
  go_wp2_with fail
  refine (neg_as ha hb H5 _).mono ?_
  rintro e0 w0 ⟨rfl, rfl⟩
  go_wp2_with fail
  refine (sub_as H6 _).mono ?_
  rintro e0 w0 ⟨rfl, rfl⟩
  go_wp2_with fail
  refine (same_refl _ _ _).mono ?_
  rintro e0 w0 ⟨rfl, rfl⟩
  go_wp2_with fail
  refine (add_as H8 _).mono ?_
  rintro e0 w0 ⟨rfl, rfl⟩
  go_wp2_with fail
  refine (mul_as H9 _).mono ?_
  rintro e0 w0 ⟨rfl, rfl⟩
  go_wp2_with fail
  go_ret
  exact ⟨rfl, hbel⟩
theorem laws_any (a b c : Int) (w : World) (hw : Lies w) (ha : -9223372036854775808 ≤ a) (hb : a ≤ 9223372036854775807) : Calls Tryd.prog 4 #[.int .i64 a, .int .i64 b, .int .i64 c] w fun e w' => e = .returned (.bool true) ∧ Below w.heap.size w w' := by
  have H2 := addF_comm a b
  have H4 := mulF_comm a b
  have H6 := sub_zero_neg a
  rcases H1 : addF a b with ⟨x, ok⟩
  rcases H3 : mulF a b with ⟨p, one⟩
  rcases H5 : negF a with ⟨n, nb⟩
  rcases H8 : addF b c with ⟨e, five⟩
  rcases H9 : mulF a c with ⟨f, six⟩
  rw [H1] at H2
  rw [H3] at H4
  rw [H5] at H6
  have hx : -9007199254740992 ≤ x ∧ x ≤ 9007199254740992 := by
    unfold addF at H1
    split at H1
    · rename_i h
      injection H1 with h1 _
      rw [← h1]
      exact h.2.2
    · injection H1 with h1 _
      rw [← h1]
      decide
  rcases HA : addF x c with ⟨l, lb⟩
  rcases HC : addF p f with ⟨r, rb⟩
  cases ok <;> cases five <;> cases one <;> cases six
  · exact laws_ffff a b c x p n e f nb w hw ha hb H1 H2 H3 H4 H5 H6 H8 H9
  · exact laws_ffft a b c x p n e f nb w hw ha hb H1 H2 H3 H4 H5 H6 H8 H9
  · exact laws_fftf a b c x p n e f nb w hw ha hb H1 H2 H3 H4 H5 H6 H8 H9
  · exact laws_fftt a b c x p n e f nb w hw ha hb H1 H2 H3 H4 H5 H6 H8 H9
  · exact laws_ftff a b c x p n e f nb w hw ha hb H1 H2 H3 H4 H5 H6 H8 H9
  · exact laws_ftft a b c x p n e f nb w hw ha hb H1 H2 H3 H4 H5 H6 H8 H9
  · exact laws_fttf a b c x p n e f nb w hw ha hb H1 H2 H3 H4 H5 H6 H8 H9
  · exact laws_fttt a b c x p n e f nb r rb w hw ha hb H1 H2 H3 H4 H5 H6 H8 H9 HC ((mul_distrib H3 H9 H8).trans HC)
  · exact laws_tfff a b c x p n e f nb w hw ha hb hx.1 hx.2 H1 H2 H3 H4 H5 H6 H8 H9 (sub_back H1)
  · exact laws_tfft a b c x p n e f nb w hw ha hb hx.1 hx.2 H1 H2 H3 H4 H5 H6 H8 H9 (sub_back H1)
  · exact laws_tftf a b c x p n e f nb w hw ha hb hx.1 hx.2 H1 H2 H3 H4 H5 H6 H8 H9 (sub_back H1)
  · exact laws_tftt a b c x p n e f nb w hw ha hb hx.1 hx.2 H1 H2 H3 H4 H5 H6 H8 H9 (sub_back H1)
  · exact laws_ttff a b c x p n e f nb l lb w hw ha hb hx.1 hx.2 H1 H2 H3 H4 H5 H6 H8 H9 (sub_back H1) HA ((add_assoc H1 H8).trans HA)
  · exact laws_ttft a b c x p n e f nb l lb w hw ha hb hx.1 hx.2 H1 H2 H3 H4 H5 H6 H8 H9 (sub_back H1) HA ((add_assoc H1 H8).trans HA)
  · exact laws_tttf a b c x p n e f nb l lb w hw ha hb hx.1 hx.2 H1 H2 H3 H4 H5 H6 H8 H9 (sub_back H1) HA ((add_assoc H1 H8).trans HA)
  · exact laws_tttt a b c x p n e f nb l lb r rb w hw ha hb hx.1 hx.2 H1 H2 H3 H4 H5 H6 H8 H9 (sub_back H1) HA ((add_assoc H1 H8).trans HA) HC ((mul_distrib H3 H9 H8).trans HC)
end Go.Proofs.YteibjolnnonmnaaDoor
