/-
  The contracts of NumBack and NumTells: whatever the input, the call returns true.
-/
import Derived.Test.YteibjolnnonmnaaDoorSmall
import Derived.Test.YteibjolnnonmnaaDoorLaws
import Derived.Test.YteibjolnnonmnaaDoorDivides
import Derived.Test.YteibjolnnonmnaaDoorRparse
import Derived.Lib.Hide
namespace Go.Proofs.YteibjolnnonmnaaDoor
open Go.RowKit

theorem clamp_as {n l h c : Int} (H : Hid (clampF n l h = c)) (W : World) : Calls Tryd.prog 25 #[.int .i64 n, .int .i64 l, .int .i64 h] W fun e w' => e = .returned (.int .i64 c) ∧ W = w' := by
  have := clamp_any n l h W
  rw [H.out] at this
  exact this
theorem rclamp_as {n l h c : Int} (H : Hid (clampF n l h = c)) (W : World) : Calls Tryd.prog 26 #[.int .i64 n, .int .i64 l, .int .i64 h] W fun e w' => e = .returned (.int .i64 c) ∧ W = w' := by
  have := rclamp_any n l h W
  rw [H.out] at this
  exact this
theorem text_as {n : Int} {u : ByteArray} (H : Hid (Lib.itoa n = u.data.toList)) (h0 : -9223372036854775808 ≤ n) (h1 : n ≤ 9223372036854775807) (W : World) (hW : Lies W) :
    Calls Tryd.prog 23 #[.int .i64 n] W fun e w' => e = .returned (.string u) ∧ Below W.heap.size W w' := by
  have := text_any n h0 h1 W hW
  rw [H.out] at this
  exact this
theorem parse_as {s : ByteArray} {low high k : Int} {is : Bool} (H : Hid (parseF s.data.toList low high = (k, is))) (h0 : -9223372036854775808 ≤ low) (h1 : high ≤ 9223372036854775807) (hs : s.size ≤ 281474976710656) (W : World) (hW : Lies W) :
    Calls Tryd.prog 21 #[.string s, .int .i64 low, .int .i64 high] W fun e w' => e = .returned (.tuple #[.int .i64 k, .bool is]) ∧ Below W.heap.size W w' := by
  have := parse_any s low high h0 h1 hs W hW
  rw [H.out] at this
  exact this
theorem rparse_as {s : ByteArray} {low high k : Int} {is : Bool} (H : Hid (parseF s.data.toList low high = (k, is))) (h0 : -9223372036854775808 ≤ low) (h1 : high ≤ 9223372036854775807) (hs : s.size ≤ 281474976710656) (W : World) :
    Calls Tryd.prog 22 #[.string s, .int .i64 low, .int .i64 high] W fun e w' => e = .returned (.tuple #[.int .i64 k, .bool is]) ∧ Below W.heap.size W w' := by
  have := rparse_any s low high h0 h1 hs W
  rw [H.out] at this
  exact this
theorem radd_as {a b x : Int} {k : Bool} (h : Hid (addF a b = (x, k))) (W : World) : Calls Tryd.prog 9 #[.int .i64 a, .int .i64 b] W fun e w' => e = .returned (.tuple #[.int .i64 x, .bool k]) ∧ W = w' := by
  have := radd_any a b W
  rw [h.out] at this
  exact this
theorem rsub_as {a b x : Int} {k : Bool} (h : Hid (subF a b = (x, k))) (W : World) : Calls Tryd.prog 12 #[.int .i64 a, .int .i64 b] W fun e w' => e = .returned (.tuple #[.int .i64 x, .bool k]) ∧ W = w' := by
  have := rsub_any a b W
  rw [h.out] at this
  exact this
theorem rmul_as {a b x : Int} {k : Bool} (h : Hid (mulF a b = (x, k))) (W : World) : Calls Tryd.prog 14 #[.int .i64 a, .int .i64 b] W fun e w' => e = .returned (.tuple #[.int .i64 x, .bool k]) ∧ W = w' := by
  have := rmul_any a b W
  rw [h.out] at this
  exact this
theorem rdiv_as {a b x : Int} {k : Bool} (h : Hid (divF a b = (x, k))) (W : World) : Calls Tryd.prog 16 #[.int .i64 a, .int .i64 b] W fun e w' => e = .returned (.tuple #[.int .i64 x, .bool k]) ∧ W = w' := by
  have := rdiv_any a b W
  rw [h.out] at this
  exact this
theorem rmod_as {a b x : Int} {k : Bool} (h : Hid (modF a b = (x, k))) (W : World) : Calls Tryd.prog 18 #[.int .i64 a, .int .i64 b] W fun e w' => e = .returned (.tuple #[.int .i64 x, .bool k]) ∧ W = w' := by
  have := rmod_any a b W
  rw [h.out] at this
  exact this
theorem rneg_as {a x : Int} {k : Bool} (ha : -9223372036854775808 ≤ a) (hb : a ≤ 9223372036854775807) (h : Hid (negF a = (x, k))) (W : World) : Calls Tryd.prog 20 #[.int .i64 a] W fun e w' => e = .returned (.tuple #[.int .i64 x, .bool k]) ∧ W = w' := by
  have := rneg_any a W ha hb
  rw [h.out] at this
  exact this
set_option maxHeartbeats 400000 in
theorem back_long (n : Int) (s : ByteArray) (low high : Int) (w : World) (hw : Lies w) (hs : 200 < s.size) (hs2 : s.size ≤ 9223372036854775807) : Calls Tryd.prog 6 #[.int .i64 n, .string s, .int .i64 low, .int .i64 high] w fun e w' => e = .returned (.bool true) ∧ Below w.heap.size w w' := by
  go_enter Tryd.func6, Tryd.ntmps6
  go_wp2_with fail
  refine (small_any _ hw).mono ?_
  rintro e0 w9 ⟨rfl, hbel⟩
  go_wp2_with fail
  go_ret
  exact ⟨rfl, hbel⟩
set_option maxHeartbeats 400000 in
theorem tells_long (a b low high : Int) (s : ByteArray) (w : World) (hw : Lies w) (hs : 200 < s.size) (hs2 : s.size ≤ 9223372036854775807) : Calls Tryd.prog 3 #[.int .i64 a, .int .i64 b, .int .i64 low, .int .i64 high, .string s] w fun e w' => e = .returned (.bool true) ∧ Below w.heap.size w w' := by
  go_enter Tryd.func3, Tryd.ntmps3
  go_wp2_with fail
  refine (small_any _ hw).mono ?_
  rintro e0 w9 ⟨rfl, hbel⟩
  go_wp2_with fail
  go_ret
  exact ⟨rfl, hbel⟩
set_option maxRecDepth 100000 in
set_option maxHeartbeats 800000 in
theorem back_tB (n : Int) (s u : ByteArray) (low high : Int)  (k : Int) (hk1 : low ≤ k) (hk2 : k ≤ high) (hk3 : -9223372036854775808 ≤ k) (hk4 : k ≤ 9223372036854775807) (HK : Hid (Lib.itoa k = s.data.toList)) (w : World) (hw : Lies w) (hs : s.size ≤ 200) (hu : u.size ≤ 200) (hn1 : -9223372036854775808 ≤ n) (hn2 : n ≤ 9223372036854775807) (hl : -9223372036854775808 ≤ low) (hh : high ≤ 9223372036854775807) (h1 : low ≤ high) (h2 : n < low)
    (HU : Hid (Lib.itoa n = u.data.toList)) (H1 : Hid (parseF u.data.toList (-9223372036854775808) 9223372036854775807 = (n, true))) (H2 : Hid (parseF s.data.toList low high = (k, true))) (H3 : Hid (clampF n low high = low)) :
    Calls Tryd.prog 6 #[.int .i64 n, .string s, .int .i64 low, .int .i64 high] w fun e w' => e = .returned (.bool true) ∧ Below w.heap.size w w' := by
  have d1 : decide (high < low) = false := decide_eq_false (by omega)
  have d2 : decide (low ≤ high) = true := decide_eq_true (by omega)
  have d3 : decide (n < low) = true := decide_eq_true (by omega)
  have f1 : decide (k < low) = false := decide_eq_false (by omega)
  have f2 : decide (high < k) = false := decide_eq_false (by omega)
  go_enter Tryd.func6, Tryd.ntmps6
  go_wp2_with fail
  refine (small_any _ hw).mono ?_
  rintro e0 w9 ⟨rfl, hbel⟩
  have hw2 := hw.on hbel
  clear hw
  have hw := hw2
  clear hw2
  go_wp2_with fail
  refine (text_as HU hn1 hn2 _ hw).mono ?_
  rintro e0 w1 ⟨rfl, hb1⟩
  have hbel2 := hbel.trans (hb1.mono hbel.size)
  have hw2 := hw.on hb1
  clear hbel hw hb1
  have hbel := hbel2
  have hw := hw2
  clear hbel2 hw2
  go_wp2_with fail
  refine (parse_as H1 (by omega) (by omega) (by omega) _ hw).mono ?_
  rintro e0 w2 ⟨rfl, hb2⟩
  have hbel2 := hbel.trans (hb2.mono hbel.size)
  have hw2 := hw.on hb2
  clear hbel hw hb2
  have hbel := hbel2
  have hw := hw2
  clear hbel2 hw2
  go_wp2_with fail
  refine (parse_as H2 hl hh (by omega) _ hw).mono ?_
  rintro e0 w3 ⟨rfl, hb3⟩
  have hbel2 := hbel.trans (hb3.mono hbel.size)
  have hw2 := hw.on hb3
  clear hbel hw hb3
  have hbel := hbel2
  have hw := hw2
  clear hbel2 hw2
  go_wp2_with fail
  refine (clamp_as H3 _).mono ?_
  rintro e0 w0 ⟨rfl, rfl⟩
  go_wp2_with fail
  refine (text_as HK hk3 hk4 _ hw).mono ?_
  rintro e0 w4 ⟨rfl, hb4⟩
  have hbel2 := hbel.trans (hb4.mono hbel.size)
  have hw2 := hw.on hb4
  clear hbel hw hb4
  have hbel := hbel2
  have hw := hw2
  clear hbel2 hw2
  go_wp2_with fail
  go_ret
  exact ⟨rfl, hbel⟩
set_option maxRecDepth 100000 in
set_option maxHeartbeats 800000 in
theorem back_tC (n : Int) (s u : ByteArray) (low high : Int)  (k : Int) (hk1 : low ≤ k) (hk2 : k ≤ high) (hk3 : -9223372036854775808 ≤ k) (hk4 : k ≤ 9223372036854775807) (HK : Hid (Lib.itoa k = s.data.toList)) (w : World) (hw : Lies w) (hs : s.size ≤ 200) (hu : u.size ≤ 200) (hn1 : -9223372036854775808 ≤ n) (hn2 : n ≤ 9223372036854775807) (hl : -9223372036854775808 ≤ low) (hh : high ≤ 9223372036854775807) (h1 : low ≤ high) (h2 : high < n)
    (HU : Hid (Lib.itoa n = u.data.toList)) (H1 : Hid (parseF u.data.toList (-9223372036854775808) 9223372036854775807 = (n, true))) (H2 : Hid (parseF s.data.toList low high = (k, true))) (H3 : Hid (clampF n low high = high)) :
    Calls Tryd.prog 6 #[.int .i64 n, .string s, .int .i64 low, .int .i64 high] w fun e w' => e = .returned (.bool true) ∧ Below w.heap.size w w' := by
  have d1 : decide (high < low) = false := decide_eq_false (by omega)
  have d2 : decide (low ≤ high) = true := decide_eq_true (by omega)
  have d3 : decide (n < low) = false := decide_eq_false (by omega)
  have d4 : decide (high < n) = true := decide_eq_true (by omega)
  have f1 : decide (k < low) = false := decide_eq_false (by omega)
  have f2 : decide (high < k) = false := decide_eq_false (by omega)
  go_enter Tryd.func6, Tryd.ntmps6
  go_wp2_with fail
  refine (small_any _ hw).mono ?_
  rintro e0 w9 ⟨rfl, hbel⟩
  have hw2 := hw.on hbel
  clear hw
  have hw := hw2
  clear hw2
  go_wp2_with fail
  refine (text_as HU hn1 hn2 _ hw).mono ?_
  rintro e0 w1 ⟨rfl, hb1⟩
  have hbel2 := hbel.trans (hb1.mono hbel.size)
  have hw2 := hw.on hb1
  clear hbel hw hb1
  have hbel := hbel2
  have hw := hw2
  clear hbel2 hw2
  go_wp2_with fail
  refine (parse_as H1 (by omega) (by omega) (by omega) _ hw).mono ?_
  rintro e0 w2 ⟨rfl, hb2⟩
  have hbel2 := hbel.trans (hb2.mono hbel.size)
  have hw2 := hw.on hb2
  clear hbel hw hb2
  have hbel := hbel2
  have hw := hw2
  clear hbel2 hw2
  go_wp2_with fail
  refine (parse_as H2 hl hh (by omega) _ hw).mono ?_
  rintro e0 w3 ⟨rfl, hb3⟩
  have hbel2 := hbel.trans (hb3.mono hbel.size)
  have hw2 := hw.on hb3
  clear hbel hw hb3
  have hbel := hbel2
  have hw := hw2
  clear hbel2 hw2
  go_wp2_with fail
  refine (clamp_as H3 _).mono ?_
  rintro e0 w0 ⟨rfl, rfl⟩
  go_wp2_with fail
  refine (text_as HK hk3 hk4 _ hw).mono ?_
  rintro e0 w4 ⟨rfl, hb4⟩
  have hbel2 := hbel.trans (hb4.mono hbel.size)
  have hw2 := hw.on hb4
  clear hbel hw hb4
  have hbel := hbel2
  have hw := hw2
  clear hbel2 hw2
  go_wp2_with fail
  go_ret
  exact ⟨rfl, hbel⟩
set_option maxRecDepth 100000 in
set_option maxHeartbeats 800000 in
theorem back_tD (n : Int) (s u : ByteArray) (low high : Int)  (k : Int) (hk1 : low ≤ k) (hk2 : k ≤ high) (hk3 : -9223372036854775808 ≤ k) (hk4 : k ≤ 9223372036854775807) (HK : Hid (Lib.itoa k = s.data.toList)) (w : World) (hw : Lies w) (hs : s.size ≤ 200) (hu : u.size ≤ 200) (hn1 : -9223372036854775808 ≤ n) (hn2 : n ≤ 9223372036854775807) (hl : -9223372036854775808 ≤ low) (hh : high ≤ 9223372036854775807) (h2 : low ≤ n) (h3 : n ≤ high)
    (HU : Hid (Lib.itoa n = u.data.toList)) (H1 : Hid (parseF u.data.toList (-9223372036854775808) 9223372036854775807 = (n, true))) (H2 : Hid (parseF s.data.toList low high = (k, true))) (H3 : Hid (clampF n low high = n)) :
    Calls Tryd.prog 6 #[.int .i64 n, .string s, .int .i64 low, .int .i64 high] w fun e w' => e = .returned (.bool true) ∧ Below w.heap.size w w' := by
  have d1 : decide (high < low) = false := decide_eq_false (by omega)
  have d2 : decide (low ≤ n) = true := decide_eq_true (by omega)
  have d5 : decide (n ≤ high) = true := decide_eq_true (by omega)
  have d3 : decide (n < low) = false := decide_eq_false (by omega)
  have d4 : decide (high < n) = false := decide_eq_false (by omega)
  have f1 : decide (k < low) = false := decide_eq_false (by omega)
  have f2 : decide (high < k) = false := decide_eq_false (by omega)
  go_enter Tryd.func6, Tryd.ntmps6
  go_wp2_with fail
  refine (small_any _ hw).mono ?_
  rintro e0 w9 ⟨rfl, hbel⟩
  have hw2 := hw.on hbel
  clear hw
  have hw := hw2
  clear hw2
  go_wp2_with fail
  refine (text_as HU hn1 hn2 _ hw).mono ?_
  rintro e0 w1 ⟨rfl, hb1⟩
  have hbel2 := hbel.trans (hb1.mono hbel.size)
  have hw2 := hw.on hb1
  clear hbel hw hb1
  have hbel := hbel2
  have hw := hw2
  clear hbel2 hw2
  go_wp2_with fail
  refine (parse_as H1 (by omega) (by omega) (by omega) _ hw).mono ?_
  rintro e0 w2 ⟨rfl, hb2⟩
  have hbel2 := hbel.trans (hb2.mono hbel.size)
  have hw2 := hw.on hb2
  clear hbel hw hb2
  have hbel := hbel2
  have hw := hw2
  clear hbel2 hw2
  go_wp2_with fail
  refine (parse_as H2 hl hh (by omega) _ hw).mono ?_
  rintro e0 w3 ⟨rfl, hb3⟩
  have hbel2 := hbel.trans (hb3.mono hbel.size)
  have hw2 := hw.on hb3
  clear hbel hw hb3
  have hbel := hbel2
  have hw := hw2
  clear hbel2 hw2
  go_wp2_with fail
  refine (clamp_as H3 _).mono ?_
  rintro e0 w0 ⟨rfl, rfl⟩
  go_wp2_with fail
  refine (text_as HK hk3 hk4 _ hw).mono ?_
  rintro e0 w4 ⟨rfl, hb4⟩
  have hbel2 := hbel.trans (hb4.mono hbel.size)
  have hw2 := hw.on hb4
  clear hbel hw hb4
  have hbel := hbel2
  have hw := hw2
  clear hbel2 hw2
  go_wp2_with fail
  go_ret
  exact ⟨rfl, hbel⟩
set_option maxRecDepth 100000 in
set_option maxHeartbeats 800000 in
theorem back_fA (n : Int) (s u : ByteArray) (low high : Int) (c : Int)  (w : World) (hw : Lies w) (hs : s.size ≤ 200) (hu : u.size ≤ 200) (hn1 : -9223372036854775808 ≤ n) (hn2 : n ≤ 9223372036854775807) (hl : -9223372036854775808 ≤ low) (hh : high ≤ 9223372036854775807) (h1 : high < low)
    (HU : Hid (Lib.itoa n = u.data.toList)) (H1 : Hid (parseF u.data.toList (-9223372036854775808) 9223372036854775807 = (n, true))) (H2 : Hid (parseF s.data.toList low high = (0, false))) (H3 : Hid (clampF n low high = c)) :
    Calls Tryd.prog 6 #[.int .i64 n, .string s, .int .i64 low, .int .i64 high] w fun e w' => e = .returned (.bool true) ∧ Below w.heap.size w w' := by
  have d1 : decide (high < low) = true := decide_eq_true (by omega)
  go_enter Tryd.func6, Tryd.ntmps6
  go_wp2_with fail
  refine (small_any _ hw).mono ?_
  rintro e0 w9 ⟨rfl, hbel⟩
  have hw2 := hw.on hbel
  clear hw
  have hw := hw2
  clear hw2
  go_wp2_with fail
  refine (text_as HU hn1 hn2 _ hw).mono ?_
  rintro e0 w1 ⟨rfl, hb1⟩
  have hbel2 := hbel.trans (hb1.mono hbel.size)
  have hw2 := hw.on hb1
  clear hbel hw hb1
  have hbel := hbel2
  have hw := hw2
  clear hbel2 hw2
  go_wp2_with fail
  refine (parse_as H1 (by omega) (by omega) (by omega) _ hw).mono ?_
  rintro e0 w2 ⟨rfl, hb2⟩
  have hbel2 := hbel.trans (hb2.mono hbel.size)
  have hw2 := hw.on hb2
  clear hbel hw hb2
  have hbel := hbel2
  have hw := hw2
  clear hbel2 hw2
  go_wp2_with fail
  refine (parse_as H2 hl hh (by omega) _ hw).mono ?_
  rintro e0 w3 ⟨rfl, hb3⟩
  have hbel2 := hbel.trans (hb3.mono hbel.size)
  have hw2 := hw.on hb3
  clear hbel hw hb3
  have hbel := hbel2
  have hw := hw2
  clear hbel2 hw2
  go_wp2_with fail
  refine (clamp_as H3 _).mono ?_
  rintro e0 w0 ⟨rfl, rfl⟩
  go_wp2_with fail
  go_ret
  exact ⟨rfl, hbel⟩
set_option maxRecDepth 100000 in
set_option maxHeartbeats 800000 in
theorem back_fB (n : Int) (s u : ByteArray) (low high : Int)   (w : World) (hw : Lies w) (hs : s.size ≤ 200) (hu : u.size ≤ 200) (hn1 : -9223372036854775808 ≤ n) (hn2 : n ≤ 9223372036854775807) (hl : -9223372036854775808 ≤ low) (hh : high ≤ 9223372036854775807) (h1 : low ≤ high) (h2 : n < low)
    (HU : Hid (Lib.itoa n = u.data.toList)) (H1 : Hid (parseF u.data.toList (-9223372036854775808) 9223372036854775807 = (n, true))) (H2 : Hid (parseF s.data.toList low high = (0, false))) (H3 : Hid (clampF n low high = low)) :
    Calls Tryd.prog 6 #[.int .i64 n, .string s, .int .i64 low, .int .i64 high] w fun e w' => e = .returned (.bool true) ∧ Below w.heap.size w w' := by
  have d1 : decide (high < low) = false := decide_eq_false (by omega)
  have d2 : decide (low ≤ high) = true := decide_eq_true (by omega)
  have d3 : decide (n < low) = true := decide_eq_true (by omega)
  go_enter Tryd.func6, Tryd.ntmps6
  go_wp2_with fail
  refine (small_any _ hw).mono ?_
  rintro e0 w9 ⟨rfl, hbel⟩
  have hw2 := hw.on hbel
  clear hw
  have hw := hw2
  clear hw2
  go_wp2_with fail
  refine (text_as HU hn1 hn2 _ hw).mono ?_
  rintro e0 w1 ⟨rfl, hb1⟩
  have hbel2 := hbel.trans (hb1.mono hbel.size)
  have hw2 := hw.on hb1
  clear hbel hw hb1
  have hbel := hbel2
  have hw := hw2
  clear hbel2 hw2
  go_wp2_with fail
  refine (parse_as H1 (by omega) (by omega) (by omega) _ hw).mono ?_
  rintro e0 w2 ⟨rfl, hb2⟩
  have hbel2 := hbel.trans (hb2.mono hbel.size)
  have hw2 := hw.on hb2
  clear hbel hw hb2
  have hbel := hbel2
  have hw := hw2
  clear hbel2 hw2
  go_wp2_with fail
  refine (parse_as H2 hl hh (by omega) _ hw).mono ?_
  rintro e0 w3 ⟨rfl, hb3⟩
  have hbel2 := hbel.trans (hb3.mono hbel.size)
  have hw2 := hw.on hb3
  clear hbel hw hb3
  have hbel := hbel2
  have hw := hw2
  clear hbel2 hw2
  go_wp2_with fail
  refine (clamp_as H3 _).mono ?_
  rintro e0 w0 ⟨rfl, rfl⟩
  go_wp2_with fail
  go_ret
  exact ⟨rfl, hbel⟩
set_option maxRecDepth 100000 in
set_option maxHeartbeats 800000 in
theorem back_fC (n : Int) (s u : ByteArray) (low high : Int)   (w : World) (hw : Lies w) (hs : s.size ≤ 200) (hu : u.size ≤ 200) (hn1 : -9223372036854775808 ≤ n) (hn2 : n ≤ 9223372036854775807) (hl : -9223372036854775808 ≤ low) (hh : high ≤ 9223372036854775807) (h1 : low ≤ high) (h2 : high < n)
    (HU : Hid (Lib.itoa n = u.data.toList)) (H1 : Hid (parseF u.data.toList (-9223372036854775808) 9223372036854775807 = (n, true))) (H2 : Hid (parseF s.data.toList low high = (0, false))) (H3 : Hid (clampF n low high = high)) :
    Calls Tryd.prog 6 #[.int .i64 n, .string s, .int .i64 low, .int .i64 high] w fun e w' => e = .returned (.bool true) ∧ Below w.heap.size w w' := by
  have d1 : decide (high < low) = false := decide_eq_false (by omega)
  have d2 : decide (low ≤ high) = true := decide_eq_true (by omega)
  have d3 : decide (n < low) = false := decide_eq_false (by omega)
  have d4 : decide (high < n) = true := decide_eq_true (by omega)
  go_enter Tryd.func6, Tryd.ntmps6
  go_wp2_with fail
  refine (small_any _ hw).mono ?_
  rintro e0 w9 ⟨rfl, hbel⟩
  have hw2 := hw.on hbel
  clear hw
  have hw := hw2
  clear hw2
  go_wp2_with fail
  refine (text_as HU hn1 hn2 _ hw).mono ?_
  rintro e0 w1 ⟨rfl, hb1⟩
  have hbel2 := hbel.trans (hb1.mono hbel.size)
  have hw2 := hw.on hb1
  clear hbel hw hb1
  have hbel := hbel2
  have hw := hw2
  clear hbel2 hw2
  go_wp2_with fail
  refine (parse_as H1 (by omega) (by omega) (by omega) _ hw).mono ?_
  rintro e0 w2 ⟨rfl, hb2⟩
  have hbel2 := hbel.trans (hb2.mono hbel.size)
  have hw2 := hw.on hb2
  clear hbel hw hb2
  have hbel := hbel2
  have hw := hw2
  clear hbel2 hw2
  go_wp2_with fail
  refine (parse_as H2 hl hh (by omega) _ hw).mono ?_
  rintro e0 w3 ⟨rfl, hb3⟩
  have hbel2 := hbel.trans (hb3.mono hbel.size)
  have hw2 := hw.on hb3
  clear hbel hw hb3
  have hbel := hbel2
  have hw := hw2
  clear hbel2 hw2
  go_wp2_with fail
  refine (clamp_as H3 _).mono ?_
  rintro e0 w0 ⟨rfl, rfl⟩
  go_wp2_with fail
  go_ret
  exact ⟨rfl, hbel⟩
set_option maxRecDepth 100000 in
set_option maxHeartbeats 800000 in
theorem back_fD (n : Int) (s u : ByteArray) (low high : Int)   (w : World) (hw : Lies w) (hs : s.size ≤ 200) (hu : u.size ≤ 200) (hn1 : -9223372036854775808 ≤ n) (hn2 : n ≤ 9223372036854775807) (hl : -9223372036854775808 ≤ low) (hh : high ≤ 9223372036854775807) (h2 : low ≤ n) (h3 : n ≤ high)
    (HU : Hid (Lib.itoa n = u.data.toList)) (H1 : Hid (parseF u.data.toList (-9223372036854775808) 9223372036854775807 = (n, true))) (H2 : Hid (parseF s.data.toList low high = (0, false))) (H3 : Hid (clampF n low high = n)) :
    Calls Tryd.prog 6 #[.int .i64 n, .string s, .int .i64 low, .int .i64 high] w fun e w' => e = .returned (.bool true) ∧ Below w.heap.size w w' := by
  have d1 : decide (high < low) = false := decide_eq_false (by omega)
  have d2 : decide (low ≤ n) = true := decide_eq_true (by omega)
  have d5 : decide (n ≤ high) = true := decide_eq_true (by omega)
  have d3 : decide (n < low) = false := decide_eq_false (by omega)
  have d4 : decide (high < n) = false := decide_eq_false (by omega)
  go_enter Tryd.func6, Tryd.ntmps6
  go_wp2_with fail
  refine (small_any _ hw).mono ?_
  rintro e0 w9 ⟨rfl, hbel⟩
  have hw2 := hw.on hbel
  clear hw
  have hw := hw2
  clear hw2
  go_wp2_with fail
  refine (text_as HU hn1 hn2 _ hw).mono ?_
  rintro e0 w1 ⟨rfl, hb1⟩
  have hbel2 := hbel.trans (hb1.mono hbel.size)
  have hw2 := hw.on hb1
  clear hbel hw hb1
  have hbel := hbel2
  have hw := hw2
  clear hbel2 hw2
  go_wp2_with fail
  refine (parse_as H1 (by omega) (by omega) (by omega) _ hw).mono ?_
  rintro e0 w2 ⟨rfl, hb2⟩
  have hbel2 := hbel.trans (hb2.mono hbel.size)
  have hw2 := hw.on hb2
  clear hbel hw hb2
  have hbel := hbel2
  have hw := hw2
  clear hbel2 hw2
  go_wp2_with fail
  refine (parse_as H2 hl hh (by omega) _ hw).mono ?_
  rintro e0 w3 ⟨rfl, hb3⟩
  have hbel2 := hbel.trans (hb3.mono hbel.size)
  have hw2 := hw.on hb3
  clear hbel hw hb3
  have hbel := hbel2
  have hw := hw2
  clear hbel2 hw2
  go_wp2_with fail
  refine (clamp_as H3 _).mono ?_
  rintro e0 w0 ⟨rfl, rfl⟩
  go_wp2_with fail
  go_ret
  exact ⟨rfl, hbel⟩
theorem parse_text (n : Int) (h0 : -9223372036854775808 ≤ n) (h1 : n ≤ 9223372036854775807) : parseF (Lib.itoa n) (-9223372036854775808) 9223372036854775807 = (n, true) := by
  obtain ⟨e1, e2⟩ := itoa_canon n
  unfold parseF
  rw [e2, if_pos ⟨e1, h0, h1⟩]
theorem back_any (n low high : Int) (s : ByteArray) (w : World) (hw : Lies w) (hn1 : -9223372036854775808 ≤ n) (hn2 : n ≤ 9223372036854775807) (hl : -9223372036854775808 ≤ low) (hh : high ≤ 9223372036854775807) (hs2 : s.size ≤ 9223372036854775807) :
    Calls Tryd.prog 6 #[.int .i64 n, .string s, .int .i64 low, .int .i64 high] w fun e w' => e = .returned (.bool true) ∧ Below w.heap.size w w' := by
  by_cases hs : 200 < s.size
  · exact back_long n s low high w hw hs hs2
  · have hlen := Lib.itoa_length_le n hn1 hn2
    have hsz := size_list (⟨(Lib.itoa n).toArray⟩ : ByteArray)
    have hpt := parse_text n hn1 hn2
    obtain ⟨u, hu⟩ : ∃ u : ByteArray, u = ⟨(Lib.itoa n).toArray⟩ := ⟨_, rfl⟩
    have hul : Lib.itoa n = u.data.toList := by rw [hu]
    have husz : u.size ≤ 200 := by
      rw [← size_list u, ← hul]
      omega
    rw [hul] at hpt
    by_cases hp : canonB s.data.toList = true ∧ low ≤ canV s.data.toList ∧ canV s.data.toList ≤ high
    · have H2 : parseF s.data.toList low high = (canV s.data.toList, true) := if_pos hp
      have HK := canon_itoa _ hp.1
      obtain ⟨_, k1, k2⟩ := hp
      generalize canV s.data.toList = k at H2 HK k1 k2
      rcases Int.lt_or_le n low with h2 | h2
      · exact back_tB n s u low high k k1 k2 (by omega) (by omega) HK w hw (by omega) husz hn1 hn2 hl hh (by omega) h2 hul hpt H2 (if_pos h2)
      · rcases Int.lt_or_le high n with h3 | h3
        · exact back_tC n s u low high k k1 k2 (by omega) (by omega) HK w hw (by omega) husz hn1 hn2 hl hh (by omega) h3 hul hpt H2 ((if_neg (by omega)).trans (if_pos h3))
        · exact back_tD n s u low high k k1 k2 (by omega) (by omega) HK w hw (by omega) husz hn1 hn2 hl hh h2 h3 hul hpt H2 ((if_neg (by omega)).trans (if_neg (by omega)))
    · have H2 : parseF s.data.toList low high = (0, false) := if_neg hp
      rcases Int.lt_or_le high low with h1 | h1
      · exact back_fA n s u low high _ w hw (by omega) husz hn1 hn2 hl hh h1 hul hpt H2 rfl
      · rcases Int.lt_or_le n low with h2 | h2
        · exact back_fB n s u low high w hw (by omega) husz hn1 hn2 hl hh h1 h2 hul hpt H2 (if_pos h2)
        · rcases Int.lt_or_le high n with h3 | h3
          · exact back_fC n s u low high w hw (by omega) husz hn1 hn2 hl hh h1 h3 hul hpt H2 ((if_neg (by omega)).trans (if_pos h3))
          · exact back_fD n s u low high w hw (by omega) husz hn1 hn2 hl hh h2 h3 hul hpt H2 ((if_neg (by omega)).trans (if_neg (by omega)))
set_option maxRecDepth 100000 in
set_option maxHeartbeats 1600000 in
theorem tells_short (a b low high : Int) (s u : ByteArray) (x1 x2 x3 x4 x5 x6 x7 c : Int) (k1 k2 k3 k4 k5 k6 k7 : Bool) (w : World) (hw : Lies w) (hs : s.size ≤ 200) (ha1 : -9223372036854775808 ≤ a) (ha2 : a ≤ 9223372036854775807) (hl : -9223372036854775808 ≤ low) (hh : high ≤ 9223372036854775807)
    (H1 : Hid (addF a b = (x1, k1))) (H2 : Hid (subF a b = (x2, k2))) (H3 : Hid (mulF a b = (x3, k3))) (H4 : Hid (divF a b = (x4, k4))) (H5 : Hid (modF a b = (x5, k5))) (H6 : Hid (negF a = (x6, k6))) (H7 : Hid (parseF s.data.toList low high = (x7, k7)))
    (HU : Hid (Lib.itoa a = u.data.toList)) (HC : Hid (clampF a low high = c)) :
    Calls Tryd.prog 3 #[.int .i64 a, .int .i64 b, .int .i64 low, .int .i64 high, .string s] w fun e w' => e = .returned (.bool true) ∧ Below w.heap.size w w' := by
  go_enter Tryd.func3, Tryd.ntmps3
  go_wp2_with fail
  refine (small_any _ hw).mono ?_
  rintro e0 w9 ⟨rfl, hbel⟩
  have hw2 := hw.on hbel
  clear hw
  have hw := hw2
  clear hw2
  go_wp2_with fail
  refine (add_as H1 _).mono ?_
  rintro e0 w0 ⟨rfl, rfl⟩
  go_wp2_with fail
  refine (radd_as H1 _).mono ?_
  rintro e0 w0 ⟨rfl, rfl⟩
  go_wp2_with fail
  refine (same_refl _ _ _).mono ?_
  rintro e0 w0 ⟨rfl, rfl⟩
  go_wp2_with fail
  refine (sub_as H2 _).mono ?_
  rintro e0 w0 ⟨rfl, rfl⟩
  go_wp2_with fail
  refine (rsub_as H2 _).mono ?_
  rintro e0 w0 ⟨rfl, rfl⟩
  go_wp2_with fail
  refine (same_refl _ _ _).mono ?_
  rintro e0 w0 ⟨rfl, rfl⟩
  go_wp2_with fail
  refine (mul_as H3 _).mono ?_
  rintro e0 w0 ⟨rfl, rfl⟩
  go_wp2_with fail
  refine (rmul_as H3 _).mono ?_
  rintro e0 w0 ⟨rfl, rfl⟩
  go_wp2_with fail
  refine (same_refl _ _ _).mono ?_
  rintro e0 w0 ⟨rfl, rfl⟩
  go_wp2_with fail
  refine (div_as H4 _).mono ?_
  rintro e0 w0 ⟨rfl, rfl⟩
  go_wp2_with fail
  refine (rdiv_as H4 _).mono ?_
  rintro e0 w0 ⟨rfl, rfl⟩
  go_wp2_with fail
  refine (same_refl _ _ _).mono ?_
  rintro e0 w0 ⟨rfl, rfl⟩
  go_wp2_with fail
  refine (mod_as H5 _).mono ?_
  rintro e0 w0 ⟨rfl, rfl⟩
  go_wp2_with fail
  refine (rmod_as H5 _).mono ?_
  rintro e0 w0 ⟨rfl, rfl⟩
  go_wp2_with fail
  refine (same_refl _ _ _).mono ?_
  rintro e0 w0 ⟨rfl, rfl⟩
  go_wp2_with fail
  refine (neg_as ha1 ha2 H6 _).mono ?_
  rintro e0 w0 ⟨rfl, rfl⟩
  go_wp2_with fail
  refine (rneg_as ha1 ha2 H6 _).mono ?_
  rintro e0 w0 ⟨rfl, rfl⟩
  go_wp2_with fail
  refine (same_refl _ _ _).mono ?_
  rintro e0 w0 ⟨rfl, rfl⟩
  go_wp2_with fail
  refine (parse_as H7 hl hh (by omega) _ hw).mono ?_
  rintro e0 w1 ⟨rfl, hb1⟩
  have hbel2 := hbel.trans (hb1.mono hbel.size)
  have hw2 := hw.on hb1
  clear hbel hw hb1
  have hbel := hbel2
  have hw := hw2
  clear hbel2 hw2
  go_wp2_with fail
  refine (rparse_as H7 hl hh (by omega) _).mono ?_
  rintro e0 w2 ⟨rfl, hb2⟩
  have hbel2 := hbel.trans (hb2.mono hbel.size)
  have hw2 := hw.on hb2
  clear hbel hw hb2
  have hbel := hbel2
  have hw := hw2
  clear hbel2 hw2
  go_wp2_with fail
  refine (same_refl _ _ _).mono ?_
  rintro e0 w0 ⟨rfl, rfl⟩
  go_wp2_with fail
  refine (text_as HU ha1 ha2 _ hw).mono ?_
  rintro e0 w3 ⟨rfl, hb3⟩
  have hbel2 := hbel.trans (hb3.mono hbel.size)
  have hw2 := hw.on hb3
  clear hbel hw hb3
  have hbel := hbel2
  have hw := hw2
  clear hbel2 hw2
  go_wp2_with fail
  refine (rtext_as a u HU ha1 ha2 _).mono ?_
  rintro e0 w4 ⟨rfl, hb4⟩
  have hbel2 := hbel.trans (hb4.mono hbel.size)
  have hw2 := hw.on hb4
  clear hbel hw hb4
  have hbel := hbel2
  have hw := hw2
  clear hbel2 hw2
  go_wp2_with fail
  refine (clamp_as HC _).mono ?_
  rintro e0 w0 ⟨rfl, rfl⟩
  go_wp2_with fail
  refine (rclamp_as HC _).mono ?_
  rintro e0 w0 ⟨rfl, rfl⟩
  go_wp2_with fail
  go_ret
  exact ⟨rfl, hbel⟩
theorem tells_any (a b low high : Int) (s : ByteArray) (w : World) (hw : Lies w) (ha1 : -9223372036854775808 ≤ a) (ha2 : a ≤ 9223372036854775807) (hl : -9223372036854775808 ≤ low) (hh : high ≤ 9223372036854775807) (hs2 : s.size ≤ 9223372036854775807) :
    Calls Tryd.prog 3 #[.int .i64 a, .int .i64 b, .int .i64 low, .int .i64 high, .string s] w fun e w' => e = .returned (.bool true) ∧ Below w.heap.size w w' := by
  by_cases hs : 200 < s.size
  · exact tells_long a b low high s w hw hs hs2
  · exact tells_short a b low high s ⟨(Lib.itoa a).toArray⟩ _ _ _ _ _ _ _ _ _ _ _ _ _ _ _ w hw (by omega) ha1 ha2 hl hh rfl rfl rfl rfl rfl rfl rfl rfl rfl
end Go.Proofs.YteibjolnnonmnaaDoor
