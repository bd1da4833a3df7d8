/-
  The walk of PressTells.
-/
import Derived.Test.YtmcdbjkmkbdeiaaBackL
import Derived.Test.YtmcdbjkmkbdeiaaRefU
namespace Go.Proofs.Ytmcdbjkmkbdeiaa
open Go.RowKit
set_option maxRecDepth 20000 in
set_option maxHeartbeats 1000000 in
theorem tells_any (s t : ByteArray) (w : World) : Calls Try.prog 3 #[.string s, .string t] w fun e w' => e = .returned (.bool true) ∧ Below w.heap.size w w' := by
  have S0 := Lib.hid small_any
  by_cases h1 : 600 < s.size
  · have i1 : decide ((600 : Int) < (s.size : Int)) = true := by simp; omega
    go_enter Try.func3, Try.ntmps3
    go_wp2_with (go_at_call 7; refine (S0.out _).mono ?_; rintro e w1 ⟨rfl, h1⟩; have B1 := Lib.hid h1; clear h1)
    go_ret
    exact ⟨rfl, B1.out⟩
  · have i1 : decide ((600 : Int) < (s.size : Int)) = false := by simp; omega
    by_cases h2 : 600 < t.size
    · have i2 : decide ((600 : Int) < (t.size : Int)) = true := by simp; omega
      go_enter Try.func3, Try.ntmps3
      go_wp2_with (go_at_call 7; refine (S0.out _).mono ?_; rintro e w1 ⟨rfl, h1⟩; have B1 := Lib.hid h1; clear h1)
      go_ret
      exact ⟨rfl, B1.out⟩
    · have i2 : decide ((600 : Int) < (t.size : Int)) = false := by simp; omega
      obtain ⟨n, hn⟩ : ∃ n, n = (rNum (some (ls t))).1 := ⟨_, rfl⟩
      have hnlt : n < 9223372036854775808 := by rw [hn]; exact rNum_lt _
      have O : Hid (∀ W, Calls Try.prog 8 #[.string t] W fun e w' => ∃ b, e = .returned (.pointer (some ⟨b, 0, none⟩)) ∧ W.heap.size ≤ b ∧ Rd w' b 34 (some (ls t)) ∧ Below W.heap.size W w') := Lib.hid (fun W => xopen_any (ls t) W)
      have M : Hid (∀ b W, Rd W b 34 (some (ls t)) → Calls Try.prog 9 #[.pointer (some ⟨b, 0, none⟩)] W fun e w' => e = .returned (.int .i64 (n : Nat)) ∧ W.grownBy w' (some b)) := Lib.hid (fun b W h => (xnum_any b (some (ls t)) W h (by show (ls t).length ≤ _; rw [ls_length]; omega)).mono fun e w' ⟨h1, h2, h3⟩ => ⟨by rw [hn]; exact h1, h3⟩)
      by_cases hbig : 100000 < n
      · have i3 : decide ((100000 : Int) < (n : Int)) = true := by simp; omega
        clear hn
        go_enter Try.func3, Try.ntmps3
        go_wp2_with (first
          | (go_at_call 7; refine (S0.out _).mono ?_; rintro e w1 ⟨rfl, h1⟩; have B1 := Lib.hid h1; clear h1)
          | (go_at_call 8; refine (O.out _).mono ?_; rintro e w2 ⟨b, rfl, hb, h1, h2⟩; have R2 := Lib.hid h1; have B2 := Lib.hid (bw B1.out h2 B1.out.size); have hb2 := Nat.le_trans B1.out.size hb; clear h1 h2)
          | (go_at_call 9; refine (M.out _ _ R2.out).mono ?_; rintro e w3 ⟨rfl, h4⟩; have B3 := Lib.hid (below_grown B2.out h4 hb2 B2.out.size); clear h4))
        go_ret
        exact ⟨rfl, B3.out⟩
      · have i3 : decide ((100000 : Int) < (n : Int)) = false := by simp; omega
        clear hn
        obtain ⟨u, ok, U, V⟩ : ∃ (u : ByteArray) (ok : Bool), Hid (∀ w, Calls Try.prog 10 #[.string t] w fun e w' => e = .returned (.tuple #[.string u, .bool ok]) ∧ Below w.heap.size w w') ∧ Hid (∀ w, Calls Try.prog 11 #[.string t] w fun e w' => e = .returned (.tuple #[.string u, .bool ok]) ∧ Below w.heap.size w w') :=
          ⟨_, _, Lib.hid (fun w => unpack_any (ls t) w (by rw [ls_length]; omega)), Lib.hid (fun w => xunpack_any (ls t) w (by rw [ls_length]; omega))⟩
        obtain ⟨p, P, Q⟩ : ∃ (p : ByteArray), Hid (∀ w, Calls Try.prog 12 #[.string s] w fun e w' => e = .returned (.string p) ∧ Below w.heap.size w w') ∧ Hid (∀ w, Calls Try.prog 13 #[.string s] w fun e w' => e = .returned (.string p) ∧ Below w.heap.size w w') :=
          ⟨_, Lib.hid (fun w => pack_any (ls s) w (by rw [ls_length]; omega)), Lib.hid (fun w => xpack_any (ls s) w (by rw [ls_length]; omega))⟩
        go_enter Try.func3, Try.ntmps3
        go_wp2_with (first
          | (go_at_call 7; refine (S0.out _).mono ?_; rintro e w1 ⟨rfl, h1⟩; have B1 := Lib.hid h1; clear h1)
          | (go_at_call 8; refine (O.out _).mono ?_; rintro e w2 ⟨b, rfl, hb, h1, h2⟩; have R2 := Lib.hid h1; have B2 := Lib.hid (bw B1.out h2 B1.out.size); have hb2 := Nat.le_trans B1.out.size hb; clear h1 h2)
          | (go_at_call 9; refine (M.out _ _ R2.out).mono ?_; rintro e w3 ⟨rfl, h4⟩; have B3 := Lib.hid (below_grown B2.out h4 hb2 B2.out.size); clear h4)
          | (go_at_call 10; refine (U.out _).mono ?_; rintro e w4 ⟨rfl, h4⟩; have B4 := Lib.hid (bw B3.out h4 B3.out.size); clear h4)
          | (go_at_call 11; refine (V.out _).mono ?_; rintro e w5 ⟨rfl, h4⟩; have B5 := Lib.hid (bw B4.out h4 B4.out.size); clear h4)
          | (go_at_call 12; refine (P.out _).mono ?_; rintro e w6 ⟨rfl, h4⟩; have B6 := Lib.hid (bw B5.out h4 B5.out.size); clear h4)
          | (go_at_call 13; refine (Q.out _).mono ?_; rintro e w7 ⟨rfl, h4⟩; have B7 := Lib.hid (bw B6.out h4 B6.out.size); clear h4))
        go_ret
        exact ⟨by simp, B7.out⟩
end Go.Proofs.Ytmcdbjkmkbdeiaa
