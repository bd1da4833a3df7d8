/-
  The walk of PressRepeats.
-/
import Derived.Test.YtmcdbjkmkbdeiaaBackL
namespace Go.Proofs.Ytmcdbjkmkbdeiaa
open Go.RowKit
theorem reps_small (s : ByteArray) (k n : Nat) (h1 : s.size ≤ 300) (h2 : k ≤ n) (h3 : n ≤ 12) : (mk (reps (ls s) k)).size ≤ 3600 := by
  show (reps (ls s) k).length ≤ 3600
  rw [reps_length, ls_length]
  have := Nat.mul_le_mul (show k ≤ 12 by omega) h1
  omega
theorem reps_up (s : ByteArray) (k : Nat) : mk (reps (ls s) k) ++ s = mk (reps (ls s) (k + 1)) := by
  show _ = mk (reps (ls s) k ++ ls s)
  rw [← mk_append, mk_ls]
set_option maxRecDepth 20000 in
set_option maxHeartbeats 1000000 in
theorem repeats_any (s : ByteArray) (n : Int) (w : World) : Calls Try.prog 6 #[.string s, .int .i64 n] w fun e w' => e = .returned (.bool true) ∧ Below w.heap.size w w' := by
  have S0 := Lib.hid small_any
  by_cases h1 : s.size < 4
  · have i1 : decide ((s.size : Int) < 4) = true := by simp; omega
    go_enter Try.func6, Try.ntmps6
    go_wp2_with (go_at_call 7; refine (S0.out _).mono ?_; rintro e w1 ⟨rfl, h1⟩; have B1 := Lib.hid h1; clear h1)
    go_ret
    exact ⟨rfl, B1.out⟩
  · have i1 : decide ((s.size : Int) < 4) = false := by simp; omega
    by_cases h2 : 300 < s.size
    · have i2 : decide ((300 : Int) < (s.size : Int)) = true := by simp; omega
      go_enter Try.func6, Try.ntmps6
      go_wp2_with (go_at_call 7; refine (S0.out _).mono ?_; rintro e w1 ⟨rfl, h1⟩; have B1 := Lib.hid h1; clear h1)
      go_ret
      exact ⟨rfl, B1.out⟩
    · have i2 : decide ((300 : Int) < (s.size : Int)) = false := by simp; omega
      by_cases h3 : n < 1
      · have i3 : decide (n < 1) = true := by simpa using h3
        go_enter Try.func6, Try.ntmps6
        go_wp2_with (go_at_call 7; refine (S0.out _).mono ?_; rintro e w1 ⟨rfl, h1⟩; have B1 := Lib.hid h1; clear h1)
        go_ret
        exact ⟨rfl, B1.out⟩
      · have i3 : decide (n < 1) = false := by simpa using h3
        by_cases h4 : 12 < n
        · have i4 : decide (12 < n) = true := by simpa using h4
          go_enter Try.func6, Try.ntmps6
          go_wp2_with (go_at_call 7; refine (S0.out _).mono ?_; rintro e w1 ⟨rfl, h1⟩; have B1 := Lib.hid h1; clear h1)
          go_ret
          exact ⟨rfl, B1.out⟩
        · have i4 : decide (12 < n) = false := by simpa using h4
          obtain ⟨N, rfl⟩ : ∃ N : Nat, n = N := ⟨n.toNat, by omega⟩
          have hb : s.size ≤ 300 := by omega
          go_enter Try.func6, Try.ntmps6
          go_wp2_with (go_at_call 7; refine (S0.out _).mono ?_; rintro e w1 ⟨rfl, h1⟩; have B1 := Lib.hid h1; clear h1)
          go_loop [6, 7] (fun a i => ∃ k : Nat, k ≤ N ∧ a = .string (mk (reps (ls s) k)) ∧ i = .int .i64 k) (fun _ i => N - (intOf i).toNat)
          case atStart => exact ⟨0, by omega, rfl, rfl⟩
          case round =>
            obtain ⟨k, hk, rfl, rfl⟩ := hrel
            by_cases hlt : k < N
            · have j1 : decide ((k : Int) < (N : Int)) = true := by simp; omega
              have z1 := reps_small s k N hb hk (by omega)
              go_wp2
              go_round
              case rel => exact ⟨k + 1, by omega, by rw [reps_up], by go_num⟩
              case measure => simp [intOf]; omega
            · have j1 : decide ((k : Int) < (N : Int)) = false := by simp; omega
              have hkN : k = N := by omega
              have z1 := reps_small s k N hb hk (by omega)
              obtain ⟨p, hp, HP, P, U⟩ := packed (mk (reps (ls s) k)) (by omega)
              have hp2 : p.size ≤ 2 * s.size + 10 := by
                have := pack_reps (ls s) k (by rw [ls_length]; omega) (by rw [ls_length]; omega) (by omega) (by omega)
                have e := congrArg List.length HP.out
                rw [ls_length, ls_mk] at e
                rw [ls_length] at this
                omega
              clear hkN
              have i5 : decide ((p.size : Int) ≤ 2 * (s.size : Int) + 20) = true := by simp; omega
              go_wp2_with (first
                | (go_at_call 12; refine (P.out _).mono ?_; rintro e w2 ⟨rfl, h2⟩; have B2 := Lib.hid (bw B1.out h2 B1.out.size); clear h2)
                | (go_at_call 10; refine (U.out _).mono ?_; rintro e w3 ⟨rfl, h3⟩; have B3 := Lib.hid (bw B2.out h3 B2.out.size); clear h3))
              go_ret
              exact ⟨by simp, B3.out⟩
end Go.Proofs.Ytmcdbjkmkbdeiaa
