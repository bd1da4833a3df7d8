/-
  The two functions digit.
-/
import Derived.Test.YtdkhinjogomdaaaDoorMem
import Derived.Outline
namespace Go.Proofs.YtdkhinjogomdaaaDoor
open Go.RowKit
theorem digit_lo (n : Nat) (w : World) (h : n < 48) : Calls Tryd.prog 19 #[.int .u8 n] w fun e w' => e = .returned (.tuple #[.int .u8 0, .bool false]) ∧ w = w' := by
  have d1 : decide ((48 : Int) ≤ (n : Int)) = false := by simp; omega
  have d2 : decide ((97 : Int) ≤ (n : Int)) = false := by simp; omega
  have d1' : decide (48 ≤ n) = false := by simp; omega
  have d2' : decide (97 ≤ n) = false := by simp; omega
  go_enter Tryd.func19, Tryd.ntmps19
  go_wp2
  go_ret2
  exact ⟨rfl, rfl⟩
theorem digit_num (n m : Nat) (w : World) (h : 48 ≤ n) (h2 : n ≤ 57) (hm : m = n - 48) : Calls Tryd.prog 19 #[.int .u8 n] w fun e w' => e = .returned (.tuple #[.int .u8 m, .bool true]) ∧ w = w' := by
  have d1 : decide ((48 : Int) ≤ (n : Int)) = true := by simp; omega
  have d2 : decide ((n : Int) ≤ 57) = true := by simp; omega
  have d1' : decide (48 ≤ n) = true := by simp; omega
  have d2' : decide (n ≤ 57) = true := by simp; omega
  have e1 : (n : Int) - 48 = m := by omega
  have m1 : m < 256 := by omega
  clear hm
  go_enter Tryd.func19, Tryd.ntmps19
  go_wp2
  go_ret2
  exact ⟨rfl, rfl⟩
theorem digit_mid (n : Nat) (w : World) (h : 57 < n) (h2 : n < 97) : Calls Tryd.prog 19 #[.int .u8 n] w fun e w' => e = .returned (.tuple #[.int .u8 0, .bool false]) ∧ w = w' := by
  have d1 : decide ((48 : Int) ≤ (n : Int)) = true := by simp; omega
  have d2 : decide ((n : Int) ≤ 57) = false := by simp; omega
  have d3 : decide ((97 : Int) ≤ (n : Int)) = false := by simp; omega
  have d1' : decide (48 ≤ n) = true := by simp; omega
  have d2' : decide (n ≤ 57) = false := by simp; omega
  have d3' : decide (97 ≤ n) = false := by simp; omega
  go_enter Tryd.func19, Tryd.ntmps19
  go_wp2
  go_ret2
  exact ⟨rfl, rfl⟩
theorem digit_let (n m k : Nat) (w : World) (h : 97 ≤ n) (h2 : n ≤ 102) (hk : k = n - 97) (hm : m = k + 10) : Calls Tryd.prog 19 #[.int .u8 n] w fun e w' => e = .returned (.tuple #[.int .u8 m, .bool true]) ∧ w = w' := by
  have d1 : decide ((48 : Int) ≤ (n : Int)) = true := by simp; omega
  have d2 : decide ((n : Int) ≤ 57) = false := by simp; omega
  have d3 : decide ((97 : Int) ≤ (n : Int)) = true := by simp; omega
  have d4 : decide ((n : Int) ≤ 102) = true := by simp; omega
  have d1' : decide (48 ≤ n) = true := by simp; omega
  have d2' : decide (n ≤ 57) = false := by simp; omega
  have d3' : decide (97 ≤ n) = true := by simp; omega
  have d4' : decide (n ≤ 102) = true := by simp; omega
  have e1 : (n : Int) - 97 = k := by omega
  have e2 : (k : Int) + 10 = m := by omega
  have k1 : k < 256 := by omega
  have m1 : m < 256 := by omega
  clear hm hk
  go_enter Tryd.func19, Tryd.ntmps19
  go_wp2
  go_ret2
  exact ⟨rfl, rfl⟩
theorem digit_hi (n : Nat) (w : World) (h : 102 < n) (h2 : n < 256) : Calls Tryd.prog 19 #[.int .u8 n] w fun e w' => e = .returned (.tuple #[.int .u8 0, .bool false]) ∧ w = w' := by
  have d1 : decide ((48 : Int) ≤ (n : Int)) = true := by simp; omega
  have d2 : decide ((n : Int) ≤ 57) = false := by simp; omega
  have d3 : decide ((97 : Int) ≤ (n : Int)) = true := by simp; omega
  have d4 : decide ((n : Int) ≤ 102) = false := by simp; omega
  have d1' : decide (48 ≤ n) = true := by simp; omega
  have d2' : decide (n ≤ 57) = false := by simp; omega
  have d3' : decide (97 ≤ n) = true := by simp; omega
  have d4' : decide (n ≤ 102) = false := by simp; omega
  go_enter Tryd.func19, Tryd.ntmps19
  go_wp2
  go_ret2
  exact ⟨rfl, rfl⟩
/-- The code's digit: the value and whether there is one. -/
theorem digit_yes (c : UInt8) (w : World) (h : Hex.un c < 16) : Calls Tryd.prog 19 #[.int .u8 (c.toNat : Nat)] w fun e w' => e = .returned (.tuple #[.int .u8 (Hex.un c : Nat), .bool true]) ∧ w = w' := by
  unfold Hex.un at h ⊢
  split at h
  · rename_i hc
    rw [if_pos hc]
    exact digit_num c.toNat _ w hc.1 hc.2 rfl
  · rename_i hc
    rw [if_neg hc]
    split at h
    · rename_i hd
      rw [if_pos hd]
      exact digit_let c.toNat _ (c.toNat - 97) w hd.1 hd.2 rfl (by omega)
    · omega
theorem digit_no (c : UInt8) (w : World) (h : ¬ Hex.un c < 16) : Calls Tryd.prog 19 #[.int .u8 (c.toNat : Nat)] w fun e w' => e = .returned (.tuple #[.int .u8 0, .bool false]) ∧ w = w' := by
  have hb := c.toNat_lt
  unfold Hex.un at h
  split at h
  · omega
  · rename_i hc
    split at h
    · omega
    · rename_i hd
      by_cases h1 : c.toNat < 48
      · exact digit_lo _ w h1
      · by_cases h2 : c.toNat < 97
        · exact digit_mid _ w (by omega) h2
        · exact digit_hi _ w (by omega) hb
theorem rdigit_any (c : UInt8) (w : World) : Calls Tryd.prog 20 #[.int .u8 (c.toNat : Nat)] w fun e w' => e = .returned (.int .i64 (Hex.un c : Nat)) ∧ w = w' := by
  have hb := c.toNat_lt
  obtain ⟨n, hn⟩ : ∃ n, n = c.toNat := ⟨_, rfl⟩
  obtain ⟨u, hu⟩ : ∃ u, u = Hex.un c := ⟨_, rfl⟩
  unfold Hex.un at hu
  have goal : Calls Tryd.prog 20 #[.int .u8 (n : Nat)] w fun e w' => e = .returned (.int .i64 (u : Nat)) ∧ w = w' := by
    rw [← hn] at hu hb
    clear hn
    by_cases h1 : n < 48
    · have d1 : decide ((48 : Int) ≤ (n : Int)) = false := by simp; omega
      have d2 : decide ((97 : Int) ≤ (n : Int)) = false := by simp; omega
      have d1' : decide (48 ≤ n) = false := by simp; omega
      have d2' : decide (97 ≤ n) = false := by simp; omega
      obtain rfl : u = 16 := by rw [hu]; rw [if_neg (by omega), if_neg (by omega)]
      clear hu
      go_enter Tryd.func20, Tryd.ntmps20
      go_wp2
      go_ret
      exact ⟨rfl, rfl⟩
    · by_cases h2 : n ≤ 57
      · have d1 : decide ((48 : Int) ≤ (n : Int)) = true := by simp; omega
        have d2 : decide ((n : Int) ≤ 57) = true := by simp; omega
        have d1' : decide (48 ≤ n) = true := by simp; omega
        have d2' : decide (n ≤ 57) = true := by simp; omega
        have e0 : u = n - 48 := by rw [hu]; rw [if_pos (by omega)]
        have e1 : (n : Int) - 48 = u := by omega
        have u1 : u < 256 := by omega
        clear hu e0
        go_enter Tryd.func20, Tryd.ntmps20
        go_wp2
        go_ret
        exact ⟨rfl, rfl⟩
      · by_cases h3 : n < 97
        · have d1 : decide ((48 : Int) ≤ (n : Int)) = true := by simp; omega
          have d2 : decide ((n : Int) ≤ 57) = false := by simp; omega
          have d3 : decide ((97 : Int) ≤ (n : Int)) = false := by simp; omega
          have d1' : decide (48 ≤ n) = true := by simp; omega
          have d2' : decide (n ≤ 57) = false := by simp; omega
          have d3' : decide (97 ≤ n) = false := by simp; omega
          obtain rfl : u = 16 := by rw [hu]; rw [if_neg (by omega), if_neg (by omega)]
          clear hu
          go_enter Tryd.func20, Tryd.ntmps20
          go_wp2
          go_ret
          exact ⟨rfl, rfl⟩
        · have d1 : decide ((48 : Int) ≤ (n : Int)) = true := by simp; omega
          have d2 : decide ((n : Int) ≤ 57) = false := by simp; omega
          have d3 : decide ((97 : Int) ≤ (n : Int)) = true := by simp; omega
          have d1' : decide (48 ≤ n) = true := by simp; omega
          have d2' : decide (n ≤ 57) = false := by simp; omega
          have d3' : decide (97 ≤ n) = true := by simp; omega
          by_cases h4 : n ≤ 102
          · have d4 : decide ((n : Int) ≤ 102) = true := by simp; omega
            have d4' : decide (n ≤ 102) = true := by simp; omega
            have e0 : u = n - 87 := by rw [hu]; rw [if_neg (by omega), if_pos (by omega)]
            obtain ⟨k, hk⟩ : ∃ k, k = n - 97 := ⟨_, rfl⟩
            have e1 : (n : Int) - 97 = k := by omega
            have e2 : (k : Int) + 10 = u := by omega
            have k1 : k < 256 := by omega
            have u1 : u < 256 := by omega
            clear hu e0 hk
            go_enter Tryd.func20, Tryd.ntmps20
            go_wp2
            go_ret
            exact ⟨rfl, rfl⟩
          · have d4 : decide ((n : Int) ≤ 102) = false := by simp; omega
            have d4' : decide (n ≤ 102) = false := by simp; omega
            obtain rfl : u = 16 := by rw [hu]; rw [if_neg (by omega), if_neg (by omega)]
            clear hu
            go_enter Tryd.func20, Tryd.ntmps20
            go_wp2
            go_ret
            exact ⟨rfl, rfl⟩
  rw [← hn, show Hex.un c = u by rw [hu]; rfl]
  exact goal
end Go.Proofs.YtdkhinjogomdaaaDoor
