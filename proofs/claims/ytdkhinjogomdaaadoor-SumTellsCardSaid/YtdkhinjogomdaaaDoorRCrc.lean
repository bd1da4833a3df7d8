/-
  The reference's Crc, bit by bit.
-/
import Derived.Test.YtdkhinjogomdaaaDoorNib
import Derived.Outline
namespace Go.Proofs.YtdkhinjogomdaaaDoor
open Go.RowKit
theorem step_nat (c : BitVec 32) : (Math.step c).toNat = if c.toNat % 2 = 1 then (c.toNat / 2) ^^^ 2197175160 else c.toNat / 2 := by
  have h0 : c.getLsbD 0 = decide (c.toNat % 2 = 1) := by rw [BitVec.getLsbD, Nat.testBit_zero]
  unfold Math.step
  rw [h0]
  by_cases h : c.toNat % 2 = 1
  · rw [if_pos (by simpa using h), if_pos h, BitVec.toNat_xor, BitVec.toNat_ushiftRight, Nat.shiftRight_eq_div_pow]; rfl
  · rw [if_neg (by simpa using h), if_neg h, BitVec.toNat_ushiftRight, Nat.shiftRight_eq_div_pow]
theorem steps_last (k : Nat) (c : BitVec 32) : Math.steps (k + 1) c = Math.step (Math.steps k c) := by
  rw [Math.steps_add]; rfl
set_option maxRecDepth 20000 in
theorem rcrc_any (s : ByteArray) (w : World) (hs : s.size ≤ 9223372036854775807) :
    Calls Tryd.prog 12 #[.string s] w fun e w' => e = .returned (.int .u32 ((Math.crc (ls s)).toNat : Nat)) ∧ w = w' := by
  go_enter Tryd.func12, Tryd.ntmps12
  go_wp2
  go_loop [3, 4] (fun c i => ∃ k C : Nat, k ≤ s.size ∧ i = .int .i64 k ∧ c = .int .u32 C ∧ Hid (C = (Math.feeds 0xffffffff#32 ((ls s).take k)).toNat)) (fun _ i => s.size - (intOf i).toNat)
  case atStart => exact ⟨0, 4294967295, by omega, rfl, rfl, Lib.hid rfl⟩
  case round =>
    obtain ⟨k, C, hk, rfl, rfl, HC⟩ := hrel
    by_cases hlt : k < s.size
    · have i1 : decide ((k : Int) < (s.size : Int)) = true := by simp; omega
      have hb := s[k].toNat_lt
      have hC : C < 4294967296 := by rw [HC.out]; exact BitVec.isLt _
      obtain ⟨X, hX⟩ : ∃ X, X = C ^^^ s[k].toNat := ⟨_, rfl⟩
      have e1 : bits .xor .u32 (C : Int) (s[k].toNat : Int) = (X : Int) := by rw [u32_xor_nat C _ hC (by omega), hX]
      have e1' : bits .xor .u32 (C : Int) ((s[k].toNat : Int) % 4294967296) = (X : Int) := by rw [Int.emod_eq_of_lt (by omega) (by omega), e1]
      obtain ⟨B, hB⟩ : ∃ B, B = Math.feeds 0xffffffff#32 ((ls s).take k) ^^^ BitVec.ofNat 32 s[k].toNat := ⟨_, rfl⟩
      have hXB : X = B.toNat := by
        rw [hB, BitVec.toNat_xor, BitVec.toNat_ofNat, Nat.mod_eq_of_lt (by omega : s[k].toNat < 2 ^ 32), ← HC.out, hX]
      have HX := Lib.hid hXB
      have HB := Lib.hid hB
      clear hX hXB hB
      go_wp2
      go_loop [3, 5] (fun c i => ∃ m D : Nat, m ≤ 8 ∧ i = .int .i64 m ∧ c = .int .u32 D ∧ Hid (D = (Math.steps m B).toNat)) (fun _ i => 8 - (intOf i).toNat)
      case atStart => exact ⟨0, X, by omega, rfl, rfl, HX⟩
      case round =>
        obtain ⟨m, D, hm, rfl, rfl, HD⟩ := hrel
        by_cases hm8 : m < 8
        · have j1 : decide ((m : Int) < 8) = true := by simp; omega
          have hD : D < 4294967296 := by rw [HD.out]; exact BitVec.isLt _
          have hst := step_nat (Math.steps m B)
          rw [← HD.out, ← steps_last] at hst
          by_cases ho : D % 2 = 1
          · rw [if_pos ho] at hst
            have o1 : ((D : Int) % 2 == 1) = true := by have : (D : Int) % 2 = 1 := by omega
                                                        simp [this]
            have o2 : (D : Int) % 2 = 1 := by omega
            obtain ⟨E, hE⟩ : ∃ E, E = (D / 2) ^^^ 2197175160 := ⟨_, rfl⟩
            have e2 : bits .xor .u32 ((D : Int) / 2) 2197175160 = (E : Int) := by
              have := u32_xor_nat (D / 2) 2197175160 (by omega) (by omega)
              rw [hE, ← this]; rfl
            rw [← hE] at hst
            have HS := Lib.hid hst
            clear hst hE ho
            go_wp2
            go_round
            case rel => exact ⟨m + 1, E, by omega, by go_num, rfl, Lib.hid HS.out.symm⟩
            case measure => simp [intOf]; omega
          · rw [if_neg ho] at hst
            have o1 : ((D : Int) % 2 == 1) = false := by have : ¬ (D : Int) % 2 = 1 := by omega
                                                         simp [this]
            have o2 : ¬ (D : Int) % 2 = 1 := by omega
            have HS := Lib.hid hst
            clear hst ho
            go_wp2
            go_round
            case rel => exact ⟨m + 1, D / 2, by omega, by go_num, rfl, Lib.hid HS.out.symm⟩
            case measure => simp [intOf]; omega
        · have j1 : decide ((m : Int) < 8) = false := by simp; omega
          go_wp2
          go_round
          case rel =>
            refine ⟨k + 1, D, by omega, by go_num, rfl, Lib.hid ?_⟩
            have h1 := feeds_snoc 0xffffffff#32 (ls s) k hlt
            rw [h1, HD.out, show m = 8 by omega, HB.out]
            rfl
          case measure => simp [intOf]; omega
    · have i1 : decide ((k : Int) < (s.size : Int)) = false := by simp; omega
      have hC : C < 4294967296 := by rw [HC.out]; exact BitVec.isLt _
      have e1 : bits .xor .u32 (C : Int) 4294967295 = ((4294967295 - C : Nat) : Int) := by
        rw [← not_u32 C hC]
        show IntKind.u32.wrap ((BitVec.ofInt 32 (C : Int) ^^^ BitVec.ofInt 32 4294967295).toNat : Int) = IntKind.u32.wrap ((BitVec.ofInt 32 4294967295 ^^^ BitVec.ofInt 32 (C : Int)).toNat : Int)
        rw [BitVec.xor_comm]
      have hn : (Math.crc (ls s)).toNat = 4294967295 - C := by
        rw [crc_nat, HC.out, List.take_of_length_le (by rw [ls_length]; omega)]
      obtain ⟨D, hD⟩ : ∃ D, D = 4294967295 - C := ⟨_, rfl⟩
      rw [← hD] at e1 hn
      have HD := Lib.hid hn
      clear hn hD
      go_wp2
      go_ret
      exact ⟨by rw [HD.out]; rfl, rfl⟩
end Go.Proofs.YtdkhinjogomdaaaDoor
