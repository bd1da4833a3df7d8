/-
  The code's Crc.
-/
import Derived.Test.YtmcdbjkmkbdeiaaDoorS3Nib
import Derived.Outline
namespace Go.Proofs.YtmcdbjkmkbdeiaaDoor.S3
open Go.RowKit
set_option maxRecDepth 20000 in
theorem crc_any (s : ByteArray) (w : World) (hw : Tabs w) (hs : s.size ≤ 9223372036854775807) :
    Calls Tryd.prog 8 #[.string s] w fun e w' => e = .returned (.int .u32 ((Math.crc (ls s)).toNat : Nat)) ∧ w = w' := by
  have HW := Lib.hid hw
  clear hw
  go_enter Tryd.func8, Tryd.ntmps8
  go_wp2
  go_loop [3, 7] (fun c i => ∃ k C : Nat, k ≤ s.size ∧ i = .int .i64 k ∧ c = .int .u32 C ∧ Hid (C = (Math.feeds 0xffffffff#32 ((ls s).take k)).toNat)) (fun _ i => s.size - (intOf i).toNat)
  case atStart => exact ⟨0, 4294967295, by omega, rfl, rfl, Lib.hid rfl⟩
  case round =>
    obtain ⟨k, C, hk, rfl, rfl, HC⟩ := hrel
    by_cases hlt : k < s.size
    · have i1 : decide ((k : Int) < (s.size : Int)) = true := by simp; omega
      have hb := s[k].toNat_lt
      obtain ⟨X, hX⟩ : ∃ X, X = C ^^^ s[k].toNat := ⟨_, rfl⟩
      obtain ⟨Y, hY⟩ : ∃ Y, Y = (X / 16) ^^^ four.getD (X % 16) 0 := ⟨_, rfl⟩
      obtain ⟨Z, hZ⟩ : ∃ Z, Z = (Y / 16) ^^^ four.getD (Y % 16) 0 := ⟨_, rfl⟩
      obtain ⟨F, hx, hy, hz⟩ := feed_nat (Math.feeds 0xffffffff#32 ((ls s).take k)) s[k] X Y Z (by rw [← HC.out]; exact hX) hY hZ
      have hC : C < 4294967296 := by rw [HC.out]; exact BitVec.isLt _
      have e1 : bits .xor .u32 (C : Int) ((s[k].toNat : Int) % 4294967296) = (X : Int) := by
        rw [Int.emod_eq_of_lt (by omega) (by omega), u32_xor_nat C _ hC (by omega), hX]
      have e1' : bits .xor .u32 (C : Int) (s[k].toNat : Int) = (X : Int) := by rw [u32_xor_nat C _ hC (by omega), hX]
      obtain ⟨a, ha⟩ : ∃ a, a = X % 16 := ⟨_, rfl⟩
      obtain ⟨b, hb⟩ : ∃ b, b = Y % 16 := ⟨_, rfl⟩
      have e2 : bits .and .u32 (X : Int) 15 = (a : Int) := by rw [u32_and15 X hx, ha]
      have e3 : bits .and .u32 (Y : Int) 15 = (b : Int) := by rw [u32_and15 Y hy, hb]
      obtain ⟨p, hp⟩ : ∃ p, p = four.getD a 0 := ⟨_, rfl⟩
      obtain ⟨q, hq⟩ : ∃ q, q = four.getD b 0 := ⟨_, rfl⟩
      have c1 : w.cell? ⟨0, a, none⟩ = some (.int .u32 (p : Nat)) := by rw [hp]; exact HW.out.2.1 a (by omega)
      have c2 : w.cell? ⟨0, b, none⟩ = some (.int .u32 (q : Nat)) := by rw [hq]; exact HW.out.2.1 b (by omega)
      have e4 : bits .xor .u32 ((X : Int) / 16) (p : Int) = (Y : Int) := by
        have := u32_xor_nat (X / 16) p (by omega) (by rw [hp]; exact four_lt _)
        rw [hY, ← ha, ← hp, ← this]; rfl
      have e5 : bits .xor .u32 ((Y : Int) / 16) (q : Int) = (Z : Int) := by
        have := u32_xor_nat (Y / 16) q (by omega) (by rw [hq]; exact four_lt _)
        rw [hZ, ← hb, ← hq, ← this]; rfl
      have a1 : (a : Int) < 16 := by omega
      have a2 : (b : Int) < 16 := by omega
      have HF := Lib.hid F
      clear F hX hY hZ ha hb hp hq
      go_wp2
      go_round
      case rel =>
        refine ⟨k + 1, Z, by omega, by go_num, rfl, Lib.hid ?_⟩
        have h1 := feeds_snoc 0xffffffff#32 (ls s) k hlt
        rw [h1]
        exact HF.out.symm
      case measure => simp [intOf]; omega
    · have i1 : decide ((k : Int) < (s.size : Int)) = false := by simp; omega
      have hC : C < 4294967296 := by rw [HC.out]; exact BitVec.isLt _
      have e1 := not_u32 C hC
      have hn : (Math.crc (ls s)).toNat = 4294967295 - C := by
        rw [crc_nat, HC.out, List.take_of_length_le (by rw [ls_length]; omega)]
      obtain ⟨D, hD⟩ : ∃ D, D = 4294967295 - C := ⟨_, rfl⟩
      rw [← hD] at e1 hn
      have e2 : bits .xor .u32 IntKind.u32.max (C : Int) = (D : Int) := e1
      have HD := Lib.hid hn
      clear hn hD
      go_wp2
      go_ret
      exact ⟨by rw [HD.out]; rfl, rfl⟩
end Go.Proofs.YtmcdbjkmkbdeiaaDoor.S3
