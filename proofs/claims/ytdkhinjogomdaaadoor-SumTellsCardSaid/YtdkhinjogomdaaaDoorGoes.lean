/-
  SumGoes: what the law's function does at whatever input.
-/
import Derived.Test.YtdkhinjogomdaaaDoorSmall
namespace Go.Proofs.YtdkhinjogomdaaaDoor
open Go.RowKit Go.Sort
theorem ls_append (a b : ByteArray) : ls (a ++ b) = ls a ++ ls b := by
  unfold ls; rw [ByteArray.data_append, Array.toList_append]
theorem small_hid (w : World) (hw : Tabs w) : Hid (Calls Tryd.prog 8 #[] w fun e w' => e = .returned (.bool true) ∧ Below w.heap.size w w') := Lib.hid (small_any w hw)
theorem goes_1 (a b c : ByteArray) (w : World) (hw : Tabs w) (ha : 1000 < a.size) : Calls Tryd.prog 5 #[.string a, .string b, .string c] w fun e w' => e = .returned (.bool true) ∧ Below w.heap.size w w' := by
  have C := small_hid w hw
  have d1 : decide ((1000 : Int) < (a.size : Int)) = true := by simp; omega
  clear hw
  go_enter Tryd.func5, Tryd.ntmps5
  go_wp2_with (go_at_call 8; refine C.out.mono ?_; rintro e w1 ⟨rfl, hb⟩; have HB := Lib.hid hb; clear hb)
  go_ret
  exact ⟨rfl, HB.out⟩
theorem goes_2 (a b c : ByteArray) (w : World) (hw : Tabs w) (ha : a.size ≤ 1000) (hb : 1000 < b.size) : Calls Tryd.prog 5 #[.string a, .string b, .string c] w fun e w' => e = .returned (.bool true) ∧ Below w.heap.size w w' := by
  have C := small_hid w hw
  have d1 : decide ((1000 : Int) < (a.size : Int)) = false := by simp; omega
  have d2 : decide ((1000 : Int) < (b.size : Int)) = true := by simp; omega
  clear hw
  go_enter Tryd.func5, Tryd.ntmps5
  go_wp2_with (go_at_call 8; refine C.out.mono ?_; rintro e w1 ⟨rfl, hb⟩; have HB := Lib.hid hb; clear hb)
  go_ret
  exact ⟨rfl, HB.out⟩
theorem goes_3 (a b c : ByteArray) (w : World) (hw : Tabs w) (ha : a.size ≤ 1000) (hb : b.size ≤ 1000) (hc : 1000 < c.size) : Calls Tryd.prog 5 #[.string a, .string b, .string c] w fun e w' => e = .returned (.bool true) ∧ Below w.heap.size w w' := by
  have C := small_hid w hw
  have d1 : decide ((1000 : Int) < (a.size : Int)) = false := by simp; omega
  have d2 : decide ((1000 : Int) < (b.size : Int)) = false := by simp; omega
  have d3 : decide ((1000 : Int) < (c.size : Int)) = true := by simp; omega
  clear hw
  go_enter Tryd.func5, Tryd.ntmps5
  go_wp2_with (go_at_call 8; refine C.out.mono ?_; rintro e w1 ⟨rfl, hb⟩; have HB := Lib.hid hb; clear hb)
  go_ret
  exact ⟨rfl, HB.out⟩
theorem goes_4 (a b c : ByteArray) (w : World) (hw : Tabs w) (ha : a.size ≤ 1000) (hb : b.size ≤ 1000) (hc : c.size ≤ 1000) : Calls Tryd.prog 5 #[.string a, .string b, .string c] w fun e w' => e = .returned (.bool true) ∧ Below w.heap.size w w' := by
  have C := small_hid w hw
  have HT := Lib.hid hw
  obtain ⟨ac, hac⟩ : ∃ s, a ++ c = s := ⟨_, rfl⟩
  obtain ⟨bc, hbc⟩ : ∃ s, b ++ c = s := ⟨_, rfl⟩
  obtain ⟨A, hA⟩ : ∃ A, A = (Math.crc (ls a)).toNat := ⟨_, rfl⟩
  obtain ⟨B, hB⟩ : ∃ A, A = (Math.crc (ls b)).toNat := ⟨_, rfl⟩
  obtain ⟨E, hE⟩ : ∃ A, A = (Math.crc (ls ac)).toNat := ⟨_, rfl⟩
  obtain ⟨F, hF⟩ : ∃ A, A = (Math.crc (ls bc)).toNat := ⟨_, rfl⟩
  have key : A = B ↔ E = F := by
    rw [hA, hB, hE, hF, BitVec.toNat_inj, BitVec.toNat_inj, ← hac, ← hbc, ls_append, ls_append]
    exact Math.crc_goes _ _ _
  have S1 : Hid (a.size ≤ 9223372036854775807) := Lib.hid (by omega)
  have S2 : Hid (b.size ≤ 9223372036854775807) := Lib.hid (by omega)
  have S3 : Hid (ac.size ≤ 9223372036854775807) := Lib.hid (by rw [← hac, ByteArray.size_append]; omega)
  have S4 : Hid (bc.size ≤ 9223372036854775807) := Lib.hid (by rw [← hbc, ByteArray.size_append]; omega)
  have d1 : decide ((1000 : Int) < (a.size : Int)) = false := by simp; omega
  have d2 : decide ((1000 : Int) < (b.size : Int)) = false := by simp; omega
  have d3 : decide ((1000 : Int) < (c.size : Int)) = false := by simp; omega
  have HA := Lib.hid hA
  have HBB := Lib.hid hB
  have HE := Lib.hid hE
  have HF := Lib.hid hF
  have fin : (((A : Int) == (B : Int)) == ((E : Int) == (F : Int))) = true := by
    by_cases h : A = B
    · have h2 := key.1 h
      simp [h, h2]
    · have h2 : ¬ E = F := fun e => h (key.2 e)
      have e1 : ((A : Int) == (B : Int)) = false := by simp; omega
      have e2 : ((E : Int) == (F : Int)) = false := by simp; omega
      rw [e1, e2]; rfl
  have FIN := Lib.hid fin
  clear hw hA hB hE hF key fin
  go_enter Tryd.func5, Tryd.ntmps5
  go_wp2_with first
    | (go_at_call 8; refine C.out.mono ?_; rintro e w1 ⟨rfl, hb⟩; have HB := Lib.hid hb; clear hb; have T1 : Hid (Tabs w1) := Lib.hid (HT.out.below HB.out HT.out.1))
    | (go_at_call 11; refine (crc_any _ _ T1.out (by first | exact S1.out | exact S2.out | exact S3.out | exact S4.out)).mono ?_; rintro e w2 ⟨rfl, rfl⟩; first | rw [← HA.out] | rw [← HBB.out] | rw [← HE.out] | rw [← HF.out])
  go_ret
  refine ⟨?_, HB.out⟩
  show Ending.returned (Value.bool (((A : Int) == (B : Int)) == ((E : Int) == (F : Int)))) = _
  rw [FIN.out]
theorem goes_any (a b c : ByteArray) (w : World) (hw : Tabs w) : Calls Tryd.prog 5 #[.string a, .string b, .string c] w fun e w' => e = .returned (.bool true) ∧ Below w.heap.size w w' := by
  by_cases h1 : 1000 < a.size
  · exact goes_1 a b c w hw h1
  · by_cases h2 : 1000 < b.size
    · exact goes_2 a b c w hw (by omega) h2
    · by_cases h3 : 1000 < c.size
      · exact goes_3 a b c w hw (by omega) (by omega) h3
      · exact goes_4 a b c w hw (by omega) (by omega) (by omega)
end Go.Proofs.YtdkhinjogomdaaaDoor
