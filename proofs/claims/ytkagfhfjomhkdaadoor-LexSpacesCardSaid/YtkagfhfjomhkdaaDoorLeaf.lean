/-
  The smallest functions of lex: what kind of byte a byte is.
-/
import Derived.Test.YtkagfhfjomhkdaaDoorMem
import Derived.Test.YtkagfhfjomhkdaaDoorPlain
import Derived.Test.YtkagfhfjomhkdaaDoorShelf
namespace Go.Proofs.YtkagfhfjomhkdaaDoor
open Go.RowKit L7
theorem bool_ret {a b : Bool} (h : a = b) : Ending.returned (.bool a) = Ending.returned (.bool b) := by rw [h]
theorem le_nat (a : Nat) (c : UInt8) (ha : a < 256) : decide (UInt8.ofNat a ≤ c) = decide ((a : Int) ≤ (c.toNat : Int)) := by
  rw [Bool.eq_iff_iff]; simp [UInt8.le_iff_toNat_le, Nat.mod_eq_of_lt ha]
theorem ge_nat (a : Nat) (c : UInt8) (ha : a < 256) : decide (c ≤ UInt8.ofNat a) = decide ((c.toNat : Int) ≤ (a : Int)) := by
  rw [Bool.eq_iff_iff]; simp [UInt8.le_iff_toNat_le, Nat.mod_eq_of_lt ha]
theorem eq_nat (a : Nat) (c : UInt8) (ha : a < 256) : (c == UInt8.ofNat a) = ((c.toNat : Int) == (a : Int)) := by
  rw [Bool.eq_iff_iff]
  simp only [beq_iff_eq]
  constructor
  · rintro rfl; simp [Nat.mod_eq_of_lt ha]
  · intro h; apply UInt8.toNat_inj.1; simp [Nat.mod_eq_of_lt ha]; omega
theorem and_eq {a b c d : Bool} (h : a = b) (k : c = d) : (a && c) = (b && d) := by rw [h, k]
theorem or_eq {a b c d : Bool} (h : a = b) (k : c = d) : (a || c) = (b || d) := by rw [h, k]
theorem isDg_int (c : UInt8) : isDg c = (decide ((48 : Int) ≤ (c.toNat : Int)) && decide ((c.toNat : Int) ≤ 57)) := by
  exact and_eq (le_nat 48 c (by decide)) (ge_nat 57 c (by decide))
theorem isAl_int (c : UInt8) : isAl c = ((decide ((97 : Int) ≤ (c.toNat : Int)) && decide ((c.toNat : Int) ≤ 122)) || (decide ((65 : Int) ≤ (c.toNat : Int)) && decide ((c.toNat : Int) ≤ 90))) := by
  exact or_eq (and_eq (le_nat 97 c (by decide)) (ge_nat 122 c (by decide))) (and_eq (le_nat 65 c (by decide)) (ge_nat 90 c (by decide)))
theorem isWs_int (c : UInt8) : isWs c = (((c.toNat : Int) == 9) || ((c.toNat : Int) == 10) || ((c.toNat : Int) == 13) || ((c.toNat : Int) == 32)) := by
  exact or_eq (or_eq (or_eq (eq_nat 9 c (by decide)) (eq_nat 10 c (by decide))) (eq_nat 13 c (by decide))) (eq_nat 32 c (by decide))
theorem isNm_int (c : UInt8) : isNm c = (isAl c || isDg c || ((c.toNat : Int) == 95)) := by
  exact or_eq rfl (eq_nat 95 c (by decide))
theorem isDigit_any (c : UInt8) (w : World) : Calls Tryd.prog 19 #[.int .u8 (c.toNat : Int)] w fun e w' => e = .returned (.bool (isDg c)) ∧ w = w' := by
  go_enter Tryd.func19, Tryd.ntmps19
  go_wp2
  all_goals (go_ret; exact ⟨bool_ret (by rw [isDg_int, Bool.eq_iff_iff]; simp; omega), rfl⟩)
theorem isLetter_any (c : UInt8) (w : World) : Calls Tryd.prog 17 #[.int .u8 (c.toNat : Int)] w fun e w' => e = .returned (.bool (isAl c)) ∧ w = w' := by
  go_enter Tryd.func17, Tryd.ntmps17
  go_wp2
  all_goals (go_ret; exact ⟨bool_ret (by rw [isAl_int, Bool.eq_iff_iff]; simp; omega), rfl⟩)
theorem isSpace_any (c : UInt8) (w : World) : Calls Tryd.prog 28 #[.int .u8 (c.toNat : Int)] w fun e w' => e = .returned (.bool (isWs c)) ∧ w = w' := by
  go_enter Tryd.func28, Tryd.ntmps28
  go_wp2
  all_goals (go_ret; exact ⟨bool_ret (by first | (rw [isWs_int, Bool.eq_iff_iff]; done) | (rw [isWs_int, Bool.eq_iff_iff]; simp; done) | (rw [isWs_int, Bool.eq_iff_iff]; simp; omega)), rfl⟩)
theorem isWordByte_any (c : UInt8) (w : World) : Calls Tryd.prog 32 #[.int .u8 (c.toNat : Int)] w fun e w' => e = .returned (.bool (isNm c)) ∧ w = w' := by
  have HN : Hid (isNm c = (isAl c || isDg c || ((c.toNat : Int) == 95))) := Lib.hid (isNm_int c)
  cases ha : isAl c <;> cases hd : isDg c
  all_goals
    have A := isLetter_any c w
    have D := isDigit_any c w
    rw [ha] at A
    rw [hd] at D
    have HN2 := HN.out
    rw [ha, hd] at HN2
    have HN3 := Lib.hid HN2
    clear ha hd HN HN2
    go_enter Tryd.func32, Tryd.ntmps32
    go_wp2_with (first
      | (go_at_call 17; refine A.mono ?_; rintro e w' ⟨rfl, rfl⟩)
      | (go_at_call 19; refine D.mono ?_; rintro e w' ⟨rfl, rfl⟩))
    all_goals (go_ret; exact ⟨bool_ret (by rw [HN3.out]; simp), rfl⟩)
theorem isMark_eq (l : Bs) : isMark l = (l == [40] || l == [41] || l == [123] || l == [125] || l == [91] || l == [93] || l == [44] || l == [46] || l == [58] || l == [59] || l == [63] || l == [95] || l == [61] || l == [43] || l == [45] || l == [42] || l == [47] || l == [37] || l == [60] || l == [62] || l == [61, 61] || l == [33, 61] || l == [60, 61] || l == [62, 61] || l == [43, 43] || l == [61, 62] || l == [58, 45]) := by
  match l with
  | [] => rfl
  | [b] => simp [isMark, mark1]
  | [b, c] => simp [isMark, mark2]
  | b :: c :: d :: r => simp [isMark]
set_option maxHeartbeats 1000000 in
theorem isMark_any (s : ByteArray) (w : World) : Calls Tryd.prog 24 #[.string s] w fun e w' => e = .returned (.bool (isMark (ls s))) ∧ w = w' := by
  have e : s.toList = ls s := by rw [ByteArray.toList_eq]; rfl
  have HM := Lib.hid (isMark_eq (ls s))
  rw [← e] at HM
  have HE := Lib.hid e
  clear e
  go_enter Tryd.func24, Tryd.ntmps24
  go_wp2
  all_goals (go_ret; exact ⟨bool_ret (by rw [← HE.out, HM.out]; first | (simp [*]; done) | (simp_all; done)), rfl⟩)
end Go.Proofs.YtkagfhfjomhkdaaDoor
