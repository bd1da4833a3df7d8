/-
  The contract of the reference's Parse: for every string and every two bounds the call returns what parseF says.
-/
import Derived.Test.YteibjolnnonmnaaDoorProg
import Derived.Test.YteibjolnnonmnaaDoorDec
import Derived.Test.YteibjolnnonmnaaDoorRtext
import Derived.Test.YteibjolnnonmnaaDoorCanon
import Derived.WalkKit
import Derived.WalkSpells
import Derived.Lib.Hide
namespace Go.Proofs.YteibjolnnonmnaaDoor
open Go.RowKit

theorem parse_out {l : List UInt8} {low high : Int} (h : ¬ (low ≤ canV l ∧ canV l ≤ high)) : parseF l low high = (0, false) := if_neg (fun k => h k.2)
theorem parse_bad {l : List UInt8} {low high : Int} (h : canonB l = false) : parseF l low high = (0, false) := if_neg (fun k => by rw [h] at k; cases k.1)
theorem parse_ne {l : List UInt8} {low high : Int} (h : Lib.itoa (canV l) ≠ l) : parseF l low high = (0, false) := if_neg (fun k => h (canon_itoa l k.1))
theorem parse_eq {l : List UInt8} {low high : Int} (h : Lib.itoa (canV l) = l) (h1 : low ≤ canV l) (h2 : canV l ≤ high) : parseF l low high = (canV l, true) :=
  if_pos ⟨by rw [← h]; exact (itoa_canon _).1, h1, h2⟩
theorem ret2 {a r : Int} {b rb : Bool} (h : (r, rb) = (a, b)) : Ending.returned (.tuple #[.int .i64 a, .bool b]) = Ending.returned (.tuple #[.int .i64 r, .bool rb]) := by
  injection h with h1 h2
  rw [h1, h2]
theorem val_take (s : ByteArray) (k : Nat) (h : k < s.size) : valN 0 (s.data.toList.take (k + 1)) = valN 0 (s.data.toList.take k) * 10 + (s[k].toNat - 48) := by
  rw [List.take_succ_eq_append_getElem (by simpa using h), valN_snoc]
  rfl
theorem val_take_le (l : List UInt8) (k : Nat) : valN 0 (l.take k) ≤ valN 0 l := by
  have h := valN_append 0 (l.take k) (l.drop k)
  rw [List.take_append_drop] at h
  rw [h]
  exact valN_ge _ _
theorem canV_pos {l : List UInt8} (h : ∀ c r, l = c :: r → c.toNat ≠ 45) : canV l = (valN 0 l : Int) := by
  cases l with
  | nil => rfl
  | cons c r =>
    unfold canV
    simp only
    rw [if_neg (h c r rfl)]
theorem canV_neg {l r : List UInt8} (h : l = 45 :: r) : canV l = -(valN 0 r : Int) := by
  rw [h]
  rfl
theorem canon_pos_bad {l : List UInt8} (h : ∀ c r, l = c :: r → c.toNat ≠ 45) (hb : l.all digB = false) : canonB l = false := by
  cases l with
  | nil => rfl
  | cons c r =>
    have h1 := h c r rfl
    unfold canonB
    simp only
    rw [if_neg h1]
    by_cases h2 : c.toNat = 48
    · rw [if_pos h2]
      cases r with
      | nil =>
        exfalso
        have : digB c = true := (digB_iff c).2 (by omega)
        simp [this] at hb
      | cons d r => rfl
    · rw [if_neg h2]
      unfold posB
      simp only [hb, Bool.and_false]
theorem canon_neg_bad {l r : List UInt8} (h : l = 45 :: r) (hb : r.all digB = false) : canonB l = false := by
  rw [h]
  show posB r = false
  cases r with
  | nil => rfl
  | cons c r =>
    unfold posB
    simp only [hb, Bool.and_false]
theorem str_of {u : ByteArray} {l : List UInt8} (h : u.data.toList = l) : u = ⟨l.toArray⟩ := by
  apply ByteArray.ext
  rw [← h]
theorem rtext_as (n : Int) (u : ByteArray) (h : Hid (Lib.itoa n = u.data.toList)) (h0 : -9223372036854775808 ≤ n) (h1 : n ≤ 9223372036854775807) (w : World) :
    Calls Tryd.prog 24 #[.int .i64 n] w fun e w' => e = .returned (.string u) ∧ Below w.heap.size w w' := by
  have := rtext_any n h0 h1 w
  rw [h.out] at this
  exact this
theorem least_div (c v : Int) (h0 : 0 ≤ c) (h1 : c ≤ 9) : v < (-9223372036854775808 + c).tdiv 10 ↔ 10 * v - c < -9223372036854775808 := by
  rw [tdiv10 _ (by omega)]
  omega
set_option maxHeartbeats 800000 in
theorem rparse_pos (s : ByteArray) (low high r : Int) (rb : Bool) (w : World) (hhi : high ≤ 9223372036854775807) (h0 : 1 ≤ s.size) (hs : s.size ≤ 281474976710656) (h1 : ((s[0].toNat : Int) == 45) = false)
    (HP : Hid (parseF s.data.toList low high = (r, rb))) (HC : Hid (canV s.data.toList = (valN 0 s.data.toList : Int))) (HB : Hid (s.data.toList.all digB = false → canonB s.data.toList = false)) :
    Calls Tryd.prog 22 #[.string s, .int .i64 low, .int .i64 high] w fun e w' => e = .returned (.tuple #[.int .i64 r, .bool rb]) ∧ Below w.heap.size w w' := by
  go_enter Tryd.func22, Tryd.ntmps22
  go_wp2
  go_loop [11, 12] (fun n i => ∃ (k : Nat) (v : Int), k ≤ s.size ∧ i = .int .i64 k ∧ n = .int .i64 v ∧ -9223372036854775808 ≤ v ∧ v ≤ 0 ∧ Hid (v = -(valN 0 (s.data.toList.take k) : Int)) ∧ Hid ((s.data.toList.take k).all digB = true)) (fun _ i => s.size - (intOf i).toNat)
  case atStart => exact ⟨0, 0, by omega, rfl, rfl, by omega, by omega, rfl, rfl⟩
  case round =>
    obtain ⟨k, v, hk, rfl, rfl, hv1, hv2, HV, HA⟩ := hrel
    by_cases hlt : k < s.size
    · by_cases hd : digB s[k] = true
      · obtain ⟨hd1, hd2⟩ := (digB_iff s[k]).1 hd
        have x1 : 0 ≤ (s[k].toNat : Int) - 48 := by omega
        have x2 : (s[k].toNat : Int) - 48 ≤ 9 := by omega
        have x3 : decide ((s[k].toNat : Int) - 48 < 0) = false := decide_eq_false (by omega)
        have x4 : decide (9 < (s[k].toNat : Int) - 48) = false := decide_eq_false (by omega)
        have ht := least_div ((s[k].toNat : Int) - 48) v x1 x2
        have hvt := val_take s k hlt
        by_cases hq : v < (-9223372036854775808 + ((s[k].toNat : Int) - 48)).tdiv 10
        · have x5 : decide (v < (-9223372036854775808 + ((s[k].toNat : Int) - 48)).tdiv 10) = true := decide_eq_true hq
          have HO : Hid (parseF s.data.toList low high = (0, false)) := by
            apply parse_out
            have h3 := ht.1 hq
            have h4 := HV.out
            have h5 := val_take_le s.data.toList (k + 1)
            rw [HC.out]
            omega
          have HR := HP.out.symm.trans HO.out
          have HRR := Lib.hid HR
          clear HR HO ht hvt hq hd HA HV
          go_wp2
          go_ret2
          exact ⟨ret2 HRR.out, Below.refl _ _⟩
        · have x5 : decide (v < (-9223372036854775808 + ((s[k].toNat : Int) - 48)).tdiv 10) = false := decide_eq_false hq
          have x6 : -9223372036854775808 ≤ 10 * v - ((s[k].toNat : Int) - 48) := by
            have : ¬ 10 * v - ((s[k].toNat : Int) - 48) < -9223372036854775808 := fun h => hq (ht.2 h)
            omega
          have x7 : -9223372036854775808 ≤ 10 * v := by omega
          have HV2 : Hid (10 * v - ((s[k].toNat : Int) - 48) = -(valN 0 (s.data.toList.take (k + 1)) : Int)) := by
            have h4 := HV.out
            show _ = _
            rw [hvt]
            omega
          have HA2 : Hid ((s.data.toList.take (k + 1)).all digB = true) := by
            show _ = true
            rw [all_take_succ s k hlt, HA.out, hd]
            rfl
          clear ht hvt hq hd HA HV
          go_wp2
          go_round
          case rel => exact ⟨k + 1, _, by omega, by go_num, rfl, by omega, by omega, HV2, HA2⟩
          case measure => simp [intOf]; omega
      · have HO : Hid (parseF s.data.toList low high = (0, false)) := parse_bad (HB.out (all_bad s k hlt hd))
        have HR := HP.out.symm.trans HO.out
        have HRR := Lib.hid HR
        rw [digB_iff] at hd
        clear HR HO HA HV
        by_cases hlow : s[k].toNat < 48
        · have x1 : (s[k].toNat : Int) - 48 < 0 := by omega
          have x3 : decide ((s[k].toNat : Int) - 48 < 0) = true := decide_eq_true (by omega)
          clear hd
          go_wp2
          go_ret2
          exact ⟨ret2 HRR.out, Below.refl _ _⟩
        · have x1 : 0 ≤ (s[k].toNat : Int) - 48 := by omega
          have x2 : 9 < (s[k].toNat : Int) - 48 := by omega
          have x6 : (s[k].toNat : Int) < 256 := by
            have := s[k].toNat_lt
            omega
          have x3 : decide ((s[k].toNat : Int) - 48 < 0) = false := decide_eq_false (by omega)
          have x4 : decide (9 < (s[k].toNat : Int) - 48) = true := decide_eq_true (by omega)
          clear hd hlow
          go_wp2
          go_ret2
          exact ⟨ret2 HRR.out, Below.refl _ _⟩
    · obtain rfl : k = s.size := by omega
      have HVF : Hid (v = -(valN 0 s.data.toList : Int)) := by
        have h4 := HV.out
        rw [List.take_of_length_le (by rw [size_list]; omega)] at h4
        exact h4
      clear HA HV
      by_cases hmin : v = -9223372036854775808
      · have HR := HP.out.symm.trans (parse_out (by
          have h4 := HVF.out
          rw [HC.out]
          omega))
        have HRR := Lib.hid HR
        have z1 : (v == -9223372036854775808) = true := beq_iff_eq.2 hmin
        clear HR hmin
        go_wp2
        go_ret2
        exact ⟨ret2 HRR.out, Below.refl _ _⟩
      · have z1 : (v == -9223372036854775808) = false := beq_eq_false_iff_ne.2 hmin
        have z2 : -9223372036854775807 ≤ v := by omega
        clear hmin
        have HN : Hid (canV s.data.toList = -v) := by
          have h4 := HVF.out
          show _ = _
          rw [HC.out]
          omega
        obtain ⟨u, hu⟩ : ∃ u : ByteArray, Lib.itoa (-v) = u.data.toList := ⟨⟨(Lib.itoa (-v)).toArray⟩, rfl⟩
        have HU := Lib.hid hu
        clear hu
        by_cases hq : u = s
        · subst hq
          have HE : Hid (Lib.itoa (canV u.data.toList) = u.data.toList) := by
            show _ = _
            rw [HN.out]
            exact HU.out
          by_cases hl : -v < low
          · have HR := HP.out.symm.trans (parse_out (by rw [HN.out]; omega))
            have HRR := Lib.hid HR
            clear HR
            go_wp2_with fail
            refine (rtext_as (-v) u HU (by omega) (by omega) _).mono ?_
            rintro e w2 ⟨rfl, hb⟩
            go_wp2
            go_ret2
            exact ⟨ret2 HRR.out, hb⟩
          · have hl2 : low ≤ -v := by omega
            by_cases hh : high < -v
            · have HR := HP.out.symm.trans (parse_out (by rw [HN.out]; omega))
              have HRR := Lib.hid HR
              clear HR hl
              go_wp2_with fail
              refine (rtext_as (-v) u HU (by omega) (by omega) _).mono ?_
              rintro e w2 ⟨rfl, hb⟩
              go_wp2
              go_ret2
              exact ⟨ret2 HRR.out, hb⟩
            · have hh2 : -v ≤ high := by omega
              have HR := HP.out.symm.trans (parse_eq HE.out (by rw [HN.out]; omega) (by rw [HN.out]; omega))
              rw [HN.out] at HR
              have HRR := Lib.hid HR
              clear HR hl hh
              go_wp2_with fail
              refine (rtext_as (-v) u HU (by omega) (by omega) _).mono ?_
              rintro e w2 ⟨rfl, hb⟩
              go_wp2
              go_ret2
              exact ⟨ret2 HRR.out, hb⟩
        · have HR := HP.out.symm.trans (parse_ne (by
            rw [HN.out, HU.out]
            exact fun h => hq (ByteArray.ext (by rw [← Array.toList_inj]; exact h))))
          have HRR := Lib.hid HR
          have y1 : (u.toList == s.toList) = false := by
            rw [beq_eq_false_iff_ne, Lib.toList_data, Lib.toList_data]
            exact fun h => hq (ByteArray.ext (by rw [← Array.toList_inj]; exact h))
          have y2 : (u.toList != s.toList) = true := by
            rw [bne, y1]
            rfl
          clear HR hq
          go_wp2_with fail
          refine (rtext_as (-v) u HU (by omega) (by omega) _).mono ?_
          rintro e w2 ⟨rfl, hb⟩
          go_wp2
          go_ret2
          exact ⟨ret2 HRR.out, hb⟩
set_option maxHeartbeats 800000 in
theorem rparse_neg (s t : ByteArray) (low high r : Int) (rb : Bool) (w : World) (hlo : -9223372036854775808 ≤ low) (h0 : 1 ≤ s.size) (hs : s.size ≤ 281474976710656) (h1 : ((s[0].toNat : Int) == 45) = true)
    (ht : s.extract 1 s.size = t) (hst : t.size ≤ 281474976710656)
    (HP : Hid (parseF s.data.toList low high = (r, rb))) (HC : Hid (canV s.data.toList = -(valN 0 t.data.toList : Int))) (HB : Hid (t.data.toList.all digB = false → canonB s.data.toList = false)) :
    Calls Tryd.prog 22 #[.string s, .int .i64 low, .int .i64 high] w fun e w' => e = .returned (.tuple #[.int .i64 r, .bool rb]) ∧ Below w.heap.size w w' := by
  go_enter Tryd.func22, Tryd.ntmps22
  go_wp2
  go_loop [11, 12] (fun n i => ∃ (k : Nat) (v : Int), k ≤ t.size ∧ i = .int .i64 k ∧ n = .int .i64 v ∧ -9223372036854775808 ≤ v ∧ v ≤ 0 ∧ Hid (v = -(valN 0 (t.data.toList.take k) : Int)) ∧ Hid ((t.data.toList.take k).all digB = true)) (fun _ i => t.size - (intOf i).toNat)
  case atStart => exact ⟨0, 0, by omega, rfl, rfl, by omega, by omega, rfl, rfl⟩
  case round =>
    obtain ⟨k, v, hk, rfl, rfl, hv1, hv2, HV, HA⟩ := hrel
    by_cases hlt : k < t.size
    · by_cases hd : digB t[k] = true
      · obtain ⟨hd1, hd2⟩ := (digB_iff t[k]).1 hd
        have x1 : 0 ≤ (t[k].toNat : Int) - 48 := by omega
        have x2 : (t[k].toNat : Int) - 48 ≤ 9 := by omega
        have x3 : decide ((t[k].toNat : Int) - 48 < 0) = false := decide_eq_false (by omega)
        have x4 : decide (9 < (t[k].toNat : Int) - 48) = false := decide_eq_false (by omega)
        have ht := least_div ((t[k].toNat : Int) - 48) v x1 x2
        have hvt := val_take t k hlt
        by_cases hq : v < (-9223372036854775808 + ((t[k].toNat : Int) - 48)).tdiv 10
        · have x5 : decide (v < (-9223372036854775808 + ((t[k].toNat : Int) - 48)).tdiv 10) = true := decide_eq_true hq
          have HO : Hid (parseF s.data.toList low high = (0, false)) := by
            apply parse_out
            have h3 := ht.1 hq
            have h4 := HV.out
            have h5 := val_take_le t.data.toList (k + 1)
            rw [HC.out]
            omega
          have HR := HP.out.symm.trans HO.out
          have HRR := Lib.hid HR
          clear HR HO ht hvt hq hd HA HV
          go_wp2
          go_ret2
          exact ⟨ret2 HRR.out, Below.refl _ _⟩
        · have x5 : decide (v < (-9223372036854775808 + ((t[k].toNat : Int) - 48)).tdiv 10) = false := decide_eq_false hq
          have x6 : -9223372036854775808 ≤ 10 * v - ((t[k].toNat : Int) - 48) := by
            have : ¬ 10 * v - ((t[k].toNat : Int) - 48) < -9223372036854775808 := fun h => hq (ht.2 h)
            omega
          have x7 : -9223372036854775808 ≤ 10 * v := by omega
          have HV2 : Hid (10 * v - ((t[k].toNat : Int) - 48) = -(valN 0 (t.data.toList.take (k + 1)) : Int)) := by
            have h4 := HV.out
            show _ = _
            rw [hvt]
            omega
          have HA2 : Hid ((t.data.toList.take (k + 1)).all digB = true) := by
            show _ = true
            rw [all_take_succ t k hlt, HA.out, hd]
            rfl
          clear ht hvt hq hd HA HV
          go_wp2
          go_round
          case rel => exact ⟨k + 1, _, by omega, by go_num, rfl, by omega, by omega, HV2, HA2⟩
          case measure => simp [intOf]; omega
      · have HO : Hid (parseF s.data.toList low high = (0, false)) := parse_bad (HB.out (all_bad t k hlt hd))
        have HR := HP.out.symm.trans HO.out
        have HRR := Lib.hid HR
        rw [digB_iff] at hd
        clear HR HO HA HV
        by_cases hlow : t[k].toNat < 48
        · have x1 : (t[k].toNat : Int) - 48 < 0 := by omega
          have x3 : decide ((t[k].toNat : Int) - 48 < 0) = true := decide_eq_true (by omega)
          clear hd
          go_wp2
          go_ret2
          exact ⟨ret2 HRR.out, Below.refl _ _⟩
        · have x1 : 0 ≤ (t[k].toNat : Int) - 48 := by omega
          have x2 : 9 < (t[k].toNat : Int) - 48 := by omega
          have x6 : (t[k].toNat : Int) < 256 := by
            have := t[k].toNat_lt
            omega
          have x3 : decide ((t[k].toNat : Int) - 48 < 0) = false := decide_eq_false (by omega)
          have x4 : decide (9 < (t[k].toNat : Int) - 48) = true := decide_eq_true (by omega)
          clear hd hlow
          go_wp2
          go_ret2
          exact ⟨ret2 HRR.out, Below.refl _ _⟩
    · obtain rfl : k = t.size := by omega
      have HVF : Hid (v = -(valN 0 t.data.toList : Int)) := by
        have h4 := HV.out
        rw [List.take_of_length_le (by rw [size_list]; omega)] at h4
        exact h4
      clear HA HV
      have HN : Hid (canV s.data.toList = v) := by
        have h4 := HVF.out
        show _ = _
        rw [HC.out]
        omega
      obtain ⟨u, hu⟩ : ∃ u : ByteArray, Lib.itoa (v) = u.data.toList := ⟨⟨(Lib.itoa (v)).toArray⟩, rfl⟩
      have HU := Lib.hid hu
      clear hu
      by_cases hq : u = s
      · subst hq
        have HE : Hid (Lib.itoa (canV u.data.toList) = u.data.toList) := by
          show _ = _
          rw [HN.out]
          exact HU.out
        by_cases hl : v < low
        · have HR := HP.out.symm.trans (parse_out (by rw [HN.out]; omega))
          have HRR := Lib.hid HR
          clear HR
          go_wp2_with fail
          refine (rtext_as (v) u HU (by omega) (by omega) _).mono ?_
          rintro e w2 ⟨rfl, hb⟩
          go_wp2
          go_ret2
          exact ⟨ret2 HRR.out, hb⟩
        · have hl2 : low ≤ v := by omega
          by_cases hh : high < v
          · have HR := HP.out.symm.trans (parse_out (by rw [HN.out]; omega))
            have HRR := Lib.hid HR
            clear HR hl
            go_wp2_with fail
            refine (rtext_as (v) u HU (by omega) (by omega) _).mono ?_
            rintro e w2 ⟨rfl, hb⟩
            go_wp2
            go_ret2
            exact ⟨ret2 HRR.out, hb⟩
          · have hh2 : v ≤ high := by omega
            have HR := HP.out.symm.trans (parse_eq HE.out (by rw [HN.out]; omega) (by rw [HN.out]; omega))
            rw [HN.out] at HR
            have HRR := Lib.hid HR
            clear HR hl hh
            go_wp2_with fail
            refine (rtext_as (v) u HU (by omega) (by omega) _).mono ?_
            rintro e w2 ⟨rfl, hb⟩
            go_wp2
            go_ret2
            exact ⟨ret2 HRR.out, hb⟩
      · have HR := HP.out.symm.trans (parse_ne (by
          rw [HN.out, HU.out]
          exact fun h => hq (ByteArray.ext (by rw [← Array.toList_inj]; exact h))))
        have HRR := Lib.hid HR
        have y1 : (u.toList == s.toList) = false := by
          rw [beq_eq_false_iff_ne, Lib.toList_data, Lib.toList_data]
          exact fun h => hq (ByteArray.ext (by rw [← Array.toList_inj]; exact h))
        have y2 : (u.toList != s.toList) = true := by
          rw [bne, y1]
          rfl
        clear HR hq
        go_wp2_with fail
        refine (rtext_as (v) u HU (by omega) (by omega) _).mono ?_
        rintro e w2 ⟨rfl, hb⟩
        go_wp2
        go_ret2
        exact ⟨ret2 HRR.out, hb⟩
theorem itoa_zero : Lib.itoa 0 = [48] := canon_itoa [48] rfl
set_option maxHeartbeats 400000 in
theorem rparse_empty (low high : Int) (w : World) : Calls Tryd.prog 22 #[.string ⟨#[]⟩, .int .i64 low, .int .i64 high] w fun e w' => e = .returned (.tuple #[.int .i64 0, .bool false]) ∧ Below w.heap.size w w' := by
  go_enter Tryd.func22, Tryd.ntmps22
  go_wp2
  go_loop [11, 12] (fun n i => i = .int .i64 0 ∧ n = .int .i64 0) (fun _ _ => 0)
  case atStart => exact ⟨rfl, rfl⟩
  case round =>
    obtain ⟨rfl, rfl⟩ := hrel
    go_wp2_with fail
    refine (rtext_as 0 ⟨#[48]⟩ itoa_zero (by decide) (by decide) _).mono ?_
    rintro e w2 ⟨rfl, hb⟩
    go_wp2
    go_ret2
    exact ⟨rfl, hb⟩
theorem rparse_any (s : ByteArray) (low high : Int) (hlo : -9223372036854775808 ≤ low) (hhi : high ≤ 9223372036854775807) (hs : s.size ≤ 281474976710656) (w : World) :
    Calls Tryd.prog 22 #[.string s, .int .i64 low, .int .i64 high] w fun e w' => e = .returned (.tuple #[.int .i64 (parseF s.data.toList low high).1, .bool (parseF s.data.toList low high).2]) ∧ Below w.heap.size w w' := by
  have hsz := size_list s
  cases hl : s.data.toList with
  | nil =>
    have e : s = ⟨#[]⟩ := str_of hl
    subst e
    rw [parse_bad rfl]
    exact rparse_empty low high w
  | cons c r =>
    have hsz2 : r.length + 1 = s.size := by
      rw [← hsz, hl]
      rfl
    have hg := get0 s hl (by omega)
    rw [← hl]
    by_cases h45 : c.toNat = 45
    · have h1 : ((s[0].toNat : Int) == 45) = true := by
        rw [hg, beq_iff_eq]
        omega
      have hx := ext_list s hl
      generalize ht : s.extract 1 s.size = t at hx
      have hszt := size_list t
      have e45 : c = 45 := UInt8.toNat_inj.1 h45
      rw [hx] at hszt
      refine rparse_neg s t low high _ _ w hlo (by omega) hs h1 ht (by omega) rfl ?_ ?_
      · show _ = _
        rw [hx]
        exact canV_neg (by rw [hl, e45])
      · show _ → _
        rw [hx]
        exact canon_neg_bad (by rw [hl, e45])
    · have h1 : ((s[0].toNat : Int) == 45) = false := by
        rw [hg, beq_eq_false_iff_ne]
        omega
      have hne : ∀ d q, s.data.toList = d :: q → d.toNat ≠ 45 := by
        intro d q h
        rw [hl] at h
        injection h with h2 _
        rw [← h2]
        exact h45
      exact rparse_pos s low high _ _ w hhi (by omega) hs h1 rfl (canV_pos hne) (canon_pos_bad hne)
end Go.Proofs.YteibjolnnonmnaaDoor
