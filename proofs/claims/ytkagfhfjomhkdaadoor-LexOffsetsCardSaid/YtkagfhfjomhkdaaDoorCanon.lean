/-
  The contract of canonical of package num: for every string the call says whether the string is a canonical decimal form; it makes one block at most.
-/
import Derived.Test.YtkagfhfjomhkdaaDoorProg
import Derived.Test.YtkagfhfjomhkdaaDoorDec
import Derived.WalkKit
import Derived.WalkSpells
import Derived.Laws.RangeAny
import Derived.Lib.IndexBytes
namespace Go.Proofs.YtkagfhfjomhkdaaDoor
open Go.RowKit

theorem all_take_succ (s : ByteArray) (k : Nat) (h : k < s.size) : (s.data.toList.take (k + 1)).all digB = ((s.data.toList.take k).all digB && digB s[k]) := by
  rw [List.take_succ_eq_append_getElem (by simpa using h), List.all_append]
  simp
  rfl
theorem all_bad (s : ByteArray) (k : Nat) (h : k < s.size) (hd : ¬ digB s[k] = true) : s.data.toList.all digB = false := by
  rw [Bool.eq_false_iff]
  intro ha
  have := List.all_eq_true.1 ha s[k] (by
    have : s[k] = s.data.toList[k]'(by simpa using h) := rfl
    rw [this]
    exact List.getElem_mem _)
  exact hd this
theorem get0 (s : ByteArray) {c : UInt8} {r : List UInt8} (h : s.data.toList = c :: r) (hp : 0 < s.size) : s[0] = c := by
  have e : s[0] = s.data.toList[0]'(by simpa using hp) := rfl
  rw [e]
  simp [h]
theorem size_list (s : ByteArray) : s.data.toList.length = s.size := by simp
theorem ext_list (s : ByteArray) {c : UInt8} {r : List UInt8} (h : s.data.toList = c :: r) : (s.extract 1 s.size).data.toList = r := by
  rw [Lib.extract_to_end, h]
  rfl
set_option maxHeartbeats 400000 in
theorem canon_pos_yes (s : ByteArray) (w : World) (h0 : 1 ≤ s.size) (hs : s.size ≤ 9223372036854775807) (hz : (s.toList == [48]) = false) (he : s.toList.isEmpty = false) (h1 : ((s[0].toNat : Int) == 45) = false) (h2 : ((s[0].toNat : Int) == 48) = false) (hall : s.data.toList.all digB = true) : Calls Tryd.prog 40 #[.string s] w fun e w' => e = .returned (.bool true) ∧ Below w.heap.size w w' := by
  go_enter Tryd.func40, Tryd.ntmps40
  go_wp2
  go_loopw [5] (fun _ wr => ∃ pos : Nat, pos ≤ s.size ∧ wr = w.iter s pos ∧ Hid ((s.data.toList.take pos).all digB = true)) (fun _ wr => s.size - wr.iterPos w.heap.size)
  case atStart => exact ⟨0, by omega, rfl, rfl⟩
  case round =>
    obtain ⟨pos, hp, rfl, ha⟩ := hrel
    by_cases hlt : pos < s.size
    · by_cases hd : digB s[pos] = true
      · have hd2 := (digB_iff s[pos]).1 hd
        have HA : Hid ((s.data.toList.take (pos + 1)).all digB = true) := by
          show _ = true
          rw [all_take_succ s pos hlt, ha.out, hd]
          rfl
        have hnx : ∀ ty, (Instr.next (.pointer (some ⟨w.heap.size, 0, none⟩)) true ty).run Tryd.prog (w.iter s pos) = _ := fun ty => run_next_ascii w s pos ty hlt (by omega)
        clear hd
        go_wp2
        go_roundw
        case rel => exact ⟨pos + 1, by omega, rfl, HA⟩
        case measure =>
          simp
          omega
      · exfalso
        rw [all_bad s pos hlt hd] at hall
        cases hall
    · have hnx : ∀ ty, (Instr.next (.pointer (some ⟨w.heap.size, 0, none⟩)) true ty).run Tryd.prog (w.iter s pos) = _ := fun ty => run_next_end w s pos ty hlt
      clear hall ha
      go_wp2
      go_ret
      exact ⟨rfl, (Below.refl _ _).alloc (Nat.le_refl _) _⟩
set_option maxHeartbeats 400000 in
theorem canon_neg_yes (s t : ByteArray) (w : World) (h0 : 1 ≤ s.size) (hs : s.size ≤ 9223372036854775807) (hz : (s.toList == [48]) = false) (he : s.toList.isEmpty = false) (h1 : ((s[0].toNat : Int) == 45) = true)
    (ht : s.extract 1 s.size = t) (h0t : 1 ≤ t.size) (hst : t.size ≤ 9223372036854775807) (het : t.toList.isEmpty = false) (h2 : ((t[0].toNat : Int) == 48) = false) (hall : t.data.toList.all digB = true) : Calls Tryd.prog 40 #[.string s] w fun e w' => e = .returned (.bool true) ∧ Below w.heap.size w w' := by
  go_enter Tryd.func40, Tryd.ntmps40
  go_wp2
  go_loopw [5] (fun _ wr => ∃ pos : Nat, pos ≤ t.size ∧ wr = w.iter t pos ∧ Hid ((t.data.toList.take pos).all digB = true)) (fun _ wr => t.size - wr.iterPos w.heap.size)
  case atStart => exact ⟨0, by omega, rfl, rfl⟩
  case round =>
    obtain ⟨pos, hp, rfl, ha⟩ := hrel
    by_cases hlt : pos < t.size
    · by_cases hd : digB t[pos] = true
      · have hd2 := (digB_iff t[pos]).1 hd
        have HA : Hid ((t.data.toList.take (pos + 1)).all digB = true) := by
          show _ = true
          rw [all_take_succ t pos hlt, ha.out, hd]
          rfl
        have hnx : ∀ ty, (Instr.next (.pointer (some ⟨w.heap.size, 0, none⟩)) true ty).run Tryd.prog (w.iter t pos) = _ := fun ty => run_next_ascii w t pos ty hlt (by omega)
        clear hd
        go_wp2
        go_roundw
        case rel => exact ⟨pos + 1, by omega, rfl, HA⟩
        case measure =>
          simp
          omega
      · exfalso
        rw [all_bad t pos hlt hd] at hall
        cases hall
    · have hnx : ∀ ty, (Instr.next (.pointer (some ⟨w.heap.size, 0, none⟩)) true ty).run Tryd.prog (w.iter t pos) = _ := fun ty => run_next_end w t pos ty hlt
      clear hall ha
      go_wp2
      go_ret
      exact ⟨rfl, (Below.refl _ _).alloc (Nat.le_refl _) _⟩
set_option maxHeartbeats 400000 in
theorem canon_pos_no (s : ByteArray) (w : World) (h0 : 1 ≤ s.size) (hs : s.size ≤ 9223372036854775807) (hz : (s.toList == [48]) = false) (he : s.toList.isEmpty = false) (h1 : ((s[0].toNat : Int) == 45) = false) (h2 : ((s[0].toNat : Int) == 48) = false) (hall : s.data.toList.all digB = false) : Calls Tryd.prog 40 #[.string s] w fun e w' => e = .returned (.bool false) ∧ Below w.heap.size w w' := by
  go_enter Tryd.func40, Tryd.ntmps40
  go_wp2
  go_loopw [5] (fun _ wr => ∃ pos : Nat, pos ≤ s.size ∧ wr = w.iter s pos ∧ Hid ((s.data.toList.take pos).all digB = true)) (fun _ wr => s.size - wr.iterPos w.heap.size)
  case atStart => exact ⟨0, by omega, rfl, rfl⟩
  case round =>
    obtain ⟨pos, hp, rfl, ha⟩ := hrel
    by_cases hlt : pos < s.size
    · by_cases hd : digB s[pos] = true
      · have hd2 := (digB_iff s[pos]).1 hd
        have HA : Hid ((s.data.toList.take (pos + 1)).all digB = true) := by
          show _ = true
          rw [all_take_succ s pos hlt, ha.out, hd]
          rfl
        have hnx : ∀ ty, (Instr.next (.pointer (some ⟨w.heap.size, 0, none⟩)) true ty).run Tryd.prog (w.iter s pos) = _ := fun ty => run_next_ascii w s pos ty hlt (by omega)
        clear hd
        go_wp2
        go_roundw
        case rel => exact ⟨pos + 1, by omega, rfl, HA⟩
        case measure =>
          simp
          omega
      · clear ha hall
        by_cases hasc : s[pos].toNat < 128
        · have hnx : ∀ ty, (Instr.next (.pointer (some ⟨w.heap.size, 0, none⟩)) true ty).run Tryd.prog (w.iter s pos) = _ := fun ty => run_next_ascii w s pos ty hlt hasc
          rw [digB_iff] at hd
          by_cases hlow : s[pos].toNat < 48
          · clear hd
            go_wp2
            go_ret
            exact ⟨rfl, (Below.refl _ _).alloc (Nat.le_refl _) _⟩
          · have h48 : 48 ≤ s[pos].toNat := by omega
            have h57 : 57 < s[pos].toNat := by omega
            clear hd hlow
            go_wp2
            go_ret
            exact ⟨rfl, (Below.refl _ _).alloc (Nat.le_refl _) _⟩
        · have hdec := (decode_high s pos hlt (by omega)).1
          have hnx : ∀ ty, (Instr.next (.pointer (some ⟨w.heap.size, 0, none⟩)) true ty).run Tryd.prog (w.iter s pos) = _ := fun ty => run_next_any w s pos ty hlt
          clear hd hasc
          go_wp2
          go_ret
          exact ⟨rfl, (Below.refl _ _).alloc (Nat.le_refl _) _⟩
    · exfalso
      have := ha.out
      rw [List.take_of_length_le (by rw [size_list]; omega), hall] at this
      cases this
set_option maxHeartbeats 400000 in
theorem canon_neg_no (s t : ByteArray) (w : World) (h0 : 1 ≤ s.size) (hs : s.size ≤ 9223372036854775807) (hz : (s.toList == [48]) = false) (he : s.toList.isEmpty = false) (h1 : ((s[0].toNat : Int) == 45) = true)
    (ht : s.extract 1 s.size = t) (h0t : 1 ≤ t.size) (hst : t.size ≤ 9223372036854775807) (het : t.toList.isEmpty = false) (h2 : ((t[0].toNat : Int) == 48) = false) (hall : t.data.toList.all digB = false) : Calls Tryd.prog 40 #[.string s] w fun e w' => e = .returned (.bool false) ∧ Below w.heap.size w w' := by
  go_enter Tryd.func40, Tryd.ntmps40
  go_wp2
  go_loopw [5] (fun _ wr => ∃ pos : Nat, pos ≤ t.size ∧ wr = w.iter t pos ∧ Hid ((t.data.toList.take pos).all digB = true)) (fun _ wr => t.size - wr.iterPos w.heap.size)
  case atStart => exact ⟨0, by omega, rfl, rfl⟩
  case round =>
    obtain ⟨pos, hp, rfl, ha⟩ := hrel
    by_cases hlt : pos < t.size
    · by_cases hd : digB t[pos] = true
      · have hd2 := (digB_iff t[pos]).1 hd
        have HA : Hid ((t.data.toList.take (pos + 1)).all digB = true) := by
          show _ = true
          rw [all_take_succ t pos hlt, ha.out, hd]
          rfl
        have hnx : ∀ ty, (Instr.next (.pointer (some ⟨w.heap.size, 0, none⟩)) true ty).run Tryd.prog (w.iter t pos) = _ := fun ty => run_next_ascii w t pos ty hlt (by omega)
        clear hd
        go_wp2
        go_roundw
        case rel => exact ⟨pos + 1, by omega, rfl, HA⟩
        case measure =>
          simp
          omega
      · clear ha hall
        by_cases hasc : t[pos].toNat < 128
        · have hnx : ∀ ty, (Instr.next (.pointer (some ⟨w.heap.size, 0, none⟩)) true ty).run Tryd.prog (w.iter t pos) = _ := fun ty => run_next_ascii w t pos ty hlt hasc
          rw [digB_iff] at hd
          by_cases hlow : t[pos].toNat < 48
          · clear hd
            go_wp2
            go_ret
            exact ⟨rfl, (Below.refl _ _).alloc (Nat.le_refl _) _⟩
          · have h48 : 48 ≤ t[pos].toNat := by omega
            have h57 : 57 < t[pos].toNat := by omega
            clear hd hlow
            go_wp2
            go_ret
            exact ⟨rfl, (Below.refl _ _).alloc (Nat.le_refl _) _⟩
        · have hdec := (decode_high t pos hlt (by omega)).1
          have hnx : ∀ ty, (Instr.next (.pointer (some ⟨w.heap.size, 0, none⟩)) true ty).run Tryd.prog (w.iter t pos) = _ := fun ty => run_next_any w t pos ty hlt
          clear hd hasc
          go_wp2
          go_ret
          exact ⟨rfl, (Below.refl _ _).alloc (Nat.le_refl _) _⟩
    · exfalso
      have := ha.out
      rw [List.take_of_length_le (by rw [size_list]; omega), hall] at this
      cases this
set_option maxHeartbeats 400000 in
theorem canon_zero (s : ByteArray) (w : World) (hz : (s.toList == [48]) = true) : Calls Tryd.prog 40 #[.string s] w fun e w' => e = .returned (.bool true) ∧ Below w.heap.size w w' := by
  go_enter Tryd.func40, Tryd.ntmps40
  go_wp2
  go_ret
  exact ⟨rfl, Below.refl _ _⟩
set_option maxHeartbeats 400000 in
theorem canon_empty (w : World) : Calls Tryd.prog 40 #[.string ⟨#[]⟩] w fun e w' => e = .returned (.bool false) ∧ Below w.heap.size w w' := by
  go_enter Tryd.func40, Tryd.ntmps40
  go_wp2
  go_ret
  exact ⟨rfl, Below.refl _ _⟩
set_option maxHeartbeats 400000 in
theorem canon_lead (s : ByteArray) (w : World) (h0 : 1 ≤ s.size) (hz : (s.toList == [48]) = false) (he : s.toList.isEmpty = false) (h1 : ((s[0].toNat : Int) == 45) = false) (h2 : ((s[0].toNat : Int) == 48) = true) : Calls Tryd.prog 40 #[.string s] w fun e w' => e = .returned (.bool false) ∧ Below w.heap.size w w' := by
  go_enter Tryd.func40, Tryd.ntmps40
  go_wp2
  go_ret
  exact ⟨rfl, Below.refl _ _⟩
set_option maxHeartbeats 400000 in
theorem canon_minus (s : ByteArray) (w : World) (h0 : 1 ≤ s.size) (hz : (s.toList == [48]) = false) (he : s.toList.isEmpty = false) (h1 : ((s[0].toNat : Int) == 45) = true) (ht : s.extract 1 s.size = ⟨#[]⟩) : Calls Tryd.prog 40 #[.string s] w fun e w' => e = .returned (.bool false) ∧ Below w.heap.size w w' := by
  go_enter Tryd.func40, Tryd.ntmps40
  go_wp2
  go_ret
  exact ⟨rfl, Below.refl _ _⟩
set_option maxHeartbeats 400000 in
theorem canon_minus_lead (s t : ByteArray) (w : World) (h0 : 1 ≤ s.size) (hz : (s.toList == [48]) = false) (he : s.toList.isEmpty = false) (h1 : ((s[0].toNat : Int) == 45) = true) (ht : s.extract 1 s.size = t) (h0t : 1 ≤ t.size) (het : t.toList.isEmpty = false) (h2 : ((t[0].toNat : Int) == 48) = true) : Calls Tryd.prog 40 #[.string s] w fun e w' => e = .returned (.bool false) ∧ Below w.heap.size w w' := by
  go_enter Tryd.func40, Tryd.ntmps40
  go_wp2
  go_ret
  exact ⟨rfl, Below.refl _ _⟩
theorem beq48 (c : UInt8) (k : Nat) : (((c.toNat : Int) == (k : Int)) = true) = (c.toNat = k) := by
  rw [beq_iff_eq]
  exact propext ⟨fun h => by omega, fun h => by omega⟩
theorem canon_any (s : ByteArray) (w : World) (hs : s.size ≤ 9223372036854775807) : Calls Tryd.prog 40 #[.string s] w fun e w' => e = .returned (.bool (canonB s.data.toList)) ∧ Below w.heap.size w w' := by
  have htl : s.toList = s.data.toList := Lib.toList_data s
  have hsz := size_list s
  cases hl : s.data.toList with
  | nil =>
    have e : s = ⟨#[]⟩ := by
      obtain ⟨d⟩ := s
      obtain ⟨l⟩ := d
      simp at hl
      rw [hl]
    subst e
    exact canon_empty w
  | cons c r =>
    have hsz2 : r.length + 1 = s.size := by
      rw [← hsz, hl]
      rfl
    have he : s.toList.isEmpty = false := by
      rw [htl, hl]
      rfl
    have hg := get0 s hl (by omega)
    by_cases h45 : c.toNat = 45
    · have hz : (s.toList == [48]) = false := by
        rw [htl, hl, beq_eq_false_iff_ne]
        intro k
        injection k with k1 _
        rw [k1] at h45
        cases h45
      have h1 : ((s[0].toNat : Int) == 45) = true := by
        rw [hg, beq_iff_eq]
        omega
      rw [show canonB (c :: r) = posB r from by unfold canonB; simp only; rw [if_pos h45]]
      have hx := ext_list s hl
      generalize ht : s.extract 1 s.size = t at hx
      have htl2 : t.toList = t.data.toList := Lib.toList_data t
      have hszt := size_list t
      cases r with
      | nil =>
        have e : t = ⟨#[]⟩ := by
          obtain ⟨d⟩ := t
          obtain ⟨l⟩ := d
          simp at hx
          rw [hx]
        exact canon_minus s w (by omega) hz he h1 (ht.trans e)
      | cons d r2 =>
        have hszt2 : r2.length + 1 = t.size := by
          rw [← hszt, hx]
          rfl
        have het : t.toList.isEmpty = false := by
          rw [htl2, hx]
          rfl
        have hgt := get0 t hx (by omega)
        have hlen : r2.length + 1 + 1 = s.size := hsz2
        by_cases h48 : d.toNat = 48
        · have h2 : ((t[0].toNat : Int) == 48) = true := by
            rw [hgt, beq_iff_eq]
            omega
          rw [show posB (d :: r2) = false from by unfold posB; simp [h48]]
          exact canon_minus_lead s t w (by omega) hz he h1 ht (by omega) het h2
        · have h2 : ((t[0].toNat : Int) == 48) = false := by
            rw [hgt, beq_eq_false_iff_ne]
            omega
          have hp : posB (d :: r2) = t.data.toList.all digB := by
            rw [hx]
            unfold posB
            simp [h48]
          cases ha : t.data.toList.all digB with
          | true =>
            rw [hp, ha]
            exact canon_neg_yes s t w (by omega) hs hz he h1 ht (by omega) (by omega) het h2 ha
          | false =>
            rw [hp, ha]
            exact canon_neg_no s t w (by omega) hs hz he h1 ht (by omega) (by omega) het h2 ha
    · have h1 : ((s[0].toNat : Int) == 45) = false := by
        rw [hg, beq_eq_false_iff_ne]
        omega
      by_cases h48 : c.toNat = 48
      · have e48 : c = 48 := UInt8.toNat_inj.1 h48
        cases r with
        | nil =>
          rw [show canonB [c] = true from by unfold canonB; simp only; rw [if_neg h45, if_pos h48]; rfl]
          exact canon_zero s w (by rw [htl, hl, e48]; rfl)
        | cons d r2 =>
          have hz : (s.toList == [48]) = false := by
            rw [htl, hl, beq_eq_false_iff_ne]
            intro k
            injection k with _ k1
            cases k1
          have h2 : ((s[0].toNat : Int) == 48) = true := by
            rw [hg, beq_iff_eq]
            omega
          rw [show canonB (c :: d :: r2) = false from by unfold canonB; simp only; rw [if_neg h45, if_pos h48]; rfl]
          exact canon_lead s w (by omega) hz he h1 h2
      · have h2 : ((s[0].toNat : Int) == 48) = false := by
          rw [hg, beq_eq_false_iff_ne]
          omega
        have hz : (s.toList == [48]) = false := by
          rw [htl, hl, beq_eq_false_iff_ne]
          intro k
          injection k with k1 _
          rw [k1] at h48
          exact h48 rfl
        have hp : canonB (c :: r) = s.data.toList.all digB := by
          rw [hl]
          unfold canonB posB
          simp only
          rw [if_neg h45, if_neg h48]
          simp [h48]
        cases ha : s.data.toList.all digB with
        | true =>
          rw [hp, ha]
          exact canon_pos_yes s w (by omega) hs hz he h1 h2 ha
        | false =>
          rw [hp, ha]
          exact canon_pos_no s w (by omega) hs hz he h1 h2 ha
end Go.Proofs.YtkagfhfjomhkdaaDoor
