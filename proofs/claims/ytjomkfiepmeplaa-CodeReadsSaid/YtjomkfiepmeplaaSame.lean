/-
  The reference's SameTexts and SameInts: they compare two slices as lists.
-/
import Derived.Test.YtjomkfiepmeplaaEncode
import Derived.Deep.QuietTactic
import Derived.BigQuiet
namespace Go.Proofs.Ytjomkfiepmeplaa
open Go.RowKit
theorem mkl (l : List UInt8) : (mk l).toList = l := by rw [ByteArray.toList_eq]; rfl
theorem mk_beq (a b : List UInt8) : ((mk a).toList == (mk b).toList) = decide (a = b) := by
  rw [mkl, mkl]
  by_cases h : a = b
  · subst h; simp
  · simp [h]

set_option maxHeartbeats 1000000 in
theorem samet_len (A B : Option Addr) (c d n m : Nat) (w : World) (hl : n ≠ m) :
    Calls Try.prog 29 #[.slice A n c, .slice B m d] w fun e w' => e = .returned (.bool false) ∧ w = w' := by
  have h1 : ((n : Int) != (m : Int)) = true := by simp; omega
  go_enter Try.func29, Try.ntmps29
  go_wp2
  go_ret
  exact ⟨rfl, rfl⟩
set_option maxHeartbeats 1000000 in
theorem samet_eq (A B : Option Addr) (c d t1 t2 : Nat) (xs ys : List (List UInt8)) (w : World) (ha : Row w t1 A (strs xs)) (hb : Row w t2 B (strs ys)) (hl : xs.length = ys.length) (h63 : xs.length < 9223372036854775807) :
    Calls Try.prog 29 #[.slice A xs.length c, .slice B ys.length d] w fun e w' => e = .returned (.bool (decide (xs = ys))) ∧ ∃ j, w' = w.drewN j := by
  have HA := Lib.hid ha
  have HB := Lib.hid hb
  clear ha hb
  rw [← hl]
  have HL := Lib.hid hl
  clear hl
  go_enter Try.func29, Try.ntmps29
  go_wp2
  go_loopw [5] (fun i wr => ∃ k j : Nat, k ≤ xs.length ∧ i = .int .i64 k ∧ xs.take k = ys.take k ∧ wr = w.drewN j) (fun i _ => xs.length - (intOf i).toNat)
  case atStart => exact ⟨0, 0, by omega, rfl, rfl, rfl⟩
  case round =>
    obtain ⟨k, j, hk, rfl, ht, rfl⟩ := hrel
    have HT := Lib.hid ht
    clear ht
    by_cases hlt : k < xs.length
    · have hlt2 : k < ys.length := by have := HL.out; omega
      obtain ⟨a, rfl, -, hca⟩ := HA.out k _ (strs_at xs k hlt)
      obtain ⟨b, rfl, -, hcb⟩ := HB.out k _ (strs_at ys k hlt2)
      have i1 : decide ((k : Int) < (xs.length : Int)) = true := by simp; omega
      have b0 : (0 : Int) ≤ (k : Int) := by omega
      by_cases he : xs[k] = ys[k]
      · have E : (!(mk xs[k]).toList == (mk ys[k]).toList) = false := by rw [mk_beq]; simp [he]
        have HE := Lib.hid he
        have g1 : (w.drewN j).cell? (a.add k) = some (.string (mk xs[k])) := hca
        have g2 : (w.drewN j).cell? (b.add k) = some (.string (mk ys[k])) := hcb
        clear he
        go_wp2
        go_quiet (fail)
        go_wp2
        go_roundw
        case rel =>
          refine ⟨k + 1, _, by omega, by go_num, ?_, rfl⟩
          rw [List.take_succ_eq_append_getElem hlt, List.take_succ_eq_append_getElem hlt2, HT.out, HE.out]
        case measure => simp [intOf]; omega
      · have E : (!(mk xs[k]).toList == (mk ys[k]).toList) = true := by rw [mk_beq]; simp [he]
        have hne : decide (xs = ys) = false := by
          apply decide_eq_false
          intro e
          subst e
          exact he rfl
        have HN := Lib.hid hne
        have g1 : (w.drewN j).cell? (a.add k) = some (.string (mk xs[k])) := hca
        have g2 : (w.drewN j).cell? (b.add k) = some (.string (mk ys[k])) := hcb
        clear he hne
        go_wp2
        go_quiet (fail)
        go_wp2
        go_ret
        exact ⟨by rw [HN.out]; rfl, _, World.drewN_drewN _ _ _⟩
    · have i1 : decide ((k : Int) < (xs.length : Int)) = false := by simp; omega
      have i2 : decide (k < xs.length) = false := by simp; omega
      have hx : decide (xs = ys) = true := by
        have := HT.out
        have hll := HL.out
        rw [List.take_of_length_le (by omega), List.take_of_length_le (by omega)] at this
        exact decide_eq_true this
      have HX := Lib.hid hx
      clear hx
      go_wp2
      go_ret
      exact ⟨by rw [HX.out]; rfl, j, rfl⟩
theorem samet_any (A B : Option Addr) (c d t1 t2 : Nat) (xs ys : List (List UInt8)) (w : World) (ha : Row w t1 A (strs xs)) (hb : Row w t2 B (strs ys)) (h1 : xs.length < 9223372036854775807) (h2 : ys.length < 9223372036854775807) :
    Calls Try.prog 29 #[.slice A xs.length c, .slice B ys.length d] w fun e w' => e = .returned (.bool (decide (xs = ys))) ∧ ∃ j, w' = w.drewN j := by
  by_cases hl : xs.length = ys.length
  · exact samet_eq A B c d t1 t2 xs ys w ha hb hl h1
  · have hne : decide (xs = ys) = false := by
      apply decide_eq_false
      intro e
      subst e
      exact hl rfl
    rw [hne]
    exact (samet_len A B c d xs.length ys.length w hl).mono fun _ _ ⟨h1, h2⟩ => ⟨h1, 0, h2.symm⟩

set_option maxHeartbeats 1000000 in
theorem samei_len (A B : Option Addr) (c d n m : Nat) (w : World) (hl : n ≠ m) :
    Calls Try.prog 32 #[.slice A n c, .slice B m d] w fun e w' => e = .returned (.bool false) ∧ w = w' := by
  have h1 : ((n : Int) != (m : Int)) = true := by simp; omega
  go_enter Try.func32, Try.ntmps32
  go_wp2
  go_ret
  exact ⟨rfl, rfl⟩
set_option maxHeartbeats 1000000 in
theorem samei_eq (A B : Option Addr) (c d t1 t2 : Nat) (xs ys : List Int) (w : World) (ha : Row w t1 A (ints xs)) (hb : Row w t2 B (ints ys)) (hl : xs.length = ys.length) (h63 : xs.length < 9223372036854775807) :
    Calls Try.prog 32 #[.slice A xs.length c, .slice B ys.length d] w fun e w' => e = .returned (.bool (decide (xs = ys))) ∧ ∃ j, w' = w.drewN j := by
  have HA := Lib.hid ha
  have HB := Lib.hid hb
  clear ha hb
  rw [← hl]
  have HL := Lib.hid hl
  clear hl
  go_enter Try.func32, Try.ntmps32
  go_wp2
  go_loopw [5] (fun i wr => ∃ k j : Nat, k ≤ xs.length ∧ i = .int .i64 k ∧ xs.take k = ys.take k ∧ wr = w.drewN j) (fun i _ => xs.length - (intOf i).toNat)
  case atStart => exact ⟨0, 0, by omega, rfl, rfl, rfl⟩
  case round =>
    obtain ⟨k, j, hk, rfl, ht, rfl⟩ := hrel
    have HT := Lib.hid ht
    clear ht
    by_cases hlt : k < xs.length
    · have hlt2 : k < ys.length := by have := HL.out; omega
      obtain ⟨a, rfl, -, hca⟩ := HA.out k _ (ints_at xs k hlt)
      obtain ⟨b, rfl, -, hcb⟩ := HB.out k _ (ints_at ys k hlt2)
      have i1 : decide ((k : Int) < (xs.length : Int)) = true := by simp; omega
      have b0 : (0 : Int) ≤ (k : Int) := by omega
      by_cases he : xs[k] = ys[k]
      · have E : (xs[k] != ys[k]) = false := by simp [he]
        have HE := Lib.hid he
        have g1 : (w.drewN j).cell? (a.add k) = some (.int .i64 xs[k]) := hca
        have g2 : (w.drewN j).cell? (b.add k) = some (.int .i64 ys[k]) := hcb
        clear he
        go_wp2
        go_quiet (fail)
        go_wp2
        go_roundw
        case rel =>
          refine ⟨k + 1, _, by omega, by go_num, ?_, rfl⟩
          rw [List.take_succ_eq_append_getElem hlt, List.take_succ_eq_append_getElem hlt2, HT.out, HE.out]
        case measure => simp [intOf]; omega
      · have E : (xs[k] != ys[k]) = true := by simp [he]
        have hne : decide (xs = ys) = false := by
          apply decide_eq_false
          intro e
          subst e
          exact he rfl
        have HN := Lib.hid hne
        have g1 : (w.drewN j).cell? (a.add k) = some (.int .i64 xs[k]) := hca
        have g2 : (w.drewN j).cell? (b.add k) = some (.int .i64 ys[k]) := hcb
        clear he hne
        go_wp2
        go_quiet (fail)
        go_wp2
        go_ret
        exact ⟨by rw [HN.out]; rfl, _, World.drewN_drewN _ _ _⟩
    · have i1 : decide ((k : Int) < (xs.length : Int)) = false := by simp; omega
      have i2 : decide (k < xs.length) = false := by simp; omega
      have hx : decide (xs = ys) = true := by
        have := HT.out
        have hll := HL.out
        rw [List.take_of_length_le (by omega), List.take_of_length_le (by omega)] at this
        exact decide_eq_true this
      have HX := Lib.hid hx
      clear hx
      go_wp2
      go_ret
      exact ⟨by rw [HX.out]; rfl, j, rfl⟩
theorem samei_any (A B : Option Addr) (c d t1 t2 : Nat) (xs ys : List Int) (w : World) (ha : Row w t1 A (ints xs)) (hb : Row w t2 B (ints ys)) (h1 : xs.length < 9223372036854775807) (h2 : ys.length < 9223372036854775807) :
    Calls Try.prog 32 #[.slice A xs.length c, .slice B ys.length d] w fun e w' => e = .returned (.bool (decide (xs = ys))) ∧ ∃ j, w' = w.drewN j := by
  by_cases hl : xs.length = ys.length
  · exact samei_eq A B c d t1 t2 xs ys w ha hb hl h1
  · have hne : decide (xs = ys) = false := by
      apply decide_eq_false
      intro e
      subst e
      exact hl rfl
    rw [hne]
    exact (samei_len A B c d xs.length ys.length w hl).mono fun _ _ ⟨h1, h2⟩ => ⟨h1, 0, h2.symm⟩
end Go.Proofs.Ytjomkfiepmeplaa
