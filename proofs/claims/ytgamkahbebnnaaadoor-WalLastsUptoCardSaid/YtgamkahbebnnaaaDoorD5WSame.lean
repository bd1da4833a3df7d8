/-
  The law's comparisons: Same and Begins; Open's refusals.
-/
import Derived.Test.YtgamkahbebnnaaaDoorD5WOpen
namespace Go.Proofs.YtgamkahbebnnaaaDoor.D5
open Go.RowKit WalPlain
set_option maxRecDepth 40000
theorem open_far (b : Nat) (w : World) : Calls Tryd.prog 10 #[.pointer (some ⟨b, 0, none⟩), .int .i64 7] w fun e w' => e = .returned (.tuple #[.pointer none, .int .i64 1]) ∧ w' = w := by
  go_enter Tryd.func10, Tryd.ntmps10
  go_wp2
  go_ret2
  exact ⟨rfl, rfl⟩
theorem open_nil (w : World) : Calls Tryd.prog 10 #[.pointer none, .int .i64 2] w fun e w' => e = .returned (.tuple #[.pointer none, .int .i64 1]) ∧ w' = w := by
  go_enter Tryd.func10, Tryd.ntmps10
  go_wp2
  go_ret2
  exact ⟨rfl, rfl⟩
theorem mk_beq5 (a b : Bs) : ((mk a).toList == (mk b).toList) = decide (a = b) := mk_beq a b
set_option maxHeartbeats 1000000 in
theorem same_any (A1 A2 : Option Addr) (c1 c2 : Nat) (l1 l2 : List Bs) (w : World) (h1 : RowAt w A1 (strs l1)) (h2 : RowAt w A2 (strs l2)) (hb : l1.length ≤ 16777216) :
    Calls Tryd.prog 22 #[.slice A1 l1.length c1, .slice A2 l2.length c2] w fun e w' => e = .returned (.bool (decide (l1 = l2))) ∧ ∃ j, w' = w.drewN j := by
  by_cases hl : l1.length = l2.length
  · have n1 : ((l1.length : Int) == (l2.length : Int)) = true := by simp; omega
    have H1 := Lib.hid h1
    have H2 := Lib.hid h2
    have HL := Lib.hid hl
    obtain ⟨m, hm⟩ : ∃ m, m = l2.length := ⟨_, rfl⟩
    have HM := Lib.hid hm
    rw [← hm] at n1 ⊢
    obtain ⟨p, hp⟩ : ∃ p, p = l1.length := ⟨_, rfl⟩
    have HP := Lib.hid hp
    rw [← hp] at n1 hb ⊢
    obtain ⟨r, hr⟩ : ∃ r, r = decide (l1 = l2) := ⟨_, rfl⟩
    have HRR := Lib.hid hr
    rw [← hr]
    clear h1 h2 hl hm hp hr
    go_enter Tryd.func22, Tryd.ntmps22
    go_wp2
    go_loopw [5] (fun i wr => ∃ k : Nat, i = .int .i64 (k : Int) ∧ k ≤ p ∧ Hid (l1.take k = l2.take k) ∧ Hid (∃ j, wr = w.drewN j)) (fun i _ => p - (intOf i).toNat)
    case atStart => exact ⟨0, rfl, Nat.zero_le _, Lib.hid rfl, Lib.hid ⟨0, rfl⟩⟩
    case round =>
      obtain ⟨k, rfl, hk, HT, HJ⟩ := hrel
      by_cases hlt : k < p
      · have i1 : decide ((k : Int) < (p : Int)) = true := by simp; omega
        have k1 : k < l1.length := by rw [← HP.out]; exact hlt
        have k2 : k < l2.length := by rw [← HL.out]; exact k1
        have W1 : IntKind.i64.wrap ((k : Int) + 1) = (k : Int) + 1 := IntWalk.i64_in _ (by omega)
        have hpm : p = m := by rw [HP.out, HM.out, HL.out]
        have i2 : (k : Int) < (m : Int) := by omega
        obtain ⟨a1, rfl, hc1⟩ := H1.out k _ (strs_at l1 k k1)
        obtain ⟨a2, rfl, hc2⟩ := H2.out k _ (strs_at l2 k k2)
        obtain ⟨s1, hs1⟩ : ∃ s, s = l1[k] := ⟨_, rfl⟩
        obtain ⟨s2, hs2⟩ : ∃ s, s = l2[k] := ⟨_, rfl⟩
        rw [← hs1] at hc1
        rw [← hs2] at hc2
        have hd1 : wr.cell? (a1.add k) = some (.string (mk s1)) := by obtain ⟨j, hj⟩ := HJ.out; rw [hj]; exact hc1
        have hd2 : wr.cell? (a2.add k) = some (.string (mk s2)) := by obtain ⟨j, hj⟩ := HJ.out; rw [hj]; exact hc2
        by_cases he : s1 = s2
        · have i3 : ((mk s1).toList == (mk s2).toList) = true := by rw [mk_beq5]; exact decide_eq_true he
          have HT2 : Hid (l1.take (k + 1) = l2.take (k + 1)) := Lib.hid (by
            rw [← List.take_append_getElem k1, ← List.take_append_getElem k2, HT.out, ← hs1, ← hs2, he])
          clear hs1 hs2 hc1 hc2 he hpm
          go_wp2_with (go_quiet (fail))
          go_roundw
          case rel => exact ⟨k + 1, by go_num, by omega, HT2, Lib.hid (by obtain ⟨j, hj⟩ := HJ.out; exact ⟨_, by rw [hj]; exact World.drewN_drewN _ _ _⟩)⟩
          case measure => simp [intOf]; omega
        · have i3 : ((mk s1).toList == (mk s2).toList) = false := by rw [mk_beq5]; exact decide_eq_false he
          have HF : Hid (r = false) := Lib.hid (by rw [HRR.out]; exact decide_eq_false (fun e => he (by rw [hs1, hs2]; simp only [e])))
          clear hs1 hs2 hc1 hc2 he hpm
          go_wp2_with (go_quiet (fail))
          go_ret
          exact ⟨by rw [HF.out]; rfl, by obtain ⟨j, hj⟩ := HJ.out; exact ⟨_, by rw [hj]; exact World.drewN_drewN _ _ _⟩⟩
      · have i1 : decide ((k : Int) < (p : Int)) = false := by simp; omega
        have HF : Hid (r = true) := Lib.hid (by
          rw [HRR.out]
          have := HT.out
          rw [List.take_of_length_le (by rw [← HP.out]; omega), List.take_of_length_le (by rw [← HL.out, ← HP.out]; omega)] at this
          exact decide_eq_true this)
        go_wp2
        go_ret
        exact ⟨by rw [HF.out]; rfl, HJ.out⟩
  · have n1 : ((l1.length : Int) == (l2.length : Int)) = false := by simp; omega
    rw [decide_eq_false (fun e => hl (by rw [e]))]
    clear h1 h2
    go_enter Tryd.func22, Tryd.ntmps22
    go_wp2
    go_ret
    exact ⟨rfl, 0, rfl⟩
theorem begins_any (A1 A2 : Option Addr) (c1 c2 : Nat) (l1 l2 : List Bs) (w : World) (h1 : RowAt w A1 (strs l1)) (h2 : RowAt w A2 (strs l2)) (hc : l1.length ≤ c1) (hb : l1.length ≤ 16777216) :
    Calls Tryd.prog 23 #[.slice A1 l1.length c1, .slice A2 l2.length c2] w fun e w' => e = .returned (.bool (decide (l2 <+: l1))) ∧ ∃ j, w' = w.drewN j := by
  by_cases hl : l2.length ≤ l1.length
  · have i1 : decide ((l2.length : Int) ≤ (l1.length : Int)) = true := by simp; omega
    have i4 : decide (l2.length ≤ l1.length) = true := by simp; omega
    have ht : l2 <+: l1 ↔ l1.take l2.length = l2 := ⟨fun h => (List.prefix_iff_eq_take.1 h).symm, fun h => List.prefix_iff_eq_take.2 h.symm⟩
    have hz : (l1.take l2.length).length = l2.length := by rw [List.length_take]; omega
    have SM : Hid (Calls Tryd.prog 22 #[.slice A1 l2.length c1, .slice A2 l2.length c2] w fun e w' => e = .returned (.bool (decide (l2 <+: l1))) ∧ ∃ j, w' = w.drewN j) := Lib.hid (by
      have := same_any A1 A2 c1 c2 (l1.take l2.length) l2 w (fun k u hk => h1 k u (by
        have e : strs (l1.take l2.length) = (strs l1).take l2.length := by simp [strs, List.map_take]
        rw [e, List.getElem?_take] at hk
        split at hk
        · exact hk
        · cases hk)) h2 (by omega)
      rw [hz] at this
      rw [show decide (l2 <+: l1) = decide (l1.take l2.length = l2) from decide_eq_decide.2 ht]
      exact this)
    have i2 : (l2.length : Int) ≤ (c1 : Int) := by omega
    have i3 : l2.length ≤ c1 := by omega
    obtain ⟨r, hr⟩ : ∃ r, r = decide (l2 <+: l1) := ⟨_, rfl⟩
    rw [← hr] at SM ⊢
    clear h1 h2 hl ht hz hr
    go_enter Tryd.func23, Tryd.ntmps23
    go_wp2_with (go_at_call 22; refine SM.out.mono ?_; rintro e w1 ⟨rfl, j, rfl⟩)
    go_ret
    exact ⟨rfl, _, rfl⟩
  · have i1 : decide ((l2.length : Int) ≤ (l1.length : Int)) = false := by simp; omega
    have i4 : decide (l2.length ≤ l1.length) = false := by simp; omega
    rw [decide_eq_false (fun h => hl h.length_le)]
    clear h1 h2
    go_enter Tryd.func23, Tryd.ntmps23
    go_wp2
    go_ret
    exact ⟨rfl, 0, rfl⟩
end Go.Proofs.YtgamkahbebnnaaaDoor.D5
