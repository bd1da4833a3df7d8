/-
  Same of the reference, few and small of the laws.
-/
import Derived.Test.YtkagfhfjomhkdaaDoorWrite
namespace Go.Proofs.YtkagfhfjomhkdaaDoor
open Go.RowKit L7
/-- One round's region: what the two tokens' cells say. -/
theorem mk_eq {a b : Bs} : ((mk a).toList == (mk b).toList) = decide (a = b) := by
  rw [show (mk a).toList = a by rw [ByteArray.toList_eq]; rfl, show (mk b).toList = b by rw [ByteArray.toList_eq]; rfl]
  rw [Bool.eq_iff_iff]; simp
set_option maxRecDepth 20000 in
set_option maxHeartbeats 4000000 in
theorem same_any (A B : Option Addr) (c d tA tB : Nat) (La Lb : List (Tk × Int)) (w : World) (hA : ToksIn w tA A La) (hB : ToksIn w tB B Lb) (hn : La.length ≤ 100000) (_ : Lb.length ≤ 4611686018427387904) :
    Calls Tryd.prog 10 #[.slice A La.length c, .slice B Lb.length d] w fun e w' => e = .returned (.bool (decide (La.map Prod.fst = Lb.map Prod.fst))) ∧ Hid (∃ j, w' = w.drewN j) := by
  by_cases hl : La.length = Lb.length
  · have e1 : ((La.length : Int) != (Lb.length : Int)) = false := by simp; omega
    have HL := Lib.hid hl
    have HA := Lib.hid hA
    have HB := Lib.hid hB
    have J0 : Hid (∃ j, w = w.drewN j) := Lib.hid ⟨0, rfl⟩
    clear hl hA hB
    go_enter Tryd.func10, Tryd.ntmps10
    go_wp2
    go_loopw [5] (fun i wr => ∃ k : Nat, k ≤ La.length ∧ i = .int .i64 k ∧ Hid ((La.take k).map Prod.fst = (Lb.take k).map Prod.fst) ∧ Hid (∃ j, wr = w.drewN j)) (fun i _ => La.length - (intOf i).toNat)
    case atStart => exact ⟨0, Nat.zero_le _, rfl, Lib.hid rfl, J0⟩
    case round =>
      clear J0
      obtain ⟨k, hk, rfl, HP, HJ⟩ := hrel
      by_cases hlt : k < La.length
      · have hlt2 : k < Lb.length := by rw [← HL.out]; exact hlt
        obtain ⟨⟨⟨k1, t1, n1⟩, p1⟩, hx⟩ : ∃ x, La[k] = x := ⟨_, rfl⟩
        obtain ⟨⟨⟨k2, t2, n2⟩, p2⟩, hy⟩ : ∃ x, Lb[k] = x := ⟨_, rfl⟩
        have i1 : decide ((k : Int) < (La.length : Int)) = true := by simp; omega
        have bA : Below tA w wr := by obtain ⟨j, hj⟩ := HJ.out; rw [hj]; exact below_drew (Below.refl _ _) j
        have bB : Below tB w wr := by obtain ⟨j, hj⟩ := HJ.out; rw [hj]; exact below_drew (Below.refl _ _) j
        obtain ⟨a, rfl, -, a0, a1, a2, -⟩ := (HA.out.below bA).at_ (k := k) (x := ((⟨k1, t1, n1⟩ : Tk), p1)) (by rw [List.getElem?_eq_getElem hlt, hx])
        obtain ⟨b, rfl, -, b0, b1, b2, -⟩ := (HB.out.below bB).at_ (k := k) (x := ((⟨k2, t2, n2⟩ : Tk), p2)) (by rw [List.getElem?_eq_getElem hlt2, hy])
        simp only at a0 a1 a2 b0 b1 b2
        clear bA bB
        by_cases hK : k1 = k2
        · subst hK
          have q1 : (k1 != k1) = false := by simp
          by_cases hT : t1 = t2
          · subst hT
            by_cases hN : n1 = n2
            · subst hN
              have HP2 : Hid ((La.take (k + 1)).map Prod.fst = (Lb.take (k + 1)).map Prod.fst) := Lib.hid (by
                rw [List.take_succ_eq_append_getElem hlt, List.take_succ_eq_append_getElem hlt2, List.map_append, List.map_append, HP.out, hx, hy]; rfl)
              clear hx hy HP
              go_wp2
              go_quiet (fail)
              go_wp2
              go_roundw
              case rel => exact ⟨k + 1, by omega, by go_num, HP2, by obtain ⟨j, hj⟩ := HJ.out; exact Lib.hid ⟨_, by rw [hj, World.drewN_drewN]⟩⟩
              case measure => simp [intOf]; omega
            · have q3 : (n1 != n2) = true := by simpa using hN
              have HF : Hid (decide (La.map Prod.fst = Lb.map Prod.fst) = false) := Lib.hid (by
                apply decide_eq_false
                intro h
                have := congrArg (fun l => l[k]?) h
                simp only [List.getElem?_map, List.getElem?_eq_getElem hlt, List.getElem?_eq_getElem hlt2, hx, hy] at this
                simp at this
                exact hN this)
              clear hN hx hy HP
              go_wp2
              go_quiet (fail)
              go_wp2
              go_ret
              exact ⟨bool_ret HF.out.symm, by obtain ⟨j, hj⟩ := HJ.out; exact Lib.hid ⟨_, by rw [hj, World.drewN_drewN]⟩⟩
          · have q2 : ((mk t1).toList == (mk t2).toList) = false := by rw [mk_eq]; simpa using hT
            have q3 : ((mk t1).toList != (mk t2).toList) = true := by rw [bne, q2]; rfl
            have HF : Hid (decide (La.map Prod.fst = Lb.map Prod.fst) = false) := Lib.hid (by
              apply decide_eq_false
              intro h
              have := congrArg (fun l => l[k]?) h
              simp only [List.getElem?_map, List.getElem?_eq_getElem hlt, List.getElem?_eq_getElem hlt2, hx, hy] at this
              simp at this
              exact hT this.1)
            clear hT hx hy HP
            go_wp2
            go_quiet (fail)
            go_wp2
            go_ret
            exact ⟨bool_ret HF.out.symm, by obtain ⟨j, hj⟩ := HJ.out; exact Lib.hid ⟨_, by rw [hj, World.drewN_drewN]⟩⟩
        · have q1 : (k1 != k2) = true := by simpa using hK
          have HF : Hid (decide (La.map Prod.fst = Lb.map Prod.fst) = false) := Lib.hid (by
            apply decide_eq_false
            intro h
            have := congrArg (fun l => l[k]?) h
            simp only [List.getElem?_map, List.getElem?_eq_getElem hlt, List.getElem?_eq_getElem hlt2, hx, hy] at this
            simp at this
            exact hK this.1)
          clear hK hx hy HP
          go_wp2
          go_quiet (fail)
          go_wp2
          go_ret
          exact ⟨bool_ret HF.out.symm, by obtain ⟨j, hj⟩ := HJ.out; exact Lib.hid ⟨_, by rw [hj, World.drewN_drewN]⟩⟩
      · have hkl : k = La.length := by omega
        have HF : Hid (decide (La.map Prod.fst = Lb.map Prod.fst) = true) := Lib.hid (by
          apply decide_eq_true
          have := HP.out
          rw [hkl, List.take_length] at this
          rw [this, List.take_of_length_le (by rw [HL.out]; exact Nat.le_refl _)])
        have i1 : decide ((k : Int) < (La.length : Int)) = false := by simp; omega
        clear HP hkl
        go_wp2
        go_ret
        exact ⟨bool_ret HF.out.symm, HJ⟩
  · have e1 : ((La.length : Int) != (Lb.length : Int)) = true := by simp; omega
    have HF : Hid (decide (La.map Prod.fst = Lb.map Prod.fst) = false) := Lib.hid (by
      apply decide_eq_false
      intro h
      have := congrArg List.length h
      rw [List.length_map, List.length_map] at this
      exact hl this)
    have J0 : Hid (∃ j, w = w.drewN j) := Lib.hid ⟨0, rfl⟩
    clear hl
    go_enter Tryd.func10, Tryd.ntmps10
    go_wp2
    go_ret
    exact ⟨bool_ret HF.out.symm, J0⟩
end Go.Proofs.YtkagfhfjomhkdaaDoor
