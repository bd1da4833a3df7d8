/-
  few of the laws.
-/
import Derived.Test.YtkagfhfjomhkdaaDoorSame
namespace Go.Proofs.YtkagfhfjomhkdaaDoor
open Go.RowKit L7
def fewB (L : List (Tk × Int)) : Bool := (L.take 200).all (fun x => decide (x.1.t.length ≤ 4200)) && decide (L.length ≤ 200)
theorem few_ok {L : List (Tk × Int)} (h : fewB L = true) : L.length ≤ 200 ∧ ∀ x ∈ L, x.1.t.length ≤ 4200 := by
  unfold fewB at h
  simp only [Bool.and_eq_true, List.all_eq_true, decide_eq_true_eq] at h
  refine ⟨h.2, fun x hx => h.1 x ?_⟩
  rwa [List.take_of_length_le h.2]
set_option maxHeartbeats 1000000 in
theorem few_any (A : Option Addr) (c top : Nat) (L : List (Tk × Int)) (w : World) (hA : ToksIn w top A L) (hn : L.length ≤ 4611686018427387904) :
    Calls Tryd.prog 7 #[.slice A L.length c] w fun e w' => e = .returned (.bool (fewB L)) ∧ w = w' := by
  have HA := Lib.hid hA
  clear hA
  obtain ⟨r, hr⟩ : ∃ r, r = fewB L := ⟨_, rfl⟩
  rw [← hr]
  have HR := Lib.hid hr
  clear hr
  go_enter Tryd.func7, Tryd.ntmps7
  go_wp2
  go_loop [3] (fun i => ∃ k : Nat, k ≤ L.length ∧ k ≤ 200 ∧ i = .int .i64 k ∧ Hid ((L.take k).all (fun x => decide (x.1.t.length ≤ 4200)) = true)) (fun i => 200 - (intOf i).toNat)
  case atStart => exact ⟨0, Nat.zero_le _, Nat.zero_le _, rfl, Lib.hid rfl⟩
  case round =>
    obtain ⟨k, hk, hk2, rfl, HP⟩ := hrel
    by_cases hlt : k < L.length
    · have i1 : decide ((k : Int) < (L.length : Int)) = true := by simp; omega
      by_cases h2 : k < 200
      · have i2 : decide ((k : Int) < 200) = true := by simp; omega
        obtain ⟨⟨t, p⟩, hx⟩ : ∃ x, L[k] = x := ⟨_, rfl⟩
        obtain ⟨a, rfl, -, a0, a1, -, -⟩ := HA.out.at_ (k := k) (x := (t, p)) (by rw [List.getElem?_eq_getElem hlt, hx])
        simp only at a0 a1
        by_cases hs : 4200 < t.t.length
        · have hs2 : (4200 : Int) < ((mk t.t).size : Int) := by rw [size_mk]; omega
          have HF : Hid (r = false) := Lib.hid (by
            rw [HR.out]
            unfold fewB
            rw [Bool.and_eq_false_iff]
            refine .inl ?_
            rw [Bool.eq_false_iff]
            intro h
            rw [List.all_eq_true] at h
            have := h L[k] (List.mem_take_iff_getElem.2 ⟨k, by omega, rfl⟩)
            rw [hx] at this
            simp at this
            omega)
          have s1 : decide ((4200 : Int) < ((mk t.t).size : Int)) = true := decide_eq_true hs2
          clear hx HP hs
          go_wp2
          go_ret
          exact ⟨bool_ret HF.out.symm, rfl⟩
        · have s1 : decide ((4200 : Int) < ((mk t.t).size : Int)) = false := decide_eq_false (by rw [size_mk]; omega)
          have HP2 : Hid ((L.take (k + 1)).all (fun x => decide (x.1.t.length ≤ 4200)) = true) := Lib.hid (by
            rw [List.take_succ_eq_append_getElem hlt, List.all_append, HP.out, hx]
            simp; omega)
          have s2 : ¬ (4200 : Int) < ((mk t.t).size : Int) := by rw [size_mk]; omega
          clear hx HP hs
          go_wp2
          go_round
          case rel => exact ⟨k + 1, by omega, by omega, by go_num, HP2⟩
          case measure => simp [intOf]; omega
      · have i2 : decide ((k : Int) < 200) = false := by simp; omega
        have HF : Hid (r = decide (L.length ≤ 200)) := Lib.hid (by
          rw [HR.out]
          unfold fewB
          have : k = 200 := by omega
          rw [this] at HP
          rw [HP.out]; rfl)
        clear HP
        go_wp2
        go_ret
        exact ⟨bool_ret (by rw [HF.out, Bool.eq_iff_iff]; simp; omega), rfl⟩
    · have i1 : decide ((k : Int) < (L.length : Int)) = false := by simp; omega
      have HF : Hid (r = decide (L.length ≤ 200)) := Lib.hid (by
        rw [HR.out]
        unfold fewB
        have h1 : L.take 200 = L.take k := by rw [List.take_of_length_le (by omega), List.take_of_length_le (by omega)]
        rw [h1, HP.out]; rfl)
      clear HP
      go_wp2
      go_ret
      exact ⟨bool_ret (by rw [HF.out, Bool.eq_iff_iff]; simp; omega), rfl⟩
end Go.Proofs.YtkagfhfjomhkdaaDoor
