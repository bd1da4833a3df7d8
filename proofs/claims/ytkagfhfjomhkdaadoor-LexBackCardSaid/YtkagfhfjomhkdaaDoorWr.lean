/-
  isValid, written and Write of lex.
-/
import Derived.Test.YtkagfhfjomhkdaaDoorToks
namespace Go.Proofs.YtkagfhfjomhkdaaDoor
open Go.RowKit L7
def dec (n : Nat) : Bs := Lib.decDigits n
theorem dec_itoa (n : Int) (h : 0 ≤ n) : Lib.itoa n = dec n.toNat := by
  unfold Lib.itoa dec; rw [if_neg (by omega)]
theorem dec_ok : DecOk dec where
  all n b hb := by
    have := (dec_val n).2
    rw [List.all_eq_true] at this
    rw [dg_dig]; exact this b hb
  pos n := dec_ne n
  val n := (dec_val n).1
  lead n h := by
    by_cases h0 : 0 < n
    · obtain ⟨c, r, e, hc⟩ := dec_head n h0
      unfold dec at h
      rw [e] at h
      simp at h
      subst h
      exact absurd rfl hc
    · obtain rfl : n = 0 := by omega
      unfold dec
      rw [Lib.decDigits, dif_pos (by decide)]
      decide
/-- Is a token valid? -/
def validB (t : Tk) : Bool :=
  if t.k = 1 then decide (t.n = 0) && isName t.t else if t.k = 2 then decide (t.t = []) && decide (0 ≤ t.n) && decide (t.n ≤ 9007199254740992)
  else if t.k = 3 then decide (t.n = 0) && decide (t.t.length ≤ 4096) else if t.k = 4 then decide (t.n = 0) && isMark t.t else false
theorem written_valid (t : Tk) : (L7.written dec t).isSome = validB t := by
  unfold L7.written validB
  by_cases h2 : t.k = 2
  · simp [h2]
    by_cases a : t.t = [] <;> by_cases b : 0 ≤ t.n <;> by_cases c : t.n ≤ 9007199254740992 <;> simp [a, b, c]
  · by_cases h1 : t.k = 1
    · simp [h1]
      by_cases a : t.n = 0 <;> by_cases b : isName t.t = true <;> simp [a, b]
    · by_cases h3 : t.k = 3
      · simp [h3]
        by_cases a : t.n = 0 <;> by_cases b : t.t.length ≤ 4096 <;> simp [a, b]
      · by_cases h4 : t.k = 4
        · simp [h4]
          by_cases a : t.n = 0 <;> by_cases b : isMark t.t = true <;> simp [a, b]
        · simp [h1, h2, h3, h4]
set_option maxHeartbeats 1000000 in
theorem isValid_any (k n p : Int) (s : ByteArray) (w : World) (hs : s.size ≤ 100000000) :
    Calls Tryd.prog 11 #[.agg #[.int .i64 k, .string s, .int .i64 n, .int .i64 p]] w fun e w' => e = .returned (.bool (validB ⟨k, ls s, n⟩)) ∧ Below w.heap.size w w' := by
  have C := Lib.hid (fun W => isName_any s W hs)
  have M := Lib.hid (fun W => isMark_any s W)
  have HV : Hid (validB ⟨k, ls s, n⟩ = if k = 1 then decide (n = 0) && isName (ls s) else if k = 2 then decide (ls s = []) && decide (0 ≤ n) && decide (n ≤ 9007199254740992)
    else if k = 3 then decide (n = 0) && decide (s.size ≤ 4096) else if k = 4 then decide (n = 0) && isMark (ls s) else false) := Lib.hid rfl
  have HE : Hid (s.toList.isEmpty = decide (ls s = [])) := Lib.hid (by rw [show s.toList = ls s by rw [ByteArray.toList_eq]; rfl]; cases ls s <;> rfl)
  by_cases k1 : k = 1
  · have d1 : (k == 1) = true := by simpa using k1
    have HV2 := HV.out
    rw [if_pos k1] at HV2
    have HV3 := Lib.hid HV2
    clear HV HV2 k1
    by_cases n0 : n = 0
    · have d0 : (n == 0) = true := by simpa using n0
      have HV4 : Hid (validB ⟨k, ls s, n⟩ = isName (ls s)) := Lib.hid (by rw [HV3.out, decide_eq_true n0]; rfl)
      clear n0 HV3
      go_enter Tryd.func11, Tryd.ntmps11
      go_wp2_with (go_at_call 23; (with_reducible refine (C.out _).mono ?_); rintro e w' ⟨rfl, rfl⟩)
      go_ret
      exact ⟨bool_ret HV4.out.symm, (Below.refl _ _).alloc (Nat.le_refl _) _⟩
    · have d0 : (n == 0) = false := by simpa using n0
      have HV4 : Hid (validB ⟨k, ls s, n⟩ = false) := Lib.hid (by rw [HV3.out, decide_eq_false n0]; rfl)
      clear n0 HV3
      go_enter Tryd.func11, Tryd.ntmps11
      go_wp2
      go_ret
      exact ⟨bool_ret HV4.out.symm, (Below.refl _ _).alloc (Nat.le_refl _) _⟩
  have d1 : (k == 1) = false := by simpa using k1
  by_cases k2 : k = 2
  · have d2 : (k == 2) = true := by simpa using k2
    have HV2 := HV.out
    rw [if_neg k1, if_pos k2] at HV2
    have HV3 := Lib.hid HV2
    clear HV HV2 k1 k2
    cases he : s.toList.isEmpty with
    | false =>
      have HV4 : Hid (validB ⟨k, ls s, n⟩ = false) := Lib.hid (by rw [HV3.out, ← HE.out, he]; rfl)
      clear HV3 HE
      go_enter Tryd.func11, Tryd.ntmps11
      go_wp2
      go_ret
      exact ⟨bool_ret HV4.out.symm, (Below.refl _ _).alloc (Nat.le_refl _) _⟩
    | true =>
      by_cases n0 : 0 ≤ n
      · have d0 : decide (0 ≤ n) = true := by simpa using n0
        have HV4 : Hid (validB ⟨k, ls s, n⟩ = decide (n ≤ 9007199254740992)) := Lib.hid (by rw [HV3.out, ← HE.out, he, d0]; rfl)
        clear HV3 HE
        go_enter Tryd.func11, Tryd.ntmps11
        go_wp2
        go_ret
        exact ⟨bool_ret HV4.out.symm, (Below.refl _ _).alloc (Nat.le_refl _) _⟩
      · have d0 : decide (0 ≤ n) = false := by simpa using n0
        have HV4 : Hid (validB ⟨k, ls s, n⟩ = false) := Lib.hid (by rw [HV3.out, ← HE.out, he, d0]; rfl)
        clear HV3 HE n0
        go_enter Tryd.func11, Tryd.ntmps11
        go_wp2
        go_ret
        exact ⟨bool_ret HV4.out.symm, (Below.refl _ _).alloc (Nat.le_refl _) _⟩
  have d2 : (k == 2) = false := by simpa using k2
  by_cases k3 : k = 3
  · have d3 : (k == 3) = true := by simpa using k3
    have HV2 := HV.out
    rw [if_neg k1, if_neg k2, if_pos k3] at HV2
    have HV3 := Lib.hid HV2
    clear HV HV2 k1 k2 k3
    by_cases n0 : n = 0
    · have d0 : (n == 0) = true := by simpa using n0
      have HV4 : Hid (validB ⟨k, ls s, n⟩ = decide (s.size ≤ 4096)) := Lib.hid (by rw [HV3.out, decide_eq_true n0]; rfl)
      clear n0 HV3
      go_enter Tryd.func11, Tryd.ntmps11
      go_wp2
      go_ret
      exact ⟨bool_ret (by rw [HV4.out, Bool.eq_iff_iff]; simp; omega), (Below.refl _ _).alloc (Nat.le_refl _) _⟩
    · have d0 : (n == 0) = false := by simpa using n0
      have HV4 : Hid (validB ⟨k, ls s, n⟩ = false) := Lib.hid (by rw [HV3.out, decide_eq_false n0]; rfl)
      clear n0 HV3
      go_enter Tryd.func11, Tryd.ntmps11
      go_wp2
      go_ret
      exact ⟨bool_ret HV4.out.symm, (Below.refl _ _).alloc (Nat.le_refl _) _⟩
  have d3 : (k == 3) = false := by simpa using k3
  by_cases k4 : k = 4
  · have d4 : (k == 4) = true := by simpa using k4
    have HV2 := HV.out
    rw [if_neg k1, if_neg k2, if_neg k3, if_pos k4] at HV2
    have HV3 := Lib.hid HV2
    clear HV HV2 k1 k2 k3 k4
    by_cases n0 : n = 0
    · have d0 : (n == 0) = true := by simpa using n0
      have HV4 : Hid (validB ⟨k, ls s, n⟩ = isMark (ls s)) := Lib.hid (by rw [HV3.out, decide_eq_true n0]; rfl)
      clear n0 HV3
      go_enter Tryd.func11, Tryd.ntmps11
      go_wp2_with (go_at_call 24; (with_reducible refine (M.out _).mono ?_); rintro e w' ⟨rfl, rfl⟩)
      go_ret
      exact ⟨bool_ret HV4.out.symm, (Below.refl _ _).alloc (Nat.le_refl _) _⟩
    · have d0 : (n == 0) = false := by simpa using n0
      have HV4 : Hid (validB ⟨k, ls s, n⟩ = false) := Lib.hid (by rw [HV3.out, decide_eq_false n0]; rfl)
      clear n0 HV3
      go_enter Tryd.func11, Tryd.ntmps11
      go_wp2
      go_ret
      exact ⟨bool_ret HV4.out.symm, (Below.refl _ _).alloc (Nat.le_refl _) _⟩
  have d4 : (k == 4) = false := by simpa using k4
  have HV4 : Hid (validB ⟨k, ls s, n⟩ = false) := Lib.hid (by rw [HV.out, if_neg k1, if_neg k2, if_neg k3, if_neg k4])
  clear HV k1 k2 k3 k4
  go_enter Tryd.func11, Tryd.ntmps11
  go_wp2
  go_ret
  exact ⟨bool_ret HV4.out.symm, (Below.refl _ _).alloc (Nat.le_refl _) _⟩
end Go.Proofs.YtkagfhfjomhkdaaDoor
