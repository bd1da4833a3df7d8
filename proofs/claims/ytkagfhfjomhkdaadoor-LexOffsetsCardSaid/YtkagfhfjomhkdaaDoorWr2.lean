/-
  written and Write of lex: their contracts.
-/
import Derived.Test.YtkagfhfjomhkdaaDoorWr
namespace Go.Proofs.YtkagfhfjomhkdaaDoor
open Go.RowKit L7
set_option maxHeartbeats 1000000 in
theorem written_any (k n p : Int) (s : ByteArray) (x : Bs) (w : World) (hw : Lies w) (hs : s.size ≤ 10000000) (h : L7.written dec ⟨k, ls s, n⟩ = some x) :
    Calls Tryd.prog 14 #[.agg #[.int .i64 k, .string s, .int .i64 n, .int .i64 p]] w fun e w' => e = .returned (.string (mk x)) ∧ Below w.heap.size w w' := by
  unfold L7.written at h
  simp only at h
  by_cases k2 : k = 2
  · rw [if_pos k2] at h
    have d2 : (k == 2) = true := by simpa using k2
    have hb : ls s = [] ∧ 0 ≤ n ∧ n ≤ 9007199254740992 := by
      by_cases hb : ls s = [] ∧ 0 ≤ n ∧ n ≤ 9007199254740992
      · exact hb
      · rw [if_neg hb] at h; cases h
    rw [if_pos hb] at h
    have hx : x = Lib.itoa n := by rw [dec_itoa n hb.2.1]; injection h with h; exact h.symm
    have hx2 : (⟨(Lib.itoa n).toArray⟩ : ByteArray) = mk x := by rw [hx]; rfl
    have T := text_any n (by omega) (by omega) (w.alloc (.cells #[.int .i64 k, .string s, .int .i64 n, .int .i64 p] 32)) (hw.on ((Below.refl _ _).alloc (Nat.le_refl _) _))
    rw [hx2] at T
    have HT := Lib.hid T
    clear T hx hx2 hb h k2
    go_enter Tryd.func14, Tryd.ntmps14
    go_wp2_with (go_at_call 26; (with_reducible refine (HT.out).mono ?_); rintro e w2 ⟨rfl, hb⟩; have B2 := Lib.hid (((Below.refl w.heap.size w).alloc (Nat.le_refl _) _).trans (hb.mono (by simp))); clear hb)
    go_ret
    exact ⟨rfl, B2.out⟩
  rw [if_neg k2] at h
  have d2 : (k == 2) = false := by simpa using k2
  by_cases hn : n ≠ 0
  · rw [if_pos hn] at h; cases h
  rw [if_neg hn] at h
  by_cases k3 : k = 3
  · have d3 : (k == 3) = true := by simpa using k3
    have hb : k = 3 ∧ (ls s).length ≤ 4096 := by
      by_cases hb : k = 3 ∧ (ls s).length ≤ 4096
      · exact hb
      · rw [if_neg hb, if_neg (by rintro (⟨h1, -⟩ | ⟨h1, -⟩) <;> omega)] at h; cases h
    rw [if_pos hb] at h
    have hx : x = 34 :: (qbody (ls s) ++ [34]) := by injection h with h; exact h.symm
    have Q := quoted_any s (w.alloc (.cells #[.int .i64 k, .string s, .int .i64 n, .int .i64 p] 32)) hs
    rw [← hx] at Q
    have HQ := Lib.hid Q
    clear Q hx hb h k2 k3 hn
    go_enter Tryd.func14, Tryd.ntmps14
    go_wp2_with (go_at_call 27; (with_reducible refine (HQ.out).mono ?_); rintro e w2 ⟨rfl, hb⟩; have B2 := Lib.hid (((Below.refl w.heap.size w).alloc (Nat.le_refl _) _).trans (hb.mono (by simp))); clear hb)
    go_ret
    exact ⟨rfl, B2.out⟩
  · have d3 : (k == 3) = false := by simpa using k3
    rw [if_neg (fun h => k3 h.1)] at h
    have hx : ls s = x := by
      split at h
      · injection h
      · cases h
    have HX : Hid (s = mk x) := Lib.hid (by rw [← hx]; rfl)
    clear hx h k2 k3 hn
    go_enter Tryd.func14, Tryd.ntmps14
    go_wp2
    go_ret
    exact ⟨str_ret HX.out, (Below.refl _ _).alloc (Nat.le_refl _) _⟩
end Go.Proofs.YtkagfhfjomhkdaaDoor
