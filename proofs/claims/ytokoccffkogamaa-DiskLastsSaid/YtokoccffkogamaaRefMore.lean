/-
  The reference's Flush and Cut.
-/
import Derived.Test.YtokoccffkogamaaRefOps
namespace Go.Proofs.Ytokoccffkogamaa
open Go.RowKit
namespace Dk
theorem by_down (D : Dk) (x : Nat × Dk) : (if D.enter.1 = 0 then x else D.enter) = if D.enter.2.down = true then (12, D.enter.2) else x := by
  have e := D.enter_one
  by_cases h : D.enter.2.down = true
  · rw [if_pos h] at e ⊢
    rw [if_neg (by omega), ← e]
  · rw [if_neg h] at e ⊢
    rw [if_pos e]
theorem flush_eq (D : Dk) (f : Int) : D.flush f = if D.enter.2.down = true then (12, D.enter.2) else D.enter.2.flushed f := by_down D _
theorem cut_eq (D : Dk) (f n : Int) : D.cut f n = if D.enter.2.down = true then (12, D.enter.2) else D.enter.2.cutted f n := by_down D _
theorem turn_eq (D : Dk) (f g : Int) : D.turn f g = if D.enter.2.down = true then (12, D.enter.2) else D.enter.2.turned f g := by_down D _
end Dk
theorem comes0_any (r : Nat) (D : Dk) (F : Nat → Prop) (w : World) (h : RHas w r F D) :
    Calls Try.prog 50 #[.pointer (some ⟨r, 0, none⟩), .int .i64 0, .string ⟨#[]⟩] w fun e w' => e = .returned (.tuple #[]) ∧ RStep r F w w' D.enter.2 := by
  have := comes_any r D F 0 ⟨#[]⟩ w h (by decide)
  have e : D.comes 0 (ls ⟨#[]⟩) = D.enter.2 := Dk.comes_nil h.ok
  rw [e] at this
  exact this
set_option maxRecDepth 40000 in
set_option maxHeartbeats 4000000 in
theorem rflush_any (r : Nat) (D : Dk) (F : Nat → Prop) (f : Int) (w : World) (h : RHas w r F D) :
    Calls Try.prog 40 #[.pointer (some ⟨r, 0, none⟩), .int .i64 f] w fun e w' => e = .returned (.int .i64 ((D.flush f).1 : Nat)) ∧ RStep r F w w' (D.flush f).2 := by
  have C := Lib.hid (comes0_any r D F w h)
  rw [Dk.flush_eq]
  obtain ⟨D1, hD1⟩ : ∃ D1, D1 = D.enter.2 := ⟨_, rfl⟩
  rw [← hD1] at C ⊢
  clear hD1 h
  have M := Lib.hid (fun w1 F1 h1 => may_any r D1 F1 f w1 h1)
  cases hd : D1.down
  · simp only [if_false, Bool.false_eq_true]
    cases hf : isF f
    · have hE : D1.flushed f = (1, D1) := by simp [Dk.flushed, hf]
      rw [hE]
      simp only [hd, hf, if_true, if_false, Bool.false_eq_true] at M
      clear hE
      go_enter Try.func40, Try.ntmps40
      go_wp2_with (first
        | (go_at_call 50; go_must (refine (C.out).mono ?_); rintro e w1 ⟨rfl, hq⟩; have HQ := Lib.hid hq; obtain ⟨F1, hq1, _, _⟩ := hq; have HQ1 := Lib.hid hq1; clear hq1)
        | (go_at_call 47; go_must (refine (M.out _ _ HQ1.out).mono ?_); rintro e w2 ⟨rfl, rfl⟩))
      go_ret
      exact ⟨rfl, HQ.out⟩
    · simp only [hd, hf, if_false, Bool.false_eq_true, Bool.true_eq_false] at M
      obtain ⟨q1, q2⟩ := (isF_iff f).1 hf
      obtain ⟨n, rfl⟩ := Int.eq_ofNat_of_zero_le q1
      have hn : n < 8 := by omega
      have l3 : (n : Int) < 8 := by omega
      by_cases hl : 0 < D1.lost
      · have hE : D1.flushed (n : Int) = (13, { D1 with lost := D1.lost - 1 }) := by simp [Dk.flushed, hf, hl]
        rw [hE]
        have z1 : (0 : Int) < ((D1.lost : Nat) : Int) := by omega
        have HN : Hid (∀ w2 F2 g cap K kcap ks, Ref w2 r g cap K kcap ks F2 D1 → RStep r F2 w2 (w2.setCell ⟨r, 1, none⟩ (.int .i64 (((D1.lost : Nat) : Int) - 1))) { D1 with lost := D1.lost - 1 }) := Lib.hid (fun w2 F2 g cap K kcap ks h2 =>
          RStep.same ⟨_, _, _, _, _, h2.turn (by simp [refCells]; omega) (fun _ _ => rfl) (fun _ _ => rfl) ⟨by have := h2.ok.lost; show D1.lost - 1 < _; omega, h2.ok.left, h2.ok.len⟩⟩ ((Fr.refl F2 w2).set h2.mr _ _))
        clear hE hl
        go_enter Try.func40, Try.ntmps40
        go_wp2_with (first
          | (go_at_call 50; go_must (refine (C.out).mono ?_); rintro e w1 ⟨rfl, hq⟩; obtain ⟨F1, ⟨g, cap, K, kcap, ks, hk⟩, hg1, hf1⟩ := hq; have a0 := hk.c1; have a1 := hk.is.open_ 1; have W1 : IntKind.i64.wrap ((D1.lost : Nat) - 1 : Int) = ((D1.lost : Nat) : Int) - 1 := IntWalk.i64_in _ (by have := hk.ok.lost; omega); have HK := Lib.hid hk; have HG1 := Lib.hid hg1; have HF1 := Lib.hid hf1; clear hk hg1 hf1)
          | (go_at_call 47; go_must (refine (M.out _ _ ⟨_, _, _, _, _, HK.out⟩).mono ?_); rintro e w2 ⟨rfl, rfl⟩))
        go_ret
        exact ⟨rfl, RStep.trans HF1.out HG1.out (HN.out _ _ _ _ _ _ _ HK.out)⟩
      · have hE : D1.flushed (n : Int) = (0, D1.set n (D1.all n, [])) := by simp [Dk.flushed, hf, hl]
        rw [hE]
        have z1 : ¬ (0 : Int) < ((D1.lost : Nat) : Int) := by omega
        have HN : Hid (∀ w2 F2 g cap K kcap ks, Ref w2 r g cap K kcap ks F2 D1 → RStep r F2 w2 (((w2.setCell ⟨g, n * 2, none⟩ (.string (mk (D1.fs n).1 ++ mk (D1.fs n).2))).setCell ⟨g, n * 2 + 1, none⟩ (.string ⟨#[]⟩)).drewN 1) (D1.set n (D1.all n, []))) := Lib.hid (fun w2 F2 g cap K kcap ks h2 => by
          rw [mk_append]
          have h8 := h2.file2 hn (D1.all n, []) (by have := h2.ok.len n hn; rw [D1.all_length]; simpa using this)
          exact RStep.same ⟨_, _, _, _, _, (h8.drewE ⟨1, rfl⟩).1⟩ ((((Fr.refl F2 w2).set h2.mg _ _).set h2.mg _ _).drew 1))
        have C2 : Hid (Calls Try.prog 50 #[.pointer (some ⟨r, 0, none⟩), .int .i64 0, .string ⟨#[]⟩] w fun e w' => e = .returned (.tuple #[]) ∧ RStep r F w w' D1 ∧ ¬ 9223372036854775807 < (D1.fs n).1.length + (D1.fs n).2.length) := Lib.hid (C.out.mono fun e w' hh => ⟨hh.1, hh.2, by
          obtain ⟨_, hq, _, _⟩ := hh.2
          have := hq.ok.len n hn
          unfold Dk.len at this
          omega⟩)
        have s1 : (mk (D1.fs n).1).size = (D1.fs n).1.length := rfl
        have s2 : (mk (D1.fs n).2).size = (D1.fs n).2.length := rfl
        clear hE hl C
        go_enter Try.func40, Try.ntmps40
        go_wp2_with (first
          | (go_at_call 50; go_must (refine (C2.out).mono ?_); rintro e w1 ⟨rfl, hq, hlen⟩; obtain ⟨F1, ⟨g, cap, K, kcap, ks, hk⟩, hg1, hf1⟩ := hq; have a0 := hk.c0; have a1 := hk.c1; have a2 := hk.ca hn; have a3 := hk.cb hn; have a4 := hk.fo (n * 2); have a5 := hk.fo (n * 2 + 1); have HK := Lib.hid hk; have HG1 := Lib.hid hg1; have HF1 := Lib.hid hf1; clear hk hg1 hf1)
          | (go_at_call 47; go_must (refine (M.out _ _ ⟨_, _, _, _, _, HK.out⟩).mono ?_); rintro e w2 ⟨rfl, rfl⟩))
        go_still_tail 23, (by kernel_rfl)
        change wpList _ _ _ _ _ w2.drew
        go_wp2
        go_ret
        exact ⟨rfl, RStep.trans HF1.out HG1.out (HN.out _ _ _ _ _ _ _ HK.out)⟩
  · simp only [if_true]
    simp only [hd, if_true] at M
    go_enter Try.func40, Try.ntmps40
    go_wp2_with (first
      | (go_at_call 50; go_must (refine (C.out).mono ?_); rintro e w1 ⟨rfl, hq⟩; have HQ := Lib.hid hq; obtain ⟨F1, hq1, _, _⟩ := hq; have HQ1 := Lib.hid hq1; clear hq1)
      | (go_at_call 47; go_must (refine (M.out _ _ HQ1.out).mono ?_); rintro e w2 ⟨rfl, rfl⟩))
    go_ret
    exact ⟨rfl, HQ.out⟩
end Go.Proofs.Ytokoccffkogamaa
