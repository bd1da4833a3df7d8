/-
  The reference's Cut.
-/
import Derived.Test.YtokoccffkogamaaRefMore
namespace Go.Proofs.Ytokoccffkogamaa
open Go.RowKit
set_option maxRecDepth 40000 in
set_option maxHeartbeats 4000000 in
theorem rcut_any (r : Nat) (D : Dk) (F : Nat → Prop) (f m : Int) (w : World) (h : RHas w r F D) (hm : m < 9223372036854775808) :
    Calls Try.prog 41 #[.pointer (some ⟨r, 0, none⟩), .int .i64 f, .int .i64 m] w fun e w' => e = .returned (.int .i64 ((D.cut f m).1 : Nat)) ∧ RStep r F w w' (D.cut f m).2 := by
  have C := Lib.hid (comes0_any r D F w h)
  rw [Dk.cut_eq]
  obtain ⟨D1, hD1⟩ : ∃ D1, D1 = D.enter.2 := ⟨_, rfl⟩
  rw [← hD1] at C ⊢
  clear hD1 h
  have M := Lib.hid (fun w1 F1 h1 => may_any r D1 F1 f w1 h1)
  cases hd : D1.down
  · simp only [if_false, Bool.false_eq_true]
    cases hf : isF f
    · have hE : D1.cutted f m = (1, D1) := by simp [Dk.cutted, hf]
      rw [hE]
      simp only [hd, hf, if_true, if_false, Bool.false_eq_true] at M
      clear hE
      go_enter Try.func41, Try.ntmps41
      go_wp2_with (first
        | (go_at_call 50; go_must (refine (C.out).mono ?_); rintro e w1 ⟨rfl, hq⟩; have HQ := Lib.hid hq; obtain ⟨F1, hq1, _, _⟩ := hq; have HQ1 := Lib.hid hq1; clear hq1)
        | (go_at_call 47; go_must (refine (M.out _ _ HQ1.out).mono ?_); rintro e w2 ⟨rfl, rfl⟩))
      go_ret
      exact ⟨rfl, HQ.out⟩
    · simp only [hd, hf, if_false, Bool.false_eq_true, Bool.true_eq_false] at M
      obtain ⟨q1, q2⟩ := (isF_iff f).1 hf
      obtain ⟨n, rfl⟩ := Int.eq_ofNat_of_zero_le q1
      have hn : n < 8 := by omega
      have l3 : (n : Int) < 8 := by omega
      have hS : D1.size (n : Int) = D1.len n := by simp [Dk.size, hf]
      have S := Lib.hid (fun w1 F1 h1 => rsize_any r D1 F1 (n : Int) w1 h1)
      rw [hS] at S
      by_cases hm0 : m < 0
      · have hE : D1.cutted (n : Int) m = (1, D1) := by simp [Dk.cutted, hm0]
        rw [hE]
        have z1 : decide (m < 0) = true := by simp; omega
        clear hE
        go_enter Try.func41, Try.ntmps41
        go_wp2_with (first
          | (go_at_call 50; go_must (refine (C.out).mono ?_); rintro e w1 ⟨rfl, hq⟩; have HQ := Lib.hid hq; obtain ⟨F1, hq1, _, _⟩ := hq; have HQ1 := Lib.hid hq1; clear hq1)
          | (go_at_call 47; go_must (refine (M.out _ _ HQ1.out).mono ?_); rintro e w2 ⟨rfl, rfl⟩))
        go_ret
        exact ⟨rfl, HQ.out⟩
      · have z1 : decide (m < 0) = false := by simp; omega
        obtain ⟨m, rfl⟩ := Int.eq_ofNat_of_zero_le (show 0 ≤ m by omega)
        by_cases hl : D1.len n < m
        · have hE : D1.cutted (n : Int) (m : Int) = (1, D1) := by simp [Dk.cutted, hl]
          rw [hE]
          have z2 : decide (((D1.len n : Nat) : Int) < (m : Int)) = true := by simp; omega
          have z3 : decide (D1.len n < m) = true := by simp; omega
          clear hE hS hm0 hl
          go_enter Try.func41, Try.ntmps41
          go_wp2_with (first
            | (go_at_call 50; go_must (refine (C.out).mono ?_); rintro e w1 ⟨rfl, hq⟩; obtain ⟨F1, hq1, hg1, hf1⟩ := hq; have HQ1 := Lib.hid hq1; have HG1 := Lib.hid hg1; have HF1 := Lib.hid hf1; clear hq1 hg1 hf1)
            | (go_at_call 47; go_must (refine (M.out _ _ HQ1.out).mono ?_); rintro e w2 ⟨rfl, rfl⟩)
            | (go_at_call 23; go_must (refine (S.out _ _ HQ1.out).mono ?_); rintro e w3 ⟨rfl, hj⟩; obtain ⟨hk, hf2⟩ := HQ1.out.drewE hj; have HK := Lib.hid hk; have HF2 := Lib.hid hf2; clear hj hk hf2))
          go_ret
          exact ⟨rfl, RStep.trans HF1.out HG1.out (RStep.same HK.out HF2.out)⟩
        · have hE : D1.cutted (n : Int) (m : Int) = (0, D1.set n (Dk.took (D1.fs n) m)) := by
            unfold Dk.cutted
            rw [if_neg (by rw [hf]; simp; omega)]
            rfl
          rw [hE]
          have z2 : decide (((D1.len n : Nat) : Int) < (m : Int)) = false := by simp; omega
          have z3 : decide (D1.len n < m) = false := by simp; omega
          have z4 : ¬ ((D1.len n : Nat) : Int) < (m : Int) := by omega
          have HM := Lib.hid hl
          have s1 : (mk (D1.fs n).1).size = (D1.fs n).1.length := rfl
          have s2 : (mk (D1.fs n).2).size = (D1.fs n).2.length := rfl
          clear hE hS hm0 hl
          by_cases ha : m ≤ (D1.fs n).1.length
          · have y1 : (m : Int) ≤ ((D1.fs n).1.length : Int) := by omega
            have e9 : Dk.took (D1.fs n) m = ((D1.fs n).1.take m, []) := by simp [Dk.took, show m - (D1.fs n).1.length = 0 by omega]
            rw [e9]
            have HN : Hid (∀ w2 F2 g cap K kcap ks, Ref w2 r g cap K kcap ks F2 D1 → RStep r F2 w2 (((w2.setCell ⟨g, n * 2, none⟩ (.string ((mk (D1.fs n).1).extract 0 m))).setCell ⟨g, n * 2 + 1, none⟩ (.string ⟨#[]⟩)).drewN 1) (D1.set n ((D1.fs n).1.take m, []))) := Lib.hid (fun w2 F2 g cap K kcap ks h2 => by
              rw [extract_take, ls_mk]
              have h8 := h2.file2 hn ((D1.fs n).1.take m, []) (by have := h2.ok.len n hn; unfold Dk.len at this; rw [List.length_take]; simp only [List.length_nil]; omega)
              exact RStep.same ⟨_, _, _, _, _, (h8.drewE ⟨1, rfl⟩).1⟩ ((((Fr.refl F2 w2).set h2.mg _ _).set h2.mg _ _).drew 1))
            go_enter Try.func41, Try.ntmps41
            go_wp2_with (first
              | (go_at_call 50; go_must (refine (C.out).mono ?_); rintro e w1 ⟨rfl, hq⟩; obtain ⟨F1, hq1, hg1, hf1⟩ := hq; have HQ1 := Lib.hid hq1; have HG1 := Lib.hid hg1; have HF1 := Lib.hid hf1; clear hq1 hg1 hf1)
              | (go_at_call 47; go_must (refine (M.out _ _ HQ1.out).mono ?_); rintro e w2 ⟨rfl, rfl⟩)
              | (go_at_call 23; go_must (refine (S.out _ _ HQ1.out).mono ?_); rintro e w3 ⟨rfl, hj⟩; obtain ⟨⟨g, cap, K, kcap, ks, hk⟩, hf2⟩ := HQ1.out.drewE hj; have a0 := hk.c0; have a1 := hk.ca hn; have a2 := hk.cb hn; have HK := Lib.hid hk; have HF2 := Lib.hid hf2; clear hj hk hf2))
            generalize hw4 : w3.alloc (.cells #[.string (mk (D1.fs n).1), .string (mk (D1.fs n).2)] 67) = w4
            have hf4 : Fr F1 w3 w4 := by rw [← hw4]; exact (Fr.refl F1 w3).alloc _
            have h4 : Ref w4 r g cap K kcap ks F1 D1 := HK.out.kept_to (G := fun _ => False) (by rw [← hw4]; exact (Fr.refl (fun _ => False) w3).alloc _) (fun _ _ hh => hh)
            have hn4 : Is w4 w3.heap.size 67 #[.string (mk (D1.fs n).1), .string (mk (D1.fs n).2)] := by rw [← hw4]; exact Is.fresh w3 67 _
            have b0 := h4.c0
            have b1 := h4.ca hn
            have b2 := h4.cb hn
            have b3 := h4.fo (n * 2)
            have b4 := h4.fo (n * 2 + 1)
            have b5 : w4.cell? ⟨w3.heap.size, 0, none⟩ = some (.string (mk (D1.fs n).1)) := hn4.at_ 0
            have b6 : w4.cell? ⟨w3.heap.size, 1, none⟩ = some (.string (mk (D1.fs n).2)) := hn4.at_ 1
            have HF4 := Lib.hid hf4
            have H4 := Lib.hid h4
            clear a0 a1 a2 hf4 h4 hn4 hw4
            go_wp2
            go_still_tail 10, (by kernel_rfl)
            change wpList _ _ _ _ _ w4.drew
            go_wp2
            go_ret
            exact ⟨rfl, RStep.trans HF1.out HG1.out (RStep.trans HF2.out (fun _ h => .inl h) (RStep.trans HF4.out (fun _ h => .inl h) (HN.out _ _ _ _ _ _ _ H4.out)))⟩
          · have y1 : ¬ (m : Int) ≤ ((D1.fs n).1.length : Int) := by omega
            have W1 : IntKind.i64.wrap ((m : Int) - ((D1.fs n).1.length : Int)) = (m : Int) - ((D1.fs n).1.length : Int) := IntWalk.i64_in _ (by omega)
            have hml : m ≤ (D1.fs n).1.length + (D1.fs n).2.length := by have := HM.out; unfold Dk.len at this; omega
            have y2 : (m : Int) - ((D1.fs n).1.length : Int) ≤ ((D1.fs n).2.length : Int) := by omega
            have y3 : (0 : Int) ≤ (m : Int) - ((D1.fs n).1.length : Int) := by omega
            have y4 : ((D1.fs n).1.length : Int) ≤ (m : Int) := by omega
            have y5 : ((m : Int) - ((D1.fs n).1.length : Int)).toNat ≤ (D1.fs n).2.length := by omega
            have e9 : Dk.took (D1.fs n) m = ((D1.fs n).1, (D1.fs n).2.take (m - (D1.fs n).1.length)) := by
              unfold Dk.took
              rw [List.take_of_length_le (by omega)]
            rw [e9]
            have HN : Hid (∀ w2 F2 g cap K kcap ks, Ref w2 r g cap K kcap ks F2 D1 → RStep r F2 w2 ((w2.setCell ⟨g, n * 2 + 1, none⟩ (.string ((mk (D1.fs n).2).extract 0 (m - (D1.fs n).1.length)))).drewN 1) (D1.set n ((D1.fs n).1, (D1.fs n).2.take (m - (D1.fs n).1.length)))) := Lib.hid (fun w2 F2 g cap K kcap ks h2 => by
              rw [extract_take, ls_mk]
              have h8 := h2.file1 hn ((D1.fs n).2.take (m - (D1.fs n).1.length)) (by have := h2.ok.len n hn; unfold Dk.len at this; rw [List.length_take]; omega)
              exact RStep.same ⟨_, _, _, _, _, (h8.drewE ⟨1, rfl⟩).1⟩ (((Fr.refl F2 w2).set h2.mg _ _).drew 1))
            clear hml
            go_enter Try.func41, Try.ntmps41
            go_wp2_with (first
              | (go_at_call 50; go_must (refine (C.out).mono ?_); rintro e w1 ⟨rfl, hq⟩; obtain ⟨F1, hq1, hg1, hf1⟩ := hq; have HQ1 := Lib.hid hq1; have HG1 := Lib.hid hg1; have HF1 := Lib.hid hf1; clear hq1 hg1 hf1)
              | (go_at_call 47; go_must (refine (M.out _ _ HQ1.out).mono ?_); rintro e w2 ⟨rfl, rfl⟩)
              | (go_at_call 23; go_must (refine (S.out _ _ HQ1.out).mono ?_); rintro e w3 ⟨rfl, hj⟩; obtain ⟨⟨g, cap, K, kcap, ks, hk⟩, hf2⟩ := HQ1.out.drewE hj; have a0 := hk.c0; have a1 := hk.ca hn; have a2 := hk.cb hn; have HK := Lib.hid hk; have HF2 := Lib.hid hf2; clear hj hk hf2))
            generalize hw4 : w3.alloc (.cells #[.string (mk (D1.fs n).1), .string (mk (D1.fs n).2)] 67) = w4
            have hf4 : Fr F1 w3 w4 := by rw [← hw4]; exact (Fr.refl F1 w3).alloc _
            have h4 : Ref w4 r g cap K kcap ks F1 D1 := HK.out.kept_to (G := fun _ => False) (by rw [← hw4]; exact (Fr.refl (fun _ => False) w3).alloc _) (fun _ _ hh => hh)
            have hn4 : Is w4 w3.heap.size 67 #[.string (mk (D1.fs n).1), .string (mk (D1.fs n).2)] := by rw [← hw4]; exact Is.fresh w3 67 _
            have b0 := h4.c0
            have b1 := h4.ca hn
            have b2 := h4.cb hn
            have b3 := h4.fo (n * 2)
            have b4 := h4.fo (n * 2 + 1)
            have b5 : w4.cell? ⟨w3.heap.size, 0, none⟩ = some (.string (mk (D1.fs n).1)) := hn4.at_ 0
            have b6 : w4.cell? ⟨w3.heap.size, 1, none⟩ = some (.string (mk (D1.fs n).2)) := hn4.at_ 1
            have HF4 := Lib.hid hf4
            have H4 := Lib.hid h4
            clear a0 a1 a2 hf4 h4 hn4 hw4
            go_wp2
            go_still_tail 13, (by kernel_rfl)
            change wpList _ _ _ _ _ w4.drew
            go_wp2
            go_ret
            exact ⟨rfl, RStep.trans HF1.out HG1.out (RStep.trans HF2.out (fun _ h => .inl h) (RStep.trans HF4.out (fun _ h => .inl h) (HN.out _ _ _ _ _ _ _ H4.out)))⟩
  · simp only [if_true]
    simp only [hd, if_true] at M
    go_enter Try.func41, Try.ntmps41
    go_wp2_with (first
      | (go_at_call 50; go_must (refine (C.out).mono ?_); rintro e w1 ⟨rfl, hq⟩; have HQ := Lib.hid hq; obtain ⟨F1, hq1, _, _⟩ := hq; have HQ1 := Lib.hid hq1; clear hq1)
      | (go_at_call 47; go_must (refine (M.out _ _ HQ1.out).mono ?_); rintro e w2 ⟨rfl, rfl⟩))
    go_ret
    exact ⟨rfl, HQ.out⟩
end Go.Proofs.Ytokoccffkogamaa
