/-
  The reference's Turn and Crash.
-/
import Derived.Test.YtokoccffkogamaaRefMore
namespace Go.Proofs.Ytokoccffkogamaa
open Go.RowKit
theorem mkl (l : List UInt8) : (mk l).toList = l := by
  rw [ByteArray.toList_eq]
  rfl
theorem rfall_any (r : Nat) (D : Dk) (F : Nat → Prop) (A : Option Addr) (c : Nat) (xs : List Int) (w : World) (h : RHas w r F D) (hr : RowAt w A (ints xs)) (hA : xs ≠ [] → ∀ a, A = some a → ¬ F a.block) :
    Calls Try.prog 43 #[.pointer (some ⟨r, 0, none⟩), .slice A xs.length c] w fun e w' => e = .returned (.tuple #[]) ∧ RStep r F w w' (D.fall (kf xs)) := by
  obtain ⟨g, cap, K, kcap, ks, h⟩ := h
  exact rcrash_ref r D F g cap K kcap ks A c xs w h hr (fun hne a ha => ⟨fun e => hA hne a ha (e ▸ h.mr), fun e => hA hne a ha (e ▸ h.mg)⟩)
set_option maxRecDepth 40000 in
set_option maxHeartbeats 4000000 in
theorem rturn_any (r : Nat) (D : Dk) (F : Nat → Prop) (f g : Int) (w : World) (h : RHas w r F D) :
    Calls Try.prog 42 #[.pointer (some ⟨r, 0, none⟩), .int .i64 f, .int .i64 g] w fun e w' => e = .returned (.int .i64 ((D.turn f g).1 : Nat)) ∧ RStep r F w w' (D.turn f g).2 := by
  have C := Lib.hid (comes0_any r D F w h)
  rw [Dk.turn_eq]
  obtain ⟨D1, hD1⟩ : ∃ D1, D1 = D.enter.2 := ⟨_, rfl⟩
  rw [← hD1] at C ⊢
  clear hD1 h
  have M := Lib.hid (fun w1 F1 h1 => may_any r D1 F1 f w1 h1)
  have N := Lib.hid (fun w1 F1 h1 => may_any r D1 F1 g w1 h1)
  cases hd : D1.down
  · simp only [if_false, Bool.false_eq_true]
    cases hf : isF f
    · have hE : D1.turned f g = (1, D1) := by simp [Dk.turned, hf]
      rw [hE]
      simp only [hd, hf, if_true, if_false, Bool.false_eq_true] at M
      clear hE N
      go_enter Try.func42, Try.ntmps42
      go_wp2_with (first
        | (go_at_call 50; go_must (refine (C.out).mono ?_); rintro e w1 ⟨rfl, hq⟩; have HQ := Lib.hid hq; obtain ⟨F1, hq1, _, _⟩ := hq; have HQ1 := Lib.hid hq1; clear hq1)
        | (go_at_call 47; go_must (refine (M.out _ _ HQ1.out).mono ?_); rintro e w2 ⟨rfl, rfl⟩))
      go_ret
      exact ⟨rfl, HQ.out⟩
    · simp only [hd, hf, if_false, Bool.false_eq_true, Bool.true_eq_false] at M
      obtain ⟨q1, q2⟩ := (isF_iff f).1 hf
      obtain ⟨n, rfl⟩ := Int.eq_ofNat_of_zero_le q1
      have hn : n < 8 := by omega
      have l3 : (n : Int) < 8 := by omega
      cases hg : isF g
      · have hE : D1.turned (n : Int) g = (1, D1) := by simp [Dk.turned, hg]
        rw [hE]
        simp only [hd, hg, if_true, if_false, Bool.false_eq_true] at N
        clear hE
        go_enter Try.func42, Try.ntmps42
        go_wp2_with (first
          | (go_at_call 50; go_must (refine (C.out).mono ?_); rintro e w1 ⟨rfl, hq⟩; have HQ := Lib.hid hq; obtain ⟨F1, hq1, _, _⟩ := hq; have HQ1 := Lib.hid hq1; clear hq1)
          | (go_at_call 47; have X := MK; clear X; refine (N.out _ _ HQ1.out).mono ?_; rintro e w2 ⟨rfl, rfl⟩)
          | (go_at_call 47; refine (M.out _ _ HQ1.out).mono ?_; rintro e w2 ⟨rfl, rfl⟩; have MK := Lib.hid trivial))
        go_ret
        exact ⟨rfl, HQ.out⟩
      · simp only [hd, hg, if_false, Bool.false_eq_true, Bool.true_eq_false] at N
        obtain ⟨q3, q4⟩ := (isF_iff g).1 hg
        obtain ⟨m, rfl⟩ := Int.eq_ofNat_of_zero_le q3
        have hm : m < 8 := by omega
        have l4 : (m : Int) < 8 := by omega
        by_cases hnm : n = m
        · have hE : D1.turned (n : Int) (m : Int) = (1, D1) := by simp [Dk.turned, hnm]
          rw [hE]
          have z1 : ((n : Int) == (m : Int)) = true := by simp; omega
          have z2 : (n == m) = true := by simp; omega
          have z3 : (n : Int) = (m : Int) := by omega
          have HN := Lib.hid hnm
          have HZ := Lib.hid z3
          clear hE hnm z3
          go_enter Try.func42, Try.ntmps42
          go_wp2_with (first
            | (go_at_call 50; go_must (refine (C.out).mono ?_); rintro e w1 ⟨rfl, hq⟩; have HQ := Lib.hid hq; obtain ⟨F1, hq1, _, _⟩ := hq; have HQ1 := Lib.hid hq1; clear hq1)
            | (go_at_call 47; have X := MK; clear X; refine (N.out _ _ HQ1.out).mono ?_; rintro e w2 ⟨rfl, rfl⟩)
            | (go_at_call 47; refine (M.out _ _ HQ1.out).mono ?_; rintro e w2 ⟨rfl, rfl⟩; have MK := Lib.hid trivial))
          go_ret
          exact ⟨rfl, HQ.out⟩
        · have z1 : ((n : Int) == (m : Int)) = false := by simp; omega
          have z2 : (n == m) = false := by simp; omega
          have z3 : ¬ (n : Int) = (m : Int) := by omega
          by_cases hr : (D1.fs m).2 = []
          · have hE : D1.turned (n : Int) (m : Int) = (0, (D1.set n (D1.fs m)).set m ([], [])) := by simp [Dk.turned, hf, hg, z3, hr]
            rw [hE]
            have HR := Lib.hid hr
            have e2 : mk (D1.fs m).2 = ⟨#[]⟩ := by rw [hr]; rfl
            have HN : Hid (∀ w2 F2 g cap K kcap ks, Ref w2 r g cap K kcap ks F2 D1 → Ref (((w2.setCell ⟨g, n * 2, none⟩ (.string (mk (D1.fs m).1))).setCell ⟨g, n * 2 + 1, none⟩ (.string ⟨#[]⟩)).drewN 1) r g cap K kcap ks F2 (D1.set n (D1.fs m)) ∧
                RStep r F2 w2 (((((w2.setCell ⟨g, n * 2, none⟩ (.string (mk (D1.fs m).1))).setCell ⟨g, n * 2 + 1, none⟩ (.string ⟨#[]⟩)).drewN 1).setCell ⟨g, m * 2, none⟩ (.string ⟨#[]⟩)).setCell ⟨g, m * 2 + 1, none⟩ (.string ⟨#[]⟩)) ((D1.set n (D1.fs m)).set m ([], []))) := Lib.hid (fun w2 F2 g cap K kcap ks h2 => by
              have h8 := h2.file2 hn (D1.fs m) (h2.ok.len m hm)
              rw [e2] at h8
              have h7 := (h8.drewE ⟨1, rfl⟩).1
              have h9 := h7.file2 hm ([], []) (by simp)
              exact ⟨h7, RStep.same ⟨_, _, _, _, _, h9⟩ (((((Fr.refl F2 w2).set h2.mg _ _).set h2.mg _ _).drew 1).set h2.mg _ _ |>.set h2.mg _ _)⟩)
            clear hE hr
            go_enter Try.func42, Try.ntmps42
            go_wp2_with (first
              | (go_at_call 50; go_must (refine (C.out).mono ?_); rintro e w1 ⟨rfl, hq⟩; obtain ⟨F1, ⟨g, cap, K, kcap, ks, hk⟩, hg1, hf1⟩ := hq; have a0 := hk.c0; have a1 := hk.ca hn; have a2 := hk.cb hn; have a3 := hk.ca hm; have a4 := hk.cb hm; rw [e2] at a4; have a5 := hk.fo (n * 2); have a6 := hk.fo (n * 2 + 1); have a7 := hk.fo (m * 2); have a8 := hk.fo (m * 2 + 1); have hgr := hk.gr; have HK := Lib.hid hk; have HG1 := Lib.hid hg1; have HF1 := Lib.hid hf1; clear hk hg1 hf1)
              | (go_at_call 47; have X := MK; clear X; refine (N.out _ _ ⟨_, _, _, _, _, HK.out⟩).mono ?_; rintro e w3 ⟨rfl, rfl⟩)
              | (go_at_call 47; refine (M.out _ _ ⟨_, _, _, _, _, HK.out⟩).mono ?_; rintro e w2 ⟨rfl, rfl⟩; have MK := Lib.hid trivial))
            go_still_tail 12, (by kernel_rfl)
            change wpList _ _ _ _ _ w3.drew
            go_wp2
            go_ret
            exact ⟨rfl, RStep.trans HF1.out HG1.out (HN.out _ _ _ _ _ _ _ HK.out).2⟩
          · have hE : D1.turned (n : Int) (m : Int) = (16, D1) := by simp [Dk.turned, hf, hg, z3, hr]
            rw [hE]
            have y0 : (mk (D1.fs m).2).toList.isEmpty = false := by rw [mkl]; simpa using hr
            clear hE
            go_enter Try.func42, Try.ntmps42
            go_wp2_with (first
              | (go_at_call 50; go_must (refine (C.out).mono ?_); rintro e w1 ⟨rfl, hq⟩; have HQ := Lib.hid hq; obtain ⟨F1, ⟨g, cap, K, kcap, ks, hk⟩, hg1, hf1⟩ := hq; have a0 := hk.c0; have a4 := hk.cb hm; have HK := Lib.hid hk; clear hk hg1 hf1)
              | (go_at_call 47; have X := MK; clear X; refine (N.out _ _ ⟨_, _, _, _, _, HK.out⟩).mono ?_; rintro e w3 ⟨rfl, rfl⟩)
              | (go_at_call 47; refine (M.out _ _ ⟨_, _, _, _, _, HK.out⟩).mono ?_; rintro e w2 ⟨rfl, rfl⟩; have MK := Lib.hid trivial))
            go_ret
            exact ⟨rfl, HQ.out⟩
  · simp only [if_true]
    simp only [hd, if_true] at M
    clear N
    go_enter Try.func42, Try.ntmps42
    go_wp2_with (first
      | (go_at_call 50; go_must (refine (C.out).mono ?_); rintro e w1 ⟨rfl, hq⟩; have HQ := Lib.hid hq; obtain ⟨F1, hq1, _, _⟩ := hq; have HQ1 := Lib.hid hq1; clear hq1)
      | (go_at_call 47; go_must (refine (M.out _ _ HQ1.out).mono ?_); rintro e w2 ⟨rfl, rfl⟩))
    go_ret
    exact ⟨rfl, HQ.out⟩
end Go.Proofs.Ytokoccffkogamaa
