/-
  The disk's calls: Append, Flush, Cut.
-/
import Derived.Test.YtgamkahbebnnaaaDoorD5Ops
namespace Go.Proofs.YtgamkahbebnnaaaDoor.D5
open Go.RowKit
theorem enter_cases (D : Dk) : D.enter.1 = 0 ∨ D.enter.1 = 12 := by
  unfold Dk.enter
  split
  · exact .inr rfl
  · split
    · exact .inl rfl
    · split
      · exact .inr rfl
      · exact .inl rfl
theorem app_any (b : Nat) (D : Dk) (F : Nat → Prop) (f : Int) (s : ByteArray) (w : World) (h : Has w b F D) :
    Calls Tryd.prog 24 #[.pointer (some ⟨b, 0, none⟩), .int .i64 f, .string s] w fun e w' => e = .returned (.int .i64 ((D.app f (ls s)).1 : Nat)) ∧ Step b F w w' (D.app f (ls s)).2 := by
  have C := Lib.hid (add_any b D F f s w h)
  obtain ⟨x, hx⟩ : ∃ x, x = D.add f (ls s) := ⟨_, rfl⟩
  have hE : D.app f (ls s) = (if x.2.enter.1 = 0 then x.1 else x.2.enter.1, x.2.enter.2) := by rw [hx]; rfl
  rw [hE]
  rw [← hx] at C
  have K := Lib.hid (fun w1 F1 h1 => enter_any b x.2 F1 w1 h1)
  clear h hE hx
  rcases enter_cases x.2 with h0 | h0
  · rw [h0] at K ⊢
    go_enter Tryd.func24, Tryd.ntmps24
    go_wp2_with (first
      | (go_at_call 42; go_must (refine (C.out).mono ?_); rintro e w1 ⟨rfl, ⟨F1, hh1, hg1, hf1⟩⟩; have H1 := Lib.hid hh1; have G1 := Lib.hid hg1; have R1 := Lib.hid hf1; clear hh1 hg1 hf1)
      | (go_at_call 43; go_must (refine (K.out _ _ H1.out).mono ?_); rintro e w2 ⟨rfl, hs⟩; have HS := Lib.hid hs; clear hs))
    go_ret
    exact ⟨rfl, Step.trans R1.out G1.out HS.out⟩
  · rw [h0] at K ⊢
    go_enter Tryd.func24, Tryd.ntmps24
    go_wp2_with (first
      | (go_at_call 42; go_must (refine (C.out).mono ?_); rintro e w1 ⟨rfl, ⟨F1, hh1, hg1, hf1⟩⟩; have H1 := Lib.hid hh1; have G1 := Lib.hid hg1; have R1 := Lib.hid hf1; clear hh1 hg1 hf1)
      | (go_at_call 43; go_must (refine (K.out _ _ H1.out).mono ?_); rintro e w2 ⟨rfl, hs⟩; have HS := Lib.hid hs; clear hs))
    go_ret
    exact ⟨rfl, Step.trans R1.out G1.out HS.out⟩
theorem step12 {b : Nat} {F : Nat → Prop} {w w1 : World} {D : Dk} (h : D.enter.1 = 12) (hs : Step b F w w1 D.enter.2) : D.enter = (12, D.enter.2) ∧ Step b F w w1 D.enter.2 := ⟨by rw [← h], hs⟩
set_option maxRecDepth 20000 in
set_option maxHeartbeats 1000000 in
theorem flush_any (b : Nat) (D : Dk) (F : Nat → Prop) (f : Int) (w : World) (h : Has w b F D) :
    Calls Tryd.prog 32 #[.pointer (some ⟨b, 0, none⟩), .int .i64 f] w fun e w' => e = .returned (.int .i64 ((D.flush f).1 : Nat)) ∧ Step b F w w' (D.flush f).2 := by
  have C := Lib.hid (enter_any b D F w h)
  have I := Lib.hid (fun w' => isFile_any f w')
  obtain ⟨D1, hD1⟩ : ∃ D1, D1 = D.enter.2 := ⟨_, rfl⟩
  rcases enter_cases D with h0 | h0
  · have hE : D.flush f = D1.flushed f := by unfold Dk.flush; rw [h0, hD1]; simp
    rw [hE]
    rw [h0, ← hD1] at C
    clear h hE hD1 h0
    cases hf : isF f
    · rw [hf] at I
      have hE : D1.flushed f = (1, D1) := by simp [Dk.flushed, hf]
      rw [hE]
      clear hE
      go_enter Tryd.func32, Tryd.ntmps32
      go_wp2_with (first
        | (go_at_call 43; go_must (refine (C.out).mono ?_); rintro e w1 ⟨rfl, hs⟩; have HS := Lib.hid hs; clear hs)
        | (go_at_call 44; refine (I.out _).mono ?_; rintro e w2 ⟨rfl, rfl⟩))
      go_ret
      exact ⟨rfl, HS.out⟩
    · rw [hf] at I
      obtain ⟨h1, h2⟩ := (isF_iff f).1 hf
      obtain ⟨n, rfl⟩ := Int.eq_ofNat_of_zero_le h1
      have hn : n < 8 := by omega
      by_cases hl : 0 < D1.lost
      · have hE : D1.flushed (n : Int) = (13, { D1 with lost := D1.lost - 1 }) := by simp [Dk.flushed, hf, hl]
        rw [hE]
        have z1 : (0 : Int) < ((D1.lost : Nat) : Int) := by omega
        have HL := Lib.hid hl
        clear hE hl
        go_enter Tryd.func32, Tryd.ntmps32
        go_wp2_with (first
          | (go_at_call 43; go_must (refine (C.out).mono ?_); rintro e w1 ⟨rfl, ⟨F1, ⟨v1, hh1⟩, hg1, hf1⟩⟩; have c1 := hh1.clost; have f1 := hh1.is.open_ 17; have W1 : IntKind.i64.wrap ((D1.lost : Nat) - 1 : Int) = ((D1.lost : Nat) : Int) - 1 := IntWalk.i64_in _ (by have := hh1.ok.lost; omega); have H1 := Lib.hid hh1; have G1 := Lib.hid hg1; have R1 := Lib.hid hf1; clear hh1 hg1 hf1)
          | (go_at_call 44; refine (I.out _).mono ?_; rintro e w2 ⟨rfl, rfl⟩))
        go_ret
        refine ⟨rfl, Step.trans R1.out G1.out (Step.same ⟨v1, H1.out.turn ?_ (fun _ _ => rfl) ⟨by have := H1.out.ok.lost; show D1.lost - 1 < _; omega, H1.out.ok.left, H1.out.ok.len⟩⟩ ((Fr.refl F1 _).set H1.out.mem _ _))⟩
        have := HL.out
        simp [cellsD]
        omega
      · have hE : D1.flushed (n : Int) = (0, D1.set n (D1.all n, [])) := by simp [Dk.flushed, hf, hl]
        rw [hE]
        have z1 : ¬ (0 : Int) < ((D1.lost : Nat) : Int) := by omega
        have HL := Lib.hid hl
        have W : Hid (∀ (w1 : World) (F1 : Nat → Prop) (v1 : Nat → Value), Disk w1 b v1 F1 D1 → Step b F1 w1 ((w1.setCell ⟨b, n * 2 + 1, none⟩ (.int .i64 (D1.len n : Nat))).drew) (D1.set n (D1.all n, []))) := Lib.hid (fun w1 F1 v1 h1 => by
          have hal : (D1.all n).length = D1.len n := D1.all_length n
          refine (Step.same ⟨v1, h1.turn (cellsD_set_n v1 D1 hn _ _ (by simp [hal])) (fun g _ => ?_) (h1.ok.set (by have := h1.ok.len n hn; simp [hal]; omega))⟩ ((Fr.refl F1 _).set h1.mem _ _)).drew 1
          unfold Dk.all Dk.set
          by_cases e : g = n
          · subst e; simp [upd_same]
          · simp [upd_other _ _ e])
        clear hE hl
        go_enter Tryd.func32, Tryd.ntmps32
        go_wp2_with (first
          | (go_at_call 43; go_must (refine (C.out).mono ?_); rintro e w1 ⟨rfl, ⟨F1, ⟨v1, hh1⟩, hg1, hf1⟩⟩; have c1 := hh1.clost; obtain ⟨A, cap, e1, c2⟩ := hh1.form hn; have c3 := hh1.cn hn; have f3 := hh1.is.open_ (n * 2 + 1); have H1 := Lib.hid hh1; have G1 := Lib.hid hg1; have R1 := Lib.hid hf1; clear hh1 hg1 hf1 e1)
          | (go_at_call 44; refine (I.out _).mono ?_; rintro e w2 ⟨rfl, rfl⟩))
        go_still_tail 12, (by kernel_rfl)
        change wpList _ _ _ _ _ w2.drew
        go_wp2
        go_ret
        exact ⟨rfl, Step.trans R1.out G1.out (W.out _ _ _ H1.out)⟩
  · have hE : D.flush f = (12, D1) := by
      have e : D.enter = (12, D1) := by rw [hD1, ← h0]
      unfold Dk.flush
      rw [h0]
      simp [e]
    rw [hE]
    rw [h0, ← hD1] at C
    clear h hE hD1 h0 I
    go_enter Tryd.func32, Tryd.ntmps32
    go_wp2_with (first
      | (go_at_call 43; go_must (refine (C.out).mono ?_); rintro e w1 ⟨rfl, hs⟩; have HS := Lib.hid hs; clear hs))
    go_ret
    exact ⟨rfl, HS.out⟩
set_option maxRecDepth 20000 in
set_option maxHeartbeats 1000000 in
theorem cut_any (b : Nat) (D : Dk) (F : Nat → Prop) (f m : Int) (w : World) (h : Has w b F D) :
    Calls Tryd.prog 30 #[.pointer (some ⟨b, 0, none⟩), .int .i64 f, .int .i64 m] w fun e w' => e = .returned (.int .i64 ((D.cut f m).1 : Nat)) ∧ Step b F w w' (D.cut f m).2 := by
  have C := Lib.hid (enter_any b D F w h)
  have I := Lib.hid (fun w' => isFile_any f w')
  obtain ⟨D1, hD1⟩ : ∃ D1, D1 = D.enter.2 := ⟨_, rfl⟩
  rcases enter_cases D with h0 | h0
  · have hE : D.cut f m = D1.cutted f m := by unfold Dk.cut; rw [h0, hD1]; simp
    rw [hE]
    rw [h0, ← hD1] at C
    clear h hE hD1 h0
    cases hf : isF f
    · rw [hf] at I
      have hE : D1.cutted f m = (1, D1) := by simp [Dk.cutted, hf]
      rw [hE]
      clear hE
      go_enter Tryd.func30, Tryd.ntmps30
      go_wp2_with (first
        | (go_at_call 43; go_must (refine (C.out).mono ?_); rintro e w1 ⟨rfl, hs⟩; have HS := Lib.hid hs; clear hs)
        | (go_at_call 44; refine (I.out _).mono ?_; rintro e w2 ⟨rfl, rfl⟩))
      go_ret
      exact ⟨rfl, HS.out⟩
    · rw [hf] at I
      obtain ⟨h1, h2⟩ := (isF_iff f).1 hf
      obtain ⟨n, rfl⟩ := Int.eq_ofNat_of_zero_le h1
      have hn : n < 8 := by omega
      by_cases hm : m < 0
      · have hE : D1.cutted (n : Int) m = (1, D1) := by simp [Dk.cutted, hm]
        rw [hE]
        have z1 : decide (m < 0) = true := by simp; omega
        clear hE
        go_enter Tryd.func30, Tryd.ntmps30
        go_wp2_with (first
          | (go_at_call 43; go_must (refine (C.out).mono ?_); rintro e w1 ⟨rfl, hs⟩; have HS := Lib.hid hs; clear hs)
          | (go_at_call 44; refine (I.out _).mono ?_; rintro e w2 ⟨rfl, rfl⟩))
        go_ret
        exact ⟨rfl, HS.out⟩
      · have z1 : decide (m < 0) = false := by simp; omega
        obtain ⟨m, rfl⟩ := Int.eq_ofNat_of_zero_le (show 0 ≤ m by omega)
        by_cases hl : D1.len n < m
        · have hE : D1.cutted (n : Int) (m : Int) = (1, D1) := by simp [Dk.cutted, hl]
          rw [hE]
          have z2 : decide (((D1.len n : Nat) : Int) < (m : Int)) = true := by simp; omega
          have z3 : decide (D1.len n < m) = true := by simp; omega
          clear hE hl hm
          go_enter Tryd.func30, Tryd.ntmps30
          go_wp2_with (first
            | (go_at_call 43; go_must (refine (C.out).mono ?_); rintro e w1 ⟨rfl, hs⟩; have HS := Lib.hid hs; obtain ⟨F1, ⟨v1, hh1⟩, hg1, hf1⟩ := hs; obtain ⟨A, cap, e1, c2⟩ := hh1.form hn; clear hh1 hg1 hf1 e1)
            | (go_at_call 44; refine (I.out _).mono ?_; rintro e w2 ⟨rfl, rfl⟩))
          go_ret
          exact ⟨rfl, HS.out⟩
        · have hE : D1.cutted (n : Int) (m : Int) = (0, D1.set n (Dk.took (D1.fs n) m)) := by
            unfold Dk.cutted
            rw [if_neg (by rw [hf]; simp; omega)]
            rfl
          rw [hE]
          have z2 : decide (((D1.len n : Nat) : Int) < (m : Int)) = false := by simp; omega
          have z3 : decide (D1.len n < m) = false := by simp; omega
          have z4 : ¬ ((D1.len n : Nat) : Int) < (m : Int) := by omega
          have K := Lib.hid (fun w1 F1 h1 => truncate_any b D1 F1 n m w1 h1 hn (by omega))
          clear hE hl hm
          go_enter Tryd.func30, Tryd.ntmps30
          go_wp2_with (first
            | (go_at_call 43; go_must (refine (C.out).mono ?_); rintro e w1 ⟨rfl, ⟨F1, ⟨v1, hh1⟩, hg1, hf1⟩⟩; obtain ⟨A, cap, e1, c2⟩ := hh1.form hn; have H1 := Lib.hid hh1; have G1 := Lib.hid hg1; have R1 := Lib.hid hf1; clear hh1 hg1 hf1 e1)
            | (go_at_call 44; refine (I.out _).mono ?_; rintro e w2 ⟨rfl, rfl⟩)
            | (go_at_call 47; go_must (refine (K.out _ _ ⟨v1, H1.out⟩).mono ?_); rintro e w3 ⟨rfl, hs⟩; have HS := Lib.hid hs; clear hs))
          go_ret
          exact ⟨rfl, Step.trans R1.out G1.out HS.out⟩
  · have hE : D.cut f m = (12, D1) := by
      have e : D.enter = (12, D1) := by rw [hD1, ← h0]
      unfold Dk.cut
      rw [h0]
      simp [e]
    rw [hE]
    rw [h0, ← hD1] at C
    clear h hE hD1 h0 I
    go_enter Tryd.func30, Tryd.ntmps30
    go_wp2_with (first
      | (go_at_call 43; go_must (refine (C.out).mono ?_); rintro e w1 ⟨rfl, hs⟩; have HS := Lib.hid hs; clear hs))
    go_ret
    exact ⟨rfl, HS.out⟩
end Go.Proofs.YtgamkahbebnnaaaDoor.D5
