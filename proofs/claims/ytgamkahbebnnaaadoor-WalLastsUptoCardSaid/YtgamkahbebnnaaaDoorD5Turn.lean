/-
  The disk's Turn.
-/
import Derived.Test.YtgamkahbebnnaaaDoorD5Ops2
namespace Go.Proofs.YtgamkahbebnnaaaDoor.D5
open Go.RowKit
theorem cellsD_four (v : Nat → Value) (D : Dk) {f g : Nat} (hf : f < 8) (hg : g < 8) (_hne : f ≠ g) (u u2 : Value) (x y : List UInt8 × List UInt8) :
    ((((cellsD v D).setIfInBounds (f * 2) u).setIfInBounds (f * 2 + 1) (.int .i64 (x.1.length : Nat))).setIfInBounds (g * 2) u2).setIfInBounds (g * 2 + 1) (.int .i64 (y.1.length : Nat)) = cellsD (upd (upd v f u) g u2) ((D.set f x).set g y) := by
  rw [cellsD_set_both v D hf u _ x rfl, cellsD_set_both _ _ hg u2 _ y rfl]
theorem Disk.turnd {w : World} {b : Nat} {v : Nat → Value} {F : Nat → Prop} {D : Dk} (h : Disk w b v F D) {f g : Nat} (hf : f < 8) (hg : g < 8) (hne : f ≠ g) :
    Step b F w ((((w.setCell ⟨b, f * 2, none⟩ (v g)).setCell ⟨b, f * 2 + 1, none⟩ (.int .i64 ((D.fs g).1.length : Nat))).setCell ⟨b, g * 2, none⟩ (.slice none 0 0)).setCell ⟨b, g * 2 + 1, none⟩ (.int .i64 0)) ((D.set f (D.fs g)).set g ([], [])) := by
  have hfb : Fr (fun k => k = b) w ((((w.setCell ⟨b, f * 2, none⟩ (v g)).setCell ⟨b, f * 2 + 1, none⟩ (.int .i64 ((D.fs g).1.length : Nat))).setCell ⟨b, g * 2, none⟩ (.slice none 0 0)).setCell ⟨b, g * 2 + 1, none⟩ (.int .i64 0)) :=
    ((((Fr.refl (fun k => k = b) w).set (b := b) rfl _ _).set (b := b) rfl _ _).set (b := b) rfl _ _).set (b := b) rfl _ _
  have hI : Is ((((w.setCell ⟨b, f * 2, none⟩ (v g)).setCell ⟨b, f * 2 + 1, none⟩ (.int .i64 ((D.fs g).1.length : Nat))).setCell ⟨b, g * 2, none⟩ (.slice none 0 0)).setCell ⟨b, g * 2 + 1, none⟩ (.int .i64 0)) b 63 _ := (((h.is.put _ _).put _ _).put _ _).put _ _
  have e := cellsD_four v D hf hg hne (v g) (.slice none 0 0) (D.fs g) ([], [])
  simp only [List.length_nil] at e
  rw [show (Value.int .i64 0) = Value.int .i64 ((0 : Nat) : Int) from rfl] at hI ⊢
  rw [e] at hI
  have hrow : ∀ i, i < 8 → ∀ k, (upd (upd v f (v g)) g (.slice none 0 0) i).ownBlock = some k → i ≠ g ∧ (i = f → (v g).ownBlock = some k) ∧ (i ≠ f → (v i).ownBlock = some k) := by
    intro i hi k hk
    by_cases e1 : i = g
    · subst e1; rw [upd_same] at hk; cases hk
    · rw [upd_other _ _ e1] at hk
      by_cases e2 : i = f
      · subst e2; rw [upd_same] at hk; exact ⟨e1, fun _ => hk, fun h => absurd rfl h⟩
      · rw [upd_other _ _ e2] at hk; exact ⟨e1, fun h => absurd h e2, fun _ => hk⟩
  refine Step.same ⟨upd (upd v f (v g)) g (.slice none 0 0), ⟨hI, ?_, h.mem, ?_, ?_, fun k hk => Nat.lt_of_lt_of_le (h.lt k hk) hfb.size, (h.ok.set (h.ok.len g hg)).set (by simp)⟩⟩ (hfb.mono (fun i _ e => e ▸ h.mem))
  · intro i hi
    have hk : ∀ j, j < 8 → ∀ k, (v j).ownBlock = some k → ¬ k = b := by
      rintro j hj k hk rfl
      exact Is.row_apart (h.own j hj) h.is (by decide) hk
    by_cases e1 : i = g
    · subst e1
      rw [upd_same]
      exact own_cast (World.ownsRow_nil _ _ _ _) (by simp [Dk.len, Dk.set, upd_same]) (by simp [Dk.all, Dk.set, upd_same, bytes])
    · rw [upd_other _ _ e1]
      by_cases e2 : i = f
      · subst e2
        rw [upd_same]
        exact own_cast (hfb.own (h.own g hg) (hk g hg)) (by simp [Dk.len, Dk.set, upd_same, upd_other _ _ e1]) (by simp [Dk.all, Dk.set, upd_same, upd_other _ _ e1])
      · rw [upd_other _ _ e2]
        exact own_cast (hfb.own (h.own i hi) (hk i hi)) (by simp [Dk.len, Dk.set, upd_other _ _ e2, upd_other _ _ e1]) (by simp [Dk.all, Dk.set, upd_other _ _ e2, upd_other _ _ e1])
  · intro i hi k hk
    obtain ⟨h1, h2, h3⟩ := hrow i hi k hk
    by_cases e2 : i = f
    · exact h.row g hg k (h2 e2)
    · exact h.row i hi k (h3 e2)
  · intro i j hi hj hij k hk hk2
    obtain ⟨h1, h2, h3⟩ := hrow i hi k hk
    obtain ⟨j1, j2, j3⟩ := hrow j hj k hk2
    by_cases e2 : i = f
    · by_cases e3 : j = f
      · omega
      · exact h.ne g j hg hj (Ne.symm j1) k (h2 e2) (j3 e3)
    · by_cases e3 : j = f
      · exact h.ne i g hi hg h1 k (h3 e2) (j2 e3)
      · exact h.ne i j hi hj hij k (h3 e2) (j3 e3)
set_option maxRecDepth 40000 in
set_option maxHeartbeats 4000000 in
theorem turn_any (b : Nat) (D : Dk) (F : Nat → Prop) (f g : Int) (w : World) (h : Has w b F D) :
    Calls Tryd.prog 39 #[.pointer (some ⟨b, 0, none⟩), .int .i64 f, .int .i64 g] w fun e w' => e = .returned (.int .i64 ((D.turn f g).1 : Nat)) ∧ Step b F w w' (D.turn f g).2 := by
  have C := Lib.hid (enter_any b D F w h)
  have I := Lib.hid (fun w' => isFile_any f w')
  have J := Lib.hid (fun w' => isFile_any g w')
  obtain ⟨D1, hD1⟩ : ∃ D1, D1 = D.enter.2 := ⟨_, rfl⟩
  rcases enter_cases D with h0 | h0
  · have hE : D.turn f g = D1.turned f g := by unfold Dk.turn; rw [h0, hD1]; simp
    rw [hE]
    rw [h0, ← hD1] at C
    clear h hE hD1 h0
    cases hf : isF f
    · rw [hf] at I
      have hE : D1.turned f g = (1, D1) := by simp [Dk.turned, hf]
      rw [hE]
      clear hE
      go_enter Tryd.func39, Tryd.ntmps39
      go_wp2_with (first
        | (go_at_call 43; go_must (refine (C.out).mono ?_); rintro e w1 ⟨rfl, hs⟩; have HS := Lib.hid hs; clear hs)
        | (go_at_call 44; refine (I.out _).mono ?_; rintro e w2 ⟨rfl, rfl⟩))
      go_ret
      exact ⟨rfl, HS.out⟩
    · rw [hf] at I
      cases hg : isF g
      · rw [hg] at J
        have hE : D1.turned f g = (1, D1) := by simp [Dk.turned, hg]
        rw [hE]
        clear hE
        go_enter Tryd.func39, Tryd.ntmps39
        go_wp2_with (first
          | (go_at_call 43; go_must (refine (C.out).mono ?_); rintro e w1 ⟨rfl, hs⟩; have HS := Lib.hid hs; clear hs)
          | (go_at_call 44; refine (I.out _).mono ?_; rintro e w2 ⟨rfl, rfl⟩)
          | (go_at_call 44; refine (J.out _).mono ?_; rintro e w2 ⟨rfl, rfl⟩))
        go_ret
        exact ⟨rfl, HS.out⟩
      · rw [hg] at J
        obtain ⟨h1, h2⟩ := (isF_iff f).1 hf
        obtain ⟨n, rfl⟩ := Int.eq_ofNat_of_zero_le h1
        have hn : n < 8 := by omega
        obtain ⟨h3, h4⟩ := (isF_iff g).1 hg
        obtain ⟨m, rfl⟩ := Int.eq_ofNat_of_zero_le h3
        have hm : m < 8 := by omega
        by_cases hnm : n = m
        · have hE : D1.turned (n : Int) (m : Int) = (1, D1) := by simp [Dk.turned, hnm]
          rw [hE]
          have z1 : ((n : Int) == (m : Int)) = true := by simp; omega
          have z2 : (n == m) = true := by simp; omega
          have HN := Lib.hid hnm
          clear hE hnm
          go_enter Tryd.func39, Tryd.ntmps39
          go_wp2_with (first
            | (go_at_call 43; go_must (refine (C.out).mono ?_); rintro e w1 ⟨rfl, hs⟩; have HS := Lib.hid hs; clear hs)
            | (go_at_call 44; refine (I.out _).mono ?_; rintro e w2 ⟨rfl, rfl⟩)
            | (go_at_call 44; refine (J.out _).mono ?_; rintro e w2 ⟨rfl, rfl⟩))
          go_ret
          exact ⟨rfl, HS.out⟩
        · have z1 : ((n : Int) == (m : Int)) = false := by simp; omega
          have z2 : (n == m) = false := by simp; omega
          have z3 : ¬ (n : Int) = (m : Int) := by omega
          by_cases hr : (D1.fs m).2 = []
          · have hE : D1.turned (n : Int) (m : Int) = (0, (D1.set n (D1.fs m)).set m ([], [])) := by simp [Dk.turned, hf, hg, z3, hr]
            rw [hE]
            have hlen : D1.len m = (D1.fs m).1.length := by simp [Dk.len, hr]
            have y1 : decide ((((D1.fs m).1.length : Nat) : Int) < ((D1.len m : Nat) : Int)) = false := by simp; omega
            have y2 : decide ((D1.fs m).1.length < D1.len m) = false := by simp; omega
            have W : Hid (∀ (w1 : World) (F1 : Nat → Prop) (v1 : Nat → Value), Disk w1 b v1 F1 D1 → ∀ A cap, v1 m = .slice A (D1.len m) cap → ∀ j,
                Step b F1 w1 (((((w1.drewN j).setCell ⟨b, n * 2, none⟩ (.slice A (D1.len m) cap)).setCell ⟨b, n * 2 + 1, none⟩ (.int .i64 ((D1.fs m).1.length : Nat))).setCell ⟨b, m * 2, none⟩ (.slice none 0 0)).setCell ⟨b, m * 2 + 1, none⟩ (.int .i64 0)) ((D1.set n (D1.fs m)).set m ([], []))) := Lib.hid (fun w1 F1 v1 h1 A cap hA j => by
              have hd : Disk (w1.drewN j) b v1 F1 D1 := ⟨h1.is, h1.own, h1.mem, h1.row, h1.ne, h1.lt, h1.ok⟩
              have := hd.turnd hn hm hnm
              rw [hA] at this
              exact Step.trans ((Fr.refl F1 w1).drew j) (fun _ h => .inl h) this)
            have HR := Lib.hid hr
            have HL := Lib.hid hlen
            clear hE hr hlen
            go_enter Tryd.func39, Tryd.ntmps39
            go_wp2_with (first
              | (go_at_call 43; go_must (refine (C.out).mono ?_); rintro e w1 ⟨rfl, ⟨F1, ⟨v1, hh1⟩, hg1, hf1⟩⟩; obtain ⟨A, cap, e1, c1⟩ := hh1.form hm; have c2 := hh1.cn hm; obtain ⟨A2, cap2, e2, c3⟩ := hh1.form hn; have c4 := hh1.cn hn; have f1 := hh1.is.open_ (n * 2); have f2 := hh1.is.open_ (n * 2 + 1); have f3 := hh1.is.open_ (m * 2); have f4 := hh1.is.open_ (m * 2 + 1); have E1 := Lib.hid e1; have H1 := Lib.hid hh1; have G1 := Lib.hid hg1; have R1 := Lib.hid hf1; clear hh1 hg1 hf1 e1 e2)
              | (go_at_call 44; refine (I.out _).mono ?_; rintro e w2 ⟨rfl, rfl⟩)
              | (go_at_call 44; refine (J.out _).mono ?_; rintro e w3 ⟨rfl, rfl⟩))
            go_quiet (fail)
            go_wp2
            go_region
            all_goals go_wp2
            all_goals go_ret
            all_goals exact ⟨rfl, Step.trans R1.out G1.out (W.out _ _ _ H1.out _ _ E1.out _)⟩
          · have hE : D1.turned (n : Int) (m : Int) = (16, D1) := by simp [Dk.turned, hf, hg, z3, hr]
            rw [hE]
            have hlen : (D1.fs m).1.length < D1.len m := by
              have := List.length_pos_iff.2 hr
              simp only [Dk.len]
              omega
            have y1 : decide ((((D1.fs m).1.length : Nat) : Int) < ((D1.len m : Nat) : Int)) = true := by simp; omega
            have y2 : decide ((D1.fs m).1.length < D1.len m) = true := by simp; omega
            clear hE hr
            go_enter Tryd.func39, Tryd.ntmps39
            go_wp2_with (first
              | (go_at_call 43; go_must (refine (C.out).mono ?_); rintro e w1 ⟨rfl, hs⟩; have HS := Lib.hid hs; obtain ⟨F1, ⟨v1, hh1⟩, hg1, hf1⟩ := hs; obtain ⟨A, cap, e1, c1⟩ := hh1.form hm; have c2 := hh1.cn hm; clear hh1 hg1 hf1 e1)
              | (go_at_call 44; refine (I.out _).mono ?_; rintro e w2 ⟨rfl, rfl⟩)
              | (go_at_call 44; refine (J.out _).mono ?_; rintro e w3 ⟨rfl, rfl⟩))
            go_quiet (fail)
            go_wp2
            go_ret
            exact ⟨rfl, HS.out.drew _⟩
  · have hE : D.turn f g = (12, D1) := by
      have e : D.enter = (12, D1) := by rw [hD1, ← h0]
      unfold Dk.turn
      rw [h0]
      simp [e]
    rw [hE]
    rw [h0, ← hD1] at C
    clear h hE hD1 h0 I J
    go_enter Tryd.func39, Tryd.ntmps39
    go_wp2_with (first
      | (go_at_call 43; go_must (refine (C.out).mono ?_); rintro e w1 ⟨rfl, hs⟩; have HS := Lib.hid hs; clear hs))
    go_ret
    exact ⟨rfl, HS.out⟩
end Go.Proofs.YtgamkahbebnnaaaDoor.D5
