/-
  Cut and emptySpare where they go well: no memory is made.
-/
import Derived.Test.YtgamkahbebnnaaaDoorD5WAll
namespace Go.Proofs.YtgamkahbebnnaaaDoor.D5
open Go.RowKit WalPlain
set_option maxRecDepth 40000
/-- A call that makes no memory keeps the disk's blocks. -/
theorem Step.tight {b : Nat} {F : Nat → Prop} {w w' : World} {D : Dk} (h : Step b F w w' D) (hz : w'.heap.size = w.heap.size) (hl : ∀ k, F k → k < w.heap.size) : Has w' b F D ∧ Fr F w w' := by
  obtain ⟨F', ⟨v, h1⟩, h2, h3⟩ := h
  have hF : ∀ k, F' k → F k := fun k hk => by
    rcases h2 k hk with h | h
    · exact h
    · have := h1.lt k hk; omega
  exact ⟨⟨v, h1.is, h1.own, hF _ h1.mem, fun f hf k hk => hF k (h1.row f hf k hk), h1.ne, fun k hk => by rw [hz]; exact hl k hk, h1.ok⟩, h3⟩
theorem truncate_sz (b : Nat) (D : Dk) (F : Nat → Prop) (f n : Nat) (w : World) (h : Has w b F D) (hf : f < 8) (hn : n ≤ D.len f) :
    Calls Tryd.prog 47 #[.pointer (some ⟨b, f * 2, none⟩), .int .i64 (n : Int)] w fun e w' => e = .returned (.tuple #[]) ∧ Step b F w w' (D.set f (Dk.took (D.fs f) n)) ∧ w'.heap.size = w.heap.size := by
  obtain ⟨v, h⟩ := h
  obtain ⟨A, cap, ev, c1⟩ := h.form hf
  have c2 := h.cn hf
  have f1 := h.is.open_ (f * 2)
  have f2 := h.is.open_ (f * 2 + 1)
  have hO := h.own f hf
  rw [ev] at hO
  have hcap : D.len f ≤ cap := by
    rcases hO.2 with ⟨h1, h2⟩ | ⟨g, c, cur, h1, h2, h3, h4, h5, h6, h7⟩
    · omega
    · injection h1 with ha hn hc; omega
  have hfin : Hid (∀ z : Int, z = (min (D.fs f).1.length n : Nat) → Step b F w ((w.setCell ⟨b, f * 2, none⟩ (.slice A n cap)).setCell ⟨b, f * 2 + 1, none⟩ (.int .i64 z)) (D.set f (Dk.took (D.fs f) n))) := Lib.hid (by
    rintro z rfl
    have hfr : Fr (fun k => k = b ∨ (v f).ownBlock = some k) w ((w.setCell ⟨b, f * 2, none⟩ (.slice A n cap)).setCell ⟨b, f * 2 + 1, none⟩ (.int .i64 (min (D.fs f).1.length n : Nat))) := ((Fr.refl _ w).set (b := b) (.inl rfl) _ _).set (b := b) (.inl rfl) _ _
    have hfb : Fr (fun k => k = b) w ((w.setCell ⟨b, f * 2, none⟩ (.slice A n cap)).setCell ⟨b, f * 2 + 1, none⟩ (.int .i64 (min (D.fs f).1.length n : Nat))) := ((Fr.refl (fun k => k = b) w).set (b := b) rfl _ _).set (b := b) rfl _ _
    have ht := own_take hO hn
    have hlen : (Dk.took (D.fs f) n).1.length + (Dk.took (D.fs f) n).2.length = n := by
      rw [← List.length_append, took_all, List.length_take, List.length_append]
      unfold Dk.len at hn
      omega
    refine h.file hf (by rw [took_len]) ((h.is.put _ _).put _ _) (m := n) hlen.symm (took_all _ _) ?_ (by have := h.ok.len f hf; omega) (fun k hk => .inl (by rw [ev]; cases A <;> exact hk)) hfr
    refine hfb.own (own_cast ht rfl (by rw [← bytes_take]; rfl)) ?_
    rintro k hk rfl
    exact Is.row_apart ht h.is (by decide) hk)
  have hh := Lib.hid h
  have hO := Lib.hid hO
  clear h
  have i1 : (n : Int) ≤ (cap : Int) := by omega
  have i2 : n ≤ cap := by omega
  go_enter Tryd.func47, Tryd.ntmps47
  go_wp2
  all_goals go_end0
  all_goals exact ⟨rfl, hfin.out _ (by omega), by simp [World.setCell]⟩
theorem enter_sz (b : Nat) (D : Dk) (F : Nat → Prop) (w : World) (h : Has w b F D) (hz : D.enter.1 = 0) :
    Calls Tryd.prog 43 #[.pointer (some ⟨b, 0, none⟩)] w fun e w' => e = .returned (.int .i64 0) ∧ Step b F w w' D.enter.2 ∧ w'.heap.size = w.heap.size := by
  have hh := h
  obtain ⟨v, h⟩ := h
  have c1 := h.cdown
  have c2 := h.cleft
  have f2 := h.is.open_ 18
  cases hd : D.down
  · rw [hd] at c1
    by_cases h0 : D.left = 0
    · have hE : D.enter = (0, D) := by simp [Dk.enter, hd, h0]
      rw [hE]
      rw [h0] at c2
      have HH := Lib.hid hh
      clear hh h hE h0 hz
      go_enter Tryd.func43, Tryd.ntmps43
      go_wp2
      go_ret
      exact ⟨rfl, Step.refl HH.out, rfl⟩
    · have hlt := h.ok.left
      have W1 : IntKind.i64.wrap ((D.left : Nat) - 1 : Int) = ((D.left : Nat) : Int) - 1 := IntWalk.i64_in _ (by omega)
      have z1 : ¬ ((D.left : Nat) : Int) = 0 := by omega
      have hfr : Fr F w (w.setCell ⟨b, 18, none⟩ (.int .i64 (((D.left : Nat) : Int) - 1))) := (Fr.refl F w).set h.mem _ _
      have ht : Disk (w.setCell ⟨b, 18, none⟩ (.int .i64 (((D.left : Nat) : Int) - 1))) b v F { D with left := D.left - 1 } := h.turn (by simp [cellsD]; omega) (fun _ _ => rfl) ⟨h.ok.lost, by show D.left - 1 < _; omega, h.ok.len⟩
      have h1 : ¬ D.left = 1 := fun h1 => by simp [Dk.enter, hd, h1] at hz
      have hE : D.enter = (0, { D with left := D.left - 1 }) := by simp [Dk.enter, hd, h0, h1]
      rw [hE]
      have z2 : (0 : Int) < ((D.left : Nat) : Int) - 1 := by omega
      have HF := Lib.hid hfr
      have HT := Lib.hid ht
      clear hh h hE hfr ht hz
      go_enter Tryd.func43, Tryd.ntmps43
      go_wp2
      go_ret
      exact ⟨rfl, Step.same ⟨v, HT.out⟩ HF.out, by simp [World.setCell]⟩
  · exfalso; simp [Dk.enter, hd] at hz
set_option maxHeartbeats 1000000 in
theorem cut_sz (b : Nat) (D : Dk) (F : Nat → Prop) (n m : Nat) (w : World) (h : Has w b F D) (hn : n < 8) (h0 : D.enter.1 = 0) (hm : m ≤ D.enter.2.len n) :
    Calls Tryd.prog 30 #[.pointer (some ⟨b, 0, none⟩), .int .i64 (n : Int), .int .i64 (m : Int)] w fun e w' => e = .returned (.int .i64 0) ∧ Step b F w w' (D.enter.2.set n (Dk.took (D.enter.2.fs n) m)) ∧ w'.heap.size = w.heap.size := by
  have C := Lib.hid (enter_sz b D F w h h0)
  have hf : isF (n : Int) = true := (isF_iff _).2 ⟨by omega, by omega⟩
  have I := Lib.hid (fun w' => isFile_any (n : Int) w')
  rw [hf] at I
  obtain ⟨D1, hD1⟩ : ∃ D1, D1 = D.enter.2 := ⟨_, rfl⟩
  rw [← hD1] at C hm ⊢
  have z1 : decide ((m : Int) < 0) = false := by simp
  have z2 : decide (((D1.len n : Nat) : Int) < (m : Int)) = false := by simp; omega
  have z3 : decide (D1.len n < m) = false := by simp; omega
  have z4 : ¬ ((D1.len n : Nat) : Int) < (m : Int) := by omega
  have K := Lib.hid (fun w1 F1 h1 => truncate_sz b D1 F1 n m w1 h1 hn hm)
  clear h hD1 h0 hf hm
  go_enter Tryd.func30, Tryd.ntmps30
  go_wp2_with (first
    | (go_at_call 43; go_must (refine (C.out).mono ?_); rintro e w1 ⟨rfl, ⟨F1, ⟨v1, hh1⟩, hg1, hf1⟩, hz1⟩; obtain ⟨A, cap, e1, c2⟩ := hh1.form hn; have H1 := Lib.hid hh1; have G1 := Lib.hid hg1; have R1 := Lib.hid hf1; have Z1 := Lib.hid hz1; clear hh1 hg1 hf1 e1 hz1)
    | (go_at_call 44; refine (I.out _).mono ?_; rintro e w2 ⟨rfl, rfl⟩)
    | (go_at_call 47; go_must (refine (K.out _ _ ⟨v1, H1.out⟩).mono ?_); rintro e w3 ⟨rfl, hs, hz3⟩; have HS := Lib.hid hs; have Z3 := Lib.hid hz3; clear hs hz3))
  go_ret
  exact ⟨rfl, Step.trans R1.out G1.out HS.out, Z3.out.trans Z1.out⟩
set_option maxHeartbeats 1000000 in
theorem emptySpare_sz (c b : Nat) (f : Int) (F G : Nat → Prop) (D : Dk) (R : List Bs) (w : World) (hD : Has w b F D) (hL : LgH w c b f G R) (h0 : 0 ≤ f) (h7 : f < 7) (hq : (cut2 D (f + 1)).1 = 0) :
    Calls Tryd.prog 31 #[.pointer (some ⟨c, 0, none⟩)] w fun e w' => e = .returned (.int .i64 0) ∧ Has w' b F (cut2 D (f + 1)).2 ∧ Fr F w w' ∧ w'.heap.size = w.heap.size := by
  obtain ⟨v, hl⟩ := hL
  have c0 := hl.c0
  have hlt := hD.lt
  have SP : Hid (∀ n, Calls Tryd.prog 37 #[.pointer (some ⟨c, 0, none⟩)] (w.drewN n) fun e w' => e = .returned (.int .i64 (f + 1)) ∧ w' = w.drewN n) := Lib.hid (fun n => spare_any c b f v (w.drewN n) hl.is h0 h7)
  have SZ : Hid (∀ n, Calls Tryd.prog 25 #[.pointer (some ⟨b, 0, none⟩), .int .i64 (f + 1)] (w.drewN n) fun e w' => e = .returned (.int .i64 (D.size (f + 1) : Nat)) ∧ w' = w.drewN n) := Lib.hid (fun n => size_any b D F (f + 1) (w.drewN n) (hD.drew n))
  by_cases hz : 0 < D.size (f + 1)
  · have hE : cut2 D (f + 1) = D.cut (f + 1) 0 := by unfold cut2; rw [if_pos hz]
    have i1 : (((D.size (f + 1) : Nat) : Int) == 0) = false := by simp; omega
    rw [hE] at hq
    have he : D.enter.1 = 0 := by
      unfold Dk.cut at hq
      split at hq
      · assumption
      · exact hq
    obtain ⟨n, hn⟩ : ∃ n : Nat, f + 1 = (n : Int) := ⟨(f + 1).toNat, by omega⟩
    have hE2 : (D.cut (f + 1) 0).2 = D.enter.2.set n (Dk.took (D.enter.2.fs n) 0) := by
      unfold Dk.cut at hq ⊢
      rw [if_pos he] at hq ⊢
      unfold Dk.cutted at hq ⊢
      split at hq
      · cases hq
      · rename_i hc
        rw [if_neg hc, hn]
        rfl
    have CT : Hid (∀ m, Calls Tryd.prog 30 #[.pointer (some ⟨b, 0, none⟩), .int .i64 (f + 1), .int .i64 0] (w.drewN m) fun e w' => e = .returned (.int .i64 0) ∧ Step b F (w.drewN m) w' (cut2 D (f + 1)).2 ∧ w'.heap.size = w.heap.size) :=
      Lib.hid (fun m => by
        have := cut_sz b D F n 0 (w.drewN m) (hD.drew m) (by omega) he (Nat.zero_le _)
        rw [hE, hE2, hn]
        exact this)
    have HLT : Hid (∀ k, F k → k < w.heap.size) := Lib.hid hlt
    clear hz hE hD hl hlt hE2 he hq hn
    go_enter Tryd.func31, Tryd.ntmps31
    go_wp2_with (first
      | (go_quiet (first
          | (go_at_call 37; exact Calls.quiet_of_same (SP.out _))
          | (go_at_call 25; exact Calls.quiet_of_same (SZ.out _)))))
    obtain ⟨w2, hw2⟩ : ∃ w2, w2 = w.drewN nq := ⟨_, rfl⟩
    have c2 : w2.cell? ⟨c, 0, none⟩ = some (.pointer (some ⟨b, 0, none⟩)) := by rw [hw2]; exact c0
    have SP2 : Hid (∀ n, Calls Tryd.prog 37 #[.pointer (some ⟨c, 0, none⟩)] (w2.drewN n) fun e w' => e = .returned (.int .i64 (f + 1)) ∧ w' = w2.drewN n) := Lib.hid (fun n => by rw [hw2, World.drewN_drewN]; exact SP.out _)
    have CT2 : Hid (∀ n, Calls Tryd.prog 30 #[.pointer (some ⟨b, 0, none⟩), .int .i64 (f + 1), .int .i64 0] (w2.drewN n) fun e w' => e = .returned (.int .i64 0) ∧ Step b F (w2.drewN n) w' (cut2 D (f + 1)).2 ∧ w'.heap.size = w.heap.size) := Lib.hid (fun n => by rw [hw2, World.drewN_drewN]; exact CT.out _)
    have FR2 : Hid (Fr F w (w2.drewN 1) ∧ (w2.drewN 1).heap.size = w.heap.size) := Lib.hid ⟨by rw [hw2]; exact ((Fr.refl F w).drew _).drew 1, by rw [hw2]; rfl⟩
    rw [← hw2]
    clear hw2 SP CT SZ c0
    go_region_with (first
      | (go_at_call 37; refine (SP2.out 1).mono ?_; rintro e w3 ⟨rfl, rfl⟩)
      | (go_at_call 30; refine (CT2.out 1).mono ?_; rintro e w3 ⟨rfl, h3, h4⟩; have S3 := Lib.hid h3; have Z3 := Lib.hid h4; clear h3 h4))
    all_goals
      go_wp2
      go_ret
      exact ⟨rfl, (S3.out.tight (Z3.out.trans FR2.out.2.symm) (fun k hk => by rw [FR2.out.2]; exact HLT.out k hk)).1, FR2.out.1.trans (S3.out.tight (Z3.out.trans FR2.out.2.symm) (fun k hk => by rw [FR2.out.2]; exact HLT.out k hk)).2 (fun _ _ h => h), Z3.out⟩
  · have hE : cut2 D (f + 1) = (0, D) := by unfold cut2; rw [if_neg hz]
    have i1 : (((D.size (f + 1) : Nat) : Int) == 0) = true := by simp; omega
    have HS : Hid (∀ n, Has (w.drewN n) b F (cut2 D (f + 1)).2 ∧ Fr F w (w.drewN n)) := Lib.hid (fun n => by
      rw [hE]
      exact ⟨hD.drew n, (Fr.refl F w).drew n⟩)
    clear hz hE hD hl hlt hq
    go_enter Tryd.func31, Tryd.ntmps31
    go_wp2_with (first
      | (go_quiet (first
          | (go_at_call 37; exact Calls.quiet_of_same (SP.out _))
          | (go_at_call 25; exact Calls.quiet_of_same (SZ.out _)))))
    go_ret
    exact ⟨rfl, (HS.out _).1, (HS.out _).2, rfl⟩
end Go.Proofs.YtgamkahbebnnaaaDoor.D5
