/-
  WalLasts: what the law keeps beside the log; a log opened again after a fall.
-/
import Derived.Test.YtgamkahbebnnaaaDoorD5WActs
namespace Go.Proofs.YtgamkahbebnnaaaDoor.D5
open Go.RowKit WalPlain
set_option maxRecDepth 40000
abbrev BlkP (g : Nat) (t : TypeId) (c : Array Value) : World → (Nat → Prop) → Prop := fun w F => Is w g t c ∧ F g ∧ ∀ k, F k → k = g
theorem stab_blk (g : Nat) (t : TypeId) (c : Array Value) : Stab (BlkP g t c) := by
  refine ⟨fun w w' F G h hf hd => ⟨hf.is h.1 (hd g h.2.1), h.2⟩, fun w F h k hk => ?_⟩
  rw [h.2.2 k hk]
  exact h.1.lt
section
variable {W w w' : World} {P Q R S : World → (Nat → Prop) → Prop} {b c : Nat} {f : Int} {D : Dk} {N : List Bs}
theorem Par.withBlk (h : Par W w P Q) (hP : Stab P) (hQ : Stab Q) (t : TypeId) (c : Array Value) : Par W (w.alloc (.cells c t)) P (Both Q (BlkP w.heap.size t c)) :=
  h.more hP hQ ((Below.refl _ w).alloc (Nat.le_refl _) _) (G := fun k => k = w.heap.size) ⟨Is.fresh w t c, rfl, fun _ e => e⟩ (fun k hk => by omega)
theorem Par.blk {g : Nat} {t : TypeId} {cs : Array Value} (h : Par W w P (Both Q (BlkP g t cs))) : Is w g t cs := by
  obtain ⟨F, G, h1, ⟨F1, G1, g1, g2, g3, g4⟩, _⟩ := h
  exact g2.1
/-- A slice of the law's own grows. -/
theorem par_append {v v' : Value} {xs ys : List Bs} (h : Par W w P (Both Q (SlP v xs))) (hP : Stab P) (hQ : Stab Q) (ho : w'.ownsRow 0 9 1 v' ys.length (strs ys)) (hg : w.grownBy w' v.ownBlock) (hb : ∀ k, v'.ownBlock = some k → v.ownBlock = some k ∨ w.heap.size ≤ k) :
    Par W w' P (Both Q (SlP v' ys)) := by
  obtain ⟨F, G, h1, ⟨G1, G2, g1, g2, g3, g4⟩, h3, h4, h5, h6⟩ := h
  have hf : Fr (fun k => v.ownBlock = some k) w w' := Fr.of_grown hg (fun b e => e)
  have l1 := hP.lt w F h1
  have l2 := hQ.lt w G1 g1
  have n1 : ∀ k, F k → ¬ v.ownBlock = some k := fun k hk e => h3 k hk ((g4 k).2 (.inr (g2.2.1 k e)))
  have n2 : ∀ k, G1 k → ¬ v.ownBlock = some k := fun k hk e => g3 k hk (g2.2.1 k e)
  refine ⟨F, fun k => G1 k ∨ v'.ownBlock = some k, hP.kept w w' F _ h1 hf n1, ⟨G1, fun k => v'.ownBlock = some k, hQ.kept w w' G1 _ g1 hf n2, ⟨ho, fun _ e => e, fun k hk => (ho.lt k hk).2⟩, fun k hk e => ?_, fun _ => Iff.rfl⟩, fun k hk hg => ?_, h4, fun k hk => ?_, h6.trans (hf.below (fun k e => h5 k ((g4 k).2 (.inr (g2.2.1 k e)))) h6.size)⟩
  · rcases hb k e with e | e
    · exact n2 k hk e
    · have := l2 k hk; omega
  · rcases hg with hg | e
    · exact h3 k hk ((g4 k).2 (.inl hg))
    · rcases hb k e with e | e
      · exact n1 k hk e
      · have := l1 k hk; omega
  · rcases hk with hk | e
    · exact h5 k ((g4 k).2 (.inl hk))
    · rcases hb k e with e | e
      · exact h5 k ((g4 k).2 (.inr (g2.2.1 k e)))
      · have := h6.size; omega
theorem Par.left (h : Par W w P (Both Q R)) : Par W w P Q := h.drop fun w G hh => both_left w G hh
theorem Par.right (h : Par W w P (Both Q R)) : Par W w P R := h.drop fun w G hh => both_right w G hh
theorem both_comm (w : World) (G : Nat → Prop) (h : Both P Q w G) : ∃ G', Both Q P w G' ∧ ∀ k, G' k → G k := by
  obtain ⟨F1, G1, h1, h2, h3, h4⟩ := h
  exact ⟨G, ⟨G1, F1, h2, h1, fun k hg hf => h3 k hf hg, fun k => by rw [h4]; exact Or.comm⟩, fun _ h => h⟩
theorem Par.swapQ (h : Par W w P (Both Q R)) : Par W w P (Both R Q) := h.drop fun w G hh => both_comm w G hh
/-- The middle one of three is let go. -/
theorem Par.mid (h : Par W w P (Both (Both Q R) S)) : Par W w P (Both Q S) := h.drop fun w G hh => by
  obtain ⟨F1, G1, ⟨F2, G2, k1, k2, k3, k4⟩, h2, h3, h4⟩ := hh
  exact ⟨fun k => F2 k ∨ G1 k, ⟨F2, G1, k1, h2, fun k hk hg => h3 k ((k4 k).2 (.inl hk)) hg, fun _ => Iff.rfl⟩, fun k hk => by
    rcases hk with hk | hk
    · exact (h4 k).2 (.inl ((k4 k).2 (.inl hk)))
    · exact (h4 k).2 (.inr hk)⟩
theorem Par.slL {v : Value} {l : List Bs} (h : Par W w P (Both (SlP v l) Q)) : w.ownsRow 0 9 1 v l.length (strs l) := by
  obtain ⟨F, G, h1, ⟨F1, G1, g1, g2, g3, g4⟩, _⟩ := h
  exact g1.1
theorem Par.slR {v : Value} {l : List Bs} (h : Par W w P (Both Q (SlP v l))) : w.ownsRow 0 9 1 v l.length (strs l) := by
  obtain ⟨F, G, h1, ⟨F1, G1, g1, g2, g3, g4⟩, _⟩ := h
  exact g2.1
theorem Par.sl {v : Value} {l : List Bs} (h : Par W w P (SlP v l)) : w.ownsRow 0 9 1 v l.length (strs l) := by
  obtain ⟨F, G, h1, h2, _⟩ := h
  exact h2.1
theorem par_lose (h : Par W w (HasP b D) Q) (hQ : Stab Q) (n : Int) (hn : n < 9223372036854775808) : Calls Tryd.prog 15 #[.pointer (some ⟨b, 0, none⟩), .int .i64 n] w fun e w' => e = .returned (.tuple #[]) ∧ Par W w' (HasP b (D.lose n)) Q :=
  h.lift hQ fun F h _ => (lose_any b D F n w h hn).mono fun _ _ hh => ⟨hh.1, Step.same hh.2.1 hh.2.2⟩
theorem par_arm0 (h : Par W w (HasP b D) Q) (hQ : Stab Q) : Calls Tryd.prog 16 #[.pointer (some ⟨b, 0, none⟩), .int .i64 0, .slice none 0 0] w fun e w' => e = .returned (.tuple #[]) ∧ Par W w' (HasP b (D.arm 0 (kf []))) Q :=
  h.lift hQ fun F h _ => arm_any b D F 0 none 0 [] w h (by decide) (RowAt.nil w none) (fun _ a ha => by cases ha)
end
theorem own_at0 {w : World} {A : Option Addr} {cap n : Nat} {l : List Bs} (h : w.ownsRow 0 9 1 (.slice A n cap) n (strs l)) : RowAt w A (strs l) := own_at h
set_option maxHeartbeats 1000000 in
theorem recov_no (W w : World) (b c1 c2 c3 n3 : Nat) (A1 A2 A3 : Option Addr) (D : Dk) (all safe : List Bs) (hT : S3.Tabs W) (h : Par W w (HasP b D) (Both (SlP (.slice A1 all.length c1) all) (SlP (.slice A2 safe.length c2) safe)))
    (hF : Fell small20 rec6 D 2 all safe) (hn : all.length ≤ 16777216) :
    Calls Tryd.prog 18 #[.pointer (some ⟨b, 0, none⟩), .slice A1 all.length c1, .slice A2 safe.length c2, .slice A3 n3 c3, .bool false] w fun e w' => e = .returned (.bool true) ∧ Below W.heap.size W w' := by
  obtain ⟨now, hv⟩ := Form.has (rec_form crcN) (D.all 2)
  have hv : Valid small20 rec6 (D.all 2) now := hv
  obtain ⟨p1, p2⟩ := hF.again (rec_form crcN) hv
  have hcnt : now.length ≤ 16777216 := Nat.le_trans p1.length_le hn
  have hc1 : all.length ≤ c1 := own_cap h.slL
  obtain ⟨E, hE⟩ : ∃ E, E = ((D.start).lose 0).arm 0 (kf []) := ⟨_, rfl⟩
  have hQ : Stab (Both (SlP (.slice A1 all.length c1) all) (SlP (.slice A2 safe.length c2) safe)) := stab_both (stab_sl _ _) (stab_sl _ _)
  have H0 := Lib.hid h
  have HQ := Lib.hid hQ
  have OP : Hid (∀ w, Par W w (HasP b E) (Both (SlP (.slice A1 all.length c1) all) (SlP (.slice A2 safe.length c2) safe)) → Calls Tryd.prog 10 #[.pointer (some ⟨b, 0, none⟩), .int .i64 2] w fun e w' => ∃ c D', e = .returned (.tuple #[.pointer (some ⟨c, 0, none⟩), .int .i64 0]) ∧ Par W w' (DL b c 2 D' now) (Both (SlP (.slice A1 all.length c1) all) (SlP (.slice A2 safe.length c2) safe))) := Lib.hid (fun w h =>
    (st_open (f := 2) h hQ (by rw [hE]; exact calm_again D) hT (by decide) (by decide) now (by rw [hE]; exact hv)).mono fun e w' ⟨c, D', g1, _, _, g3⟩ => ⟨c, D', g1, g3⟩)
  have B1 : Hid (∀ w A c, RowAt w A1 (strs all) → RowAt w A (strs now) → Calls Tryd.prog 23 #[.slice A1 all.length c1, .slice A now.length c] w fun e w' => e = .returned (.bool true) ∧ ∃ j, w' = w.drewN j) := Lib.hid (fun w A c h1 h2 => by
    have := begins_any A1 A c1 c all now w h1 h2 hc1 hn
    rwa [decide_eq_true p1] at this)
  have B2 : Hid (∀ w A c, RowAt w A (strs now) → RowAt w A2 (strs safe) → now.length ≤ c → Calls Tryd.prog 23 #[.slice A now.length c, .slice A2 safe.length c2] w fun e w' => e = .returned (.bool true) ∧ ∃ j, w' = w.drewN j) := Lib.hid (fun w A c h1 h2 h3 => by
    have := begins_any A A2 c c2 now safe w h1 h2 h3 hcnt
    rwa [decide_eq_true p2] at this)
  have AR : Hid (∀ w, Par W w (HasP b (D.start.lose 0)) (Both (SlP (.slice A1 all.length c1) all) (SlP (.slice A2 safe.length c2) safe)) → Calls Tryd.prog 16 #[.pointer (some ⟨b, 0, none⟩), .int .i64 0, .slice none 0 0] w fun e w' => e = .returned (.tuple #[]) ∧ Par W w' (HasP b E) (Both (SlP (.slice A1 all.length c1) all) (SlP (.slice A2 safe.length c2) safe))) := Lib.hid (fun w h => by rw [hE]; exact par_arm0 h hQ)
  clear h hQ hE hv p1 p2 hT hF hc1 hn
  go_enter Tryd.func18, Tryd.ntmps18
  go_wp2_with (first
    | (go_at_call 23; have X := M1; clear X; go_must (refine (B2.out _ _ _ R6.out.2.1 R6.out.2.2 K5.out).mono ?_); rintro e v7 ⟨rfl, j2, rfl⟩)
    | (go_at_call 23; go_must (refine (B1.out _ _ _ R5.out.1 R5.out.2.1).mono ?_); rintro e v6 ⟨rfl, j1, rfl⟩; have M1 := Lib.hid True.intro; have R6 : Hid (RowAt (v5.drewN j1) A1 (strs all) ∧ RowAt (v5.drewN j1) A5 (strs now) ∧ RowAt (v5.drewN j1) A2 (strs safe)) := R5)
    | (go_at_call 13; go_must (refine (dl_all H4.out HQ.out hcnt).mono ?_); rintro e v5 ⟨A5, c5, rfl, h⟩; have R5 := Lib.hid (And.intro (own_at0 h.left.slL) (And.intro (own_at0 h.slR) (own_at0 h.left.slR))); have K5 := Lib.hid (own_cap h.slR); have H5 := Lib.hid h; clear h)
    | (go_at_call 10; go_must (refine (OP.out _ H3.out).mono ?_); rintro e v4 ⟨c4, D4, rfl, h⟩; have H4 := Lib.hid h; clear h)
    | (go_at_call 16; go_must (refine (AR.out _ H2.out).mono ?_); rintro e v3 ⟨rfl, h⟩; have H3 := Lib.hid h; clear h)
    | (go_at_call 15; go_must (refine (par_lose H1.out HQ.out 0 (by decide)).mono ?_); rintro e v2 ⟨rfl, h⟩; have H2 := Lib.hid h; clear h)
    | (go_at_call 28; go_must (refine (par_start H0.out HQ.out).mono ?_); rintro e v1 ⟨rfl, h⟩; have H1 := Lib.hid h; clear h))
  go_ret
  exact ⟨by simp, H5.out.below.trans ((drewB _ _).mono H5.out.below.size)⟩
set_option maxHeartbeats 2000000 in
theorem recov_yes (W w : World) (b c1 c2 c3 : Nat) (A1 A2 A3 : Option Addr) (D : Dk) (all safe rows : List Bs) (hT : S3.Tabs W) (h : Par W w (HasP b D) (Both (SlP (.slice A1 all.length c1) all) (SlP (.slice A2 safe.length c2) safe)))
    (hF : Fell small20 rec6 D 2 all safe) (hn : all.length ≤ 16777216) (h3 : Row w W.heap.size A3 (strs rows)) :
    Calls Tryd.prog 18 #[.pointer (some ⟨b, 0, none⟩), .slice A1 all.length c1, .slice A2 safe.length c2, .slice A3 rows.length c3, .bool true] w fun e w' => e = .returned (.bool true) ∧ Below W.heap.size W w' := by
  obtain ⟨now, hv⟩ := Form.has (rec_form crcN) (D.all 2)
  have hv : Valid small20 rec6 (D.all 2) now := hv
  obtain ⟨p1, p2⟩ := hF.again (rec_form crcN) hv
  have hcnt : now.length ≤ 16777216 := Nat.le_trans p1.length_le hn
  have hc1 : all.length ≤ c1 := own_cap h.slL
  obtain ⟨E, hE⟩ : ∃ E, E = ((D.start).lose 0).arm 0 (kf []) := ⟨_, rfl⟩
  have hQ : Stab (Both (SlP (.slice A1 all.length c1) all) (SlP (.slice A2 safe.length c2) safe)) := stab_both (stab_sl _ _) (stab_sl _ _)
  have H0 := Lib.hid h
  have HQ := Lib.hid hQ
  have R3 : Hid (∀ v, Below W.heap.size W v → RowAt v A3 (strs rows)) := Lib.hid (fun v hb => by
    have : Row W W.heap.size A3 (strs rows) := fun k u hk => by
      obtain ⟨a, a1, a2, a3⟩ := h3 k u hk
      exact ⟨a, a1, a2, (h.below.cell (p := a.add k) (by rw [add_block]; exact a2)).symm.trans a3⟩
    exact (this.below hb).at_)
  have OP : Hid (∀ w, Par W w (HasP b E) (Both (SlP (.slice A1 all.length c1) all) (SlP (.slice A2 safe.length c2) safe)) → Calls Tryd.prog 10 #[.pointer (some ⟨b, 0, none⟩), .int .i64 2] w fun e w' => ∃ c D', e = .returned (.tuple #[.pointer (some ⟨c, 0, none⟩), .int .i64 0]) ∧ Par W w' (DL b c 2 D' now) (Both (SlP (.slice A1 all.length c1) all) (SlP (.slice A2 safe.length c2) safe))) := Lib.hid (fun w h =>
    (st_open (f := 2) h hQ (by rw [hE]; exact calm_again D) hT (by decide) (by decide) now (by rw [hE]; exact hv)).mono fun e w' ⟨c, D', g1, _, _, g3⟩ => ⟨c, D', g1, g3⟩)
  have B1 : Hid (∀ w A c, RowAt w A1 (strs all) → RowAt w A (strs now) → Calls Tryd.prog 23 #[.slice A1 all.length c1, .slice A now.length c] w fun e w' => e = .returned (.bool true) ∧ ∃ j, w' = w.drewN j) := Lib.hid (fun w A c h1 h2 => by
    have := begins_any A1 A c1 c all now w h1 h2 hc1 hn
    rwa [decide_eq_true p1] at this)
  have B2 : Hid (∀ w A c, RowAt w A (strs now) → RowAt w A2 (strs safe) → now.length ≤ c → Calls Tryd.prog 23 #[.slice A now.length c, .slice A2 safe.length c2] w fun e w' => e = .returned (.bool true) ∧ ∃ j, w' = w.drewN j) := Lib.hid (fun w A c h1 h2 h3 => by
    have := begins_any A A2 c c2 now safe w h1 h2 h3 hcnt
    rwa [decide_eq_true p2] at this)
  have AR : Hid (∀ w, Par W w (HasP b (D.start.lose 0)) (Both (SlP (.slice A1 all.length c1) all) (SlP (.slice A2 safe.length c2) safe)) → Calls Tryd.prog 16 #[.pointer (some ⟨b, 0, none⟩), .int .i64 0, .slice none 0 0] w fun e w' => e = .returned (.tuple #[]) ∧ Par W w' (HasP b E) (Both (SlP (.slice A1 all.length c1) all) (SlP (.slice A2 safe.length c2) safe))) := Lib.hid (fun w h => by rw [hE]; exact par_arm0 h hQ)
  obtain ⟨r, hr⟩ : ∃ r, r = decide (now = rows) := ⟨_, rfl⟩
  have SM : Hid (∀ w A c, RowAt w A (strs now) → RowAt w A3 (strs rows) → Calls Tryd.prog 22 #[.slice A now.length c, .slice A3 rows.length c3] w fun e w' => e = .returned (.bool r) ∧ ∃ j, w' = w.drewN j) := Lib.hid (fun w A c h1 h2 => by
    rw [hr]
    exact same_any A A3 c c3 now rows w h1 h2 hcnt)
  clear h hQ hE hv p1 p2 hT hF hc1 hn h3 hr
  cases r with
  | true =>
    go_enter Tryd.func18, Tryd.ntmps18
    go_wp2_with (first
      | (go_at_call 22; go_must (refine (SM.out _ _ _ R5.out.2.1 (R3.out _ H5.out.below)).mono ?_); rintro e v6 ⟨rfl, j1, rfl⟩)
      | (go_at_call 13; go_must (refine (dl_all H4.out HQ.out hcnt).mono ?_); rintro e v5 ⟨A5, c5, rfl, h⟩; have R5 := Lib.hid (And.intro (own_at0 h.left.slL) (And.intro (own_at0 h.slR) (own_at0 h.left.slR))); have K5 := Lib.hid (own_cap h.slR); have H5 := Lib.hid h; clear h)
      | (go_at_call 10; go_must (refine (OP.out _ H3.out).mono ?_); rintro e v4 ⟨c4, D4, rfl, h⟩; have H4 := Lib.hid h; clear h)
      | (go_at_call 16; go_must (refine (AR.out _ H2.out).mono ?_); rintro e v3 ⟨rfl, h⟩; have H3 := Lib.hid h; clear h)
      | (go_at_call 15; go_must (refine (par_lose H1.out HQ.out 0 (by decide)).mono ?_); rintro e v2 ⟨rfl, h⟩; have H2 := Lib.hid h; clear h)
      | (go_at_call 28; go_must (refine (par_start H0.out HQ.out).mono ?_); rintro e v1 ⟨rfl, h⟩; have H1 := Lib.hid h; clear h))
    go_ret
    exact ⟨by simp, H5.out.below.trans ((drewB _ _).mono H5.out.below.size)⟩
  | false =>
    go_enter Tryd.func18, Tryd.ntmps18
    go_wp2_with (first
      | (go_at_call 23; have X := M1; clear X; go_must (refine (B2.out _ _ _ R7.out.2.1 R7.out.2.2 K5.out).mono ?_); rintro e v8 ⟨rfl, j3, rfl⟩)
      | (go_at_call 23; go_must (refine (B1.out _ _ _ R6.out.1 R6.out.2.1).mono ?_); rintro e v7 ⟨rfl, j2, rfl⟩; have M1 := Lib.hid True.intro; have R7 : Hid (RowAt (v5.drewN (j1 + j2)) A1 (strs all) ∧ RowAt (v5.drewN (j1 + j2)) A5 (strs now) ∧ RowAt (v5.drewN (j1 + j2)) A2 (strs safe)) := R6)
      | (go_at_call 22; go_must (refine (SM.out _ _ _ R5.out.2.1 (R3.out _ H5.out.below)).mono ?_); rintro e v6 ⟨rfl, j1, rfl⟩; have R6 : Hid (RowAt (v5.drewN j1) A1 (strs all) ∧ RowAt (v5.drewN j1) A5 (strs now) ∧ RowAt (v5.drewN j1) A2 (strs safe)) := R5)
      | (go_at_call 13; go_must (refine (dl_all H4.out HQ.out hcnt).mono ?_); rintro e v5 ⟨A5, c5, rfl, h⟩; have R5 := Lib.hid (And.intro (own_at0 h.left.slL) (And.intro (own_at0 h.slR) (own_at0 h.left.slR))); have K5 := Lib.hid (own_cap h.slR); have H5 := Lib.hid h; clear h)
      | (go_at_call 10; go_must (refine (OP.out _ H3.out).mono ?_); rintro e v4 ⟨c4, D4, rfl, h⟩; have H4 := Lib.hid h; clear h)
      | (go_at_call 16; go_must (refine (AR.out _ H2.out).mono ?_); rintro e v3 ⟨rfl, h⟩; have H3 := Lib.hid h; clear h)
      | (go_at_call 15; go_must (refine (par_lose H1.out HQ.out 0 (by decide)).mono ?_); rintro e v2 ⟨rfl, h⟩; have H2 := Lib.hid h; clear h)
      | (go_at_call 28; go_must (refine (par_start H0.out HQ.out).mono ?_); rintro e v1 ⟨rfl, h⟩; have H1 := Lib.hid h; clear h))
    go_ret
    exact ⟨by simp, H5.out.below.trans ((drewB _ _).mono H5.out.below.size)⟩
end Go.Proofs.YtgamkahbebnnaaaDoor.D5
