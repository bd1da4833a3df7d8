/-
  A disk with a log on it, beside other things that the law owns.
-/
import Derived.Test.YtgamkahbebnnaaaDoorD5WSame
namespace Go.Proofs.YtgamkahbebnnaaaDoor.D5
open Go.RowKit WalPlain
set_option maxRecDepth 40000
abbrev DL (b c : Nat) (f : Int) (D : Dk) (R : List Bs) : World → (Nat → Prop) → Prop := fun w F => ∃ F1 G1, Has w b F1 D ∧ LgH w c b f G1 R ∧ (∀ k, F1 k → ¬ G1 k) ∧ (∀ k, F k ↔ F1 k ∨ G1 k)
abbrev SlP (u : Value) (l : List Bs) : World → (Nat → Prop) → Prop := fun w F => w.ownsRow 0 9 1 u l.length (strs l) ∧ (∀ k, u.ownBlock = some k → F k) ∧ (∀ k, F k → k < w.heap.size)
abbrev LgP (c b : Nat) (f : Int) (R : List Bs) : World → (Nat → Prop) → Prop := fun w F => LgH w c b f F R
abbrev Both (P Q : World → (Nat → Prop) → Prop) : World → (Nat → Prop) → Prop := fun w F => ∃ F1 G1, P w F1 ∧ Q w G1 ∧ (∀ k, F1 k → ¬ G1 k) ∧ (∀ k, F k ↔ F1 k ∨ G1 k)
abbrev Non : World → (Nat → Prop) → Prop := fun _ F => ∀ k, ¬ F k
theorem stab_non : Stab Non := ⟨fun _ _ _ _ h _ _ => h, fun _ _ h k hk => absurd hk (h k)⟩
theorem stab_lg (c b : Nat) (f : Int) (R : List Bs) : Stab (LgP c b f R) := ⟨fun _ _ _ _ h hf hd => h.kept hf hd, fun _ _ h => h.lt⟩
theorem stab_sl (u : Value) (l : List Bs) : Stab (SlP u l) := ⟨fun _ _ _ _ h hf hd => ⟨hf.own h.1 (fun k hk => hd k (h.2.1 k hk)), h.2.1, fun k hk => Nat.lt_of_lt_of_le (h.2.2 k hk) hf.size⟩, fun _ _ h => h.2.2⟩
theorem stab_both {P Q : World → (Nat → Prop) → Prop} (hP : Stab P) (hQ : Stab Q) : Stab (Both P Q) := by
  refine ⟨fun w w' F G h hf hd => ?_, fun w F h k hk => ?_⟩
  · obtain ⟨F1, G1, h1, h2, h3, h4⟩ := h
    exact ⟨F1, G1, hP.kept w w' F1 G h1 hf (fun k hk => hd k ((h4 k).2 (.inl hk))), hQ.kept w w' G1 G h2 hf (fun k hk => hd k ((h4 k).2 (.inr hk))), h3, h4⟩
  · obtain ⟨F1, G1, h1, h2, h3, h4⟩ := h
    rcases (h4 k).1 hk with h | h
    · exact hP.lt w F1 h1 k h
    · exact hQ.lt w G1 h2 k h
theorem stab_dl (b c : Nat) (f : Int) (D : Dk) (R : List Bs) : Stab (DL b c f D R) := stab_both (stab_has b D) (stab_lg c b f R)
section
variable {F F1 G1 : Nat → Prop} {w w' : World} {b c : Nat} {f : Int} {D D' : Dk} {R R' : List Bs}
theorem DL.of_step (h : StepW b c f F1 G1 w w' D' R') (hF : ∀ k, F k ↔ F1 k ∨ G1 k) : ∃ F', DL b c f D' R' w' F' ∧ (∀ k, F' k → F k ∨ w.heap.size ≤ k) ∧ Fr F w w' := by
  obtain ⟨F2, G2, h1, h2, h3, h4, h5, h6⟩ := h
  refine ⟨fun k => F2 k ∨ G2 k, ⟨F2, G2, h1, h2, h3, fun _ => Iff.rfl⟩, fun k hk => ?_, h6.mono (fun k _ hk => (hF k).2 hk)⟩
  rcases hk with h | h
  · rcases h4 k h with h | h
    · exact .inl ((hF k).2 (.inl h))
    · exact .inr h
  · rcases h5 k h with h | h
    · exact .inl ((hF k).2 (.inr h))
    · exact .inr h
theorem DL.of_disk (h2 : LgH w c b f G1 R) (h3 : ∀ k, F1 k → ¬ G1 k) (hF : ∀ k, F k ↔ F1 k ∨ G1 k) (h : Step b F1 w w' D') : ∃ F', DL b c f D' R w' F' ∧ (∀ k, F' k → F k ∨ w.heap.size ≤ k) ∧ Fr F w w' :=
  DL.of_step (StepW.of_disk h2 h3 h) hF
end
section
variable {W w w' : World} {b c : Nat} {f : Int} {D D' : Dk} {R R' : List Bs} {P Q Q' : World → (Nat → Prop) → Prop}
/-- A disk's call on a disk with a log. -/
theorem dl_disk (h : Par W w (DL b c f D R) Q) (hQ : Stab Q) {fn : FuncId} {args : Array Value} {v : Ending} (call : ∀ F, Has w b F D → (∀ k, F k → W.heap.size ≤ k) → Calls Tryd.prog fn args w fun e w' => e = v ∧ Step b F w w' D') :
    Calls Tryd.prog fn args w fun e w' => e = v ∧ Par W w' (DL b c f D' R) Q :=
  h.lift hQ fun F hF hW => by
    obtain ⟨F1, G1, h1, h2, h3, h4⟩ := hF
    exact (call F1 h1 (fun k hk => hW k ((h4 k).2 (.inl hk)))).mono fun e w' hh => ⟨hh.1, DL.of_disk h2 h3 h4 hh.2⟩
theorem dl_start (h : Par W w (DL b c f D R) Q) (hQ : Stab Q) : Calls Tryd.prog 28 #[.pointer (some ⟨b, 0, none⟩)] w fun e w' => e = .returned (.tuple #[]) ∧ Par W w' (DL b c f D.start R) Q :=
  dl_disk h hQ fun F h _ => (start_any b D F w h).mono fun _ _ hh => ⟨hh.1, Step.same hh.2.1 hh.2.2⟩
theorem dl_lose (h : Par W w (DL b c f D R) Q) (hQ : Stab Q) (n : Int) (hn : n < 9223372036854775808) : Calls Tryd.prog 15 #[.pointer (some ⟨b, 0, none⟩), .int .i64 n] w fun e w' => e = .returned (.tuple #[]) ∧ Par W w' (DL b c f (D.lose n) R) Q :=
  dl_disk h hQ fun F h _ => (lose_any b D F n w h hn).mono fun _ _ hh => ⟨hh.1, Step.same hh.2.1 hh.2.2⟩
theorem dl_fall (h : Par W w (DL b c f D R) Q) (hQ : Stab Q) (A : Option Addr) (cp : Nat) (xs : List Int) (hr : RowAt w A (ints xs)) : Calls Tryd.prog 19 #[.pointer (some ⟨b, 0, none⟩), .slice A xs.length cp] w fun e w' => e = .returned (.tuple #[]) ∧ Par W w' (DL b c f (D.fall (kf xs)) R) Q :=
  dl_disk h hQ fun F h _ => fall_any b D F A cp xs w h hr
theorem dl_fall0 (h : Par W w (DL b c f D R) Q) (hQ : Stab Q) : Calls Tryd.prog 19 #[.pointer (some ⟨b, 0, none⟩), .slice none 0 0] w fun e w' => e = .returned (.tuple #[]) ∧ Par W w' (DL b c f (D.fall (kf [])) R) Q := dl_fall h hQ none 0 [] (RowAt.nil w none)
theorem dl_arm (h : Par W w (DL b c f D R) Q) (hQ : Stab Q) (n : Int) (hn : n < 9223372036854775808) (A : Option Addr) (cp : Nat) (xs : List Int) (hr : RowAt w A (ints xs)) (hA : xs ≠ [] → ∀ a, A = some a → a.block < W.heap.size) :
    Calls Tryd.prog 16 #[.pointer (some ⟨b, 0, none⟩), .int .i64 n, .slice A xs.length cp] w fun e w' => e = .returned (.tuple #[]) ∧ Par W w' (DL b c f (D.arm n (kf xs)) R) Q :=
  dl_disk h hQ fun F hF hW => arm_any b D F n A cp xs w hF hn hr (fun hne a ha e => by
    have h1 := hA hne a ha
    obtain ⟨v, hv⟩ := hF
    have := hW b hv.mem
    omega)
theorem dl_arm0 (h : Par W w (DL b c f D R) Q) (hQ : Stab Q) (n : Int) (hn : n < 9223372036854775808) : Calls Tryd.prog 16 #[.pointer (some ⟨b, 0, none⟩), .int .i64 n, .slice none 0 0] w fun e w' => e = .returned (.tuple #[]) ∧ Par W w' (DL b c f (D.arm n (kf [])) R) Q :=
  dl_arm h hQ n hn none 0 [] (RowAt.nil w none) (fun _ a ha => by cases ha)
theorem dl_down (h : Par W w (DL b c f D R) Q) : Calls Tryd.prog 17 #[.pointer (some ⟨b, 0, none⟩)] w fun e w' => e = .returned (.bool D.down) ∧ w' = w := h.look fun F hF => by
  obtain ⟨F1, G1, h1, _⟩ := hF
  exact down_any b D F1 w h1
theorem dl_size (h : Par W w (DL b c f D R) Q) (g : Int) : Calls Tryd.prog 25 #[.pointer (some ⟨b, 0, none⟩), .int .i64 g] w fun e w' => e = .returned (.int .i64 (D.size g : Nat)) ∧ w' = w := h.look fun F hF => by
  obtain ⟨F1, G1, h1, _⟩ := hF
  exact size_any b D F1 g w h1
theorem dl_read (h : Par W w (DL b c f D R) Q) (g : Int) : Calls Tryd.prog 26 #[.pointer (some ⟨b, 0, none⟩), .int .i64 g] w fun e w' => e = .returned (.tuple #[.string (mk (D.read g).1), .int .i64 ((D.read g).2 : Nat)]) ∧ w' = w := h.look fun F hF => by
  obtain ⟨F1, G1, h1, _⟩ := hF
  exact read_any b D F1 g w h1
/-- The log's calls. -/
theorem dl_append (h : Par W w (DL b c f D R) Q) (hQ : Stab Q) (hT : S3.Tabs W) (s : Bs) (hs : small20 s) (hR : R.length < 16777216) :
    Calls Tryd.prog 11 #[.pointer (some ⟨c, 0, none⟩), .string (mk s)] w fun e w' => e = .returned (.int .i64 ((D.app f (rec6 s)).1 : Nat)) ∧ Par W w' (DL b c f (D.app f (rec6 s)).2 (if (D.app f (rec6 s)).1 = 0 then R ++ [s] else R)) Q :=
  h.lift hQ fun F hF _ => by
    obtain ⟨F1, G1, h1, h2, h3, h4⟩ := hF
    exact (wappend_any c b f F1 G1 D R s w h1 h2 h3 (hT.below h.below hT.1) hs hR).mono fun e w' hh => ⟨hh.1, DL.of_step hh.2 h4⟩
theorem dl_flush (h : Par W w (DL b c f D R) Q) (hQ : Stab Q) :
    Calls Tryd.prog 12 #[.pointer (some ⟨c, 0, none⟩)] w fun e w' => e = .returned (.int .i64 ((D.flush f).1 : Nat)) ∧ Par W w' (DL b c f (D.flush f).2 R) Q :=
  h.lift hQ fun F hF _ => by
    obtain ⟨F1, G1, h1, h2, h3, h4⟩ := hF
    exact (wflush_any c b f F1 G1 D R w h1 h2 h3).mono fun e w' hh => ⟨hh.1, DL.of_step hh.2 h4⟩
theorem dl_len (h : Par W w (DL b c f D R) Q) : Calls Tryd.prog 27 #[.pointer (some ⟨c, 0, none⟩)] w fun e w' => e = .returned (.int .i64 (R.length : Nat)) ∧ w' = w := h.look fun F hF => by
  obtain ⟨F1, G1, h1, h2, _⟩ := hF
  exact len_any c b f G1 R w h2
/-- Something new beside what there is. -/
theorem Par.more (h : Par W w P Q) (hP : Stab P) (hQ : Stab Q) (hb : Below w.heap.size w w') {K : World → (Nat → Prop) → Prop} {G : Nat → Prop} (hK : K w' G) (hG : ∀ k, G k → w.heap.size ≤ k) : Par W w' P (Both Q K) := by
  obtain ⟨F1, G1, h1, h2, h3, h4, h5, h6⟩ := h
  have hf : Fr (fun _ => False) w w' := Fr.of_below hb (Nat.le_refl _)
  have l1 := hP.lt w F1 h1
  have l2 := hQ.lt w G1 h2
  refine ⟨F1, fun k => G1 k ∨ G k, hP.kept w w' F1 _ h1 hf (fun _ _ h => h), ⟨G1, G, hQ.kept w w' G1 _ h2 hf (fun _ _ h => h), hK, fun k hk hg => ?_, fun _ => Iff.rfl⟩, fun k hk hg => ?_, h4, fun k hk => ?_, h6.trans (hb.mono h6.size)⟩
  · have := l2 k hk; have := hG k hg; omega
  · rcases hg with hg | hg
    · exact h3 k hk hg
    · have := l1 k hk; have := hG k hg; omega
  · rcases hk with hk | hk
    · exact h5 k hk
    · exact Nat.le_trans h6.size (hG k hk)
theorem Par.kept (h : Par W w P Q) (hP : Stab P) (hQ : Stab Q) (hb : Below w.heap.size w w') : Par W w' P Q := by
  obtain ⟨F1, G1, h1, h2, h3, h4, h5, h6⟩ := h
  have hf : Fr (fun _ => False) w w' := Fr.of_below hb (Nat.le_refl _)
  exact ⟨F1, G1, hP.kept w w' F1 _ h1 hf (fun _ _ h => h), hQ.kept w w' G1 _ h2 hf (fun _ _ h => h), h3, h4, h5, h6.trans (hb.mono h6.size)⟩
/-- Of what stands beside, a part is let go. -/
theorem Par.drop (h : Par W w P Q) (hd : ∀ w G, Q w G → ∃ G', Q' w G' ∧ ∀ k, G' k → G k) : Par W w P Q' := by
  obtain ⟨F1, G1, h1, h2, h3, h4, h5, h6⟩ := h
  obtain ⟨G', g1, g2⟩ := hd w G1 h2
  exact ⟨F1, G', h1, g1, fun k hk hg => h3 k hk (g2 k hg), h4, fun k hk => h5 k (g2 k hk), h6⟩
theorem Par.dropL {P' : World → (Nat → Prop) → Prop} (h : Par W w P Q) (hd : ∀ w G, P w G → ∃ G', P' w G' ∧ ∀ k, G' k → G k) : Par W w P' Q := (h.symm.drop hd).symm
theorem both_left (w : World) (G : Nat → Prop) (h : Both P Q w G) : ∃ G', P w G' ∧ ∀ k, G' k → G k := by
  obtain ⟨F1, G1, h1, h2, h3, h4⟩ := h
  exact ⟨F1, h1, fun k hk => (h4 k).2 (.inl hk)⟩
theorem both_right (w : World) (G : Nat → Prop) (h : Both P Q w G) : ∃ G', Q w G' ∧ ∀ k, G' k → G k := by
  obtain ⟨F1, G1, h1, h2, h3, h4⟩ := h
  exact ⟨G1, h2, fun k hk => (h4 k).2 (.inr hk)⟩
theorem to_non (w : World) (G : Nat → Prop) (_ : P w G) : ∃ G', Non w G' ∧ ∀ k, G' k → G k := ⟨fun _ => False, fun _ h => h, fun _ h => h.elim⟩
/-- All: a new slice. -/
theorem dl_all (h : Par W w (DL b c f D R) Q) (hQ : Stab Q) (hR : R.length ≤ 16777216) :
    Calls Tryd.prog 13 #[.pointer (some ⟨c, 0, none⟩)] w fun e w' => ∃ A cap, e = .returned (.slice A R.length cap) ∧ Par W w' (DL b c f D R) (Both Q (SlP (.slice A R.length cap) R)) := by
  have hh := h
  obtain ⟨F, G, ⟨F1, G1, h1, h2, h3, h4⟩, _⟩ := h
  refine (all_any c b f G1 R w h2 hR).mono fun e w' ⟨⟨u, e1, h8⟩, h9⟩ => ?_
  obtain ⟨A, cap, rfl, -⟩ := own_form h8
  exact ⟨A, cap, e1, hh.more (stab_dl b c f D R) hQ h9 (G := fun k => (Value.slice A R.length cap).ownBlock = some k) ⟨own_zero h8, fun _ hk => hk, fun k hk => (h8.lt k hk).2⟩ (fun k hk => (h8.lt k hk).1)⟩
/-- Open. -/
theorem dl_open (h : Par W w (HasP b D) Q) (hQ : Stab Q) (hC : Calm D) (hT : S3.Tabs W) (h0 : 0 ≤ f) (h7 : f < 7) (now : List Bs) (hv : Valid small20 rec6 (D.all f.toNat) now) :
    Calls Tryd.prog 10 #[.pointer (some ⟨b, 0, none⟩), .int .i64 f] w fun e w' => ∃ c, e = .returned (.tuple #[.pointer (some ⟨c, 0, none⟩), .int .i64 0]) ∧ Par W w' (DL b c f (openD D f (flat rec6 now).length).2 now) Q := by
  obtain ⟨F, G, h1, h2, h3, h4, h5, h6⟩ := h
  refine (wopen_any b F D f w h1 hC (hT.below h6 hT.1) h0 h7 now hv).mono fun e w' ⟨c, e1, hs⟩ => ⟨c, e1, ?_⟩
  obtain ⟨F', g1, g2, g3⟩ := DL.of_step (F := F) hs (fun k => by simp)
  refine ⟨F', G, g1, hQ.kept w w' G F h2 g3 (fun k hg hf => h3 k hf hg), fun k hf hg => ?_, fun k hf => ?_, h5, h6.trans (g3.below h4 h6.size)⟩
  · rcases g2 k hf with h | h
    · exact h3 k h hg
    · have := hQ.lt w G h2 k hg; omega
  · rcases g2 k hf with h | h
    · exact h4 k h
    · exact Nat.le_trans h6.size h
/-- Rewrite, the new rows in an argument of the law. -/
theorem dl_rewrite (h : Par W w (DL b c f D R) Q) (hQ : Stab Q) (hT : S3.Tabs W) (N : List Bs) (A : Option Addr) (cap : Nat) (h0 : 0 ≤ f) (h7 : f < 7) (hr : Row w W.heap.size A (strs N)) (hA : A = none → N.length = 0) (hN : ∀ s ∈ N, small20 s) (hb : (flat rec6 N).length ≤ 16777216) (hlen : N.length ≤ 16777216) :
    Calls Tryd.prog 14 #[.pointer (some ⟨c, 0, none⟩), .slice A N.length cap] w fun e w' => e = .returned (.int .i64 ((rewD D f (flat rec6 N)).1 : Nat)) ∧ Par W w' (DL b c f (rewD D f (flat rec6 N)).2 (if (rewD D f (flat rec6 N)).1 = 0 then N else R)) Q :=
  h.lift hQ fun F hF hW => by
    obtain ⟨F1, G1, h1, h2, h3, h4⟩ := hF
    refine (rewrite_any c b f F1 G1 D R N A cap w h1 h2 h3 (hT.below h.below hT.1) h0 h7 (fun k u hk => ?_) hA hN hb hlen (fun hne a ha hk => ?_)).mono fun e w' hh => ⟨hh.1, DL.of_step hh.2 h4⟩
    · obtain ⟨a, a1, a2, a3⟩ := hr k u hk
      exact ⟨a, a1, Nat.lt_of_lt_of_le a2 h.below.size, a3⟩
    · have hk' := hW a.block ((h4 a.block).2 hk)
      cases hs : strs N with
      | nil => exact hne hs
      | cons u us =>
        obtain ⟨a', a1, a2, a3⟩ := hr 0 u (by rw [hs]; rfl)
        rw [ha] at a1
        cases a1
        omega
/-- Rewrite, the new rows in a slice that the law owns. -/
theorem dl_rewrite_own (A : Option Addr) (cap : Nat) (N : List Bs) (h : Par W w (DL b c f D R) (Both Q (SlP (.slice A N.length cap) N))) (hQ : Stab Q) (hT : S3.Tabs W) (h0 : 0 ≤ f) (h7 : f < 7) (hA : A = none → N.length = 0) (hN : ∀ s ∈ N, small20 s) (hb : (flat rec6 N).length ≤ 16777216) (hlen : N.length ≤ 16777216) :
    Calls Tryd.prog 14 #[.pointer (some ⟨c, 0, none⟩), .slice A N.length cap] w fun e w' => e = .returned (.int .i64 ((rewD D f (flat rec6 N)).1 : Nat)) ∧ Par W w' (DL b c f (rewD D f (flat rec6 N)).2 (if (rewD D f (flat rec6 N)).1 = 0 then N else R)) (Both Q (SlP (.slice A N.length cap) N)) := by
  obtain ⟨F, G, ⟨F1, G1, h1, h2, h3, h4⟩, ⟨G2, G3, g1, g2, g3, g4⟩, k1, k2, k3, k4⟩ := h
  have hrow := own_at g2.1
  refine (rewrite_any c b f F1 G1 D R N A cap w h1 h2 h3 (hT.below k4 hT.1) h0 h7 (fun k u hk => ?_) hA hN hb hlen (fun hne a ha hk => ?_)).mono fun e w' hh => ⟨hh.1, ?_⟩
  · obtain ⟨a, a1, a2⟩ := hrow k u hk
    exact ⟨a, a1, block_lt_of_cell (a := a.add k) a2 |> fun h => by rw [add_block] at h; exact h, a2⟩
  · have hc : ∃ g, a = ⟨g, 0, none⟩ := by
      rcases g2.1.2 with ⟨e, _⟩ | ⟨g, c', cur, e, _⟩
      · injection e with e1 _ _; rw [ha] at e1; cases e1
      · injection e with e1 _ _; rw [ha] at e1; injection e1 with e2; exact ⟨g, e2⟩
    obtain ⟨g, rfl⟩ := hc
    have hG3 : G3 g := g2.2.1 g (by rw [ha]; rfl)
    exact k1 g ((h4 g).2 hk) ((g4 g).2 (.inr hG3))
  · obtain ⟨F', f1, f2, f3⟩ := DL.of_step hh.2 h4
    have hQ2 : Stab (Both Q (SlP (.slice A N.length cap) N)) := stab_both hQ (stab_sl _ _)
    have hB : Both Q (SlP (.slice A N.length cap) N) w G := ⟨G2, G3, g1, g2, g3, g4⟩
    refine ⟨F', G, f1, hQ2.kept w w' G F hB f3 (fun k hg hf => k1 k hf hg), fun k hf hg => ?_, fun k hf => ?_, k3, k4.trans (f3.below k2 k4.size)⟩
    · rcases f2 k hf with h | h
      · exact k1 k h hg
      · have := hQ2.lt w G hB k hg; omega
    · rcases f2 k hf with h | h
      · exact k2 k h
      · exact Nat.le_trans k4.size h
end
end Go.Proofs.YtgamkahbebnnaaaDoor.D5
