/-
  DiskLasts: the mathematics, a block of the law's own beside the disk, the walk.
-/
import Derived.Test.YtokoccffkogamaaDown
import Derived.Test.YtokoccffkogamaaTells
namespace Go.Proofs.Ytokoccffkogamaa
open Go.RowKit
/-- What is known to last is a prefix of what is durable. -/
def Inv (sf : Nat → List UInt8) (D : Dk) : Prop := ∀ f, f < 8 → sf f <+: (D.fs f).1
theorem take_pre {a b : List UInt8} (h : a <+: b) (m : Nat) : a.take m <+: b.take m := by
  obtain ⟨t, rfl⟩ := h
  rw [List.take_append]
  exact List.prefix_append _ _
theorem Inv.fs {sf : Nat → List UInt8} {D D' : Dk} (h : Inv sf D) (e : ∀ f, f < 8 → (D'.fs f).1 = (D.fs f).1) : Inv sf D' := fun f hf => by rw [e f hf]; exact h f hf
theorem Inv.crash {sf : Nat → List UInt8} {D : Dk} (h : Inv sf D) (k : Nat → Int) : Inv sf (D.crash k) := fun f hf => (h f hf).trans (List.prefix_append _ _)
theorem Inv.enter {sf : Nat → List UInt8} {D : Dk} (h : Inv sf D) : Inv sf D.enter.2 := by
  unfold Dk.enter
  split
  · exact h
  · split
    · exact h
    · split
      · exact h.crash _
      · exact h.fs (fun _ _ => rfl)
theorem add_fs (D : Dk) (f : Int) (s : List UInt8) (i : Nat) : ((D.add f s).2.fs i).1 = (D.fs i).1 := by
  unfold Dk.add
  split
  · rfl
  · split
    · rfl
    · split
      · rfl
      · by_cases e : i = f.toNat
        · subst e; simp [Dk.set, upd_same]
        · simp [Dk.set, upd_other _ _ e]
theorem add_down (D : Dk) (f : Int) (s : List UInt8) : (D.add f s).2.down = D.down := by
  unfold Dk.add
  split
  · rfl
  · split
    · rfl
    · split <;> rfl
theorem enter_ok {D : Dk} (h : D.enter.1 = 0) : D.down = false ∧ D.enter.2.down = false ∧ ∀ f, D.enter.2.fs f = D.fs f := by
  unfold Dk.enter at h ⊢
  split at h
  · cases h
  · next hd =>
    have hd' : D.down = false := by simpa using hd
    rw [if_neg hd]
    split at h
    · next h0 => rw [if_pos h0]; exact ⟨hd', hd', fun _ => rfl⟩
    · next h0 =>
      split at h
      · cases h
      · next h1 => rw [if_neg h0, if_neg h1]; exact ⟨hd', hd', fun _ => rfl⟩
theorem enter_rest {D : Dk} (h : D.down = false) (h2 : D.enter.2.down = true) (f : Nat) : (D.enter.2.fs f).2 = [] := by
  unfold Dk.enter at h2 ⊢
  rw [if_neg (by simp [h])] at h2 ⊢
  split at h2
  · rw [h] at h2; cases h2
  · next h0 =>
    rw [if_neg h0]
    split at h2
    · next h1 => rw [if_pos h1]; rfl
    · simp only at h2; rw [h] at h2; cases h2
theorem flushed_down (d : Dk) (f : Int) : (d.flushed f).2.down = d.down := by
  unfold Dk.flushed
  split
  · rfl
  · split <;> rfl
theorem cutted_down (d : Dk) (f n : Int) : (d.cutted f n).2.down = d.down := by
  unfold Dk.cutted
  split <;> rfl
theorem turned_down (d : Dk) (f g : Int) : (d.turned f g).2.down = d.down := by
  unfold Dk.turned
  split
  · rfl
  · split <;> rfl
/-- A crash within a step leaves nothing that is not durable. -/
theorem step_rest {t : Ac} {D : Dk} (h : D.down = false) (h2 : (doD t D).2.down = true) (f : Nat) : ((doD t D).2.fs f).2 = [] := by
  have happ : ∀ s : Int × List UInt8, (D.app s.1 s.2).2.down = true → ((D.app s.1 s.2).2.fs f).2 = [] := fun s hs => by
    have e : (D.app s.1 s.2).2 = (D.add s.1 s.2).2.enter.2 := rfl
    rw [e] at hs ⊢
    exact enter_rest (by rw [add_down]; exact h) hs f
  have hgen : ∀ (g : Dk → Nat × Dk), (∀ d : Dk, (g d).2.down = d.down) → (if D.enter.1 = 0 then g D.enter.2 else D.enter).2.down = true → ((if D.enter.1 = 0 then g D.enter.2 else D.enter).2.fs f).2 = [] := fun g hg hs => by
    by_cases h0 : D.enter.1 = 0
    · rw [if_pos h0] at hs
      rw [hg, (enter_ok h0).2.1] at hs
      cases hs
    · rw [if_neg h0] at hs ⊢
      exact enter_rest h hs f
  unfold doD at h2 ⊢
  split at h2
  · next e => rw [if_pos e]; exact happ (t.f, t.s) h2
  · next e0 =>
    rw [if_neg e0]
    split at h2
    · next e => rw [if_pos e]; exact happ (t.f, t.s) h2
    · next e1 =>
      rw [if_neg e1]
      split at h2
      · next e => rw [if_pos e]; exact hgen (fun d => d.flushed t.f) (fun d => flushed_down d t.f) h2
      · next e2 =>
        rw [if_neg e2]
        split at h2
        · next e => rw [if_pos e]; exact hgen (fun d => d.cutted t.f t.n) (fun d => cutted_down d t.f t.n) h2
        · next e3 =>
          rw [if_neg e3]
          split at h2
          · next e => rw [if_pos e]; exact hgen (fun d => d.turned t.f t.g) (fun d => turned_down d t.f t.g) h2
          · next e4 =>
            rw [if_neg e4]
            split at h2
            · next e =>
              rw [if_pos e]
              simp [Dk.fall, h, Dk.crash]
            · next e5 =>
              rw [if_neg e5]
              exfalso
              split at h2
              · have : D.down = true := h2
                rw [h] at this; cases this
              · split at h2
                · have : false = true := h2
                  cases this
                · split at h2
                  · have : D.down = true := h2
                    rw [h] at this; cases this
                  · split at h2
                    · have : D.down = true := h2
                      rw [h] at this; cases this
                    · have : D.down = true := h2
                      rw [h] at this; cases this
theorem do_2 {t : Ac} {D : Dk} (hp : t.d % 11 = 2) : doD t D = (([], (D.flush t.f).1), (D.flush t.f).2) := by simp [doD, hp]
theorem do_3 {t : Ac} {D : Dk} (hp : t.d % 11 = 3) : doD t D = (([], (D.cut t.f t.n).1), (D.cut t.f t.n).2) := by simp [doD, hp]
theorem do_4 {t : Ac} {D : Dk} (hp : t.d % 11 = 4) : doD t D = (([], (D.turn t.f t.g).1), (D.turn t.f t.g).2) := by simp [doD, hp]
/-- A step that makes nothing durable. -/
theorem inv_step {sf : Nat → List UInt8} {t : Ac} {D : Dk} (h : Inv sf D) (hno : t.d % 11 = 2 ∨ t.d % 11 = 3 ∨ t.d % 11 = 4 → (doD t D).1.2 ≠ 0) : Inv sf (doD t D).2 := by
  have happ : ∀ s : Int × List UInt8, Inv sf (D.app s.1 s.2).2 := fun s => by
    have e : (D.app s.1 s.2).2 = (D.add s.1 s.2).2.enter.2 := rfl
    rw [e]
    exact (h.fs (fun i _ => add_fs D s.1 s.2 i)).enter
  have hgen : ∀ (g : Dk → Nat × Dk), (∀ d : Dk, (g d).1 ≠ 0 → ∀ i, (g d).2.fs i = d.fs i) → (if D.enter.1 = 0 then g D.enter.2 else D.enter).1 ≠ 0 → Inv sf (if D.enter.1 = 0 then g D.enter.2 else D.enter).2 := fun g hg hs => by
    by_cases h0 : D.enter.1 = 0
    · rw [if_pos h0] at hs ⊢
      exact h.enter.fs (fun i _ => by rw [hg _ hs i])
    · rw [if_neg h0]
      exact h.enter
  by_cases p2 : t.d % 11 = 2
  · have e := hno (.inl p2)
    rw [do_2 p2] at e ⊢
    exact hgen (fun d => d.flushed t.f) (fun d hd i => by
      unfold Dk.flushed at hd ⊢
      split
      · rfl
      · next a =>
        rw [if_neg a] at hd
        split
        · rfl
        · next b => rw [if_neg b] at hd; exact absurd rfl hd) e
  · by_cases p3 : t.d % 11 = 3
    · have e := hno (.inr (.inl p3))
      rw [do_3 p3] at e ⊢
      exact hgen (fun d => d.cutted t.f t.n) (fun d hd i => by
        unfold Dk.cutted at hd ⊢
        split
        · rfl
        · next a => rw [if_neg a] at hd; exact absurd rfl hd) e
    · by_cases p4 : t.d % 11 = 4
      · have e := hno (.inr (.inr p4))
        rw [do_4 p4] at e ⊢
        exact hgen (fun d => d.turned t.f t.g) (fun d hd i => by
          unfold Dk.turned at hd ⊢
          split
          · rfl
          · next a =>
            rw [if_neg a] at hd
            split
            · rfl
            · next b => rw [if_neg b] at hd; exact absurd rfl hd) e
      · unfold doD
        rw [if_neg p2, if_neg p3, if_neg p4]
        split
        · exact happ (t.f, t.s)
        · split
          · exact happ (t.f, t.s)
          · split
            · show Inv sf (D.fall (kf t.keep))
              unfold Dk.fall
              split
              · exact h
              · exact h.crash _
            · split
              · exact h.fs (fun _ _ => rfl)
              · split
                · exact h.fs (fun _ _ => rfl)
                · split
                  · exact h
                  · split
                    · exact h.fs (fun _ _ => rfl)
                    · exact h
theorem inv_flush {sf : Nat → List UInt8} {t : Ac} {D : Dk} (h : Inv sf D) (hp : t.d % 11 = 2) (hz : (doD t D).1.2 = 0) :
    ∃ (n : Nat) (y : List UInt8), n < 8 ∧ t.f = (n : Int) ∧ D.down = false ∧ (doD t D).2.down = false ∧ (doD t D).2.read (n : Int) = (y, 0) ∧ Inv (upd sf n y) (doD t D).2 := by
  rw [do_2 hp] at hz ⊢
  simp only at hz ⊢
  have e0 : D.enter.1 = 0 := by
    by_cases e : D.enter.1 = 0
    · exact e
    · unfold Dk.flush at hz; rw [if_neg e] at hz; exact absurd hz e
  obtain ⟨h1, h2, h3⟩ := enter_ok e0
  have hfl : D.flush t.f = D.enter.2.flushed t.f := by unfold Dk.flush; rw [if_pos e0]
  rw [hfl] at hz ⊢
  cases hf : isF t.f
  · simp [Dk.flushed, hf] at hz
  · by_cases hl : 0 < D.enter.2.lost
    · simp [Dk.flushed, hf, hl] at hz
    · have e1 : D.enter.2.flushed t.f = (0, D.enter.2.set t.f.toNat (D.enter.2.all t.f.toNat, [])) := by simp [Dk.flushed, hf, hl]
      rw [e1]
      obtain ⟨q1, q2⟩ := (isF_iff t.f).1 hf
      refine ⟨t.f.toNat, D.enter.2.all t.f.toNat, by omega, by omega, h1, h2, ?_, fun i hi => ?_⟩
      · have e2 : ((t.f.toNat : Nat) : Int) = t.f := by omega
        rw [e2]
        simp [Dk.read, Dk.set, h2, hf, Dk.all, upd_same]
      · by_cases e : i = t.f.toNat
        · subst e
          rw [upd_same]
          simp [Dk.set, upd_same]
        · rw [upd_other _ _ e]
          simp only [Dk.set, upd_other _ _ e]
          rw [h3]
          exact h i hi
theorem inv_cut {sf : Nat → List UInt8} {t : Ac} {D : Dk} (h : Inv sf D) (hp : t.d % 11 = 3) (hz : (doD t D).1.2 = 0) :
    ∃ (n m : Nat), n < 8 ∧ t.f = (n : Int) ∧ t.n = (m : Int) ∧ D.down = false ∧ (doD t D).2.down = false ∧ Inv (upd sf n ((sf n).take m)) (doD t D).2 := by
  rw [do_3 hp] at hz ⊢
  simp only at hz ⊢
  have e0 : D.enter.1 = 0 := by
    by_cases e : D.enter.1 = 0
    · exact e
    · unfold Dk.cut at hz; rw [if_neg e] at hz; exact absurd hz e
  obtain ⟨h1, h2, h3⟩ := enter_ok e0
  have hfl : D.cut t.f t.n = D.enter.2.cutted t.f t.n := by unfold Dk.cut; rw [if_pos e0]
  rw [hfl] at hz ⊢
  by_cases hc : isF t.f = false ∨ t.n < 0 ∨ (D.enter.2.len t.f.toNat : Int) < t.n
  · unfold Dk.cutted at hz; rw [if_pos hc] at hz; cases hz
  · have e1 : D.enter.2.cutted t.f t.n = (0, D.enter.2.set t.f.toNat (Dk.took (D.enter.2.fs t.f.toNat) t.n.toNat)) := by unfold Dk.cutted; rw [if_neg hc]
    rw [e1]
    have hf : isF t.f = true := by
      cases e : isF t.f
      · exact absurd (.inl e) hc
      · rfl
    obtain ⟨q1, q2⟩ := (isF_iff t.f).1 hf
    have hn : ¬ t.n < 0 := fun e => hc (.inr (.inl e))
    refine ⟨t.f.toNat, t.n.toNat, by omega, by omega, by omega, h1, h2, fun i hi => ?_⟩
    by_cases e : i = t.f.toNat
    · subst e
      rw [upd_same]
      simp only [Dk.set, upd_same, Dk.took]
      rw [h3]
      exact take_pre (h _ hi) _
    · rw [upd_other _ _ e]
      simp only [Dk.set, upd_other _ _ e]
      rw [h3]
      exact h i hi
theorem inv_turn {sf : Nat → List UInt8} {t : Ac} {D : Dk} (h : Inv sf D) (hp : t.d % 11 = 4) (hz : (doD t D).1.2 = 0) :
    ∃ (n m : Nat), n < 8 ∧ m < 8 ∧ n ≠ m ∧ t.f = (n : Int) ∧ t.g = (m : Int) ∧ D.down = false ∧ (doD t D).2.down = false ∧ Inv (upd (upd sf n (sf m)) m []) (doD t D).2 := by
  rw [do_4 hp] at hz ⊢
  simp only at hz ⊢
  have e0 : D.enter.1 = 0 := by
    by_cases e : D.enter.1 = 0
    · exact e
    · unfold Dk.turn at hz; rw [if_neg e] at hz; exact absurd hz e
  obtain ⟨h1, h2, h3⟩ := enter_ok e0
  have hfl : D.turn t.f t.g = D.enter.2.turned t.f t.g := by unfold Dk.turn; rw [if_pos e0]
  rw [hfl] at hz ⊢
  by_cases hc : isF t.f = false ∨ isF t.g = false ∨ t.f = t.g
  · unfold Dk.turned at hz; rw [if_pos hc] at hz; cases hz
  · by_cases hr : (D.enter.2.fs t.g.toNat).2 ≠ []
    · unfold Dk.turned at hz; rw [if_neg hc, if_pos hr] at hz; cases hz
    · have e1 : D.enter.2.turned t.f t.g = (0, (D.enter.2.set t.f.toNat (D.enter.2.fs t.g.toNat)).set t.g.toNat ([], [])) := by unfold Dk.turned; rw [if_neg hc, if_neg hr]
      rw [e1]
      have hf : isF t.f = true := by
        cases e : isF t.f
        · exact absurd (.inl e) hc
        · rfl
      have hg : isF t.g = true := by
        cases e : isF t.g
        · exact absurd (.inr (.inl e)) hc
        · rfl
      obtain ⟨q1, q2⟩ := (isF_iff t.f).1 hf
      obtain ⟨q3, q4⟩ := (isF_iff t.g).1 hg
      have hne : ¬ t.f = t.g := fun e => hc (.inr (.inr e))
      refine ⟨t.f.toNat, t.g.toNat, by omega, by omega, by omega, by omega, by omega, h1, h2, fun i hi => ?_⟩
      by_cases e : i = t.g.toNat
      · subst e
        rw [upd_same]
        exact List.nil_prefix
      · rw [upd_other _ _ e]
        simp only [Dk.set, upd_other _ _ e]
        by_cases e2 : i = t.f.toNat
        · subst e2
          rw [upd_same, upd_same, h3]
          exact h _ (by omega)
        · rw [upd_other _ _ e2, upd_other _ _ e2, h3]
          exact h i hi
/-- The cells of eight strings. -/
def safeC (sf : Nat → List UInt8) : Array Value := #[.string (mk (sf 0)), .string (mk (sf 1)), .string (mk (sf 2)), .string (mk (sf 3)), .string (mk (sf 4)), .string (mk (sf 5)), .string (mk (sf 6)), .string (mk (sf 7))]
theorem safeC_at (sf : Nat → List UInt8) {f : Nat} (h : f < 8) : (safeC sf)[f]? = some (.string (mk (sf f))) := by
  rcases lt8 h with rfl | rfl | rfl | rfl | rfl | rfl | rfl | rfl <;> rfl
theorem safeC_set (sf : Nat → List UInt8) {f : Nat} (h : f < 8) (y : List UInt8) : (safeC sf).setIfInBounds f (.string (mk y)) = safeC (upd sf f y) := by
  rcases lt8 h with rfl | rfl | rfl | rfl | rfl | rfl | rfl | rfl <;> simp [safeC, upd]
theorem safeC_congr {sf sf' : Nat → List UInt8} (h : ∀ f, f < 8 → sf f = sf' f) : safeC sf = safeC sf' := by
  unfold safeC
  rw [h 0 (by omega), h 1 (by omega), h 2 (by omega), h 3 (by omega), h 4 (by omega), h 5 (by omega), h 6 (by omega), h 7 (by omega)]
abbrev BlkP (g : Nat) (t : TypeId) (c : Array Value) : World → (Nat → Prop) → Prop := fun w F => Is w g t c ∧ F g ∧ ∀ k, F k → k = g
theorem stab_blk (g : Nat) (t : TypeId) (c : Array Value) : Stab (BlkP g t c) := by
  refine ⟨fun w w' F G h hf hd => ⟨hf.is h.1 (hd g h.2.1), h.2⟩, fun w F h k hk => ?_⟩
  rw [h.2.2 k hk]
  exact h.1.lt
section
variable {W w : World} {P Q R : World → (Nat → Prop) → Prop} {b g g2 : Nat} {t t2 : TypeId} {c c2 : Array Value} {D : Dk}
theorem Par.withBlk (h : Par W w P Q) (hP : Stab P) (hQ : Stab Q) (t : TypeId) (c : Array Value) : Par W (w.alloc (.cells c t)) P (Both Q (BlkP w.heap.size t c)) := by
  obtain ⟨F, G, h1, h2, h3, h4, h5, h6⟩ := h
  refine ⟨F, fun k => G k ∨ k = w.heap.size, hP.kept _ _ F (fun _ => False) h1 ((Fr.refl _ w).alloc _) (fun _ _ hh => hh),
    ⟨G, fun k => k = w.heap.size, hQ.kept _ _ G (fun _ => False) h2 ((Fr.refl _ w).alloc _) (fun _ _ hh => hh), ⟨Is.fresh w t c, rfl, fun _ e => e⟩, fun k hg e => by have := hQ.lt _ _ h2 k hg; omega, fun _ h => .inl h, fun _ h => .inr h, fun _ h => h⟩, fun k hf hg => ?_, h4, fun k hk => ?_, h6.alloc h6.size _⟩
  · rcases hg with hg | hg
    · exact h3 k hf hg
    · have := hP.lt _ _ h1 k hf; omega
  · rcases hk with hk | hk
    · exact h5 k hk
    · have := h6.size; omega
theorem own_blk (h : Own W w b D) (t : TypeId) (c : Array Value) : Par W (w.alloc (.cells c t)) (HasP b D) (BlkP w.heap.size t c) := by
  obtain ⟨F, h1, h2, h3⟩ := h
  exact ⟨F, fun k => k = w.heap.size, h1.kept ((Fr.refl (fun _ => False) w).alloc _) (fun _ _ hh => hh), ⟨Is.fresh w t c, rfl, fun _ e => e⟩, fun k hf e => by have := h1.lt k hf; omega, h2, fun k hk => by have := h3.size; omega, h3.alloc h3.size _⟩
theorem Par.dropR (h : Par W w P (Both Q R)) : Par W w P Q := by
  obtain ⟨F, G, h1, ⟨F1, F2, g1, g2, g3, g4, g5, g6⟩, h3, h4, h5, h6⟩ := h
  exact ⟨F, F1, h1, g1, fun k hf hg => h3 k hf (g4 k hg), h4, fun k hk => h5 k (g4 k hk), h6⟩
theorem Par.isL (h : Par W w P (Both (BlkP g t c) Q)) : Is w g t c := by
  obtain ⟨F, G, h1, ⟨F1, F2, g1, g2, g3, g4, g5, g6⟩, h3, h4, h5, h6⟩ := h
  exact g1.1
theorem Par.isR (h : Par W w P (Both Q (BlkP g t c))) : Is w g t c := by
  obtain ⟨F, G, h1, ⟨F1, F2, g1, g2, g3, g4, g5, g6⟩, h3, h4, h5, h6⟩ := h
  exact g2.1
theorem Par.isQ (h : Par W w P (BlkP g t c)) : Is w g t c := by
  obtain ⟨F, G, h1, h2, _⟩ := h
  exact h2.1
theorem Par.putL (h : Par W w P (Both (BlkP g t c) Q)) (hP : Stab P) (hQ : Stab Q) (i : Nat) (u : Value) : Par W (w.setCell ⟨g, i, none⟩ u) P (Both (BlkP g t (c.setIfInBounds i u)) Q) := by
  obtain ⟨F, G, h1, ⟨F1, F2, g1, g2, g3, g4, g5, g6⟩, h3, h4, h5, h6⟩ := h
  have hf : Fr (fun k => k = g) w (w.setCell ⟨g, i, none⟩ u) := (Fr.refl (fun k => k = g) w).set (b := g) rfl i u
  exact ⟨F, G, hP.kept _ _ F _ h1 hf (fun k hk e => h3 k hk (by rw [e]; exact g4 g g1.2.1)), ⟨F1, F2, ⟨g1.1.put i u, g1.2⟩, hQ.kept _ _ F2 _ g2 hf (fun k hk e => g3 g g1.2.1 (e ▸ hk)), g3, g4, g5, g6⟩, h3, h4, h5,
    h6.setCell (p := ⟨g, i, none⟩) (h5 g (g4 g g1.2.1)) u⟩
theorem Par.putR (h : Par W w P (Both Q (BlkP g t c))) (hP : Stab P) (hQ : Stab Q) (i : Nat) (u : Value) : Par W (w.setCell ⟨g, i, none⟩ u) P (Both Q (BlkP g t (c.setIfInBounds i u))) := by
  obtain ⟨F, G, h1, ⟨F1, F2, g1, g2, g3, g4, g5, g6⟩, h3, h4, h5, h6⟩ := h
  have hf : Fr (fun k => k = g) w (w.setCell ⟨g, i, none⟩ u) := (Fr.refl (fun k => k = g) w).set (b := g) rfl i u
  exact ⟨F, G, hP.kept _ _ F _ h1 hf (fun k hk e => h3 k hk (by rw [e]; exact g5 g g2.2.1)), ⟨F1, F2, hQ.kept _ _ F1 _ g1 hf (fun k hk e => g3 k hk (e ▸ g2.2.1)), ⟨g2.1.put i u, g2.2⟩, g3, g4, g5, g6⟩, h3, h4, h5,
    h6.setCell (p := ⟨g, i, none⟩) (h5 g (g5 g g2.2.1)) u⟩
theorem par_arm0 (h : Par W w (HasP b D) Q) (hQ : Stab Q) : Calls Try.prog 29 #[.pointer (some ⟨b, 0, none⟩), .int .i64 0, .slice none 0 0] w fun e w' => e = .returned (.tuple #[]) ∧ Par W w' (HasP b (D.arm 0 (kf []))) Q :=
  h.lift hQ fun F h _ => arm_any b D F 0 none 0 [] w h (by decide) (RowAt.nil w none) (fun _ a ha => by cases ha)
end
theorem info9 : (Try.prog.info? 9).map (fun i => (i.zero, i.size, i.bytes)) = some (some (.string ⟨#[]⟩), 1, 16) := by kernel_rfl
theorem make8s (W : World) : (Instr.makeSlice 40 (.int .i64 8) (.int .i64 8)).run Try.prog W = .ok (.slice (some ⟨W.heap.size, 0, none⟩) 8 8) (W.alloc (.cells (safeC (fun _ => [])) 9)) := by
  obtain ⟨i0, hi, hz0, hz1, hz2⟩ := info_parts info9
  rw [run_makeSlice W 40 9 i0 _ Try.underlying40 hi hz0 .i64 .i64 8 8 (by omega) (by omega) (by rw [hz1]; decide) (by rw [hz2]; decide) (by omega), hz1]
  have e : madeCells (Value.string ⟨#[]⟩).cells (Int.toNat 8 * 1) = safeC (fun _ => []) := by kernel_rfl
  rw [e]
  rfl
/-- What is in memory of the act and of the strings that are known to last. -/
def Act (t : Ac) (K : Option Addr) (kc : Nat) : Array Value := #[.int .i64 t.d, .int .i64 t.f, .int .i64 t.g, .int .i64 t.n, .string (mk t.s), .slice K t.keep.length kc]
abbrev LP (W w : World) (b : Nat) (D : Dk) (s : Nat) (sf : Nat → List UInt8) (g : Nat) (t : Ac) (K : Option Addr) (kc : Nat) : Prop := Par W w (HasP b D) (Both (BlkP s 9 (safeC sf)) (BlkP g 32 (Act t K kc)))
theorem stab_sb (s : Nat) (sf : Nat → List UInt8) (g : Nat) (t : Ac) (K : Option Addr) (kc : Nat) : Stab (Both (BlkP s 9 (safeC sf)) (BlkP g 32 (Act t K kc))) := stab_both (stab_blk _ _ _) (stab_blk _ _ _)
section
variable {W w : World} {b s g kc : Nat} {D : Dk} {sf : Nat → List UInt8} {t : Ac} {K : Option Addr}
theorem LP.put (h : LP W w b D s sf g t K kc) {n : Nat} (hn : n < 8) (y : List UInt8) : LP W (w.setCell ⟨s, n, none⟩ (.string (mk y))) b D s (upd sf n y) g t K kc := by
  have := h.putL (stab_has _ _) (stab_blk _ _ _) n (.string (mk y))
  rw [safeC_set sf hn y] at this
  exact this
theorem LP.drew (h : LP W w b D s sf g t K kc) (n : Nat) : LP W (w.drewN n) b D s sf g t K kc := Par.drew h (stab_has _ _) (stab_sb _ _ _ _ _ _) n
theorem LP.safe (h : LP W w b D s sf g t K kc) {n : Nat} (hn : n < 8) : w.cell? ⟨s, n, none⟩ = some (.string (mk (sf n))) := (h.isL.at_ n).trans (safeC_at sf hn)
theorem LP.fro (h : LP W w b D s sf g t K kc) (n : Nat) : w.frozen? ⟨s, n, none⟩ = false := h.isL.open_ n
theorem LP.act (h : LP W w b D s sf g t K kc) : w.cell? ⟨g, 0, none⟩ = some (.int .i64 t.d) ∧ w.cell? ⟨g, 1, none⟩ = some (.int .i64 t.f) ∧ w.cell? ⟨g, 2, none⟩ = some (.int .i64 t.g) ∧ w.cell? ⟨g, 3, none⟩ = some (.int .i64 t.n) ∧ w.cell? ⟨g, 4, none⟩ = some (.string (mk t.s)) ∧ w.cell? ⟨g, 5, none⟩ = some (.slice K t.keep.length kc) :=
  ⟨h.isR.at_ 0, h.isR.at_ 1, h.isR.at_ 2, h.isR.at_ 3, h.isR.at_ 4, h.isR.at_ 5⟩
theorem LP.congr (h : LP W w b D s sf g t K kc) {sf' : Nat → List UInt8} (e : ∀ f, f < 8 → sf f = sf' f) : LP W w b D s sf' g t K kc := by
  have := safeC_congr e
  unfold LP at h ⊢
  rw [← this]
  exact h
end
set_option maxRecDepth 100000 in
set_option maxHeartbeats 20000000 in
theorem lasts_walk (A : Option Addr) (c : Nat) (l : List Ac) (A1 : Option Addr) (c1 : Nat) (ks : List Int) (W : World) (h : Acts W W.heap.size A l) (hf : ∀ a ∈ l, a.Fits) (hl : l.length < 4611686018427387904) (hk1 : Keep W W.heap.size A1 ks) :
    Calls Try.prog 4 #[.slice A l.length c, .slice A1 ks.length c1] W fun e w' => e = .returned (.bool true) ∧ Below W.heap.size W w' := by
  have HA0 : Hid (Acts W W.heap.size A l) := Lib.hid h
  have HF := Lib.hid hf
  have HK1 := Lib.hid hk1
  have HFEW : Hid (∀ w, Below W.heap.size W w → Calls Try.prog 11 #[.slice A l.length c] w fun e w' => e = .returned (.bool (fewD l)) ∧ Below w.heap.size w w') := Lib.hid (fun w hb => few_any A c l w ((h.below hb).top hb.size) hf hl)
  have hmk := make8s
  have m0 : (mk []).toList.isEmpty = true := by rw [mkl']; rfl
  clear h hf hk1
  cases hfew : fewD l
  · rw [hfew] at HFEW
    go_enter Try.func4, Try.ntmps4
    go_wp2_with (first
      | (go_at_call 11; refine (HFEW.out _ H0.out.below).mono ?_; rintro e v3 ⟨rfl, h⟩; have H1 := Lib.hid (H0.out.kept h); clear h)
      | (go_at_call 10; have X := HB; clear X; refine (new_own W v1 HB.out).mono ?_; rintro e v2 ⟨rfl, h⟩; have H0 := Lib.hid h; clear h)
      | (go_at_call 9; refine (small_any _).mono ?_; rintro e v1 ⟨rfl, h⟩; have HB := Lib.hid h; clear h))
    go_ret
    exact ⟨rfl, H1.out.below⟩
  · rw [hfew] at HFEW
    go_enter Try.func4, Try.ntmps4
    go_wp2_with (first
      | (go_at_call 11; refine (HFEW.out _ H0.out.below).mono ?_; rintro e v3 ⟨rfl, h⟩; have H1 := Lib.hid (H0.out.kept h); clear h)
      | (go_at_call 10; have X := HB; clear X; refine (new_own W v1 HB.out).mono ?_; rintro e v2 ⟨rfl, h⟩; have H0 := Lib.hid h; clear h)
      | (go_at_call 9; refine (small_any _).mono ?_; rintro e v1 ⟨rfl, h⟩; have HB := Lib.hid h; clear h))
    have P0 := Lib.hid (own_blk H1.out 9 (safeC (fun _ => [])))
    go_loopw [8] (fun i wr => ∃ (k : Nat) (D : Dk) (sf : Nat → List UInt8), k ≤ l.length ∧ i = .int .i64 (k : Int) ∧ Par W wr (HasP v1.heap.size D) (BlkP v3.heap.size 9 (safeC sf)) ∧ Inv sf D) (fun i _ => l.length - (intOf i).toNat)
    case atStart => exact ⟨0, Dk.new, fun _ => [], by omega, rfl, P0.out, fun _ _ => List.nil_prefix⟩
    case round =>
      obtain ⟨k, D, sf, hk, rfl, hP, hI⟩ := hrel
      obtain ⟨wo, hwo⟩ : ∃ wo, wo = wr := ⟨_, rfl⟩
      subst hwo
      have P1 := Lib.hid hP
      have HI := Lib.hid hI
      have hb := hP.below
      clear hP hI
      by_cases hlt : k < l.length
      · have j1 : decide ((k : Int) < (l.length : Int)) = true := by simp; omega
        have j2 : (k : Int) < (l.length : Int) := by omega
        have W1 : IntKind.i64.wrap ((k : Int) + 1) = (k : Int) + 1 := IntWalk.i64_in _ (by omega)
        obtain ⟨t, ht⟩ : ∃ t, t = l[k] := ⟨_, rfl⟩
        obtain ⟨p, rfl, hat⟩ := HA0.out k t (by rw [List.getElem?_eq_getElem hlt, ht])
        have HFT : Hid t.Fits := Lib.hid (HF.out t (by rw [ht]; exact List.getElem_mem _))
        obtain ⟨hPp, KA, cK, g0, g1, g2, g3, g4, g5, gk⟩ := hat.below hb
        have HGK : Hid (∀ w, Below W.heap.size W w → Keep w W.heap.size KA t.keep) := Lib.hid (fun w hb2 => by
          obtain ⟨hPp, KA', cK', _, _, _, _, _, g5', gk'⟩ := hat
          have e := (hb.cell (p := ⟨(p.add (k * 6)).block, (p.add (k * 6)).off + 5, none⟩) hPp).symm.trans g5
          have e2 := g5'.symm.trans e
          simp only [Option.some.injEq, Value.slice.injEq] at e2
          rw [← e2.1]
          exact gk'.below hb2)
        have PA0 : Hid (LP W (wo.alloc (.cells #[.int .i64 t.d, .int .i64 t.f, .int .i64 t.g, .int .i64 t.n, .string (mk t.s), .slice KA t.keep.length cK] 32)) v1.heap.size D v3.heap.size sf wo.heap.size t KA cK) := Lib.hid (P1.out.withBlk (stab_has _ _) (stab_blk _ _ _) 32 _)
        clear ht gk hPp hat hb
        have PK := fun W => pick_any t.d W
        obtain ⟨x, hx⟩ : ∃ x, x = doD t D := ⟨_, rfl⟩
        have HX := Lib.hid hx.symm
        have HREST : Hid (D.down = false → x.2.down = true → ∀ f, (x.2.fs f).2 = []) := Lib.hid (fun a b f => by rw [hx] at b ⊢; exact step_rest a b f)
        by_cases p2 : t.d % 11 = 2
        · have PK2 := PK
          rw [p2] at PK
          by_cases hz : x.1.2 = 0
          · obtain ⟨n, y, hn, hfn, hd, hd2, hread, hinv⟩ := inv_flush HI.out p2 (by rw [← hx]; exact hz)
            rw [← hx] at hd2 hread hinv
            have z1 : ((x.1.2 : Nat) : Int) = 0 := by omega
            have z2 : (((x.1.2 : Nat) : Int) == 0) = true := by simp; omega
            have z2' : (x.1.2 == 0) = true := by simp; omega
            have HINV := Lib.hid hinv
            have HZ := Lib.hid hz
            have i8 : (n : Int) < 8 := by omega
            have RD : Hid (∀ w, LP W w v1.heap.size x.2 v3.heap.size sf wo.heap.size t KA cK → Calls Try.prog 26 #[.pointer (some ⟨v1.heap.size, 0, none⟩), .int .i64 t.f] w fun e w' => e = .returned (.tuple #[.string (mk y), .int .i64 0]) ∧ w' = w) := Lib.hid (fun w h => by
              have := par_read h t.f
              rw [hfn, hread] at this
              rw [hfn]
              exact this)
            have HFN := Lib.hid hfn
            clear hz hx hinv hread p2 PK2 z1 hfn
            go_wp2_with (first
              | (go_at_call 26; have X := PB; clear X; refine (RD.out _ PB.out).mono ?_; rintro e u4 ⟨rfl, hq⟩; have PC : Hid (LP W u4 v1.heap.size x.2 v3.heap.size sf wo.heap.size t KA cK) := Lib.hid (hq ▸ PB.out); obtain ⟨b0, b1, b2, b3, b4, b5⟩ := PC.out.act; rw [HFN.out] at b1; have s0 := PC.out.safe hn; have s1 := PC.out.fro n; clear hq)
              | (go_at_call 18; have X := PA; clear X; refine (par_dox PA.out (stab_sb _ _ _ _ _ _) t KA cK HFT.out (HGK.out _ PA.out.below) HX.out).mono ?_; rintro e u2 ⟨rfl, h⟩; have PB : Hid (LP W u2 v1.heap.size x.2 v3.heap.size sf wo.heap.size t KA cK) := Lib.hid h; obtain ⟨b0, b1, b2, b3, b4, b5⟩ := PB.out.act; clear h)
              | (go_at_call 20; refine (par_down PA0.out).mono ?_; rintro e u1 ⟨rfl, hq⟩; have PA : Hid (LP W u1 v1.heap.size D v3.heap.size sf wo.heap.size t KA cK) := Lib.hid (hq ▸ PA0.out); obtain ⟨b0, b1, b2, b3, b4, b5⟩ := PA.out.act; clear hq)
              | (go_at_call 13; refine (PK _).mono ?_; rintro e u3 ⟨rfl, rfl⟩))
            have PD : Hid (∀ j, LP W ((u4.setCell ⟨v3.heap.size, n, none⟩ (.string (mk y))).drewN j) v1.heap.size x.2 v3.heap.size (upd sf n y) wo.heap.size t KA cK) := Lib.hid (fun j => (PC.out.put hn y).drew j)
            go_quiet (fail)
            go_wp2_with (first
              | (go_at_call 20; refine (par_down (PD.out _)).mono ?_; rintro e u7 ⟨rfl, hq⟩; have PZ := Lib.hid (hq ▸ (PD.out _)); clear hq))
            go_roundw
            case rel => exact ⟨k + 1, x.2, upd sf n y, by omega, by go_num, Par.dropR PZ.out, HINV.out⟩
            case measure => simp [intOf]; omega
          · have HINV : Hid (Inv sf x.2) := Lib.hid (by rw [hx]; exact inv_step HI.out (by rw [← hx]; omega))
            have z2 : (((x.1.2 : Nat) : Int) == 0) = false := by simp; omega
            have z2' : (x.1.2 == 0) = false := by simp; omega
            clear hx
            cases hd : D.down
            · cases hd2 : x.2.down
              · go_wp2_with (first
                  | (go_at_call 18; have X := PA; clear X; refine (par_dox PA.out (stab_sb _ _ _ _ _ _) t KA cK HFT.out (HGK.out _ PA.out.below) HX.out).mono ?_; rintro e u2 ⟨rfl, h⟩; have PB : Hid (LP W u2 v1.heap.size x.2 v3.heap.size sf wo.heap.size t KA cK) := Lib.hid h; obtain ⟨b0, b1, b2, b3, b4, b5⟩ := PB.out.act; clear h)
                  | (go_at_call 20; refine (par_down PA0.out).mono ?_; rintro e u1 ⟨rfl, hq⟩; have PA : Hid (LP W u1 v1.heap.size D v3.heap.size sf wo.heap.size t KA cK) := Lib.hid (hq ▸ PA0.out); obtain ⟨b0, b1, b2, b3, b4, b5⟩ := PA.out.act; clear hq)
                  | (go_at_call 13; refine (PK _).mono ?_; rintro e u3 ⟨rfl, rfl⟩))
                have PD := Lib.hid (fun j => PB.out.drew j)
                go_quiet (fail)
                go_wp2_with (first
                  | (go_at_call 20; refine (par_down (PD.out _)).mono ?_; rintro e u7 ⟨rfl, hq⟩; have PZ := Lib.hid (hq ▸ (PD.out _)); clear hq))
                go_roundw
                case rel => exact ⟨k + 1, x.2, sf, by omega, by go_num, Par.dropR PZ.out, HINV.out⟩
                case measure => simp [intOf]; omega
              · obtain ⟨E, hE⟩ : ∃ E, E = x.2.start := ⟨_, rfl⟩
                have hrest : ∀ f, (E.fs f).2 = [] := fun f => by rw [hE]; exact HREST.out hd hd2 f
                have hall : ∀ f, E.all f = (E.fs f).1 := fun f => by unfold Dk.all; rw [hrest, List.append_nil]
                have HSF : Hid (∀ f, f < 8 → sf f <+: E.all f) := Lib.hid (fun f hf => by rw [hall, hE]; exact HINV.out f hf)
                have hEd : E.down = false := by rw [hE]; rfl
                have HRD : Hid (∀ q, q < 8 → E.read ((q : Nat) : Int) = (E.all q, 0)) := Lib.hid (fun q hq => by simp [Dk.read, hEd, isF_nat hq])
                have HEND : Hid (Inv (fun f => if f < 8 then E.all f else sf f) (E.fall (kf []))) := Lib.hid (fun f hf => by
                  simp only [hf, if_true]
                  rw [hall]
                  simp [Dk.fall, hEd, Dk.crash])
                have ST : Hid (∀ w, LP W w v1.heap.size x.2 v3.heap.size sf wo.heap.size t KA cK → Calls Try.prog 24 #[.pointer (some ⟨v1.heap.size, 0, none⟩)] w fun e w' => e = .returned (.tuple #[]) ∧ LP W w' v1.heap.size E v3.heap.size sf wo.heap.size t KA cK) := Lib.hid (fun w h => by rw [hE]; exact par_start h (stab_sb _ _ _ _ _ _))
                clear hE hrest hall hEd
                go_wp2_with (first
                  | (go_at_call 18; have X := PA; clear X; refine (par_dox PA.out (stab_sb _ _ _ _ _ _) t KA cK HFT.out (HGK.out _ PA.out.below) HX.out).mono ?_; rintro e u2 ⟨rfl, h⟩; have PB : Hid (LP W u2 v1.heap.size x.2 v3.heap.size sf wo.heap.size t KA cK) := Lib.hid h; obtain ⟨b0, b1, b2, b3, b4, b5⟩ := PB.out.act; clear h)
                  | (go_at_call 20; refine (par_down PA0.out).mono ?_; rintro e u1 ⟨rfl, hq⟩; have PA : Hid (LP W u1 v1.heap.size D v3.heap.size sf wo.heap.size t KA cK) := Lib.hid (hq ▸ PA0.out); obtain ⟨b0, b1, b2, b3, b4, b5⟩ := PA.out.act; clear hq)
                  | (go_at_call 13; refine (PK _).mono ?_; rintro e u3 ⟨rfl, rfl⟩))
                have PD := Lib.hid (fun j => PB.out.drew j)
                go_quiet (fail)
                go_wp2_with (first
                  | (go_at_call 24; have X := PZ; clear X; refine (ST.out _ PZ.out).mono ?_; rintro e u8 ⟨rfl, h⟩; have PE := Lib.hid h; clear h)
                  | (go_at_call 20; refine (par_down (PD.out _)).mono ?_; rintro e u7 ⟨rfl, hq⟩; have PZ : Hid (LP W u7 v1.heap.size x.2 v3.heap.size sf wo.heap.size t KA cK) := Lib.hid (hq ▸ (PD.out _)); clear hq))
                go_loopw [16] (fun i wz => ∃ q : Nat, q ≤ 8 ∧ i = .int .i64 (q : Int) ∧ LP W wz v1.heap.size E v3.heap.size (fun f => if f < q then E.all f else sf f) wo.heap.size t KA cK) (fun i _ => 8 - (intOf i).toNat)
                case atStart => exact ⟨0, by omega, rfl, PE.out.congr (fun f _ => by simp)⟩
                case round =>
                  obtain ⟨q, hq, rfl, hZ⟩ := hrel
                  have Z0 := Lib.hid hZ
                  clear hZ
                  by_cases hq8 : q < 8
                  · have m1 : decide ((q : Int) < 8) = true := by simp; omega
                    have m2 : (q : Int) < 8 := by omega
                    obtain ⟨y, hy⟩ : ∃ y, y = E.all q := ⟨_, rfl⟩
                    obtain ⟨v, hv⟩ : ∃ v, v = sf q := ⟨_, rfl⟩
                    have s0 := Z0.out.safe hq8
                    have s1 := Z0.out.fro q
                    simp only [Nat.lt_irrefl, if_false] at s0
                    rw [← hv] at s0
                    have R1 := par_read Z0.out (q : Int)
                    rw [HRD.out q hq8, ← hy] at R1
                    have R1 := Lib.hid R1
                    have R2 := Lib.hid (fun w => begins_any y v w (by rw [hy, hv]; exact HSF.out q hq8))
                    have HZ : Hid (∀ w, LP W w v1.heap.size E v3.heap.size (fun f => if f < q then E.all f else sf f) wo.heap.size t KA cK → LP W (w.setCell ⟨v3.heap.size, q, none⟩ (.string (mk y))) v1.heap.size E v3.heap.size (fun f => if f < q + 1 then E.all f else sf f) wo.heap.size t KA cK) := Lib.hid (fun w h => (h.put hq8 y).congr (fun f _ => by
                      by_cases e : f = q
                      · subst e; rw [upd_same, hy]; simp
                      · rw [upd_other _ _ e]
                        by_cases e2 : f < q
                        · simp [e2, show f < q + 1 by omega]
                        · simp [e2, show ¬ f < q + 1 by omega]))
                    clear hy hv
                    go_wp2_with (first
                      | (go_at_call 28; refine (R2.out _).mono ?_; rintro e z2 ⟨rfl, rfl⟩)
                      | (go_at_call 26; refine (R1.out).mono ?_; rintro e z1 ⟨rfl, rfl⟩))
                    go_roundw
                    case rel => exact ⟨q + 1, by omega, by go_num, HZ.out _ Z0.out⟩
                    case measure => simp [intOf]; omega
                  · have m1 : decide ((q : Int) < 8) = false := by simp; omega
                    have m2 : decide (q < 8) = false := by simp; omega
                    have hq9 : q = 8 := by omega
                    have Z8 : Hid (LP W wr v1.heap.size E v3.heap.size (fun f => if f < 8 then E.all f else sf f) wo.heap.size t KA cK) := Lib.hid (by rw [← hq9]; exact Z0.out)
                    clear hq9
                    go_wp2_with (first
                      | (go_at_call 16; refine (par_fall0 Z8.out (stab_sb _ _ _ _ _ _)).mono ?_; rintro e z3 ⟨rfl, h⟩; have Z9 := Lib.hid h; clear h))
                    go_roundw
                    case rel => exact ⟨k + 1, _, _, by omega, by go_num, Par.dropR Z9.out, HEND.out⟩
                    case measure => simp [intOf]; omega
            · go_wp2_with (first
                | (go_at_call 18; have X := PA; clear X; refine (par_dox PA.out (stab_sb _ _ _ _ _ _) t KA cK HFT.out (HGK.out _ PA.out.below) HX.out).mono ?_; rintro e u2 ⟨rfl, h⟩; have PB : Hid (LP W u2 v1.heap.size x.2 v3.heap.size sf wo.heap.size t KA cK) := Lib.hid h; obtain ⟨b0, b1, b2, b3, b4, b5⟩ := PB.out.act; clear h)
                | (go_at_call 20; refine (par_down PA0.out).mono ?_; rintro e u1 ⟨rfl, hq⟩; have PA : Hid (LP W u1 v1.heap.size D v3.heap.size sf wo.heap.size t KA cK) := Lib.hid (hq ▸ PA0.out); obtain ⟨b0, b1, b2, b3, b4, b5⟩ := PA.out.act; clear hq)
                | (go_at_call 13; refine (PK _).mono ?_; rintro e u3 ⟨rfl, rfl⟩))
              have PD := Lib.hid (fun j => PB.out.drew j)
              go_quiet (fail)
              go_wp2
              go_roundw
              case rel => exact ⟨k + 1, x.2, sf, by omega, by go_num, Par.dropR (PD.out _), HINV.out⟩
              case measure => simp [intOf]; omega
        · have q2 : (t.d % 11 == 2) = false := by simpa using p2
          by_cases p3 : t.d % 11 = 3
          · rw [p3] at PK
            by_cases hz : x.1.2 = 0
            · obtain ⟨n, m, hn, hfn, hmn, hd, hd2, hinv⟩ := inv_cut HI.out p3 (by rw [← hx]; exact hz)
              rw [← hx] at hd2 hinv
              have z2 : (((x.1.2 : Nat) : Int) == 0) = true := by simp; omega
              have z2' : (x.1.2 == 0) = true := by simp; omega
              have HINV := Lib.hid hinv
              have HZ := Lib.hid hz
              have i8 : (n : Int) < 8 := by omega
              have HFN := Lib.hid hfn
              have HMN := Lib.hid hmn
              have sz : (mk (sf n)).size = (sf n).length := rfl
              clear hz hx hinv p2 p3 q2 hfn hmn
              by_cases hm : m < (sf n).length
              · have y1 : decide ((m : Int) < ((sf n).length : Int)) = true := by simp; omega
                have y2 : decide (m < (sf n).length) = true := by simp; omega
                have y3 : (m : Int) ≤ ((sf n).length : Int) := by omega
                have y4 : m ≤ (sf n).length := by omega
                go_wp2_with (first
                  | (go_at_call 18; have X := PA; clear X; refine (par_dox PA.out (stab_sb _ _ _ _ _ _) t KA cK HFT.out (HGK.out _ PA.out.below) HX.out).mono ?_; rintro e u2 ⟨rfl, h⟩; have PB : Hid (LP W u2 v1.heap.size x.2 v3.heap.size sf wo.heap.size t KA cK) := Lib.hid h; obtain ⟨b0, b1, b2, b3, b4, b5⟩ := PB.out.act; clear h)
                  | (go_at_call 20; refine (par_down PA0.out).mono ?_; rintro e u1 ⟨rfl, hq⟩; have PA : Hid (LP W u1 v1.heap.size D v3.heap.size sf wo.heap.size t KA cK) := Lib.hid (hq ▸ PA0.out); obtain ⟨b0, b1, b2, b3, b4, b5⟩ := PA.out.act; clear hq)
                  | (go_at_call 13; refine (PK _).mono ?_; rintro e u3 ⟨rfl, rfl⟩))
                rw [HFN.out] at b1
                rw [HMN.out] at b3
                have s0 := PB.out.safe hn
                have s1 := PB.out.fro n
                go_quiet (fail)
                go_wp2
                generalize hu : u3.drewN nq = u9
                have PQ : Hid (LP W u9 v1.heap.size x.2 v3.heap.size sf wo.heap.size t KA cK) := Lib.hid (by rw [← hu]; exact PB.out.drew nq)
                clear hu b0 b1 b2 b3 b4 b5 s0 s1
                obtain ⟨b0, b1, b2, b3, b4, b5⟩ := PQ.out.act
                rw [HFN.out] at b1
                rw [HMN.out] at b3
                have s0 := PQ.out.safe hn
                have s1 := PQ.out.fro n
                have PD : Hid (∀ j, LP W ((u9.drewN j).setCell ⟨v3.heap.size, n, none⟩ (.string ((mk (sf n)).extract 0 m))) v1.heap.size x.2 v3.heap.size (upd sf n ((sf n).take m)) wo.heap.size t KA cK) := Lib.hid (fun j => by
                  rw [extract_front, ls_mk]
                  exact (PQ.out.drew j).put hn _)
                go_still_tail 11, (by kernel_rfl)
                change wpList _ _ _ _ _ u9.drew
                go_wp2_with (first
                  | (go_at_call 20; refine (par_down (PD.out _)).mono ?_; rintro e u7 ⟨rfl, hq⟩; have PZ := Lib.hid (hq ▸ (PD.out _)); clear hq))
                go_roundw
                case rel => exact ⟨k + 1, x.2, upd sf n ((sf n).take m), by omega, by go_num, Par.dropR PZ.out, HINV.out⟩
                case measure => simp [intOf]; omega
              · have y1 : decide ((m : Int) < ((sf n).length : Int)) = false := by simp; omega
                have y2 : decide (m < (sf n).length) = false := by simp; omega
                have HINV2 : Hid (Inv sf x.2) := Lib.hid (fun f hf => by
                  have := HINV.out f hf
                  by_cases e : f = n
                  · subst e
                    rw [upd_same, List.take_of_length_le (by omega)] at this
                    exact this
                  · rw [upd_other _ _ e] at this
                    exact this)
                go_wp2_with (first
                  | (go_at_call 18; have X := PA; clear X; refine (par_dox PA.out (stab_sb _ _ _ _ _ _) t KA cK HFT.out (HGK.out _ PA.out.below) HX.out).mono ?_; rintro e u2 ⟨rfl, h⟩; have PB : Hid (LP W u2 v1.heap.size x.2 v3.heap.size sf wo.heap.size t KA cK) := Lib.hid h; obtain ⟨b0, b1, b2, b3, b4, b5⟩ := PB.out.act; clear h)
                  | (go_at_call 20; refine (par_down PA0.out).mono ?_; rintro e u1 ⟨rfl, hq⟩; have PA : Hid (LP W u1 v1.heap.size D v3.heap.size sf wo.heap.size t KA cK) := Lib.hid (hq ▸ PA0.out); obtain ⟨b0, b1, b2, b3, b4, b5⟩ := PA.out.act; clear hq)
                  | (go_at_call 13; refine (PK _).mono ?_; rintro e u3 ⟨rfl, rfl⟩))
                rw [HFN.out] at b1
                rw [HMN.out] at b3
                have s0 := PB.out.safe hn
                have s1 := PB.out.fro n
                have PD := Lib.hid (fun j => PB.out.drew j)
                go_quiet (fail)
                go_wp2_with (first
                  | (go_at_call 20; refine (par_down (PD.out _)).mono ?_; rintro e u7 ⟨rfl, hq⟩; have PZ := Lib.hid (hq ▸ (PD.out _)); clear hq))
                go_roundw
                case rel => exact ⟨k + 1, x.2, sf, by omega, by go_num, Par.dropR PZ.out, HINV2.out⟩
                case measure => simp [intOf]; omega
            · have q3 : True := trivial
              have HINV : Hid (Inv sf x.2) := Lib.hid (by rw [hx]; exact inv_step HI.out (by rw [← hx]; omega))
              have z2 : (((x.1.2 : Nat) : Int) == 0) = false := by simp; omega
              have z2' : (x.1.2 == 0) = false := by simp; omega
              clear hx
              cases hd : D.down
              · cases hd2 : x.2.down
                · go_wp2_with (first
                    | (go_at_call 18; have X := PA; clear X; refine (par_dox PA.out (stab_sb _ _ _ _ _ _) t KA cK HFT.out (HGK.out _ PA.out.below) HX.out).mono ?_; rintro e u2 ⟨rfl, h⟩; have PB : Hid (LP W u2 v1.heap.size x.2 v3.heap.size sf wo.heap.size t KA cK) := Lib.hid h; obtain ⟨b0, b1, b2, b3, b4, b5⟩ := PB.out.act; clear h)
                    | (go_at_call 20; refine (par_down PA0.out).mono ?_; rintro e u1 ⟨rfl, hq⟩; have PA : Hid (LP W u1 v1.heap.size D v3.heap.size sf wo.heap.size t KA cK) := Lib.hid (hq ▸ PA0.out); obtain ⟨b0, b1, b2, b3, b4, b5⟩ := PA.out.act; clear hq)
                    | (go_at_call 13; refine (PK _).mono ?_; rintro e u3 ⟨rfl, rfl⟩))
                  have PD := Lib.hid (fun j => PB.out.drew j)
                  go_quiet (fail)
                  go_wp2_with (first
                    | (go_at_call 20; refine (par_down (PD.out _)).mono ?_; rintro e u7 ⟨rfl, hq⟩; have PZ := Lib.hid (hq ▸ (PD.out _)); clear hq))
                  go_roundw
                  case rel => exact ⟨k + 1, x.2, sf, by omega, by go_num, Par.dropR PZ.out, HINV.out⟩
                  case measure => simp [intOf]; omega
                · obtain ⟨E, hE⟩ : ∃ E, E = x.2.start := ⟨_, rfl⟩
                  have hrest : ∀ f, (E.fs f).2 = [] := fun f => by rw [hE]; exact HREST.out hd hd2 f
                  have hall : ∀ f, E.all f = (E.fs f).1 := fun f => by unfold Dk.all; rw [hrest, List.append_nil]
                  have HSF : Hid (∀ f, f < 8 → sf f <+: E.all f) := Lib.hid (fun f hf => by rw [hall, hE]; exact HINV.out f hf)
                  have hEd : E.down = false := by rw [hE]; rfl
                  have HRD : Hid (∀ q, q < 8 → E.read ((q : Nat) : Int) = (E.all q, 0)) := Lib.hid (fun q hq => by simp [Dk.read, hEd, isF_nat hq])
                  have HEND : Hid (Inv (fun f => if f < 8 then E.all f else sf f) (E.fall (kf []))) := Lib.hid (fun f hf => by
                    simp only [hf, if_true]
                    rw [hall]
                    simp [Dk.fall, hEd, Dk.crash])
                  have ST : Hid (∀ w, LP W w v1.heap.size x.2 v3.heap.size sf wo.heap.size t KA cK → Calls Try.prog 24 #[.pointer (some ⟨v1.heap.size, 0, none⟩)] w fun e w' => e = .returned (.tuple #[]) ∧ LP W w' v1.heap.size E v3.heap.size sf wo.heap.size t KA cK) := Lib.hid (fun w h => by rw [hE]; exact par_start h (stab_sb _ _ _ _ _ _))
                  clear hE hrest hall hEd
                  go_wp2_with (first
                    | (go_at_call 18; have X := PA; clear X; refine (par_dox PA.out (stab_sb _ _ _ _ _ _) t KA cK HFT.out (HGK.out _ PA.out.below) HX.out).mono ?_; rintro e u2 ⟨rfl, h⟩; have PB : Hid (LP W u2 v1.heap.size x.2 v3.heap.size sf wo.heap.size t KA cK) := Lib.hid h; obtain ⟨b0, b1, b2, b3, b4, b5⟩ := PB.out.act; clear h)
                    | (go_at_call 20; refine (par_down PA0.out).mono ?_; rintro e u1 ⟨rfl, hq⟩; have PA : Hid (LP W u1 v1.heap.size D v3.heap.size sf wo.heap.size t KA cK) := Lib.hid (hq ▸ PA0.out); obtain ⟨b0, b1, b2, b3, b4, b5⟩ := PA.out.act; clear hq)
                    | (go_at_call 13; refine (PK _).mono ?_; rintro e u3 ⟨rfl, rfl⟩))
                  have PD := Lib.hid (fun j => PB.out.drew j)
                  go_quiet (fail)
                  go_wp2_with (first
                    | (go_at_call 24; have X := PZ; clear X; refine (ST.out _ PZ.out).mono ?_; rintro e u8 ⟨rfl, h⟩; have PE := Lib.hid h; clear h)
                    | (go_at_call 20; refine (par_down (PD.out _)).mono ?_; rintro e u7 ⟨rfl, hq⟩; have PZ : Hid (LP W u7 v1.heap.size x.2 v3.heap.size sf wo.heap.size t KA cK) := Lib.hid (hq ▸ (PD.out _)); clear hq))
                  go_loopw [16] (fun i wz => ∃ q : Nat, q ≤ 8 ∧ i = .int .i64 (q : Int) ∧ LP W wz v1.heap.size E v3.heap.size (fun f => if f < q then E.all f else sf f) wo.heap.size t KA cK) (fun i _ => 8 - (intOf i).toNat)
                  case atStart => exact ⟨0, by omega, rfl, PE.out.congr (fun f _ => by simp)⟩
                  case round =>
                    obtain ⟨q, hq, rfl, hZ⟩ := hrel
                    have Z0 := Lib.hid hZ
                    clear hZ
                    by_cases hq8 : q < 8
                    · have m1 : decide ((q : Int) < 8) = true := by simp; omega
                      have m2 : (q : Int) < 8 := by omega
                      obtain ⟨y, hy⟩ : ∃ y, y = E.all q := ⟨_, rfl⟩
                      obtain ⟨v, hv⟩ : ∃ v, v = sf q := ⟨_, rfl⟩
                      have s0 := Z0.out.safe hq8
                      have s1 := Z0.out.fro q
                      simp only [Nat.lt_irrefl, if_false] at s0
                      rw [← hv] at s0
                      have R1 := par_read Z0.out (q : Int)
                      rw [HRD.out q hq8, ← hy] at R1
                      have R1 := Lib.hid R1
                      have R2 := Lib.hid (fun w => begins_any y v w (by rw [hy, hv]; exact HSF.out q hq8))
                      have HZ : Hid (∀ w, LP W w v1.heap.size E v3.heap.size (fun f => if f < q then E.all f else sf f) wo.heap.size t KA cK → LP W (w.setCell ⟨v3.heap.size, q, none⟩ (.string (mk y))) v1.heap.size E v3.heap.size (fun f => if f < q + 1 then E.all f else sf f) wo.heap.size t KA cK) := Lib.hid (fun w h => (h.put hq8 y).congr (fun f _ => by
                        by_cases e : f = q
                        · subst e; rw [upd_same, hy]; simp
                        · rw [upd_other _ _ e]
                          by_cases e2 : f < q
                          · simp [e2, show f < q + 1 by omega]
                          · simp [e2, show ¬ f < q + 1 by omega]))
                      clear hy hv
                      go_wp2_with (first
                        | (go_at_call 28; refine (R2.out _).mono ?_; rintro e z2 ⟨rfl, rfl⟩)
                        | (go_at_call 26; refine (R1.out).mono ?_; rintro e z1 ⟨rfl, rfl⟩))
                      go_roundw
                      case rel => exact ⟨q + 1, by omega, by go_num, HZ.out _ Z0.out⟩
                      case measure => simp [intOf]; omega
                    · have m1 : decide ((q : Int) < 8) = false := by simp; omega
                      have m2 : decide (q < 8) = false := by simp; omega
                      have hq9 : q = 8 := by omega
                      have Z8 : Hid (LP W wr v1.heap.size E v3.heap.size (fun f => if f < 8 then E.all f else sf f) wo.heap.size t KA cK) := Lib.hid (by rw [← hq9]; exact Z0.out)
                      clear hq9
                      go_wp2_with (first
                        | (go_at_call 16; refine (par_fall0 Z8.out (stab_sb _ _ _ _ _ _)).mono ?_; rintro e z3 ⟨rfl, h⟩; have Z9 := Lib.hid h; clear h))
                      go_roundw
                      case rel => exact ⟨k + 1, _, _, by omega, by go_num, Par.dropR Z9.out, HEND.out⟩
                      case measure => simp [intOf]; omega
              · go_wp2_with (first
                  | (go_at_call 18; have X := PA; clear X; refine (par_dox PA.out (stab_sb _ _ _ _ _ _) t KA cK HFT.out (HGK.out _ PA.out.below) HX.out).mono ?_; rintro e u2 ⟨rfl, h⟩; have PB : Hid (LP W u2 v1.heap.size x.2 v3.heap.size sf wo.heap.size t KA cK) := Lib.hid h; obtain ⟨b0, b1, b2, b3, b4, b5⟩ := PB.out.act; clear h)
                  | (go_at_call 20; refine (par_down PA0.out).mono ?_; rintro e u1 ⟨rfl, hq⟩; have PA : Hid (LP W u1 v1.heap.size D v3.heap.size sf wo.heap.size t KA cK) := Lib.hid (hq ▸ PA0.out); obtain ⟨b0, b1, b2, b3, b4, b5⟩ := PA.out.act; clear hq)
                  | (go_at_call 13; refine (PK _).mono ?_; rintro e u3 ⟨rfl, rfl⟩))
                have PD := Lib.hid (fun j => PB.out.drew j)
                go_quiet (fail)
                go_wp2
                go_roundw
                case rel => exact ⟨k + 1, x.2, sf, by omega, by go_num, Par.dropR (PD.out _), HINV.out⟩
                case measure => simp [intOf]; omega
          · have q3 : (t.d % 11 == 3) = false := by simpa using p3
            by_cases p4 : t.d % 11 = 4
            · rw [p4] at PK
              by_cases hz : x.1.2 = 0
              · obtain ⟨n, m, hn, hm, hnm, hfn, hgn, hd, hd2, hinv⟩ := inv_turn HI.out p4 (by rw [← hx]; exact hz)
                rw [← hx] at hd2 hinv
                have z2 : (((x.1.2 : Nat) : Int) == 0) = true := by simp; omega
                have z2' : (x.1.2 == 0) = true := by simp; omega
                have HINV := Lib.hid hinv
                have HZ := Lib.hid hz
                have i8 : (n : Int) < 8 := by omega
                have i9 : (m : Int) < 8 := by omega
                have HFN := Lib.hid hfn
                have HGN := Lib.hid hgn
                clear hz hx hinv p2 p3 p4 q2 q3 hfn hgn
                go_wp2_with (first
                  | (go_at_call 18; have X := PA; clear X; refine (par_dox PA.out (stab_sb _ _ _ _ _ _) t KA cK HFT.out (HGK.out _ PA.out.below) HX.out).mono ?_; rintro e u2 ⟨rfl, h⟩; have PB : Hid (LP W u2 v1.heap.size x.2 v3.heap.size sf wo.heap.size t KA cK) := Lib.hid h; obtain ⟨b0, b1, b2, b3, b4, b5⟩ := PB.out.act; clear h)
                  | (go_at_call 20; refine (par_down PA0.out).mono ?_; rintro e u1 ⟨rfl, hq⟩; have PA : Hid (LP W u1 v1.heap.size D v3.heap.size sf wo.heap.size t KA cK) := Lib.hid (hq ▸ PA0.out); obtain ⟨b0, b1, b2, b3, b4, b5⟩ := PA.out.act; clear hq)
                  | (go_at_call 13; refine (PK _).mono ?_; rintro e u3 ⟨rfl, rfl⟩))
                go_quiet (fail)
                go_wp2
                generalize hu : u3.drewN nq = u9
                have PQ : Hid (LP W u9 v1.heap.size x.2 v3.heap.size sf wo.heap.size t KA cK) := Lib.hid (by rw [← hu]; exact PB.out.drew nq)
                clear hu b0 b1 b2 b3 b4 b5
                obtain ⟨b0, b1, b2, b3, b4, b5⟩ := PQ.out.act
                rw [HFN.out] at b1
                rw [HGN.out] at b2
                have s0 := PQ.out.safe hn
                have s1 := PQ.out.fro n
                have s2 := PQ.out.safe hm
                have s3 := PQ.out.fro m
                have PD : Hid (∀ j, LP W (((u9.drewN j).setCell ⟨v3.heap.size, n, none⟩ (.string (mk (sf m)))).setCell ⟨v3.heap.size, m, none⟩ (.string ⟨#[]⟩)) v1.heap.size x.2 v3.heap.size (upd (upd sf n (sf m)) m []) wo.heap.size t KA cK) := Lib.hid (fun j => ((PQ.out.drew j).put hn _).put hm [])
                have hne1 : ¬ v3.heap.size = wo.heap.size := Is.apart PQ.out.isL PQ.out.isR (by decide)
                have hne2 : ¬ wo.heap.size = v3.heap.size := fun e => hne1 e.symm
                have hne3 : ¬ n = m := hnm
                have hne4 : ¬ m = n := fun e => hnm e.symm
                go_still_tail 8, (by kernel_rfl)
                change wpList _ _ _ _ _ u9.drew
                go_wp2_with (first
                  | (go_at_call 20; refine (par_down (PD.out _)).mono ?_; rintro e u7 ⟨rfl, hq⟩; have PZ := Lib.hid (hq ▸ (PD.out _)); clear hq))
                go_roundw
                case rel => exact ⟨k + 1, x.2, upd (upd sf n (sf m)) m [], by omega, by go_num, Par.dropR PZ.out, HINV.out⟩
                case measure => simp [intOf]; omega
              · have q4 : True := trivial
                have HINV : Hid (Inv sf x.2) := Lib.hid (by rw [hx]; exact inv_step HI.out (by rw [← hx]; omega))
                have z2 : (((x.1.2 : Nat) : Int) == 0) = false := by simp; omega
                have z2' : (x.1.2 == 0) = false := by simp; omega
                clear hx
                cases hd : D.down
                · cases hd2 : x.2.down
                  · go_wp2_with (first
                      | (go_at_call 18; have X := PA; clear X; refine (par_dox PA.out (stab_sb _ _ _ _ _ _) t KA cK HFT.out (HGK.out _ PA.out.below) HX.out).mono ?_; rintro e u2 ⟨rfl, h⟩; have PB : Hid (LP W u2 v1.heap.size x.2 v3.heap.size sf wo.heap.size t KA cK) := Lib.hid h; obtain ⟨b0, b1, b2, b3, b4, b5⟩ := PB.out.act; clear h)
                      | (go_at_call 20; refine (par_down PA0.out).mono ?_; rintro e u1 ⟨rfl, hq⟩; have PA : Hid (LP W u1 v1.heap.size D v3.heap.size sf wo.heap.size t KA cK) := Lib.hid (hq ▸ PA0.out); obtain ⟨b0, b1, b2, b3, b4, b5⟩ := PA.out.act; clear hq)
                      | (go_at_call 13; refine (PK _).mono ?_; rintro e u3 ⟨rfl, rfl⟩))
                    have PD := Lib.hid (fun j => PB.out.drew j)
                    go_quiet (fail)
                    go_wp2_with (first
                      | (go_at_call 20; refine (par_down (PD.out _)).mono ?_; rintro e u7 ⟨rfl, hq⟩; have PZ := Lib.hid (hq ▸ (PD.out _)); clear hq))
                    go_roundw
                    case rel => exact ⟨k + 1, x.2, sf, by omega, by go_num, Par.dropR PZ.out, HINV.out⟩
                    case measure => simp [intOf]; omega
                  · obtain ⟨E, hE⟩ : ∃ E, E = x.2.start := ⟨_, rfl⟩
                    have hrest : ∀ f, (E.fs f).2 = [] := fun f => by rw [hE]; exact HREST.out hd hd2 f
                    have hall : ∀ f, E.all f = (E.fs f).1 := fun f => by unfold Dk.all; rw [hrest, List.append_nil]
                    have HSF : Hid (∀ f, f < 8 → sf f <+: E.all f) := Lib.hid (fun f hf => by rw [hall, hE]; exact HINV.out f hf)
                    have hEd : E.down = false := by rw [hE]; rfl
                    have HRD : Hid (∀ q, q < 8 → E.read ((q : Nat) : Int) = (E.all q, 0)) := Lib.hid (fun q hq => by simp [Dk.read, hEd, isF_nat hq])
                    have HEND : Hid (Inv (fun f => if f < 8 then E.all f else sf f) (E.fall (kf []))) := Lib.hid (fun f hf => by
                      simp only [hf, if_true]
                      rw [hall]
                      simp [Dk.fall, hEd, Dk.crash])
                    have ST : Hid (∀ w, LP W w v1.heap.size x.2 v3.heap.size sf wo.heap.size t KA cK → Calls Try.prog 24 #[.pointer (some ⟨v1.heap.size, 0, none⟩)] w fun e w' => e = .returned (.tuple #[]) ∧ LP W w' v1.heap.size E v3.heap.size sf wo.heap.size t KA cK) := Lib.hid (fun w h => by rw [hE]; exact par_start h (stab_sb _ _ _ _ _ _))
                    clear hE hrest hall hEd
                    go_wp2_with (first
                      | (go_at_call 18; have X := PA; clear X; refine (par_dox PA.out (stab_sb _ _ _ _ _ _) t KA cK HFT.out (HGK.out _ PA.out.below) HX.out).mono ?_; rintro e u2 ⟨rfl, h⟩; have PB : Hid (LP W u2 v1.heap.size x.2 v3.heap.size sf wo.heap.size t KA cK) := Lib.hid h; obtain ⟨b0, b1, b2, b3, b4, b5⟩ := PB.out.act; clear h)
                      | (go_at_call 20; refine (par_down PA0.out).mono ?_; rintro e u1 ⟨rfl, hq⟩; have PA : Hid (LP W u1 v1.heap.size D v3.heap.size sf wo.heap.size t KA cK) := Lib.hid (hq ▸ PA0.out); obtain ⟨b0, b1, b2, b3, b4, b5⟩ := PA.out.act; clear hq)
                      | (go_at_call 13; refine (PK _).mono ?_; rintro e u3 ⟨rfl, rfl⟩))
                    have PD := Lib.hid (fun j => PB.out.drew j)
                    go_quiet (fail)
                    go_wp2_with (first
                      | (go_at_call 24; have X := PZ; clear X; refine (ST.out _ PZ.out).mono ?_; rintro e u8 ⟨rfl, h⟩; have PE := Lib.hid h; clear h)
                      | (go_at_call 20; refine (par_down (PD.out _)).mono ?_; rintro e u7 ⟨rfl, hq⟩; have PZ : Hid (LP W u7 v1.heap.size x.2 v3.heap.size sf wo.heap.size t KA cK) := Lib.hid (hq ▸ (PD.out _)); clear hq))
                    go_loopw [16] (fun i wz => ∃ q : Nat, q ≤ 8 ∧ i = .int .i64 (q : Int) ∧ LP W wz v1.heap.size E v3.heap.size (fun f => if f < q then E.all f else sf f) wo.heap.size t KA cK) (fun i _ => 8 - (intOf i).toNat)
                    case atStart => exact ⟨0, by omega, rfl, PE.out.congr (fun f _ => by simp)⟩
                    case round =>
                      obtain ⟨q, hq, rfl, hZ⟩ := hrel
                      have Z0 := Lib.hid hZ
                      clear hZ
                      by_cases hq8 : q < 8
                      · have m1 : decide ((q : Int) < 8) = true := by simp; omega
                        have m2 : (q : Int) < 8 := by omega
                        obtain ⟨y, hy⟩ : ∃ y, y = E.all q := ⟨_, rfl⟩
                        obtain ⟨v, hv⟩ : ∃ v, v = sf q := ⟨_, rfl⟩
                        have s0 := Z0.out.safe hq8
                        have s1 := Z0.out.fro q
                        simp only [Nat.lt_irrefl, if_false] at s0
                        rw [← hv] at s0
                        have R1 := par_read Z0.out (q : Int)
                        rw [HRD.out q hq8, ← hy] at R1
                        have R1 := Lib.hid R1
                        have R2 := Lib.hid (fun w => begins_any y v w (by rw [hy, hv]; exact HSF.out q hq8))
                        have HZ : Hid (∀ w, LP W w v1.heap.size E v3.heap.size (fun f => if f < q then E.all f else sf f) wo.heap.size t KA cK → LP W (w.setCell ⟨v3.heap.size, q, none⟩ (.string (mk y))) v1.heap.size E v3.heap.size (fun f => if f < q + 1 then E.all f else sf f) wo.heap.size t KA cK) := Lib.hid (fun w h => (h.put hq8 y).congr (fun f _ => by
                          by_cases e : f = q
                          · subst e; rw [upd_same, hy]; simp
                          · rw [upd_other _ _ e]
                            by_cases e2 : f < q
                            · simp [e2, show f < q + 1 by omega]
                            · simp [e2, show ¬ f < q + 1 by omega]))
                        clear hy hv
                        go_wp2_with (first
                          | (go_at_call 28; refine (R2.out _).mono ?_; rintro e z2 ⟨rfl, rfl⟩)
                          | (go_at_call 26; refine (R1.out).mono ?_; rintro e z1 ⟨rfl, rfl⟩))
                        go_roundw
                        case rel => exact ⟨q + 1, by omega, by go_num, HZ.out _ Z0.out⟩
                        case measure => simp [intOf]; omega
                      · have m1 : decide ((q : Int) < 8) = false := by simp; omega
                        have m2 : decide (q < 8) = false := by simp; omega
                        have hq9 : q = 8 := by omega
                        have Z8 : Hid (LP W wr v1.heap.size E v3.heap.size (fun f => if f < 8 then E.all f else sf f) wo.heap.size t KA cK) := Lib.hid (by rw [← hq9]; exact Z0.out)
                        clear hq9
                        go_wp2_with (first
                          | (go_at_call 16; refine (par_fall0 Z8.out (stab_sb _ _ _ _ _ _)).mono ?_; rintro e z3 ⟨rfl, h⟩; have Z9 := Lib.hid h; clear h))
                        go_roundw
                        case rel => exact ⟨k + 1, _, _, by omega, by go_num, Par.dropR Z9.out, HEND.out⟩
                        case measure => simp [intOf]; omega
                · go_wp2_with (first
                    | (go_at_call 18; have X := PA; clear X; refine (par_dox PA.out (stab_sb _ _ _ _ _ _) t KA cK HFT.out (HGK.out _ PA.out.below) HX.out).mono ?_; rintro e u2 ⟨rfl, h⟩; have PB : Hid (LP W u2 v1.heap.size x.2 v3.heap.size sf wo.heap.size t KA cK) := Lib.hid h; obtain ⟨b0, b1, b2, b3, b4, b5⟩ := PB.out.act; clear h)
                    | (go_at_call 20; refine (par_down PA0.out).mono ?_; rintro e u1 ⟨rfl, hq⟩; have PA : Hid (LP W u1 v1.heap.size D v3.heap.size sf wo.heap.size t KA cK) := Lib.hid (hq ▸ PA0.out); obtain ⟨b0, b1, b2, b3, b4, b5⟩ := PA.out.act; clear hq)
                    | (go_at_call 13; refine (PK _).mono ?_; rintro e u3 ⟨rfl, rfl⟩))
                  have PD := Lib.hid (fun j => PB.out.drew j)
                  go_quiet (fail)
                  go_wp2
                  go_roundw
                  case rel => exact ⟨k + 1, x.2, sf, by omega, by go_num, Par.dropR (PD.out _), HINV.out⟩
                  case measure => simp [intOf]; omega
            · have q4 : (t.d % 11 == 4) = false := by simpa using p4
              have HINV : Hid (Inv sf x.2) := Lib.hid (by rw [hx]; exact inv_step HI.out (by rw [← hx]; omega))
              have z9 : True := trivial
              clear hx
              cases hd : D.down
              · cases hd2 : x.2.down
                · go_wp2_with (first
                    | (go_at_call 18; have X := PA; clear X; refine (par_dox PA.out (stab_sb _ _ _ _ _ _) t KA cK HFT.out (HGK.out _ PA.out.below) HX.out).mono ?_; rintro e u2 ⟨rfl, h⟩; have PB : Hid (LP W u2 v1.heap.size x.2 v3.heap.size sf wo.heap.size t KA cK) := Lib.hid h; obtain ⟨b0, b1, b2, b3, b4, b5⟩ := PB.out.act; clear h)
                    | (go_at_call 20; refine (par_down PA0.out).mono ?_; rintro e u1 ⟨rfl, hq⟩; have PA : Hid (LP W u1 v1.heap.size D v3.heap.size sf wo.heap.size t KA cK) := Lib.hid (hq ▸ PA0.out); obtain ⟨b0, b1, b2, b3, b4, b5⟩ := PA.out.act; clear hq)
                    | (go_at_call 13; refine (PK _).mono ?_; rintro e u3 ⟨rfl, rfl⟩))
                  have PD := Lib.hid (fun j => PB.out.drew j)
                  go_quiet (fail)
                  go_wp2_with (first
                    | (go_at_call 20; refine (par_down (PD.out _)).mono ?_; rintro e u7 ⟨rfl, hq⟩; have PZ := Lib.hid (hq ▸ (PD.out _)); clear hq))
                  go_roundw
                  case rel => exact ⟨k + 1, x.2, sf, by omega, by go_num, Par.dropR PZ.out, HINV.out⟩
                  case measure => simp [intOf]; omega
                · obtain ⟨E, hE⟩ : ∃ E, E = x.2.start := ⟨_, rfl⟩
                  have hrest : ∀ f, (E.fs f).2 = [] := fun f => by rw [hE]; exact HREST.out hd hd2 f
                  have hall : ∀ f, E.all f = (E.fs f).1 := fun f => by unfold Dk.all; rw [hrest, List.append_nil]
                  have HSF : Hid (∀ f, f < 8 → sf f <+: E.all f) := Lib.hid (fun f hf => by rw [hall, hE]; exact HINV.out f hf)
                  have hEd : E.down = false := by rw [hE]; rfl
                  have HRD : Hid (∀ q, q < 8 → E.read ((q : Nat) : Int) = (E.all q, 0)) := Lib.hid (fun q hq => by simp [Dk.read, hEd, isF_nat hq])
                  have HEND : Hid (Inv (fun f => if f < 8 then E.all f else sf f) (E.fall (kf []))) := Lib.hid (fun f hf => by
                    simp only [hf, if_true]
                    rw [hall]
                    simp [Dk.fall, hEd, Dk.crash])
                  have ST : Hid (∀ w, LP W w v1.heap.size x.2 v3.heap.size sf wo.heap.size t KA cK → Calls Try.prog 24 #[.pointer (some ⟨v1.heap.size, 0, none⟩)] w fun e w' => e = .returned (.tuple #[]) ∧ LP W w' v1.heap.size E v3.heap.size sf wo.heap.size t KA cK) := Lib.hid (fun w h => by rw [hE]; exact par_start h (stab_sb _ _ _ _ _ _))
                  clear hE hrest hall hEd
                  go_wp2_with (first
                    | (go_at_call 18; have X := PA; clear X; refine (par_dox PA.out (stab_sb _ _ _ _ _ _) t KA cK HFT.out (HGK.out _ PA.out.below) HX.out).mono ?_; rintro e u2 ⟨rfl, h⟩; have PB : Hid (LP W u2 v1.heap.size x.2 v3.heap.size sf wo.heap.size t KA cK) := Lib.hid h; obtain ⟨b0, b1, b2, b3, b4, b5⟩ := PB.out.act; clear h)
                    | (go_at_call 20; refine (par_down PA0.out).mono ?_; rintro e u1 ⟨rfl, hq⟩; have PA : Hid (LP W u1 v1.heap.size D v3.heap.size sf wo.heap.size t KA cK) := Lib.hid (hq ▸ PA0.out); obtain ⟨b0, b1, b2, b3, b4, b5⟩ := PA.out.act; clear hq)
                    | (go_at_call 13; refine (PK _).mono ?_; rintro e u3 ⟨rfl, rfl⟩))
                  have PD := Lib.hid (fun j => PB.out.drew j)
                  go_quiet (fail)
                  go_wp2_with (first
                    | (go_at_call 24; have X := PZ; clear X; refine (ST.out _ PZ.out).mono ?_; rintro e u8 ⟨rfl, h⟩; have PE := Lib.hid h; clear h)
                    | (go_at_call 20; refine (par_down (PD.out _)).mono ?_; rintro e u7 ⟨rfl, hq⟩; have PZ : Hid (LP W u7 v1.heap.size x.2 v3.heap.size sf wo.heap.size t KA cK) := Lib.hid (hq ▸ (PD.out _)); clear hq))
                  go_loopw [16] (fun i wz => ∃ q : Nat, q ≤ 8 ∧ i = .int .i64 (q : Int) ∧ LP W wz v1.heap.size E v3.heap.size (fun f => if f < q then E.all f else sf f) wo.heap.size t KA cK) (fun i _ => 8 - (intOf i).toNat)
                  case atStart => exact ⟨0, by omega, rfl, PE.out.congr (fun f _ => by simp)⟩
                  case round =>
                    obtain ⟨q, hq, rfl, hZ⟩ := hrel
                    have Z0 := Lib.hid hZ
                    clear hZ
                    by_cases hq8 : q < 8
                    · have m1 : decide ((q : Int) < 8) = true := by simp; omega
                      have m2 : (q : Int) < 8 := by omega
                      obtain ⟨y, hy⟩ : ∃ y, y = E.all q := ⟨_, rfl⟩
                      obtain ⟨v, hv⟩ : ∃ v, v = sf q := ⟨_, rfl⟩
                      have s0 := Z0.out.safe hq8
                      have s1 := Z0.out.fro q
                      simp only [Nat.lt_irrefl, if_false] at s0
                      rw [← hv] at s0
                      have R1 := par_read Z0.out (q : Int)
                      rw [HRD.out q hq8, ← hy] at R1
                      have R1 := Lib.hid R1
                      have R2 := Lib.hid (fun w => begins_any y v w (by rw [hy, hv]; exact HSF.out q hq8))
                      have HZ : Hid (∀ w, LP W w v1.heap.size E v3.heap.size (fun f => if f < q then E.all f else sf f) wo.heap.size t KA cK → LP W (w.setCell ⟨v3.heap.size, q, none⟩ (.string (mk y))) v1.heap.size E v3.heap.size (fun f => if f < q + 1 then E.all f else sf f) wo.heap.size t KA cK) := Lib.hid (fun w h => (h.put hq8 y).congr (fun f _ => by
                        by_cases e : f = q
                        · subst e; rw [upd_same, hy]; simp
                        · rw [upd_other _ _ e]
                          by_cases e2 : f < q
                          · simp [e2, show f < q + 1 by omega]
                          · simp [e2, show ¬ f < q + 1 by omega]))
                      clear hy hv
                      go_wp2_with (first
                        | (go_at_call 28; refine (R2.out _).mono ?_; rintro e z2 ⟨rfl, rfl⟩)
                        | (go_at_call 26; refine (R1.out).mono ?_; rintro e z1 ⟨rfl, rfl⟩))
                      go_roundw
                      case rel => exact ⟨q + 1, by omega, by go_num, HZ.out _ Z0.out⟩
                      case measure => simp [intOf]; omega
                    · have m1 : decide ((q : Int) < 8) = false := by simp; omega
                      have m2 : decide (q < 8) = false := by simp; omega
                      have hq9 : q = 8 := by omega
                      have Z8 : Hid (LP W wr v1.heap.size E v3.heap.size (fun f => if f < 8 then E.all f else sf f) wo.heap.size t KA cK) := Lib.hid (by rw [← hq9]; exact Z0.out)
                      clear hq9
                      go_wp2_with (first
                        | (go_at_call 16; refine (par_fall0 Z8.out (stab_sb _ _ _ _ _ _)).mono ?_; rintro e z3 ⟨rfl, h⟩; have Z9 := Lib.hid h; clear h))
                      go_roundw
                      case rel => exact ⟨k + 1, _, _, by omega, by go_num, Par.dropR Z9.out, HEND.out⟩
                      case measure => simp [intOf]; omega
              · go_wp2_with (first
                  | (go_at_call 18; have X := PA; clear X; refine (par_dox PA.out (stab_sb _ _ _ _ _ _) t KA cK HFT.out (HGK.out _ PA.out.below) HX.out).mono ?_; rintro e u2 ⟨rfl, h⟩; have PB : Hid (LP W u2 v1.heap.size x.2 v3.heap.size sf wo.heap.size t KA cK) := Lib.hid h; obtain ⟨b0, b1, b2, b3, b4, b5⟩ := PB.out.act; clear h)
                  | (go_at_call 20; refine (par_down PA0.out).mono ?_; rintro e u1 ⟨rfl, hq⟩; have PA : Hid (LP W u1 v1.heap.size D v3.heap.size sf wo.heap.size t KA cK) := Lib.hid (hq ▸ PA0.out); obtain ⟨b0, b1, b2, b3, b4, b5⟩ := PA.out.act; clear hq)
                  | (go_at_call 13; refine (PK _).mono ?_; rintro e u3 ⟨rfl, rfl⟩))
                have PD := Lib.hid (fun j => PB.out.drew j)
                go_quiet (fail)
                go_wp2
                go_roundw
                case rel => exact ⟨k + 1, x.2, sf, by omega, by go_num, Par.dropR (PD.out _), HINV.out⟩
                case measure => simp [intOf]; omega
      · have j1 : decide ((k : Int) < (l.length : Int)) = false := by simp; omega
        have j2 : decide (k < l.length) = false := by simp; omega
        obtain ⟨E, hE⟩ : ∃ E, E = (D.arm 0 (kf [])).start := ⟨_, rfl⟩
        have hEd : E.down = false := by rw [hE]; rfl
        have hEs : ∀ f, f < 8 → sf f <+: (E.fs f).1 := fun f hf => by rw [hE]; exact HI.out f hf
        have HRD : Hid (∀ q, q < 8 → E.read ((q : Nat) : Int) = (E.all q, 0)) := Lib.hid (fun q hq => by simp [Dk.read, hEd, isF_nat hq])
        obtain ⟨G, hG⟩ : ∃ G, G = (E.fall (kf ks)).start := ⟨_, rfl⟩
        have hGd : G.down = false := by rw [hG]; rfl
        have hGa : ∀ f, G.all f = (E.fs f).1 ++ (E.fs f).2.take (kf ks f).toNat := fun f => by rw [hG]; simp [Dk.fall, hEd, Dk.crash, Dk.start, Dk.all]
        have HRG : Hid (∀ q, q < 8 → G.read ((q : Nat) : Int) = (G.all q, 0)) := Lib.hid (fun q hq => by simp [Dk.read, hGd, isF_nat hq])
        have HP1 : Hid (∀ f, f < 8 → sf f <+: G.all f) := Lib.hid (fun f hf => by rw [hGa]; exact (hEs f hf).trans (List.prefix_append _ _))
        have HP2 : Hid (∀ f, f < 8 → G.all f <+: E.all f) := Lib.hid (fun f hf => by rw [hGa]; exact (List.prefix_append_right_inj _).2 (List.take_prefix _ _))
        have ST1 : Hid (∀ w, Par W w (HasP v1.heap.size (D.arm 0 (kf []))) (BlkP v3.heap.size 9 (safeC sf)) → Calls Try.prog 24 #[.pointer (some ⟨v1.heap.size, 0, none⟩)] w fun e w' => e = .returned (.tuple #[]) ∧ Par W w' (HasP v1.heap.size E) (BlkP v3.heap.size 9 (safeC sf))) := Lib.hid (fun w h => by rw [hE]; exact par_start h (stab_blk _ _ _))
        have ST2 : Hid (∀ w wb wf, Par W w (HasP v1.heap.size (E.fall (kf ks))) (Both (BlkP v3.heap.size 9 (safeC sf)) (BlkP wb 9 (safeC wf))) → Calls Try.prog 24 #[.pointer (some ⟨v1.heap.size, 0, none⟩)] w fun e w' => e = .returned (.tuple #[]) ∧ Par W w' (HasP v1.heap.size G) (Both (BlkP v3.heap.size 9 (safeC sf)) (BlkP wb 9 (safeC wf)))) := Lib.hid (fun w wb wf h => by rw [hG]; exact par_start h (stab_both (stab_blk _ _ _) (stab_blk _ _ _)))
        clear hE hEd hEs hG hGd hGa hb
        go_wp2_with (first
          | (go_at_call 24; have X := Q1; clear X; refine (ST1.out _ Q1.out).mono ?_; rintro e q2 ⟨rfl, h⟩; have Q2 := Lib.hid h; clear h)
          | (go_at_call 29; refine (par_arm0 P1.out (stab_blk _ _ _)).mono ?_; rintro e q1 ⟨rfl, h⟩; have Q1 := Lib.hid h; clear h))
        have Q3 := Lib.hid (Q2.out.withBlk (stab_has _ _) (stab_blk _ _ _) 9 (safeC (fun _ => [])))
        go_loopw [20] (fun i wz => ∃ q : Nat, q ≤ 8 ∧ i = .int .i64 (q : Int) ∧ Par W wz (HasP v1.heap.size E) (Both (BlkP v3.heap.size 9 (safeC sf)) (BlkP q2.heap.size 9 (safeC (fun f => if f < q then E.all f else []))))) (fun i _ => 8 - (intOf i).toNat)
        case atStart => exact ⟨0, by omega, rfl, by simpa using Q3.out⟩
        case round =>
          obtain ⟨q, hq, rfl, hZ⟩ := hrel
          have Z0 := Lib.hid hZ
          clear hZ
          by_cases hq8 : q < 8
          · have m1 : decide ((q : Int) < 8) = true := by simp; omega
            have m2 : (q : Int) < 8 := by omega
            obtain ⟨y, hy⟩ : ∃ y, y = E.all q := ⟨_, rfl⟩
            have s0 := (Z0.out.isR.at_ q).trans (safeC_at _ hq8)
            simp only [Nat.lt_irrefl, if_false] at s0
            have s1 := Z0.out.isR.open_ q
            have R1 := par_read Z0.out (q : Int)
            rw [HRD.out q hq8, ← hy] at R1
            have R1 := Lib.hid R1
            have HZ : Hid (∀ w, Par W w (HasP v1.heap.size E) (Both (BlkP v3.heap.size 9 (safeC sf)) (BlkP q2.heap.size 9 (safeC (fun f => if f < q then E.all f else [])))) → Par W (w.setCell ⟨q2.heap.size, q, none⟩ (.string (mk y))) (HasP v1.heap.size E) (Both (BlkP v3.heap.size 9 (safeC sf)) (BlkP q2.heap.size 9 (safeC (fun f => if f < q + 1 then E.all f else []))))) := Lib.hid (fun w h => by
              have h2 := h.putR (stab_has _ _) (stab_blk _ _ _) q (.string (mk y))
              rw [safeC_set _ hq8 y] at h2
              have e : safeC (upd (fun f => if f < q then E.all f else []) q y) = safeC (fun f => if f < q + 1 then E.all f else []) := safeC_congr (fun f _ => by
                by_cases e : f = q
                · subst e; rw [upd_same, hy]; simp
                · rw [upd_other _ _ e]
                  by_cases e2 : f < q
                  · simp [e2, show f < q + 1 by omega]
                  · simp [e2, show ¬ f < q + 1 by omega])
              rw [← e]
              exact h2)
            clear hy
            go_wp2_with (first
              | (go_at_call 26; refine (R1.out).mono ?_; rintro e z1 ⟨rfl, rfl⟩))
            go_roundw
            case rel => exact ⟨q + 1, by omega, by go_num, HZ.out _ Z0.out⟩
            case measure => simp [intOf]; omega
          · have m1 : decide ((q : Int) < 8) = false := by simp; omega
            have m2 : decide (q < 8) = false := by simp; omega
            have hq9 : q = 8 := by omega
            have Z8 : Hid (Par W wr (HasP v1.heap.size E) (Both (BlkP v3.heap.size 9 (safeC sf)) (BlkP q2.heap.size 9 (safeC (fun f => if f < 8 then E.all f else []))))) := Lib.hid (by rw [← hq9]; exact Z0.out)
            clear hq9
            go_wp2_with (first
              | (go_at_call 24; have X := Y1; clear X; refine (ST2.out _ _ _ Y1.out).mono ?_; rintro e y2 ⟨rfl, h⟩; have Y2 := Lib.hid h; clear h)
              | (go_at_call 16; refine (par_fall Z8.out (stab_both (stab_blk _ _ _) (stab_blk _ _ _)) A1 c1 ks (HK1.out.below Z8.out.below).row.at_).mono ?_; rintro e y1 ⟨rfl, h⟩; have Y1 := Lib.hid h; clear h))
            go_loopw [23] (fun i wy => ∃ q : Nat, q ≤ 8 ∧ i = .int .i64 (q : Int) ∧ Par W wy (HasP v1.heap.size G) (Both (BlkP v3.heap.size 9 (safeC sf)) (BlkP q2.heap.size 9 (safeC (fun f => if f < 8 then E.all f else []))))) (fun i _ => 8 - (intOf i).toNat)
            case atStart => exact ⟨0, by omega, rfl, Y2.out⟩
            case round =>
              obtain ⟨r, hr, rfl, hZ⟩ := hrel
              have T0 := Lib.hid hZ
              clear hZ
              by_cases hr8 : r < 8
              · have n1 : decide ((r : Int) < 8) = true := by simp; omega
                have n2 : (r : Int) < 8 := by omega
                have s0 := (T0.out.isL.at_ r).trans (safeC_at _ hr8)
                have s1 := (T0.out.isR.at_ r).trans (safeC_at _ hr8)
                simp only [hr8, if_true] at s1
                obtain ⟨y, hy⟩ : ∃ y, y = G.all r := ⟨_, rfl⟩
                obtain ⟨v, hv⟩ : ∃ v, v = sf r := ⟨_, rfl⟩
                obtain ⟨u, hu⟩ : ∃ u, u = E.all r := ⟨_, rfl⟩
                rw [← hv] at s0
                rw [← hu] at s1
                have R1 := par_read T0.out (r : Int)
                rw [HRG.out r hr8, ← hy] at R1
                have R1 := Lib.hid R1
                have B1 := Lib.hid (fun w => begins_any y v w (by rw [hy, hv]; exact HP1.out r hr8))
                have B2 := Lib.hid (fun w => begins_any u y w (by rw [hy, hu]; exact HP2.out r hr8))
                clear hy hv hu
                go_wp2_with (first
                  | (go_at_call 28; have X := MK; clear X; refine (B2.out _).mono ?_; rintro e z2 ⟨rfl, rfl⟩)
                  | (go_at_call 28; refine (B1.out _).mono ?_; rintro e z2 ⟨rfl, rfl⟩; have MK := Lib.hid trivial)
                  | (go_at_call 26; refine (R1.out).mono ?_; rintro e z1 ⟨rfl, rfl⟩))
                go_roundw
                case rel => exact ⟨r + 1, by omega, by go_num, T0.out⟩
                case measure => simp [intOf]; omega
              · have n1 : decide ((r : Int) < 8) = false := by simp; omega
                have n2 : decide (r < 8) = false := by simp; omega
                go_wp2
                go_ret
                exact ⟨rfl, T0.out.below⟩
end Go.Proofs.Ytokoccffkogamaa
