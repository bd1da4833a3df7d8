/-
  Two machines beside each other.
-/
import Derived.Test.YtgamkahbebnnaaaDoorD5Own
namespace Go.Proofs.YtgamkahbebnnaaaDoor.D5
open Go.RowKit
/-- What stays where other blocks turn. -/
structure Stab (P : World → (Nat → Prop) → Prop) : Prop where
  kept : ∀ (w w' : World) (F G : Nat → Prop), P w F → Fr G w w' → (∀ k, F k → ¬ G k) → P w' F
  lt : ∀ (w : World) (F : Nat → Prop), P w F → ∀ k, F k → k < w.heap.size
abbrev HasP (b : Nat) (D : Dk) : World → (Nat → Prop) → Prop := fun w F => Has w b F D
theorem stab_has (b : Nat) (D : Dk) : Stab (HasP b D) := ⟨fun _ _ _ _ h hf hd => Has.kept h hf hd, fun _ _ h => Has.lt h⟩
def Par (W w : World) (P Q : World → (Nat → Prop) → Prop) : Prop := ∃ F G, P w F ∧ Q w G ∧ (∀ k, F k → ¬ G k) ∧ (∀ k, F k → W.heap.size ≤ k) ∧ (∀ k, G k → W.heap.size ≤ k) ∧ Below W.heap.size W w
section
variable {W w : World} {P P' Q : World → (Nat → Prop) → Prop}
theorem Par.symm (h : Par W w P Q) : Par W w Q P := by
  obtain ⟨F, G, h1, h2, h3, h4, h5, h6⟩ := h
  exact ⟨G, F, h2, h1, fun k hg hf => h3 k hf hg, h5, h4, h6⟩
theorem Par.below (h : Par W w P Q) : Below W.heap.size W w := by
  obtain ⟨F, G, h1, h2, h3, h4, h5, h6⟩ := h
  exact h6
theorem Par.lift (h : Par W w P Q) (hQ : Stab Q) {f : FuncId} {args : Array Value} {v : Ending} (c : ∀ F, P w F → (∀ k, F k → W.heap.size ≤ k) → Calls Tryd.prog f args w fun e w' => e = v ∧ ∃ F', P' w' F' ∧ (∀ k, F' k → F k ∨ w.heap.size ≤ k) ∧ Fr F w w') :
    Calls Tryd.prog f args w fun e w' => e = v ∧ Par W w' P' Q := by
  obtain ⟨F, G, h1, h2, h3, h4, h5, h6⟩ := h
  refine (c F h1 h4).mono fun e w' hh => ⟨hh.1, ?_⟩
  obtain ⟨F', g1, g2, g3⟩ := hh.2
  refine ⟨F', G, g1, hQ.kept w w' G F h2 g3 (fun k hg hf => h3 k hf hg), fun k hf hg => ?_, fun k hf => ?_, h5, h6.trans (g3.below h4 h6.size)⟩
  · rcases g2 k hf with h | h
    · exact h3 k h hg
    · have := hQ.lt w G h2 k hg; omega
  · rcases g2 k hf with h | h
    · exact h4 k h
    · exact Nat.le_trans h6.size h
theorem Par.look (h : Par W w P Q) {f : FuncId} {args : Array Value} {v : Ending} (c : ∀ F, P w F → Calls Tryd.prog f args w fun e w' => e = v ∧ w' = w) : Calls Tryd.prog f args w fun e w' => e = v ∧ w' = w := by
  obtain ⟨F, G, h1, _⟩ := h
  exact c F h1
end
section
variable {W w : World} {b : Nat} {D : Dk} {Q : World → (Nat → Prop) → Prop}
theorem Par.own (h : Par W w (HasP b D) Q) : Own W w b D := by
  obtain ⟨F, G, h1, h2, h3, h4, h5, h6⟩ := h
  exact ⟨F, h1, h4, h6⟩
theorem par_app (h : Par W w (HasP b D) Q) (hQ : Stab Q) (f : Int) (s : ByteArray) : Calls Tryd.prog 24 #[.pointer (some ⟨b, 0, none⟩), .int .i64 f, .string s] w fun e w' => e = .returned (.int .i64 ((D.app f (ls s)).1 : Nat)) ∧ Par W w' (HasP b (D.app f (ls s)).2) Q := h.lift hQ fun F h _ => app_any b D F f s w h
theorem par_flush (h : Par W w (HasP b D) Q) (hQ : Stab Q) (f : Int) : Calls Tryd.prog 32 #[.pointer (some ⟨b, 0, none⟩), .int .i64 f] w fun e w' => e = .returned (.int .i64 ((D.flush f).1 : Nat)) ∧ Par W w' (HasP b (D.flush f).2) Q := h.lift hQ fun F h _ => flush_any b D F f w h
theorem par_cut (h : Par W w (HasP b D) Q) (hQ : Stab Q) (f n : Int) : Calls Tryd.prog 30 #[.pointer (some ⟨b, 0, none⟩), .int .i64 f, .int .i64 n] w fun e w' => e = .returned (.int .i64 ((D.cut f n).1 : Nat)) ∧ Par W w' (HasP b (D.cut f n).2) Q := h.lift hQ fun F h _ => cut_any b D F f n w h
theorem par_turn (h : Par W w (HasP b D) Q) (hQ : Stab Q) (f g : Int) : Calls Tryd.prog 39 #[.pointer (some ⟨b, 0, none⟩), .int .i64 f, .int .i64 g] w fun e w' => e = .returned (.int .i64 ((D.turn f g).1 : Nat)) ∧ Par W w' (HasP b (D.turn f g).2) Q := h.lift hQ fun F h _ => turn_any b D F f g w h
theorem par_start (h : Par W w (HasP b D) Q) (hQ : Stab Q) : Calls Tryd.prog 28 #[.pointer (some ⟨b, 0, none⟩)] w fun e w' => e = .returned (.tuple #[]) ∧ Par W w' (HasP b D.start) Q := h.lift hQ fun F h _ => (start_any b D F w h).mono fun _ _ hh => ⟨hh.1, Step.same hh.2.1 hh.2.2⟩
theorem par_fall (h : Par W w (HasP b D) Q) (hQ : Stab Q) (A : Option Addr) (c : Nat) (xs : List Int) (hr : RowAt w A (ints xs)) : Calls Tryd.prog 19 #[.pointer (some ⟨b, 0, none⟩), .slice A xs.length c] w fun e w' => e = .returned (.tuple #[]) ∧ Par W w' (HasP b (D.fall (kf xs))) Q := h.lift hQ fun F h _ => fall_any b D F A c xs w h hr
theorem par_fall0 (h : Par W w (HasP b D) Q) (hQ : Stab Q) : Calls Tryd.prog 19 #[.pointer (some ⟨b, 0, none⟩), .slice none 0 0] w fun e w' => e = .returned (.tuple #[]) ∧ Par W w' (HasP b (D.fall (kf []))) Q := par_fall h hQ none 0 [] (RowAt.nil w none)
theorem par_read (h : Par W w (HasP b D) Q) (f : Int) : Calls Tryd.prog 26 #[.pointer (some ⟨b, 0, none⟩), .int .i64 f] w fun e w' => e = .returned (.tuple #[.string (mk (D.read f).1), .int .i64 ((D.read f).2 : Nat)]) ∧ w' = w := h.look fun F h => read_any b D F f w h
theorem par_down (h : Par W w (HasP b D) Q) : Calls Tryd.prog 17 #[.pointer (some ⟨b, 0, none⟩)] w fun e w' => e = .returned (.bool D.down) ∧ w' = w := h.look fun F h => down_any b D F w h
theorem par_size (h : Par W w (HasP b D) Q) (f : Int) : Calls Tryd.prog 25 #[.pointer (some ⟨b, 0, none⟩), .int .i64 f] w fun e w' => e = .returned (.int .i64 (D.size f : Nat)) ∧ w' = w := h.look fun F h => size_any b D F f w h
theorem Par.alloc {P : World → (Nat → Prop) → Prop} (h : Par W w P Q) (hP : Stab P) (hQ : Stab Q) (o : Obj) : Par W (w.alloc o) P Q := by
  obtain ⟨F, G, h1, h2, h3, h4, h5, h6⟩ := h
  exact ⟨F, G, hP.kept _ _ F (fun _ => False) h1 ((Fr.refl _ w).alloc o) (fun _ _ hh => hh), hQ.kept _ _ G (fun _ => False) h2 ((Fr.refl _ w).alloc o) (fun _ _ hh => hh), h3, h4, h5, h6.alloc h6.size o⟩
end
end Go.Proofs.YtgamkahbebnnaaaDoor.D5
