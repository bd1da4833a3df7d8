/-
  A log on a disk on which nothing fails: what each call makes of its file.
-/
import Derived.Test.YtgamkahbebnnaaaDoorD5WPar
namespace Go.Proofs.YtgamkahbebnnaaaDoor.D5
open Go.RowKit WalPlain
set_option maxRecDepth 40000
/-- Nothing fails on D, and its file f holds x, durable, and y. -/
structure Cl (D : Dk) (f : Nat) (x y : Bs) : Prop where
  calm : Calm D
  fs : D.fs f = (x, y)
theorem Cl.else {D E : Dk} {f g : Nat} {x y x' y' : Bs} (h : Cl D g x y) (hE : Cl E f x' y') (he : Else f D E) (h1 : g ≠ f) (h2 : g ≠ f + 1) : Cl E g x y := ⟨hE.calm, by rw [he g h1 h2]; exact h.fs⟩
theorem whole6 (l : List Bs) (hl : ∀ s ∈ l, small20 s) : Valid small20 rec6 (flat rec6 l) l := Form.whole (rec_form crcN) hl
section
variable {W w : World} {b c : Nat} {f : Int} {D : Dk} {R : List Bs} {Q : World → (Nat → Prop) → Prop} {x y : Bs}
theorem st_open (h : Par W w (HasP b D) Q) (hQ : Stab Q) (hC : Calm D) (hT : S3.Tabs W) (h0 : 0 ≤ f) (h7 : f < 7) (now : List Bs) (hv : Valid small20 rec6 (D.all f.toNat) now) :
    Calls Tryd.prog 10 #[.pointer (some ⟨b, 0, none⟩), .int .i64 f] w fun e w' => ∃ c D', e = .returned (.tuple #[.pointer (some ⟨c, 0, none⟩), .int .i64 0]) ∧ Cl D' f.toNat (flat rec6 now) [] ∧ Else f.toNat D D' ∧ Par W w' (DL b c f D' now) Q := by
  have hl := hv.part.length_le
  rw [Dk.all_length] at hl
  obtain ⟨k1, k2, k3, k4, k5⟩ := hC.open h0 h7 (flat rec6 now).length hl
  have e : (D.all f.toNat).take (flat rec6 now).length = flat rec6 now := (List.prefix_iff_eq_take.1 hv.part).symm
  rw [e] at k3
  exact (dl_open h hQ hC hT h0 h7 now hv).mono fun e w' ⟨c, e1, hp⟩ => ⟨c, _, e1, ⟨k2, k3⟩, k5, hp⟩
theorem st_append (h : Par W w (DL b c f D R) Q) (hQ : Stab Q) (hc : Cl D f.toNat x y) (hT : S3.Tabs W) (h0 : 0 ≤ f) (h7 : f < 7) (s : Bs) (hs : small20 s) (hR : R.length < 16777216) (hroom : x.length + y.length + (rec6 s).length ≤ 16777216) :
    Calls Tryd.prog 11 #[.pointer (some ⟨c, 0, none⟩), .string (mk s)] w fun e w' => ∃ D', e = .returned (.int .i64 0) ∧ Cl D' f.toNat x (y ++ rec6 s) ∧ Else f.toNat D D' ∧ Par W w' (DL b c f D' (R ++ [s])) Q := by
  have e1 := hc.calm.app h0 (show f < 8 by omega) (s := rec6 s) (by unfold Dk.len; rw [hc.fs]; exact hroom)
  refine (dl_append h hQ hT s hs hR).mono fun e w' ⟨g1, g2⟩ => ?_
  rw [e1] at g1 g2
  refine ⟨_, g1, ⟨hc.calm.set _ _, ?_⟩, fun i i1 i2 => ?_, g2⟩
  · simp only [Dk.set, upd_same, hc.fs]
  · simp only [Dk.set]; exact upd_other _ _ i1
theorem st_flush (h : Par W w (DL b c f D R) Q) (hQ : Stab Q) (hc : Cl D f.toNat x y) (h0 : 0 ≤ f) (h7 : f < 7) :
    Calls Tryd.prog 12 #[.pointer (some ⟨c, 0, none⟩)] w fun e w' => ∃ D', e = .returned (.int .i64 0) ∧ Cl D' f.toNat (x ++ y) [] ∧ Else f.toNat D D' ∧ Par W w' (DL b c f D' R) Q := by
  have e1 := hc.calm.flush h0 (show f < 8 by omega)
  refine (dl_flush h hQ).mono fun e w' ⟨g1, g2⟩ => ?_
  rw [e1] at g1 g2
  refine ⟨_, g1, ⟨hc.calm.set _ _, ?_⟩, fun i i1 i2 => ?_, g2⟩
  · simp only [Dk.set, upd_same, Dk.all, hc.fs]
  · simp only [Dk.set]; exact upd_other _ _ i1
theorem st_rewrite (h : Par W w (DL b c f D R) Q) (hQ : Stab Q) (hC : Calm D) (hT : S3.Tabs W) (N : List Bs) (A : Option Addr) (cap : Nat) (h0 : 0 ≤ f) (h7 : f < 7) (hr : Row w W.heap.size A (strs N)) (hA : A = none → N.length = 0) (hN : ∀ s ∈ N, small20 s) (hb : (flat rec6 N).length ≤ 16777216) (hlen : N.length ≤ 16777216) :
    Calls Tryd.prog 14 #[.pointer (some ⟨c, 0, none⟩), .slice A N.length cap] w fun e w' => ∃ D', e = .returned (.int .i64 0) ∧ Cl D' f.toNat (flat rec6 N) [] ∧ D'.len (f.toNat + 1) = 0 ∧ Else f.toNat D D' ∧ Par W w' (DL b c f D' N) Q := by
  obtain ⟨k1, k2, k3, k4, k5⟩ := hC.rew h0 h7 (flat rec6 N) hb
  refine (dl_rewrite h hQ hT N A cap h0 h7 hr hA hN hb hlen).mono fun e w' ⟨g1, g2⟩ => ?_
  rw [k1] at g1
  rw [if_pos k1] at g2
  exact ⟨_, g1, ⟨k2, k3⟩, k4, k5, g2⟩
theorem st_rewrite_own (A : Option Addr) (cap : Nat) (N : List Bs) (h : Par W w (DL b c f D R) (Both Q (SlP (.slice A N.length cap) N))) (hQ : Stab Q) (hC : Calm D) (hT : S3.Tabs W) (h0 : 0 ≤ f) (h7 : f < 7) (hA : A = none → N.length = 0) (hN : ∀ s ∈ N, small20 s) (hb : (flat rec6 N).length ≤ 16777216) (hlen : N.length ≤ 16777216) :
    Calls Tryd.prog 14 #[.pointer (some ⟨c, 0, none⟩), .slice A N.length cap] w fun e w' => ∃ D', e = .returned (.int .i64 0) ∧ Cl D' f.toNat (flat rec6 N) [] ∧ D'.len (f.toNat + 1) = 0 ∧ Else f.toNat D D' ∧ Par W w' (DL b c f D' N) (Both Q (SlP (.slice A N.length cap) N)) := by
  obtain ⟨k1, k2, k3, k4, k5⟩ := hC.rew h0 h7 (flat rec6 N) hb
  refine (dl_rewrite_own A cap N h hQ hT h0 h7 hA hN hb hlen).mono fun e w' ⟨g1, g2⟩ => ?_
  rw [k1] at g1
  rw [if_pos k1] at g2
  exact ⟨_, g1, ⟨k2, k3⟩, k4, k5, g2⟩
/-- A fall that keeps nothing, then a start. -/
theorem Cl.fall_all (hc : Cl D f.toNat x y) : (D.fall (kf [])).down = true ∧ (D.fall (kf [])).left = 0 ∧ (D.fall (kf [])).lost = 0 ∧ (D.fall (kf [])).fs f.toNat = (x, []) := by
  have hu := hc.calm.up
  unfold Dk.fall
  rw [if_neg (by simp [hu])]
  refine ⟨rfl, rfl, hc.calm.lost, ?_⟩
  simp [Dk.crash, hc.fs, kf]
theorem st_fall (h : Par W w (DL b c f D R) Q) (hQ : Stab Q) (hc : Cl D f.toNat x y) :
    Calls Tryd.prog 19 #[.pointer (some ⟨b, 0, none⟩), .slice none 0 0] w fun e w' => ∃ D', e = .returned (.tuple #[]) ∧ (D'.down = true ∧ D'.left = 0 ∧ D'.lost = 0 ∧ D'.fs f.toNat = (x, [])) ∧ Par W w' (DL b c f D' R) Q :=
  (dl_fall0 h hQ).mono fun _ _ ⟨g1, g2⟩ => ⟨_, g1, hc.fall_all, g2⟩
theorem st_append_down (h : Par W w (DL b c f D R) Q) (hQ : Stab Q) (hd : D.down = true ∧ D.left = 0 ∧ D.lost = 0 ∧ D.fs f.toNat = (x, [])) (hT : S3.Tabs W) (s : Bs) (hs : small20 s) (hR : R.length < 16777216) :
    Calls Tryd.prog 11 #[.pointer (some ⟨c, 0, none⟩), .string (mk s)] w fun e w' => e = .returned (.int .i64 12) ∧ Par W w' (DL b c f D R) Q := by
  have e1 : D.app f (rec6 s) = (12, D) := by
    have e2 : D.add f (rec6 s) = (12, D) := by unfold Dk.add; rw [if_pos hd.1]
    have e3 : D.enter = (12, D) := by unfold Dk.enter; rw [if_pos hd.1]
    unfold Dk.app; rw [e2]; simp [e3]
  refine (dl_append h hQ hT s hs hR).mono fun e w' ⟨g1, g2⟩ => ?_
  rw [e1] at g1 g2
  exact ⟨g1, g2⟩
theorem st_start (h : Par W w (DL b c f D R) Q) (hQ : Stab Q) (hd : D.down = true ∧ D.left = 0 ∧ D.lost = 0 ∧ D.fs f.toNat = (x, [])) :
    Calls Tryd.prog 28 #[.pointer (some ⟨b, 0, none⟩)] w fun e w' => ∃ D', e = .returned (.tuple #[]) ∧ Cl D' f.toNat x [] ∧ Par W w' (DL b c f D' R) Q :=
  (dl_start h hQ).mono fun _ _ ⟨g1, g2⟩ => ⟨D.start, g1, ⟨⟨rfl, hd.2.1, hd.2.2.1⟩, hd.2.2.2⟩, g2⟩
theorem dl_only (h : Par W w (DL b c f D R) Q) : Par W w (HasP b D) Q := h.dropL fun w G hh => both_left (P := HasP b D) (Q := LgP c b f R) w G hh
end
theorem calm_new : Calm Dk.new := ⟨rfl, rfl, rfl⟩
/-- A new disk beside nothing. -/
theorem st_new (W w : World) (hb : Below W.heap.size W w) : Calls Tryd.prog 8 #[] w fun e w' => ∃ b, e = .returned (.pointer (some ⟨b, 0, none⟩)) ∧ Par W w' (HasP b Dk.new) Non :=
  (new_own W w hb).mono fun _ _ ⟨e1, F, h1, h2, h3⟩ => ⟨_, e1, F, fun _ => False, h1, fun _ h => h, fun _ _ h => h, h2, fun _ h => h.elim, h3⟩
theorem valid_nil : Valid small20 rec6 [] [] := whole6 [] (by simp)
end Go.Proofs.YtgamkahbebnnaaaDoor.D5
