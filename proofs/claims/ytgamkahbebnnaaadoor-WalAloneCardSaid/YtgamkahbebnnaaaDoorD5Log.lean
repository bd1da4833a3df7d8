import Derived.Test.YtgamkahbebnnaaaDoorD5Math
import Derived.Test.YtgamkahbebnnaaaDoorPlain
/-! The log over a disk, as mathematics: what each call makes of the disk and of the payloads. -/
namespace Go.Proofs.YtgamkahbebnnaaaDoor.D5
open WalPlain

theorem isF_in {f : Int} (h : 0 ≤ f) (h2 : f < 8) : isF f = true := (isF_iff f).2 ⟨h, h2⟩

/-- One step behind another: only where the first went well. -/
def andD (x : Nat × Dk) (k : Dk → Nat × Dk) : Nat × Dk := if x.1 = 0 then k x.2 else x

def cut1 (D : Dk) (f : Int) (n : Nat) : Nat × Dk := if n < D.len f.toNat then D.cut f n else (0, D)
def cut2 (D : Dk) (g : Int) : Nat × Dk := if 0 < D.size g then D.cut g 0 else (0, D)

/-- The three steps of Open behind the reading; n is the length of the valid part. -/
def openD (D : Dk) (f : Int) (n : Nat) : Nat × Dk := andD (andD (cut1 D f n) fun E => cut2 E (f + 1)) fun E => E.flush f

/-- The four steps of Rewrite; b is the new contents. -/
def rewD (D : Dk) (f : Int) (b : List UInt8) : Nat × Dk :=
  andD (andD (andD (cut2 D (f + 1)) fun E => E.app (f + 1) b) fun E => E.flush (f + 1)) fun E => E.turn f (f + 1)

/-- A disk on which nothing fails. -/
structure Calm (D : Dk) : Prop where
  up : D.down = false
  left : D.left = 0
  lost : D.lost = 0

theorem Calm.enter {D : Dk} (h : Calm D) : D.enter = (0, D) := by
  unfold Dk.enter; rw [if_neg (by simp [h.up]), if_pos h.left]

theorem Calm.set {D : Dk} (h : Calm D) (f : Nat) (x : List UInt8 × List UInt8) : Calm (D.set f x) := ⟨h.up, h.left, h.lost⟩

theorem Calm.app {D : Dk} (h : Calm D) {f : Int} (h0 : 0 ≤ f) (h8 : f < 8) {s : List UInt8} (hs : D.len f.toNat + s.length ≤ 16777216) :
    D.app f s = (0, D.set f.toNat ((D.fs f.toNat).1, (D.fs f.toNat).2 ++ s)) := by
  have e : D.add f s = (0, D.set f.toNat ((D.fs f.toNat).1, (D.fs f.toNat).2 ++ s)) := by
    unfold Dk.add; rw [if_neg (by simp [h.up]), if_neg (by simp [isF_in h0 h8]), if_neg (by omega)]
  unfold Dk.app; rw [e, (h.set _ _).enter]; rfl

theorem Calm.flush {D : Dk} (h : Calm D) {f : Int} (h0 : 0 ≤ f) (h8 : f < 8) : D.flush f = (0, D.set f.toNat (D.all f.toNat, [])) := by
  unfold Dk.flush; rw [h.enter, if_pos rfl]
  unfold Dk.flushed; rw [if_neg (by simp [isF_in h0 h8]), if_neg (by simp [h.lost])]

theorem Calm.cut {D : Dk} (h : Calm D) {f n : Int} (h0 : 0 ≤ f) (h8 : f < 8) (hn : 0 ≤ n) (hl : n ≤ D.len f.toNat) : D.cut f n = (0, D.set f.toNat (Dk.took (D.fs f.toNat) n.toNat)) := by
  unfold Dk.cut; rw [h.enter, if_pos rfl]
  unfold Dk.cutted; rw [if_neg]
  rintro (h1 | h1 | h1)
  · rw [isF_in h0 h8] at h1; cases h1
  · omega
  · exact absurd (show (D.len f.toNat : Int) < n from h1) (by omega)

theorem Calm.turn {D : Dk} (h : Calm D) {f g : Int} (h0 : 0 ≤ f) (h8 : f < 8) (g0 : 0 ≤ g) (g8 : g < 8) (hn : f ≠ g) (hd : (D.fs g.toNat).2 = []) :
    D.turn f g = (0, (D.set f.toNat (D.fs g.toNat)).set g.toNat ([], [])) := by
  unfold Dk.turn; rw [h.enter, if_pos rfl]
  unfold Dk.turned; rw [if_neg (by simp [isF_in h0 h8, isF_in g0 g8, hn]), if_neg (by simp [hd])]

theorem took_cat (x : List UInt8 × List UInt8) (n : Nat) : (Dk.took x n).1 ++ (Dk.took x n).2 = (x.1 ++ x.2).take n := by
  unfold Dk.took; rw [List.take_append]

/-- Only the files f and f+1 turn. -/
def Else (f : Nat) (D E : Dk) : Prop := ∀ i, i ≠ f → i ≠ f + 1 → E.fs i = D.fs i

/-- Open on a calm disk: the valid part stands, durable; the file behind it is empty. -/
theorem Calm.open {D : Dk} (h : Calm D) {f : Int} (h0 : 0 ≤ f) (h7 : f < 7) (n : Nat) (hn : n ≤ D.len f.toNat) :
    (openD D f n).1 = 0 ∧ Calm (openD D f n).2 ∧ (openD D f n).2.fs f.toNat = ((D.all f.toNat).take n, []) ∧
    (openD D f n).2.len (f.toNat + 1) = 0 ∧ Else f.toNat D (openD D f n).2 := by
  have hg : (f + 1).toNat = f.toNat + 1 := by omega
  unfold openD
  have c1 : (cut1 D f n).1 = 0 ∧ Calm (cut1 D f n).2 ∧ (cut1 D f n).2.all f.toNat = (D.all f.toNat).take n ∧
      (cut1 D f n).2.fs (f.toNat + 1) = D.fs (f.toNat + 1) ∧ Else f.toNat D (cut1 D f n).2 := by
    unfold cut1
    split
    · rw [h.cut h0 (by omega) (by omega) (by omega)]
      refine ⟨rfl, h.set _ _, ?_, ?_, ?_⟩
      · simp only [Dk.all, Dk.set, upd_same, took_cat, Int.toNat_natCast]
      · simp only [Dk.set]; exact upd_other _ _ (by omega)
      · intro i h1 h2; simp only [Dk.set]; exact upd_other _ _ h1
    · refine ⟨rfl, h, ?_, rfl, fun i _ _ => rfl⟩
      rw [List.take_of_length_le]; rw [Dk.all_length]; omega
  generalize hx : cut1 D f n = X at c1
  obtain ⟨e1, k1, a1, b1, o1⟩ := c1
  unfold andD
  dsimp only
  rw [if_pos e1]
  have c2 : (cut2 X.2 (f + 1)).1 = 0 ∧ Calm (cut2 X.2 (f + 1)).2 ∧ (cut2 X.2 (f + 1)).2.fs f.toNat = X.2.fs f.toNat ∧
      (cut2 X.2 (f + 1)).2.len (f.toNat + 1) = 0 ∧ Else f.toNat X.2 (cut2 X.2 (f + 1)).2 := by
    unfold cut2
    split
    · rw [k1.cut (by omega) (by omega) (by omega) (by omega), hg]
      refine ⟨rfl, k1.set _ _, ?_, ?_, ?_⟩
      · simp only [Dk.set]; exact upd_other _ _ (by omega)
      · simp [Dk.len, Dk.set, upd_same, Dk.took]
      · intro i h1 h2; simp only [Dk.set]; exact upd_other _ _ h2
    · rename_i hz
      refine ⟨rfl, k1, rfl, ?_, fun i _ _ => rfl⟩
      show X.2.len (f.toNat + 1) = 0
      unfold Dk.size at hz
      rw [if_neg (by simp [isF_in (show (0:Int) ≤ f + 1 by omega) (show f + 1 < 8 by omega)]), hg] at hz
      omega
  generalize hy : cut2 X.2 (f + 1) = Y at c2
  obtain ⟨e2, k2, a2, b2, o2⟩ := c2
  rw [if_pos e2, k2.flush h0 (by omega)]
  refine ⟨rfl, k2.set _ _, ?_, ?_, ?_⟩
  · simp only [Dk.set, upd_same]
    unfold Dk.all at a1 ⊢
    rw [a2, a1]
  · simp only [Dk.len, Dk.set] at b2 ⊢; rw [upd_other _ _ (by omega)]; exact b2
  · intro i h1 h2; simp only [Dk.set]; rw [upd_other _ _ h1, o2 i h1 h2, o1 i h1 h2]

/-- Rewrite on a calm disk. -/
theorem Calm.rew {D : Dk} (h : Calm D) {f : Int} (h0 : 0 ≤ f) (h7 : f < 7) (b : List UInt8) (hb : b.length ≤ 16777216) :
    (rewD D f b).1 = 0 ∧ Calm (rewD D f b).2 ∧ (rewD D f b).2.fs f.toNat = (b, []) ∧
    (rewD D f b).2.len (f.toNat + 1) = 0 ∧ Else f.toNat D (rewD D f b).2 := by
  have hg : (f + 1).toNat = f.toNat + 1 := by omega
  unfold rewD
  have c2 : (cut2 D (f + 1)).1 = 0 ∧ Calm (cut2 D (f + 1)).2 ∧ (cut2 D (f + 1)).2.fs (f.toNat + 1) = ([], []) ∧ Else f.toNat D (cut2 D (f + 1)).2 := by
    unfold cut2
    split
    · rw [h.cut (by omega) (by omega) (by omega) (by omega), hg]
      refine ⟨rfl, h.set _ _, ?_, ?_⟩
      · simp [Dk.set, upd_same, Dk.took]
      · intro i h1 h2; simp only [Dk.set]; exact upd_other _ _ h2
    · rename_i hz
      refine ⟨rfl, h, ?_, fun i _ _ => rfl⟩
      unfold Dk.size at hz
      rw [if_neg (by simp [isF_in (show (0:Int) ≤ f + 1 by omega) (show f + 1 < 8 by omega)]), hg] at hz
      unfold Dk.len at hz
      have z1 : (D.fs (f.toNat + 1)).1.length = 0 := by omega
      have z2 : (D.fs (f.toNat + 1)).2.length = 0 := by omega
      exact Prod.ext (List.length_eq_zero_iff.1 z1) (List.length_eq_zero_iff.1 z2)
  generalize hx : cut2 D (f + 1) = X at c2
  obtain ⟨e1, k1, a1, o1⟩ := c2
  unfold andD
  dsimp only
  rw [if_pos e1, k1.app (by omega) (by omega) (by rw [hg]; simp only [Dk.len, a1, List.length_nil]; omega), hg, a1]
  simp only [if_true]
  rw [(k1.set _ _).flush (by omega) (by omega), hg]
  simp only [if_true]
  rw [((k1.set _ _).set _ _).turn h0 (by omega) (by omega) (by omega) (by omega) (by rw [hg]; simp [Dk.set, upd_same]), hg]
  refine ⟨rfl, (((k1.set _ _).set _ _).set _ _).set _ _, ?_, ?_, ?_⟩
  · simp [Dk.set, Dk.all, upd]
  · simp [Dk.len, Dk.set, upd_same]
  · intro i h1 h2
    simp only [Dk.set, upd_other _ _ h1, upd_other _ _ h2]
    exact o1 i h1 h2

end Go.Proofs.YtgamkahbebnnaaaDoor.D5
