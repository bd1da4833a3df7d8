import Derived.Test.YtgamkahbebnnaaaDoorD5Log
/-! The log over a disk that may fail: what stands of its payloads, up or fallen. -/
namespace Go.Proofs.YtgamkahbebnnaaaDoor.D5
open WalPlain

variable {ok : Bs → Prop} {rec : Bs → Bs}

structure Up (ok : Bs → Prop) (rec : Bs → Bs) (D : Dk) (f : Nat) (R safe : List Bs) : Prop where
  up : D.down = false
  all : D.all f = flat rec R
  keeps : flat rec safe <+: (D.fs f).1
  ok1 : ∀ s ∈ R, ok s
  ok2 : ∀ s ∈ safe, ok s

structure Fell (ok : Bs → Prop) (rec : Bs → Bs) (D : Dk) (f : Nat) (P safe : List Bs) : Prop where
  all : D.all f <+: flat rec P
  keeps : flat rec safe <+: D.all f
  ok1 : ∀ s ∈ P, ok s
  ok2 : ∀ s ∈ safe, ok s

/-- A call after which the log stands as it was, or the machine fell. -/
def Keeps (ok : Bs → Prop) (rec : Bs → Bs) (X : Nat × Dk) (f : Nat) (R safe : List Bs) : Prop :=
  (X.2.down = false → Up ok rec X.2 f R safe) ∧ (X.2.down = true → X.1 = 12 ∧ Fell ok rec X.2 f R safe)

theorem prefix_take {b x y : Bs} (n : Nat) (h : b = x ++ y) : x ++ y.take n <+: b := by
  subst h; exact (List.prefix_append_right_inj _).2 (List.take_prefix _ _)

theorem Up.crash {D : Dk} {f : Nat} {R safe : List Bs} (h : Up ok rec D f R safe) (k : Nat → Int) : Fell ok rec (D.crash k) f R safe := by
  refine ⟨?_, ?_, h.ok1, h.ok2⟩
  · simp only [Dk.all, Dk.crash, List.append_nil]
    exact prefix_take _ (by rw [← h.all]; rfl)
  · simp only [Dk.all, Dk.crash, List.append_nil]
    exact h.keeps.trans (List.prefix_append _ _)

theorem Up.fall {D : Dk} {f : Nat} {R safe : List Bs} (h : Up ok rec D f R safe) (k : Nat → Int) : Fell ok rec (D.fall k) f R safe := by
  unfold Dk.fall; rw [if_neg (by simp [h.up])]; exact h.crash k

theorem Up.same {D E : Dk} {f : Nat} {R safe : List Bs} (h : Up ok rec D f R safe) (hd : E.down = false) (hf : E.fs f = D.fs f) : Up ok rec E f R safe := by
  refine ⟨hd, ?_, ?_, h.ok1, h.ok2⟩
  · rw [← h.all]; simp only [Dk.all, hf]
  · rw [hf]; exact h.keeps

theorem Up.lose {D : Dk} {f : Nat} {R safe : List Bs} (h : Up ok rec D f R safe) (n : Int) : Up ok rec (D.lose n) f R safe := h.same h.up rfl
theorem Up.arm {D : Dk} {f : Nat} {R safe : List Bs} (h : Up ok rec D f R safe) (n : Int) (k : Nat → Int) : Up ok rec (D.arm n k) f R safe := h.same h.up rfl

/-- A call enters: it is performed, with the files as they were, or the machine falls. -/
theorem enter_ways {D : Dk} (h : D.down = false) :
    (D.enter.1 = 0 ∧ D.enter.2.down = false ∧ D.enter.2.fs = D.fs ∧ D.enter.2.lost = D.lost) ∨ (D.enter = (12, D.crash D.keep)) := by
  unfold Dk.enter
  rw [if_neg (by simp [h])]
  split
  · exact .inl ⟨rfl, h, rfl, rfl⟩
  · split
    · exact .inr rfl
    · exact .inl ⟨rfl, h, rfl, rfl⟩

theorem Up.enter {D : Dk} {f : Nat} {R safe : List Bs} (h : Up ok rec D f R safe) : Keeps ok rec D.enter f R safe := by
  rcases enter_ways h.up with ⟨h1, h2, h3, -⟩ | h1
  · exact ⟨fun hd => h.same hd (by rw [h3]), fun hd => by rw [h2] at hd; cases hd⟩
  · rw [h1]
    exact ⟨fun hd => by simp [Dk.crash] at hd, fun _ => ⟨rfl, h.crash _⟩⟩

theorem Keeps.up {X : Nat × Dk} {f : Nat} {R safe : List Bs} (h : Keeps ok rec X f R safe) (h0 : X.1 = 0) : Up ok rec X.2 f R safe := by
  cases hd : X.2.down with
  | false => exact h.1 hd
  | true => have := (h.2 hd).1; omega

theorem Keeps.andD {x : Nat × Dk} {k : Dk → Nat × Dk} {f : Nat} {R safe : List Bs} (h : Keeps ok rec x f R safe)
    (hk : x.1 = 0 → Keeps ok rec (k x.2) f R safe) : Keeps ok rec (andD x k) f R safe := by
  unfold YtgamkahbebnnaaaDoor.D5.andD
  split
  · rename_i h0; exact hk h0
  · exact h

/-- A call whose body turns nothing of f keeps the log. -/
theorem Up.body {D : Dk} {f : Nat} {R safe : List Bs} (h : Up ok rec D f R safe) (g : Dk → Nat × Dk)
    (hd : ∀ E : Dk, (g E).2.down = E.down) (hf : ∀ E : Dk, (g E).2.fs f = E.fs f) :
    Keeps ok rec (if D.enter.1 = 0 then g D.enter.2 else D.enter) f R safe := by
  split
  · rename_i h0
    have hu := h.enter.up h0
    exact ⟨fun hx => hu.same hx (hf _), fun hx => by rw [hd, hu.up] at hx; cases hx⟩
  · exact h.enter

theorem flushed_dn (E : Dk) (f : Int) : (E.flushed f).2.down = E.down := by
  unfold Dk.flushed; split
  · rfl
  · split <;> rfl
theorem cutted_dn (E : Dk) (f n : Int) : (E.cutted f n).2.down = E.down := by unfold Dk.cutted; split <;> rfl
theorem turned_dn (E : Dk) (f g : Int) : (E.turned f g).2.down = E.down := by
  unfold Dk.turned; split
  · rfl
  · split <;> rfl
theorem flushed_fs (E : Dk) {g : Int} {f : Nat} (h : f ≠ g.toNat) : (E.flushed g).2.fs f = E.fs f := by
  unfold Dk.flushed; split
  · rfl
  · split
    · rfl
    · exact upd_other _ _ h
theorem cutted_fs (E : Dk) {g n : Int} {f : Nat} (h : f ≠ g.toNat) : (E.cutted g n).2.fs f = E.fs f := by
  unfold Dk.cutted; split
  · rfl
  · exact upd_other _ _ h
theorem add_cases (E : Dk) {g : Int} (h0 : 0 ≤ g) (h8 : g < 8) (s : Bs) (hu : E.down = false) :
    (E.add g s = (15, E)) ∨ (E.add g s = (0, E.set g.toNat ((E.fs g.toNat).1, (E.fs g.toNat).2 ++ s))) := by
  unfold Dk.add; rw [if_neg (by simp [hu]), if_neg (by simp [isF_in h0 h8])]
  split
  · exact .inl rfl
  · exact .inr rfl

theorem Up.app_other {D : Dk} {f : Nat} {R safe : List Bs} (h : Up ok rec D f R safe) {g : Int} (h0 : 0 ≤ g) (h8 : g < 8) (hg : f ≠ g.toNat) (s : Bs) :
    Keeps ok rec (D.app g s) f R safe := by
  have hx : Up ok rec (D.add g s).2 f R safe := by
    rcases add_cases D h0 h8 s h.up with e | e
    · rw [e]; exact h
    · rw [e]; exact h.same h.up (upd_other _ _ hg)
  have hk := hx.enter
  refine ⟨fun hd => hk.1 hd, fun hd => ?_⟩
  obtain ⟨h1, h2⟩ := hk.2 hd
  refine ⟨?_, h2⟩
  unfold Dk.app
  simp only [h1]
  rfl

theorem Up.flush_other {D : Dk} {f : Nat} {R safe : List Bs} (h : Up ok rec D f R safe) {g : Int} (hg : f ≠ g.toNat) : Keeps ok rec (D.flush g) f R safe :=
  h.body (fun E => E.flushed g) (fun E => flushed_dn E g) (fun E => flushed_fs E hg)
theorem Up.cut_other {D : Dk} {f : Nat} {R safe : List Bs} (h : Up ok rec D f R safe) {g : Int} (n : Int) (hg : f ≠ g.toNat) : Keeps ok rec (D.cut g n) f R safe :=
  h.body (fun E => E.cutted g n) (fun E => cutted_dn E g n) (fun E => cutted_fs E hg)
theorem Up.keeps0 {D : Dk} {f : Nat} {R safe : List Bs} (h : Up ok rec D f R safe) : Keeps ok rec (0, D) f R safe :=
  ⟨fun _ => h, fun hd => by simp only [h.up] at hd; cases hd⟩
theorem Up.cut2_other {D : Dk} {f : Nat} {R safe : List Bs} (h : Up ok rec D f R safe) {g : Int} (hg : f ≠ g.toNat) : Keeps ok rec (cut2 D g) f R safe := by
  unfold cut2; split
  · exact h.cut_other 0 hg
  · exact h.keeps0

/-- Append. -/
theorem Up.append {D : Dk} {f : Int} {R safe : List Bs} (h : Up ok rec D f.toNat R safe) (h0 : 0 ≤ f) (h8 : f < 8) {s : Bs} (hs : ok s) :
    ((D.app f (rec s)).1 = 0 → Up ok rec (D.app f (rec s)).2 f.toNat (R ++ [s]) safe) ∧
    ((D.app f (rec s)).1 ≠ 0 → (D.app f (rec s)).2.down = false → Up ok rec (D.app f (rec s)).2 f.toNat R safe) ∧
    ((D.app f (rec s)).2.down = true → (D.app f (rec s)).1 = 12 ∧ Fell ok rec (D.app f (rec s)).2 f.toNat (R ++ [s]) safe) := by
  have hR : ∀ x ∈ R ++ [s], ok x := by
    intro x hx
    simp only [List.mem_append, List.mem_singleton] at hx
    rcases hx with hx | rfl
    · exact h.ok1 x hx
    · exact hs
  rcases add_cases D h0 h8 (rec s) h.up with e | e
  · have hk := h.enter
    have ea : D.app f (rec s) = (if D.enter.1 = 0 then 15 else D.enter.1, D.enter.2) := by unfold Dk.app; rw [e]
    rw [ea]
    refine ⟨fun h1 => ?_, fun _ hd => hk.1 hd, fun hd => ?_⟩
    · exfalso; revert h1; dsimp only; split <;> omega
    · obtain ⟨h1, h2⟩ := hk.2 hd
      refine ⟨by simp only [h1]; rfl, ⟨h2.all.trans ?_, h2.keeps, hR, h2.ok2⟩⟩
      rw [flat_snoc]; exact List.prefix_append _ _
  · have hu : Up ok rec (D.set f.toNat ((D.fs f.toNat).1, (D.fs f.toNat).2 ++ rec s)) f.toNat (R ++ [s]) safe := by
      refine ⟨h.up, ?_, ?_, hR, h.ok2⟩
      · have := h.all
        simp only [Dk.all, Dk.set, upd_same] at this ⊢
        rw [flat_snoc, ← this, List.append_assoc]
      · simp only [Dk.set, upd_same]; exact h.keeps
    have hk := hu.enter
    have ea : D.app f (rec s) = (D.set f.toNat ((D.fs f.toNat).1, (D.fs f.toNat).2 ++ rec s)).enter := by
      unfold Dk.app; rw [e]; dsimp only
      refine Prod.ext ?_ rfl
      dsimp only; split
      · rename_i hz; exact hz.symm
      · rfl
    rw [ea]
    generalize (D.set f.toNat ((D.fs f.toNat).1, (D.fs f.toNat).2 ++ rec s)) = E at hk hu
    refine ⟨hk.up, fun h1 hd => ?_, hk.2⟩
    rcases enter_ways hu.up with ⟨z, -⟩ | z
    · exact absurd z h1
    · rw [z] at hd; simp [Dk.crash] at hd

/-- Flush. -/
theorem Up.flush {D : Dk} {f : Int} {R safe : List Bs} (h : Up ok rec D f.toNat R safe) :
    ((D.flush f).1 = 0 → Up ok rec (D.flush f).2 f.toNat R R) ∧ Keeps ok rec (D.flush f) f.toNat R safe := by
  have hk := h.enter
  unfold Dk.flush
  split
  · rename_i h0
    have hu := hk.up h0
    generalize D.enter.2 = E at hu
    have hx : (E.flushed f).1 ≠ 0 ∧ Up ok rec (E.flushed f).2 f.toNat R safe ∨ Up ok rec (E.flushed f).2 f.toNat R R ∧ Up ok rec (E.flushed f).2 f.toNat R safe := by
      unfold Dk.flushed
      split
      · exact .inl ⟨by simp, hu⟩
      · split
        · exact .inl ⟨by simp, hu.same hu.up rfl⟩
        · refine .inr ?_
          have e2 : (E.set f.toNat (E.all f.toNat, [])).fs f.toNat = (E.all f.toNat, []) := upd_same _ _ _
          have e3 : (E.set f.toNat (E.all f.toNat, [])).all f.toNat = flat rec R := by
            show ((E.set f.toNat (E.all f.toNat, [])).fs f.toNat).1 ++ ((E.set f.toNat (E.all f.toNat, [])).fs f.toNat).2 = _
            rw [e2]; simp only [List.append_nil]; exact hu.all
          refine ⟨⟨hu.up, e3, ?_, hu.ok1, hu.ok1⟩, ⟨hu.up, e3, ?_, hu.ok1, hu.ok2⟩⟩
          · show flat rec R <+: ((E.set f.toNat (E.all f.toNat, [])).fs f.toNat).1
            rw [e2, hu.all]; exact List.prefix_rfl
          · show flat rec safe <+: ((E.set f.toNat (E.all f.toNat, [])).fs f.toNat).1
            rw [e2]; exact hu.keeps.trans (List.prefix_append _ _)
    have hs : Up ok rec (E.flushed f).2 f.toNat R safe := by rcases hx with ⟨_, a⟩ | ⟨_, a⟩ <;> exact a
    refine ⟨fun h1 => ?_, fun _ => hs, fun hd => by rw [hs.up] at hd; cases hd⟩
    rcases hx with ⟨a, _⟩ | ⟨a, _⟩
    · exact absurd h1 a
    · exact a
  · rename_i h0
    exact ⟨fun h1 => absurd h1 h0, hk⟩

theorem cut2_zero {D : Dk} (hu : D.down = false) {g : Int} (h0 : 0 ≤ g) (h8 : g < 8) (h : (cut2 D g).1 = 0) : (cut2 D g).2.fs g.toNat = ([], []) ∧ (cut2 D g).2.down = false := by
  revert h
  unfold cut2
  split
  · intro h
    unfold Dk.cut at h ⊢
    rcases enter_ways hu with ⟨z, h2, h3, -⟩ | z
    · rw [if_pos z] at h ⊢
      unfold Dk.cutted at h ⊢
      split at h
      · cases h
      · rename_i hc
        rw [if_neg hc]
        exact ⟨by simp [Dk.set, upd_same, Dk.took], h2⟩
    · rw [z] at h; simp at h
  · rename_i hz
    intro _
    refine ⟨?_, hu⟩
    unfold Dk.size at hz
    rw [if_neg (by simp [isF_in h0 h8])] at hz
    unfold Dk.len at hz
    have z1 : (D.fs g.toNat).1.length = 0 := by omega
    have z2 : (D.fs g.toNat).2.length = 0 := by omega
    exact Prod.ext (List.length_eq_zero_iff.1 z1) (List.length_eq_zero_iff.1 z2)

theorem app_zero {D : Dk} (hu : D.down = false) {g : Int} (h0 : 0 ≤ g) (h8 : g < 8) (b : Bs) (h : (D.app g b).1 = 0) :
    (D.app g b).2.fs g.toNat = ((D.fs g.toNat).1, (D.fs g.toNat).2 ++ b) ∧ (D.app g b).2.down = false := by
  revert h
  unfold Dk.app
  rcases add_cases D h0 h8 b hu with e | e
  · rw [e]; dsimp only
    intro h; exfalso; revert h; split <;> omega
  · rw [e]; dsimp only
    rcases enter_ways (D := D.set g.toNat ((D.fs g.toNat).1, (D.fs g.toNat).2 ++ b)) hu with ⟨z, h2, h3, -⟩ | z
    · intro _; exact ⟨by rw [h3]; exact upd_same _ _ _, h2⟩
    · rw [z]; intro h; simp at h

theorem flush_zero {D : Dk} (hu : D.down = false) {g : Int} (h0 : 0 ≤ g) (h8 : g < 8) (h : (D.flush g).1 = 0) :
    (D.flush g).2.fs g.toNat = (D.all g.toNat, []) ∧ (D.flush g).2.down = false := by
  revert h
  unfold Dk.flush
  rcases enter_ways hu with ⟨z, h2, h3, -⟩ | z
  · rw [if_pos z]
    unfold Dk.flushed
    rw [if_neg (by simp [isF_in h0 h8])]
    split
    · intro h; simp at h
    · intro _
      refine ⟨?_, h2⟩
      simp only [Dk.set, upd_same, Dk.all, h3]
  · rw [z]; intro h; simp at h

/-- Turn of the log's file and the new one. -/
theorem Up.turn {D : Dk} {f : Int} {R safe N : List Bs} (h : Up ok rec D f.toNat R safe) (h0 : 0 ≤ f) (h7 : f < 7) (hN : ∀ s ∈ N, ok s)
    (hg : D.fs (f + 1).toNat = (flat rec N, [])) :
    ((D.turn f (f + 1)).1 = 0 → Up ok rec (D.turn f (f + 1)).2 f.toNat N N) ∧
    ((D.turn f (f + 1)).1 ≠ 0 → Keeps ok rec (D.turn f (f + 1)) f.toNat R safe) := by
  have hk := h.enter
  unfold Dk.turn
  rcases enter_ways h.up with ⟨z, h2, h3, -⟩ | z
  · rw [if_pos z]
    unfold Dk.turned
    rw [if_neg (by simp [isF_in h0 (show f < 8 by omega), isF_in (show (0:Int) ≤ f + 1 by omega) (show f + 1 < 8 by omega), show ¬ f = f + 1 by omega]), if_neg (by simp [h3, hg])]
    refine ⟨fun _ => ?_, fun h => absurd rfl h⟩
    have e2 : ((D.enter.2.set f.toNat (D.enter.2.fs (f + 1).toNat)).set (f + 1).toNat ([], [])).fs f.toNat = (flat rec N, []) := by
      simp only [Dk.set]
      rw [upd_other _ _ (by omega), upd_same, h3, hg]
    refine ⟨h2, ?_, ?_, hN, hN⟩
    · unfold Dk.all; rw [e2]; simp
    · rw [e2]; exact List.prefix_rfl
  · rw [if_neg (by rw [z]; simp)]
    exact ⟨fun h => by rw [z] at h; simp at h, fun _ => hk⟩

/-- Rewrite. -/
theorem Up.rewrite {D : Dk} {f : Int} {R safe N : List Bs} (h : Up ok rec D f.toNat R safe) (h0 : 0 ≤ f) (h7 : f < 7) (hN : ∀ s ∈ N, ok s) :
    ((rewD D f (flat rec N)).1 = 0 → Up ok rec (rewD D f (flat rec N)).2 f.toNat N N) ∧
    ((rewD D f (flat rec N)).1 ≠ 0 → Keeps ok rec (rewD D f (flat rec N)) f.toNat R safe) := by
  have g0 : (0:Int) ≤ f + 1 := by omega
  have g8 : f + 1 < (8:Int) := by omega
  have hne : f.toNat ≠ (f + 1).toNat := by omega
  unfold rewD
  have k1 := h.cut2_other (g := f + 1) hne
  have z1 := cut2_zero h.up g0 g8
  generalize cut2 D (f + 1) = X1 at k1 z1
  have k2 : Keeps ok rec (andD X1 fun E => E.app (f + 1) (flat rec N)) f.toNat R safe :=
    k1.andD fun h1 => (k1.up h1).app_other g0 g8 hne _
  have z2 : (andD X1 fun E => E.app (f + 1) (flat rec N)).1 = 0 → (andD X1 fun E => E.app (f + 1) (flat rec N)).2.fs (f + 1).toNat = ([], flat rec N) := by
    unfold andD
    split
    · rename_i h1
      intro h2
      rw [(app_zero (z1 h1).2 g0 g8 _ h2).1, (z1 h1).1]; rfl
    · rename_i h1; exact fun h2 => absurd h2 h1
  generalize (andD X1 fun E => E.app (f + 1) (flat rec N)) = X2 at k2 z2
  have k3 : Keeps ok rec (andD X2 fun E => E.flush (f + 1)) f.toNat R safe := k2.andD fun h1 => (k2.up h1).flush_other hne
  have z3 : (andD X2 fun E => E.flush (f + 1)).1 = 0 → (andD X2 fun E => E.flush (f + 1)).2.fs (f + 1).toNat = (flat rec N, []) := by
    unfold andD
    split
    · rename_i h1
      intro h2
      rw [(flush_zero (k2.up h1).up g0 g8 h2).1]
      unfold Dk.all; rw [z2 h1]; rfl
    · rename_i h1; exact fun h2 => absurd h2 h1
  generalize (andD X2 fun E => E.flush (f + 1)) = X3 at k3 z3
  unfold andD
  split
  · rename_i h1
    exact (k3.up h1).turn h0 h7 hN (z3 h1)
  · rename_i h1
    exact ⟨fun h2 => absurd h2 h1, fun _ => k3⟩

theorem calm_again (D : Dk) : Calm (((D.start).lose 0).arm 0 (kf [])) := ⟨rfl, rfl, rfl⟩

/-- What a log that fell holds when it is opened again. -/
theorem Fell.again {D : Dk} {f : Nat} {P safe now : List Bs} (F : Form ok rec) (h : Fell ok rec D f P safe) (v : Valid ok rec (D.all f) now) :
    now <+: P ∧ safe <+: now := ⟨v.torn F h.ok1 h.all, v.most F h.ok2 h.keeps⟩

/-- The log that Open makes. -/
theorem Calm.opened {D : Dk} (h : Calm D) {f : Int} (h0 : 0 ≤ f) (h7 : f < 7) {now : List Bs} (v : Valid ok rec (D.all f.toNat) now) :
    (openD D f (flat rec now).length).1 = 0 ∧ Calm (openD D f (flat rec now).length).2 ∧ Up ok rec (openD D f (flat rec now).length).2 f.toNat now now ∧
    (openD D f (flat rec now).length).2.len f.toNat = (flat rec now).length ∧
    (openD D f (flat rec now).length).2.len (f.toNat + 1) = 0 ∧ Else f.toNat D (openD D f (flat rec now).length).2 := by
  have hl := v.part.length_le
  rw [Dk.all_length] at hl
  obtain ⟨h1, h2, h3, h4, h5⟩ := h.open h0 h7 _ hl
  have e : (D.all f.toNat).take (flat rec now).length = flat rec now := (List.prefix_iff_eq_take.1 v.part).symm
  rw [e] at h3
  refine ⟨h1, h2, ⟨h2.up, ?_, ?_, v.all, v.all⟩, ?_, h4, h5⟩
  · unfold Dk.all; rw [h3]; simp
  · rw [h3]; exact List.prefix_rfl
  · unfold Dk.len; rw [h3]; rfl

end Go.Proofs.YtgamkahbebnnaaaDoor.D5
