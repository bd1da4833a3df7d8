/-
  The search's memory: the struct, its map of last places and its row of gaps; what a step of the search may turn.
-/
import Derived.Test.YtgamkahbebnnaaaDoorCommon
import Derived.Maps.OwnSet
import Derived.Maps.OwnOps
import Derived.Maps.Views
namespace Go.Proofs.YtgamkahbebnnaaaDoor
open Go.RowKit Go.Maps
theorem klaw : Keyed Tryd.prog 100 := int_keyed Tryd.underlying100
theorem zero3 (w : World) : (zeroValue 3).run Tryd.prog w = .ok (.int .i64 0) w := by kernel_rfl
def kx (x : Nat) : Lit := .int .u32 (x : Int)
theorem kx_key (x : Nat) (h : x < 4294967296) : keyOf Tryd.prog 100 (.int .u32 (x : Int)) = some (kx x) :=
  keyOf_int_mk Tryd.underlying100 (by
    have h1 : IntKind.u32.min = 0 := rfl
    have h2 : IntKind.u32.max = 4294967295 := rfl
    simp only [Lit.wf, h1, h2, Bool.and_eq_true, decide_eq_true_eq]
    omega)
theorem kx_ne {x y : Nat} (h : x ≠ y) : kx x ≠ kx y := fun e => h (by unfold kx at e; injection e with _ e; omega)
theorem kx_is (x : Nat) (h : x < 4294967296) : WideAt.IsKeyLit (kx x) := klaw.key (kx_key x h)
/-- What the map says of one number. -/
def Says (D : DataW Unit) (x : Nat) : Option Nat → Prop
  | none => has D (kx x) = false
  | some p => has D (kx x) = true ∧ ∀ z, D.atKey (kx x) z = .lit (.int .i64 (p : Int))
/-- The map holds the last places of a window. -/
def MapIs (l : List UInt8) (lo hi : Nat) (D : DataW Unit) : Prop := ∀ x, x < 4294967296 → ∃ o, Win l lo hi x o ∧ Says D x o
theorem says_zero {D : DataW Unit} {x : Nat} {o : Option Nat} (h : Says D x o) : D.atKey (kx x) (.lit (.int .i64 0)) = .lit (.int .i64 ((o.getD 0 : Nat) : Int)) ∧ has D (kx x) = o.isSome := by
  cases o with
  | none => exact ⟨atKey_of_not_has h _, h⟩
  | some p => exact ⟨h.2 _, h.1⟩
theorem map_start (l : List UInt8) : MapIs l 0 0 (.map []) := fun _ _ => ⟨none, fun p _ h => absurd h (Nat.not_lt_zero p), rfl⟩
theorem win_more {l : List UInt8} {lo hi x : Nat} {o : Option Nat} (h : Win l lo hi x o) (hx : key l hi ≠ x) : Win l lo (hi + 1) x o := by
  cases o with
  | none =>
    intro p a b
    by_cases e : p = hi
    · subst e; exact hx
    · exact h p a (by omega)
  | some p =>
    obtain ⟨h1, h2, h3, h4⟩ := h
    refine ⟨h1, by omega, h3, fun q a b => ?_⟩
    by_cases e : q = hi
    · subst e; exact hx
    · exact h4 q a (by omega)
theorem win_less {l : List UInt8} {lo hi x : Nat} {o : Option Nat} (h : Win l lo hi x o) (hx : o ≠ some lo) : Win l (lo + 1) hi x o := by
  cases o with
  | none => exact fun p a b => h p (by omega) b
  | some p =>
    obtain ⟨h1, h2, h3, h4⟩ := h
    have : p ≠ lo := fun e => hx (by rw [e])
    exact ⟨by omega, h2, h3, h4⟩
theorem map_put {l : List UInt8} {lo hi : Nat} {D : DataW Unit} (hD : IsMap D) (h : MapIs l lo hi D) (hl : lo ≤ hi) : MapIs l lo (hi + 1) (D.put (kx (key l hi)) (.lit (.int .i64 (hi : Int)))) := by
  intro x hx
  by_cases e : x = key l hi
  · subst e
    exact ⟨some hi, ⟨hl, by omega, rfl, fun q a b => by omega⟩, has_put_same hD (kx_is _ hx) _, fun z => atKey_put_same hD (kx_is _ hx) _ z⟩
  · obtain ⟨o, h1, h2⟩ := h x hx
    refine ⟨o, win_more h1 (Ne.symm e), ?_⟩
    cases o with
    | none => exact (has_put_other (kx_ne e) _).trans h2
    | some p => exact ⟨(has_put_other (kx_ne e) _).trans h2.1, fun z => (atKey_put_other (kx_ne e) _ z).trans (h2.2 z)⟩
theorem map_del {l : List UInt8} {lo hi : Nat} {D : DataW Unit} (h : MapIs l lo hi D) (hw : Win l lo hi (key l lo) (some lo)) : MapIs l (lo + 1) hi (D.del (kx (key l lo))) := by
  intro x hx
  by_cases e : x = key l lo
  · subst e
    exact ⟨none, fun p a b => hw.2.2.2 p (by omega) b, has_del_same⟩
  · obtain ⟨o, h1, h2⟩ := h x hx
    refine ⟨o, win_less h1 (fun ee => ?_), ?_⟩
    · subst ee; exact e h1.2.2.1.symm
    · cases o with
      | none => exact (has_del_other (kx_ne e)).trans h2
      | some p => exact ⟨(has_del_other (kx_ne e)).trans h2.1, fun z => (atKey_del_other (kx_ne e) z).trans (h2.2 z)⟩
theorem map_keep {l : List UInt8} {lo hi p : Nat} {D : DataW Unit} (h : MapIs l lo hi D) (hw : Win l lo hi (key l lo) (some p)) (hp : p ≠ lo) : MapIs l (lo + 1) hi D := by
  intro x hx
  obtain ⟨o, h1, h2⟩ := h x hx
  refine ⟨o, win_less h1 (fun ee => ?_), h2⟩
  subst ee
  have e := h1.2.2.1
  subst e
  exact h1.2.2.2 p (by have := hw.1; omega) hw.2.1 hw.2.2.1
/-- A row of numbers. -/
def ints (bk : List Nat) : Array Value := (bk.map fun g : Nat => Value.int .i64 (g : Int)).toArray
theorem ints_at (bk : List Nat) (p g : Nat) (h : bk[p]? = some g) : (ints bk)[p]? = some (.int .i64 (g : Int)) := by simp [ints, h]
theorem ints_set (bk : List Nat) (p g : Nat) : (ints bk).setIfInBounds p (.int .i64 (g : Int)) = ints (bk.set p g) := by
  unfold ints
  apply Array.toList_inj.1
  rw [Array.toList_setIfInBounds]
  simp only [List.map_set]
/-- The search's memory at the place nx. -/
structure Rec (w : World) (r m g : Nat) (s : ByteArray) (nx : Nat) (D : DataW Unit) (bk : List Nat) : Prop where
  is : Is w r 111 #[.string s, .int .i64 (nx : Int), .map (some m), .slice (some ⟨g, 0, none⟩) bk.length bk.length]
  map : w.ownsMap Tryd.prog 100 (plainElem Tryd.prog 3) m nx D
  row : Is w g 3 (ints bk)
  len : bk.length = min s.size 4096
theorem map_apart {w : World} {b g n : Nat} {t : TypeId} {c : Array Value} {D : DataW Unit} (h : w.ownsMap Tryd.prog 100 (plainElem Tryd.prog 3) b n D) (k : Is w g t c) : g ≠ b := by
  intro e
  obtain ⟨es, clock, hb, _⟩ := h
  subst e
  have k' : w.heap[g]? = _ := k
  rw [hb] at k'
  cases k'
/-- What the search knows of the places before nx, while four bytes may still follow. -/
def Cand (l : List UInt8) (nx : Nat) (D : DataW Unit) (bk : List Nat) : Prop := nx + 3 ≤ l.length → MapIs l (nx - 4096) nx D ∧ Bk l nx bk
/-- Only three blocks have turned. -/
structure Tri (r m g : Nat) (w w' : World) : Prop where
  os : w'.os = w.os
  tape : w'.tape = w.tape
  output : w'.output = w.output
  size : w.heap.size ≤ w'.heap.size
  block : ∀ k, k < w.heap.size → k ≠ r → k ≠ m → k ≠ g → w'.heap[k]? = w.heap[k]?
theorem Tri.refl (r m g : Nat) (w : World) : Tri r m g w w := ⟨rfl, rfl, rfl, Nat.le_refl _, fun _ _ _ _ _ => rfl⟩
theorem Tri.trans {r m g : Nat} {w w1 w2 : World} (h : Tri r m g w w1) (k : Tri r m g w1 w2) : Tri r m g w w2 :=
  ⟨k.os.trans h.os, k.tape.trans h.tape, k.output.trans h.output, Nat.le_trans h.size k.size, fun i a b c d => (k.block i (Nat.lt_of_lt_of_le a h.size) b c d).trans (h.block i a b c d)⟩
theorem Tri.of_grown {r m g b : Nat} {w w1 : World} (h : w.grownBy w1 (some b)) (hb : b = r ∨ b = m ∨ b = g) : Tri r m g w w1 :=
  ⟨h.os, h.tape, h.output, h.size, fun i a x y z => h.block i a (by intro e; injection e with e; omega)⟩
theorem Tri.set {r m g b : Nat} {w w1 : World} (h : Tri r m g w w1) (hb : b = r ∨ b = m ∨ b = g) (i : Nat) (u : Value) : Tri r m g w (w1.setCell ⟨b, i, none⟩ u) :=
  h.trans (Tri.of_grown (grown_set (World.grownBy.refl w1 (some b)) i u) hb)
theorem Tri.drew {r m g : Nat} {w w1 : World} (h : Tri r m g w w1) (n : Nat) : Tri r m g w (w1.drewN n) := ⟨h.os, h.tape, h.output, h.size, h.block⟩
theorem Tri.below {r m g B : Nat} {w w1 : World} (h : Tri r m g w w1) (hr : B ≤ r) (hm : B ≤ m) (hg : B ≤ g) (hB : B ≤ w.heap.size) : Below B w w1 :=
  ⟨h.os, h.tape, h.output, h.size, fun i hi => h.block i (by omega) (by omega) (by omega) (by omega)⟩
end Go.Proofs.YtgamkahbebnnaaaDoor
