/-
  Plain mathematics of the disk: eight files (the durable bytes and the rest), what each call makes of them.
-/
namespace Go.Proofs.YtgamkahbebnnaaaDoor.D5
structure Dk where
  fs : Nat → List UInt8 × List UInt8
  down : Bool
  lost : Nat
  left : Nat
  keep : Nat → Int
def isF (f : Int) : Bool := decide (0 ≤ f) && decide (f < 8)
theorem isF_iff (f : Int) : isF f = true ↔ 0 ≤ f ∧ f < 8 := by simp [isF]
theorem isF_not (f : Int) : isF f = false ↔ f < 0 ∨ 8 ≤ f := by
  rw [← Bool.not_eq_true, isF_iff]; omega
def upd {α : Type} (g : Nat → α) (f : Nat) (x : α) : Nat → α := fun i => if i = f then x else g i
theorem upd_same {α : Type} (g : Nat → α) (f : Nat) (x : α) : upd g f x f = x := by simp [upd]
theorem upd_other {α : Type} (g : Nat → α) {f i : Nat} (x : α) (h : i ≠ f) : upd g f x i = g i := by simp [upd, h]
def kf (xs : List Int) : Nat → Int := fun i => xs.getD i 0
namespace Dk
def new : Dk := ⟨fun _ => ([], []), false, 0, 0, fun _ => 0⟩
def len (D : Dk) (f : Nat) : Nat := (D.fs f).1.length + (D.fs f).2.length
def all (D : Dk) (f : Nat) : List UInt8 := (D.fs f).1 ++ (D.fs f).2
theorem all_length (D : Dk) (f : Nat) : (D.all f).length = D.len f := by simp [all, len]
def set (D : Dk) (f : Nat) (x : List UInt8 × List UInt8) : Dk := { D with fs := upd D.fs f x }
def crash (D : Dk) (k : Nat → Int) : Dk := { D with down := true, left := 0, fs := fun i => ((D.fs i).1 ++ (D.fs i).2.take (k i).toNat, []) }
def enter (D : Dk) : Nat × Dk := if D.down then (12, D) else if D.left = 0 then (0, D) else if D.left = 1 then (12, D.crash D.keep) else (0, { D with left := D.left - 1 })
def add (D : Dk) (f : Int) (s : List UInt8) : Nat × Dk :=
  if D.down then (12, D) else if isF f = false then (1, D) else if 16777216 < D.len f.toNat + s.length then (15, D) else (0, D.set f.toNat ((D.fs f.toNat).1, (D.fs f.toNat).2 ++ s))
def app (D : Dk) (f : Int) (s : List UInt8) : Nat × Dk := (if (D.add f s).2.enter.1 = 0 then (D.add f s).1 else (D.add f s).2.enter.1, (D.add f s).2.enter.2)
def flushed (D : Dk) (f : Int) : Nat × Dk :=
  if isF f = false then (1, D) else if 0 < D.lost then (13, { D with lost := D.lost - 1 }) else (0, D.set f.toNat (D.all f.toNat, []))
def flush (D : Dk) (f : Int) : Nat × Dk := if D.enter.1 = 0 then D.enter.2.flushed f else D.enter
def took (x : List UInt8 × List UInt8) (n : Nat) : List UInt8 × List UInt8 := (x.1.take n, x.2.take (n - x.1.length))
def cutted (D : Dk) (f n : Int) : Nat × Dk := if isF f = false ∨ n < 0 ∨ (D.len f.toNat : Int) < n then (1, D) else (0, D.set f.toNat (took (D.fs f.toNat) n.toNat))
def cut (D : Dk) (f n : Int) : Nat × Dk := if D.enter.1 = 0 then D.enter.2.cutted f n else D.enter
def turned (D : Dk) (f g : Int) : Nat × Dk :=
  if isF f = false ∨ isF g = false ∨ f = g then (1, D) else if (D.fs g.toNat).2 ≠ [] then (16, D) else (0, (D.set f.toNat (D.fs g.toNat)).set g.toNat ([], []))
def turn (D : Dk) (f g : Int) : Nat × Dk := if D.enter.1 = 0 then D.enter.2.turned f g else D.enter
def lose (D : Dk) (n : Int) : Dk := { D with lost := n.toNat }
def fall (D : Dk) (k : Nat → Int) : Dk := if D.down then D else D.crash k
def start (D : Dk) : Dk := { D with down := false }
def arm (D : Dk) (n : Int) (k : Nat → Int) : Dk := { D with left := n.toNat, keep := k }
def size (D : Dk) (f : Int) : Nat := if isF f = false then 0 else D.len f.toNat
def read (D : Dk) (f : Int) : List UInt8 × Nat := if D.down then ([], 12) else if isF f = false then ([], 1) else (D.all f.toNat, 0)
/-- What holds of every disk. -/
structure Ok (D : Dk) : Prop where
  lost : D.lost < 9223372036854775808
  left : D.left < 9223372036854775808
  len : ∀ f, f < 8 → D.len f ≤ 16777216
theorem ok_new : Ok new := ⟨by decide, by decide, fun f _ => by simp [Dk.len, new]⟩
theorem Ok.set {D : Dk} (h : Ok D) {f : Nat} {x : List UInt8 × List UInt8} (hx : x.1.length + x.2.length ≤ 16777216) : Ok (D.set f x) :=
  ⟨h.lost, h.left, fun i hi => by
    by_cases e : i = f
    · subst e; simp only [Dk.len, Dk.set, upd_same]; exact hx
    · simp only [Dk.len, Dk.set, upd_other _ _ e]; exact h.len i hi⟩
theorem Ok.crash {D : Dk} (h : Ok D) (k : Nat → Int) : Ok (D.crash k) :=
  ⟨h.lost, by show 0 < _; omega, fun i hi => by
    have := h.len i hi
    simp only [Dk.len, Dk.crash, List.length_append, List.length_take, List.length_nil] at this ⊢
    omega⟩
theorem Ok.enter {D : Dk} (h : Ok D) : Ok D.enter.2 := by
  unfold Dk.enter
  split
  · exact h
  · split
    · exact h
    · split
      · exact h.crash _
      · exact ⟨h.lost, by have := h.left; show D.left - 1 < _; omega, h.len⟩
end Dk
end Go.Proofs.YtgamkahbebnnaaaDoor.D5
