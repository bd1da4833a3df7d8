/-
  Tokens in memory: four cells each; what Scan returns.
-/
import Derived.Test.YtkagfhfjomhkdaaDoorCutC
namespace Go.Proofs.YtkagfhfjomhkdaaDoor
open Go.RowKit L7
theorem own_below {w w' : World} {base : Nat} {e : TypeId} {size : Nat} {v : Value} {n : Nat} {xs : List Value} (h : w.ownsRow base e size v n xs) (k : Below w.heap.size w w') : w'.ownsRow base e size v n xs :=
  h.kept (grown_of_below (r := none) k) (by cases v.ownBlock <;> simp)
/-- A token with its offset, as its four cells. -/
def cells4 (x : Tk × Int) : List Value := [.int .i64 x.1.k, .string (mk x.1.t), .int .i64 x.1.n, .int .i64 x.2]
def flatT (l : List (Tk × Int)) : List Value := l.flatMap cells4
theorem flatT_length (l : List (Tk × Int)) : (flatT l).length = l.length * 4 := by
  induction l with
  | nil => rfl
  | cons a l ih => simp only [flatT, List.flatMap_cons, List.length_append, List.length_cons] at ih ⊢; rw [ih]; simp [cells4]; omega
theorem flatT_snoc (l : List (Tk × Int)) (x : Tk × Int) : flatT (l ++ [x]) = flatT l ++ cells4 x := by simp [flatT]
theorem flatT_at (l : List (Tk × Int)) (k : Nat) (x : Tk × Int) (h : l[k]? = some x) (j : Nat) (hj : j < 4) : (flatT l)[k * 4 + j]? = (cells4 x)[j]? := by
  induction l generalizing k with
  | nil => simp at h
  | cons a l ih =>
    have e : flatT (a :: l) = cells4 a ++ flatT l := rfl
    have e4 : (cells4 a).length = 4 := rfl
    cases k with
    | zero =>
      simp at h; subst h
      rw [e, List.getElem?_append_left (by omega)]
      simp
    | succ k =>
      rw [e, List.getElem?_append_right (by omega), e4, show (k + 1) * 4 + j - 4 = k * 4 + j by omega]
      exact ih k (by simpa using h)
/-- The places are offsets in a source of n bytes. -/
def offs (n : Nat) (l : List (Tk × Nat)) : List (Tk × Int) := l.map fun x => (x.1, ((n - x.2 : Nat) : Int))
/-- Tokens that stand in memory from A on, in blocks below top. -/
def ToksIn (w : World) (top : Nat) (A : Option Addr) (l : List (Tk × Int)) : Prop :=
  ∀ k x, l[k]? = some x → ∃ a, A = some a ∧ a.block < top ∧ ∀ j u, (cells4 x)[j]? = some u → w.cell? (a.add (k * 4 + j)) = some u
theorem addr_block (a : Addr) (n : Nat) : (a.add n).block = a.block := by
  unfold Addr.add; split <;> rfl
theorem ToksIn.below {w w' : World} {top : Nat} {A : Option Addr} {l : List (Tk × Int)} (h : ToksIn w top A l) (hb : Below top w w') : ToksIn w' top A l := fun k x hk => by
  obtain ⟨a, h1, h2, h3⟩ := h k x hk
  exact ⟨a, h1, h2, fun j u hu => (hb.cell (by rw [addr_block]; exact h2)).trans (h3 j u hu)⟩
theorem ToksIn.top {w : World} {t1 t2 : Nat} {A : Option Addr} {l : List (Tk × Int)} (h : ToksIn w t1 A l) (ht : t1 ≤ t2) : ToksIn w t2 A l := fun k x hk => by
  obtain ⟨a, h1, h2, h3⟩ := h k x hk
  exact ⟨a, h1, by omega, h3⟩
theorem ToksIn.of_own {w : World} {base n c : Nat} {A : Option Addr} {l : List (Tk × Int)} (h : w.ownsRow base 32 4 (.slice A n c) n (flatT l)) : ToksIn w w.heap.size A l := fun k x hk => by
  cases A with
  | none =>
    have h1 := h.1
    rcases h.2 with ⟨_, h2⟩ | ⟨g, cap, cur, h2, _⟩
    · rw [h2, flatT_length] at h1
      have : l = [] := List.eq_nil_of_length_eq_zero (by omega)
      subst this; simp at hk
    · cases h2
  | some a =>
    rcases h.2 with ⟨h2, _⟩ | ⟨g, cap, cur, h2, _⟩
    · cases h2
    · cases h2
      have hlt := (h.lt g rfl).2
      refine ⟨_, rfl, hlt, fun j u hu => ?_⟩
      have hj : j < 4 := by
        have := (List.getElem?_eq_some_iff.1 hu).1
        exact this
      exact h.cells (g := g) rfl (k * 4 + j) u (by rw [flatT_at l k x hk j hj]; exact hu)
/-- What Scan returns. -/
def scanV (r : Except (Nat × Nat) (List (Tk × Nat))) (n : Nat) (A : Option Addr) (c : Nat) : Value := match r with
  | .error (e, k) => .tuple #[.slice none 0 0, .int .i64 (e : Int), .int .i64 ((n - k : Nat) : Int)]
  | .ok l => .tuple #[.slice A l.length c, .int .i64 0, .int .i64 0]
def okL (r : Except (Nat × Nat) (List (Tk × Nat))) : List (Tk × Nat) := match r with
  | .error _ => []
  | .ok l => l
theorem info32 : (Tryd.prog.info? 32).map (fun i => (i.zero, i.size, i.bytes)) = some (some (.agg #[.int .i64 0, .string ⟨#[]⟩, .int .i64 0, .int .i64 0]), 4, 40) := by kernel_rfl
theorem tok_name (b : UInt8) (r : Bs) (h : isAl b = true) : L7.tok (b :: r) = .ok (⟨1, (b :: r).takeWhile isNm, 0⟩, (b :: r).dropWhile isNm) := by
  have hn : isNm b = true := by simp [isNm, h]
  rw [L7.tok, if_pos h, List.takeWhile, hn, List.dropWhile, hn]
theorem tok_dig (b : UInt8) (r : Bs) (h : isAl b = false) (h2 : isDg b = true) : L7.tok (b :: r) = tokInt (b :: r.takeWhile isDg) (r.dropWhile isDg) := by
  rw [L7.tok, if_neg (by rw [h]; decide), if_pos h2]
theorem tok_str (r : Bs) : L7.tok (34 :: r) = tokLit (lit r) := by
  rw [L7.tok, if_neg (by decide), if_neg (by decide), if_pos (by decide)]
theorem tok_mark (b : UInt8) (r : Bs) (h : isAl b = false) (h2 : isDg b = false) (h3 : b ≠ 34) : L7.tok (b :: r) = tokMark b r := by
  rw [L7.tok, if_neg (by rw [h]; decide), if_neg (by rw [h2]; decide), if_neg (by simpa using h3)]
end Go.Proofs.YtkagfhfjomhkdaaDoor
