/-
  The scan as a function that can be run: with fuel.
-/
import Derived.Test.YtkagfhfjomhkdaaDoorPlain
import Derived.KernelRfl
namespace Go.Proofs.YtkagfhfjomhkdaaDoor.L7
def skipF : Nat → Bs → Bs
  | 0, s => s
  | _ + 1, [] => []
  | n + 1, b :: s => if isWs b then skipF n s else if b == 47 && s.head? == some 47 then skipF n (s.dropWhile notLf) else b :: s
theorem skipF_eq : ∀ (n : Nat) (s : Bs), s.length ≤ n → skipF n s = skip s
  | 0, s, h => by
    have : s = [] := List.eq_nil_of_length_eq_zero (by omega)
    subst this; simp [skipF, skip]
  | n + 1, [], _ => by simp [skipF, skip]
  | n + 1, b :: s, h => by
    simp only [List.length_cons] at h
    have := drop_le (p := notLf) s
    rw [skipF, skip, skipF_eq n s (by omega), skipF_eq n (s.dropWhile notLf) (by omega)]
def scanF : Nat → Bs → Except (Nat × Nat) (List (Tk × Nat))
  | 0, _ => .ok []
  | n + 1, s => match skipF s.length s with
    | [] => .ok []
    | b :: u => match tok (b :: u) with
      | .error e => .error (e, (b :: u).length)
      | .ok (t, r) => match scanF n r with
        | .error e => .error e
        | .ok l => .ok ((t, (b :: u).length) :: l)
theorem scanF_eq : ∀ (n : Nat) (s : Bs), s.length ≤ n → scanF n s = scan s
  | 0, s, h => by
    have : s = [] := List.eq_nil_of_length_eq_zero (by omega)
    subst this; rw [scanF, scan_nil (by simp [skip])]
  | n + 1, s, h => by
    rw [scanF, skipF_eq _ _ (Nat.le_refl _)]
    have hl := skip_le s
    cases hs : skip s with
    | nil => rw [scan_nil hs]
    | cons b u =>
      rw [hs] at hl
      simp only
      cases ht : tok (b :: u) with
      | error e =>
        rw [scan_err (s := s) (by rw [hs]; simp) (by rw [hs]; exact ht), hs]
      | ok y =>
        obtain ⟨t, r⟩ := y
        have := tok_lt ht
        simp only
        rw [scanF_eq n r (by omega), scan_ok (s := s) (t := t) (r := r) (by rw [hs]; exact ht), hs]
        cases scan r <;> rfl
theorem run_test : scanF 9 [97, 98, 32, 34, 120, 92, 110, 34, 32] = .ok [(⟨1, [97, 98], 0⟩, 9), (⟨3, [120, 10], 0⟩, 6)] := by kernel_rfl
end Go.Proofs.YtkagfhfjomhkdaaDoor.L7
