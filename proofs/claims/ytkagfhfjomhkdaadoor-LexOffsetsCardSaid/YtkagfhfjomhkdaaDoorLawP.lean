/-
  What the laws ask of the scan and of the written form, and the calls in the laws' words.
-/
import Derived.Test.YtkagfhfjomhkdaaDoorSmall
namespace Go.Proofs.YtkagfhfjomhkdaaDoor
open Go.RowKit L7
theorem scan_of_toks {s : Bs} {l : List Tk} (h : toks s = some l) : ∃ D, scan s = .ok D ∧ D.map Prod.fst = l := by
  unfold toks at h
  cases hs : scan s with
  | error e => rw [hs] at h; cases h
  | ok D => rw [hs] at h; injection h with h; exact ⟨D, rfl, h⟩
theorem wrt_some {L : List Tk} (h : wrt L ≠ []) : ∃ xs, forms dec L = some xs ∧ wrt L = join xs := by
  unfold wrt at h ⊢
  cases hf : forms dec L with
  | none => rw [hf] at h; exact absurd rfl h
  | some xs => exact ⟨xs, rfl, rfl⟩
theorem scan_wrt {L : List Tk} (h : wrt L ≠ []) : ∃ D, scan (wrt L) = .ok D ∧ D.map Prod.fst = L := by
  obtain ⟨xs, h1, h2⟩ := wrt_some h
  rw [h2]
  exact scan_of_toks (scan_written dec_ok h1)
theorem written_pos {t : Tk} {x : Bs} (h : L7.written dec t = some x) : x ≠ [] := by
  unfold L7.written at h
  split at h
  · split at h
    · injection h with h; subst h; exact dec_ok.pos _
    · cases h
  · split at h
    · cases h
    · split at h
      · injection h with h; subst h; simp
      · split at h
        · rename_i h4
          injection h with h; subst h
          intro h0
          rw [h0] at h4
          rcases h4 with ⟨-, h4⟩ | ⟨-, h4⟩ <;> cases h4
        · cases h
theorem join_pos {xs : List Bs} (hx : ∀ x ∈ xs, x ≠ []) (h : join xs = []) : xs = [] := by
  match xs with
  | [] => rfl
  | [x] => exact absurd h (hx x (by simp))
  | x :: y :: l =>
    have := congrArg List.length h
    simp [join] at this
theorem forms_pos {L : List Tk} {xs : List Bs} (h : forms dec L = some xs) : ∀ x ∈ xs, x ≠ [] := by
  induction L generalizing xs with
  | nil => simp only [forms, Option.some.injEq] at h; subst h; simp
  | cons a L ih =>
    simp only [forms] at h
    cases ha : L7.written dec a with
    | none => rw [ha] at h; cases h
    | some y =>
      rw [ha] at h
      cases hL : forms dec L with
      | none => rw [hL] at h; cases h
      | some ys =>
        rw [hL] at h
        simp at h; subst h
        intro x hx
        rcases List.mem_cons.1 hx with rfl | hx
        · exact written_pos ha
        · exact ih hL x hx
theorem wrt_empty {s : Bs} {D : List (Tk × Nat)} (h : scan s = .ok D) (hv : wrt (D.map Prod.fst) = []) : D = [] := by
  obtain ⟨xs, hx⟩ := scan_valid (dec := dec) D s h
  unfold wrt at hv
  rw [hx] at hv
  have := join_pos (forms_pos hx) hv
  have hl := forms_length hx
  rw [this, List.length_map] at hl
  exact List.eq_nil_of_length_eq_zero hl.symm
theorem tok_text {s r : Bs} {t : Tk} (h : L7.tok s = .ok (t, r)) : t.t.length ≤ 4096 ∨ t.t.length ≤ s.length := by
  cases s with
  | nil => simp [L7.tok] at h
  | cons b s =>
    simp only [L7.tok] at h
    split at h
    · cases h
      have := tw_le isNm s
      right; simp; omega
    · split at h
      · unfold tokInt at h
        split at h
        · cases h
        · split at h
          · cases h
          · cases h; left; simp
      · split at h
        · unfold tokLit at h
          split at h
          · cases h
          · split at h
            · cases h
            · rename_i hb
              cases h; left; exact Nat.le_of_not_lt hb
        · cases s with
          | nil =>
            simp only [tokMark] at h
            split at h
            · cases h; left; simp
            · cases h
          | cons c s =>
            simp only [tokMark] at h
            split at h
            · cases h; left; simp
            · split at h
              · cases h; left; simp
              · cases h
theorem scan_len : ∀ (D : List (Tk × Nat)) (s : Bs), scan s = .ok D → D.length ≤ s.length ∧ ∀ x ∈ D, x.1.t.length ≤ 4096 ∨ x.1.t.length ≤ s.length
  | [], s, _ => ⟨Nat.zero_le _, fun x hx => by simp at hx⟩
  | (t, n) :: l, s, h => by
    obtain ⟨r, hn, ht, hr⟩ := scan_cons h
    obtain ⟨h1, h2⟩ := scan_len l r hr
    have h3 := tok_lt ht
    have h4 := skip_le s
    refine ⟨by simp; omega, fun x hx => ?_⟩
    rcases List.mem_cons.1 hx with rfl | hx
    · have := tok_text ht; simp only; omega
    · have := h2 x hx; omega
theorem offs_map (n : Nat) (D : List (Tk × Nat)) : (offs n D).map Prod.fst = D.map Prod.fst := by simp [offs]
theorem offs_length (n : Nat) (D : List (Tk × Nat)) : (offs n D).length = D.length := by simp [offs]
theorem offs_text {n m : Nat} {D : List (Tk × Nat)} (h : ∀ x ∈ D, x.1.t.length ≤ m) : ∀ x ∈ offs n D, x.1.t.length ≤ m := fun x hx => by
  obtain ⟨y, hy, rfl⟩ := List.mem_map.1 hx
  exact h y hy
/-- Scan where the source has tokens. -/
theorem scan_ok_any (x : ByteArray) (D : List (Tk × Nat)) (h : scan (ls x) = .ok D) (hx : x.size ≤ 32768) (W : World) (hw : Lies W) :
    Calls Tryd.prog 9 #[.string x] W fun e w' => ∃ A c, e = .returned (.tuple #[.slice A D.length c, .int .i64 0, .int .i64 0]) ∧ ToksIn w' w'.heap.size A (offs x.size D) ∧ Head A ∧ D.length ≤ c ∧ Below W.heap.size W w' :=
  (scan_any x W hw hx).mono fun e w' ⟨⟨A, c, h1, h2, h3, h4⟩, hb⟩ => by
    rw [h] at h1 h2 h4
    exact ⟨A, c, h1, h2, h3, h4, hb⟩
/-- Scan where the source has an error. -/
theorem scan_err_any (x : ByteArray) (er k : Nat) (h : scan (ls x) = .error (er, k)) (hx : x.size ≤ 32768) (W : World) (hw : Lies W) :
    Calls Tryd.prog 9 #[.string x] W fun e w' => e = .returned (.tuple #[.slice none 0 0, .int .i64 (er : Int), .int .i64 ((x.size - k : Nat) : Int)]) ∧ Below W.heap.size W w' :=
  (scan_any x W hw hx).mono fun e w' ⟨⟨A, c, h1, _⟩, hb⟩ => by
    rw [h] at h1
    exact ⟨h1, hb⟩
/-- Write over the tokens of a scan. -/
theorem write_offs (A : Option Addr) (c top n : Nat) (D : List (Tk × Nat)) (y : Bs) (hy : wrt (D.map Prod.fst) = y) (hl : D.length ≤ 2000) (hs : ∀ x ∈ D, x.1.t.length ≤ 4200) (W : World) (hw : Lies W) (hT : ToksIn W top A (offs n D)) (htop : top ≤ W.heap.size) :
    Calls Tryd.prog 8 #[.slice A D.length c] W fun e w' => e = .returned (.string (mk y)) ∧ Below W.heap.size W w' := by
  have := write_any A c top (offs n D) W hw hT htop (by rw [offs_length]; exact hl) (offs_text hs)
  rw [offs_map, offs_length, hy] at this
  exact this
theorem below_same {w w' : World} (h : Hid (∃ j, w' = w.drewN j)) : Below w.heap.size w w' := by
  obtain ⟨j, hj⟩ := h.out
  rw [hj]; exact below_drew (Below.refl _ _) j
theorem same_any' (A B : Option Addr) (c d tA tB : Nat) (La Lb : List (Tk × Int)) (na nb : Nat) (r : Bool) (h1 : La.length = na) (h2 : Lb.length = nb) (hr : decide (La.map Prod.fst = Lb.map Prod.fst) = r) (hn : na ≤ 100000) (hm : nb ≤ 4611686018427387904) (w : World) (hA : ToksIn w tA A La) (hB : ToksIn w tB B Lb) :
    Calls Tryd.prog 10 #[.slice A na c, .slice B nb d] w fun e w' => e = .returned (.bool r) ∧ Below w.heap.size w w' := by
  subst h1 h2 hr
  exact (same_any A B c d tA tB La Lb w hA hB hn hm).mono fun e w' h => ⟨h.1, below_same h.2⟩
theorem scan_errc {s : Bs} {e k : Nat} (h : scan s = .error (e, k)) : ((e : Int) != 0) = true := by
  have key : ∀ (n : Nat) (s : Bs), s.length ≤ n → scan s = .error (e, k) → ∃ u, L7.tok u = .error e := by
    intro n
    induction n with
    | zero =>
      intro s hs h
      have : s = [] := List.eq_nil_of_length_eq_zero (by omega)
      subst this
      rw [scan_nil (by simp [skip])] at h; cases h
    | succ n ih =>
      intro s hs h
      by_cases hn : skip s = []
      · rw [scan_nil hn] at h; cases h
      · have hl := skip_le s
        cases ht : L7.tok (skip s) with
        | error e2 =>
          rw [scan_err hn ht] at h
          injection h with h
          injection h with h _
          subst h
          exact ⟨_, ht⟩
        | ok y =>
          obtain ⟨t, r⟩ := y
          have hr := tok_lt ht
          rw [scan_ok ht] at h
          cases hr2 : scan r with
          | error y =>
            rw [hr2] at h
            injection h with h
            subst h
            exact ih r (by omega) hr2
          | ok l => rw [hr2] at h; cases h
  obtain ⟨u, hu⟩ := key s.length s (Nat.le_refl _) h
  exact tok_err hu
end Go.Proofs.YtkagfhfjomhkdaaDoor
