/-
  Plain mathematics of layer 2: the encodings as lists of bytes, the reader as a function on 'the unread bytes, or failed', and that reading inverts writing, both ways.
-/
namespace Go.Proofs.YtgamkahbebnnaaaDoor

def vint (n : Nat) : List UInt8 :=
  if n < 128 then [UInt8.ofNat n] else UInt8.ofNat (n % 128 + 128) :: vint (n / 128)
termination_by n
decreasing_by omega
def zig (n : Int) : Nat := if n < 0 then (-2 * n - 1).toNat else (2 * n).toNat
def unzig (u : Nat) : Int := if u % 2 = 1 then -((u / 2 : Nat) : Int) - 1 else ((u / 2 : Nat) : Int)
def inR (n : Int) : Bool := decide (-1152921504606846976 ≤ n ∧ n ≤ 1152921504606846976)
def numE (n : Int) : List UInt8 := if n < 0 then [] else vint n.toNat
def intE (n : Int) : List UInt8 := if inR n = true then vint (zig n) else []
def textE (s : List UInt8) : List UInt8 := vint s.length ++ s
def listE (l : List (List UInt8)) : List UInt8 := vint l.length ++ l.flatMap textE
def numsE (l : List Int) : List UInt8 := vint l.length ++ l.flatMap intE

/-- The unread bytes; none where the error flag is set. -/
abbrev St := Option (List UInt8)
def hi : List UInt8 → Nat
  | [] => 0
  | b :: r => if 128 ≤ b.toNat then hi r + 1 else 0
def val : List UInt8 → Nat
  | [] => 0
  | b :: r => b.toNat % 128 + 128 * val r
def okv (l : List UInt8) : Prop := hi l < l.length ∧ hi l ≤ 8 ∧ (hi l = 0 ∨ (l.getD (hi l) 0).toNat ≠ 0)
instance (l : List UInt8) : Decidable (okv l) := by unfold okv; infer_instance
def rNum : St → Nat × St
  | none => (0, none)
  | some l => if okv l then (val (l.take (hi l + 1)), some (l.drop (hi l + 1))) else (0, none)
theorem rNum_some (l : List UInt8) : rNum (some l) = if okv l then (val (l.take (hi l + 1)), some (l.drop (hi l + 1))) else (0, none) := rfl
def rInt (st : St) : Int × St := if inR (unzig (rNum st).1) = true then (unzig (rNum st).1, (rNum st).2) else (0, none)
def rTake (n : Int) : St → List UInt8 × St
  | none => ([], none)
  | some l => if 0 ≤ n ∧ n ≤ (l.length : Int) then (l.take n.toNat, some (l.drop n.toNat)) else ([], none)
theorem rTake_eq (n : Int) (l : List UInt8) : rTake n (some l) = if 0 ≤ n ∧ n ≤ (l.length : Int) then (l.take n.toNat, some (l.drop n.toNat)) else ([], none) := rfl
def rText (st : St) : List UInt8 × St := rTake (rNum st).1 (rNum st).2
def rMany {α : Type} (f : St → α × St) : Nat → St → List α × St
  | 0, st => ([], st)
  | k + 1, st => match rMany f k st with
    | (xs, none) => (xs, none)
    | (xs, some r) => (xs ++ [(f (some r)).1], (f (some r)).2)
def shut {α : Type} : List α × St → List α × St
  | (_, none) => ([], none)
  | (xs, some r) => (xs, some r)
def rSeq {α : Type} (f : St → α × St) (st : St) : List α × St :=
  match rNum st with
  | (_, none) => ([], none)
  | (n, some r) => if n ≤ r.length then shut (rMany f n (some r)) else ([], none)
def rList (st : St) : List (List UInt8) × St := rSeq rText st
def rNums (st : St) : List Int × St := rSeq rInt st

theorem toNat_ofNat (n : Nat) (h : n < 256) : (UInt8.ofNat n).toNat = n := by
  rw [UInt8.toNat_ofNat']; exact Nat.mod_eq_of_lt (by omega)
theorem ofNat_toNat (b : UInt8) (n : Nat) (h : n = b.toNat) : UInt8.ofNat n = b := by
  subst h; exact UInt8.ofNat_toNat
theorem vint_small (n : Nat) (h : n < 128) : vint n = [UInt8.ofNat n] := by rw [vint, if_pos h]
theorem vint_step (n : Nat) (h : 128 ≤ n) : vint n = UInt8.ofNat (n % 128 + 128) :: vint (n / 128) := by rw [vint, if_neg (by omega)]
theorem hi_lo (b : UInt8) (r : List UInt8) (h : b.toNat < 128) : hi (b :: r) = 0 := by rw [hi, if_neg (by omega)]
theorem hi_up (b : UInt8) (r : List UInt8) (h : 128 ≤ b.toNat) : hi (b :: r) = hi r + 1 := by rw [hi, if_pos h]

theorem hi_vint (n : Nat) (r : List UInt8) : hi (vint n ++ r) + 1 = (vint n).length := by
  induction n using Nat.strongRecOn with
  | _ n ih =>
    by_cases h : n < 128
    · rw [vint_small n h, List.singleton_append, hi_lo _ _ (by rw [toNat_ofNat _ (by omega)]; omega)]; rfl
    · rw [vint_step n (by omega), List.cons_append, hi_up _ _ (by rw [toNat_ofNat _ (by omega)]; omega), ih (n / 128) (by omega), List.length_cons]
theorem val_vint (n : Nat) : val (vint n) = n := by
  induction n using Nat.strongRecOn with
  | _ n ih =>
    by_cases h : n < 128
    · rw [vint_small n h]; simp only [val]; rw [toNat_ofNat _ (by omega)]; omega
    · rw [vint_step n (by omega)]; simp only [val]; rw [ih (n / 128) (by omega), toNat_ofNat _ (by omega)]; omega
theorem last_vint (n : Nat) (r : List UInt8) (hn : 1 ≤ n) : ((vint n ++ r).getD (hi (vint n ++ r)) 0).toNat ≠ 0 := by
  induction n using Nat.strongRecOn with
  | _ n ih =>
    by_cases h : n < 128
    · rw [vint_small n h, List.singleton_append, hi_lo _ _ (by rw [toNat_ofNat _ (by omega)]; omega)]
      simp only [List.getD_cons_zero]; rw [toNat_ofNat _ (by omega)]; omega
    · rw [vint_step n (by omega), List.cons_append, hi_up _ _ (by rw [toNat_ofNat _ (by omega)]; omega), List.getD_cons_succ]
      exact ih (n / 128) (by omega) (by omega)
theorem vint_pos (n : Nat) : 1 ≤ (vint n).length := by
  have := hi_vint n []; omega
theorem vint_len (k n : Nat) (h : n < 128 ^ (k + 1)) : (vint n).length ≤ k + 1 := by
  induction k generalizing n with
  | zero => rw [vint_small n (by simpa using h)]; simp
  | succ k ih =>
    by_cases h1 : n < 128
    · rw [vint_small n h1]; simp
    · rw [vint_step n (by omega), List.length_cons]
      have : n / 128 < 128 ^ (k + 1) := by rw [Nat.div_lt_iff_lt_mul (by omega)]; rw [Nat.pow_succ] at h; exact h
      have := ih _ this; omega
theorem vint_nine (n : Nat) (h : n < 9223372036854775808) : (vint n).length ≤ 9 := vint_len 8 n h
theorem vint_mono (a b : Nat) (h : a ≤ b) : (vint a).length ≤ (vint b).length := by
  induction b using Nat.strongRecOn generalizing a with
  | _ b ih =>
    by_cases ha : a < 128
    · rw [vint_small a ha]; have := vint_pos b; simpa using this
    · rw [vint_step a (by omega), vint_step b (by omega)]
      have := ih (b / 128) (by omega) (a / 128) (Nat.div_le_div_right h)
      simp only [List.length_cons]; omega

theorem rNum_vint (n : Nat) (r : List UInt8) (h : n < 9223372036854775808) : rNum (some (vint n ++ r)) = (n, some r) := by
  have h1 := hi_vint n r
  have h2 := vint_nine n h
  have h3 : okv (vint n ++ r) := by
    refine ⟨by rw [List.length_append]; omega, by omega, ?_⟩
    by_cases hn : n < 128
    · left; have : (vint n).length = 1 := by rw [vint_small n hn]; rfl
      omega
    · right; exact last_vint n r (by omega)
  rw [rNum_some, if_pos h3, h1, List.take_left' rfl, List.drop_left' rfl, val_vint]

theorem val_take_lt (k : Nat) (l : List UInt8) : val (l.take k) < 128 ^ k := by
  induction k generalizing l with
  | zero => simp [val]
  | succ k ih =>
    cases l with
    | nil => simp only [List.take_nil, val]; exact Nat.pow_pos (by omega)
    | cons b r =>
      simp only [List.take_succ_cons, val]
      have := ih r
      rw [Nat.pow_succ]; omega
theorem val_pos (l : List UInt8) (h : (l.getD (hi l) 0).toNat ≠ 0) : 1 ≤ val (l.take (hi l + 1)) := by
  induction l with
  | nil => simp at h
  | cons b r ih =>
    by_cases hb : 128 ≤ b.toNat
    · rw [hi_up b r hb] at h ⊢
      rw [List.getD_cons_succ] at h
      have := ih h
      rw [List.take_succ_cons]; simp only [val]; omega
    · rw [hi_lo b r (by omega)] at h ⊢
      simp only [List.getD_cons_zero] at h
      simp [val]; omega
theorem vint_val (l : List UInt8) (h : hi l < l.length) (h0 : hi l = 0 ∨ (l.getD (hi l) 0).toNat ≠ 0) : vint (val (l.take (hi l + 1))) = l.take (hi l + 1) := by
  induction l with
  | nil => simp at h
  | cons b r ih =>
    by_cases hb : 128 ≤ b.toNat
    · rw [hi_up b r hb] at h h0 ⊢
      rw [List.getD_cons_succ] at h0
      have h1 : (r.getD (hi r) 0).toNat ≠ 0 := by rcases h0 with h0 | h0; omega; exact h0
      have h2 := val_pos r h1
      have h3 := ih (by simpa using h) (.inr h1)
      have hlt : b.toNat < 256 := b.toNat_lt
      rw [List.take_succ_cons]; simp only [val]
      rw [vint_step _ (by omega), show (b.toNat % 128 + 128 * val (r.take (hi r + 1))) / 128 = val (r.take (hi r + 1)) by omega, h3, ofNat_toNat b _ (by omega)]
    · rw [hi_lo b r (by omega)] at h h0 ⊢
      simp only [Nat.zero_add, List.take_succ_cons, List.take_zero, val, Nat.mul_zero, Nat.add_zero]
      rw [vint_small _ (by omega), ofNat_toNat b _ (by omega)]
theorem rNum_back (st : St) (n : Nat) (r : List UInt8) (h : rNum st = (n, some r)) : st = some (vint n ++ r) ∧ n < 9223372036854775808 := by
  cases st with
  | none => simp [rNum] at h
  | some l =>
    rw [rNum_some] at h
    by_cases hk : okv l
    · rw [if_pos hk] at h
      simp only [Prod.mk.injEq, Option.some.injEq] at h
      obtain ⟨h1, h2⟩ := h
      have h3 := vint_val l hk.1 hk.2.2
      have h4 := val_take_lt (hi l + 1) l
      rw [h1] at h3 h4
      refine ⟨?_, ?_⟩
      · rw [h3, ← h2, List.take_append_drop]
      · have : 128 ^ (hi l + 1) ≤ 128 ^ 9 := Nat.pow_le_pow_right (by omega) (by have := hk.2.1; omega)
        omega
    · rw [if_neg hk] at h; simp at h
theorem rNum_lt (st : St) : (rNum st).1 < 9223372036854775808 := by
  rcases h : rNum st with ⟨n, _ | r⟩
  · cases st with
    | none => simp [rNum] at h; simp [← h]
    | some l =>
      rw [rNum_some] at h
      by_cases hk : okv l
      · rw [if_pos hk] at h; simp at h
      · rw [if_neg hk] at h; simp at h; simp [← h]
  · exact (rNum_back st n r h).2

theorem unzig_zig (n : Int) : unzig (zig n) = n := by
  unfold unzig zig
  by_cases h : n < 0
  · rw [if_pos h, if_pos (by omega)]; omega
  · rw [if_neg h, if_neg (by omega)]; omega
theorem zig_unzig (u : Nat) : zig (unzig u) = u := by
  unfold unzig zig
  by_cases h : u % 2 = 1
  · rw [if_pos h, if_pos (by omega)]; omega
  · rw [if_neg h, if_neg (by omega)]; omega
theorem inR_iff (n : Int) : inR n = true ↔ -1152921504606846976 ≤ n ∧ n ≤ 1152921504606846976 := by unfold inR; exact decide_eq_true_iff
theorem zig_lt (n : Int) (h : inR n = true) : zig n < 9223372036854775808 := by
  rw [inR_iff] at h
  unfold zig
  split <;> omega
theorem intE_in (n : Int) (h : inR n = true) : intE n = vint (zig n) := by unfold intE; rw [if_pos h]
theorem rInt_intE (n : Int) (r : List UInt8) (h : inR n = true) : rInt (some (intE n ++ r)) = (n, some r) := by
  unfold rInt
  rw [intE_in n h, rNum_vint _ r (zig_lt n h)]
  simp only [unzig_zig, h, if_true]
theorem rInt_back (st : St) (n : Int) (r : List UInt8) (h : rInt st = (n, some r)) : st = some (intE n ++ r) ∧ inR n = true := by
  unfold rInt at h
  by_cases hi : inR (unzig (rNum st).1) = true
  · rw [if_pos hi] at h
    simp only [Prod.mk.injEq] at h
    obtain ⟨h1, h2⟩ := h
    have h3 := rNum_back st (rNum st).1 r (by rw [← h2])
    rw [h1] at hi
    refine ⟨?_, hi⟩
    rw [intE_in n hi, ← h1, zig_unzig]; exact h3.1
  · rw [if_neg hi] at h; simp at h
theorem rText_textE (s r : List UInt8) (h : s.length < 9223372036854775808) : rText (some (textE s ++ r)) = (s, some r) := by
  unfold rText textE
  rw [List.append_assoc, rNum_vint _ _ h]
  simp only [rTake_eq, Int.toNat_natCast]
  rw [if_pos (by simp only [List.length_append]; omega), List.take_left' rfl, List.drop_left' rfl]
theorem rTake_some (n : Int) (st : St) (s r : List UInt8) (h : rTake n st = (s, some r)) : st = some (s ++ r) ∧ (s.length : Int) = n := by
  cases st with
  | none => simp [rTake] at h
  | some l =>
    rw [rTake_eq] at h
    by_cases hn : 0 ≤ n ∧ n ≤ (l.length : Int)
    · rw [if_pos hn] at h
      simp only [Prod.mk.injEq, Option.some.injEq] at h
      obtain ⟨rfl, rfl⟩ := h
      exact ⟨by rw [List.take_append_drop], by rw [List.length_take]; omega⟩
    · rw [if_neg hn] at h; simp at h
theorem rText_back (st : St) (s r : List UInt8) (h : rText st = (s, some r)) : st = some (textE s ++ r) ∧ s.length < 9223372036854775808 := by
  unfold rText at h
  obtain ⟨h1, h2⟩ := rTake_some _ _ _ _ h
  have h3 := rNum_back st (rNum st).1 (s ++ r) (by rw [← h1])
  have h4 : (rNum st).1 = s.length := by omega
  rw [h4] at h3
  exact ⟨by rw [h3.1]; unfold textE; rw [List.append_assoc], h3.2⟩

theorem rMany_fwd {α : Type} (f : St → α × St) (enc : α → List UInt8) (xs : List α) (r : List UInt8) (hf : ∀ x ∈ xs, ∀ r, f (some (enc x ++ r)) = (x, some r)) (k : Nat) (hk : k ≤ xs.length) :
    rMany f k (some (xs.flatMap enc ++ r)) = (xs.take k, some ((xs.drop k).flatMap enc ++ r)) := by
  induction k with
  | zero => simp [rMany]
  | succ k ih =>
    rw [rMany, ih (by omega)]
    have hx : xs.drop k = xs[k] :: xs.drop (k + 1) := List.drop_eq_getElem_cons (by omega)
    simp only [hx, List.flatMap_cons, List.append_assoc]
    rw [hf _ (List.getElem_mem _)]
    simp only [Prod.mk.injEq, and_true]
    rw [List.take_succ_eq_append_getElem (by omega)]
theorem rMany_back {α : Type} (f : St → α × St) (enc : α → List UInt8) (ok : α → Prop) (hf : ∀ st x r, f st = (x, some r) → st = some (enc x ++ r) ∧ ok x) (k : Nat) (st : St) (xs : List α) (r : List UInt8)
    (h : rMany f k st = (xs, some r)) : st = some (xs.flatMap enc ++ r) ∧ xs.length = k ∧ ∀ x ∈ xs, ok x := by
  induction k generalizing xs r with
  | zero => simp only [rMany, Prod.mk.injEq] at h; obtain ⟨rfl, rfl⟩ := h; simp
  | succ k ih =>
    rw [rMany] at h
    rcases hm : rMany f k st with ⟨ys, _ | q⟩
    · rw [hm] at h; simp at h
    · rw [hm] at h
      simp only [Prod.mk.injEq] at h
      obtain ⟨h1, h2⟩ := h
      obtain ⟨h3, h4, h5⟩ := ih ys q hm
      have h6 := hf (some q) (f (some q)).1 r (by rw [← h2])
      simp only [Option.some.injEq] at h6
      refine ⟨?_, ?_, ?_⟩
      · rw [h3, ← h1, List.flatMap_append]; simp only [List.flatMap_cons, List.flatMap_nil, List.append_nil, List.append_assoc]; rw [← h6.1]
      · rw [← h1, List.length_append, h4]; rfl
      · intro x hx
        rw [← h1, List.mem_append] at hx
        rcases hx with hx | hx
        · exact h5 x hx
        · rw [List.mem_singleton] at hx; rw [hx]; exact h6.2
theorem flatMap_len {α : Type} (enc : α → List UInt8) (xs : List α) (h : ∀ x ∈ xs, 1 ≤ (enc x).length) : xs.length ≤ (xs.flatMap enc).length := by
  induction xs with
  | nil => simp
  | cons x xs ih =>
    simp only [List.length_cons, List.flatMap_cons, List.length_append]
    have h1 := h x (by simp)
    have h2 := ih (fun y hy => h y (by simp [hy]))
    omega
theorem rSeq_fwd {α : Type} (f : St → α × St) (enc : α → List UInt8) (xs : List α) (r : List UInt8) (hf : ∀ x ∈ xs, ∀ r, f (some (enc x ++ r)) = (x, some r)) (h1 : ∀ x ∈ xs, 1 ≤ (enc x).length) (hl : xs.length < 9223372036854775808) :
    rSeq f (some ((vint xs.length ++ xs.flatMap enc) ++ r)) = (xs, some r) := by
  unfold rSeq
  rw [List.append_assoc, rNum_vint _ _ hl]
  have := flatMap_len enc xs h1
  simp only
  rw [if_pos (by rw [List.length_append]; omega), rMany_fwd f enc xs r hf xs.length (Nat.le_refl _)]
  simp [shut]
theorem rSeq_back {α : Type} (f : St → α × St) (enc : α → List UInt8) (ok : α → Prop) (hf : ∀ st x r, f st = (x, some r) → st = some (enc x ++ r) ∧ ok x) (st : St) (xs : List α) (r : List UInt8)
    (h : rSeq f st = (xs, some r)) : st = some ((vint xs.length ++ xs.flatMap enc) ++ r) ∧ xs.length < 9223372036854775808 ∧ ∀ x ∈ xs, ok x := by
  unfold rSeq at h
  rcases hn : rNum st with ⟨n, _ | q⟩
  · rw [hn] at h; simp at h
  · rw [hn] at h
    simp only at h
    by_cases hq : n ≤ q.length
    · rw [if_pos hq] at h
      rcases hm : rMany f n (some q) with ⟨ys, _ | q2⟩
      · rw [hm] at h; simp [shut] at h
      · rw [hm] at h
        simp only [shut, Prod.mk.injEq, Option.some.injEq] at h
        obtain ⟨rfl, rfl⟩ := h
        obtain ⟨h1, h2, h3⟩ := rMany_back f enc ok hf n (some q) ys q2 hm
        obtain ⟨h4, h5⟩ := rNum_back st n q hn
        simp only [Option.some.injEq] at h1
        subst h2
        exact ⟨by rw [h4, h1, List.append_assoc], h5, h3⟩
    · rw [if_neg hq] at h; simp at h
theorem intE_pos (n : Int) (h : inR n = true) : 1 ≤ (intE n).length := by rw [intE_in n h]; exact vint_pos _
theorem textE_pos (s : List UInt8) : 1 ≤ (textE s).length := by unfold textE; rw [List.length_append]; have := vint_pos s.length; omega
theorem rList_listE (l : List (List UInt8)) (r : List UInt8) (h : ∀ s ∈ l, s.length < 9223372036854775808) (hl : l.length < 9223372036854775808) : rList (some (listE l ++ r)) = (l, some r) :=
  rSeq_fwd rText textE l r (fun x hx r => rText_textE x r (h x hx)) (fun x _ => textE_pos x) hl
theorem rList_back (st : St) (l : List (List UInt8)) (r : List UInt8) (h : rList st = (l, some r)) : st = some (listE l ++ r) ∧ l.length < 9223372036854775808 ∧ ∀ s ∈ l, s.length < 9223372036854775808 :=
  rSeq_back rText textE (fun s => s.length < 9223372036854775808) rText_back st l r h
theorem rNums_numsE (l : List Int) (r : List UInt8) (h : ∀ n ∈ l, inR n = true) (hl : l.length < 9223372036854775808) : rNums (some (numsE l ++ r)) = (l, some r) :=
  rSeq_fwd rInt intE l r (fun x hx r => rInt_intE x r (h x hx)) (fun x hx => intE_pos x (h x hx)) hl
theorem rNums_back (st : St) (l : List Int) (r : List UInt8) (h : rNums st = (l, some r)) : st = some (numsE l ++ r) ∧ l.length < 9223372036854775808 ∧ ∀ n ∈ l, inR n = true :=
  rSeq_back rInt intE (fun n => inR n = true) rInt_back st l r h

end Go.Proofs.YtgamkahbebnnaaaDoor
