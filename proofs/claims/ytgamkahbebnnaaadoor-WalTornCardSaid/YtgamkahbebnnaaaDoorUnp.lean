import Derived.Test.YtgamkahbebnnaaaDoorUse
/-
  Plain mathematics of layer 4: the longest match, packing and unpacking as functions on lists of bytes; unpacking inverts packing, no proper prefix and nothing longer is accepted, and the bounds on the size.
-/
namespace Go.Proofs.YtgamkahbebnnaaaDoor

/-- How far two lists agree from their beginnings. -/
def cpl : List UInt8 → List UInt8 → Nat
  | a :: r, b :: s => if a = b then cpl r s + 1 else 0
  | _, _ => 0
def run (l : List UInt8) (i d : Nat) : Nat := cpl (l.drop i) (l.drop (i - d))
def best (l : List UInt8) (i : Nat) : Nat → Nat × Nat
  | 0 => (0, 0)
  | d + 1 => if (best l i d).1 < run l i (d + 1) then (run l i (d + 1), d + 1) else best l i d
def longestE (l : List UInt8) (i : Nat) : Nat × Nat := best l i (min i 4096)
def lit (s : List UInt8) : List UInt8 := if s = [] then [] else vint (2 * s.length) ++ s
def go (l : List UInt8) (f i : Nat) : List UInt8 :=
  if i < l.length then
    if (longestE l i).1 < 4 then go l f (i + 1)
    else lit ((l.take i).drop f) ++ (vint (2 * (longestE l i).1 + 1) ++ (vint (longestE l i).2 ++ go l (i + (longestE l i).1) (i + (longestE l i).1)))
  else lit (l.drop f)
termination_by l.length - i
decreasing_by all_goals omega
def packE (l : List UInt8) : List UInt8 := if 16777216 < l.length then [] else vint l.length ++ go l 0 0

def copy (out : List UInt8) (d : Nat) : Nat → List UInt8
  | 0 => out
  | k + 1 => copy out d k ++ [(copy out d k).getD ((copy out d k).length - d) 0]
theorem copy_length (out : List UInt8) (d k : Nat) : (copy out d k).length = out.length + k := by
  induction k with
  | zero => rfl
  | succ k ih => simp only [copy, List.length_append, ih, List.length_singleton]; omega
def unp (n : Nat) (out : List UInt8) (st : St) : Option (List UInt8 × St) :=
  if out.length < n then
    if (rNum st).1 / 2 < 1 ∨ n - out.length < (rNum st).1 / 2 then none
    else if (rNum st).1 % 2 = 0 then
      if (rTake ((rNum st).1 / 2 : Nat) (rNum st).2).1.length ≠ (rNum st).1 / 2 then none
      else unp n (out ++ (rTake ((rNum st).1 / 2 : Nat) (rNum st).2).1) (rTake ((rNum st).1 / 2 : Nat) (rNum st).2).2
    else if (rNum (rNum st).2).1 < 1 ∨ out.length < (rNum (rNum st).2).1 then none
    else unp n (copy out (rNum (rNum st).2).1 ((rNum st).1 / 2)) (rNum (rNum st).2).2
  else some (out, st)
termination_by n - out.length
decreasing_by
  · rw [List.length_append]; omega
  · rw [copy_length]; omega
def doneE : St → Bool
  | none => false
  | some l => l.isEmpty
def endE : Option (List UInt8 × St) → Option (List UInt8)
  | none => none
  | some (out, st) => if doneE st = true then some out else none
def unpackE (l : List UInt8) : Option (List UInt8) :=
  if 16777216 < (rNum (some l)).1 then none else endE (unp (rNum (some l)).1 [] (rNum (some l)).2)

theorem cpl_le_left (a b : List UInt8) : cpl a b ≤ a.length := by
  induction a generalizing b with
  | nil => simp [cpl]
  | cons x r ih =>
    cases b with
    | nil => simp [cpl]
    | cons y s => simp only [cpl]; split <;> simp only [List.length_cons]; have := ih s; omega; omega
theorem cpl_at (a b : List UInt8) (j : Nat) (h : j < cpl a b) : a[j]? = b[j]? ∧ j < a.length ∧ j < b.length := by
  induction a generalizing b j with
  | nil => simp [cpl] at h
  | cons x r ih =>
    cases b with
    | nil => simp [cpl] at h
    | cons y s =>
      simp only [cpl] at h
      by_cases e : x = y
      · rw [if_pos e] at h
        cases j with
        | zero => simp [e]
        | succ j => have := ih s j (by omega); simpa using this
      · rw [if_neg e] at h; omega
theorem cpl_ge (a b : List UInt8) (k : Nat) (ha : k ≤ a.length) (hb : k ≤ b.length) (h : ∀ j, j < k → a[j]? = b[j]?) : k ≤ cpl a b := by
  induction a generalizing b k with
  | nil => simp at ha; omega
  | cons x r ih =>
    cases k with
    | zero => omega
    | succ k =>
      cases b with
      | nil => simp at hb
      | cons y s =>
        have h0 := h 0 (by omega)
        simp only [List.getElem?_cons_zero, Option.some.injEq] at h0
        simp only [cpl]
        rw [if_pos h0]
        have := ih s k (by simpa using ha) (by simpa using hb) (fun j hj => by have := h (j + 1) (by omega); simpa using this)
        omega
theorem cpl_stop (a b : List UInt8) (ha : cpl a b < a.length) (hb : cpl a b < b.length) : a[cpl a b]? ≠ b[cpl a b]? := by
  induction a generalizing b with
  | nil => simp at ha
  | cons x r ih =>
    cases b with
    | nil => simp at hb
    | cons y s =>
      simp only [cpl] at ha hb ⊢
      by_cases e : x = y
      · rw [if_pos e] at ha hb ⊢
        have := ih s (by simpa using ha) (by simpa using hb)
        simpa using this
      · rw [if_neg e]; simpa using e
theorem run_stop (l : List UInt8) (i d : Nat) (h : i + run l i d < l.length) : l[i + run l i d]? ≠ l[i - d + run l i d]? := by
  have := cpl_stop (l.drop i) (l.drop (i - d)) (by rw [List.length_drop]; unfold run at h; omega) (by rw [List.length_drop]; unfold run at h; omega)
  rw [List.getElem?_drop, List.getElem?_drop] at this
  exact this
theorem best_step (l : List UInt8) (i d : Nat) (h : 1 ≤ d) : best l i d = if (best l i (d - 1)).1 < run l i d then (run l i d, d) else best l i (d - 1) := by
  obtain ⟨m, rfl⟩ : ∃ m, d = m + 1 := ⟨d - 1, by omega⟩
  rfl
theorem run_le (l : List UInt8) (i d : Nat) : run l i d ≤ l.length - i := by
  have := cpl_le_left (l.drop i) (l.drop (i - d)); rw [List.length_drop] at this; exact this
theorem run_at (l : List UInt8) (i d j : Nat) (h : j < run l i d) : l[i + j]? = l[i - d + j]? ∧ i + j < l.length := by
  obtain ⟨h1, h2, -⟩ := cpl_at _ _ j h
  rw [List.getElem?_drop, List.getElem?_drop] at h1
  rw [List.length_drop] at h2
  exact ⟨h1, by omega⟩
theorem run_ge (l : List UInt8) (i d k : Nat) (hk : i + k ≤ l.length) (h : ∀ j, j < k → l[i + j]? = l[i - d + j]?) : k ≤ run l i d := by
  refine cpl_ge _ _ k (by rw [List.length_drop]; omega) (by rw [List.length_drop]; omega) fun j hj => ?_
  rw [List.getElem?_drop, List.getElem?_drop]; exact h j hj
/-- The match that was found is one: its distance is in bounds, and its length is that distance's. -/
theorem best_is (l : List UInt8) (i m : Nat) (h : 1 ≤ (best l i m).1) : 1 ≤ (best l i m).2 ∧ (best l i m).2 ≤ m ∧ (best l i m).1 = run l i (best l i m).2 := by
  induction m with
  | zero => simp [best] at h
  | succ m ih =>
    simp only [best] at h ⊢
    split at h <;> rename_i hc
    · rw [if_pos hc]; exact ⟨by omega, by omega, rfl⟩
    · rw [if_neg hc]
      obtain ⟨h1, h2, h3⟩ := ih h
      exact ⟨h1, by omega, h3⟩
theorem best_max (l : List UInt8) (i m d : Nat) (h1 : 1 ≤ d) (h2 : d ≤ m) : run l i d ≤ (best l i m).1 := by
  induction m with
  | zero => omega
  | succ m ih =>
    simp only [best]
    split <;> rename_i hc
    · by_cases hd : d = m + 1
      · subst hd; exact Nat.le_refl _
      · have := ih (by omega); simp only; omega
    · by_cases hd : d = m + 1
      · subst hd; omega
      · exact ih (by omega)
theorem best_le (l : List UInt8) (i m : Nat) : (best l i m).1 ≤ l.length - i := by
  induction m with
  | zero => simp [best]
  | succ m ih =>
    simp only [best]
    split
    · exact run_le l i (m + 1)
    · exact ih
theorem longest_is (l : List UInt8) (i : Nat) (h : 1 ≤ (longestE l i).1) : 1 ≤ (longestE l i).2 ∧ (longestE l i).2 ≤ i ∧ (longestE l i).2 ≤ 4096 ∧ (longestE l i).1 = run l i (longestE l i).2 := by
  obtain ⟨h1, h2, h3⟩ := best_is l i _ h
  exact ⟨h1, by unfold longestE; omega, by unfold longestE; omega, h3⟩
theorem longest_le (l : List UInt8) (i : Nat) : (longestE l i).1 ≤ l.length - i := best_le l i _
theorem longest_max (l : List UInt8) (i d : Nat) (h1 : 1 ≤ d) (h2 : d ≤ i) (h3 : d ≤ 4096) : run l i d ≤ (longestE l i).1 := best_max l i _ d h1 (by omega)

theorem go_end (l : List UInt8) (f i : Nat) (h : ¬ i < l.length) : go l f i = lit (l.drop f) := by rw [go, if_neg h]
theorem go_lit (l : List UInt8) (f i : Nat) (h : i < l.length) (hk : (longestE l i).1 < 4) : go l f i = go l f (i + 1) := by rw [go, if_pos h, if_pos hk]
theorem go_match (l : List UInt8) (f i : Nat) (h : i < l.length) (hk : ¬ (longestE l i).1 < 4) :
    go l f i = lit ((l.take i).drop f) ++ (vint (2 * (longestE l i).1 + 1) ++ (vint (longestE l i).2 ++ go l (i + (longestE l i).1) (i + (longestE l i).1))) := by
  rw [go, if_pos h, if_neg hk]

/-- Copying a match gives the string back. -/
theorem copy_take (l : List UInt8) (i d k : Nat) (h1 : 1 ≤ d) (h2 : d ≤ i) (hk : k ≤ run l i d) : copy (l.take i) d k = l.take (i + k) := by
  induction k with
  | zero => rfl
  | succ k ih =>
    have ih := ih (by omega)
    obtain ⟨e, hlt⟩ := run_at l i d k (by omega)
    have hlen : (l.take (i + k)).length = i + k := by rw [List.length_take]; omega
    simp only [copy, ih, hlen]
    rw [← Nat.add_assoc, List.take_succ_eq_append_getElem hlt]
    congr 2
    rw [List.getD_eq_getElem?_getD, List.getElem?_take_of_lt (by omega), show i + k - d = i - d + k by omega, ← e, List.getElem?_eq_getElem hlt]
    rfl
theorem unp_end (n : Nat) (out : List UInt8) (st : St) (h : ¬ out.length < n) : unp n out st = some (out, st) := by rw [unp, if_neg h]
theorem unp_lit (n : Nat) (out s : List UInt8) (R : List UInt8) (hs : s ≠ []) (hn : out.length + s.length ≤ n) (hb : n ≤ 16777216) :
    unp n out (some (vint (2 * s.length) ++ (s ++ R))) = unp n (out ++ s) (some R) := by
  have hp : 1 ≤ s.length := by cases s; exact absurd rfl hs; simp
  have e1 : rNum (some (vint (2 * s.length) ++ (s ++ R))) = (2 * s.length, some (s ++ R)) := rNum_vint _ _ (by omega)
  have e2 : 2 * s.length / 2 = s.length := by omega
  have e3 : rTake ((s.length : Nat) : Int) (some (s ++ R)) = (s, some R) := by
    rw [rTake_eq, if_pos (by rw [List.length_append]; omega), Int.toNat_natCast, List.take_left' rfl, List.drop_left' rfl]
  rw [unp, if_pos (by omega)]
  simp only [e1, e2, e3]
  rw [if_neg (by omega), if_pos (by omega), if_neg (by simp)]
theorem unp_match (n : Nat) (out : List UInt8) (k d : Nat) (R : List UInt8) (hk : 1 ≤ k) (hn : out.length + k ≤ n) (hb : n ≤ 16777216) (h1 : 1 ≤ d) (h2 : d ≤ out.length) :
    unp n out (some (vint (2 * k + 1) ++ (vint d ++ R))) = unp n (copy out d k) (some R) := by
  have e1 : rNum (some (vint (2 * k + 1) ++ (vint d ++ R))) = (2 * k + 1, some (vint d ++ R)) := rNum_vint _ _ (by omega)
  have e2 : (2 * k + 1) / 2 = k := by omega
  have e3 : rNum (some (vint d ++ R)) = (d, some R) := rNum_vint _ _ (by omega)
  rw [unp, if_pos (by omega)]
  simp only [e1, e2, e3]
  rw [if_neg (by omega), if_neg (by omega), if_neg (by omega)]
theorem unp_litE (n : Nat) (out s : List UInt8) (R : List UInt8) (hn : out.length + s.length ≤ n) (hb : n ≤ 16777216) :
    unp n out (some (lit s ++ R)) = unp n (out ++ s) (some R) := by
  unfold lit
  by_cases hs : s = []
  · rw [if_pos hs, hs]; simp
  · rw [if_neg hs, List.append_assoc]; exact unp_lit n out s R hs hn hb
theorem unp_go (l : List UInt8) (R : List UInt8) (hb : l.length ≤ 16777216) (f i : Nat) (hf : f ≤ i) (hi : i ≤ l.length) : unp l.length (l.take f) (some (go l f i ++ R)) = some (l, some R) := by
  induction hm : l.length - i using Nat.strongRecOn generalizing f i with
  | _ m ih =>
    by_cases hlt : i < l.length
    · by_cases hk : (longestE l i).1 < 4
      · rw [go_lit l f i hlt hk]
        exact ih (l.length - (i + 1)) (by omega) f (i + 1) (by omega) (by omega) rfl
      · obtain ⟨h1, h2, h3, h4⟩ := longest_is l i (by omega)
        have h5 := longest_le l i
        rw [go_match l f i hlt hk, List.append_assoc, unp_litE _ _ _ _ (by rw [List.length_drop, List.length_take, List.length_take]; omega) hb]
        have e : l.take f ++ (l.take i).drop f = l.take i := by
          have := List.take_append_drop f (l.take i)
          rwa [List.take_take, Nat.min_eq_left hf] at this
        rw [e, List.append_assoc, List.append_assoc, unp_match _ _ _ _ _ (by omega) (by rw [List.length_take]; omega) hb h1 (by rw [List.length_take]; omega)]
        rw [copy_take l i _ _ h1 h2 (by omega)]
        exact ih (l.length - (i + (longestE l i).1)) (by omega) _ _ (Nat.le_refl _) (by omega) rfl
    · rw [go_end l f i hlt, unp_litE _ _ _ _ (by rw [List.length_drop, List.length_take]; omega) hb, List.take_append_drop, unp_end _ _ _ (by omega)]
theorem pack_in (l : List UInt8) (h : l.length ≤ 16777216) : packE l = vint l.length ++ go l 0 0 := by unfold packE; rw [if_neg (by omega)]
/-- Unpacking inverts packing, and accepts nothing behind it. -/
theorem unpack_pack (l R : List UInt8) (h : l.length ≤ 16777216) : unpackE (packE l ++ R) = if R = [] then some l else none := by
  rw [pack_in l h, List.append_assoc]
  unfold unpackE
  rw [rNum_vint _ _ (by omega)]
  simp only
  rw [if_neg (by omega)]
  have := unp_go l R h 0 0 (Nat.le_refl _) (by omega)
  rw [List.take_zero] at this
  rw [this]
  cases R <;> simp [endE, doneE]
theorem unpack_back (l : List UInt8) (h : l.length ≤ 16777216) : unpackE (packE l) = some l := by
  have := unpack_pack l [] h
  simpa using this

theorem rNum_more (a R b : List UInt8) (n : Nat) (h : rNum (some a) = (n, some b)) : rNum (some (a ++ R)) = (n, some (b ++ R)) := by
  obtain ⟨h1, h2⟩ := rNum_back _ _ _ h
  simp only [Option.some.injEq] at h1
  rw [h1, List.append_assoc]
  exact rNum_vint _ _ h2
theorem rTake_more (n : Int) (a R s b : List UInt8) (h : rTake n (some a) = (s, some b)) : rTake n (some (a ++ R)) = (s, some (b ++ R)) := by
  obtain ⟨h1, h2⟩ := rTake_some _ _ _ _ h
  simp only [Option.some.injEq] at h1
  rw [h1, List.append_assoc, rTake_eq, if_pos (by rw [List.length_append]; omega), ← h2, Int.toNat_natCast, List.take_left' rfl, List.drop_left' rfl]
theorem rNum_none1 (a : List UInt8) (h : (rNum (some a)).2 = none) : (rNum (some a)).1 = 0 := by
  rw [rNum_some] at h ⊢
  split at h
  · simp at h
  · rename_i hk; rw [if_neg hk]
theorem unp_none (n : Nat) (out : List UInt8) (h : out.length < n) : unp n out none = none := by
  rw [unp, if_pos h]; simp [rNum]
theorem unp_more (n : Nat) (out : List UInt8) (a R o b : List UInt8) (h : unp n out (some a) = some (o, some b)) : unp n out (some (a ++ R)) = some (o, some (b ++ R)) := by
  induction hm : n - out.length using Nat.strongRecOn generalizing out a with
  | _ m ih =>
    by_cases hlt : out.length < n
    · rcases hN : rNum (some a) with ⟨t, _ | r⟩
      · have := rNum_none1 a (by rw [hN])
        rw [hN] at this
        simp only at this
        rw [unp, if_pos hlt, hN, this] at h
        simp at h
      · have hM := rNum_more a R r t hN
        rw [unp, if_pos hlt] at h ⊢
        simp only [hN, hM] at h ⊢
        by_cases h1 : t / 2 < 1 ∨ n - out.length < t / 2
        · rw [if_pos h1] at h; simp at h
        · rw [if_neg h1] at h ⊢
          by_cases h2 : t % 2 = 0
          · rw [if_pos h2] at h ⊢
            rcases hT : rTake ((t / 2 : Nat) : Int) (some r) with ⟨s, _ | r'⟩
            · rw [hT] at h
              simp only at h
              have : s = [] := by
                rw [rTake_eq] at hT
                split at hT
                · simp at hT
                · simp only [Prod.mk.injEq] at hT; exact hT.1.symm
              rw [this, if_pos (by simp; omega)] at h
              simp at h
            · have hT2 := rTake_more _ r R s r' hT
              simp only [hT, hT2] at h ⊢
              by_cases h3 : s.length ≠ t / 2
              · rw [if_pos h3] at h; simp at h
              · rw [if_neg h3] at h ⊢
                exact ih (n - (out ++ s).length) (by rw [List.length_append]; omega) (out ++ s) r' h rfl
          · rw [if_neg h2] at h ⊢
            rcases hD : rNum (some r) with ⟨d, _ | r'⟩
            · have := rNum_none1 r (by rw [hD])
              rw [hD] at this
              simp only at this
              rw [hD, this] at h
              simp at h
            · have hD2 := rNum_more r R r' d hD
              simp only [hD, hD2] at h ⊢
              by_cases h3 : d < 1 ∨ out.length < d
              · rw [if_pos h3] at h; simp at h
              · rw [if_neg h3] at h ⊢
                exact ih (n - (copy out d (t / 2)).length) (by rw [copy_length]; omega) _ r' h rfl
    · rw [unp_end _ _ _ hlt] at h ⊢
      simp only [Option.some.injEq, Prod.mk.injEq] at h ⊢
      exact ⟨h.1, by rw [h.2]⟩
/-- No proper prefix of a packed string is one. -/
theorem unpack_cut (l p q : List UInt8) (h : l.length ≤ 16777216) (e : packE l = p ++ q) (hq : q ≠ []) : unpackE p = none := by
  unfold unpackE
  rcases hN : rNum (some p) with ⟨n, _ | r⟩
  · have := rNum_none1 p (by rw [hN])
    rw [hN] at this
    simp only at this
    subst this
    simp only
    rw [if_neg (by omega), unp_end _ _ _ (by simp)]
    simp [endE, doneE]
  · simp only
    have hM := rNum_more p q r n hN
    rw [← e, pack_in l h, rNum_vint _ _ (by omega)] at hM
    simp only [Prod.mk.injEq, Option.some.injEq] at hM
    obtain ⟨rfl, hr⟩ := hM
    rw [if_neg (by omega)]
    have hg := unp_go l [] h 0 0 (Nat.le_refl _) (by omega)
    rw [List.take_zero, List.append_nil, hr] at hg
    rcases hu : unp l.length [] (some r) with _ | ⟨o, _ | b⟩
    · simp [endE]
    · simp [endE, doneE]
    · have := unp_more _ _ r q o b hu
      rw [hg] at this
      simp only [Option.some.injEq, Prod.mk.injEq] at this
      simp only [endE, doneE]
      cases b with
      | nil => exact absurd (by simpa using this.2.symm) hq
      | cons x b => simp

theorem vint_two (m : Nat) (h : m < 16384) : (vint m).length ≤ 2 := vint_len 1 m h
theorem vint_half (m : Nat) (h : 1 ≤ m) (hb : m ≤ 16777216) : (vint (2 * m)).length ≤ m := by
  by_cases h1 : m < 64
  · rw [vint_small _ (by omega)]; simpa using h
  · have := vint_len 3 (2 * m) (by omega); omega
theorem vint_odd (m : Nat) (h : 3 ≤ m) (hb : m ≤ 16777216) : (vint (2 * m + 1)).length ≤ m - 2 := by
  by_cases h1 : m < 64
  · rw [vint_small _ (by omega)]; simp; omega
  · have := vint_len 3 (2 * m + 1) (by omega); omega
theorem lit_le (s : List UInt8) (h : s.length ≤ 16777216) : (lit s).length ≤ 2 * s.length := by
  unfold lit
  split
  · simp
  · rename_i hs
    have hp : 1 ≤ s.length := by cases s; exact absurd rfl hs; simp
    have := vint_half s.length hp h
    rw [List.length_append]; omega
theorem mid_length (l : List UInt8) (f i : Nat) (hi : i ≤ l.length) : ((l.take i).drop f).length = i - f := by rw [List.length_drop, List.length_take]; omega
theorem go_le (l : List UInt8) (hb : l.length ≤ 16777216) (f i : Nat) (hf : f ≤ i) (hi : i ≤ l.length) : (go l f i).length ≤ 2 * (l.length - f) := by
  induction hm : l.length - i using Nat.strongRecOn generalizing f i with
  | _ m ih =>
    by_cases hlt : i < l.length
    · by_cases hk : (longestE l i).1 < 4
      · rw [go_lit l f i hlt hk]
        exact ih (l.length - (i + 1)) (by omega) f (i + 1) (by omega) (by omega) rfl
      · obtain ⟨h1, h2, h3, h4⟩ := longest_is l i (by omega)
        have h5 := longest_le l i
        have a1 := lit_le ((l.take i).drop f) (by rw [mid_length l f i hi]; omega)
        rw [mid_length l f i hi] at a1
        have a2 := vint_odd (longestE l i).1 (by omega) (by omega)
        have a3 := vint_two (longestE l i).2 (by omega)
        have a4 := ih (l.length - (i + (longestE l i).1)) (by omega) _ _ (Nat.le_refl _) (by omega) rfl
        rw [go_match l f i hlt hk]
        simp only [List.length_append]
        omega
    · rw [go_end l f i hlt]
      have := lit_le (l.drop f) (by rw [List.length_drop]; omega)
      rw [List.length_drop] at this
      exact this
theorem pack_le (l : List UInt8) (h : l.length ≤ 16777216) : (packE l).length ≤ 2 * l.length + 4 := by
  rw [pack_in l h, List.length_append]
  have a := go_le l h 0 0 (Nat.le_refl _) (by omega)
  have b := vint_len 3 l.length (by omega)
  omega

/-- n times l. -/
def reps (l : List UInt8) : Nat → List UInt8
  | 0 => []
  | n + 1 => reps l n ++ l
theorem reps_length (l : List UInt8) (n : Nat) : (reps l n).length = n * l.length := by
  induction n with
  | zero => simp [reps]
  | succ n ih => simp only [reps, List.length_append, ih, Nat.succ_mul]
theorem reps_front (l : List UInt8) (n : Nat) : reps l (n + 1) = l ++ reps l n := by
  induction n with
  | zero => simp [reps]
  | succ n ih =>
    have : reps l (n + 1 + 1) = reps l (n + 1) ++ l := rfl
    rw [this]
    conv => lhs; rw [ih, List.append_assoc]
    rfl
theorem reps_at (l : List UInt8) (n k : Nat) (h : k + l.length < (reps l n).length) : (reps l n)[k + l.length]? = (reps l n)[k]? := by
  cases n with
  | zero => simp [reps] at h
  | succ n =>
    have e1 : (reps l (n + 1))[k + l.length]? = (reps l n)[k]? := by
      rw [reps_front, List.getElem?_append_right (by omega), Nat.add_sub_cancel]
    rw [e1]
    have : (reps l (n + 1))[k]? = (reps l n)[k]? := by
      show (reps l n ++ l)[k]? = _
      rw [List.getElem?_append_left]
      rw [reps_length] at h ⊢
      rw [Nat.succ_mul] at h; omega
    exact this.symm
/-- From the first period on, all that is left is one match. -/
theorem longest_reps (s : List UInt8) (n i : Nat) (h1 : 1 ≤ s.length) (h2 : s.length ≤ 4096) (hi : s.length ≤ i) (hl : i ≤ (reps s n).length) : (longestE (reps s n) i).1 = (reps s n).length - i := by
  have a := longest_le (reps s n) i
  have b := longest_max (reps s n) i s.length h1 hi h2
  have c := run_ge (reps s n) i s.length ((reps s n).length - i) (by omega) (fun j hj => by
    have := reps_at s n (i - s.length + j) (by omega)
    rw [show i - s.length + j + s.length = i + j by omega] at this
    exact this)
  omega
theorem lit_small (s : List UInt8) (h : s.length ≤ 60) : (lit s).length ≤ s.length + 1 := by
  unfold lit
  split
  · simp
  · rw [List.length_append, vint_small _ (by omega)]; simp; omega
/-- Behind the first period: what is pending as a literal, and at most four bytes. -/
theorem go_tail (s : List UInt8) (n i : Nat) (h1 : 4 ≤ s.length) (h2 : s.length ≤ 300) (hn : n ≤ 12) (hi : s.length ≤ i) (hl : i ≤ (reps s n).length) : (go (reps s n) i i).length ≤ 4 := by
  have hN : (reps s n).length ≤ 3600 := by
    rw [reps_length]
    calc n * s.length ≤ 12 * 300 := Nat.mul_le_mul hn h2
      _ = 3600 := rfl
  by_cases h4 : (reps s n).length - i < 4
  · have hs : ∀ m, m ≤ 3 → ∀ j, (reps s n).length - j = m → i ≤ j → j ≤ (reps s n).length → go (reps s n) i j = lit ((reps s n).drop i) := by
      intro m
      induction m with
      | zero => intro _ j hj _ _; exact go_end _ _ _ (by omega)
      | succ m ih =>
        intro hm j hj hij hjl
        have := longest_le (reps s n) j
        rw [go_lit _ _ _ (by omega) (by omega)]
        exact ih (by omega) (j + 1) (by omega) (by omega) (by omega)
    rw [hs ((reps s n).length - i) (by omega) i rfl (Nat.le_refl _) hl]
    have := lit_small ((reps s n).drop i) (by rw [List.length_drop]; omega)
    rw [List.length_drop] at this
    omega
  · have e := longest_reps s n i (by omega) (by omega) hi hl
    obtain ⟨-, b, c, -⟩ := longest_is (reps s n) i (by omega)
    rw [go_match _ _ _ (by omega) (by omega)]
    have a1 : lit (((reps s n).take i).drop i) = [] := by
      have : ((reps s n).take i).drop i = [] := by apply List.eq_nil_of_length_eq_zero; rw [mid_length _ _ _ hl]; omega
      rw [this]; rfl
    have a2 := vint_two (2 * (longestE (reps s n) i).1 + 1) (by omega)
    have a3 := vint_two (longestE (reps s n) i).2 (by omega)
    have a4 : go (reps s n) (i + (longestE (reps s n) i).1) (i + (longestE (reps s n) i).1) = [] := by
      rw [go_end _ _ _ (by omega), List.drop_eq_nil_of_le (by omega)]; rfl
    rw [a1, a4]
    simp only [List.length_append, List.length_nil]
    omega
theorem go_reps (s : List UInt8) (n : Nat) (h1 : 4 ≤ s.length) (h2 : s.length ≤ 300) (hn : n ≤ 12) (hn1 : 1 ≤ n) (f i : Nat) (hf : f ≤ i) (hi : i ≤ s.length) : (go (reps s n) f i).length ≤ 2 * (s.length - f) + 8 := by
  have hN : (reps s n).length ≤ 3600 := by
    rw [reps_length]
    calc n * s.length ≤ 12 * 300 := Nat.mul_le_mul hn h2
      _ = 3600 := rfl
  have hm : s.length ≤ (reps s n).length := by
    rw [reps_length]
    calc s.length = 1 * s.length := by omega
      _ ≤ n * s.length := Nat.mul_le_mul_right _ hn1
  induction hk : s.length - i using Nat.strongRecOn generalizing f i with
  | _ m ih =>
    by_cases hlt : i < (reps s n).length
    · by_cases hk4 : (longestE (reps s n) i).1 < 4
      · by_cases hii : i < s.length
        · rw [go_lit _ f i hlt hk4]
          exact ih (s.length - (i + 1)) (by omega) f (i + 1) (by omega) (by omega) rfl
        · -- i = s.length: the rest is longer than a period, or at its end
          have e := longest_reps s n i (by omega) (by omega) (by omega) (by omega)
          have hw : (reps s n).length - i < 4 := by omega
          have : n = 1 := by
            rw [reps_length] at hw hlt
            rcases Nat.lt_or_ge n 2 with h | h
            · omega
            · have := Nat.mul_le_mul_right s.length h
              omega
          rw [this, reps_length] at hlt
          omega
      · obtain ⟨b1, b2, b3, b4⟩ := longest_is (reps s n) i (by omega)
        have h5 := longest_le (reps s n) i
        have a1 := lit_le (((reps s n).take i).drop f) (by rw [mid_length _ f i (by omega)]; omega)
        rw [mid_length _ f i (by omega)] at a1
        have a2 := vint_odd (longestE (reps s n) i).1 (by omega) (by omega)
        have a2' := vint_two (2 * (longestE (reps s n) i).1 + 1) (by omega)
        have a3 := vint_two (longestE (reps s n) i).2 (by omega)
        rw [go_match _ f i hlt hk4]
        simp only [List.length_append]
        by_cases hp : i + (longestE (reps s n) i).1 ≤ s.length
        · have a4 := ih (s.length - (i + (longestE (reps s n) i).1)) (by omega) _ _ (Nat.le_refl _) hp rfl
          omega
        · have a4 := go_tail s n (i + (longestE (reps s n) i).1) h1 h2 hn (by omega) (by omega)
          omega
    · rw [go_end _ f i hlt]
      have := lit_le ((reps s n).drop f) (by rw [List.length_drop]; omega)
      rw [List.length_drop] at this
      omega
theorem pack_reps (s : List UInt8) (n : Nat) (h1 : 4 ≤ s.length) (h2 : s.length ≤ 300) (hn : n ≤ 12) (hn1 : 1 ≤ n) : (packE (reps s n)).length ≤ 2 * s.length + 10 := by
  have hN : (reps s n).length ≤ 3600 := by
    rw [reps_length]
    calc n * s.length ≤ 12 * 300 := Nat.mul_le_mul hn h2
      _ = 3600 := rfl
  rw [pack_in _ (by omega), List.length_append]
  have a := go_reps s n h1 h2 hn hn1 0 0 (Nat.le_refl _) (by omega)
  have b := vint_two (reps s n).length (by omega)
  omega
end Go.Proofs.YtgamkahbebnnaaaDoor
/-
  Small facts that the texts of this stage share: parts of strings, a slice that the call made, the two results of Unpack.
-/
namespace Go.Proofs.YtgamkahbebnnaaaDoor
open Go.RowKit
theorem at_s (s : ByteArray) (k : Nat) (h : k < s.size) : (ls s)[k]? = some s[k] := List.getElem?_eq_getElem (show k < (ls s).length from h)
theorem empty_iff (s : ByteArray) : s.toList.isEmpty = decide (ls s = []) := by
  have : s.toList = ls s := by rw [ByteArray.toList_eq]; rfl
  rw [this]; cases ls s <;> simp
theorem extract_mid (s : ByteArray) (f i : Nat) : ls (s.extract f i) = ((ls s).take i).drop f := by
  show (s.extract f i).data.toList = _
  rw [ByteArray.data_extract, Array.toList_extract, List.extract_eq_take_drop, List.drop_take]
  rfl
theorem extract_end (s : ByteArray) (f : Nat) : ls (s.extract f s.size) = (ls s).drop f := by
  rw [extract_drop]; rfl
theorem size_extract (s : ByteArray) (f i : Nat) (h : i ≤ s.size) : (s.extract f i).size = i - f := by
  rw [ByteArray.size_extract]; omega
theorem mk_append (a b : List UInt8) : mk a ++ mk b = mk (a ++ b) := by
  apply ls_inj
  show (mk a ++ mk b).data.toList = a ++ b
  rw [ByteArray.data_append, Array.toList_append]; rfl
theorem retN {R : Option (List UInt8)} (h : R = none) : Ending.returned (.tuple #[.string ⟨#[]⟩, .bool false]) = Ending.returned (.tuple #[.string (mk (R.getD [])), .bool R.isSome]) := by subst h; rfl
theorem retS {R : Option (List UInt8)} {l : List UInt8} (h : R = some l) : Ending.returned (.tuple #[.string (mk l), .bool true]) = Ending.returned (.tuple #[.string (mk (R.getD [])), .bool R.isSome]) := by subst h; rfl
theorem done_same (st : St) : doneB st = doneE st := by cases st <;> rfl
theorem own_slice {w : World} {base n : Nat} {e : TypeId} {v : Value} {xs : List Value} (h : w.ownsRow base e 1 v n xs) : ∃ A c, v = .slice A n c := by
  rcases h.2 with ⟨rfl, rfl⟩ | ⟨g, cap, cur, rfl, -, -, -⟩
  · exact ⟨none, 0, rfl⟩
  · exact ⟨_, cap, rfl⟩
theorem strCells_bytes (s : List UInt8) : Lib.strCells (mk s) = bytes s := by unfold bytes Lib.strCells mk; simp
theorem addr_add (g n : Nat) : (⟨g, 0, none⟩ : Addr).add n = ⟨g, n, none⟩ := by
  unfold Addr.add; simp; omega
def lenV : Value → Nat
  | .slice _ n _ => n
  | _ => 0
end Go.Proofs.YtgamkahbebnnaaaDoor
/-
  The token of Unpack: as a function on lists, and what the program's token does.
-/
namespace Go.Proofs.YtgamkahbebnnaaaDoor
open Go.RowKit
/-- One token of a packed string, read at the output so far. -/
def tok (n : Nat) (out : List UInt8) (st : St) : Option (List UInt8 × St) :=
  if (rNum st).1 / 2 < 1 ∨ n - out.length < (rNum st).1 / 2 then none
  else if (rNum st).1 % 2 = 0 then
    if (rTake ((rNum st).1 / 2 : Nat) (rNum st).2).1.length ≠ (rNum st).1 / 2 then none
    else some (out ++ (rTake ((rNum st).1 / 2 : Nat) (rNum st).2).1, (rTake ((rNum st).1 / 2 : Nat) (rNum st).2).2)
  else if (rNum (rNum st).2).1 < 1 ∨ out.length < (rNum (rNum st).2).1 then none
  else some (copy out (rNum (rNum st).2).1 ((rNum st).1 / 2), (rNum (rNum st).2).2)
theorem unp_tok (n : Nat) (out : List UInt8) (st : St) (h : out.length < n) : unp n out st = match tok n out st with | none => none | some (o, st') => unp n o st' := by
  rw [unp, if_pos h]
  unfold tok
  by_cases h1 : (rNum st).1 / 2 < 1 ∨ n - out.length < (rNum st).1 / 2
  · rw [if_pos h1, if_pos h1]
  · rw [if_neg h1, if_neg h1]
    by_cases h2 : (rNum st).1 % 2 = 0
    · rw [if_pos h2, if_pos h2]
      by_cases h3 : (rTake ((rNum st).1 / 2 : Nat) (rNum st).2).1.length ≠ (rNum st).1 / 2
      · rw [if_pos h3, if_pos h3]
      · rw [if_neg h3, if_neg h3]
    · rw [if_neg h2, if_neg h2]
      by_cases h3 : (rNum (rNum st).2).1 < 1 ∨ out.length < (rNum (rNum st).2).1
      · rw [if_pos h3, if_pos h3]
      · rw [if_neg h3, if_neg h3]
theorem tok_facts (n : Nat) (out : List UInt8) (st : St) (o : List UInt8) (st' : St) (h : tok n out st = some (o, st')) : out.length < o.length ∧ (out.length < n → o.length ≤ n) ∧ (rest st').length ≤ (rest st).length := by
  unfold tok at h
  by_cases h1 : (rNum st).1 / 2 < 1 ∨ n - out.length < (rNum st).1 / 2
  · rw [if_pos h1] at h; simp at h
  · rw [if_neg h1] at h
    by_cases h2 : (rNum st).1 % 2 = 0
    · rw [if_pos h2] at h
      by_cases h3 : (rTake ((rNum st).1 / 2 : Nat) (rNum st).2).1.length ≠ (rNum st).1 / 2
      · rw [if_pos h3] at h; simp at h
      · rw [if_neg h3] at h
        simp only [Option.some.injEq, Prod.mk.injEq] at h
        obtain ⟨rfl, rfl⟩ := h
        rw [List.length_append]
        exact ⟨by omega, fun _ => by omega, Nat.le_trans (rTake_le _ _) (rNum_le _)⟩
    · rw [if_neg h2] at h
      by_cases h3 : (rNum (rNum st).2).1 < 1 ∨ out.length < (rNum (rNum st).2).1
      · rw [if_pos h3] at h; simp at h
      · rw [if_neg h3] at h
        simp only [Option.some.injEq, Prod.mk.injEq] at h
        obtain ⟨rfl, rfl⟩ := h
        rw [copy_length]
        exact ⟨by omega, fun _ => by omega, Nat.le_trans (rNum_le _) (rNum_le _)⟩
theorem rTake_len (n : Int) (st : St) : (rTake n st).1.length ≤ (rest st).length := by
  cases st with
  | none => simp [rTake]
  | some l =>
    rw [rTake_eq]
    split
    · rw [List.length_take]; exact Nat.min_le_right _ _
    · simp
set_option maxRecDepth 40000 in
set_option maxHeartbeats 2000000 in
theorem token_any (B b n : Nat) (out : List UInt8) (st : St) (A : Option Addr) (c : Nat) (w : World) (hBb : B ≤ b) (hBw : B ≤ w.heap.size) (hn : n ≤ 16777216) (hlt : out.length < n)
    (hsl : (rest st).length ≤ 1000000000) (hRd : Rd w b 106 st) (hO : w.ownsRow B 5 1 (.slice A out.length c) out.length (bytes out)) :
    Calls Tryd.prog 67 #[.pointer (some ⟨b, 0, none⟩), .slice A out.length c, .int .i64 (n : Int)] w fun e w' =>
      (tok n out st = none → ∃ A' k' c', e = .returned (.tuple #[.slice A' k' c', .bool false])) ∧
      (∀ o st', tok n out st = some (o, st') → ∃ A' c', e = .returned (.tuple #[.slice A' o.length c', .bool true]) ∧ w'.ownsRow B 5 1 (.slice A' o.length c') o.length (bytes o) ∧ Rd w' b 106 st') ∧ Below B w w' := by
  obtain ⟨i0, hi, hz0, hz1, hz2⟩ := info_parts info5
  obtain ⟨T0, hT0⟩ : ∃ T0, T0 = tok n out st := ⟨_, rfl⟩
  obtain ⟨t, ht⟩ : ∃ t, t = (rNum st).1 := ⟨_, rfl⟩
  obtain ⟨st1, hst1⟩ : ∃ st1, st1 = (rNum st).2 := ⟨_, rfl⟩
  have htl : t < 9223372036854775808 := by rw [ht]; exact rNum_lt _
  have hsl3 : (rest st1).length ≤ 1000000000 := by rw [hst1]; exact Nat.le_trans (rNum_le st) hsl
  have C := num_any b st w hRd hsl
  rw [← ht, ← hst1] at C
  have C := Lib.hid C
  obtain ⟨k, hk⟩ : ∃ k, k = t / 2 := ⟨_, rfl⟩
  have hkI : (t : Int) / 2 = (k : Int) := by omega
  have hU := hT0
  unfold tok at hU
  rw [← ht, ← hst1, ← hk] at hU
  rw [← hT0]
  have HO := Lib.hid hO
  have HRd := Lib.hid hRd
  have HB := Lib.hid (Below.refl B w)
  clear hO hT0 hRd
  by_cases h1 : k < 1
  · have k1 : decide ((k : Int) < 1) = true := by simp; omega
    have hN : T0 = none := by rw [hU, if_pos (by omega)]
    have HN := Lib.hid hN
    clear hU hk hN ht hst1
    go_enter Tryd.func67, Tryd.ntmps67
    go_wp2_with (first
      | (go_at_call 54; refine (C.out).mono ?_; rintro e w3 ⟨rfl, h3, h4⟩; have H5 := Lib.hid (below_grown HB.out h4 hBb hBw); clear h3 h4))
    go_ret2
    exact ⟨fun _ => ⟨_, _, _, rfl⟩, fun o st' h => by rw [HN.out] at h; simp at h, H5.out⟩
  · have k1 : decide ((k : Int) < 1) = false := by simp; omega
    by_cases h2 : n - out.length < k
    · have k2 : decide ((n : Int) - (out.length : Int) < (k : Int)) = true := by simp; omega
      have hN : T0 = none := by rw [hU, if_pos (by omega)]
      have HN := Lib.hid hN
      clear hU hk hN ht hst1
      go_enter Tryd.func67, Tryd.ntmps67
      go_wp2_with (first
        | (go_at_call 54; refine (C.out).mono ?_; rintro e w3 ⟨rfl, h3, h4⟩; have H5 := Lib.hid (below_grown HB.out h4 hBb hBw); clear h3 h4))
      go_ret2
      exact ⟨fun _ => ⟨_, _, _, rfl⟩, fun o st' h => by rw [HN.out] at h; simp at h, H5.out⟩
    · have k2 : decide ((n : Int) - (out.length : Int) < (k : Int)) = false := by simp; omega
      rw [if_neg (by omega)] at hU
      by_cases he : t % 2 = 0
      · have m1 : ((t : Int) % 2 == 0) = true := by simp; omega
        have m2 : (t : Int) % 2 = 0 := by omega
        rw [if_pos he] at hU
        obtain ⟨s, hs⟩ : ∃ s, s = (rTake (k : Nat) st1).1 := ⟨_, rfl⟩
        obtain ⟨st2, hst2⟩ : ∃ st2, st2 = (rTake (k : Nat) st1).2 := ⟨_, rfl⟩
        have hsl4 : (rest st2).length ≤ 1000000000 := by rw [hst2]; exact Nat.le_trans (rTake_le _ st1) hsl3
        have hsl5 : s.length ≤ 1000000000 := by rw [hs]; exact Nat.le_trans (rTake_len _ st1) hsl3
        have T : Hid (∀ W, Rd W b 106 st1 → Calls Tryd.prog 55 #[.pointer (some ⟨b, 0, none⟩), .int .i64 (k : Int)] W fun e w' => e = .returned (.string (mk s)) ∧ Rd w' b 106 st2 ∧ W.grownBy w' (some b)) := Lib.hid (fun W h => by rw [hs, hst2]; exact take_any b st1 k W h hsl3)
        rw [← hs, ← hst2] at hU
        by_cases h3 : s.length = k
        · have q1 : (((mk s).size : Int) == (k : Int)) = true := by rw [size_mk]; simp; omega
          rw [if_neg (by omega)] at hU
          have HU2 := Lib.hid hU
          have KK := Lib.hid h3
          clear hU hk ht hst1 hs hst2 h3
          go_enter Tryd.func67, Tryd.ntmps67
          go_wp2_with (first
            | (go_at_call 54; refine (C.out).mono ?_; rintro e w3 ⟨rfl, h3, h4⟩; have O5 := Lib.hid (HO.out.kept h4 (.inr (Ne.symm (Is.row_apart HO.out HRd.out (by decide))))); have H5 := Lib.hid (below_grown HB.out h4 hBb hBw); have R5 := Lib.hid h3; clear h3 h4)
            | (go_at_call 55; refine (T.out _ R5.out).mono ?_; rintro e w5 ⟨rfl, h3, h4⟩; have O6 := Lib.hid (O5.out.kept h4 (.inr (Ne.symm (Is.row_apart O5.out R5.out (by decide))))); have H6 := Lib.hid (below_grown H5.out h4 hBb (Nat.le_trans hBw H5.out.size)); have R6 := Lib.hid h3; clear h3 h4)
            | (at_builtin; refine Lib.wpList_append_own_string _ rfl (.tmp 32) (.tmp 33) 57 9 rfl B 5 i0 Tryd.underlying57 Tryd.underlying9 hi hz0 hz1 hz2 (.slice A out.length c) out.length (bytes out) rfl O6.out (mk s) rfl ?c3 ?c4 ?c5 ?_))
          case c3 => simp only [maxLen, size_mk]; omega
          case c4 => simp only [size_mk]; omega
          case c5 => exact Nat.le_trans hBw H6.out.size
          intro v4 w4 hown4 hgr4 _
          obtain ⟨A4, c4, rfl⟩ := own_slice hown4
          have R7 := Lib.hid (Is.kept R6.out hgr4 (Is.row_apart O6.out R6.out (by decide)))
          have B7 := Lib.hid (H6.out.grown hgr4 (Nat.le_trans hBw H6.out.size) (fun j hj => (O6.out.lt j hj).1))
          rw [size_mk] at hown4
          have O7 := Lib.hid (own_cast hown4 (n' := (out ++ s).length) (xs' := bytes (out ++ s)) (by rw [List.length_append]) (by rw [strCells_bytes]; simp [bytes]))
          clear hown4 hgr4
          go_wp2
          go_ret2
          refine ⟨fun h => by rw [HU2.out] at h; simp at h, fun o st' h => ?_, B7.out⟩
          rw [HU2.out] at h
          simp only [Option.some.injEq, Prod.mk.injEq] at h
          obtain ⟨rfl, rfl⟩ := h
          have HV := O7.out
          rw [List.length_append] at HV ⊢
          exact ⟨A4, c4, by simp [size_mk], HV, R7.out⟩
        · have q1 : (((mk s).size : Int) == (k : Int)) = false := by rw [size_mk]; simp; omega
          have hN : T0 = none := by rw [hU, if_pos (by omega)]
          have HN := Lib.hid hN
          have KK := Lib.hid h3
          clear hU hk hN ht hst1 hs hst2 h3
          go_enter Tryd.func67, Tryd.ntmps67
          go_wp2_with (first
            | (go_at_call 54; refine (C.out).mono ?_; rintro e w3 ⟨rfl, h3, h4⟩; have O5 := Lib.hid (HO.out.kept h4 (.inr (Ne.symm (Is.row_apart HO.out HRd.out (by decide))))); have H5 := Lib.hid (below_grown HB.out h4 hBb hBw); have R5 := Lib.hid h3; clear h3 h4)
            | (go_at_call 55; refine (T.out _ R5.out).mono ?_; rintro e w5 ⟨rfl, h3, h4⟩; have O6 := Lib.hid (O5.out.kept h4 (.inr (Ne.symm (Is.row_apart O5.out R5.out (by decide))))); have H6 := Lib.hid (below_grown H5.out h4 hBb (Nat.le_trans hBw H5.out.size)); have R6 := Lib.hid h3; clear h3 h4)
            | (at_builtin; refine Lib.wpList_append_own_string _ rfl (.tmp 32) (.tmp 33) 57 9 rfl B 5 i0 Tryd.underlying57 Tryd.underlying9 hi hz0 hz1 hz2 (.slice A out.length c) out.length (bytes out) rfl O6.out (mk s) rfl ?c3 ?c4 ?c5 ?_))
          case c3 => simp only [maxLen, size_mk]; omega
          case c4 => simp only [size_mk]; omega
          case c5 => exact Nat.le_trans hBw H6.out.size
          intro v4 w4 hown4 hgr4 _
          obtain ⟨A4, c4, rfl⟩ := own_slice hown4
          have B7 := Lib.hid (H6.out.grown hgr4 (Nat.le_trans hBw H6.out.size) (fun j hj => (O6.out.lt j hj).1))
          clear hown4 hgr4
          go_wp2
          go_ret2
          exact ⟨fun _ => ⟨_, _, _, rfl⟩, fun o st' h => by rw [HN.out] at h; simp at h, B7.out⟩
      · have m1 : ((t : Int) % 2 == 0) = false := by simp; omega
        have m2 : ¬ (t : Int) % 2 = 0 := by omega
        rw [if_neg he] at hU
        obtain ⟨d, hd⟩ : ∃ d, d = (rNum st1).1 := ⟨_, rfl⟩
        obtain ⟨st2, hst2⟩ : ∃ st2, st2 = (rNum st1).2 := ⟨_, rfl⟩
        have hdl : d < 9223372036854775808 := by rw [hd]; exact rNum_lt _
        have T : Hid (∀ W, Rd W b 106 st1 → Calls Tryd.prog 54 #[.pointer (some ⟨b, 0, none⟩)] W fun e w' => e = .returned (.int .i64 (d : Nat)) ∧ Rd w' b 106 st2 ∧ W.grownBy w' (some b)) := Lib.hid (fun W h => by rw [hd, hst2]; exact num_any b st1 W h hsl3)
        rw [← hd, ← hst2] at hU
        by_cases h3 : d < 1
        · have d1 : decide ((d : Int) < 1) = true := by simp; omega
          have hN : T0 = none := by rw [hU, if_pos (by omega)]
          have HN := Lib.hid hN
          clear hU hk hN ht hst1 hd hst2
          go_enter Tryd.func67, Tryd.ntmps67
          go_wp2_with (first
            | (go_at_call 54; have H5' := H5; refine (T.out _ R5.out).mono ?_; rintro e w5 ⟨rfl, h3, h4⟩; have H6 := Lib.hid (below_grown H5.out h4 hBb (Nat.le_trans hBw H5.out.size)); clear h3 h4)
            | (go_at_call 54; refine (C.out).mono ?_; rintro e w3 ⟨rfl, h3, h4⟩; have H5 := Lib.hid (below_grown HB.out h4 hBb hBw); have R5 := Lib.hid h3; clear h3 h4))
          go_ret2
          exact ⟨fun _ => ⟨_, _, _, rfl⟩, fun o st' h => by rw [HN.out] at h; simp at h, H6.out⟩
        · have d1 : decide ((d : Int) < 1) = false := by simp; omega
          by_cases h4 : out.length < d
          · have d2 : decide ((out.length : Int) < (d : Int)) = true := by simp; omega
            have hN : T0 = none := by rw [hU, if_pos (by omega)]
            have HN := Lib.hid hN
            clear hU hk hN ht hst1 hd hst2
            go_enter Tryd.func67, Tryd.ntmps67
            go_wp2_with (first
              | (go_at_call 54; have H5' := H5; refine (T.out _ R5.out).mono ?_; rintro e w5 ⟨rfl, h3, h4⟩; have H6 := Lib.hid (below_grown H5.out h4 hBb (Nat.le_trans hBw H5.out.size)); clear h3 h4)
              | (go_at_call 54; refine (C.out).mono ?_; rintro e w3 ⟨rfl, h3, h4⟩; have H5 := Lib.hid (below_grown HB.out h4 hBb hBw); have R5 := Lib.hid h3; clear h3 h4))
            go_ret2
            exact ⟨fun _ => ⟨_, _, _, rfl⟩, fun o st' h => by rw [HN.out] at h; simp at h, H6.out⟩
          · have d2 : decide ((out.length : Int) < (d : Int)) = false := by simp; omega
            rw [if_neg (by omega)] at hU
            have HU2 := Lib.hid hU
            clear hU hk ht hst1 hd hst2
            obtain ⟨g0, cap0, hv0, -⟩ := HO.out.form (by omega)
            obtain ⟨rfl, rfl⟩ : A = some ⟨g0, 0, none⟩ ∧ c = cap0 := by simpa using hv0
            clear hv0
            go_enter Tryd.func67, Tryd.ntmps67
            go_wp2_with (first
              | (go_at_call 54; have H5' := H5; refine (T.out _ R5.out).mono ?_; rintro e w5 ⟨rfl, h3, h4⟩; have O6 := Lib.hid (O5.out.kept h4 (.inr (Ne.symm (Is.row_apart O5.out R5.out (by decide))))); have H6 := Lib.hid (below_grown H5.out h4 hBb (Nat.le_trans hBw H5.out.size)); have R6 := Lib.hid h3; clear h3 h4)
              | (go_at_call 54; refine (C.out).mono ?_; rintro e w3 ⟨rfl, h3, h4⟩; have O5 := Lib.hid (HO.out.kept h4 (.inr (Ne.symm (Is.row_apart HO.out HRd.out (by decide))))); have H5 := Lib.hid (below_grown HB.out h4 hBb hBw); have R5 := Lib.hid h3; clear h3 h4))
            clear O5 H5 R5
            go_loopw [1, 50] (fun v jj wi => ∃ (j g cap : Nat), j ≤ k ∧ jj = .int .i64 j ∧ v = .slice (some ⟨g, 0, none⟩) (out.length + j) cap ∧ Hid (wi.ownsRow B 5 1 v (out.length + j) (bytes (copy out d j))) ∧ Hid (Rd wi b 106 st2) ∧ Hid (Below B w wi)) (fun _ jj _ => k - (intOf jj).toNat)
            case atStart => exact ⟨0, g0, c, by omega, rfl, rfl, O6, R6, H6⟩
            case round =>
              clear O6 H6 R6 HO
              obtain ⟨j, g, cap, hj, rfl, rfl, O6, R6, H6⟩ := hrel
              by_cases hlj : j < k
              · have p1 : decide ((j : Int) < (k : Int)) = true := by simp; omega
                have hcl : (copy out d j).length = out.length + j := copy_length out d j
                obtain ⟨x, hx⟩ : ∃ x, x = (copy out d j).getD ((copy out d j).length - d) 0 := ⟨_, rfl⟩
                have hidx : out.length + j - d < (copy out d j).length := by omega
                have hxa : (copy out d j)[out.length + j - d]'hidx = x := by
                  rw [hx, hcl, List.getD_eq_getElem?_getD, List.getElem?_eq_getElem hidx]; rfl
                have cc : wr.cell? ⟨g, out.length + j - d, none⟩ = some (.int .u8 (x.toNat : Int)) := by
                  have := O6.out.cells (g := g) rfl (out.length + j - d) (.int .u8 (x.toNat : Int)) (by unfold bytes; rw [List.getElem?_map, List.getElem?_eq_getElem hidx, hxa]; rfl)
                  rw [addr_add] at this
                  exact this
                have hcs : copy out d (j + 1) = copy out d j ++ [x] := by simp only [copy]; rw [← hx]
                have CS := Lib.hid hcs
                have HBn := Lib.hid (O6.out.alloc (.cells #[.int .u8 (x.toNat : Int)] 5))
                have HN := Lib.hid (new_one wr (.int .u8 (x.toNat : Int)) 5)
                have hbs : B ≤ (wr.alloc (.cells #[.int .u8 (x.toNat : Int)] 5)).heap.size := by have := H6.out.size; simp; omega
                have HBS := Lib.hid hbs
                have HBS2 := Lib.hid (Nat.le_trans hBw H6.out.size)
                clear hcl hx hidx hxa hcs hbs
                go_wp2_with (at_builtin; refine wpList_append_own _ rfl (.tmp 52) (.tmp 60) 57 rfl B 5 i0 (.int .u8 0) 1 1 Tryd.underlying57 hi hz0 hz1 hz2 rfl (by decide) (.slice (some ⟨g, 0, none⟩) (out.length + j) cap) (out.length + j) (bytes (copy out d j)) rfl HBn.out ⟨wr.heap.size, 0, none⟩ 1 1 [.int .u8 (x.toNat : Int)] rfl rfl HN.out ?c1 ?c3 ?c4 ?c5 ?_)
                case c1 => intro u hu; simp at hu; subst hu; rfl
                case c3 => simp only [maxLen]; omega
                case c4 => omega
                case c5 => exact HBS.out
                intro v4 w4 hown4 hgr4 _
                obtain ⟨g4, cap4, rfl, -⟩ := hown4.form (by omega)
                have R7 := Lib.hid (Is.kept (R6.out.alloc _) hgr4 (Is.row_apart O6.out R6.out (by decide)))
                have B7 := Lib.hid ((H6.out.alloc HBS2.out _).grown hgr4 HBS.out (fun j hj => (O6.out.lt j hj).1))
                have O7 := Lib.hid hown4
                clear hown4 hgr4 HBn HN
                go_wp2
                go_roundw
                case rel => exact ⟨j + 1, g4, cap4, by omega, by go_num, rfl, Lib.hid (own_cast O7.out rfl (by rw [CS.out]; simp [bytes])), R7, B7⟩
                case measure => simp [intOf]; omega
              · have hjk : j = k := by omega
                subst hjk
                have p1 : decide ((j : Int) < (j : Int)) = false := by simp
                go_wp2
                go_ret2
                refine ⟨fun h => by rw [HU2.out] at h; simp at h, fun o st' h => ?_, H6.out⟩
                rw [HU2.out] at h
                simp only [Option.some.injEq, Prod.mk.injEq] at h
                obtain ⟨rfl, rfl⟩ := h
                rw [copy_length]
                exact ⟨_, _, by simp, O6.out, R6.out⟩
end Go.Proofs.YtgamkahbebnnaaaDoor
/-
  Unpack: its contract.
-/
namespace Go.Proofs.YtgamkahbebnnaaaDoor
open Go.RowKit
set_option maxRecDepth 40000 in
set_option maxHeartbeats 2000000 in
theorem unpack_any (l : List UInt8) (w : World) (hl : l.length ≤ 1000000000) :
    Calls Tryd.prog 56 #[.string (mk l)] w fun e w' => e = .returned (.tuple #[.string (mk ((unpackE l).getD [])), .bool (unpackE l).isSome]) ∧ Below w.heap.size w w' := by
  obtain ⟨n, hn⟩ : ∃ n, n = (rNum (some l)).1 := ⟨_, rfl⟩
  obtain ⟨st0, hst⟩ : ∃ st0, st0 = (rNum (some l)).2 := ⟨_, rfl⟩
  have hnlt : n < 9223372036854775808 := by rw [hn]; exact rNum_lt _
  have hsl : (rest st0).length ≤ 1000000000 := by rw [hst]; exact Nat.le_trans (rNum_le (some l)) hl
  obtain ⟨R, hR⟩ : ∃ R, R = unpackE l := ⟨_, rfl⟩
  have hR2 : R = if 16777216 < n then none else endE (unp n [] st0) := by rw [hR, unpackE, ← hn, ← hst]
  rw [← hR]
  have O := Lib.hid (open_any l)
  have M : Hid (∀ W b, Rd W b 106 (some l) → Calls Tryd.prog 54 #[.pointer (some ⟨b, 0, none⟩)] W fun e w' => e = .returned (.int .i64 (n : Nat)) ∧ Rd w' b 106 st0 ∧ W.grownBy w' (some b)) := Lib.hid (fun W b h => by rw [hn, hst]; exact num_any b (some l) W h hl)
  clear hR hst hn
  by_cases hbig : 16777216 < n
  · have g1 : decide ((16777216 : Int) < (n : Int)) = true := by simp; omega
    have HR : Hid (R = none) := Lib.hid (by rw [hR2, if_pos hbig])
    clear hR2
    go_enter Tryd.func56, Tryd.ntmps56
    go_wp2_with (first
      | (go_at_call 53; refine (O.out _).mono ?_; rintro e w1 ⟨b, rfl, hb, h1, h2⟩; have H1 := Lib.hid h1; have H2 := Lib.hid h2; clear h1 h2)
      | (go_at_call 54; refine (M.out _ _ H1.out).mono ?_; rintro e w3 ⟨rfl, h3, h4⟩; have H4 := Lib.hid h4; clear h3 h4))
    go_ret2
    exact ⟨retN HR.out, below_grown H2.out H4.out hb H2.out.size⟩
  · have g1 : decide ((16777216 : Int) < (n : Int)) = false := by simp; omega
    have HR : Hid (R = endE (unp n [] st0)) := Lib.hid (by rw [hR2, if_neg hbig])
    clear hR2
    go_enter Tryd.func56, Tryd.ntmps56
    go_wp2_with (first
      | (go_at_call 53; refine (O.out _).mono ?_; rintro e w1 ⟨b, rfl, hb, h1, h2⟩; have H1 := Lib.hid h1; have H2 := Lib.hid h2; clear h1 h2)
      | (go_at_call 54; refine (M.out _ _ H1.out).mono ?_; rintro e w3 ⟨rfl, h3, h4⟩; have H3 := Lib.hid h3; have H4 := Lib.hid (below_grown H2.out h4 hb H2.out.size); clear h3 h4))
    go_loopw [6] (fun v wr => ∃ (out : List UInt8) (st : St) (A : Option Addr) (c : Nat), v = .slice A out.length c ∧ out.length ≤ n ∧ (rest st).length ≤ 1000000000 ∧ Hid (R = endE (unp n out st)) ∧ Hid (Rd wr b 106 st) ∧ Hid (wr.ownsRow w.heap.size 5 1 v out.length (bytes out)) ∧ Hid (Below w.heap.size w wr)) (fun v _ => n - lenV v)
    case atStart => exact ⟨[], st0, none, 0, rfl, Nat.zero_le _, hsl, HR, H3, Lib.hid (World.ownsRow_nil _ _ _ _), H4⟩
    case round =>
      clear HR H3 H4
      obtain ⟨out, st, A, c, rfl, hon, hsl2, HR, HRd, HO, HB⟩ := hrel
      by_cases hlt : out.length < n
      · have i1 : decide ((out.length : Int) < (n : Int)) = true := by simp; omega
        have T := token_any w.heap.size b n out st A c wr hb HB.out.size (by omega) hlt hsl2 HRd.out HO.out
        have hU := HR.out
        rw [unp_tok n out st hlt] at hU
        cases htk : tok n out st with
        | none =>
          rw [htk] at hU
          have hN : R = none := hU
          have T2 : Calls Tryd.prog 67 #[.pointer (some ⟨b, 0, none⟩), .slice A out.length c, .int .i64 (n : Int)] wr fun e w' => (∃ A' k' c', e = .returned (.tuple #[.slice A' k' c', .bool false])) ∧ Below w.heap.size wr w' := T.mono fun e w' h => ⟨h.1 htk, h.2.2⟩
          have HN := Lib.hid hN
          have T3 := Lib.hid T2
          clear T T2 hU hN htk
          go_wp2_with (go_at_call 67; refine (T3.out).mono ?_; rintro e w3 ⟨⟨A3, k3, c3, rfl⟩, h4⟩; have H5 := Lib.hid (HB.out.trans h4); clear h4)
          go_ret2
          exact ⟨retN HN.out, H5.out⟩
        | some p =>
          obtain ⟨o, st2⟩ := p
          rw [htk] at hU
          have hN : R = endE (unp n o st2) := hU
          obtain ⟨f1, f2, f3⟩ := tok_facts n out st o st2 htk
          have T2 : Calls Tryd.prog 67 #[.pointer (some ⟨b, 0, none⟩), .slice A out.length c, .int .i64 (n : Int)] wr fun e w' => ∃ A' c', e = .returned (.tuple #[.slice A' o.length c', .bool true]) ∧ w'.ownsRow w.heap.size 5 1 (.slice A' o.length c') o.length (bytes o) ∧ Rd w' b 106 st2 ∧ Below w.heap.size wr w' := T.mono fun e w' h => by
            obtain ⟨A', c', h1, h2, h3⟩ := h.2.1 o st2 htk
            exact ⟨A', c', h1, h2, h3, h.2.2⟩
          have HN := Lib.hid hN
          have T3 := Lib.hid T2
          have f4 := f2 hlt
          have f5 := Nat.le_trans f3 hsl2
          clear T T2 hU hN htk f2 f3
          go_wp2_with (go_at_call 67; refine (T3.out).mono ?_; rintro e w3 ⟨A3, c3, rfl, h5, h6, h4⟩; have O5 := Lib.hid h5; have R5 := Lib.hid h6; have H5 := Lib.hid (HB.out.trans h4); clear h4 h5 h6)
          go_roundw
          case rel => exact ⟨o, st2, A3, c3, rfl, f4, f5, HN, R5, O5, H5⟩
          case measure => simp only [lenV]; omega
      · have i1 : decide ((out.length : Int) < (n : Int)) = false := by simp; omega
        have hU := HR.out
        rw [unp_end _ _ _ hlt] at hU
        have hcv := conv_own (l := out) HO.out
        have D := cdone_any b st wr HRd.out
        by_cases hdn : doneE st = true
        · have hS : R = some out := by rw [hU]; simp only [endE]; rw [if_pos hdn]
          have HS := Lib.hid hS
          rw [done_same, hdn] at D
          have D := Lib.hid D
          clear hU hS
          go_wp2_with (go_at_call 68; refine (D.out).mono ?_; rintro e w3 ⟨rfl, rfl⟩)
          go_ret2
          exact ⟨retS HS.out, HB.out⟩
        · have hS : R = none := by rw [hU]; simp only [endE]; rw [if_neg hdn]
          have HS := Lib.hid hS
          rw [done_same, show doneE st = false by simpa using hdn] at D
          have D := Lib.hid D
          clear hU hS
          go_wp2_with (go_at_call 68; refine (D.out).mono ?_; rintro e w3 ⟨rfl, rfl⟩)
          go_ret2
          exact ⟨retN HS.out, HB.out⟩
end Go.Proofs.YtgamkahbebnnaaaDoor
