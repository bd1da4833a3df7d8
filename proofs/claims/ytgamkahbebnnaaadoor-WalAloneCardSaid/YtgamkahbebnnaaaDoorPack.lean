/-
  Plain mathematics of layer 4: the longest match, packing and unpacking as functions on lists of bytes; unpacking inverts packing, no proper prefix and nothing longer is accepted, and the bounds on the size.
-/
import Derived.Test.YtgamkahbebnnaaaDoorMath
namespace Go.Proofs.YtgamkahbebnnaaaDoor

/-- How far two lists agree from their beginnings. -/
def cpl : List UInt8 → List UInt8 → Nat
  | a :: r, b :: s => if a = b then cpl r s + 1 else 0
  | _, _ => 0
def run (l : List UInt8) (i d : Nat) : Nat := cpl (l.drop i) (l.drop (i - d))
def best (l : List UInt8) (i : Nat) : Nat → Nat × Nat
  | 0 => (0, 0)
  | d + 1 => if (best l i d).1 < run l i (d + 1) then (run l i (d + 1), d + 1) else best l i d
def longestE (l : List UInt8) (i : Nat) : Nat × Nat := best l i (min i 4096)
def lit (s : List UInt8) : List UInt8 := if s = [] then [] else vint (2 * s.length) ++ s
def go (l : List UInt8) (f i : Nat) : List UInt8 :=
  if i < l.length then
    if (longestE l i).1 < 4 then go l f (i + 1)
    else lit ((l.take i).drop f) ++ (vint (2 * (longestE l i).1 + 1) ++ (vint (longestE l i).2 ++ go l (i + (longestE l i).1) (i + (longestE l i).1)))
  else lit (l.drop f)
termination_by l.length - i
decreasing_by all_goals omega
def packE (l : List UInt8) : List UInt8 := if 16777216 < l.length then [] else vint l.length ++ go l 0 0

def copy (out : List UInt8) (d : Nat) : Nat → List UInt8
  | 0 => out
  | k + 1 => copy out d k ++ [(copy out d k).getD ((copy out d k).length - d) 0]
theorem copy_length (out : List UInt8) (d k : Nat) : (copy out d k).length = out.length + k := by
  induction k with
  | zero => rfl
  | succ k ih => simp only [copy, List.length_append, ih, List.length_singleton]; omega
def unp (n : Nat) (out : List UInt8) (st : St) : Option (List UInt8 × St) :=
  if out.length < n then
    if (rNum st).1 / 2 < 1 ∨ n - out.length < (rNum st).1 / 2 then none
    else if (rNum st).1 % 2 = 0 then
      if (rTake ((rNum st).1 / 2 : Nat) (rNum st).2).1.length ≠ (rNum st).1 / 2 then none
      else unp n (out ++ (rTake ((rNum st).1 / 2 : Nat) (rNum st).2).1) (rTake ((rNum st).1 / 2 : Nat) (rNum st).2).2
    else if (rNum (rNum st).2).1 < 1 ∨ out.length < (rNum (rNum st).2).1 then none
    else unp n (copy out (rNum (rNum st).2).1 ((rNum st).1 / 2)) (rNum (rNum st).2).2
  else some (out, st)
termination_by n - out.length
decreasing_by
  · rw [List.length_append]; omega
  · rw [copy_length]; omega
def doneE : St → Bool
  | none => false
  | some l => l.isEmpty
def endE : Option (List UInt8 × St) → Option (List UInt8)
  | none => none
  | some (out, st) => if doneE st = true then some out else none
def unpackE (l : List UInt8) : Option (List UInt8) :=
  if 16777216 < (rNum (some l)).1 then none else endE (unp (rNum (some l)).1 [] (rNum (some l)).2)

theorem cpl_le_left (a b : List UInt8) : cpl a b ≤ a.length := by
  induction a generalizing b with
  | nil => simp [cpl]
  | cons x r ih =>
    cases b with
    | nil => simp [cpl]
    | cons y s => simp only [cpl]; split <;> simp only [List.length_cons]; have := ih s; omega; omega
theorem cpl_at (a b : List UInt8) (j : Nat) (h : j < cpl a b) : a[j]? = b[j]? ∧ j < a.length ∧ j < b.length := by
  induction a generalizing b j with
  | nil => simp [cpl] at h
  | cons x r ih =>
    cases b with
    | nil => simp [cpl] at h
    | cons y s =>
      simp only [cpl] at h
      by_cases e : x = y
      · rw [if_pos e] at h
        cases j with
        | zero => simp [e]
        | succ j => have := ih s j (by omega); simpa using this
      · rw [if_neg e] at h; omega
theorem cpl_ge (a b : List UInt8) (k : Nat) (ha : k ≤ a.length) (hb : k ≤ b.length) (h : ∀ j, j < k → a[j]? = b[j]?) : k ≤ cpl a b := by
  induction a generalizing b k with
  | nil => simp at ha; omega
  | cons x r ih =>
    cases k with
    | zero => omega
    | succ k =>
      cases b with
      | nil => simp at hb
      | cons y s =>
        have h0 := h 0 (by omega)
        simp only [List.getElem?_cons_zero, Option.some.injEq] at h0
        simp only [cpl]
        rw [if_pos h0]
        have := ih s k (by simpa using ha) (by simpa using hb) (fun j hj => by have := h (j + 1) (by omega); simpa using this)
        omega
theorem cpl_stop (a b : List UInt8) (ha : cpl a b < a.length) (hb : cpl a b < b.length) : a[cpl a b]? ≠ b[cpl a b]? := by
  induction a generalizing b with
  | nil => simp at ha
  | cons x r ih =>
    cases b with
    | nil => simp at hb
    | cons y s =>
      simp only [cpl] at ha hb ⊢
      by_cases e : x = y
      · rw [if_pos e] at ha hb ⊢
        have := ih s (by simpa using ha) (by simpa using hb)
        simpa using this
      · rw [if_neg e]; simpa using e
theorem run_stop (l : List UInt8) (i d : Nat) (h : i + run l i d < l.length) : l[i + run l i d]? ≠ l[i - d + run l i d]? := by
  have := cpl_stop (l.drop i) (l.drop (i - d)) (by rw [List.length_drop]; unfold run at h; omega) (by rw [List.length_drop]; unfold run at h; omega)
  rw [List.getElem?_drop, List.getElem?_drop] at this
  exact this
theorem best_step (l : List UInt8) (i d : Nat) (h : 1 ≤ d) : best l i d = if (best l i (d - 1)).1 < run l i d then (run l i d, d) else best l i (d - 1) := by
  obtain ⟨m, rfl⟩ : ∃ m, d = m + 1 := ⟨d - 1, by omega⟩
  rfl
theorem run_le (l : List UInt8) (i d : Nat) : run l i d ≤ l.length - i := by
  have := cpl_le_left (l.drop i) (l.drop (i - d)); rw [List.length_drop] at this; exact this
theorem run_at (l : List UInt8) (i d j : Nat) (h : j < run l i d) : l[i + j]? = l[i - d + j]? ∧ i + j < l.length := by
  obtain ⟨h1, h2, -⟩ := cpl_at _ _ j h
  rw [List.getElem?_drop, List.getElem?_drop] at h1
  rw [List.length_drop] at h2
  exact ⟨h1, by omega⟩
theorem run_ge (l : List UInt8) (i d k : Nat) (hk : i + k ≤ l.length) (h : ∀ j, j < k → l[i + j]? = l[i - d + j]?) : k ≤ run l i d := by
  refine cpl_ge _ _ k (by rw [List.length_drop]; omega) (by rw [List.length_drop]; omega) fun j hj => ?_
  rw [List.getElem?_drop, List.getElem?_drop]; exact h j hj
/-- The match that was found is one: its distance is in bounds, and its length is that distance's. -/
theorem best_is (l : List UInt8) (i m : Nat) (h : 1 ≤ (best l i m).1) : 1 ≤ (best l i m).2 ∧ (best l i m).2 ≤ m ∧ (best l i m).1 = run l i (best l i m).2 := by
  induction m with
  | zero => simp [best] at h
  | succ m ih =>
    simp only [best] at h ⊢
    split at h <;> rename_i hc
    · rw [if_pos hc]; exact ⟨by omega, by omega, rfl⟩
    · rw [if_neg hc]
      obtain ⟨h1, h2, h3⟩ := ih h
      exact ⟨h1, by omega, h3⟩
theorem best_max (l : List UInt8) (i m d : Nat) (h1 : 1 ≤ d) (h2 : d ≤ m) : run l i d ≤ (best l i m).1 := by
  induction m with
  | zero => omega
  | succ m ih =>
    simp only [best]
    split <;> rename_i hc
    · by_cases hd : d = m + 1
      · subst hd; exact Nat.le_refl _
      · have := ih (by omega); simp only; omega
    · by_cases hd : d = m + 1
      · subst hd; omega
      · exact ih (by omega)
theorem best_le (l : List UInt8) (i m : Nat) : (best l i m).1 ≤ l.length - i := by
  induction m with
  | zero => simp [best]
  | succ m ih =>
    simp only [best]
    split
    · exact run_le l i (m + 1)
    · exact ih
theorem longest_is (l : List UInt8) (i : Nat) (h : 1 ≤ (longestE l i).1) : 1 ≤ (longestE l i).2 ∧ (longestE l i).2 ≤ i ∧ (longestE l i).2 ≤ 4096 ∧ (longestE l i).1 = run l i (longestE l i).2 := by
  obtain ⟨h1, h2, h3⟩ := best_is l i _ h
  exact ⟨h1, by unfold longestE; omega, by unfold longestE; omega, h3⟩
theorem longest_le (l : List UInt8) (i : Nat) : (longestE l i).1 ≤ l.length - i := best_le l i _
theorem longest_max (l : List UInt8) (i d : Nat) (h1 : 1 ≤ d) (h2 : d ≤ i) (h3 : d ≤ 4096) : run l i d ≤ (longestE l i).1 := best_max l i _ d h1 (by omega)

theorem go_end (l : List UInt8) (f i : Nat) (h : ¬ i < l.length) : go l f i = lit (l.drop f) := by rw [go, if_neg h]
theorem go_lit (l : List UInt8) (f i : Nat) (h : i < l.length) (hk : (longestE l i).1 < 4) : go l f i = go l f (i + 1) := by rw [go, if_pos h, if_pos hk]
theorem go_match (l : List UInt8) (f i : Nat) (h : i < l.length) (hk : ¬ (longestE l i).1 < 4) :
    go l f i = lit ((l.take i).drop f) ++ (vint (2 * (longestE l i).1 + 1) ++ (vint (longestE l i).2 ++ go l (i + (longestE l i).1) (i + (longestE l i).1))) := by
  rw [go, if_pos h, if_neg hk]

/-- Copying a match gives the string back. -/
theorem copy_take (l : List UInt8) (i d k : Nat) (h1 : 1 ≤ d) (h2 : d ≤ i) (hk : k ≤ run l i d) : copy (l.take i) d k = l.take (i + k) := by
  induction k with
  | zero => rfl
  | succ k ih =>
    have ih := ih (by omega)
    obtain ⟨e, hlt⟩ := run_at l i d k (by omega)
    have hlen : (l.take (i + k)).length = i + k := by rw [List.length_take]; omega
    simp only [copy, ih, hlen]
    rw [← Nat.add_assoc, List.take_succ_eq_append_getElem hlt]
    congr 2
    rw [List.getD_eq_getElem?_getD, List.getElem?_take_of_lt (by omega), show i + k - d = i - d + k by omega, ← e, List.getElem?_eq_getElem hlt]
    rfl
theorem unp_end (n : Nat) (out : List UInt8) (st : St) (h : ¬ out.length < n) : unp n out st = some (out, st) := by rw [unp, if_neg h]
theorem unp_lit (n : Nat) (out s : List UInt8) (R : List UInt8) (hs : s ≠ []) (hn : out.length + s.length ≤ n) (hb : n ≤ 16777216) :
    unp n out (some (vint (2 * s.length) ++ (s ++ R))) = unp n (out ++ s) (some R) := by
  have hp : 1 ≤ s.length := by cases s; exact absurd rfl hs; simp
  have e1 : rNum (some (vint (2 * s.length) ++ (s ++ R))) = (2 * s.length, some (s ++ R)) := rNum_vint _ _ (by omega)
  have e2 : 2 * s.length / 2 = s.length := by omega
  have e3 : rTake ((s.length : Nat) : Int) (some (s ++ R)) = (s, some R) := by
    rw [rTake_eq, if_pos (by rw [List.length_append]; omega), Int.toNat_natCast, List.take_left' rfl, List.drop_left' rfl]
  rw [unp, if_pos (by omega)]
  simp only [e1, e2, e3]
  rw [if_neg (by omega), if_pos (by omega), if_neg (by simp)]
theorem unp_match (n : Nat) (out : List UInt8) (k d : Nat) (R : List UInt8) (hk : 1 ≤ k) (hn : out.length + k ≤ n) (hb : n ≤ 16777216) (h1 : 1 ≤ d) (h2 : d ≤ out.length) :
    unp n out (some (vint (2 * k + 1) ++ (vint d ++ R))) = unp n (copy out d k) (some R) := by
  have e1 : rNum (some (vint (2 * k + 1) ++ (vint d ++ R))) = (2 * k + 1, some (vint d ++ R)) := rNum_vint _ _ (by omega)
  have e2 : (2 * k + 1) / 2 = k := by omega
  have e3 : rNum (some (vint d ++ R)) = (d, some R) := rNum_vint _ _ (by omega)
  rw [unp, if_pos (by omega)]
  simp only [e1, e2, e3]
  rw [if_neg (by omega), if_neg (by omega), if_neg (by omega)]
theorem unp_litE (n : Nat) (out s : List UInt8) (R : List UInt8) (hn : out.length + s.length ≤ n) (hb : n ≤ 16777216) :
    unp n out (some (lit s ++ R)) = unp n (out ++ s) (some R) := by
  unfold lit
  by_cases hs : s = []
  · rw [if_pos hs, hs]; simp
  · rw [if_neg hs, List.append_assoc]; exact unp_lit n out s R hs hn hb
theorem unp_go (l : List UInt8) (R : List UInt8) (hb : l.length ≤ 16777216) (f i : Nat) (hf : f ≤ i) (hi : i ≤ l.length) : unp l.length (l.take f) (some (go l f i ++ R)) = some (l, some R) := by
  induction hm : l.length - i using Nat.strongRecOn generalizing f i with
  | _ m ih =>
    by_cases hlt : i < l.length
    · by_cases hk : (longestE l i).1 < 4
      · rw [go_lit l f i hlt hk]
        exact ih (l.length - (i + 1)) (by omega) f (i + 1) (by omega) (by omega) rfl
      · obtain ⟨h1, h2, h3, h4⟩ := longest_is l i (by omega)
        have h5 := longest_le l i
        rw [go_match l f i hlt hk, List.append_assoc, unp_litE _ _ _ _ (by rw [List.length_drop, List.length_take, List.length_take]; omega) hb]
        have e : l.take f ++ (l.take i).drop f = l.take i := by
          have := List.take_append_drop f (l.take i)
          rwa [List.take_take, Nat.min_eq_left hf] at this
        rw [e, List.append_assoc, List.append_assoc, unp_match _ _ _ _ _ (by omega) (by rw [List.length_take]; omega) hb h1 (by rw [List.length_take]; omega)]
        rw [copy_take l i _ _ h1 h2 (by omega)]
        exact ih (l.length - (i + (longestE l i).1)) (by omega) _ _ (Nat.le_refl _) (by omega) rfl
    · rw [go_end l f i hlt, unp_litE _ _ _ _ (by rw [List.length_drop, List.length_take]; omega) hb, List.take_append_drop, unp_end _ _ _ (by omega)]
theorem pack_in (l : List UInt8) (h : l.length ≤ 16777216) : packE l = vint l.length ++ go l 0 0 := by unfold packE; rw [if_neg (by omega)]
/-- Unpacking inverts packing, and accepts nothing behind it. -/
theorem unpack_pack (l R : List UInt8) (h : l.length ≤ 16777216) : unpackE (packE l ++ R) = if R = [] then some l else none := by
  rw [pack_in l h, List.append_assoc]
  unfold unpackE
  rw [rNum_vint _ _ (by omega)]
  simp only
  rw [if_neg (by omega)]
  have := unp_go l R h 0 0 (Nat.le_refl _) (by omega)
  rw [List.take_zero] at this
  rw [this]
  cases R <;> simp [endE, doneE]
theorem unpack_back (l : List UInt8) (h : l.length ≤ 16777216) : unpackE (packE l) = some l := by
  have := unpack_pack l [] h
  simpa using this

theorem rNum_more (a R b : List UInt8) (n : Nat) (h : rNum (some a) = (n, some b)) : rNum (some (a ++ R)) = (n, some (b ++ R)) := by
  obtain ⟨h1, h2⟩ := rNum_back _ _ _ h
  simp only [Option.some.injEq] at h1
  rw [h1, List.append_assoc]
  exact rNum_vint _ _ h2
theorem rTake_more (n : Int) (a R s b : List UInt8) (h : rTake n (some a) = (s, some b)) : rTake n (some (a ++ R)) = (s, some (b ++ R)) := by
  obtain ⟨h1, h2⟩ := rTake_some _ _ _ _ h
  simp only [Option.some.injEq] at h1
  rw [h1, List.append_assoc, rTake_eq, if_pos (by rw [List.length_append]; omega), ← h2, Int.toNat_natCast, List.take_left' rfl, List.drop_left' rfl]
theorem rNum_none1 (a : List UInt8) (h : (rNum (some a)).2 = none) : (rNum (some a)).1 = 0 := by
  rw [rNum_some] at h ⊢
  split at h
  · simp at h
  · rename_i hk; rw [if_neg hk]
theorem unp_none (n : Nat) (out : List UInt8) (h : out.length < n) : unp n out none = none := by
  rw [unp, if_pos h]; simp [rNum]
theorem unp_more (n : Nat) (out : List UInt8) (a R o b : List UInt8) (h : unp n out (some a) = some (o, some b)) : unp n out (some (a ++ R)) = some (o, some (b ++ R)) := by
  induction hm : n - out.length using Nat.strongRecOn generalizing out a with
  | _ m ih =>
    by_cases hlt : out.length < n
    · rcases hN : rNum (some a) with ⟨t, _ | r⟩
      · have := rNum_none1 a (by rw [hN])
        rw [hN] at this
        simp only at this
        rw [unp, if_pos hlt, hN, this] at h
        simp at h
      · have hM := rNum_more a R r t hN
        rw [unp, if_pos hlt] at h ⊢
        simp only [hN, hM] at h ⊢
        by_cases h1 : t / 2 < 1 ∨ n - out.length < t / 2
        · rw [if_pos h1] at h; simp at h
        · rw [if_neg h1] at h ⊢
          by_cases h2 : t % 2 = 0
          · rw [if_pos h2] at h ⊢
            rcases hT : rTake ((t / 2 : Nat) : Int) (some r) with ⟨s, _ | r'⟩
            · rw [hT] at h
              simp only at h
              have : s = [] := by
                rw [rTake_eq] at hT
                split at hT
                · simp at hT
                · simp only [Prod.mk.injEq] at hT; exact hT.1.symm
              rw [this, if_pos (by simp; omega)] at h
              simp at h
            · have hT2 := rTake_more _ r R s r' hT
              simp only [hT, hT2] at h ⊢
              by_cases h3 : s.length ≠ t / 2
              · rw [if_pos h3] at h; simp at h
              · rw [if_neg h3] at h ⊢
                exact ih (n - (out ++ s).length) (by rw [List.length_append]; omega) (out ++ s) r' h rfl
          · rw [if_neg h2] at h ⊢
            rcases hD : rNum (some r) with ⟨d, _ | r'⟩
            · have := rNum_none1 r (by rw [hD])
              rw [hD] at this
              simp only at this
              rw [hD, this] at h
              simp at h
            · have hD2 := rNum_more r R r' d hD
              simp only [hD, hD2] at h ⊢
              by_cases h3 : d < 1 ∨ out.length < d
              · rw [if_pos h3] at h; simp at h
              · rw [if_neg h3] at h ⊢
                exact ih (n - (copy out d (t / 2)).length) (by rw [copy_length]; omega) _ r' h rfl
    · rw [unp_end _ _ _ hlt] at h ⊢
      simp only [Option.some.injEq, Prod.mk.injEq] at h ⊢
      exact ⟨h.1, by rw [h.2]⟩
/-- No proper prefix of a packed string is one. -/
theorem unpack_cut (l p q : List UInt8) (h : l.length ≤ 16777216) (e : packE l = p ++ q) (hq : q ≠ []) : unpackE p = none := by
  unfold unpackE
  rcases hN : rNum (some p) with ⟨n, _ | r⟩
  · have := rNum_none1 p (by rw [hN])
    rw [hN] at this
    simp only at this
    subst this
    simp only
    rw [if_neg (by omega), unp_end _ _ _ (by simp)]
    simp [endE, doneE]
  · simp only
    have hM := rNum_more p q r n hN
    rw [← e, pack_in l h, rNum_vint _ _ (by omega)] at hM
    simp only [Prod.mk.injEq, Option.some.injEq] at hM
    obtain ⟨rfl, hr⟩ := hM
    rw [if_neg (by omega)]
    have hg := unp_go l [] h 0 0 (Nat.le_refl _) (by omega)
    rw [List.take_zero, List.append_nil, hr] at hg
    rcases hu : unp l.length [] (some r) with _ | ⟨o, _ | b⟩
    · simp [endE]
    · simp [endE, doneE]
    · have := unp_more _ _ r q o b hu
      rw [hg] at this
      simp only [Option.some.injEq, Prod.mk.injEq] at this
      simp only [endE, doneE]
      cases b with
      | nil => exact absurd (by simpa using this.2.symm) hq
      | cons x b => simp

theorem vint_two (m : Nat) (h : m < 16384) : (vint m).length ≤ 2 := vint_len 1 m h
theorem vint_half (m : Nat) (h : 1 ≤ m) (hb : m ≤ 16777216) : (vint (2 * m)).length ≤ m := by
  by_cases h1 : m < 64
  · rw [vint_small _ (by omega)]; simpa using h
  · have := vint_len 3 (2 * m) (by omega); omega
theorem vint_odd (m : Nat) (h : 3 ≤ m) (hb : m ≤ 16777216) : (vint (2 * m + 1)).length ≤ m - 2 := by
  by_cases h1 : m < 64
  · rw [vint_small _ (by omega)]; simp; omega
  · have := vint_len 3 (2 * m + 1) (by omega); omega
theorem lit_le (s : List UInt8) (h : s.length ≤ 16777216) : (lit s).length ≤ 2 * s.length := by
  unfold lit
  split
  · simp
  · rename_i hs
    have hp : 1 ≤ s.length := by cases s; exact absurd rfl hs; simp
    have := vint_half s.length hp h
    rw [List.length_append]; omega
theorem mid_length (l : List UInt8) (f i : Nat) (hi : i ≤ l.length) : ((l.take i).drop f).length = i - f := by rw [List.length_drop, List.length_take]; omega
theorem go_le (l : List UInt8) (hb : l.length ≤ 16777216) (f i : Nat) (hf : f ≤ i) (hi : i ≤ l.length) : (go l f i).length ≤ 2 * (l.length - f) := by
  induction hm : l.length - i using Nat.strongRecOn generalizing f i with
  | _ m ih =>
    by_cases hlt : i < l.length
    · by_cases hk : (longestE l i).1 < 4
      · rw [go_lit l f i hlt hk]
        exact ih (l.length - (i + 1)) (by omega) f (i + 1) (by omega) (by omega) rfl
      · obtain ⟨h1, h2, h3, h4⟩ := longest_is l i (by omega)
        have h5 := longest_le l i
        have a1 := lit_le ((l.take i).drop f) (by rw [mid_length l f i hi]; omega)
        rw [mid_length l f i hi] at a1
        have a2 := vint_odd (longestE l i).1 (by omega) (by omega)
        have a3 := vint_two (longestE l i).2 (by omega)
        have a4 := ih (l.length - (i + (longestE l i).1)) (by omega) _ _ (Nat.le_refl _) (by omega) rfl
        rw [go_match l f i hlt hk]
        simp only [List.length_append]
        omega
    · rw [go_end l f i hlt]
      have := lit_le (l.drop f) (by rw [List.length_drop]; omega)
      rw [List.length_drop] at this
      exact this
theorem pack_le (l : List UInt8) (h : l.length ≤ 16777216) : (packE l).length ≤ 2 * l.length + 4 := by
  rw [pack_in l h, List.length_append]
  have a := go_le l h 0 0 (Nat.le_refl _) (by omega)
  have b := vint_len 3 l.length (by omega)
  omega

/-- n times l. -/
def reps (l : List UInt8) : Nat → List UInt8
  | 0 => []
  | n + 1 => reps l n ++ l
theorem reps_length (l : List UInt8) (n : Nat) : (reps l n).length = n * l.length := by
  induction n with
  | zero => simp [reps]
  | succ n ih => simp only [reps, List.length_append, ih, Nat.succ_mul]
theorem reps_front (l : List UInt8) (n : Nat) : reps l (n + 1) = l ++ reps l n := by
  induction n with
  | zero => simp [reps]
  | succ n ih =>
    have : reps l (n + 1 + 1) = reps l (n + 1) ++ l := rfl
    rw [this]
    conv => lhs; rw [ih, List.append_assoc]
    rfl
theorem reps_at (l : List UInt8) (n k : Nat) (h : k + l.length < (reps l n).length) : (reps l n)[k + l.length]? = (reps l n)[k]? := by
  cases n with
  | zero => simp [reps] at h
  | succ n =>
    have e1 : (reps l (n + 1))[k + l.length]? = (reps l n)[k]? := by
      rw [reps_front, List.getElem?_append_right (by omega), Nat.add_sub_cancel]
    rw [e1]
    have : (reps l (n + 1))[k]? = (reps l n)[k]? := by
      show (reps l n ++ l)[k]? = _
      rw [List.getElem?_append_left]
      rw [reps_length] at h ⊢
      rw [Nat.succ_mul] at h; omega
    exact this.symm
/-- From the first period on, all that is left is one match. -/
theorem longest_reps (s : List UInt8) (n i : Nat) (h1 : 1 ≤ s.length) (h2 : s.length ≤ 4096) (hi : s.length ≤ i) (hl : i ≤ (reps s n).length) : (longestE (reps s n) i).1 = (reps s n).length - i := by
  have a := longest_le (reps s n) i
  have b := longest_max (reps s n) i s.length h1 hi h2
  have c := run_ge (reps s n) i s.length ((reps s n).length - i) (by omega) (fun j hj => by
    have := reps_at s n (i - s.length + j) (by omega)
    rw [show i - s.length + j + s.length = i + j by omega] at this
    exact this)
  omega
theorem lit_small (s : List UInt8) (h : s.length ≤ 60) : (lit s).length ≤ s.length + 1 := by
  unfold lit
  split
  · simp
  · rw [List.length_append, vint_small _ (by omega)]; simp; omega
/-- Behind the first period: what is pending as a literal, and at most four bytes. -/
theorem go_tail (s : List UInt8) (n i : Nat) (h1 : 4 ≤ s.length) (h2 : s.length ≤ 300) (hn : n ≤ 12) (hi : s.length ≤ i) (hl : i ≤ (reps s n).length) : (go (reps s n) i i).length ≤ 4 := by
  have hN : (reps s n).length ≤ 3600 := by
    rw [reps_length]
    calc n * s.length ≤ 12 * 300 := Nat.mul_le_mul hn h2
      _ = 3600 := rfl
  by_cases h4 : (reps s n).length - i < 4
  · have hs : ∀ m, m ≤ 3 → ∀ j, (reps s n).length - j = m → i ≤ j → j ≤ (reps s n).length → go (reps s n) i j = lit ((reps s n).drop i) := by
      intro m
      induction m with
      | zero => intro _ j hj _ _; exact go_end _ _ _ (by omega)
      | succ m ih =>
        intro hm j hj hij hjl
        have := longest_le (reps s n) j
        rw [go_lit _ _ _ (by omega) (by omega)]
        exact ih (by omega) (j + 1) (by omega) (by omega) (by omega)
    rw [hs ((reps s n).length - i) (by omega) i rfl (Nat.le_refl _) hl]
    have := lit_small ((reps s n).drop i) (by rw [List.length_drop]; omega)
    rw [List.length_drop] at this
    omega
  · have e := longest_reps s n i (by omega) (by omega) hi hl
    obtain ⟨-, b, c, -⟩ := longest_is (reps s n) i (by omega)
    rw [go_match _ _ _ (by omega) (by omega)]
    have a1 : lit (((reps s n).take i).drop i) = [] := by
      have : ((reps s n).take i).drop i = [] := by apply List.eq_nil_of_length_eq_zero; rw [mid_length _ _ _ hl]; omega
      rw [this]; rfl
    have a2 := vint_two (2 * (longestE (reps s n) i).1 + 1) (by omega)
    have a3 := vint_two (longestE (reps s n) i).2 (by omega)
    have a4 : go (reps s n) (i + (longestE (reps s n) i).1) (i + (longestE (reps s n) i).1) = [] := by
      rw [go_end _ _ _ (by omega), List.drop_eq_nil_of_le (by omega)]; rfl
    rw [a1, a4]
    simp only [List.length_append, List.length_nil]
    omega
theorem go_reps (s : List UInt8) (n : Nat) (h1 : 4 ≤ s.length) (h2 : s.length ≤ 300) (hn : n ≤ 12) (hn1 : 1 ≤ n) (f i : Nat) (hf : f ≤ i) (hi : i ≤ s.length) : (go (reps s n) f i).length ≤ 2 * (s.length - f) + 8 := by
  have hN : (reps s n).length ≤ 3600 := by
    rw [reps_length]
    calc n * s.length ≤ 12 * 300 := Nat.mul_le_mul hn h2
      _ = 3600 := rfl
  have hm : s.length ≤ (reps s n).length := by
    rw [reps_length]
    calc s.length = 1 * s.length := by omega
      _ ≤ n * s.length := Nat.mul_le_mul_right _ hn1
  induction hk : s.length - i using Nat.strongRecOn generalizing f i with
  | _ m ih =>
    by_cases hlt : i < (reps s n).length
    · by_cases hk4 : (longestE (reps s n) i).1 < 4
      · by_cases hii : i < s.length
        · rw [go_lit _ f i hlt hk4]
          exact ih (s.length - (i + 1)) (by omega) f (i + 1) (by omega) (by omega) rfl
        · -- i = s.length: the rest is longer than a period, or at its end
          have e := longest_reps s n i (by omega) (by omega) (by omega) (by omega)
          have hw : (reps s n).length - i < 4 := by omega
          have : n = 1 := by
            rw [reps_length] at hw hlt
            rcases Nat.lt_or_ge n 2 with h | h
            · omega
            · have := Nat.mul_le_mul_right s.length h
              omega
          rw [this, reps_length] at hlt
          omega
      · obtain ⟨b1, b2, b3, b4⟩ := longest_is (reps s n) i (by omega)
        have h5 := longest_le (reps s n) i
        have a1 := lit_le (((reps s n).take i).drop f) (by rw [mid_length _ f i (by omega)]; omega)
        rw [mid_length _ f i (by omega)] at a1
        have a2 := vint_odd (longestE (reps s n) i).1 (by omega) (by omega)
        have a2' := vint_two (2 * (longestE (reps s n) i).1 + 1) (by omega)
        have a3 := vint_two (longestE (reps s n) i).2 (by omega)
        rw [go_match _ f i hlt hk4]
        simp only [List.length_append]
        by_cases hp : i + (longestE (reps s n) i).1 ≤ s.length
        · have a4 := ih (s.length - (i + (longestE (reps s n) i).1)) (by omega) _ _ (Nat.le_refl _) hp rfl
          omega
        · have a4 := go_tail s n (i + (longestE (reps s n) i).1) h1 h2 hn (by omega) (by omega)
          omega
    · rw [go_end _ f i hlt]
      have := lit_le ((reps s n).drop f) (by rw [List.length_drop]; omega)
      rw [List.length_drop] at this
      omega
theorem pack_reps (s : List UInt8) (n : Nat) (h1 : 4 ≤ s.length) (h2 : s.length ≤ 300) (hn : n ≤ 12) (hn1 : 1 ≤ n) : (packE (reps s n)).length ≤ 2 * s.length + 10 := by
  have hN : (reps s n).length ≤ 3600 := by
    rw [reps_length]
    calc n * s.length ≤ 12 * 300 := Nat.mul_le_mul hn h2
      _ = 3600 := rfl
  rw [pack_in _ (by omega), List.length_append]
  have a := go_reps s n h1 h2 hn hn1 0 0 (Nat.le_refl _) (by omega)
  have b := vint_two (reps s n).length (by omega)
  omega
end Go.Proofs.YtgamkahbebnnaaaDoor
