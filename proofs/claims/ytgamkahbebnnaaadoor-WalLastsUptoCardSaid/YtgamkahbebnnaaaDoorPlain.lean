/-! A log as mathematics: records are free of prefixes, so a file has one valid part. -/

namespace Go.Proofs.YtgamkahbebnnaaaDoor.WalPlain

abbrev Bs := List UInt8

/-- What the records of payloads keep: none is empty, none begins another. -/
structure Form (ok : Bs → Prop) (rec : Bs → Bs) : Prop where
  pos : ∀ s, ok s → 0 < (rec s).length
  free : ∀ s t, ok s → ok t → rec s <+: rec t → s = t

/-- The bytes of a list of payloads. -/
def flat (rec : Bs → Bs) : List Bs → Bs
  | [] => []
  | s :: l => rec s ++ flat rec l

/-- The list of payloads in the valid part of a file. -/
structure Valid (ok : Bs → Prop) (rec : Bs → Bs) (b : Bs) (l : List Bs) : Prop where
  all : ∀ s ∈ l, ok s
  part : flat rec l <+: b
  ends : ∀ s, ok s → ¬ flat rec (l ++ [s]) <+: b

theorem flat_append (rec : Bs → Bs) (l m : List Bs) : flat rec (l ++ m) = flat rec l ++ flat rec m := by
  induction l with
  | nil => rfl
  | cons a l ih => simp [flat, ih]

theorem flat_snoc (rec : Bs → Bs) (l : List Bs) (s : Bs) : flat rec (l ++ [s]) = flat rec l ++ rec s := by
  simp [flat_append, flat]

theorem flat_mono (rec : Bs → Bs) {l m : List Bs} (h : l <+: m) : flat rec l <+: flat rec m := by
  obtain ⟨r, rfl⟩ := h
  rw [flat_append]
  exact List.prefix_append _ _

variable {ok : Bs → Prop} {rec : Bs → Bs} (F : Form ok rec)
include F

/-- Two lists whose bytes begin one file: one begins the other. -/
theorem Form.ends {b : Bs} {l m : List Bs} (hl : ∀ s ∈ l, ok s) (hm : ∀ s ∈ m, ok s)
    (h1 : flat rec l <+: b) (h2 : flat rec m <+: b) : l <+: m ∨ m <+: l := by
  induction l generalizing m b with
  | nil => exact .inl (List.nil_prefix)
  | cons s l ih =>
    cases m with
    | nil => exact .inr (List.nil_prefix)
    | cons t m =>
      simp only [flat] at h1 h2
      have hs : ok s := hl s (by simp)
      have ht : ok t := hm t (by simp)
      have a1 : rec s <+: b := (List.prefix_append _ _).trans h1
      have a2 : rec t <+: b := (List.prefix_append _ _).trans h2
      have hst : s = t := by
        rcases Nat.le_total (rec s).length (rec t).length with h | h
        · exact F.free s t hs ht (List.prefix_of_prefix_length_le a1 a2 h)
        · exact (F.free t s ht hs (List.prefix_of_prefix_length_le a2 a1 h)).symm
      subst hst
      obtain ⟨r, rfl⟩ := a1
      have c1 : flat rec l <+: r := (List.prefix_append_right_inj _).1 h1
      have c2 : flat rec m <+: r := (List.prefix_append_right_inj _).1 h2
      rcases ih (fun x hx => hl x (by simp [hx])) (fun x hx => hm x (by simp [hx])) c1 c2 with h | h
      · exact .inl ((List.prefix_cons_inj s).2 h)
      · exact .inr ((List.prefix_cons_inj s).2 h)

/-- Bytes that are none belong to no payloads. -/
theorem Form.none {r : List Bs} (hr : ∀ s ∈ r, ok s) (h : (flat rec r).length = 0) : r = [] := by
  cases r with
  | nil => rfl
  | cons s r =>
    have := F.pos s (hr s (by simp))
    simp only [flat, List.length_append] at h
    omega

/-- Bytes that begin the bytes of a list belong to its beginning. -/
theorem Form.begins {l m : List Bs} (hl : ∀ s ∈ l, ok s) (hm : ∀ s ∈ m, ok s)
    (h : flat rec m <+: flat rec l) : m <+: l := by
  rcases F.ends hl hm (List.prefix_rfl) h with ⟨r, rfl⟩ | h1
  · rw [flat_append] at h
    have hlen := h.length_le
    simp only [List.length_append] at hlen
    have : r = [] := F.none (fun s hs => hm s (by simp [hs])) (by omega)
    subst this
    simp
  · exact h1

/-- The list of the valid part is the longest. -/
theorem Valid.most {b : Bs} {l m : List Bs} (v : Valid ok rec b l) (hm : ∀ s ∈ m, ok s)
    (h : flat rec m <+: b) : m <+: l := by
  rcases F.ends v.all hm v.part h with ⟨r, rfl⟩ | h1
  · cases r with
    | nil => simp
    | cons s r =>
      exfalso
      refine v.ends s (hm s (by simp)) ?_
      have : l ++ s :: r = (l ++ [s]) ++ r := by simp
      rw [this, flat_append] at h
      exact (List.prefix_append _ _).trans h
  · exact h1

theorem Valid.one {b : Bs} {l m : List Bs} (v : Valid ok rec b l) (w : Valid ok rec b m) : l = m := by
  have h1 := v.most F w.all w.part
  have h2 := w.most F v.all v.part
  exact (h2.eq_of_length_le h1.length_le)

/-- A whole file. -/
theorem Form.whole {l : List Bs} (hl : ∀ s ∈ l, ok s) : Valid ok rec (flat rec l) l where
  all := hl
  part := List.prefix_rfl
  ends s hs h := by
    have := h.length_le
    have := F.pos s hs
    rw [flat_snoc, List.length_append] at *
    omega

/-- A torn file: a beginning of the payloads. -/
theorem Valid.torn {b : Bs} {l m : List Bs} (v : Valid ok rec b m) (hl : ∀ s ∈ l, ok s)
    (h : b <+: flat rec l) : m <+: l :=
  F.begins hl v.all (v.part.trans h)

/-- A longer file has all payloads of a shorter one. -/
theorem Valid.grows {b c : Bs} {l m : List Bs} (v : Valid ok rec b l) (w : Valid ok rec c m)
    (h : b <+: c) : l <+: m :=
  w.most F v.all (v.part.trans h)

/-- Every file has a valid part. -/
theorem Form.has (b : Bs) : ∃ l, Valid ok rec b l := by
  suffices h : ∀ n (l : List Bs), (∀ s ∈ l, ok s) → flat rec l <+: b → b.length ≤ (flat rec l).length + n →
      ∃ l, Valid ok rec b l from h b.length [] (by simp) (by simp [flat]) (by simp [flat])
  intro n
  induction n with
  | zero =>
    intro l hl hp hn
    refine ⟨l, hl, hp, fun s hs h => ?_⟩
    have := h.length_le
    have := F.pos s hs
    rw [flat_snoc, List.length_append] at *
    omega
  | succ n ih =>
    intro l hl hp hn
    by_cases hx : ∃ s, ok s ∧ flat rec (l ++ [s]) <+: b
    · obtain ⟨s, hs, hq⟩ := hx
      refine ih (l ++ [s]) ?_ hq ?_
      · intro x hx
        simp only [List.mem_append, List.mem_singleton] at hx
        rcases hx with h | rfl
        · exact hl x h
        · exact hs
      · have := F.pos s hs
        rw [flat_snoc, List.length_append]
        omega
    · exact ⟨l, hl, hp, fun s hs h => hx ⟨s, hs, h⟩⟩

end Go.Proofs.YtgamkahbebnnaaaDoor.WalPlain
