import Derived.Test.YtgamkahbebnnaaaDoorPack
import Derived.Test.YtgamkahbebnnaaaDoorPlain
/-! The records of the log: how one is told from its bytes. -/
namespace Go.Proofs.YtgamkahbebnnaaaDoor
open WalPlain

/-- Four bytes of a number, the least first. -/
def four (n : Nat) : List UInt8 := [UInt8.ofNat (n % 256), UInt8.ofNat (n / 256 % 256), UInt8.ofNat (n / 65536 % 256), UInt8.ofNat (n / 16777216 % 256)]

theorem four_len (n : Nat) : (four n).length = 4 := rfl

def small20 (s : List UInt8) : Prop := s.length ≤ 1048576
instance (s : List UInt8) : Decidable (small20 s) := by unfold small20; infer_instance

def recE (crc : List UInt8 → Nat) (s : List UInt8) : List UInt8 :=
  vint (packE s).length ++ (four (crc (packE s)) ++ packE s)

theorem pack_lt (s : List UInt8) (h : small20 s) : (packE s).length < 9223372036854775808 := by
  unfold small20 at h
  have := pack_le s (by omega)
  omega

theorem rec_len (crc : List UInt8 → Nat) (s : List UInt8) (h : small20 s) : (recE crc s).length ≤ 2 * s.length + 17 := by
  have h1 := pack_le s (by unfold small20 at h; omega)
  have h2 := vint_nine _ (pack_lt s h)
  unfold recE
  simp only [List.length_append, four_len]
  omega

theorem rec_pos (crc : List UInt8 → Nat) (s : List UInt8) : 5 ≤ (recE crc s).length := by
  have := vint_pos (packE s).length
  unfold recE
  simp only [List.length_append, four_len]
  omega

/-- What the beginning of a file says of the record that it may begin with. -/
theorem rec_iff (crc : List UInt8 → Nat) (s b : List UInt8) (hs : small20 s) :
    recE crc s <+: b ↔ ∃ r, rNum (some b) = ((packE s).length, some r) ∧ (packE s).length + 4 ≤ r.length ∧
      r.take 4 = four (crc (packE s)) ∧ (r.drop 4).take (packE s).length = packE s := by
  constructor
  · rintro ⟨t, rfl⟩
    refine ⟨four (crc (packE s)) ++ packE s ++ t, ?_, ?_, ?_, ?_⟩
    · unfold recE
      have := rNum_vint (packE s).length (four (crc (packE s)) ++ packE s ++ t) (pack_lt s hs)
      rwa [show vint (packE s).length ++ (four (crc (packE s)) ++ packE s) ++ t = vint (packE s).length ++ (four (crc (packE s)) ++ packE s ++ t) by simp]
    · simp only [List.length_append, four_len]; omega
    · rw [List.append_assoc, List.take_left' (four_len _)]
    · rw [List.append_assoc, List.drop_left' (four_len _), List.take_left' rfl]
  · rintro ⟨r, h1, h2, h3, h4⟩
    obtain ⟨hb, -⟩ := rNum_back _ _ _ h1
    have hb' : b = vint (packE s).length ++ r := by injection hb
    subst hb'
    refine ⟨r.drop (4 + (packE s).length), ?_⟩
    unfold recE
    rw [← h3]
    have e1 : r = r.take 4 ++ ((r.drop 4).take (packE s).length ++ (r.drop 4).drop (packE s).length) := by
      rw [List.take_append_drop, List.take_append_drop]
    rw [List.drop_drop, h4] at e1
    conv => rhs; rw [e1]
    simp

/-- The payload of the record that a file begins with. -/
def firstE (crc : List UInt8 → Nat) (b : List UInt8) : Option (List UInt8 × Nat) :=
  match rNum (some b) with
  | (n, some r) =>
    if n + 4 ≤ r.length ∧ r.take 4 = four (crc ((r.drop 4).take n)) then
      match unpackE ((r.drop 4).take n) with
      | some s => if small20 s ∧ packE s = (r.drop 4).take n then some (s, b.length - r.length + 4 + n) else none
      | none => none
    else none
  | (_, none) => none

theorem first_some (crc : List UInt8 → Nat) (b s : List UInt8) (k : Nat) :
    firstE crc b = some (s, k) ↔ small20 s ∧ recE crc s <+: b ∧ k = (recE crc s).length := by
  constructor
  · intro h
    unfold firstE at h
    split at h
    · rename_i n r hr
      split at h
      · rename_i hc
        split at h
        · rename_i s' hu
          split at h
          · rename_i hp
            simp only [Option.some.injEq, Prod.mk.injEq] at h
            obtain ⟨rfl, rfl⟩ := h
            obtain ⟨hs, hp⟩ := hp
            have hn : (packE s').length = n := by
              rw [hp, List.length_take, List.length_drop]; omega
            subst hn
            obtain ⟨hb, -⟩ := rNum_back _ _ _ hr
            have hb' : b = vint (packE s').length ++ r := by injection hb
            refine ⟨hs, (rec_iff crc s' b hs).2 ⟨r, hr, hc.1, ?_, hp.symm⟩, ?_⟩
            · rw [← hp] at hc; exact hc.2
            · subst hb'
              unfold recE
              simp only [List.length_append, four_len]
              omega
          · cases h
        · cases h
      · cases h
    · cases h
  · rintro ⟨hs, hp, rfl⟩
    obtain ⟨r, h1, h2, h3, h4⟩ := (rec_iff crc s b hs).1 hp
    obtain ⟨hb, -⟩ := rNum_back _ _ _ h1
    have hb' : b = vint (packE s).length ++ r := by injection hb
    have h5 : unpackE (packE s) = some s := unpack_back s (by unfold small20 at hs; omega)
    unfold firstE
    rw [h1]
    simp only [h4, h5]
    rw [if_pos ⟨h2, h3⟩, if_pos ⟨hs, trivial⟩]
    subst hb'
    unfold recE
    simp only [List.length_append, four_len]
    congr 2
    omega

theorem rec_form (crc : List UInt8 → Nat) : Form small20 (recE crc) where
  pos s _ := by have := rec_pos crc s; omega
  free s t hs ht h := by
    have h1 := (first_some crc (recE crc t) s _).2 ⟨hs, h, rfl⟩
    have h2 := (first_some crc (recE crc t) t _).2 ⟨ht, List.prefix_rfl, rfl⟩
    rw [h1] at h2
    injection h2 with h3
    exact (Prod.mk.inj h3).1

/-- No record begins here. -/
theorem first_none (crc : List UInt8 → Nat) (b : List UInt8) :
    firstE crc b = none ↔ ∀ s, small20 s → ¬ recE crc s <+: b := by
  constructor
  · intro h s hs hp
    have := (first_some crc b s _).2 ⟨hs, hp, rfl⟩
    rw [h] at this
    cases this
  · intro h
    cases hf : firstE crc b with
    | none => rfl
    | some x =>
      obtain ⟨s, k⟩ := x
      obtain ⟨hs, hp, -⟩ := (first_some crc b s k).1 hf
      exact absurd hp (h s hs)

/-- A round of the parser: what stands in front is the list so far. -/
theorem parse_next (crc : List UInt8 → Nat) (b : List UInt8) (l : List (List UInt8)) (s : List UInt8) (k : Nat)
    (hl : ∀ s ∈ l, small20 s) (hp : flat (recE crc) l <+: b) (h : firstE crc (b.drop (flat (recE crc) l).length) = some (s, k)) :
    (∀ x ∈ l ++ [s], small20 x) ∧ flat (recE crc) (l ++ [s]) <+: b ∧ (flat (recE crc) (l ++ [s])).length = (flat (recE crc) l).length + k := by
  obtain ⟨hs, hq, rfl⟩ := (first_some crc _ s k).1 h
  obtain ⟨t, rfl⟩ := hp
  rw [List.drop_left' rfl] at hq
  refine ⟨?_, ?_, ?_⟩
  · intro x hx
    simp only [List.mem_append, List.mem_singleton] at hx
    rcases hx with hx | rfl
    · exact hl x hx
    · exact hs
  · rw [flat_snoc]
    exact (List.prefix_append_right_inj _).2 hq
  · rw [flat_snoc, List.length_append]

theorem parse_done (crc : List UInt8 → Nat) (b : List UInt8) (l : List (List UInt8))
    (hl : ∀ s ∈ l, small20 s) (hp : flat (recE crc) l <+: b) (h : firstE crc (b.drop (flat (recE crc) l).length) = none) :
    Valid small20 (recE crc) b l := by
  refine ⟨hl, hp, fun s hs hq => ?_⟩
  obtain ⟨t, rfl⟩ := hp
  rw [List.drop_left' rfl] at h
  rw [flat_snoc, List.prefix_append_right_inj] at hq
  exact (first_none crc t).1 h s hs hq

end Go.Proofs.YtgamkahbebnnaaaDoor
