/-
  Plain arithmetic with a bound of 2^53 on both sides: what the functions of package num return, and the laws between them. No program is named here.
-/
namespace Go.Proofs.YteibjolnnonmnaaDoor

/-- In range: between -2^53 and 2^53. -/
def InR (n : Int) : Prop := -9007199254740992 ≤ n ∧ n ≤ 9007199254740992
instance (n : Int) : Decidable (InR n) := by unfold InR; exact inferInstance

def addF (a b : Int) : Int × Bool := if InR a ∧ InR b ∧ InR (a + b) then (a + b, true) else (0, false)
def subF (a b : Int) : Int × Bool := if InR a ∧ InR b ∧ InR (a - b) then (a - b, true) else (0, false)
def mulF (a b : Int) : Int × Bool := if InR a ∧ InR b ∧ InR (a * b) then (a * b, true) else (0, false)
def divF (a b : Int) : Int × Bool := if InR a ∧ InR b ∧ b ≠ 0 then (a.tdiv b, true) else (0, false)
def modF (a b : Int) : Int × Bool := if InR a ∧ InR b ∧ b ≠ 0 then (a.tmod b, true) else (0, false)
def negF (a : Int) : Int × Bool := if InR a then (-a, true) else (0, false)
def clampF (n l h : Int) : Int := if n < l then l else if h < n then h else n

theorem addF_comm (a b : Int) : addF b a = addF a b := by
  unfold addF
  have h : b + a = a + b := by omega
  rw [h]
  by_cases h1 : InR a ∧ InR b ∧ InR (a + b)
  · rw [if_pos h1, if_pos ⟨h1.2.1, h1.1, h1.2.2⟩]
  · rw [if_neg h1, if_neg (fun h2 => h1 ⟨h2.2.1, h2.1, h2.2.2⟩)]

theorem mulF_comm (a b : Int) : mulF b a = mulF a b := by
  unfold mulF
  have h : b * a = a * b := Int.mul_comm b a
  rw [h]
  by_cases h1 : InR a ∧ InR b ∧ InR (a * b)
  · rw [if_pos h1, if_pos ⟨h1.2.1, h1.1, h1.2.2⟩]
  · rw [if_neg h1, if_neg (fun h2 => h1 ⟨h2.2.1, h2.1, h2.2.2⟩)]

theorem sub_zero_neg (a : Int) : subF 0 a = negF a := by
  unfold subF negF
  have e : 0 - a = -a := by omega
  rw [e]
  by_cases h : InR a
  · have h2 : InR 0 ∧ InR a ∧ InR (-a) := ⟨⟨by omega, by omega⟩, h, ⟨by have := h.2; omega, by have := h.1; omega⟩⟩
    rw [if_pos h2, if_pos h]
  · rw [if_neg (fun k => h k.2.1), if_neg h]

theorem addF_yes {a b x : Int} (h : addF a b = (x, true)) : InR a ∧ InR b ∧ InR x ∧ x = a + b := by
  unfold addF at h
  split at h
  · rename_i h1
    injection h with h2 _
    subst h2
    exact ⟨h1.1, h1.2.1, h1.2.2, rfl⟩
  · injection h with _ h2
    cases h2
theorem mulF_yes {a b x : Int} (h : mulF a b = (x, true)) : InR a ∧ InR b ∧ InR x ∧ x = a * b := by
  unfold mulF at h
  split at h
  · rename_i h1
    injection h with h2 _
    subst h2
    exact ⟨h1.1, h1.2.1, h1.2.2, rfl⟩
  · injection h with _ h2
    cases h2

theorem sub_back {a b x : Int} (h : addF a b = (x, true)) : subF x b = (a, true) := by
  obtain ⟨ha, hb, hx, e⟩ := addF_yes h
  unfold subF
  have e2 : x - b = a := by omega
  rw [e2, if_pos ⟨hx, hb, ha⟩]

theorem add_assoc {a b c x e : Int} (h1 : addF a b = (x, true)) (h2 : addF b c = (e, true)) : addF a e = addF x c := by
  obtain ⟨ha, hb, hx, e1⟩ := addF_yes h1
  obtain ⟨_, hc, he, e2⟩ := addF_yes h2
  unfold addF
  have e3 : a + e = x + c := by omega
  rw [e3]
  by_cases h : InR (x + c)
  · rw [if_pos ⟨ha, he, h⟩, if_pos ⟨hx, hc, h⟩]
  · rw [if_neg (fun k => h k.2.2), if_neg (fun k => h k.2.2)]

theorem mul_distrib {a b c p f e : Int} (h1 : mulF a b = (p, true)) (h2 : mulF a c = (f, true)) (h3 : addF b c = (e, true)) : mulF a e = addF p f := by
  obtain ⟨ha, hb, hp, e1⟩ := mulF_yes h1
  obtain ⟨_, hc, hf, e2⟩ := mulF_yes h2
  obtain ⟨_, _, he, e3⟩ := addF_yes h3
  unfold mulF addF
  have e4 : a * e = p + f := by rw [e1, e2, e3, Int.mul_add]
  rw [e4]
  by_cases h : InR (p + f)
  · rw [if_pos ⟨ha, he, h⟩, if_pos ⟨hp, hf, h⟩]
  · rw [if_neg (fun k => h k.2.2), if_neg (fun k => h k.2.2)]

/-- The test that Mul makes before it multiplies. -/
theorem mul_test (x y : Int) (hx : 1 ≤ x) : 9007199254740992 / x < y ↔ 9007199254740992 < x * y := by
  rw [Int.ediv_lt_iff_lt_mul (by omega), Int.mul_comm]

theorem tdiv_abs (a b : Int) : (a.tdiv b).natAbs ≤ a.natAbs := by
  rw [Int.natAbs_tdiv]
  exact Nat.div_le_self _ _
theorem tmod_abs (a b : Int) : (a.tmod b).natAbs ≤ a.natAbs := by
  rw [Int.natAbs_tmod]
  exact Nat.mod_le _ _
theorem tdiv_lo (a b : Int) (h1 : -9007199254740992 ≤ a) (h2 : a ≤ 9007199254740992) : -9007199254740992 ≤ a.tdiv b := by have := tdiv_abs a b; omega
theorem tdiv_hi (a b : Int) (h1 : -9007199254740992 ≤ a) (h2 : a ≤ 9007199254740992) : a.tdiv b ≤ 9007199254740992 := by have := tdiv_abs a b; omega
theorem tmod_lo (a b : Int) (h1 : -9007199254740992 ≤ a) (h2 : a ≤ 9007199254740992) : -9007199254740992 ≤ a.tmod b := by have := tmod_abs a b; omega
theorem tmod_hi (a b : Int) (h1 : -9007199254740992 ≤ a) (h2 : a ≤ 9007199254740992) : a.tmod b ≤ 9007199254740992 := by have := tmod_abs a b; omega

end Go.Proofs.YteibjolnnonmnaaDoor
