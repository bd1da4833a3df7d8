/-
  Plain mathematics of layer 3: the checksum register as a linear, injective map; a burst of at most 32 bits changes it; hexadecimal digits and the order of digests.
-/
namespace Go.Proofs.YtmcdbjkmkbdeiaaDoor.S3.Math

/-! ### The register -/
def poly : BitVec 32 := 0x82f63b78#32
def step (c : BitVec 32) : BitVec 32 := if c.getLsbD 0 then (c >>> 1) ^^^ poly else c >>> 1
def steps : Nat → BitVec 32 → BitVec 32
  | 0, c => c
  | k + 1, c => steps k (step c)
/-- A byte goes in. -/
def feed (c : BitVec 32) (b : UInt8) : BitVec 32 := steps 8 (c ^^^ BitVec.ofNat 32 b.toNat)
def feeds : BitVec 32 → List UInt8 → BitVec 32
  | c, [] => c
  | c, b :: r => feeds (feed c b) r
def crc (l : List UInt8) : BitVec 32 := ~~~ (feeds 0xffffffff#32 l)

theorem feeds_append (c : BitVec 32) (a b : List UInt8) : feeds c (a ++ b) = feeds (feeds c a) b := by
  induction a generalizing c with
  | nil => rfl
  | cons x a ih => exact ih (feed c x)
theorem shift_xor (a b : BitVec 32) : (a ^^^ b) >>> 1 = (a >>> 1) ^^^ (b >>> 1) := by
  apply BitVec.eq_of_getLsbD_eq
  intro i hi
  simp
theorem xor_poly (x y : BitVec 32) : (x ^^^ poly) ^^^ (y ^^^ poly) = x ^^^ y := by
  apply BitVec.eq_of_getLsbD_eq
  intro i hi
  simp only [BitVec.getLsbD_xor]
  cases x.getLsbD i <;> cases y.getLsbD i <;> cases poly.getLsbD i <;> rfl
theorem step_xor (a b : BitVec 32) : step (a ^^^ b) = step a ^^^ step b := by
  unfold step
  rw [BitVec.getLsbD_xor, shift_xor]
  cases a.getLsbD 0 <;> cases b.getLsbD 0 <;> simp only [Bool.xor_false, Bool.xor_true, Bool.not_false, Bool.false_eq_true, if_true, if_false, Bool.xor_self]
  · rw [BitVec.xor_assoc]
  · rw [BitVec.xor_assoc, BitVec.xor_comm (b >>> 1) poly, ← BitVec.xor_assoc]
  · rw [xor_poly]
theorem steps_xor (k : Nat) (a b : BitVec 32) : steps k (a ^^^ b) = steps k a ^^^ steps k b := by
  induction k generalizing a b with
  | zero => rfl
  | succ k ih => simp only [steps]; rw [step_xor, ih]
theorem step_zero : step 0#32 = 0#32 := by decide
theorem steps_zero (k : Nat) : steps k 0#32 = 0#32 := by
  induction k with
  | zero => rfl
  | succ k ih => simp only [steps]; rw [step_zero, ih]
theorem steps_add (j k : Nat) (c : BitVec 32) : steps (j + k) c = steps k (steps j c) := by
  induction j generalizing c with
  | zero => simp [steps]
  | succ j ih => rw [Nat.succ_add]; simp only [steps]; exact ih _
/-- The register's highest bit tells which way it went. -/
theorem step_top (c : BitVec 32) : (step c).getLsbD 31 = c.getLsbD 0 := by
  unfold step
  have h : (c >>> 1).getLsbD 31 = false := by simp
  have hp : poly.getLsbD 31 = true := by decide
  cases e : c.getLsbD 0
  · simp
  · simp only [if_true, BitVec.getLsbD_xor, h, hp]; rfl
theorem step_eq_zero (c : BitVec 32) (h : step c = 0#32) : c = 0#32 := by
  have h0 : c.getLsbD 0 = false := by rw [← step_top, h]; simp
  have h1 : c >>> 1 = 0#32 := by
    unfold step at h
    rw [h0] at h
    simpa using h
  apply BitVec.eq_of_getLsbD_eq
  intro i hi
  rw [BitVec.getLsbD_zero]
  cases i with
  | zero => exact h0
  | succ i =>
    have := congrArg (fun x : BitVec 32 => x.getLsbD i) h1
    simpa [Nat.add_comm] using this
theorem steps_eq_zero (k : Nat) (c : BitVec 32) (h : steps k c = 0#32) : c = 0#32 := by
  induction k generalizing c with
  | zero => exact h
  | succ k ih => exact step_eq_zero c (ih _ h)
theorem xor_eq_zero (a b : BitVec 32) (h : a ^^^ b = 0#32) : a = b := by
  apply BitVec.eq_of_getLsbD_eq
  intro i hi
  have := congrArg (fun x : BitVec 32 => x.getLsbD i) h
  simp only [BitVec.getLsbD_xor, BitVec.getLsbD_zero] at this
  cases h1 : a.getLsbD i <;> cases h2 : b.getLsbD i <;> simp_all
theorem steps_inj (k : Nat) (a b : BitVec 32) (h : steps k a = steps k b) : a = b := by
  apply xor_eq_zero
  apply steps_eq_zero k
  rw [steps_xor, h, BitVec.xor_self]
theorem feed_inj (a b : BitVec 32) (x : UInt8) (h : feed a x = feed b x) : a = b := by
  unfold feed at h
  have h1 := steps_inj _ _ _ h
  have h2 := congrArg (fun y => y ^^^ BitVec.ofNat 32 x.toNat) h1
  simpa [BitVec.xor_assoc] using h2
theorem feeds_inj (a b : BitVec 32) (l : List UInt8) (h : feeds a l = feeds b l) : a = b := by
  induction l generalizing a b with
  | nil => exact h
  | cons x l ih => exact feed_inj a b x (ih _ _ h)
theorem not_inj (a b : BitVec 32) (h : ~~~a = ~~~b) : a = b := by
  have := congrArg (fun x => ~~~x) h
  simpa using this
/-- SumGoes. -/
theorem crc_goes (a b c : List UInt8) : crc a = crc b ↔ crc (a ++ c) = crc (b ++ c) := by
  unfold crc
  rw [feeds_append, feeds_append]
  constructor
  · intro h; rw [not_inj _ _ h]
  · intro h; rw [feeds_inj _ _ _ (not_inj _ _ h)]

/-! ### Affine -/
theorem byte_xor (a b : UInt8) : BitVec.ofNat 32 (a ^^^ b).toNat = BitVec.ofNat 32 a.toNat ^^^ BitVec.ofNat 32 b.toNat := by
  rw [UInt8.toNat_xor]
  apply BitVec.eq_of_toNat_eq
  have h1 := a.toNat_lt
  have h2 := b.toNat_lt
  have h3 : a.toNat ^^^ b.toNat < 2 ^ 8 := Nat.xor_lt_two_pow h1 h2
  rw [BitVec.toNat_xor, BitVec.toNat_ofNat, BitVec.toNat_ofNat, BitVec.toNat_ofNat, Nat.mod_eq_of_lt (by omega), Nat.mod_eq_of_lt (by omega), Nat.mod_eq_of_lt (by omega)]
theorem feed_xor (a b : BitVec 32) (x y : UInt8) : feed (a ^^^ b) (x ^^^ y) = feed a x ^^^ feed b y := by
  unfold feed
  rw [← steps_xor, byte_xor]
  congr 1
  rw [BitVec.xor_assoc, BitVec.xor_assoc, ← BitVec.xor_assoc b, BitVec.xor_comm b, BitVec.xor_assoc]
theorem feeds_xor (a b : BitVec 32) (x y : List UInt8) (h : x.length = y.length) : feeds (a ^^^ b) (List.zipWith (· ^^^ ·) x y) = feeds a x ^^^ feeds b y := by
  induction x generalizing a b y with
  | nil =>
    obtain rfl : y = [] := List.eq_nil_of_length_eq_zero h.symm
    rfl
  | cons p x ih =>
    cases y with
    | nil => simp at h
    | cons q y =>
      simp only [List.zipWith_cons_cons, feeds]
      rw [feed_xor]
      exact ih _ _ y (by simpa using h)
/-- SumAffine. -/
theorem crc_affine (a b c : List UInt8) (h1 : b.length = a.length) (h2 : c.length = a.length) :
    crc (List.zipWith (· ^^^ ·) (List.zipWith (· ^^^ ·) a b) c) = crc a ^^^ crc b ^^^ crc c := by
  unfold crc
  have e : (0xffffffff#32 : BitVec 32) = (0xffffffff#32 ^^^ 0xffffffff#32) ^^^ 0xffffffff#32 := by decide
  have e2 : feeds 0xffffffff#32 (List.zipWith (· ^^^ ·) (List.zipWith (· ^^^ ·) a b) c) = feeds ((0xffffffff#32 ^^^ 0xffffffff#32) ^^^ 0xffffffff#32) (List.zipWith (· ^^^ ·) (List.zipWith (· ^^^ ·) a b) c) := by rw [← e]
  rw [e2, feeds_xor _ _ _ _ (by rw [List.length_zipWith]; omega), feeds_xor _ _ _ _ h1.symm]
  apply BitVec.eq_of_getLsbD_eq
  intro i hi
  simp only [BitVec.getLsbD_xor, BitVec.getLsbD_not, hi, decide_true, Bool.true_and]
  cases (feeds 0xffffffff#32 a).getLsbD i <;> cases (feeds 0xffffffff#32 b).getLsbD i <;> cases (feeds 0xffffffff#32 c).getLsbD i <;> rfl

/-! ### Bursts -/
theorem low_shl (u : BitVec 32) (k : Nat) (hk : 0 < k) : (u <<< k).getLsbD 0 = false := by
  simp
  omega
/-- A word whose lowest bit is 0 goes in unturned. -/
theorem step_shl (u : BitVec 32) (h : u.getLsbD 31 = false) : step (u <<< 1) = u := by
  unfold step
  rw [low_shl u 1 (by omega)]
  simp only [Bool.false_eq_true, if_false]
  apply BitVec.eq_of_getLsbD_eq
  intro i hi
  simp only [BitVec.getLsbD_ushiftRight, BitVec.getLsbD_shiftLeft]
  by_cases h31 : i = 31
  · subst h31
    rw [h]
    simp
  · have : 1 + i < 32 := by omega
    simp [this]
theorem shl_shl (u : BitVec 32) (j k : Nat) : u <<< j <<< k = u <<< (j + k) := by
  rw [← BitVec.shiftLeft_add]
theorem steps_shl (k : Nat) (u : BitVec 32) (h : ∀ i, 32 ≤ i + k → u.getLsbD i = false) : steps k (u <<< k) = u := by
  induction k generalizing u with
  | zero => simp [steps]
  | succ k ih =>
    simp only [steps]
    rw [← shl_shl, step_shl]
    · exact ih u (fun i hi => h i (by omega))
    · rw [BitVec.getLsbD_shiftLeft]
      by_cases hk : 31 < k
      · simp [hk]
      · rw [h (31 - k) (by omega)]; simp
/-- The bytes of a word, the least first. -/
def byteOf (w : BitVec 32) (i : Nat) : UInt8 := UInt8.ofNat (w.toNat / 256 ^ i % 256)
theorem feed_word (c w : BitVec 32) : feed c (byteOf w 0) ^^^ (w >>> 8) = steps 8 (c ^^^ w) := by
  have e : w = BitVec.ofNat 32 (byteOf w 0).toNat ^^^ ((w >>> 8) <<< 8) := by
    apply BitVec.eq_of_getLsbD_eq
    intro i hi
    have hb : (byteOf w 0).toNat = w.toNat % 2 ^ 8 := by
      unfold byteOf
      rw [UInt8.toNat_ofNat']
      simp
    rw [BitVec.getLsbD_xor, BitVec.getLsbD_ofNat, hb, Nat.testBit_mod_two_pow, BitVec.getLsbD_shiftLeft, BitVec.getLsbD_ushiftRight]
    by_cases h8 : i < 8
    · simp [hi, h8, BitVec.getLsbD]
    · have : 8 + (i - 8) = i := by omega
      simp [hi, h8, this]
  have h : steps 8 (c ^^^ w) = steps 8 (c ^^^ BitVec.ofNat 32 (byteOf w 0).toNat) ^^^ steps 8 ((w >>> 8) <<< 8) := by
    rw [← steps_xor, BitVec.xor_assoc, ← e]
  rw [h, steps_shl 8 (w >>> 8) (fun i hi => by rw [BitVec.getLsbD_ushiftRight]; exact BitVec.getLsbD_of_ge _ _ (by omega))]
  rfl
theorem byteOf_shr (w : BitVec 32) (i j : Nat) : byteOf (w >>> (8 * j)) i = byteOf w (i + j) := by
  unfold byteOf
  rw [BitVec.toNat_ushiftRight, Nat.shiftRight_eq_div_pow, Nat.div_div_eq_div_mul, Nat.pow_add, show (2 : Nat) ^ (8 * j) = 256 ^ j by rw [Nat.pow_mul], Nat.mul_comm (256 ^ j)]
/-- Four bytes are one word. -/
theorem feeds_word (c w : BitVec 32) : feeds c [byteOf w 0, byteOf w 1, byteOf w 2, byteOf w 3] = steps 32 (c ^^^ w) := by
  have a1 := feed_word c w
  have a2 := feed_word (feed c (byteOf w 0)) (w >>> 8)
  have a3 := feed_word (feed (feed c (byteOf w 0)) (byteOf w 1)) (w >>> 16)
  have a4 := feed_word (feed (feed (feed c (byteOf w 0)) (byteOf w 1)) (byteOf w 2)) (w >>> 24)
  rw [show w >>> 8 = w >>> (8 * 1) from rfl, byteOf_shr] at a2
  rw [show w >>> 16 = w >>> (8 * 2) from rfl, byteOf_shr] at a3
  rw [show w >>> 24 = w >>> (8 * 3) from rfl, byteOf_shr] at a4
  simp only [Nat.zero_add, Nat.mul_one] at a2 a3 a4
  have s2 : w >>> 8 >>> 8 = w >>> (8 * 2) := by rw [← BitVec.shiftRight_add]
  have s3 : w >>> (8 * 2) >>> 8 = w >>> (8 * 3) := by rw [← BitVec.shiftRight_add]
  have s4 : w >>> (8 * 3) >>> 8 = 0#32 := by
    rw [← BitVec.shiftRight_add]
    apply BitVec.eq_of_getLsbD_eq
    intro i hi
    rw [BitVec.getLsbD_ushiftRight, BitVec.getLsbD_zero]
    exact BitVec.getLsbD_of_ge _ _ (by omega)
  rw [s2] at a2
  rw [s3] at a3
  rw [s4, BitVec.xor_zero] at a4
  simp only [feeds]
  rw [a4, a3, ← steps_add, a2, ← steps_add, a1, ← steps_add]
theorem cut_shl (v : BitVec 32) (s : Nat) (hs : s ≤ 8) : v = (v <<< s >>> s) ^^^ ((v >>> (32 - s)) <<< (32 - s)) := by
  apply BitVec.eq_of_getLsbD_eq
  intro i hi
  rw [BitVec.getLsbD_xor, BitVec.getLsbD_ushiftRight, BitVec.getLsbD_shiftLeft, BitVec.getLsbD_shiftLeft, BitVec.getLsbD_ushiftRight]
  by_cases h : s + i < 32
  · have h2 : i < 32 - s := by omega
    have h3 : s + i - s = i := by omega
    simp [h, h2, h3]
  · have h2 : ¬ i < 32 - s := by omega
    have h3 : 32 - s + (i - (32 - s)) = i := by omega
    simp [h, h2, h3, hi]
/-- A word shifted in is the word itself, some steps earlier, but for what was shifted out. -/
theorem steps_cut (v : BitVec 32) (s : Nat) (hs : s ≤ 8) : steps 32 (v <<< s) = steps (32 - s) v ^^^ (v >>> (32 - s)) := by
  have e1 : v <<< s = (v <<< s >>> s) <<< s := by
    apply BitVec.eq_of_getLsbD_eq
    intro i hi
    rw [BitVec.getLsbD_shiftLeft, BitVec.getLsbD_shiftLeft, BitVec.getLsbD_ushiftRight, BitVec.getLsbD_shiftLeft]
    by_cases h : i < s
    · simp [h]
    · have h2 : s + (i - s) = i := by omega
      simp [h, h2, hi]
  have e2 : steps s (v <<< s) = v <<< s >>> s := by
    rw [e1]
    rw [steps_shl s (v <<< s >>> s) (fun i hi => by
      rw [BitVec.getLsbD_ushiftRight]
      exact BitVec.getLsbD_of_ge _ _ (by omega)), ← e1]
  have e3 : v <<< s >>> s = v ^^^ ((v >>> (32 - s)) <<< (32 - s)) := by
    have h := cut_shl v s hs
    have h2 := congrArg (fun x => x ^^^ ((v >>> (32 - s)) <<< (32 - s))) h
    rw [h2, BitVec.xor_assoc, BitVec.xor_self, BitVec.xor_zero]
  have e4 : steps 32 (v <<< s) = steps (32 - s) (steps s (v <<< s)) := by rw [← steps_add, show s + (32 - s) = 32 by omega]
  rw [e4, e2, e3, steps_xor, steps_shl (32 - s) (v >>> (32 - s)) (fun i hi => by
    rw [BitVec.getLsbD_ushiftRight]
    exact BitVec.getLsbD_of_ge _ _ (by omega))]
/-- SumBurst, of the bytes alone: a change of at most 32 consecutive bits of five bytes, fed into an empty register, leaves something. -/
theorem burst (v : BitVec 32) (hv : v ≠ 0#32) (s : Nat) (hs : s ≤ 8) (d0 d1 d2 d3 d4 : UInt8) (h0 : d0 = byteOf (v <<< s) 0) (h1 : d1 = byteOf (v <<< s) 1) (h2 : d2 = byteOf (v <<< s) 2) (h3 : d3 = byteOf (v <<< s) 3)
    (h4 : BitVec.ofNat 32 d4.toNat = v >>> (32 - s)) : feeds 0#32 [d0, d1, d2, d3, d4] ≠ 0#32 := by
  intro h
  have e : feeds 0#32 [d0, d1, d2, d3, d4] = feed (feeds 0#32 [byteOf (v <<< s) 0, byteOf (v <<< s) 1, byteOf (v <<< s) 2, byteOf (v <<< s) 3]) d4 := by
    subst h0 h1 h2 h3
    rfl
  rw [e, feeds_word, BitVec.zero_xor, steps_cut v s hs] at h
  unfold feed at h
  rw [h4, BitVec.xor_assoc, BitVec.xor_self, BitVec.xor_zero, ← steps_add] at h
  exact hv (steps_eq_zero _ _ h)
/-- The bytes of 'by shifted by s', as the law reckons them (a 64-bit word), are these. -/
theorem burst_bytes (v : BitVec 32) (s : Nat) (i : Nat) (hi : i < 4) : UInt8.ofNat (v.toNat * 2 ^ s / 256 ^ i % 256) = byteOf (v <<< s) i := by
  unfold byteOf
  rw [BitVec.toNat_shiftLeft, Nat.shiftLeft_eq]
  congr 1
  have h : (256 : Nat) ^ i * 256 ∣ 2 ^ 32 := by
    rcases (by omega : i = 0 ∨ i = 1 ∨ i = 2 ∨ i = 3) with rfl | rfl | rfl | rfl <;> decide
  rw [← Nat.mod_mul_right_div_self, ← Nat.mod_mul_right_div_self, Nat.mod_mod_of_dvd _ h]
theorem burst_last (v : BitVec 32) (s : Nat) (hs : s ≤ 8) : BitVec.ofNat 32 (UInt8.ofNat (v.toNat * 2 ^ s / 256 ^ 4 % 256)).toNat = v >>> (32 - s) := by
  apply BitVec.eq_of_toNat_eq
  rw [BitVec.toNat_ofNat, UInt8.toNat_ofNat', BitVec.toNat_ushiftRight, Nat.shiftRight_eq_div_pow]
  have hlt := v.isLt
  have e : v.toNat * 2 ^ s / 256 ^ 4 = v.toNat / 2 ^ (32 - s) := by
    rw [show (256 : Nat) ^ 4 = 2 ^ (32 - s) * 2 ^ s by rw [← Nat.pow_add, show 32 - s + s = 32 by omega]]
    exact Nat.mul_div_mul_right _ _ (Nat.pow_pos (by omega))
  rw [e]
  have hb : v.toNat / 2 ^ (32 - s) < 256 := by
    rw [Nat.div_lt_iff_lt_mul (Nat.pow_pos (by omega))]
    have : 256 * 2 ^ (32 - s) ≥ 2 ^ 32 := by
      rw [show (256 : Nat) = 2 ^ 8 from rfl, ← Nat.pow_add]
      exact Nat.pow_le_pow_right (by omega) (by omega)
    omega
  rw [Nat.mod_eq_of_lt hb, Nat.mod_eq_of_lt (by omega : v.toNat / 2 ^ (32 - s) < 2 ^ 8), Nat.mod_eq_of_lt (by omega)]
end Go.Proofs.YtmcdbjkmkbdeiaaDoor.S3.Math
