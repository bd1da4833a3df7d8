import GoSem.Op.String
import Derived.Test.YtgamkahbebnnaaaDoorProg
import Derived.WalkKit
import Derived.WalkSpells
import Derived.Below
import Derived.OwnWalk
import Derived.Deep.Draws
import Derived.Deep.WholeRow
import Derived.Lib.Hide
import Derived.Laws.BitsAllLaws
import Derived.Outline
/-
  Plain mathematics of layer 3: the checksum register as a linear, injective map; a burst of at most 32 bits changes it; hexadecimal digits and the order of digests.
-/
namespace Go.Proofs.YtgamkahbebnnaaaDoor.S3.Math

/-! ### The register -/
def poly : BitVec 32 := 0x82f63b78#32
def step (c : BitVec 32) : BitVec 32 := if c.getLsbD 0 then (c >>> 1) ^^^ poly else c >>> 1
def steps : Nat → BitVec 32 → BitVec 32
  | 0, c => c
  | k + 1, c => steps k (step c)
/-- A byte goes in. -/
def feed (c : BitVec 32) (b : UInt8) : BitVec 32 := steps 8 (c ^^^ BitVec.ofNat 32 b.toNat)
def feeds : BitVec 32 → List UInt8 → BitVec 32
  | c, [] => c
  | c, b :: r => feeds (feed c b) r
def crc (l : List UInt8) : BitVec 32 := ~~~ (feeds 0xffffffff#32 l)

theorem feeds_append (c : BitVec 32) (a b : List UInt8) : feeds c (a ++ b) = feeds (feeds c a) b := by
  induction a generalizing c with
  | nil => rfl
  | cons x a ih => exact ih (feed c x)
theorem shift_xor (a b : BitVec 32) : (a ^^^ b) >>> 1 = (a >>> 1) ^^^ (b >>> 1) := by
  apply BitVec.eq_of_getLsbD_eq
  intro i hi
  simp
theorem xor_poly (x y : BitVec 32) : (x ^^^ poly) ^^^ (y ^^^ poly) = x ^^^ y := by
  apply BitVec.eq_of_getLsbD_eq
  intro i hi
  simp only [BitVec.getLsbD_xor]
  cases x.getLsbD i <;> cases y.getLsbD i <;> cases poly.getLsbD i <;> rfl
theorem step_xor (a b : BitVec 32) : step (a ^^^ b) = step a ^^^ step b := by
  unfold step
  rw [BitVec.getLsbD_xor, shift_xor]
  cases a.getLsbD 0 <;> cases b.getLsbD 0 <;> simp only [Bool.xor_false, Bool.xor_true, Bool.not_false, Bool.false_eq_true, if_true, if_false, Bool.xor_self]
  · rw [BitVec.xor_assoc]
  · rw [BitVec.xor_assoc, BitVec.xor_comm (b >>> 1) poly, ← BitVec.xor_assoc]
  · rw [xor_poly]
theorem steps_xor (k : Nat) (a b : BitVec 32) : steps k (a ^^^ b) = steps k a ^^^ steps k b := by
  induction k generalizing a b with
  | zero => rfl
  | succ k ih => simp only [steps]; rw [step_xor, ih]
theorem step_zero : step 0#32 = 0#32 := by decide
theorem steps_zero (k : Nat) : steps k 0#32 = 0#32 := by
  induction k with
  | zero => rfl
  | succ k ih => simp only [steps]; rw [step_zero, ih]
theorem steps_add (j k : Nat) (c : BitVec 32) : steps (j + k) c = steps k (steps j c) := by
  induction j generalizing c with
  | zero => simp [steps]
  | succ j ih => rw [Nat.succ_add]; simp only [steps]; exact ih _
/-- The register's highest bit tells which way it went. -/
theorem step_top (c : BitVec 32) : (step c).getLsbD 31 = c.getLsbD 0 := by
  unfold step
  have h : (c >>> 1).getLsbD 31 = false := by simp
  have hp : poly.getLsbD 31 = true := by decide
  cases e : c.getLsbD 0
  · simp
  · simp only [if_true, BitVec.getLsbD_xor, h, hp]; rfl
theorem step_eq_zero (c : BitVec 32) (h : step c = 0#32) : c = 0#32 := by
  have h0 : c.getLsbD 0 = false := by rw [← step_top, h]; simp
  have h1 : c >>> 1 = 0#32 := by
    unfold step at h
    rw [h0] at h
    simpa using h
  apply BitVec.eq_of_getLsbD_eq
  intro i hi
  rw [BitVec.getLsbD_zero]
  cases i with
  | zero => exact h0
  | succ i =>
    have := congrArg (fun x : BitVec 32 => x.getLsbD i) h1
    simpa [Nat.add_comm] using this
theorem steps_eq_zero (k : Nat) (c : BitVec 32) (h : steps k c = 0#32) : c = 0#32 := by
  induction k generalizing c with
  | zero => exact h
  | succ k ih => exact step_eq_zero c (ih _ h)
theorem xor_eq_zero (a b : BitVec 32) (h : a ^^^ b = 0#32) : a = b := by
  apply BitVec.eq_of_getLsbD_eq
  intro i hi
  have := congrArg (fun x : BitVec 32 => x.getLsbD i) h
  simp only [BitVec.getLsbD_xor, BitVec.getLsbD_zero] at this
  cases h1 : a.getLsbD i <;> cases h2 : b.getLsbD i <;> simp_all
theorem steps_inj (k : Nat) (a b : BitVec 32) (h : steps k a = steps k b) : a = b := by
  apply xor_eq_zero
  apply steps_eq_zero k
  rw [steps_xor, h, BitVec.xor_self]
theorem feed_inj (a b : BitVec 32) (x : UInt8) (h : feed a x = feed b x) : a = b := by
  unfold feed at h
  have h1 := steps_inj _ _ _ h
  have h2 := congrArg (fun y => y ^^^ BitVec.ofNat 32 x.toNat) h1
  simpa [BitVec.xor_assoc] using h2
theorem feeds_inj (a b : BitVec 32) (l : List UInt8) (h : feeds a l = feeds b l) : a = b := by
  induction l generalizing a b with
  | nil => exact h
  | cons x l ih => exact feed_inj a b x (ih _ _ h)
theorem not_inj (a b : BitVec 32) (h : ~~~a = ~~~b) : a = b := by
  have := congrArg (fun x => ~~~x) h
  simpa using this
/-- SumGoes. -/
theorem crc_goes (a b c : List UInt8) : crc a = crc b ↔ crc (a ++ c) = crc (b ++ c) := by
  unfold crc
  rw [feeds_append, feeds_append]
  constructor
  · intro h; rw [not_inj _ _ h]
  · intro h; rw [feeds_inj _ _ _ (not_inj _ _ h)]

/-! ### Affine -/
theorem byte_xor (a b : UInt8) : BitVec.ofNat 32 (a ^^^ b).toNat = BitVec.ofNat 32 a.toNat ^^^ BitVec.ofNat 32 b.toNat := by
  rw [UInt8.toNat_xor]
  apply BitVec.eq_of_toNat_eq
  have h1 := a.toNat_lt
  have h2 := b.toNat_lt
  have h3 : a.toNat ^^^ b.toNat < 2 ^ 8 := Nat.xor_lt_two_pow h1 h2
  rw [BitVec.toNat_xor, BitVec.toNat_ofNat, BitVec.toNat_ofNat, BitVec.toNat_ofNat, Nat.mod_eq_of_lt (by omega), Nat.mod_eq_of_lt (by omega), Nat.mod_eq_of_lt (by omega)]
theorem feed_xor (a b : BitVec 32) (x y : UInt8) : feed (a ^^^ b) (x ^^^ y) = feed a x ^^^ feed b y := by
  unfold feed
  rw [← steps_xor, byte_xor]
  congr 1
  rw [BitVec.xor_assoc, BitVec.xor_assoc, ← BitVec.xor_assoc b, BitVec.xor_comm b, BitVec.xor_assoc]
theorem feeds_xor (a b : BitVec 32) (x y : List UInt8) (h : x.length = y.length) : feeds (a ^^^ b) (List.zipWith (· ^^^ ·) x y) = feeds a x ^^^ feeds b y := by
  induction x generalizing a b y with
  | nil =>
    obtain rfl : y = [] := List.eq_nil_of_length_eq_zero h.symm
    rfl
  | cons p x ih =>
    cases y with
    | nil => simp at h
    | cons q y =>
      simp only [List.zipWith_cons_cons, feeds]
      rw [feed_xor]
      exact ih _ _ y (by simpa using h)
/-- SumAffine. -/
theorem crc_affine (a b c : List UInt8) (h1 : b.length = a.length) (h2 : c.length = a.length) :
    crc (List.zipWith (· ^^^ ·) (List.zipWith (· ^^^ ·) a b) c) = crc a ^^^ crc b ^^^ crc c := by
  unfold crc
  have e : (0xffffffff#32 : BitVec 32) = (0xffffffff#32 ^^^ 0xffffffff#32) ^^^ 0xffffffff#32 := by decide
  have e2 : feeds 0xffffffff#32 (List.zipWith (· ^^^ ·) (List.zipWith (· ^^^ ·) a b) c) = feeds ((0xffffffff#32 ^^^ 0xffffffff#32) ^^^ 0xffffffff#32) (List.zipWith (· ^^^ ·) (List.zipWith (· ^^^ ·) a b) c) := by rw [← e]
  rw [e2, feeds_xor _ _ _ _ (by rw [List.length_zipWith]; omega), feeds_xor _ _ _ _ h1.symm]
  apply BitVec.eq_of_getLsbD_eq
  intro i hi
  simp only [BitVec.getLsbD_xor, BitVec.getLsbD_not, hi, decide_true, Bool.true_and]
  cases (feeds 0xffffffff#32 a).getLsbD i <;> cases (feeds 0xffffffff#32 b).getLsbD i <;> cases (feeds 0xffffffff#32 c).getLsbD i <;> rfl

/-! ### Bursts -/
theorem low_shl (u : BitVec 32) (k : Nat) (hk : 0 < k) : (u <<< k).getLsbD 0 = false := by
  simp
  omega
/-- A word whose lowest bit is 0 goes in unturned. -/
theorem step_shl (u : BitVec 32) (h : u.getLsbD 31 = false) : step (u <<< 1) = u := by
  unfold step
  rw [low_shl u 1 (by omega)]
  simp only [Bool.false_eq_true, if_false]
  apply BitVec.eq_of_getLsbD_eq
  intro i hi
  simp only [BitVec.getLsbD_ushiftRight, BitVec.getLsbD_shiftLeft]
  by_cases h31 : i = 31
  · subst h31
    rw [h]
    simp
  · have : 1 + i < 32 := by omega
    simp [this]
theorem shl_shl (u : BitVec 32) (j k : Nat) : u <<< j <<< k = u <<< (j + k) := by
  rw [← BitVec.shiftLeft_add]
theorem steps_shl (k : Nat) (u : BitVec 32) (h : ∀ i, 32 ≤ i + k → u.getLsbD i = false) : steps k (u <<< k) = u := by
  induction k generalizing u with
  | zero => simp [steps]
  | succ k ih =>
    simp only [steps]
    rw [← shl_shl, step_shl]
    · exact ih u (fun i hi => h i (by omega))
    · rw [BitVec.getLsbD_shiftLeft]
      by_cases hk : 31 < k
      · simp [hk]
      · rw [h (31 - k) (by omega)]; simp
/-- The bytes of a word, the least first. -/
def byteOf (w : BitVec 32) (i : Nat) : UInt8 := UInt8.ofNat (w.toNat / 256 ^ i % 256)
theorem feed_word (c w : BitVec 32) : feed c (byteOf w 0) ^^^ (w >>> 8) = steps 8 (c ^^^ w) := by
  have e : w = BitVec.ofNat 32 (byteOf w 0).toNat ^^^ ((w >>> 8) <<< 8) := by
    apply BitVec.eq_of_getLsbD_eq
    intro i hi
    have hb : (byteOf w 0).toNat = w.toNat % 2 ^ 8 := by
      unfold byteOf
      rw [UInt8.toNat_ofNat']
      simp
    rw [BitVec.getLsbD_xor, BitVec.getLsbD_ofNat, hb, Nat.testBit_mod_two_pow, BitVec.getLsbD_shiftLeft, BitVec.getLsbD_ushiftRight]
    by_cases h8 : i < 8
    · simp [hi, h8, BitVec.getLsbD]
    · have : 8 + (i - 8) = i := by omega
      simp [hi, h8, this]
  have h : steps 8 (c ^^^ w) = steps 8 (c ^^^ BitVec.ofNat 32 (byteOf w 0).toNat) ^^^ steps 8 ((w >>> 8) <<< 8) := by
    rw [← steps_xor, BitVec.xor_assoc, ← e]
  rw [h, steps_shl 8 (w >>> 8) (fun i hi => by rw [BitVec.getLsbD_ushiftRight]; exact BitVec.getLsbD_of_ge _ _ (by omega))]
  rfl
theorem byteOf_shr (w : BitVec 32) (i j : Nat) : byteOf (w >>> (8 * j)) i = byteOf w (i + j) := by
  unfold byteOf
  rw [BitVec.toNat_ushiftRight, Nat.shiftRight_eq_div_pow, Nat.div_div_eq_div_mul, Nat.pow_add, show (2 : Nat) ^ (8 * j) = 256 ^ j by rw [Nat.pow_mul], Nat.mul_comm (256 ^ j)]
/-- Four bytes are one word. -/
theorem feeds_word (c w : BitVec 32) : feeds c [byteOf w 0, byteOf w 1, byteOf w 2, byteOf w 3] = steps 32 (c ^^^ w) := by
  have a1 := feed_word c w
  have a2 := feed_word (feed c (byteOf w 0)) (w >>> 8)
  have a3 := feed_word (feed (feed c (byteOf w 0)) (byteOf w 1)) (w >>> 16)
  have a4 := feed_word (feed (feed (feed c (byteOf w 0)) (byteOf w 1)) (byteOf w 2)) (w >>> 24)
  rw [show w >>> 8 = w >>> (8 * 1) from rfl, byteOf_shr] at a2
  rw [show w >>> 16 = w >>> (8 * 2) from rfl, byteOf_shr] at a3
  rw [show w >>> 24 = w >>> (8 * 3) from rfl, byteOf_shr] at a4
  simp only [Nat.zero_add, Nat.mul_one] at a2 a3 a4
  have s2 : w >>> 8 >>> 8 = w >>> (8 * 2) := by rw [← BitVec.shiftRight_add]
  have s3 : w >>> (8 * 2) >>> 8 = w >>> (8 * 3) := by rw [← BitVec.shiftRight_add]
  have s4 : w >>> (8 * 3) >>> 8 = 0#32 := by
    rw [← BitVec.shiftRight_add]
    apply BitVec.eq_of_getLsbD_eq
    intro i hi
    rw [BitVec.getLsbD_ushiftRight, BitVec.getLsbD_zero]
    exact BitVec.getLsbD_of_ge _ _ (by omega)
  rw [s2] at a2
  rw [s3] at a3
  rw [s4, BitVec.xor_zero] at a4
  simp only [feeds]
  rw [a4, a3, ← steps_add, a2, ← steps_add, a1, ← steps_add]
theorem cut_shl (v : BitVec 32) (s : Nat) (hs : s ≤ 8) : v = (v <<< s >>> s) ^^^ ((v >>> (32 - s)) <<< (32 - s)) := by
  apply BitVec.eq_of_getLsbD_eq
  intro i hi
  rw [BitVec.getLsbD_xor, BitVec.getLsbD_ushiftRight, BitVec.getLsbD_shiftLeft, BitVec.getLsbD_shiftLeft, BitVec.getLsbD_ushiftRight]
  by_cases h : s + i < 32
  · have h2 : i < 32 - s := by omega
    have h3 : s + i - s = i := by omega
    simp [h, h2, h3]
  · have h2 : ¬ i < 32 - s := by omega
    have h3 : 32 - s + (i - (32 - s)) = i := by omega
    simp [h, h2, h3, hi]
/-- A word shifted in is the word itself, some steps earlier, but for what was shifted out. -/
theorem steps_cut (v : BitVec 32) (s : Nat) (hs : s ≤ 8) : steps 32 (v <<< s) = steps (32 - s) v ^^^ (v >>> (32 - s)) := by
  have e1 : v <<< s = (v <<< s >>> s) <<< s := by
    apply BitVec.eq_of_getLsbD_eq
    intro i hi
    rw [BitVec.getLsbD_shiftLeft, BitVec.getLsbD_shiftLeft, BitVec.getLsbD_ushiftRight, BitVec.getLsbD_shiftLeft]
    by_cases h : i < s
    · simp [h]
    · have h2 : s + (i - s) = i := by omega
      simp [h, h2, hi]
  have e2 : steps s (v <<< s) = v <<< s >>> s := by
    rw [e1]
    rw [steps_shl s (v <<< s >>> s) (fun i hi => by
      rw [BitVec.getLsbD_ushiftRight]
      exact BitVec.getLsbD_of_ge _ _ (by omega)), ← e1]
  have e3 : v <<< s >>> s = v ^^^ ((v >>> (32 - s)) <<< (32 - s)) := by
    have h := cut_shl v s hs
    have h2 := congrArg (fun x => x ^^^ ((v >>> (32 - s)) <<< (32 - s))) h
    rw [h2, BitVec.xor_assoc, BitVec.xor_self, BitVec.xor_zero]
  have e4 : steps 32 (v <<< s) = steps (32 - s) (steps s (v <<< s)) := by rw [← steps_add, show s + (32 - s) = 32 by omega]
  rw [e4, e2, e3, steps_xor, steps_shl (32 - s) (v >>> (32 - s)) (fun i hi => by
    rw [BitVec.getLsbD_ushiftRight]
    exact BitVec.getLsbD_of_ge _ _ (by omega))]
/-- SumBurst, of the bytes alone: a change of at most 32 consecutive bits of five bytes, fed into an empty register, leaves something. -/
theorem burst (v : BitVec 32) (hv : v ≠ 0#32) (s : Nat) (hs : s ≤ 8) (d0 d1 d2 d3 d4 : UInt8) (h0 : d0 = byteOf (v <<< s) 0) (h1 : d1 = byteOf (v <<< s) 1) (h2 : d2 = byteOf (v <<< s) 2) (h3 : d3 = byteOf (v <<< s) 3)
    (h4 : BitVec.ofNat 32 d4.toNat = v >>> (32 - s)) : feeds 0#32 [d0, d1, d2, d3, d4] ≠ 0#32 := by
  intro h
  have e : feeds 0#32 [d0, d1, d2, d3, d4] = feed (feeds 0#32 [byteOf (v <<< s) 0, byteOf (v <<< s) 1, byteOf (v <<< s) 2, byteOf (v <<< s) 3]) d4 := by
    subst h0 h1 h2 h3
    rfl
  rw [e, feeds_word, BitVec.zero_xor, steps_cut v s hs] at h
  unfold feed at h
  rw [h4, BitVec.xor_assoc, BitVec.xor_self, BitVec.xor_zero, ← steps_add] at h
  exact hv (steps_eq_zero _ _ h)
/-- The bytes of 'by shifted by s', as the law reckons them (a 64-bit word), are these. -/
theorem burst_bytes (v : BitVec 32) (s : Nat) (i : Nat) (hi : i < 4) : UInt8.ofNat (v.toNat * 2 ^ s / 256 ^ i % 256) = byteOf (v <<< s) i := by
  unfold byteOf
  rw [BitVec.toNat_shiftLeft, Nat.shiftLeft_eq]
  congr 1
  have h : (256 : Nat) ^ i * 256 ∣ 2 ^ 32 := by
    rcases (by omega : i = 0 ∨ i = 1 ∨ i = 2 ∨ i = 3) with rfl | rfl | rfl | rfl <;> decide
  rw [← Nat.mod_mul_right_div_self, ← Nat.mod_mul_right_div_self, Nat.mod_mod_of_dvd _ h]
theorem burst_last (v : BitVec 32) (s : Nat) (hs : s ≤ 8) : BitVec.ofNat 32 (UInt8.ofNat (v.toNat * 2 ^ s / 256 ^ 4 % 256)).toNat = v >>> (32 - s) := by
  apply BitVec.eq_of_toNat_eq
  rw [BitVec.toNat_ofNat, UInt8.toNat_ofNat', BitVec.toNat_ushiftRight, Nat.shiftRight_eq_div_pow]
  have hlt := v.isLt
  have e : v.toNat * 2 ^ s / 256 ^ 4 = v.toNat / 2 ^ (32 - s) := by
    rw [show (256 : Nat) ^ 4 = 2 ^ (32 - s) * 2 ^ s by rw [← Nat.pow_add, show 32 - s + s = 32 by omega]]
    exact Nat.mul_div_mul_right _ _ (Nat.pow_pos (by omega))
  rw [e]
  have hb : v.toNat / 2 ^ (32 - s) < 256 := by
    rw [Nat.div_lt_iff_lt_mul (Nat.pow_pos (by omega))]
    have : 256 * 2 ^ (32 - s) ≥ 2 ^ 32 := by
      rw [show (256 : Nat) = 2 ^ 8 from rfl, ← Nat.pow_add]
      exact Nat.pow_le_pow_right (by omega) (by omega)
    omega
  rw [Nat.mod_eq_of_lt hb, Nat.mod_eq_of_lt (by omega : v.toNat / 2 ^ (32 - s) < 2 ^ 8), Nat.mod_eq_of_lt (by omega)]
end Go.Proofs.YtgamkahbebnnaaaDoor.S3.Math
/-
  Plain mathematics of layer 3: hexadecimal digits of bytes, read back; the order of byte lists and of their hexadecimal forms.
-/
namespace Go.Proofs.YtgamkahbebnnaaaDoor.S3.Hex
open Go.Op
/-- The digit of a number below 16. -/
def hd (n : Nat) : UInt8 := if n < 10 then UInt8.ofNat (48 + n) else UInt8.ofNat (87 + n)
def hex2 (b : UInt8) : List UInt8 := [hd (b.toNat / 16), hd (b.toNat % 16)]
def hexL (l : List UInt8) : List UInt8 := l.flatMap hex2
/-- A digit's number, or 16. -/
def un (c : UInt8) : Nat := if 48 ≤ c.toNat ∧ c.toNat ≤ 57 then c.toNat - 48 else if 97 ≤ c.toNat ∧ c.toNat ≤ 102 then c.toNat - 87 else 16
/-- Pairs of digits read back. -/
def unhex : List UInt8 → Option (List UInt8)
  | [] => some []
  | a :: b :: r => if un a < 16 ∧ un b < 16 then (unhex r).map (UInt8.ofNat (16 * un a + un b) :: ·) else none
  | _ => none
theorem toNat_of (n : Nat) (h : n < 256) : (UInt8.ofNat n).toNat = n := by rw [UInt8.toNat_ofNat']; exact Nat.mod_eq_of_lt (by omega)
theorem hd_nat (n : Nat) (h : n < 16) : (hd n).toNat = if n < 10 then 48 + n else 87 + n := by
  unfold hd
  split
  · rw [toNat_of _ (by omega)]
  · rw [toNat_of _ (by omega)]
theorem un_hd (n : Nat) (h : n < 16) : un (hd n) = n := by
  unfold un
  rw [hd_nat n h]
  split <;> split <;> first | omega | (split <;> omega)
theorem hd_un (c : UInt8) (h : un c < 16) : hd (un c) = c := by
  have e : (hd (un c)).toNat = c.toNat := by
    rw [hd_nat _ h]
    unfold un at h ⊢
    split at h
    · rename_i h1
      rw [if_pos h1]
      split <;> omega
    · rename_i h1
      rw [if_neg h1]
      split at h
      · rename_i h2
        rw [if_pos h2]
        split <;> omega
      · omega
  exact UInt8.toNat_inj.1 e
theorem byte_parts (b : UInt8) : UInt8.ofNat (16 * (b.toNat / 16) + b.toNat % 16) = b := by
  rw [show 16 * (b.toNat / 16) + b.toNat % 16 = b.toNat by omega]
  exact UInt8.ofNat_toNat
theorem unhex_hexL (l : List UInt8) : unhex (hexL l) = some l := by
  induction l with
  | nil => rfl
  | cons b l ih =>
    have hb := b.toNat_lt
    show unhex (hd (b.toNat / 16) :: hd (b.toNat % 16) :: hexL l) = _
    rw [unhex, un_hd _ (by omega), un_hd _ (by omega), if_pos ⟨by omega, by omega⟩, ih, byte_parts]
    rfl
theorem hexL_unhex (s l : List UInt8) (h : unhex s = some l) : hexL l = s := by
  induction l generalizing s with
  | nil =>
    match s, h with
    | [], _ => rfl
    | [a], h => simp [unhex] at h
    | a :: b :: r, h =>
      rw [unhex] at h
      split at h
      · rcases e : unhex r with _ | q <;> rw [e] at h <;> simp at h
      · simp at h
  | cons c l ih =>
    match s, h with
    | [], h => simp [unhex] at h
    | [a], h => simp [unhex] at h
    | a :: b :: r, h =>
      rw [unhex] at h
      split at h
      · rename_i hab
        rcases e : unhex r with _ | q
        · rw [e] at h; simp at h
        · rw [e] at h
          simp only [Option.map_some, Option.some.injEq, List.cons.injEq] at h
          obtain ⟨h1, rfl⟩ := h
          have hr := ih r e
          show hd (c.toNat / 16) :: hd (c.toNat % 16) :: hexL q = _
          rw [hr, ← h1, toNat_of _ (by omega), show (16 * un a + un b) / 16 = un a by omega, show (16 * un a + un b) % 16 = un b by omega, hd_un _ hab.1, hd_un _ hab.2]
      · simp at h
theorem hexL_length (l : List UInt8) : (hexL l).length = 2 * l.length := by
  induction l with
  | nil => rfl
  | cons b l ih =>
    show (hexL l).length + 1 + 1 = _
    rw [ih, List.length_cons]
    omega
theorem hd_lt (a b : Nat) (ha : a < 16) (hb : b < 16) : (hd a < hd b) ↔ a < b := by
  rw [UInt8.lt_iff_toNat_lt, hd_nat a ha, hd_nat b hb]
  split <;> split <;> omega
theorem hd_inj (a b : Nat) (ha : a < 16) (hb : b < 16) (h : hd a = hd b) : a = b := by
  have := congrArg un h
  rwa [un_hd a ha, un_hd b hb] at this
theorem hd_beq (a b : Nat) (ha : a < 16) (hb : b < 16) : (hd a == hd b) = decide (a = b) := by
  by_cases h : a = b
  · subst h; simp
  · have : hd a ≠ hd b := fun e => h (hd_inj a b ha hb e)
    simp [h, this]
/-- The order of the hexadecimal forms is the order of the bytes. -/
theorem hex_less (a b : List UInt8) (h : a.length = b.length) : bytesLess (hexL a) (hexL b) = bytesLess a b := by
  induction a generalizing b with
  | nil =>
    obtain rfl : b = [] := List.eq_nil_of_length_eq_zero h.symm
    rfl
  | cons x a ih =>
    cases b with
    | nil => simp at h
    | cons y b =>
      have hx := x.toNat_lt
      have hy := y.toNat_lt
      have hr := ih b (by simpa using h)
      show bytesLess (hd (x.toNat / 16) :: hd (x.toNat % 16) :: hexL a) (hd (y.toNat / 16) :: hd (y.toNat % 16) :: hexL b) = _
      simp only [bytesLess]
      rw [hr, hd_beq _ _ (by omega) (by omega), hd_beq _ _ (by omega) (by omega)]
      simp only [hd_lt _ _ (show x.toNat / 16 < 16 by omega) (show y.toNat / 16 < 16 by omega), hd_lt _ _ (show x.toNat % 16 < 16 by omega) (show y.toNat % 16 < 16 by omega)]
      by_cases h1 : x.toNat = y.toNat
      · have e : x = y := UInt8.toNat_inj.1 h1
        subst e
        simp
      · have hne : ¬ x = y := fun e => h1 (by rw [e])
        have hb : (x == y) = false := by simpa using hne
        rw [hb, Bool.false_and, Bool.or_false]
        rw [Bool.eq_iff_iff]
        simp only [Bool.or_eq_true, Bool.and_eq_true, decide_eq_true_eq, UInt8.lt_iff_toNat_lt]
        constructor
        · rintro (h2 | ⟨h2, h3 | ⟨h3, h4⟩⟩) <;> omega
        · intro h2
          by_cases h3 : x.toNat / 16 < y.toNat / 16
          · exact .inl h3
          · exact .inr ⟨by omega, .inl (by omega)⟩
theorem less_irrefl (a : List UInt8) : bytesLess a a = false := by
  induction a with
  | nil => rfl
  | cons x a ih => simp [bytesLess, ih]
theorem less_trans (a b c : List UInt8) (h1 : bytesLess a b = true) (h2 : bytesLess b c = true) : bytesLess a c = true := by
  induction a generalizing b c with
  | nil => cases b with
    | nil => simp [bytesLess] at h1
    | cons y b => cases c with
      | nil => simp [bytesLess] at h2
      | cons z c => rfl
  | cons x a ih => cases b with
    | nil => simp [bytesLess] at h1
    | cons y b => cases c with
      | nil => simp [bytesLess] at h2
      | cons z c =>
        simp only [bytesLess, Bool.or_eq_true, decide_eq_true_eq, Bool.and_eq_true, beq_iff_eq, UInt8.lt_iff_toNat_lt] at h1 h2 ⊢
        rcases h1 with h1 | ⟨rfl, h1⟩
        · rcases h2 with h2 | ⟨rfl, h2⟩
          · left; omega
          · left; exact h1
        · rcases h2 with h2 | ⟨rfl, h2⟩
          · left; exact h2
          · right; exact ⟨rfl, ih b c h1 h2⟩
theorem less_total (a b : List UInt8) (h : a.length = b.length) (h1 : bytesLess a b = false) (h2 : bytesLess b a = false) : a = b := by
  induction a generalizing b with
  | nil => exact (List.eq_nil_of_length_eq_zero h.symm).symm
  | cons x a ih =>
    cases b with
    | nil => simp at h
    | cons y b =>
      simp only [bytesLess, Bool.or_eq_false_iff, decide_eq_false_iff_not, UInt8.lt_iff_toNat_lt] at h1 h2
      have e : x = y := UInt8.toNat_inj.1 (by omega)
      subst e
      have r1 : bytesLess a b = false := by simpa using h1.2
      have r2 : bytesLess b a = false := by simpa using h2.2
      rw [ih b (by simpa using h) r1 r2]
end Go.Proofs.YtgamkahbebnnaaaDoor.S3.Hex
/-
  SHA-256 as a plain function on numbers below 2^32, in the shape in which the reference reckons it; two examples by the kernel.
-/
namespace Go.Proofs.YtgamkahbebnnaaaDoor.S3.Sha
def w32 : Nat := 4294967296
def rotr (x n : Nat) : Nat := (x >>> n) ||| ((x <<< (32 - n)) % w32)
def s0 (x : Nat) : Nat := rotr x 7 ^^^ rotr x 18 ^^^ (x >>> 3)
def s1 (x : Nat) : Nat := rotr x 17 ^^^ rotr x 19 ^^^ (x >>> 10)
def b0 (x : Nat) : Nat := rotr x 2 ^^^ rotr x 13 ^^^ rotr x 22
def b1 (x : Nat) : Nat := rotr x 6 ^^^ rotr x 11 ^^^ rotr x 25
def ch (x y z : Nat) : Nat := (x &&& y) ^^^ ((w32 - 1 - x) &&& z)
def mj (x y z : Nat) : Nat := (x &&& y) ^^^ (x &&& z) ^^^ (y &&& z)
def ks : List Nat := [
  0x428a2f98, 0x71374491, 0xb5c0fbcf, 0xe9b5dba5, 0x3956c25b, 0x59f111f1, 0x923f82a4, 0xab1c5ed5,
  0xd807aa98, 0x12835b01, 0x243185be, 0x550c7dc3, 0x72be5d74, 0x80deb1fe, 0x9bdc06a7, 0xc19bf174,
  0xe49b69c1, 0xefbe4786, 0x0fc19dc6, 0x240ca1cc, 0x2de92c6f, 0x4a7484aa, 0x5cb0a9dc, 0x76f988da,
  0x983e5152, 0xa831c66d, 0xb00327c8, 0xbf597fc7, 0xc6e00bf3, 0xd5a79147, 0x06ca6351, 0x14292967,
  0x27b70a85, 0x2e1b2138, 0x4d2c6dfc, 0x53380d13, 0x650a7354, 0x766a0abb, 0x81c2c92e, 0x92722c85,
  0xa2bfe8a1, 0xa81a664b, 0xc24b8b70, 0xc76c51a3, 0xd192e819, 0xd6990624, 0xf40e3585, 0x106aa070,
  0x19a4c116, 0x1e376c08, 0x2748774c, 0x34b0bcb5, 0x391c0cb3, 0x4ed8aa4a, 0x5b9cca4f, 0x682e6ff3,
  0x748f82ee, 0x78a5636f, 0x84c87814, 0x8cc70208, 0x90befffa, 0xa4506ceb, 0xbef9a3f7, 0xc67178f2]
def h0 : List Nat := [0x6a09e667, 0xbb67ae85, 0x3c6ef372, 0xa54ff53a, 0x510e527f, 0x9b05688c, 0x1f83d9ab, 0x5be0cd19]
/-- The message's padding: one byte 128, zeros, the length in bits in eight bytes. -/
def zeros (n : Nat) : Nat := (119 - n % 64) % 64
def pad (l : List Nat) : List Nat := l ++ 128 :: (List.replicate (zeros l.length) 0 ++ (List.range 8).map fun i => 8 * l.length / 256 ^ (7 - i) % 256)
def word (b : List Nat) (i : Nat) : Nat := b.getD (4 * i) 0 * 16777216 + b.getD (4 * i + 1) 0 * 65536 + b.getD (4 * i + 2) 0 * 256 + b.getD (4 * i + 3) 0
def first (b : List Nat) (k : Nat) : List Nat := (List.range k).map (word b)
def more (w : List Nat) : Nat := (w.getD (w.length - 16) 0 + s0 (w.getD (w.length - 15) 0) + w.getD (w.length - 7) 0 + s1 (w.getD (w.length - 2) 0)) % w32
def sched (b : List Nat) : Nat → List Nat
  | 0 => first b 16
  | k + 1 => sched b k ++ [more (sched b k)]
def round (v : List Nat) (k w : Nat) : List Nat :=
  let t := (v.getD 7 0 + b1 (v.getD 4 0) + ch (v.getD 4 0) (v.getD 5 0) (v.getD 6 0) + k + w) % w32
  [(t + b0 (v.getD 0 0) + mj (v.getD 0 0) (v.getD 1 0) (v.getD 2 0)) % w32, v.getD 0 0, v.getD 1 0, v.getD 2 0, (v.getD 3 0 + t) % w32, v.getD 4 0, v.getD 5 0, v.getD 6 0]
def rounds (w : List Nat) (h : List Nat) : Nat → List Nat
  | 0 => h
  | i + 1 => round (rounds w h i) (ks.getD i 0) (w.getD i 0)
def block (h b : List Nat) : List Nat := List.zipWith (fun x y => (x + y) % w32) (rounds (sched b 48) h 64) h
def blocks (p : List Nat) : Nat → List Nat
  | 0 => h0
  | n + 1 => block (blocks p n) ((p.drop (64 * n)).take 64)
def out (h : List Nat) : List Nat := (List.range 32).map fun i => h.getD (i / 4) 0 / 256 ^ (3 - i % 4) % 256
def sha (l : List Nat) : List Nat := out (blocks (pad l) ((pad l).length / 64))
/-- The schedule by a list that grows at its head: what the kernel can reckon quickly. -/
def go (n : Nat) (w : List Nat) : List Nat := match n with
  | 0 => w
  | n + 1 => go n (w ++ [more w])
theorem go_succ (n : Nat) (w : List Nat) : go (n + 1) w = go n w ++ [more (go n w)] := by
  induction n generalizing w with
  | zero => rfl
  | succ n ih => exact ih (w ++ [more w])
theorem sched_go (b : List Nat) (n : Nat) : sched b n = go n (first b 16) := by
  induction n with
  | zero => rfl
  | succ n ih => rw [go_succ, sched, ih]
def run (w : List Nat) (n i : Nat) (v : List Nat) : List Nat := match n with
  | 0 => v
  | n + 1 => run w n (i + 1) (round v (ks.getD i 0) (w.getD i 0))
theorem run_succ (w : List Nat) (n i : Nat) (v : List Nat) : run w (n + 1) i v = round (run w n i v) (ks.getD (i + n) 0) (w.getD (i + n) 0) := by
  induction n generalizing i v with
  | zero => rfl
  | succ n ih =>
    show run w (n + 1) (i + 1) _ = _
    rw [ih (i + 1)]
    rw [show i + 1 + n = i + (n + 1) by omega]
    rfl
theorem rounds_run (w h : List Nat) (n : Nat) : rounds w h n = run w n 0 h := by
  induction n with
  | zero => rfl
  | succ n ih => rw [run_succ, rounds, ih, Nat.zero_add]
def fast (h b : List Nat) : List Nat := List.zipWith (fun x y => (x + y) % w32) (run (go 48 (first b 16)) 64 0 h) h
theorem block_fast (h b : List Nat) : block h b = fast h b := by unfold block fast; rw [rounds_run, sched_go]
theorem sha_one (l : List Nat) (h : (pad l).length = 64) : sha l = out (fast h0 (pad l)) := by
  unfold sha
  rw [h]
  show out (block h0 (((pad l).drop 0).take 64)) = _
  rw [block_fast, List.drop_zero, List.take_of_length_le (by omega)]
theorem sha_empty : out (fast h0 (pad [])) = [0xe3, 0xb0, 0xc4, 0x42, 0x98, 0xfc, 0x1c, 0x14, 0x9a, 0xfb, 0xf4, 0xc8, 0x99, 0x6f, 0xb9, 0x24, 0x27, 0xae, 0x41, 0xe4, 0x64, 0x9b, 0x93, 0x4c, 0xa4, 0x95, 0x99, 0x1b, 0x78, 0x52, 0xb8, 0x55] := by decide +kernel
theorem sha_abc : out (fast h0 (pad [97, 98, 99])) = [0xba, 0x78, 0x16, 0xbf, 0x8f, 0x01, 0xcf, 0xea, 0x41, 0x41, 0x40, 0xde, 0x5d, 0xae, 0x22, 0x23, 0xb0, 0x03, 0x61, 0xa3, 0x96, 0x17, 0x7a, 0x9c, 0xb4, 0x10, 0xff, 0x61, 0xf2, 0x00, 0x15, 0xad] := by decide +kernel
end Go.Proofs.YtgamkahbebnnaaaDoor.S3.Sha
/-
  Words for memory in this seat: a block known whole, the two tables that the code reads, what a call may have changed; bytes of a string.
-/
namespace Go.Proofs.YtgamkahbebnnaaaDoor.S3
open Go.RowKit

/-- Block g is these cells of type t, none frozen. -/
def Is (w : World) (g : Nat) (t : TypeId) (c : Array Value) : Prop := w.heap[g]? = some (.cells c t (0, 0))
section
variable {w w1 w2 : World} {g : Nat} {t : TypeId} {c : Array Value}
theorem Is.lt (h : Is w g t c) : g < w.heap.size := by
  by_cases hg : g < w.heap.size
  · exact hg
  · exfalso
    unfold Is at h
    rw [Array.getElem?_eq_none (by omega)] at h
    cases h
theorem Is.at_ (h : Is w g t c) (i : Nat) : w.cell? ⟨g, i, none⟩ = c[i]? := cell_of_row w g i c t (0, 0) h
theorem Is.open_ (h : Is w g t c) (i : Nat) : w.frozen? ⟨g, i, none⟩ = false := by
  unfold Is at h
  simp [World.frozen?, h]
theorem Is.put (h : Is w g t c) (i : Nat) (u : Value) : Is (w.setCell ⟨g, i, none⟩ u) g t (c.setIfInBounds i u) := by
  unfold Is at h ⊢
  simp [World.setCell, Array.getElem?_modify, h]
theorem Is.away (h : Is w g t c) {a : Addr} (ha : g ≠ a.block) (u : Value) : Is (w.setCell a u) g t c := (Below.heap_setCell w a u g ha).trans h
theorem Is.fresh (w : World) (t : TypeId) (c : Array Value) : Is (w.alloc (.cells c t)) w.heap.size t c := heap_alloc_new w _
theorem Is.alloc (h : Is w g t c) (o : Obj) : Is (w.alloc o) g t c := (Below.heap_alloc w o g h.lt).trans h
theorem Is.below {B : Nat} (h : Is w g t c) (hb : Below B w w1) (hg : g < B) : Is w1 g t c := (hb.block g hg).trans h
theorem Is.kept {row : Option Nat} (h : Is w g t c) (hb : w.grownBy w1 row) (hg : some g ≠ row) : Is w1 g t c := (hb.block g h.lt hg).trans h
theorem Is.drew (h : Is w g t c) (n : Nat) : Is (w.drewN n) g t c := h
theorem Is.load {P : Program} {n : Nat} (h : Is w g t c) (hn : c.size = n) : (loadCellsFrom ⟨g, 0, none⟩ 0 n #[]).run P w = .ok c w := by
  subst hn
  have := run_loadCells_list (P := P) w ⟨g, 0, none⟩ c.toList (fun j v hv => by
    have hadd : (⟨g, 0, none⟩ : Addr).add j = ⟨g, j, none⟩ := by unfold Addr.add; split <;> simp_all
    rw [hadd, h.at_]
    simpa using hv)
  simpa [loadCells] using this
theorem Is.load0 {P : Program} {n : Nat} (h : Is w g t c) (hn : c.size = n) : (loadCells ⟨g, 0, none⟩ n).run P w = .ok c w := h.load hn
theorem Is.store {P : Program} {c' : Array Value} (h : Is w g t c) (hi : (P.info? t).map (·.size) = some c'.size) (ho : c.size = c'.size) (h1 : c'.all (·.oneCell') = true) :
    (storeCells ⟨g, 0, none⟩ c'.toList 0).run P w = .ok () (w.setRow g c') := by
  have := run_storeVar_row (P := P) w g t t c c' h hi ho h1
  cases hq : P.info? t with
  | none => simp [hq] at hi
  | some i =>
    have hs : c'.size = i.size := by simp [hq] at hi; omega
    simpa [storeVar, sizeOf, typeInfo, hq, Value.cells, hs] using this
theorem Is.row (h : Is w g t c) (c' : Array Value) : Is (w.setRow g c') g t c' := by
  unfold Is at h ⊢
  simp [World.setRow, Array.getElem?_modify, h]
theorem Is.row_away (h : Is w g t c) {g' : Nat} (hg : g ≠ g') (c' : Array Value) : Is (w.setRow g' c') g t c := by
  unfold Is at h ⊢
  simp only [World.setRow]
  rw [Array.getElem?_modify, if_neg (fun e => hg e.symm)]
  exact h
theorem below_row {B : Nat} (h : Below B w w1) {g' : Nat} (hg : B ≤ g') (c' : Array Value) : Below B w (w1.setRow g' c') :=
  ⟨h.os, h.tape, h.output, by rw [show (w1.setRow g' c').heap.size = w1.heap.size from Array.size_modify ..]; exact h.size, fun k hk => by
    rw [← h.block k hk]
    simp only [World.setRow]
    rw [Array.getElem?_modify, if_neg (by omega)]⟩
theorem below_drew {B : Nat} (h : Below B w w1) (n : Nat) : Below B w (w1.drewN n) := ⟨h.os, h.tape, h.output, h.size, h.block⟩
end

def mk (l : List UInt8) : ByteArray := ⟨l.toArray⟩
def ls (s : ByteArray) : List UInt8 := s.data.toList
theorem mk_ls (s : ByteArray) : mk (ls s) = s := rfl
theorem ls_mk (l : List UInt8) : ls (mk l) = l := rfl
theorem size_mk (l : List UInt8) : (mk l).size = l.length := rfl
theorem ls_length (s : ByteArray) : (ls s).length = s.size := rfl
theorem ls_inj {s t : ByteArray} (h : ls s = ls t) : s = t := by rw [← mk_ls s, h, mk_ls]
theorem ls_at (s : ByteArray) (k : Nat) (h : k < s.size) : (ls s)[k]'h = s[k] := rfl

/-- What four steps make of the lowest four bits. -/
def four : List Nat := [0, 274646895, 549293790, 820201905, 1098587580, 1361435347, 1640403810, 1905808397, 2197175160, 2460548119, 2722870694, 2987750089, 3280807620, 3553878443, 3811616794, 4084100981]
/-- The code's table holds what the program's text lays. -/
def Tabs (w : World) : Prop := 1 ≤ w.heap.size ∧ (∀ i, i < 16 → w.cell? ⟨0, i, none⟩ = some (.int .u32 (four.getD i 0 : Nat))) ∧ True
theorem Tabs.below {w w1 : World} {B : Nat} (h : Tabs w) (hb : Below B w w1) (hB : 1 ≤ B) : Tabs w1 :=
  ⟨Nat.le_trans h.1 hb.size, fun i hi => (by rw [← h.2.1 i hi]; exact hb.cell (by show (0:Nat) < B; omega)), trivial⟩
end Go.Proofs.YtgamkahbebnnaaaDoor.S3
/-
  Four steps of the checksum's register by the code's table; the register in natural numbers.
-/
namespace Go.Proofs.YtgamkahbebnnaaaDoor.S3
open Go.RowKit
theorem nib_low : ∀ a : Fin 16, (Math.steps 4 (BitVec.ofNat 32 a.val)).toNat = four.getD a.val 0 := by decide +kernel
theorem nib (x : Nat) (hx : x < 4294967296) : (Math.steps 4 (BitVec.ofNat 32 x)).toNat = (x / 16) ^^^ four.getD (x % 16) 0 := by
  have e : BitVec.ofNat 32 x = ((BitVec.ofNat 32 x >>> 4) <<< 4) ^^^ BitVec.ofNat 32 (x % 16) := by
    apply BitVec.eq_of_getLsbD_eq
    intro i hi
    rw [BitVec.getLsbD_xor, BitVec.getLsbD_shiftLeft, BitVec.getLsbD_ushiftRight, BitVec.getLsbD_ofNat, BitVec.getLsbD_ofNat, BitVec.getLsbD_ofNat, show (16 : Nat) = 2 ^ 4 from rfl, Nat.testBit_mod_two_pow]
    by_cases h4 : i < 4
    · simp [hi, h4]
    · have : 4 + (i - 4) = i := by omega
      simp [hi, h4, this]
  rw [e, Math.steps_xor, Math.steps_shl 4 _ (fun i hi => by rw [BitVec.getLsbD_ushiftRight]; exact BitVec.getLsbD_of_ge _ _ (by omega)), BitVec.toNat_xor]
  rw [nib_low ⟨x % 16, Nat.mod_lt _ (by omega)⟩, BitVec.toNat_ushiftRight, BitVec.toNat_ofNat, Nat.mod_eq_of_lt (by omega), Nat.shiftRight_eq_div_pow]
/-- A byte goes in, by two halves. -/
theorem feed_nat (c : BitVec 32) (b : UInt8) (X Y Z : Nat) (hX : X = c.toNat ^^^ b.toNat) (hY : Y = (X / 16) ^^^ four.getD (X % 16) 0) (hZ : Z = (Y / 16) ^^^ four.getD (Y % 16) 0) :
    (Math.feed c b).toNat = Z ∧ X < 4294967296 ∧ Y < 4294967296 ∧ Z < 4294967296 := by
  have hb := b.toNat_lt
  have hc := c.isLt
  have hx : X < 2 ^ 32 := by rw [hX]; exact Nat.xor_lt_two_pow hc (by omega)
  have e1 : c ^^^ BitVec.ofNat 32 b.toNat = BitVec.ofNat 32 X := by
    apply BitVec.eq_of_toNat_eq
    rw [BitVec.toNat_xor, BitVec.toNat_ofNat, BitVec.toNat_ofNat, Nat.mod_eq_of_lt hx, Nat.mod_eq_of_lt (by omega), hX]
  have e2 := nib X hx
  rw [← hY] at e2
  have hy : Y < 2 ^ 32 := by rw [← e2]; exact BitVec.isLt _
  have e3 : Math.steps 4 (BitVec.ofNat 32 X) = BitVec.ofNat 32 Y := by
    apply BitVec.eq_of_toNat_eq
    rw [e2, BitVec.toNat_ofNat, Nat.mod_eq_of_lt hy]
  have e4 := nib Y hy
  rw [← hZ] at e4
  refine ⟨?_, hx, hy, by rw [← e4]; exact BitVec.isLt _⟩
  unfold Math.feed
  rw [show 8 = 4 + 4 from rfl, Math.steps_add, e1, e3, e4]
theorem feeds_snoc (c : BitVec 32) (l : List UInt8) (k : Nat) (hk : k < l.length) : Math.feeds c (l.take (k + 1)) = Math.feed (Math.feeds c (l.take k)) l[k] := by
  rw [List.take_succ_eq_append_getElem hk, Math.feeds_append]; rfl
theorem u32_and15 (x : Nat) (hx : x < 4294967296) : bits .and .u32 (x : Int) 15 = ((x % 16 : Nat) : Int) := by
  have := u32_and_nat x 15 hx (by omega)
  rw [show ((15 : Nat) : Int) = 15 from rfl] at this
  rw [this, show (15 : Nat) = 2 ^ 4 - 1 from rfl, Nat.and_two_pow_sub_one_eq_mod]
theorem four_lt (a : Nat) : four.getD a 0 < 4294967296 := by
  by_cases h : a < 16
  · have : ∀ a : Fin 16, four.getD a.val 0 < 4294967296 := by decide
    exact this ⟨a, h⟩
  · rw [List.getD_eq_getElem?_getD, List.getElem?_eq_none (by simp [four]; omega)]; decide
theorem not_u32 (x : Nat) (h : x < 4294967296) : bits .xor .u32 4294967295 (x : Int) = ((4294967295 - x : Nat) : Int) := by
  have := u32_xor_nat 4294967295 x (by omega) h
  rw [show ((4294967295 : Nat) : Int) = 4294967295 from rfl] at this
  rw [this]
  congr 1
  have e := BitVec.toNat_not (x := BitVec.ofNat 32 x)
  have e2 : (~~~ (BitVec.ofNat 32 x)) = BitVec.ofNat 32 4294967295 ^^^ BitVec.ofNat 32 x := by
    apply BitVec.eq_of_getLsbD_eq
    intro i hi
    rw [BitVec.getLsbD_not, BitVec.getLsbD_xor, show BitVec.ofNat 32 4294967295 = BitVec.allOnes 32 from rfl, BitVec.getLsbD_allOnes]
    simp [hi]
  rw [e2, BitVec.toNat_xor, BitVec.toNat_ofNat, BitVec.toNat_ofNat, Nat.mod_eq_of_lt (by omega : x < 2 ^ 32)] at e
  exact e
theorem crc_nat (l : List UInt8) : (Math.crc l).toNat = 4294967295 - (Math.feeds 0xffffffff#32 l).toNat := by
  unfold Math.crc
  rw [BitVec.toNat_not]
end Go.Proofs.YtgamkahbebnnaaaDoor.S3
/-
  The code's Crc.
-/
namespace Go.Proofs.YtgamkahbebnnaaaDoor.S3
open Go.RowKit
set_option maxRecDepth 20000 in
theorem crc_any (s : ByteArray) (w : World) (hw : Tabs w) (hs : s.size ≤ 9223372036854775807) :
    Calls Tryd.prog 64 #[.string s] w fun e w' => e = .returned (.int .u32 ((Math.crc (ls s)).toNat : Nat)) ∧ w = w' := by
  have HW := Lib.hid hw
  clear hw
  go_enter Tryd.func64, Tryd.ntmps64
  go_wp2
  go_loop [3, 7] (fun c i => ∃ k C : Nat, k ≤ s.size ∧ i = .int .i64 k ∧ c = .int .u32 C ∧ Hid (C = (Math.feeds 0xffffffff#32 ((ls s).take k)).toNat)) (fun _ i => s.size - (intOf i).toNat)
  case atStart => exact ⟨0, 4294967295, by omega, rfl, rfl, Lib.hid rfl⟩
  case round =>
    obtain ⟨k, C, hk, rfl, rfl, HC⟩ := hrel
    by_cases hlt : k < s.size
    · have i1 : decide ((k : Int) < (s.size : Int)) = true := by simp; omega
      have hb := s[k].toNat_lt
      obtain ⟨X, hX⟩ : ∃ X, X = C ^^^ s[k].toNat := ⟨_, rfl⟩
      obtain ⟨Y, hY⟩ : ∃ Y, Y = (X / 16) ^^^ four.getD (X % 16) 0 := ⟨_, rfl⟩
      obtain ⟨Z, hZ⟩ : ∃ Z, Z = (Y / 16) ^^^ four.getD (Y % 16) 0 := ⟨_, rfl⟩
      obtain ⟨F, hx, hy, hz⟩ := feed_nat (Math.feeds 0xffffffff#32 ((ls s).take k)) s[k] X Y Z (by rw [← HC.out]; exact hX) hY hZ
      have hC : C < 4294967296 := by rw [HC.out]; exact BitVec.isLt _
      have e1 : bits .xor .u32 (C : Int) ((s[k].toNat : Int) % 4294967296) = (X : Int) := by
        rw [Int.emod_eq_of_lt (by omega) (by omega), u32_xor_nat C _ hC (by omega), hX]
      have e1' : bits .xor .u32 (C : Int) (s[k].toNat : Int) = (X : Int) := by rw [u32_xor_nat C _ hC (by omega), hX]
      obtain ⟨a, ha⟩ : ∃ a, a = X % 16 := ⟨_, rfl⟩
      obtain ⟨b, hb⟩ : ∃ b, b = Y % 16 := ⟨_, rfl⟩
      have e2 : bits .and .u32 (X : Int) 15 = (a : Int) := by rw [u32_and15 X hx, ha]
      have e3 : bits .and .u32 (Y : Int) 15 = (b : Int) := by rw [u32_and15 Y hy, hb]
      obtain ⟨p, hp⟩ : ∃ p, p = four.getD a 0 := ⟨_, rfl⟩
      obtain ⟨q, hq⟩ : ∃ q, q = four.getD b 0 := ⟨_, rfl⟩
      have c1 : w.cell? ⟨0, a, none⟩ = some (.int .u32 (p : Nat)) := by rw [hp]; exact HW.out.2.1 a (by omega)
      have c2 : w.cell? ⟨0, b, none⟩ = some (.int .u32 (q : Nat)) := by rw [hq]; exact HW.out.2.1 b (by omega)
      have e4 : bits .xor .u32 ((X : Int) / 16) (p : Int) = (Y : Int) := by
        have := u32_xor_nat (X / 16) p (by omega) (by rw [hp]; exact four_lt _)
        rw [hY, ← ha, ← hp, ← this]; rfl
      have e5 : bits .xor .u32 ((Y : Int) / 16) (q : Int) = (Z : Int) := by
        have := u32_xor_nat (Y / 16) q (by omega) (by rw [hq]; exact four_lt _)
        rw [hZ, ← hb, ← hq, ← this]; rfl
      have a1 : (a : Int) < 16 := by omega
      have a2 : (b : Int) < 16 := by omega
      have HF := Lib.hid F
      clear F hX hY hZ ha hb hp hq
      go_wp2
      go_round
      case rel =>
        refine ⟨k + 1, Z, by omega, by go_num, rfl, Lib.hid ?_⟩
        have h1 := feeds_snoc 0xffffffff#32 (ls s) k hlt
        rw [h1]
        exact HF.out.symm
      case measure => simp [intOf]; omega
    · have i1 : decide ((k : Int) < (s.size : Int)) = false := by simp; omega
      have hC : C < 4294967296 := by rw [HC.out]; exact BitVec.isLt _
      have e1 := not_u32 C hC
      have hn : (Math.crc (ls s)).toNat = 4294967295 - C := by
        rw [crc_nat, HC.out, List.take_of_length_le (by rw [ls_length]; omega)]
      obtain ⟨D, hD⟩ : ∃ D, D = 4294967295 - C := ⟨_, rfl⟩
      rw [← hD] at e1 hn
      have e2 : bits .xor .u32 IntKind.u32.max (C : Int) = (D : Int) := e1
      have HD := Lib.hid hn
      clear hn hD
      go_wp2
      go_ret
      exact ⟨by rw [HD.out]; rfl, rfl⟩
end Go.Proofs.YtgamkahbebnnaaaDoor.S3
