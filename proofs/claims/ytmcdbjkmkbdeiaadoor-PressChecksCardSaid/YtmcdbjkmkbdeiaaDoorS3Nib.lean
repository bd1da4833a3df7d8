/-
  Four steps of the checksum's register by the code's table; the register in natural numbers.
-/
import Derived.Test.YtmcdbjkmkbdeiaaDoorS3Mem
namespace Go.Proofs.YtmcdbjkmkbdeiaaDoor.S3
open Go.RowKit
theorem nib_low : ∀ a : Fin 16, (Math.steps 4 (BitVec.ofNat 32 a.val)).toNat = four.getD a.val 0 := by decide +kernel
theorem nib (x : Nat) (hx : x < 4294967296) : (Math.steps 4 (BitVec.ofNat 32 x)).toNat = (x / 16) ^^^ four.getD (x % 16) 0 := by
  have e : BitVec.ofNat 32 x = ((BitVec.ofNat 32 x >>> 4) <<< 4) ^^^ BitVec.ofNat 32 (x % 16) := by
    apply BitVec.eq_of_getLsbD_eq
    intro i hi
    rw [BitVec.getLsbD_xor, BitVec.getLsbD_shiftLeft, BitVec.getLsbD_ushiftRight, BitVec.getLsbD_ofNat, BitVec.getLsbD_ofNat, BitVec.getLsbD_ofNat, show (16 : Nat) = 2 ^ 4 from rfl, Nat.testBit_mod_two_pow]
    by_cases h4 : i < 4
    · simp [hi, h4]
    · have : 4 + (i - 4) = i := by omega
      simp [hi, h4, this]
  rw [e, Math.steps_xor, Math.steps_shl 4 _ (fun i hi => by rw [BitVec.getLsbD_ushiftRight]; exact BitVec.getLsbD_of_ge _ _ (by omega)), BitVec.toNat_xor]
  rw [nib_low ⟨x % 16, Nat.mod_lt _ (by omega)⟩, BitVec.toNat_ushiftRight, BitVec.toNat_ofNat, Nat.mod_eq_of_lt (by omega), Nat.shiftRight_eq_div_pow]
/-- A byte goes in, by two halves. -/
theorem feed_nat (c : BitVec 32) (b : UInt8) (X Y Z : Nat) (hX : X = c.toNat ^^^ b.toNat) (hY : Y = (X / 16) ^^^ four.getD (X % 16) 0) (hZ : Z = (Y / 16) ^^^ four.getD (Y % 16) 0) :
    (Math.feed c b).toNat = Z ∧ X < 4294967296 ∧ Y < 4294967296 ∧ Z < 4294967296 := by
  have hb := b.toNat_lt
  have hc := c.isLt
  have hx : X < 2 ^ 32 := by rw [hX]; exact Nat.xor_lt_two_pow hc (by omega)
  have e1 : c ^^^ BitVec.ofNat 32 b.toNat = BitVec.ofNat 32 X := by
    apply BitVec.eq_of_toNat_eq
    rw [BitVec.toNat_xor, BitVec.toNat_ofNat, BitVec.toNat_ofNat, Nat.mod_eq_of_lt hx, Nat.mod_eq_of_lt (by omega), hX]
  have e2 := nib X hx
  rw [← hY] at e2
  have hy : Y < 2 ^ 32 := by rw [← e2]; exact BitVec.isLt _
  have e3 : Math.steps 4 (BitVec.ofNat 32 X) = BitVec.ofNat 32 Y := by
    apply BitVec.eq_of_toNat_eq
    rw [e2, BitVec.toNat_ofNat, Nat.mod_eq_of_lt hy]
  have e4 := nib Y hy
  rw [← hZ] at e4
  refine ⟨?_, hx, hy, by rw [← e4]; exact BitVec.isLt _⟩
  unfold Math.feed
  rw [show 8 = 4 + 4 from rfl, Math.steps_add, e1, e3, e4]
theorem feeds_snoc (c : BitVec 32) (l : List UInt8) (k : Nat) (hk : k < l.length) : Math.feeds c (l.take (k + 1)) = Math.feed (Math.feeds c (l.take k)) l[k] := by
  rw [List.take_succ_eq_append_getElem hk, Math.feeds_append]; rfl
theorem u32_and15 (x : Nat) (hx : x < 4294967296) : bits .and .u32 (x : Int) 15 = ((x % 16 : Nat) : Int) := by
  have := u32_and_nat x 15 hx (by omega)
  rw [show ((15 : Nat) : Int) = 15 from rfl] at this
  rw [this, show (15 : Nat) = 2 ^ 4 - 1 from rfl, Nat.and_two_pow_sub_one_eq_mod]
theorem four_lt (a : Nat) : four.getD a 0 < 4294967296 := by
  by_cases h : a < 16
  · have : ∀ a : Fin 16, four.getD a.val 0 < 4294967296 := by decide
    exact this ⟨a, h⟩
  · rw [List.getD_eq_getElem?_getD, List.getElem?_eq_none (by simp [four]; omega)]; decide
theorem not_u32 (x : Nat) (h : x < 4294967296) : bits .xor .u32 4294967295 (x : Int) = ((4294967295 - x : Nat) : Int) := by
  have := u32_xor_nat 4294967295 x (by omega) h
  rw [show ((4294967295 : Nat) : Int) = 4294967295 from rfl] at this
  rw [this]
  congr 1
  have e := BitVec.toNat_not (x := BitVec.ofNat 32 x)
  have e2 : (~~~ (BitVec.ofNat 32 x)) = BitVec.ofNat 32 4294967295 ^^^ BitVec.ofNat 32 x := by
    apply BitVec.eq_of_getLsbD_eq
    intro i hi
    rw [BitVec.getLsbD_not, BitVec.getLsbD_xor, show BitVec.ofNat 32 4294967295 = BitVec.allOnes 32 from rfl, BitVec.getLsbD_allOnes]
    simp [hi]
  rw [e2, BitVec.toNat_xor, BitVec.toNat_ofNat, BitVec.toNat_ofNat, Nat.mod_eq_of_lt (by omega : x < 2 ^ 32)] at e
  exact e
theorem crc_nat (l : List UInt8) : (Math.crc l).toNat = 4294967295 - (Math.feeds 0xffffffff#32 l).toNat := by
  unfold Math.crc
  rw [BitVec.toNat_not]
end Go.Proofs.YtmcdbjkmkbdeiaaDoor.S3
