/-
  Rotations: the code's right and mixed, the reference's turn.
-/
import Derived.Test.YtmcdbjkmkbdeiaaDoorS3Mem
import Derived.Outline
import Derived.BigQuiet
namespace Go.Proofs.YtmcdbjkmkbdeiaaDoor.S3
open Go.RowKit
theorem and31 (n m : Nat) (hn : 0 < n) (h32 : n < 32) (hm : m = 32 - n) : bits .and .u64 (IntKind.u64.wrap (-(n : Int))) 31 = (m : Int) := by
  have e : IntKind.u64.wrap (-(n : Int)) = ((18446744073709551616 - n : Nat) : Int) := by rw [IntKind.wrap_u64]; omega
  have := u64_and_nat (18446744073709551616 - n) 31 (by omega) (by omega)
  rw [show ((31 : Nat) : Int) = 31 from rfl] at this
  rw [e, this, show (31 : Nat) = 2 ^ 5 - 1 from rfl, Nat.and_two_pow_sub_one_eq_mod]
  omega
theorem rotr_lt (x n : Nat) (hx : x < 4294967296) : Sha.rotr x n < 4294967296 := by
  unfold Sha.rotr
  have h1 : x >>> n < 2 ^ 32 := by rw [Nat.shiftRight_eq_div_pow]; exact Nat.lt_of_le_of_lt (Nat.div_le_self _ _) (by omega)
  have h2 : (x <<< (32 - n)) % Sha.w32 < 2 ^ 32 := Nat.mod_lt _ (by decide)
  exact Nat.or_lt_two_pow h1 h2
theorem rotr_or (x n m : Nat) (hx : x < 4294967296) (hm : m = 32 - n) : bits .or .u32 ((x : Int) / 2 ^ n) ((x : Int) * 2 ^ m % 4294967296) = ((Sha.rotr x n : Nat) : Int) := by
  have h1 : x / 2 ^ n < 2 ^ 32 := Nat.lt_of_le_of_lt (Nat.div_le_self _ _) (by omega)
  have h2 : x * 2 ^ m % 4294967296 < 4294967296 := Nat.mod_lt _ (by decide)
  have := u32_or_nat (x / 2 ^ n) (x * 2 ^ m % 4294967296) h1 h2
  have e1 : ((x / 2 ^ n : Nat) : Int) = (x : Int) / 2 ^ n := by simp
  have e2 : ((x * 2 ^ m % 4294967296 : Nat) : Int) = (x : Int) * 2 ^ m % 4294967296 := by simp
  rw [e1, e2] at this
  rw [this, Sha.rotr, Nat.shiftRight_eq_div_pow, Nat.shiftLeft_eq, ← hm]
  rfl
theorem bits_or_comm (k : IntKind) (a b : Int) : bits .or k a b = bits .or k b a := by
  show k.wrap ((BitVec.ofInt k.bits a ||| BitVec.ofInt k.bits b).toNat : Int) = k.wrap ((BitVec.ofInt k.bits b ||| BitVec.ofInt k.bits a).toNat : Int)
  rw [BitVec.or_comm]
theorem rotl_any (x n : Nat) (w : World) (hx : x < 4294967296) (hn : 0 < n) (h32 : n < 32) :
    Calls Tryd.prog 35 #[.int .u32 x, .int .i64 (-(n : Int))] w fun e w' => e = .returned (.int .u32 (Sha.rotr x n : Nat)) ∧ w = w' := by
  obtain ⟨m, hm⟩ : ∃ m, m = 32 - n := ⟨_, rfl⟩
  have e1 := and31 n m hn h32 hm
  have m1 : m < 32 := by omega
  have m2 : (m : Int) < 32 := by omega
  have E := rotr_or x n m hx hm
  rw [show n = 32 - m by omega, bits_or_comm] at E
  rw [← show n = 32 - m by omega] at E
  have HE := Lib.hid E
  have HM := Lib.hid hm
  clear E hm
  go_enter Tryd.func35, Tryd.ntmps35
  go_wp2
  go_ret
  have := HE.out
  rw [show n = 32 - m by have := HM.out; omega] at this ⊢
  exact ⟨by rw [← this]; rfl, rfl⟩
theorem right_any (x n : Nat) (w : World) (hx : x < 4294967296) (hn : 0 < n) (h32 : n < 32) :
    Calls Tryd.prog 34 #[.int .u32 x, .int .i64 n] w fun e w' => e = .returned (.int .u32 (Sha.rotr x n : Nat)) ∧ w = w' := by
  go_enter Tryd.func34, Tryd.ntmps34
  go_wp2_with (go_at_call 35; refine (rotl_any x n w hx hn h32).mono ?_; rintro e w1 ⟨rfl, rfl⟩)
  go_ret
  exact ⟨rfl, rfl⟩
theorem mixed_any (x i j k : Nat) (w : World) (hx : x < 4294967296) (hi : 0 < i ∧ i < 32) (hj : 0 < j ∧ j < 32) (hk : 0 < k ∧ k < 32) :
    Calls Tryd.prog 33 #[.int .u32 x, .int .i64 i, .int .i64 j, .int .i64 k] w fun e w' => e = .returned (.int .u32 (Sha.rotr x i ^^^ Sha.rotr x j ^^^ Sha.rotr x k : Nat)) ∧ w = w' := by
  have l1 := rotr_lt x i hx
  have l2 := rotr_lt x j hx
  have l3 := rotr_lt x k hx
  obtain ⟨d, hd⟩ : ∃ d, d = Sha.rotr x i ^^^ Sha.rotr x j := ⟨_, rfl⟩
  have l4 : d < 4294967296 := by rw [hd]; exact Nat.xor_lt_two_pow (n := 32) l1 l2
  have e1 := u32_xor_nat (Sha.rotr x i) (Sha.rotr x j) l1 l2
  rw [← hd] at e1 ⊢
  have e2 := u32_xor_nat d (Sha.rotr x k) l4 l3
  obtain ⟨f, hf⟩ : ∃ f, f = d ^^^ Sha.rotr x k := ⟨_, rfl⟩
  rw [← hf] at e2 ⊢
  have HI := Lib.hid hi
  have HJ := Lib.hid hj
  have HK := Lib.hid hk
  clear hd hf hi hj hk
  go_enter Tryd.func33, Tryd.ntmps33
  go_wp2_with (go_at_call 34; refine (right_any x _ _ hx (by first | exact HI.out.1 | exact HJ.out.1 | exact HK.out.1) (by first | exact HI.out.2 | exact HJ.out.2 | exact HK.out.2)).mono ?_; rintro e w1 ⟨rfl, rfl⟩)
  go_ret
  exact ⟨rfl, rfl⟩
end Go.Proofs.YtmcdbjkmkbdeiaaDoor.S3
