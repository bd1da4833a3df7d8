/-
  The four bytes at a place, as the program reads them.
-/
import Derived.Test.YtmcdbjkmkbdeiaaLow
import Derived.Test.YtmcdbjkmkbdeiaaKey
import Derived.Deep.QuietTactic
import Derived.BigQuiet
import Derived.Laws.BitsAllLaws
namespace Go.Proofs.Ytmcdbjkmkbdeiaa
open Go.RowKit
theorem four_or (a b c d : Nat) (ha : a < 256) (hb : b < 256) (hc : c < 256) (hd : d < 256) :
    bits .or .u32 (bits .or .u32 (bits .or .u32 ((a : Int) % 4294967296) ((b : Int) % 4294967296 * 256 % 4294967296)) ((c : Int) % 4294967296 * 65536 % 4294967296)) ((d : Int) % 4294967296 * 16777216 % 4294967296) = ((a + b * 256 + c * 65536 + d * 16777216 : Nat) : Int) := by
  have e0 : ((a : Int) % 4294967296) = ((a : Nat) : Int) := by omega
  have e1 : ((b : Int) % 4294967296 * 256 % 4294967296) = ((b * 256 : Nat) : Int) := by omega
  have e2 : ((c : Int) % 4294967296 * 65536 % 4294967296) = ((c * 65536 : Nat) : Int) := by omega
  have e3 : ((d : Int) % 4294967296 * 16777216 % 4294967296) = ((d * 16777216 : Nat) : Int) := by omega
  have o1 : a ||| b * 256 = a + b * 256 := by
    rw [Nat.or_comm, ← show 2 ^ 8 * b = b * 256 by omega, ← Nat.two_pow_add_eq_or_of_lt (i := 8) (b := a) (by omega) b, Nat.add_comm]
  have o2 : (a + b * 256) ||| c * 65536 = a + b * 256 + c * 65536 := by
    rw [Nat.or_comm, ← show 2 ^ 16 * c = c * 65536 by omega, ← Nat.two_pow_add_eq_or_of_lt (i := 16) (b := a + b * 256) (by omega) c, Nat.add_comm]
  have o3 : (a + b * 256 + c * 65536) ||| d * 16777216 = a + b * 256 + c * 65536 + d * 16777216 := by
    rw [Nat.or_comm, ← show 2 ^ 24 * d = d * 16777216 by omega, ← Nat.two_pow_add_eq_or_of_lt (i := 24) (b := a + b * 256 + c * 65536) (by omega) d, Nat.add_comm]
  rw [e0, e1, e2, e3, u32_or_nat _ _ (by omega) (by omega), o1, u32_or_nat _ _ (by omega) (by omega), o2, u32_or_nat _ _ (by omega) (by omega), o3]
set_option maxRecDepth 20000 in
set_option maxHeartbeats 1000000 in
theorem start_any (s : ByteArray) (i : Nat) (w : World) (hi : i + 4 ≤ s.size) (hl : s.size ≤ 1000000000) :
    Calls Try.prog 36 #[.string s, .int .i64 (i : Int)] w fun e w' => e = .returned (.int .u32 (key (ls s) i : Nat)) ∧ ∃ j, w' = w.drewN j := by
  have j1 : IntKind.i64.wrap ((i : Int) + 1) = (i : Int) + 1 := IntWalk.i64_in _ (by omega)
  have j2 : IntKind.i64.wrap ((i : Int) + 2) = (i : Int) + 2 := IntWalk.i64_in _ (by omega)
  have j3 : IntKind.i64.wrap ((i : Int) + 3) = (i : Int) + 3 := IntWalk.i64_in _ (by omega)
  have k0 : (i : Int) < (s.size : Int) := by omega
  have k1 : (i : Int) + 1 < (s.size : Int) := by omega
  have k2 : (i : Int) + 2 < (s.size : Int) := by omega
  have k3 : (i : Int) + 3 < (s.size : Int) := by omega
  have l1 : (0 : Int) ≤ (i : Int) + 1 := by omega
  have l2 : (0 : Int) ≤ (i : Int) + 2 := by omega
  have l3 : (0 : Int) ≤ (i : Int) + 3 := by omega
  have t0 : i < s.size := by omega
  have t1 : ((i : Int) + 1).toNat < s.size := by omega
  have t2 : ((i : Int) + 2).toNat < s.size := by omega
  have t3 : ((i : Int) + 3).toNat < s.size := by omega
  go_enter Try.func36, Try.ntmps36
  go_wp2
  go_quiet (fail)
  go_wp2
  go_ret
  refine ⟨?_, _, rfl⟩
  have e := four_or s[i].toNat s[i + 1].toNat s[i + 2].toNat s[i + 3].toNat (UInt8.toNat_lt _) (UInt8.toNat_lt _) (UInt8.toNat_lt _) (UInt8.toNat_lt _)
  unfold key
  rw [getD_at s i (by omega), getD_at s (i + 1) (by omega), getD_at s (i + 2) (by omega), getD_at s (i + 3) (by omega), ← e]
  rfl
end Go.Proofs.Ytmcdbjkmkbdeiaa
