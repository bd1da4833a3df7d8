/-
  The code's Hex.
-/
import Derived.Test.YtmcdbjkmkbdeiaaDoorS3Less
namespace Go.Proofs.YtmcdbjkmkbdeiaaDoor.S3
open Go.RowKit
/-- The cells of a byte string, filled up with zeros. -/
def digz (l : List UInt8) (n : Nat) : Array Value := dig (l ++ List.replicate (n - l.length) 0)
theorem digz_size (l : List UInt8) (n : Nat) (h : l.length ≤ n) : (digz l n).size = n := by
  unfold digz; rw [dig_size, List.length_append, List.length_replicate]; omega
theorem digz_full (l : List UInt8) (n : Nat) (h : l.length = n) : digz l n = dig l := by
  unfold digz; rw [h, Nat.sub_self, List.replicate_zero, List.append_nil]
theorem digz_put (l : List UInt8) (n : Nat) (b : UInt8) (h : l.length < n) : (digz l n).setIfInBounds l.length (.int .u8 (b.toNat : Nat)) = digz (l ++ [b]) n := by
  unfold digz dig
  have e : List.replicate (n - l.length) (0 : UInt8) = 0 :: List.replicate (n - (l ++ [b]).length) 0 := by
    rw [← List.replicate_succ]; congr 1; simp; omega
  rw [e]
  apply Array.toList_inj.1
  rw [Array.toList_setIfInBounds]
  simp only [List.map_append, List.map_cons]
  rw [List.set_append, List.length_map, if_neg (by omega), Nat.sub_self, List.set_cons_zero]
  simp
theorem hexL_snoc (a : List UInt8) (k : Nat) (h : k < a.length) : Hex.hexL (a.take (k + 1)) = Hex.hexL (a.take k) ++ [Hex.hd (a[k].toNat / 16)] ++ [Hex.hd (a[k].toNat % 16)] := by
  unfold Hex.hexL
  have : a.take (k + 1) = a.take k ++ [a[k]] := List.take_succ_eq_append_getElem h
  rw [this, List.flatMap_append, List.append_assoc]
  rfl
theorem run_index_dig (a : List UInt8) (k : Nat) (hk : k < a.length) (ha : a.length = 32) (w : World) : (Instr.index 31 (.agg (dig a)) (.int .i64 (k : Int))).run Tryd.prog w = .ok (.int .u8 (a[k].toNat : Nat)) w := by
  have h := dig_at a k hk
  have i1 : k < 32 := by omega
  simp [Instr.index, run_underlying Tryd.underlying31, asIntOf, i1, go_sem, h]
theorem u8_and15 (x : Nat) (hx : x < 256) : bits .and .u8 (x : Int) 15 = ((x % 16 : Nat) : Int) := by
  have := u8_and_nat x 15 hx (by omega)
  rw [show ((15 : Nat) : Int) = 15 from rfl] at this
  rw [this, show (15 : Nat) = 2 ^ 4 - 1 from rfl, Nat.and_two_pow_sub_one_eq_mod]
def hexS : ByteArray := { data := #[48, 49, 50, 51, 52, 53, 54, 55, 56, 57, 97, 98, 99, 100, 101, 102] }
theorem hexS_at (i : Nat) (h : i < hexS.size) : hexS[i] = Hex.hd i := by
  have : ∀ j : Fin 16, hexS[j.val]'j.isLt = Hex.hd j.val := by decide +kernel
  exact this ⟨i, h⟩
theorem run_index_hex (q : Nat) (hq : q < 16) (w : World) : (Instr.index 9 (.string hexS) (.int .u8 (q : Int))).run Tryd.prog w = .ok (.int .u8 ((Hex.hd q).toNat : Nat)) w := by
  have hs : hexS.size = 16 := rfl
  rw [run_index_string w 9 hexS .u8 _ Tryd.underlying9, dif_pos ⟨by omega, by rw [hs]; omega⟩]
  have e : ((q : Int)).toNat = q := by omega
  simp only [e]
  rw [hexS_at q (by rw [hs]; omega)]
end Go.Proofs.YtmcdbjkmkbdeiaaDoor.S3
