/-
  Arrays of 32-bit words in memory; sums, words of four bytes, and the schedule's and the rounds' bounds.
-/
import Derived.Test.YtmcdbjkmkbdeiaaDoorS3Rot
import Derived.Test.YtmcdbjkmkbdeiaaDoorS3Own
import Derived.Test.YtmcdbjkmkbdeiaaDoorS3Nib
namespace Go.Proofs.YtmcdbjkmkbdeiaaDoor.S3
open Go.RowKit
def wd (l : List Nat) : Array Value := (words l).toArray
def wdz (l : List Nat) (n : Nat) : Array Value := wd (l ++ List.replicate (n - l.length) 0)
theorem wd_size (l : List Nat) : (wd l).size = l.length := by simp [wd, words]
theorem wd_at (l : List Nat) (k : Nat) (h : k < l.length) : (wd l)[k]? = some (.int .u32 (l[k] : Nat)) := by simp [wd, words, h]
theorem wd_one (l : List Nat) : (wd l).all (·.oneCell') = true := by
  unfold wd words
  simp
  intro x hx
  rfl
theorem wdz_size (l : List Nat) (n : Nat) (h : l.length ≤ n) : (wdz l n).size = n := by
  unfold wdz; rw [wd_size, List.length_append, List.length_replicate]; omega
theorem wdz_full (l : List Nat) (n : Nat) (h : l.length = n) : wdz l n = wd l := by
  unfold wdz; rw [h, Nat.sub_self, List.replicate_zero, List.append_nil]
theorem wdz_at (l : List Nat) (n k : Nat) (h : k < l.length) : (wdz l n)[k]? = some (.int .u32 (l[k] : Nat)) := by
  unfold wdz
  rw [wd_at _ k (by rw [List.length_append]; omega), List.getElem_append_left h]
theorem wdz_put (l : List Nat) (n b : Nat) (h : l.length < n) : (wdz l n).setIfInBounds l.length (.int .u32 (b : Nat)) = wdz (l ++ [b]) n := by
  unfold wdz wd words
  have e : List.replicate (n - l.length) 0 = 0 :: List.replicate (n - (l ++ [b]).length) 0 := by
    rw [← List.replicate_succ]; congr 1; simp; omega
  rw [e]
  apply Array.toList_inj.1
  rw [Array.toList_setIfInBounds]
  simp only [List.map_append, List.map_cons]
  rw [List.set_append, List.length_map, if_neg (by omega), Nat.sub_self, List.set_cons_zero]
  simp
/-- A byte string in numbers. -/
def nat (l : List UInt8) : List Nat := l.map fun b => b.toNat
theorem nat_len (l : List UInt8) : (nat l).length = l.length := by simp [nat]
theorem nat_at (l : List UInt8) (k : Nat) : (nat l).getD k 0 = (l.getD k 0).toNat := by
  unfold nat
  simp only [List.getD_eq_getElem?_getD, List.getElem?_map]
  cases l[k]? <;> rfl
theorem nat_lt (l : List UInt8) (k : Nat) : (nat l).getD k 0 < 256 := by rw [nat_at]; exact UInt8.toNat_lt _
theorem word_or (a b c d : Nat) (ha : a < 256) (hb : b < 256) (hc : c < 256) (hd : d < 256) :
    bits .or .u32 (bits .or .u32 (bits .or .u32 ((a : Int) * 16777216) ((b : Int) * 65536)) ((c : Int) * 256)) (d : Int) = ((a * 16777216 + b * 65536 + c * 256 + d : Nat) : Int) := by
  have e1 : ((a : Int) * 16777216) = ((a * 16777216 : Nat) : Int) := by omega
  have e2 : ((b : Int) * 65536) = ((b * 65536 : Nat) : Int) := by omega
  have e3 : ((c : Int) * 256) = ((c * 256 : Nat) : Int) := by omega
  have o1 : a * 16777216 ||| b * 65536 = a * 16777216 + b * 65536 := by
    rw [← show 2 ^ 24 * a = a * 16777216 by omega]
    exact (Nat.two_pow_add_eq_or_of_lt (i := 24) (b := b * 65536) (by omega) a).symm
  have o2 : (a * 16777216 + b * 65536) ||| c * 256 = a * 16777216 + b * 65536 + c * 256 := by
    rw [← show 2 ^ 16 * (a * 256 + b) = a * 16777216 + b * 65536 by omega]
    exact (Nat.two_pow_add_eq_or_of_lt (i := 16) (b := c * 256) (by omega) (a * 256 + b)).symm
  have o3 : (a * 16777216 + b * 65536 + c * 256) ||| d = a * 16777216 + b * 65536 + c * 256 + d := by
    rw [← show 2 ^ 8 * (a * 65536 + b * 256 + c) = a * 16777216 + b * 65536 + c * 256 by omega]
    exact (Nat.two_pow_add_eq_or_of_lt (i := 8) (b := d) (by omega) (a * 65536 + b * 256 + c)).symm
  rw [e1, e2, e3, u32_or_nat _ _ (by omega) (by omega), o1, u32_or_nat _ _ (by omega) (by omega), o2, u32_or_nat _ _ (by omega) (by omega), o3]
theorem word_lt (b : List Nat) (h : ∀ k, b.getD k 0 < 256) (i : Nat) : Sha.word b i < 4294967296 := by
  have h0 := h (4 * i)
  have h1 := h (4 * i + 1)
  have h2 := h (4 * i + 2)
  have h3 := h (4 * i + 3)
  unfold Sha.word
  omega
theorem first_len (b : List Nat) (k : Nat) : (Sha.first b k).length = k := by simp [Sha.first]
theorem first_snoc (b : List Nat) (k : Nat) : Sha.first b (k + 1) = Sha.first b k ++ [Sha.word b k] := by
  unfold Sha.first; rw [List.range_succ, List.map_append]; rfl
theorem sched_len (b : List Nat) (k : Nat) : (Sha.sched b k).length = 16 + k := by
  induction k with
  | zero => exact first_len b 16
  | succ k ih => rw [Sha.sched, List.length_append, ih]; rfl
theorem sched_lt (b : List Nat) (h : ∀ k, b.getD k 0 < 256) (n k : Nat) : (Sha.sched b n).getD k 0 < 4294967296 := by
  induction n generalizing k with
  | zero =>
    show (Sha.first b 16).getD k 0 < _
    unfold Sha.first
    simp only [List.getD_eq_getElem?_getD, List.getElem?_map]
    by_cases hk : k < 16
    · rw [List.getElem?_range hk]; exact word_lt b h k
    · rw [List.getElem?_eq_none (by simp; omega)]; simp
  | succ n ih =>
    rw [Sha.sched]
    simp only [List.getD_eq_getElem?_getD, List.getElem?_append]
    split
    · have := ih k; rwa [List.getD_eq_getElem?_getD] at this
    · rcases hq : k - (Sha.sched b n).length with _ | j
      · exact Nat.mod_lt _ (by decide)
      · simp
theorem getD_in (l : List Nat) (k : Nat) (h : k < l.length) : l.getD k 0 = l[k] := by
  rw [List.getD_eq_getElem?_getD, List.getElem?_eq_getElem h]; rfl
theorem xor_lt32 (a b : Nat) (ha : a < 4294967296) (hb : b < 4294967296) : a ^^^ b < 4294967296 := Nat.xor_lt_two_pow (n := 32) ha hb
theorem s0_lt (x : Nat) (hx : x < 4294967296) : Sha.s0 x < 4294967296 :=
  xor_lt32 _ _ (xor_lt32 _ _ (rotr_lt x 7 hx) (rotr_lt x 18 hx)) (by rw [Nat.shiftRight_eq_div_pow]; omega)
theorem s1_lt (x : Nat) (hx : x < 4294967296) : Sha.s1 x < 4294967296 :=
  xor_lt32 _ _ (xor_lt32 _ _ (rotr_lt x 17 hx) (rotr_lt x 19 hx)) (by rw [Nat.shiftRight_eq_div_pow]; omega)
end Go.Proofs.YtmcdbjkmkbdeiaaDoor.S3
