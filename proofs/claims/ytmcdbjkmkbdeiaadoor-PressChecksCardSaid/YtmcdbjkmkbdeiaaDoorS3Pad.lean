/-
  The code's padded.
-/
import Derived.Test.YtmcdbjkmkbdeiaaDoorS3Abs
import Derived.Lib.BufferWrite
import Derived.Lib.SlBuf
import Derived.Deep.OwnRows
namespace Go.Proofs.YtmcdbjkmkbdeiaaDoor.S3
open Go.RowKit
/-- The i-th byte of the length in bits. -/
def lb (n i : Nat) : UInt8 := UInt8.ofNat (8 * n / 256 ^ (7 - i) % 256)
/-- The last eight bytes, when k of them stand. -/
def tl (n k : Nat) : List UInt8 := (List.range 8).map fun i => if 8 ≤ i + k then lb n i else 0
theorem tl_len (n k : Nat) : (tl n k).length = 8 := by simp [tl]
theorem tl_set (n k : Nat) (hk : k < 8) : (tl n k).set (7 - k) (lb n (7 - k)) = tl n (k + 1) := by
  rcases (by omega : k = 0 ∨ k = 1 ∨ k = 2 ∨ k = 3 ∨ k = 4 ∨ k = 5 ∨ k = 6 ∨ k = 7) with rfl | rfl | rfl | rfl | rfl | rfl | rfl | rfl <;> rfl
theorem tl_zero (n : Nat) : tl n 0 = List.replicate 8 0 := rfl
theorem tl_full (n : Nat) : nat (tl n 8) = (List.range 8).map fun i => 8 * n / 256 ^ (7 - i) % 256 := by
  have e : tl n 8 = (List.range 8).map (lb n) := rfl
  rw [e]
  unfold nat
  rw [List.map_map]
  apply List.map_congr_left
  intro i _
  show (lb n i).toNat = _
  unfold lb
  rw [Hex.toNat_of _ (Nat.mod_lt _ (by decide))]
theorem dig_set (l : List UInt8) (k : Nat) (b : UInt8) : (dig l).setIfInBounds k (.int .u8 (b.toNat : Nat)) = dig (l.set k b) := by
  unfold dig
  apply Array.toList_inj.1
  rw [Array.toList_setIfInBounds]
  simp [List.map_set]
theorem lb_int (n k : Nat) (hk : k < 8) : ((n : Int) * 8 / 2 ^ (8 * k) % 256) = ((lb n (7 - k)).toNat : Int) := by
  unfold lb
  rw [Hex.toNat_of _ (Nat.mod_lt _ (by decide)), show 7 - (7 - k) = k by omega, show (256 : Nat) ^ k = 2 ^ (8 * k) by rw [Nat.pow_mul], Nat.mul_comm 8 n]
  simp
theorem copied (rest : List UInt8) (N : Nat) : ((madeCells #[Value.int .u8 0] N).toList.take 0 ++ Lib.byteCells rest ++ (madeCells #[Value.int .u8 0] N).toList.drop (0 + rest.length)).toArray = digz rest N := by
  have e : (madeCells #[Value.int .u8 0] N).toList = List.replicate N (Value.int .u8 0) := by
    apply List.ext_getElem
    · simp [madeCells]
    · intro i h1 h2
      simp [madeCells, Nat.mod_one]
  rw [e, List.take_zero, List.nil_append, Nat.zero_add, List.drop_replicate]
  unfold digz dig Lib.byteCells
  simp

set_option maxHeartbeats 4000000 in
set_option maxRecDepth 100000 in
theorem padded_64 (r : ByteArray) (n : Nat) (w : World) (hr : 0 ≤ r.size) (hr2 : r.size ≤ 55) (hn : n ≤ 1000000) :
    Calls Tryd.prog 22 #[.string r, .int .i64 n] w fun e w' => e = .returned (.string (mk (ls r ++ 128 :: (List.replicate (64 - 9 - r.size) 0 ++ tl n 8)))) ∧ Below w.heap.size w w' := by
  obtain ⟨i0, hi, hz0, hz1, hz2⟩ := info_parts info5
  obtain ⟨B, hB⟩ : ∃ B, B = ls r ++ 128 :: List.replicate (64 - 9 - r.size) 0 := ⟨_, rfl⟩
  have hBl : B.length = 56 := by rw [hB]; simp [ls_length]; omega
  have t1 : decide ((64 : Int) < (r.size : Int) + 1 + 8) = false := by simp; omega
  have i1 : (r.size : Int) < 64 := by omega
  have i2 : (0 : Int) ≤ (r.size : Int) := by omega
  have n1 : (n : Int) ≤ 1000000 := by omega
  have n2 : (0 : Int) ≤ (n : Int) := by omega
  have hI0 := Is.fresh w 5 (madeCells #[Value.int .u8 0] 64)
  have hcp := Lib.run_copy_row_string (P := Tryd.prog) (w.alloc (.cells (madeCells #[Value.int .u8 0] 64) 5)) 36 9 3 5 w.heap.size 0 64 64 r (madeCells #[Value.int .u8 0] 64) 5 Tryd.underlying36 (by kernel_rfl) hI0 (by omega) (by rw [size_madeCells]; omega)
  rw [show ((madeCells #[Value.int .u8 0] 64).toList.take 0 ++ Lib.byteCells r.data.toList ++ (madeCells #[Value.int .u8 0] 64).toList.drop (0 + r.size)).toArray = digz (ls r) 64 from copied (ls r) 64] at hcp
  have hI1 : Is ((w.alloc (.cells (madeCells #[Value.int .u8 0] 64) 5)).setRow w.heap.size (digz (ls r) 64)) w.heap.size 5 (digz (ls r) 64) := hI0.row _
  have hb1 : Below w.heap.size w ((w.alloc (.cells (madeCells #[Value.int .u8 0] 64) 5)).setRow w.heap.size (digz (ls r) 64)) := below_row ((Below.refl _ _).alloc (Nat.le_refl _) _) (Nat.le_refl _) _
  obtain ⟨W, hW⟩ : ∃ W, W = (w.alloc (.cells (madeCells #[Value.int .u8 0] 64) 5)).setRow w.heap.size (digz (ls r) 64) := ⟨_, rfl⟩
  rw [show (Go.World.setRow (w.alloc (.cells (madeCells #[Value.int .u8 0] 64) 5)) w.heap.size (digz (ls r) 64)) = W from hW.symm] at hcp hI1 hb1
  have hz : (digz (ls r) 64).size = 64 := digz_size _ _ (by rw [ls_length]; omega)
  obtain ⟨v0, c1⟩ : ∃ v, W.cell? ⟨w.heap.size, r.size, none⟩ = some v := ⟨_, (hI1.at_ r.size).trans (Array.getElem?_eq_getElem (by rw [hz]; omega))⟩
  have f1 := hI1.open_ r.size
  have hput : (digz (ls r) 64).setIfInBounds r.size (.int .u8 128) = dig (B ++ tl n 0) := by
    have := digz_put (ls r) 64 128 (by rw [ls_length]; omega)
    rw [ls_length] at this
    show (digz (ls r) 64).setIfInBounds r.size (.int .u8 ((128 : UInt8).toNat : Nat)) = _
    rw [this, hB, tl_zero]
    unfold digz
    congr 1
    rw [List.length_append, ls_length]
    simp only [List.append_assoc, List.cons_append, List.nil_append, List.length_cons, List.length_nil]
    rw [List.replicate_append_replicate]
    congr 3
    omega
  have HP := Lib.hid hput
  have H1 := Lib.hid hI1
  have HB1 := Lib.hid hb1
  have HBE := Lib.hid hB
  have HBL := Lib.hid hBl
  clear hB hBl hI0 hI1 hb1 hW hz hput hr hr2
  go_enter Tryd.func22, Tryd.ntmps22
  go_wp2_with (refine wpList_make_row _ rfl _ _ 36 rfl 5 i0 (.int .u8 0) Tryd.underlying36 hi hz0 hz1 rfl .i64 .i64 64 rfl rfl (by rw [hz2]; omega) (by omega) ?_)
  have hI2 := H1.out.put r.size (.int .u8 128)
  rw [HP.out] at hI2
  have hb2 := HB1.out.setCell (p := ⟨w.heap.size, r.size, none⟩) (Nat.le_refl _) (.int .u8 128)
  have HI2 := Lib.hid hI2
  have HB2 := Lib.hid hb2
  clear hI2 hb2
  go_loopw [27] (fun i wr => ∃ k : Nat, k ≤ 8 ∧ i = .int .i64 k ∧ Is wr w.heap.size 5 (dig (B ++ tl n k)) ∧ Below w.heap.size w wr) (fun i _ => 8 - (intOf i).toNat)
  case atStart => exact ⟨0, by omega, rfl, HI2.out, HB2.out⟩
  case round =>
    obtain ⟨k, hk, rfl, hI, hB⟩ := hrel
    have HI := Lib.hid hI
    have HB := Lib.hid hB
    by_cases hlt : k < 8
    · have j1 : decide ((k : Int) < 8) = true := by simp; omega
      have j2 : (k : Int) < 8 := by omega
      have j3 : (0 : Int) ≤ (k : Int) := by omega
      obtain ⟨m, hm⟩ : ∃ m, m = 63 - k := ⟨_, rfl⟩
      have m1 : (63 : Int) - (k : Int) = (m : Int) := by omega
      have m2 : (m : Int) < 64 := by omega
      have m3 : (0 : Int) ≤ (m : Int) := by omega
      have LB := lb_int n k hlt
      obtain ⟨V, hV⟩ : ∃ V, V = lb n (7 - k) := ⟨_, rfl⟩
      rw [← hV] at LB
      have hz : (dig (B ++ tl n k)).size = 64 := by rw [dig_size, List.length_append, HBL.out, tl_len]
      obtain ⟨v1, c2⟩ : ∃ v, wr.cell? ⟨w.heap.size, m, none⟩ = some v := ⟨_, (hI.at_ m).trans (Array.getElem?_eq_getElem (by rw [hz]; omega))⟩
      have f2 := hI.open_ m
      have HM := Lib.hid hm
      have HV := Lib.hid hV
      clear hI hB hz hm hV
      go_wp2
      go_roundw
      case rel =>
        refine ⟨k + 1, by omega, by go_num, ?_, HB.out.setCell (p := ⟨w.heap.size, m, none⟩) (Nat.le_refl _) _⟩
        have h1 := HI.out.put m (.int .u8 (V.toNat : Nat))
        rw [dig_set, List.set_append, if_neg (by rw [HBL.out, HM.out]; omega), HBL.out, show m - 56 = 7 - k by rw [HM.out]; omega, HV.out, tl_set n k hlt] at h1
        rw [HV.out]
        exact h1
      case measure => simp [intOf]; omega
    · have j1 : decide ((k : Int) < 8) = false := by simp; omega
      obtain rfl : k = 8 := by omega
      have CV := run_convert_bytes_back (P := Tryd.prog) wr 36 9 5 ⟨w.heap.size, 0, none⟩ 64 (B ++ tl n 8) Tryd.underlying36 Tryd.underlying5 Tryd.underlying9 (fun j hj => by
        have h1 := (hI.at_ j).trans (dig_at _ j hj)
        have e : (⟨w.heap.size, 0, none⟩ : Addr).add j = ⟨w.heap.size, j, none⟩ := by unfold Addr.add; split <;> simp_all
        rw [e]
        exact h1)
      rw [show (B ++ tl n 8).length = 64 by rw [List.length_append, HBL.out, tl_len]] at CV
      clear hI hB
      go_wp2
      go_ret
      exact ⟨by rw [HBE.out, List.append_assoc, List.cons_append] at *; rfl, HB.out⟩

set_option maxHeartbeats 4000000 in
set_option maxRecDepth 100000 in
theorem padded_128 (r : ByteArray) (n : Nat) (w : World) (hr : 56 ≤ r.size) (hr2 : r.size ≤ 63) (hn : n ≤ 1000000) :
    Calls Tryd.prog 22 #[.string r, .int .i64 n] w fun e w' => e = .returned (.string (mk (ls r ++ 128 :: (List.replicate (128 - 9 - r.size) 0 ++ tl n 8)))) ∧ Below w.heap.size w w' := by
  obtain ⟨i0, hi, hz0, hz1, hz2⟩ := info_parts info5
  obtain ⟨B, hB⟩ : ∃ B, B = ls r ++ 128 :: List.replicate (128 - 9 - r.size) 0 := ⟨_, rfl⟩
  have hBl : B.length = 120 := by rw [hB]; simp [ls_length]; omega
  have t1 : decide ((64 : Int) < (r.size : Int) + 1 + 8) = true := by simp; omega
  have i1 : (r.size : Int) < 128 := by omega
  have i2 : (0 : Int) ≤ (r.size : Int) := by omega
  have n1 : (n : Int) ≤ 1000000 := by omega
  have n2 : (0 : Int) ≤ (n : Int) := by omega
  have hI0 := Is.fresh w 5 (madeCells #[Value.int .u8 0] 128)
  have hcp := Lib.run_copy_row_string (P := Tryd.prog) (w.alloc (.cells (madeCells #[Value.int .u8 0] 128) 5)) 36 9 3 5 w.heap.size 0 128 128 r (madeCells #[Value.int .u8 0] 128) 5 Tryd.underlying36 (by kernel_rfl) hI0 (by omega) (by rw [size_madeCells]; omega)
  rw [show ((madeCells #[Value.int .u8 0] 128).toList.take 0 ++ Lib.byteCells r.data.toList ++ (madeCells #[Value.int .u8 0] 128).toList.drop (0 + r.size)).toArray = digz (ls r) 128 from copied (ls r) 128] at hcp
  have hI1 : Is ((w.alloc (.cells (madeCells #[Value.int .u8 0] 128) 5)).setRow w.heap.size (digz (ls r) 128)) w.heap.size 5 (digz (ls r) 128) := hI0.row _
  have hb1 : Below w.heap.size w ((w.alloc (.cells (madeCells #[Value.int .u8 0] 128) 5)).setRow w.heap.size (digz (ls r) 128)) := below_row ((Below.refl _ _).alloc (Nat.le_refl _) _) (Nat.le_refl _) _
  obtain ⟨W, hW⟩ : ∃ W, W = (w.alloc (.cells (madeCells #[Value.int .u8 0] 128) 5)).setRow w.heap.size (digz (ls r) 128) := ⟨_, rfl⟩
  rw [show (Go.World.setRow (w.alloc (.cells (madeCells #[Value.int .u8 0] 128) 5)) w.heap.size (digz (ls r) 128)) = W from hW.symm] at hcp hI1 hb1
  have hz : (digz (ls r) 128).size = 128 := digz_size _ _ (by rw [ls_length]; omega)
  obtain ⟨v0, c1⟩ : ∃ v, W.cell? ⟨w.heap.size, r.size, none⟩ = some v := ⟨_, (hI1.at_ r.size).trans (Array.getElem?_eq_getElem (by rw [hz]; omega))⟩
  have f1 := hI1.open_ r.size
  have hput : (digz (ls r) 128).setIfInBounds r.size (.int .u8 128) = dig (B ++ tl n 0) := by
    have := digz_put (ls r) 128 128 (by rw [ls_length]; omega)
    rw [ls_length] at this
    show (digz (ls r) 128).setIfInBounds r.size (.int .u8 ((128 : UInt8).toNat : Nat)) = _
    rw [this, hB, tl_zero]
    unfold digz
    congr 1
    rw [List.length_append, ls_length]
    simp only [List.append_assoc, List.cons_append, List.nil_append, List.length_cons, List.length_nil]
    rw [List.replicate_append_replicate]
    congr 3
    omega
  have HP := Lib.hid hput
  have H1 := Lib.hid hI1
  have HB1 := Lib.hid hb1
  have HBE := Lib.hid hB
  have HBL := Lib.hid hBl
  clear hB hBl hI0 hI1 hb1 hW hz hput hr hr2
  go_enter Tryd.func22, Tryd.ntmps22
  go_wp2_with (refine wpList_make_row _ rfl _ _ 36 rfl 5 i0 (.int .u8 0) Tryd.underlying36 hi hz0 hz1 rfl .i64 .i64 128 rfl rfl (by rw [hz2]; omega) (by omega) ?_)
  have hI2 := H1.out.put r.size (.int .u8 128)
  rw [HP.out] at hI2
  have hb2 := HB1.out.setCell (p := ⟨w.heap.size, r.size, none⟩) (Nat.le_refl _) (.int .u8 128)
  have HI2 := Lib.hid hI2
  have HB2 := Lib.hid hb2
  clear hI2 hb2
  go_loopw [27] (fun i wr => ∃ k : Nat, k ≤ 8 ∧ i = .int .i64 k ∧ Is wr w.heap.size 5 (dig (B ++ tl n k)) ∧ Below w.heap.size w wr) (fun i _ => 8 - (intOf i).toNat)
  case atStart => exact ⟨0, by omega, rfl, HI2.out, HB2.out⟩
  case round =>
    obtain ⟨k, hk, rfl, hI, hB⟩ := hrel
    have HI := Lib.hid hI
    have HB := Lib.hid hB
    by_cases hlt : k < 8
    · have j1 : decide ((k : Int) < 8) = true := by simp; omega
      have j2 : (k : Int) < 8 := by omega
      have j3 : (0 : Int) ≤ (k : Int) := by omega
      obtain ⟨m, hm⟩ : ∃ m, m = 127 - k := ⟨_, rfl⟩
      have m1 : (127 : Int) - (k : Int) = (m : Int) := by omega
      have m2 : (m : Int) < 128 := by omega
      have m3 : (0 : Int) ≤ (m : Int) := by omega
      have LB := lb_int n k hlt
      obtain ⟨V, hV⟩ : ∃ V, V = lb n (7 - k) := ⟨_, rfl⟩
      rw [← hV] at LB
      have hz : (dig (B ++ tl n k)).size = 128 := by rw [dig_size, List.length_append, HBL.out, tl_len]
      obtain ⟨v1, c2⟩ : ∃ v, wr.cell? ⟨w.heap.size, m, none⟩ = some v := ⟨_, (hI.at_ m).trans (Array.getElem?_eq_getElem (by rw [hz]; omega))⟩
      have f2 := hI.open_ m
      have HM := Lib.hid hm
      have HV := Lib.hid hV
      clear hI hB hz hm hV
      go_wp2
      go_roundw
      case rel =>
        refine ⟨k + 1, by omega, by go_num, ?_, HB.out.setCell (p := ⟨w.heap.size, m, none⟩) (Nat.le_refl _) _⟩
        have h1 := HI.out.put m (.int .u8 (V.toNat : Nat))
        rw [dig_set, List.set_append, if_neg (by rw [HBL.out, HM.out]; omega), HBL.out, show m - 120 = 7 - k by rw [HM.out]; omega, HV.out, tl_set n k hlt] at h1
        rw [HV.out]
        exact h1
      case measure => simp [intOf]; omega
    · have j1 : decide ((k : Int) < 8) = false := by simp; omega
      obtain rfl : k = 8 := by omega
      have CV := run_convert_bytes_back (P := Tryd.prog) wr 36 9 5 ⟨w.heap.size, 0, none⟩ 128 (B ++ tl n 8) Tryd.underlying36 Tryd.underlying5 Tryd.underlying9 (fun j hj => by
        have h1 := (hI.at_ j).trans (dig_at _ j hj)
        have e : (⟨w.heap.size, 0, none⟩ : Addr).add j = ⟨w.heap.size, j, none⟩ := by unfold Addr.add; split <;> simp_all
        rw [e]
        exact h1)
      rw [show (B ++ tl n 8).length = 128 by rw [List.length_append, HBL.out, tl_len]] at CV
      clear hI hB
      go_wp2
      go_ret
      exact ⟨by rw [HBE.out, List.append_assoc, List.cons_append] at *; rfl, HB.out⟩

/-- What padded makes of the rest r of a message of n bytes. -/
def padT (r : List UInt8) (n : Nat) : List UInt8 := r ++ 128 :: (List.replicate (Sha.zeros n) 0 ++ tl n 8)
theorem padded_any (r : ByteArray) (n : Nat) (w : World) (hr : n % 64 = r.size) (hn : n ≤ 1000000) :
    Calls Tryd.prog 22 #[.string r, .int .i64 n] w fun e w' => e = .returned (.string (mk (padT (ls r) n))) ∧ Below w.heap.size w w' := by
  unfold padT Sha.zeros
  by_cases h : r.size ≤ 55
  · have := padded_64 r n w (Nat.zero_le _) h hn
    rw [show (119 - n % 64) % 64 = 64 - 9 - r.size by omega]
    exact this
  · have := padded_128 r n w (by omega) (by omega) hn
    rw [show (119 - n % 64) % 64 = 128 - 9 - r.size by omega]
    exact this
theorem padT_nat (l : List UInt8) (k : Nat) : nat (l.take k) ++ nat (padT (l.drop k) l.length) = Sha.pad (nat l) := by
  unfold padT Sha.pad
  have e : nat (l.drop k ++ 128 :: (List.replicate (Sha.zeros l.length) 0 ++ tl l.length 8)) = nat (l.drop k) ++ 128 :: (List.replicate (Sha.zeros l.length) 0 ++ nat (tl l.length 8)) := by
    simp [nat]
  rw [e, ← List.append_assoc, show nat (l.take k) ++ nat (l.drop k) = nat l by unfold nat; rw [← List.map_append, List.take_append_drop], nat_len, tl_full]
theorem padT_len (r : List UInt8) (n : Nat) (hr : n % 64 = r.length) : (padT r n).length = if r.length ≤ 55 then 64 else 128 := by
  unfold padT Sha.zeros
  rw [List.length_append, List.length_cons, List.length_append, List.length_replicate, tl_len]
  split <;> omega
end Go.Proofs.YtmcdbjkmkbdeiaaDoor.S3
