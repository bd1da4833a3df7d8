/-
  The code's absorb.
-/
import Derived.Test.YtmcdbjkmkbdeiaaDoorS3Comp
namespace Go.Proofs.YtmcdbjkmkbdeiaaDoor.S3
open Go.RowKit
/-- The state behind n blocks. -/
def absorbL (h p : List Nat) : Nat → List Nat
  | 0 => h
  | n + 1 => Sha.block (absorbL h p n) ((p.drop (64 * n)).take 64)
theorem blocks_absorb (p : List Nat) (n : Nat) : Sha.blocks p n = absorbL Sha.h0 p n := by
  induction n with
  | zero => rfl
  | succ n ih => rw [Sha.blocks, absorbL, ih]
theorem absorb_more (h a b : List Nat) (n m : Nat) (ha : a.length = 64 * n) : absorbL h (a ++ b) (n + m) = absorbL (absorbL h a n) b m := by
  have e : ∀ j, j ≤ n → absorbL h (a ++ b) j = absorbL h a j := by
    intro j hj
    induction j with
    | zero => rfl
    | succ j ih =>
      rw [absorbL, absorbL, ih (by omega), List.drop_append_of_le_length (by omega), List.take_append_of_le_length (by rw [List.length_drop]; omega)]
  induction m with
  | zero => exact e n (Nat.le_refl _)
  | succ m ih =>
    rw [← Nat.add_assoc, absorbL, absorbL, ih]
    congr 2
    rw [List.drop_append, List.drop_of_length_le (by omega), List.nil_append]
    congr 1
    omega
theorem round_len (v : List Nat) (k w : Nat) : (Sha.round v k w).length = 8 := rfl
theorem rounds_len (w h : List Nat) (hh : h.length = 8) (n : Nat) : (Sha.rounds w h n).length = 8 := by
  cases n with
  | zero => exact hh
  | succ n => rfl
theorem block_len (h b : List Nat) (hh : h.length = 8) : (Sha.block h b).length = 8 := by
  unfold Sha.block
  rw [List.length_zipWith, rounds_len _ _ hh, hh]; rfl
theorem absorb_len (h p : List Nat) (hh : h.length = 8) (n : Nat) : (absorbL h p n).length = 8 := by
  induction n with
  | zero => exact hh
  | succ n ih => exact block_len _ _ ih
theorem block_lt (h b : List Nat) : ∀ x ∈ Sha.block h b, x < 4294967296 := by
  intro x hx
  unfold Sha.block at hx
  obtain ⟨i, hi, rfl⟩ := List.getElem_of_mem hx
  rw [List.getElem_zipWith]
  exact Nat.mod_lt _ (by decide)
theorem absorb_lt (h p : List Nat) (hh : ∀ x ∈ h, x < 4294967296) (n : Nat) : ∀ x ∈ absorbL h p n, x < 4294967296 := by
  cases n with
  | zero => exact hh
  | succ n => exact block_lt _ _
theorem eight (l : List Nat) (h : l.length = 8) : ∃ a b c d e f p q, l = [a, b, c, d, e, f, p, q] := by
  match l, h with
  | [a, b, c, d, e, f, p, q], _ => exact ⟨a, b, c, d, e, f, p, q, rfl⟩
theorem piece (s : ByteArray) (k : Nat) : nat (ls (s.extract (64 * k) (64 * k + 64))) = ((nat (ls s)).drop (64 * k)).take 64 := by
  unfold nat ls
  rw [ByteArray.data_extract, Array.toList_extract, List.extract_eq_take_drop]
  rw [show 64 * k + 64 - 64 * k = 64 by omega, List.map_take, List.map_drop]
set_option maxHeartbeats 4000000 in
set_option maxRecDepth 100000 in
theorem absorb_any (h : List Nat) (n : Nat) (s : ByteArray) (w : World) (hs : s.size = 64 * n) (hn : s.size ≤ 9223372036854775807) (hw : Tabs w) (hl : h.length = 8) (hh : ∀ x ∈ h, x < 4294967296) :
    Calls Tryd.prog 21 #[.agg (wd h), .string s] w fun e w' => e = .returned (.agg (wd (absorbL h (nat (ls s)) n))) ∧ Below w.heap.size w w' := by
  obtain ⟨H, hH⟩ : ∃ H, H = wd h := ⟨_, rfl⟩
  rw [← hH]
  have hs1 : (w.alloc (Obj.cells H 58)).heap.size = w.heap.size + 1 := Array.size_push _
  have hs2 : ((w.alloc (Obj.cells H 58)).alloc (Obj.cells #[Value.int IntKind.u32 0, Value.int IntKind.u32 0, Value.int IntKind.u32 0, Value.int IntKind.u32 0, Value.int IntKind.u32 0, Value.int IntKind.u32 0, Value.int IntKind.u32 0, Value.int IntKind.u32 0] 58)).heap.size = w.heap.size + 2 := (Array.size_push _).trans (by rw [hs1])
  have hI2 : Is ((w.alloc (Obj.cells H 58)).alloc (Obj.cells #[Value.int IntKind.u32 0, Value.int IntKind.u32 0, Value.int IntKind.u32 0, Value.int IntKind.u32 0, Value.int IntKind.u32 0, Value.int IntKind.u32 0, Value.int IntKind.u32 0, Value.int IntKind.u32 0] 58)) w.heap.size 58 (wd h) := by rw [← hH]; exact (Is.fresh w 58 _).alloc _
  have hI4 : Is ((w.alloc (Obj.cells H 58)).alloc (Obj.cells #[Value.int IntKind.u32 0, Value.int IntKind.u32 0, Value.int IntKind.u32 0, Value.int IntKind.u32 0, Value.int IntKind.u32 0, Value.int IntKind.u32 0, Value.int IntKind.u32 0, Value.int IntKind.u32 0] 58)) (w.heap.size + 1) 58 #[Value.int IntKind.u32 0, Value.int IntKind.u32 0, Value.int IntKind.u32 0, Value.int IntKind.u32 0, Value.int IntKind.u32 0, Value.int IntKind.u32 0, Value.int IntKind.u32 0, Value.int IntKind.u32 0] := by
    have := Is.fresh (w.alloc (Obj.cells H 58)) 58 #[Value.int IntKind.u32 0, Value.int IntKind.u32 0, Value.int IntKind.u32 0, Value.int IntKind.u32 0, Value.int IntKind.u32 0, Value.int IntKind.u32 0, Value.int IntKind.u32 0, Value.int IntKind.u32 0]
    rwa [hs1] at this
  have hB : Below w.heap.size w ((w.alloc (Obj.cells H 58)).alloc (Obj.cells #[Value.int IntKind.u32 0, Value.int IntKind.u32 0, Value.int IntKind.u32 0, Value.int IntKind.u32 0, Value.int IntKind.u32 0, Value.int IntKind.u32 0, Value.int IntKind.u32 0, Value.int IntKind.u32 0] 58)) := ((Below.refl _ _).alloc (Nat.le_refl _) _).alloc (by omega) _
  have hT : Tabs ((w.alloc (Obj.cells H 58)).alloc (Obj.cells #[Value.int IntKind.u32 0, Value.int IntKind.u32 0, Value.int IntKind.u32 0, Value.int IntKind.u32 0, Value.int IntKind.u32 0, Value.int IntKind.u32 0, Value.int IntKind.u32 0, Value.int IntKind.u32 0] 58)) := hw.below hB hw.1
  have hzeight : (Tryd.prog.info? 58).map (·.size) = some 8 := by kernel_rfl
  have n1 : (s.size : Int) / 64 = (n : Int) := by omega
  have n2 : (n : Int) ≤ 9223372036854775807 := by omega
  have n3 : n ≤ 9223372036854775807 := by omega
  have H2 := Lib.hid hI2
  have H4 := Lib.hid hI4
  have HB := Lib.hid hB
  have HT := Lib.hid hT
  have HZ := Lib.hid hzeight
  have HS := Lib.hid hs
  have HN := Lib.hid hn
  have HHL := Lib.hid hl
  have HLT := Lib.hid hh
  have HS2 := Lib.hid hs2
  have HTW := Lib.hid hw
  clear hI2 hI4 hB hT hs hl hs1 hs2 hzeight hn hh hw hH
  go_enter Tryd.func21, Tryd.ntmps21
  go_wp2
  obtain ⟨W, hW⟩ : ∃ W, W = (w.alloc (Obj.cells H 58)).alloc (Obj.cells #[Value.int IntKind.u32 0, Value.int IntKind.u32 0, Value.int IntKind.u32 0, Value.int IntKind.u32 0, Value.int IntKind.u32 0, Value.int IntKind.u32 0, Value.int IntKind.u32 0, Value.int IntKind.u32 0] 58) := ⟨_, rfl⟩
  rw [← hW] at H2 H4 HB HT HS2 ⊢
  obtain ⟨g4, hg4⟩ : ∃ g, g = w.heap.size + 1 := ⟨_, rfl⟩
  rw [← hg4] at H4 ⊢
  have HG4 := Lib.hid hg4
  clear hW hg4
  go_loopw [9] (fun i wr => ∃ k : Nat, k ≤ n ∧ i = .int .i64 k ∧ Is wr w.heap.size 58 (wd (absorbL h (nat (ls s)) k)) ∧ Is wr g4 58 #[Value.int IntKind.u32 0, Value.int IntKind.u32 0, Value.int IntKind.u32 0, Value.int IntKind.u32 0, Value.int IntKind.u32 0, Value.int IntKind.u32 0, Value.int IntKind.u32 0, Value.int IntKind.u32 0] ∧ Below w.heap.size w wr ∧ w.heap.size + 2 ≤ wr.heap.size) (fun i _ => n - (intOf i).toNat)
  case atStart => exact ⟨0, by omega, rfl, H2.out, H4.out, HB.out, by rw [HS2.out]; omega⟩
  case round =>
    obtain ⟨k, hk, rfl, hI2, hI4, hB, hz⟩ := hrel
    by_cases hlt : k < n
    · have i1 : decide ((k : Int) < (n : Int)) = true := by simp; omega
      have i3 : (0 : Int) ≤ (k : Int) := by omega
      have hsz := HS.out
      obtain ⟨a, b, c, d, e, f, p, q, hL⟩ := eight (absorbL h (nat (ls s)) k) (absorb_len _ _ HHL.out k)
      have hlts := absorb_lt h (nat (ls s)) HLT.out k
      rw [hL] at hI2 hlts
      have la := hlts a (by simp)
      have lb := hlts b (by simp)
      have lc := hlts c (by simp)
      have ld := hlts d (by simp)
      have le := hlts e (by simp)
      have lf := hlts f (by simp)
      have lp := hlts p (by simp)
      have lq := hlts q (by simp)
      have c0 : wr.cell? ⟨w.heap.size, 0, none⟩ = some (.int .u32 (a : Nat)) := hI2.at_ 0
      have c1 : wr.cell? ⟨w.heap.size, 1, none⟩ = some (.int .u32 (b : Nat)) := hI2.at_ 1
      have c2 : wr.cell? ⟨w.heap.size, 2, none⟩ = some (.int .u32 (c : Nat)) := hI2.at_ 2
      have c3 : wr.cell? ⟨w.heap.size, 3, none⟩ = some (.int .u32 (d : Nat)) := hI2.at_ 3
      have c4 : wr.cell? ⟨w.heap.size, 4, none⟩ = some (.int .u32 (e : Nat)) := hI2.at_ 4
      have c5 : wr.cell? ⟨w.heap.size, 5, none⟩ = some (.int .u32 (f : Nat)) := hI2.at_ 5
      have c6 : wr.cell? ⟨w.heap.size, 6, none⟩ = some (.int .u32 (p : Nat)) := hI2.at_ 6
      have c7 : wr.cell? ⟨w.heap.size, 7, none⟩ = some (.int .u32 (q : Nat)) := hI2.at_ 7
      obtain ⟨t, ht⟩ : ∃ t, t = s.extract (64 * k) (64 * k + 64) := ⟨_, rfl⟩
      have ht1 : nat (ls t) = ((nat (ls s)).drop (64 * k)).take 64 := by rw [ht]; exact piece s k
      have ht2 : t.size = 64 := by rw [ht, ByteArray.size_extract]; omega
      have SL : ∀ w, (Instr.slice 9 (.string s) (some (.int .i64 ((k : Int) * 64))) (some (.int .i64 (((k : Int) + 1) * 64))) none).run Tryd.prog w = .ok (.string t) w := by
        intro w
        have := run_slice_string (P := Tryd.prog) w 9 s .i64 .i64 ((k : Int) * 64) (((k : Int) + 1) * 64) Tryd.underlying9 (by omega) (by omega) (by omega)
        rw [this, ht]
        congr 3
        · omega
        · omega
      have C := Lib.hid (fun W hW => compress_any a b c d e f p q t W ht2 hW la lb lc ld le lf lp lq)
      have HI2 := Lib.hid hI2
      have HI4 := Lib.hid hI4
      have HB := Lib.hid hB
      have HZ2 := Lib.hid hz
      have HTR : Hid (Tabs wr) := Lib.hid (HTW.out.below HB.out HTW.out.1)
      have W1 : IntKind.i64.wrap ((k : Int) * 64) = (k : Int) * 64 := IntWalk.i64_in _ (by have := HN.out; omega)
      have W2 : IntKind.i64.wrap ((k : Int) + 1) = (k : Int) + 1 := IntWalk.i64_in _ (by have := HN.out; omega)
      have W3 : IntKind.i64.wrap (((k : Int) + 1) * 64) = ((k : Int) + 1) * 64 := IntWalk.i64_in _ (by have := HN.out; omega)
      have HEI : Hid ((Tryd.prog.info? 58).map (·.size) = some (wd (Sha.block [a, b, c, d, e, f, p, q] (nat (ls t)))).size) := Lib.hid (by rw [wd_size, block_len _ _ rfl]; exact HZ.out)
      have HEO : Hid ((wd [a, b, c, d, e, f, p, q]).size = (wd (Sha.block [a, b, c, d, e, f, p, q] (nat (ls t)))).size) := Lib.hid (by rw [wd_size, wd_size, block_len _ _ rfl]; rfl)
      have HL := Lib.hid hL
      have HT1 := Lib.hid ht1
      clear hL hlts ht ht1 ht2 hI2 hI4 hB hz hsz
      go_wp2
      go_still_tail 8, (by kernel_rfl)
      change wpList _ _ _ _ _ wr.drew
      go_wp2_with first
        | (go_at_call 30; refine (C.out wr.drew HTR.out).mono ?_; rintro e w1 ⟨rfl, hb1⟩; have B1 : Hid (Below wr.heap.size wr w1) := Lib.hid ⟨hb1.os, hb1.tape, hb1.output, hb1.size, hb1.block⟩; clear hb1; have J2 : Hid (Is w1 w.heap.size 58 (wd [a, b, c, d, e, f, p, q])) := Lib.hid (HI2.out.below B1.out (by have := HZ2.out; omega)))
        | (refine wpList_store_row rfl 58 _ _ rfl w.heap.size (wd (Sha.block [a, b, c, d, e, f, p, q] (nat (ls t)))) rfl rfl 58 (wd [a, b, c, d, e, f, p, q]) J2.out HEI.out HEO.out (wd_one _) ?_)
      go_roundw
      case rel =>
        refine ⟨k + 1, by omega, by go_num, ?_, ?_, ?_, ?_⟩
        · rw [absorbL, HL.out, ← HT1.out]
          exact J2.out.row _
        · exact (HI4.out.below B1.out (by have := HZ2.out; have := HG4.out; omega)).row_away (by have := HG4.out; omega) _
        · exact below_row (HB.out.trans (B1.out.mono (by have := HZ2.out; omega))) (Nat.le_refl _) _
        · rw [show (w1.setRow w.heap.size (wd (Sha.block [a, b, c, d, e, f, p, q] (nat (ls t))))).heap.size = w1.heap.size from Array.size_modify ..]
          have := B1.out.size
          have := HZ2.out
          omega
      case measure => simp [intOf]; omega
    · have i1 : decide ((k : Int) < (n : Int)) = false := by simp; omega
      have HK : Hid (k = n) := Lib.hid (by omega)
      have HI2 := Lib.hid hI2
      have HI4 := Lib.hid hI4
      have HB := Lib.hid hB
      have HR2 : Hid ((Tryd.prog.info? 58).map (·.size) = some (wd (absorbL h (nat (ls s)) k)).size) := Lib.hid (by rw [wd_size, absorb_len _ _ HHL.out]; exact HZ.out)
      have HO2 : Hid ((#[Value.int IntKind.u32 0, Value.int IntKind.u32 0, Value.int IntKind.u32 0, Value.int IntKind.u32 0, Value.int IntKind.u32 0, Value.int IntKind.u32 0, Value.int IntKind.u32 0, Value.int IntKind.u32 0] : Array Value).size = (wd (absorbL h (nat (ls s)) k)).size) := Lib.hid (by rw [wd_size, absorb_len _ _ HHL.out]; rfl)
      clear hI2 hI4 hB
      go_wp2_with first
        | (refine wpList_load_row rfl 58 _ rfl w.heap.size rfl 58 (wd (absorbL h (nat (ls s)) k)) (0, 0) _ HI2.out Tryd.underlying58 rfl HR2.out ?_)
        | (refine wpList_store_row rfl 58 _ _ rfl g4 (wd (absorbL h (nat (ls s)) k)) rfl rfl 58 #[Value.int IntKind.u32 0, Value.int IntKind.u32 0, Value.int IntKind.u32 0, Value.int IntKind.u32 0, Value.int IntKind.u32 0, Value.int IntKind.u32 0, Value.int IntKind.u32 0, Value.int IntKind.u32 0] HI4.out HR2.out HO2.out (wd_one _) ?_)
      refine bodyPost_ret (v := .agg (wd (absorbL h (nat (ls s)) k))) (results_cell_row rfl _ _ g4 58 _ (0, 0) _ rfl (HI4.out.row _) Tryd.underlying58 rfl HR2.out) rfl ⟨by rw [HK.out], below_row HB.out (by rw [HG4.out]; omega) _⟩
end Go.Proofs.YtmcdbjkmkbdeiaaDoor.S3
