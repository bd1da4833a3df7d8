/-
  The code's Sha.
-/
import Derived.Test.YtmcdbjkmkbdeiaaDoorS3Pad
import Derived.Test.YtmcdbjkmkbdeiaaDoorS3Read
import Derived.Deep.RegionWith
namespace Go.Proofs.YtmcdbjkmkbdeiaaDoor.S3
open Go.RowKit
/-- SHA-256 on bytes. -/
def shaB (l : List UInt8) : List UInt8 := (Sha.sha (nat l)).map UInt8.ofNat
def outB (h : List Nat) (k : Nat) : List UInt8 := (List.range k).map fun i => UInt8.ofNat (h.getD (i / 4) 0 / 256 ^ (3 - i % 4) % 256)
theorem outB_len (h : List Nat) (k : Nat) : (outB h k).length = k := by simp [outB]
theorem outB_snoc (h : List Nat) (k : Nat) : outB h (k + 1) = outB h k ++ [UInt8.ofNat (h.getD (k / 4) 0 / 256 ^ (3 - k % 4) % 256)] := by
  unfold outB; rw [List.range_succ, List.map_append]; rfl
theorem outB_out (h : List Nat) : outB h 32 = (Sha.out h).map UInt8.ofNat := by
  unfold outB Sha.out; rw [List.map_map]; rfl
theorem h0_lt : ∀ x ∈ Sha.h0, x < 4294967296 := by decide
/-- The code's two calls of absorb reckon what the definition asks. -/
theorem sha_two (l : List UInt8) (whole n m : Nat) (hw : whole = 64 * n) (hl : whole ≤ l.length) (hr : l.length < whole + 64) (hm : (padT (l.drop whole) l.length).length = 64 * m) :
    absorbL (absorbL Sha.h0 (nat (l.take whole)) n) (nat (padT (l.drop whole) l.length)) m = Sha.blocks (Sha.pad (nat l)) ((Sha.pad (nat l)).length / 64) := by
  rw [blocks_absorb, ← padT_nat l whole, ← absorb_more _ _ _ _ _ (by rw [nat_len, List.length_take, hw]; omega), List.length_append, nat_len, nat_len, List.length_take, hm]
  congr 1
  omega
theorem set8 (a b c d e f p q a' b' c' d' e' f' p' q' : Nat) : (((((((((wd [a, b, c, d, e, f, p, q]).setIfInBounds 0 (.int .u32 (a' : Nat))).setIfInBounds 1 (.int .u32 (b' : Nat))).setIfInBounds 2 (.int .u32 (c' : Nat))).setIfInBounds 3 (.int .u32 (d' : Nat))).setIfInBounds 4 (.int .u32 (e' : Nat))).setIfInBounds 5 (.int .u32 (f' : Nat))).setIfInBounds 6 (.int .u32 (p' : Nat))).setIfInBounds 7 (.int .u32 (q' : Nat))) = wd [a', b', c', d', e', f', p', q'] := by
  simp [wd, words]
set_option maxHeartbeats 4000000 in
set_option maxRecDepth 100000 in
theorem sha_any (s : ByteArray) (w : World) (hw : Tabs w) (hs : s.size ≤ 1000000) :
    Calls Tryd.prog 9 #[.string s] w fun e w' => e = .returned (.agg (dig (shaB (ls s)))) ∧ Below w.heap.size w w' := by
  have s1 : (s.size : Int) ≤ 1000000 := by omega
  obtain ⟨n, hn⟩ : ∃ n, n = s.size / 64 := ⟨_, rfl⟩
  obtain ⟨v, hv⟩ : ∃ v, v = 64 * n := ⟨_, rfl⟩
  have v1 : (s.size : Int) - (s.size : Int) % 64 = (v : Int) := by omega
  have v2 : v ≤ s.size := by omega
  have v3 : s.size < v + 64 := by omega
  obtain ⟨t1, ht1⟩ : ∃ t, t = s.extract 0 v := ⟨_, rfl⟩
  obtain ⟨t2, ht2⟩ : ∃ t, t = s.extract v s.size := ⟨_, rfl⟩
  have z1 : t1.size = 64 * n := by rw [ht1, ByteArray.size_extract]; omega
  have z2 : s.size % 64 = t2.size := by rw [ht2, ByteArray.size_extract]; omega
  have b1 : ls t1 = (ls s).take v := by
    rw [ht1]; unfold ls; rw [ByteArray.data_extract, Array.toList_extract, List.extract_eq_take_drop, List.drop_zero, Nat.sub_zero]
  have b2 : ls t2 = (ls s).drop v := by
    rw [ht2]; unfold ls; rw [ByteArray.data_extract, Array.toList_extract, List.extract_eq_take_drop, List.take_of_length_le (by rw [List.length_drop]; exact Nat.le_refl _)]
  have SL1 : ∀ w, (Instr.slice 9 (.string s) none (some (.int .i64 (v : Int))) none).run Tryd.prog w = .ok (.string t1) w := by
    intro w
    rw [run_slice_string_h (P := Tryd.prog) (ht := Tryd.underlying9) (kh := .i64) (h := (v : Int)) (h0 := by omega) (h2 := by omega), ht1]
    rfl
  have SL2 : ∀ w, (Instr.slice 9 (.string s) (some (.int .i64 (v : Int))) none none).run Tryd.prog w = .ok (.string t2) w := by
    intro w
    rw [run_slice_string_l (P := Tryd.prog) (ht := Tryd.underlying9) (kl := .i64) (l := (v : Int)) (h0 := by omega) (h1 := by omega), ht2]
    rfl
  have hs1 : (w.alloc (Obj.cells #[Value.int IntKind.u8 0, Value.int IntKind.u8 0, Value.int IntKind.u8 0, Value.int IntKind.u8 0, Value.int IntKind.u8 0, Value.int IntKind.u8 0, Value.int IntKind.u8 0, Value.int IntKind.u8 0, Value.int IntKind.u8 0, Value.int IntKind.u8 0, Value.int IntKind.u8 0, Value.int IntKind.u8 0, Value.int IntKind.u8 0, Value.int IntKind.u8 0, Value.int IntKind.u8 0, Value.int IntKind.u8 0, Value.int IntKind.u8 0, Value.int IntKind.u8 0, Value.int IntKind.u8 0, Value.int IntKind.u8 0, Value.int IntKind.u8 0, Value.int IntKind.u8 0, Value.int IntKind.u8 0, Value.int IntKind.u8 0, Value.int IntKind.u8 0, Value.int IntKind.u8 0, Value.int IntKind.u8 0, Value.int IntKind.u8 0, Value.int IntKind.u8 0, Value.int IntKind.u8 0, Value.int IntKind.u8 0, Value.int IntKind.u8 0] 31)).heap.size = w.heap.size + 1 := Array.size_push _
  have hs2 : ((w.alloc (Obj.cells #[Value.int IntKind.u8 0, Value.int IntKind.u8 0, Value.int IntKind.u8 0, Value.int IntKind.u8 0, Value.int IntKind.u8 0, Value.int IntKind.u8 0, Value.int IntKind.u8 0, Value.int IntKind.u8 0, Value.int IntKind.u8 0, Value.int IntKind.u8 0, Value.int IntKind.u8 0, Value.int IntKind.u8 0, Value.int IntKind.u8 0, Value.int IntKind.u8 0, Value.int IntKind.u8 0, Value.int IntKind.u8 0, Value.int IntKind.u8 0, Value.int IntKind.u8 0, Value.int IntKind.u8 0, Value.int IntKind.u8 0, Value.int IntKind.u8 0, Value.int IntKind.u8 0, Value.int IntKind.u8 0, Value.int IntKind.u8 0, Value.int IntKind.u8 0, Value.int IntKind.u8 0, Value.int IntKind.u8 0, Value.int IntKind.u8 0, Value.int IntKind.u8 0, Value.int IntKind.u8 0, Value.int IntKind.u8 0, Value.int IntKind.u8 0] 31)).alloc (Obj.cells #[Value.int IntKind.u32 1779033703, Value.int IntKind.u32 3144134277, Value.int IntKind.u32 1013904242, Value.int IntKind.u32 2773480762, Value.int IntKind.u32 1359893119, Value.int IntKind.u32 2600822924, Value.int IntKind.u32 528734635, Value.int IntKind.u32 1541459225] 58)).heap.size = w.heap.size + 2 := (Array.size_push _).trans (by rw [hs1])
  have hI2 : Is ((w.alloc (Obj.cells #[Value.int IntKind.u8 0, Value.int IntKind.u8 0, Value.int IntKind.u8 0, Value.int IntKind.u8 0, Value.int IntKind.u8 0, Value.int IntKind.u8 0, Value.int IntKind.u8 0, Value.int IntKind.u8 0, Value.int IntKind.u8 0, Value.int IntKind.u8 0, Value.int IntKind.u8 0, Value.int IntKind.u8 0, Value.int IntKind.u8 0, Value.int IntKind.u8 0, Value.int IntKind.u8 0, Value.int IntKind.u8 0, Value.int IntKind.u8 0, Value.int IntKind.u8 0, Value.int IntKind.u8 0, Value.int IntKind.u8 0, Value.int IntKind.u8 0, Value.int IntKind.u8 0, Value.int IntKind.u8 0, Value.int IntKind.u8 0, Value.int IntKind.u8 0, Value.int IntKind.u8 0, Value.int IntKind.u8 0, Value.int IntKind.u8 0, Value.int IntKind.u8 0, Value.int IntKind.u8 0, Value.int IntKind.u8 0, Value.int IntKind.u8 0] 31)).alloc (Obj.cells #[Value.int IntKind.u32 1779033703, Value.int IntKind.u32 3144134277, Value.int IntKind.u32 1013904242, Value.int IntKind.u32 2773480762, Value.int IntKind.u32 1359893119, Value.int IntKind.u32 2600822924, Value.int IntKind.u32 528734635, Value.int IntKind.u32 1541459225] 58)) w.heap.size 31 (dig zeros32) := (Is.fresh w 31 _).alloc _
  have hI3 : Is ((w.alloc (Obj.cells #[Value.int IntKind.u8 0, Value.int IntKind.u8 0, Value.int IntKind.u8 0, Value.int IntKind.u8 0, Value.int IntKind.u8 0, Value.int IntKind.u8 0, Value.int IntKind.u8 0, Value.int IntKind.u8 0, Value.int IntKind.u8 0, Value.int IntKind.u8 0, Value.int IntKind.u8 0, Value.int IntKind.u8 0, Value.int IntKind.u8 0, Value.int IntKind.u8 0, Value.int IntKind.u8 0, Value.int IntKind.u8 0, Value.int IntKind.u8 0, Value.int IntKind.u8 0, Value.int IntKind.u8 0, Value.int IntKind.u8 0, Value.int IntKind.u8 0, Value.int IntKind.u8 0, Value.int IntKind.u8 0, Value.int IntKind.u8 0, Value.int IntKind.u8 0, Value.int IntKind.u8 0, Value.int IntKind.u8 0, Value.int IntKind.u8 0, Value.int IntKind.u8 0, Value.int IntKind.u8 0, Value.int IntKind.u8 0, Value.int IntKind.u8 0] 31)).alloc (Obj.cells #[Value.int IntKind.u32 1779033703, Value.int IntKind.u32 3144134277, Value.int IntKind.u32 1013904242, Value.int IntKind.u32 2773480762, Value.int IntKind.u32 1359893119, Value.int IntKind.u32 2600822924, Value.int IntKind.u32 528734635, Value.int IntKind.u32 1541459225] 58)) (w.heap.size + 1) 58 #[Value.int IntKind.u32 1779033703, Value.int IntKind.u32 3144134277, Value.int IntKind.u32 1013904242, Value.int IntKind.u32 2773480762, Value.int IntKind.u32 1359893119, Value.int IntKind.u32 2600822924, Value.int IntKind.u32 528734635, Value.int IntKind.u32 1541459225] := by
    have := Is.fresh (w.alloc (Obj.cells #[Value.int IntKind.u8 0, Value.int IntKind.u8 0, Value.int IntKind.u8 0, Value.int IntKind.u8 0, Value.int IntKind.u8 0, Value.int IntKind.u8 0, Value.int IntKind.u8 0, Value.int IntKind.u8 0, Value.int IntKind.u8 0, Value.int IntKind.u8 0, Value.int IntKind.u8 0, Value.int IntKind.u8 0, Value.int IntKind.u8 0, Value.int IntKind.u8 0, Value.int IntKind.u8 0, Value.int IntKind.u8 0, Value.int IntKind.u8 0, Value.int IntKind.u8 0, Value.int IntKind.u8 0, Value.int IntKind.u8 0, Value.int IntKind.u8 0, Value.int IntKind.u8 0, Value.int IntKind.u8 0, Value.int IntKind.u8 0, Value.int IntKind.u8 0, Value.int IntKind.u8 0, Value.int IntKind.u8 0, Value.int IntKind.u8 0, Value.int IntKind.u8 0, Value.int IntKind.u8 0, Value.int IntKind.u8 0, Value.int IntKind.u8 0] 31)) 58 #[Value.int IntKind.u32 1779033703, Value.int IntKind.u32 3144134277, Value.int IntKind.u32 1013904242, Value.int IntKind.u32 2773480762, Value.int IntKind.u32 1359893119, Value.int IntKind.u32 2600822924, Value.int IntKind.u32 528734635, Value.int IntKind.u32 1541459225]
    rwa [hs1] at this
  have hB : Below w.heap.size w ((w.alloc (Obj.cells #[Value.int IntKind.u8 0, Value.int IntKind.u8 0, Value.int IntKind.u8 0, Value.int IntKind.u8 0, Value.int IntKind.u8 0, Value.int IntKind.u8 0, Value.int IntKind.u8 0, Value.int IntKind.u8 0, Value.int IntKind.u8 0, Value.int IntKind.u8 0, Value.int IntKind.u8 0, Value.int IntKind.u8 0, Value.int IntKind.u8 0, Value.int IntKind.u8 0, Value.int IntKind.u8 0, Value.int IntKind.u8 0, Value.int IntKind.u8 0, Value.int IntKind.u8 0, Value.int IntKind.u8 0, Value.int IntKind.u8 0, Value.int IntKind.u8 0, Value.int IntKind.u8 0, Value.int IntKind.u8 0, Value.int IntKind.u8 0, Value.int IntKind.u8 0, Value.int IntKind.u8 0, Value.int IntKind.u8 0, Value.int IntKind.u8 0, Value.int IntKind.u8 0, Value.int IntKind.u8 0, Value.int IntKind.u8 0, Value.int IntKind.u8 0] 31)).alloc (Obj.cells #[Value.int IntKind.u32 1779033703, Value.int IntKind.u32 3144134277, Value.int IntKind.u32 1013904242, Value.int IntKind.u32 2773480762, Value.int IntKind.u32 1359893119, Value.int IntKind.u32 2600822924, Value.int IntKind.u32 528734635, Value.int IntKind.u32 1541459225] 58)) := ((Below.refl _ _).alloc (Nat.le_refl _) _).alloc (by omega) _
  have HT := Lib.hid hw
  have HN := Lib.hid hn
  have HV := Lib.hid hv
  have HV2 := Lib.hid v2
  have HV3 := Lib.hid v3
  have HS := Lib.hid hs
  have Z1 := Lib.hid z1
  have Z2 := Lib.hid z2
  have BB1 := Lib.hid b1
  have BB2 := Lib.hid b2
  clear hw hn hv v2 v3 z1 z2 b1 b2 ht1 ht2 hs hs1
  go_enter Tryd.func9, Tryd.ntmps9
  go_wp2
  obtain ⟨W, hW⟩ : ∃ W, W = (w.alloc (Obj.cells #[Value.int IntKind.u8 0, Value.int IntKind.u8 0, Value.int IntKind.u8 0, Value.int IntKind.u8 0, Value.int IntKind.u8 0, Value.int IntKind.u8 0, Value.int IntKind.u8 0, Value.int IntKind.u8 0, Value.int IntKind.u8 0, Value.int IntKind.u8 0, Value.int IntKind.u8 0, Value.int IntKind.u8 0, Value.int IntKind.u8 0, Value.int IntKind.u8 0, Value.int IntKind.u8 0, Value.int IntKind.u8 0, Value.int IntKind.u8 0, Value.int IntKind.u8 0, Value.int IntKind.u8 0, Value.int IntKind.u8 0, Value.int IntKind.u8 0, Value.int IntKind.u8 0, Value.int IntKind.u8 0, Value.int IntKind.u8 0, Value.int IntKind.u8 0, Value.int IntKind.u8 0, Value.int IntKind.u8 0, Value.int IntKind.u8 0, Value.int IntKind.u8 0, Value.int IntKind.u8 0, Value.int IntKind.u8 0, Value.int IntKind.u8 0] 31)).alloc (Obj.cells #[Value.int IntKind.u32 1779033703, Value.int IntKind.u32 3144134277, Value.int IntKind.u32 1013904242, Value.int IntKind.u32 2773480762, Value.int IntKind.u32 1359893119, Value.int IntKind.u32 2600822924, Value.int IntKind.u32 528734635, Value.int IntKind.u32 1541459225] 58) := ⟨_, rfl⟩
  rw [← hW] at hI2 hI3 hB hs2 ⊢
  have c0 : W.cell? ⟨w.heap.size + 1, 0, none⟩ = some (.int .u32 1779033703) := hI3.at_ 0
  have c1 : W.cell? ⟨w.heap.size + 1, 1, none⟩ = some (.int .u32 3144134277) := hI3.at_ 1
  have c2 : W.cell? ⟨w.heap.size + 1, 2, none⟩ = some (.int .u32 1013904242) := hI3.at_ 2
  have c3 : W.cell? ⟨w.heap.size + 1, 3, none⟩ = some (.int .u32 2773480762) := hI3.at_ 3
  have c4 : W.cell? ⟨w.heap.size + 1, 4, none⟩ = some (.int .u32 1359893119) := hI3.at_ 4
  have c5 : W.cell? ⟨w.heap.size + 1, 5, none⟩ = some (.int .u32 2600822924) := hI3.at_ 5
  have c6 : W.cell? ⟨w.heap.size + 1, 6, none⟩ = some (.int .u32 528734635) := hI3.at_ 6
  have c7 : W.cell? ⟨w.heap.size + 1, 7, none⟩ = some (.int .u32 1541459225) := hI3.at_ 7
  have C1 : Hid (Calls Tryd.prog 21 #[.agg #[Value.int IntKind.u32 1779033703, Value.int IntKind.u32 3144134277, Value.int IntKind.u32 1013904242, Value.int IntKind.u32 2773480762, Value.int IntKind.u32 1359893119, Value.int IntKind.u32 2600822924, Value.int IntKind.u32 528734635, Value.int IntKind.u32 1541459225], .string t1] W.drew fun e w' => e = .returned (.agg (wd (absorbL Sha.h0 (nat (ls t1)) n))) ∧ Below W.drew.heap.size W.drew w') :=
    Lib.hid (absorb_any Sha.h0 n t1 W.drew Z1.out (by have := Z1.out; have := HN.out; have := HS.out; omega) ((HT.out.below hB HT.out.1).below (Below.refl 2 _).drew (Nat.le_refl _)) rfl h0_lt)
  have HZe : Hid ((Tryd.prog.info? 58).map (·.size) = some (wd (absorbL Sha.h0 (nat (ls t1)) n)).size) := Lib.hid (by rw [wd_size, absorb_len _ _ rfl]; kernel_rfl)
  have HOe : Hid ((#[Value.int IntKind.u32 1779033703, Value.int IntKind.u32 3144134277, Value.int IntKind.u32 1013904242, Value.int IntKind.u32 2773480762, Value.int IntKind.u32 1359893119, Value.int IntKind.u32 2600822924, Value.int IntKind.u32 528734635, Value.int IntKind.u32 1541459225] : Array Value).size = (wd (absorbL Sha.h0 (nat (ls t1)) n)).size) := Lib.hid (by rw [wd_size, absorb_len _ _ rfl]; rfl)
  have I2 := Lib.hid hI2
  have I3 := Lib.hid hI3
  have HB := Lib.hid hB
  have HS2 := Lib.hid hs2
  clear hW hI2 hI3 hB hs2
  go_still_tail 4, (by kernel_rfl)
  change wpList _ _ _ _ _ W.drew
  go_wp2_with first
    | (go_at_call 21; refine (C1.out).mono ?_; rintro e w1 ⟨rfl, hb1⟩; have B1 : Hid (Below W.heap.size W w1) := Lib.hid ⟨hb1.os, hb1.tape, hb1.output, hb1.size, hb1.block⟩; clear hb1; have J3 : Hid (Is w1 (w.heap.size + 1) 58 #[Value.int IntKind.u32 1779033703, Value.int IntKind.u32 3144134277, Value.int IntKind.u32 1013904242, Value.int IntKind.u32 2773480762, Value.int IntKind.u32 1359893119, Value.int IntKind.u32 2600822924, Value.int IntKind.u32 528734635, Value.int IntKind.u32 1541459225]) := Lib.hid (I3.out.below B1.out (by rw [HS2.out]; omega)))
    | (refine wpList_store_row rfl 58 _ _ rfl (w.heap.size + 1) (wd (absorbL Sha.h0 (nat (ls t1)) n)) rfl rfl 58 #[Value.int IntKind.u32 1779033703, Value.int IntKind.u32 3144134277, Value.int IntKind.u32 1013904242, Value.int IntKind.u32 2773480762, Value.int IntKind.u32 1359893119, Value.int IntKind.u32 2600822924, Value.int IntKind.u32 528734635, Value.int IntKind.u32 1541459225] J3.out HZe.out HOe.out (wd_one _) ?_)
  obtain ⟨V, hV⟩ : ∃ V, V = w1.setRow (w.heap.size + 1) (wd (absorbL Sha.h0 (nat (ls t1)) n)) := ⟨_, rfl⟩
  obtain ⟨g, hg⟩ : ∃ g, g = w.heap.size + 1 := ⟨_, rfl⟩
  have hI3 : Is V g 58 (wd (absorbL Sha.h0 (nat (ls t1)) n)) := by rw [hV, hg]; exact J3.out.row _
  have hI2 : Is V w.heap.size 31 (dig zeros32) := by rw [hV]; exact (I2.out.below B1.out (by rw [HS2.out]; omega)).row_away (by omega) _
  have hBV : Below w.heap.size w V := by rw [hV]; exact below_row (HB.out.trans (B1.out.mono (by rw [HS2.out]; omega))) (by omega) _
  have hsV : w.heap.size + 2 ≤ V.heap.size := by
    rw [hV, show (w1.setRow (w.heap.size + 1) (wd (absorbL Sha.h0 (nat (ls t1)) n))).heap.size = w1.heap.size from Array.size_modify ..]
    have := B1.out.size
    rw [HS2.out] at this
    exact this
  rw [← hV, ← hg]
  dsimp only [Act.put]
  have HG := Lib.hid hg
  clear hg hV c0 c1 c2 c3 c4 c5 c6 c7 J3 B1 C1 HZe HOe I2 I3 HB HS2 SL1
  clear w1 W
  obtain ⟨a, b, c, d, e, f, p, q, hL⟩ := eight (absorbL Sha.h0 (nat (ls t1)) n) (absorb_len _ _ rfl n)
  have hlt := absorb_lt Sha.h0 (nat (ls t1)) h0_lt n
  rw [hL] at hI3 hlt
  have c0 : V.cell? ⟨g, 0, none⟩ = some (.int .u32 (a : Nat)) := hI3.at_ 0
  have c1 : V.cell? ⟨g, 1, none⟩ = some (.int .u32 (b : Nat)) := hI3.at_ 1
  have c2 : V.cell? ⟨g, 2, none⟩ = some (.int .u32 (c : Nat)) := hI3.at_ 2
  have c3 : V.cell? ⟨g, 3, none⟩ = some (.int .u32 (d : Nat)) := hI3.at_ 3
  have c4 : V.cell? ⟨g, 4, none⟩ = some (.int .u32 (e : Nat)) := hI3.at_ 4
  have c5 : V.cell? ⟨g, 5, none⟩ = some (.int .u32 (f : Nat)) := hI3.at_ 5
  have c6 : V.cell? ⟨g, 6, none⟩ = some (.int .u32 (p : Nat)) := hI3.at_ 6
  have c7 : V.cell? ⟨g, 7, none⟩ = some (.int .u32 (q : Nat)) := hI3.at_ 7
  obtain ⟨m, hm⟩ : ∃ m, (padT (ls t2) s.size).length = 64 * m := by
    rw [padT_len _ _ (by rw [ls_length]; exact Z2.out)]
    split
    · exact ⟨1, rfl⟩
    · exact ⟨2, rfl⟩
  obtain ⟨a', b', c', d', e', f', p', q', hM⟩ := eight (absorbL [a, b, c, d, e, f, p, q] (nat (padT (ls t2) s.size)) m) (absorb_len _ _ rfl m)
  have C1 := Lib.hid (fun W => padded_any t2 s.size W Z2.out HS.out)
  have hml : (padT (ls t2) s.size).length ≤ 128 := by
    rw [padT_len _ _ (by rw [ls_length]; exact Z2.out)]
    split <;> omega
  have C2 : Hid (∀ W, Tabs W → Calls Tryd.prog 21 #[.agg #[Value.int .u32 (a : Nat), Value.int .u32 (b : Nat), Value.int .u32 (c : Nat), Value.int .u32 (d : Nat), Value.int .u32 (e : Nat), Value.int .u32 (f : Nat), Value.int .u32 (p : Nat), Value.int .u32 (q : Nat)], .string (mk (padT (ls t2) s.size))] W fun e w' => e = .returned (.agg #[Value.int .u32 (a' : Nat), Value.int .u32 (b' : Nat), Value.int .u32 (c' : Nat), Value.int .u32 (d' : Nat), Value.int .u32 (e' : Nat), Value.int .u32 (f' : Nat), Value.int .u32 (p' : Nat), Value.int .u32 (q' : Nat)]) ∧ Below W.heap.size W w') := Lib.hid fun W hW => by
    have := absorb_any [a, b, c, d, e, f, p, q] m (mk (padT (ls t2) s.size)) W (by rw [size_mk]; exact hm) (by rw [size_mk]; omega) hW rfl hlt
    rw [ls_mk, hM] at this
    exact this
  have HH : Hid (Sha.blocks (Sha.pad (nat (ls s))) ((Sha.pad (nat (ls s))).length / 64) = [a', b', c', d', e', f', p', q']) := Lib.hid (by
    have := sha_two (ls s) v n m HV.out (by rw [ls_length]; exact HV2.out) (by rw [ls_length]; exact HV3.out) (by rw [← BB2.out, ls_length]; exact hm)
    rw [← this, ← BB1.out, hL, ← BB2.out, ls_length, hM])
  have I2 := Lib.hid hI2
  have I3 := Lib.hid hI3
  have HB := Lib.hid hBV
  have HSV := Lib.hid hsV
  have HTV : Hid (Tabs V) := Lib.hid (HT.out.below hBV HT.out.1)
  clear hI2 hI3 hBV hsV hL hlt hm hM hml
  go_region_with (first
    | (go_at_call 22; refine (C1.out _).mono ?_; rintro e w2 ⟨rfl, hb2⟩; have B2 : Hid (Below V.heap.size V w2) := Lib.hid ⟨hb2.os, hb2.tape, hb2.output, hb2.size, hb2.block⟩; clear hb2; have J3 : Hid (Is w2 g 58 (wd [a, b, c, d, e, f, p, q])) := Lib.hid (I3.out.below B2.out (by have := HG.out; have := HSV.out; omega)); have d0 : w2.cell? ⟨g, 0, none⟩ = some (.int .u32 (a : Nat)) := J3.out.at_ 0; have d1 : w2.cell? ⟨g, 1, none⟩ = some (.int .u32 (b : Nat)) := J3.out.at_ 1; have d2 : w2.cell? ⟨g, 2, none⟩ = some (.int .u32 (c : Nat)) := J3.out.at_ 2; have d3 : w2.cell? ⟨g, 3, none⟩ = some (.int .u32 (d : Nat)) := J3.out.at_ 3; have d4 : w2.cell? ⟨g, 4, none⟩ = some (.int .u32 (e : Nat)) := J3.out.at_ 4; have d5 : w2.cell? ⟨g, 5, none⟩ = some (.int .u32 (f : Nat)) := J3.out.at_ 5; have d6 : w2.cell? ⟨g, 6, none⟩ = some (.int .u32 (p : Nat)) := J3.out.at_ 6; have d7 : w2.cell? ⟨g, 7, none⟩ = some (.int .u32 (q : Nat)) := J3.out.at_ 7; have T2 : Hid (Tabs w2) := Lib.hid (HTV.out.below B2.out (by have := HSV.out; omega)))
    | (go_at_call 21; refine (C2.out _ T2.out).mono ?_; rintro e w3 ⟨rfl, hb3⟩; have B3 : Hid (Below w2.heap.size w2 w3) := Lib.hid ⟨hb3.os, hb3.tape, hb3.output, hb3.size, hb3.block⟩; clear hb3; have K3 : Hid (Is w3 g 58 (wd [a, b, c, d, e, f, p, q])) := Lib.hid (J3.out.below B3.out (by have := B2.out.size; have := HG.out; have := HSV.out; omega)); have e0 : w3.cell? ⟨g, 0, none⟩ = some (.int .u32 (a : Nat)) := K3.out.at_ 0; have f0 := K3.out.open_ 0; have e1 : w3.cell? ⟨g, 1, none⟩ = some (.int .u32 (b : Nat)) := K3.out.at_ 1; have f1 := K3.out.open_ 1; have e2 : w3.cell? ⟨g, 2, none⟩ = some (.int .u32 (c : Nat)) := K3.out.at_ 2; have f2 := K3.out.open_ 2; have e3 : w3.cell? ⟨g, 3, none⟩ = some (.int .u32 (d : Nat)) := K3.out.at_ 3; have f3 := K3.out.open_ 3; have e4 : w3.cell? ⟨g, 4, none⟩ = some (.int .u32 (e : Nat)) := K3.out.at_ 4; have f4 := K3.out.open_ 4; have e5 : w3.cell? ⟨g, 5, none⟩ = some (.int .u32 (f : Nat)) := K3.out.at_ 5; have f5 := K3.out.open_ 5; have e6 : w3.cell? ⟨g, 6, none⟩ = some (.int .u32 (p : Nat)) := K3.out.at_ 6; have f6 := K3.out.open_ 6; have e7 : w3.cell? ⟨g, 7, none⟩ = some (.int .u32 (q : Nat)) := K3.out.at_ 7; have f7 := K3.out.open_ 7))
  all_goals
    (obtain ⟨U, hU⟩ : ∃ U, U = ((((((((w3.setCell ⟨g, 0, none⟩ (.int .u32 (a' : Nat))).setCell ⟨g, 1, none⟩ (.int .u32 (b' : Nat))).setCell ⟨g, 2, none⟩ (.int .u32 (c' : Nat))).setCell ⟨g, 3, none⟩ (.int .u32 (d' : Nat))).setCell ⟨g, 4, none⟩ (.int .u32 (e' : Nat))).setCell ⟨g, 5, none⟩ (.int .u32 (f' : Nat))).setCell ⟨g, 6, none⟩ (.int .u32 (p' : Nat))).setCell ⟨g, 7, none⟩ (.int .u32 (q' : Nat))) := ⟨_, rfl⟩
     have hI3 : Is U g 58 (wd [a', b', c', d', e', f', p', q']) := by rw [hU]; exact (by have := ((((((((K3.out.put 0 (.int .u32 (a' : Nat))).put 1 (.int .u32 (b' : Nat))).put 2 (.int .u32 (c' : Nat))).put 3 (.int .u32 (d' : Nat))).put 4 (.int .u32 (e' : Nat))).put 5 (.int .u32 (f' : Nat))).put 6 (.int .u32 (p' : Nat))).put 7 (.int .u32 (q' : Nat))); rw [set8] at this; exact this)
     have hI2 : Is U w.heap.size 31 (dig zeros32) := by rw [hU]; exact (((((((((I2.out.below (B2.out.trans (B3.out.mono B2.out.size)) (by have := HSV.out; omega)).away (a := ⟨g, 0, none⟩) (by show w.heap.size ≠ g; have := HG.out; omega) (.int .u32 (a' : Nat))).away (a := ⟨g, 1, none⟩) (by show w.heap.size ≠ g; have := HG.out; omega) (.int .u32 (b' : Nat))).away (a := ⟨g, 2, none⟩) (by show w.heap.size ≠ g; have := HG.out; omega) (.int .u32 (c' : Nat))).away (a := ⟨g, 3, none⟩) (by show w.heap.size ≠ g; have := HG.out; omega) (.int .u32 (d' : Nat))).away (a := ⟨g, 4, none⟩) (by show w.heap.size ≠ g; have := HG.out; omega) (.int .u32 (e' : Nat))).away (a := ⟨g, 5, none⟩) (by show w.heap.size ≠ g; have := HG.out; omega) (.int .u32 (f' : Nat))).away (a := ⟨g, 6, none⟩) (by show w.heap.size ≠ g; have := HG.out; omega) (.int .u32 (p' : Nat))).away (a := ⟨g, 7, none⟩) (by show w.heap.size ≠ g; have := HG.out; omega) (.int .u32 (q' : Nat)))
     have hBU : Below w.heap.size w U := by rw [hU]; exact (((((((((HB.out.trans ((B2.out.trans (B3.out.mono B2.out.size)).mono (by have := HSV.out; omega))).setCell (p := ⟨g, 0, none⟩) (by show w.heap.size ≤ g; have := HG.out; omega) (.int .u32 (a' : Nat))).setCell (p := ⟨g, 1, none⟩) (by show w.heap.size ≤ g; have := HG.out; omega) (.int .u32 (b' : Nat))).setCell (p := ⟨g, 2, none⟩) (by show w.heap.size ≤ g; have := HG.out; omega) (.int .u32 (c' : Nat))).setCell (p := ⟨g, 3, none⟩) (by show w.heap.size ≤ g; have := HG.out; omega) (.int .u32 (d' : Nat))).setCell (p := ⟨g, 4, none⟩) (by show w.heap.size ≤ g; have := HG.out; omega) (.int .u32 (e' : Nat))).setCell (p := ⟨g, 5, none⟩) (by show w.heap.size ≤ g; have := HG.out; omega) (.int .u32 (f' : Nat))).setCell (p := ⟨g, 6, none⟩) (by show w.heap.size ≤ g; have := HG.out; omega) (.int .u32 (p' : Nat))).setCell (p := ⟨g, 7, none⟩) (by show w.heap.size ≤ g; have := HG.out; omega) (.int .u32 (q' : Nat)))
     rw [← hU]
     have hgU : g < U.heap.size := hI3.lt
     have hs5 : (U.alloc (Obj.cells #[Value.int IntKind.u8 0, Value.int IntKind.u8 0, Value.int IntKind.u8 0, Value.int IntKind.u8 0, Value.int IntKind.u8 0, Value.int IntKind.u8 0, Value.int IntKind.u8 0, Value.int IntKind.u8 0, Value.int IntKind.u8 0, Value.int IntKind.u8 0, Value.int IntKind.u8 0, Value.int IntKind.u8 0, Value.int IntKind.u8 0, Value.int IntKind.u8 0, Value.int IntKind.u8 0, Value.int IntKind.u8 0, Value.int IntKind.u8 0, Value.int IntKind.u8 0, Value.int IntKind.u8 0, Value.int IntKind.u8 0, Value.int IntKind.u8 0, Value.int IntKind.u8 0, Value.int IntKind.u8 0, Value.int IntKind.u8 0, Value.int IntKind.u8 0, Value.int IntKind.u8 0, Value.int IntKind.u8 0, Value.int IntKind.u8 0, Value.int IntKind.u8 0, Value.int IntKind.u8 0, Value.int IntKind.u8 0, Value.int IntKind.u8 0] 31)).heap.size = U.heap.size + 1 := Array.size_push _
     have hI5 : Is (U.alloc (Obj.cells #[Value.int IntKind.u8 0, Value.int IntKind.u8 0, Value.int IntKind.u8 0, Value.int IntKind.u8 0, Value.int IntKind.u8 0, Value.int IntKind.u8 0, Value.int IntKind.u8 0, Value.int IntKind.u8 0, Value.int IntKind.u8 0, Value.int IntKind.u8 0, Value.int IntKind.u8 0, Value.int IntKind.u8 0, Value.int IntKind.u8 0, Value.int IntKind.u8 0, Value.int IntKind.u8 0, Value.int IntKind.u8 0, Value.int IntKind.u8 0, Value.int IntKind.u8 0, Value.int IntKind.u8 0, Value.int IntKind.u8 0, Value.int IntKind.u8 0, Value.int IntKind.u8 0, Value.int IntKind.u8 0, Value.int IntKind.u8 0, Value.int IntKind.u8 0, Value.int IntKind.u8 0, Value.int IntKind.u8 0, Value.int IntKind.u8 0, Value.int IntKind.u8 0, Value.int IntKind.u8 0, Value.int IntKind.u8 0, Value.int IntKind.u8 0] 31)) U.heap.size 31 (digz [] 32) := Is.fresh U 31 _
     have hJ3 : Is (U.alloc (Obj.cells #[Value.int IntKind.u8 0, Value.int IntKind.u8 0, Value.int IntKind.u8 0, Value.int IntKind.u8 0, Value.int IntKind.u8 0, Value.int IntKind.u8 0, Value.int IntKind.u8 0, Value.int IntKind.u8 0, Value.int IntKind.u8 0, Value.int IntKind.u8 0, Value.int IntKind.u8 0, Value.int IntKind.u8 0, Value.int IntKind.u8 0, Value.int IntKind.u8 0, Value.int IntKind.u8 0, Value.int IntKind.u8 0, Value.int IntKind.u8 0, Value.int IntKind.u8 0, Value.int IntKind.u8 0, Value.int IntKind.u8 0, Value.int IntKind.u8 0, Value.int IntKind.u8 0, Value.int IntKind.u8 0, Value.int IntKind.u8 0, Value.int IntKind.u8 0, Value.int IntKind.u8 0, Value.int IntKind.u8 0, Value.int IntKind.u8 0, Value.int IntKind.u8 0, Value.int IntKind.u8 0, Value.int IntKind.u8 0, Value.int IntKind.u8 0] 31)) g 58 (wd [a', b', c', d', e', f', p', q']) := hI3.alloc _
     have hJ2 : Is (U.alloc (Obj.cells #[Value.int IntKind.u8 0, Value.int IntKind.u8 0, Value.int IntKind.u8 0, Value.int IntKind.u8 0, Value.int IntKind.u8 0, Value.int IntKind.u8 0, Value.int IntKind.u8 0, Value.int IntKind.u8 0, Value.int IntKind.u8 0, Value.int IntKind.u8 0, Value.int IntKind.u8 0, Value.int IntKind.u8 0, Value.int IntKind.u8 0, Value.int IntKind.u8 0, Value.int IntKind.u8 0, Value.int IntKind.u8 0, Value.int IntKind.u8 0, Value.int IntKind.u8 0, Value.int IntKind.u8 0, Value.int IntKind.u8 0, Value.int IntKind.u8 0, Value.int IntKind.u8 0, Value.int IntKind.u8 0, Value.int IntKind.u8 0, Value.int IntKind.u8 0, Value.int IntKind.u8 0, Value.int IntKind.u8 0, Value.int IntKind.u8 0, Value.int IntKind.u8 0, Value.int IntKind.u8 0, Value.int IntKind.u8 0, Value.int IntKind.u8 0] 31)) w.heap.size 31 (dig zeros32) := hI2.alloc _
     have hBJ : Below w.heap.size w (U.alloc (Obj.cells #[Value.int IntKind.u8 0, Value.int IntKind.u8 0, Value.int IntKind.u8 0, Value.int IntKind.u8 0, Value.int IntKind.u8 0, Value.int IntKind.u8 0, Value.int IntKind.u8 0, Value.int IntKind.u8 0, Value.int IntKind.u8 0, Value.int IntKind.u8 0, Value.int IntKind.u8 0, Value.int IntKind.u8 0, Value.int IntKind.u8 0, Value.int IntKind.u8 0, Value.int IntKind.u8 0, Value.int IntKind.u8 0, Value.int IntKind.u8 0, Value.int IntKind.u8 0, Value.int IntKind.u8 0, Value.int IntKind.u8 0, Value.int IntKind.u8 0, Value.int IntKind.u8 0, Value.int IntKind.u8 0, Value.int IntKind.u8 0, Value.int IntKind.u8 0, Value.int IntKind.u8 0, Value.int IntKind.u8 0, Value.int IntKind.u8 0, Value.int IntKind.u8 0, Value.int IntKind.u8 0, Value.int IntKind.u8 0, Value.int IntKind.u8 0] 31)) := hBU.alloc (by have := HG.out; omega) _
     obtain ⟨M, hM⟩ : ∃ M, M = [a', b', c', d', e', f', p', q'] := ⟨_, rfl⟩
     rw [← hM] at hJ3
     have HHM : Hid (Sha.blocks (Sha.pad (nat (ls s))) ((Sha.pad (nat (ls s))).length / 64) = M) := Lib.hid (by rw [hM]; exact HH.out)
     have ML : Hid (M.length = 8) := Lib.hid (by rw [hM]; rfl)
     have MLT : Hid (∀ x ∈ M, x < 4294967296) := Lib.hid (by rw [← HHM.out, blocks_absorb]; exact absorb_lt _ _ h0_lt _)
     have I5 := Lib.hid hI5
     have I3' := Lib.hid hJ3
     have I2' := Lib.hid hJ2
     have HBJ := Lib.hid hBJ
     have HGU := Lib.hid hgU
     clear hU hI3 hI2 hBU hgU hs5 hI5 hJ3 hJ2 hBJ hM K3 J3 B2 B3 T2 C1 C2 I2 I3 HB HTV HH
     clear c0 c1 c2 c3 c4 c5 c6 c7 d0 d1 d2 d3 d4 d5 d6 d7 e0 e1 e2 e3 e4 e5 e6 e7 f0 f1 f2 f3 f4 f5 f6 f7
     clear w2 w3
     go_wp2
     obtain ⟨X, hX⟩ : ∃ X, X = U.alloc (Obj.cells #[Value.int IntKind.u8 0, Value.int IntKind.u8 0, Value.int IntKind.u8 0, Value.int IntKind.u8 0, Value.int IntKind.u8 0, Value.int IntKind.u8 0, Value.int IntKind.u8 0, Value.int IntKind.u8 0, Value.int IntKind.u8 0, Value.int IntKind.u8 0, Value.int IntKind.u8 0, Value.int IntKind.u8 0, Value.int IntKind.u8 0, Value.int IntKind.u8 0, Value.int IntKind.u8 0, Value.int IntKind.u8 0, Value.int IntKind.u8 0, Value.int IntKind.u8 0, Value.int IntKind.u8 0, Value.int IntKind.u8 0, Value.int IntKind.u8 0, Value.int IntKind.u8 0, Value.int IntKind.u8 0, Value.int IntKind.u8 0, Value.int IntKind.u8 0, Value.int IntKind.u8 0, Value.int IntKind.u8 0, Value.int IntKind.u8 0, Value.int IntKind.u8 0, Value.int IntKind.u8 0, Value.int IntKind.u8 0, Value.int IntKind.u8 0] 31) := ⟨_, rfl⟩
     rw [← hX] at I5 I3' I2' HBJ ⊢
     obtain ⟨g5, hg5⟩ : ∃ g, g = U.heap.size := ⟨_, rfl⟩
     rw [← hg5] at I5 HGU ⊢
     clear hX hg5
     go_loopw [27] (fun i wr => ∃ k : Nat, k ≤ 32 ∧ i = .int .i64 k ∧ Is wr g5 31 (digz (outB M k) 32) ∧ Is wr g 58 (wd M) ∧ Is wr w.heap.size 31 (dig zeros32) ∧ Below w.heap.size w wr) (fun i _ => 32 - (intOf i).toNat)
     case atStart => exact ⟨0, by omega, rfl, I5.out, I3'.out, I2'.out, HBJ.out⟩
     case round =>
       obtain ⟨k, hk, rfl, hI5, hI3, hI2, hB⟩ := hrel
       have J5 := Lib.hid hI5
       have J3 := Lib.hid hI3
       have J2 := Lib.hid hI2
       have HB := Lib.hid hB
       by_cases hlt : k < 32
       · have i1 : decide ((k : Int) < 32) = true := by simp; omega
         have i2 : (k : Int) < 32 := by omega
         have i3 : (0 : Int) ≤ (k : Int) := by omega
         obtain ⟨h, hh⟩ : ∃ h, h = k / 4 := ⟨_, rfl⟩
         have x1 : (k : Int) / 4 = (h : Int) := by omega
         have x2 : (h : Int) < 8 := by omega
         have x3 : (0 : Int) ≤ (h : Int) := by omega
         have hM8 : h < M.length := by rw [ML.out]; omega
         obtain ⟨x, hx⟩ : ∃ x, x = M.getD h 0 := ⟨_, rfl⟩
         have lx : x < 4294967296 := by rw [hx, getD_in M h hM8]; exact MLT.out _ (List.getElem_mem _)
         have y1 : wr.cell? ⟨g, h, none⟩ = some (.int .u32 (x : Nat)) := by rw [hI3.at_ h, wd_at M h hM8, hx, getD_in M h hM8]
         obtain ⟨sh, hsh⟩ : ∃ sh, sh = 24 - 8 * (k % 4) := ⟨_, rfl⟩
         have x4 : (24 : Int) - 8 * ((k : Int) % 4) = (sh : Int) := by omega
         have x5 : ¬ (sh : Int) < 0 := by omega
         have x6 : sh < 32 := by omega
         obtain ⟨V', hV'⟩ : ∃ V, V = UInt8.ofNat (M.getD (k / 4) 0 / 256 ^ (3 - k % 4) % 256) := ⟨_, rfl⟩
         have LB : ((x : Int) / 2 ^ sh % 256) = (V'.toNat : Int) := by
           rw [hV', Hex.toNat_of _ (Nat.mod_lt _ (by decide)), ← hh, ← hx, show (256 : Nat) ^ (3 - k % 4) = 2 ^ sh by rw [show (256 : Nat) = 2 ^ 8 from rfl, ← Nat.pow_mul, hsh]; congr 1; omega]
           simp
         have hz : (digz (outB M k) 32).size = 32 := digz_size _ _ (by rw [outB_len]; omega)
         obtain ⟨v0, y2⟩ : ∃ v, wr.cell? ⟨g5, k, none⟩ = some v := ⟨_, (hI5.at_ k).trans (Array.getElem?_eq_getElem (by rw [hz]; exact hlt))⟩
         have y3 := hI5.open_ k
         have HV' := Lib.hid hV'
         clear hI5 hI3 hI2 hB hz hV' hsh hx hh hM8
         go_wp2
         go_roundw
         case rel =>
           refine ⟨k + 1, by omega, by go_num, ?_, ?_, ?_, ?_⟩
           · have h2 := J5.out.put k (.int .u8 (V'.toNat : Nat))
             have e1 := digz_put (outB M k) 32 V' (by rw [outB_len]; exact hlt)
             rw [outB_len] at e1
             rw [e1] at h2
             rw [outB_snoc, ← HV'.out]
             exact h2
           · exact J3.out.away (by show g ≠ g5; have := HGU.out; omega) _
           · exact J2.out.away (by show w.heap.size ≠ g5; have := HGU.out; have := HG.out; omega) _
           · exact HB.out.setCell (p := ⟨g5, k, none⟩) (by show w.heap.size ≤ g5; have := HGU.out; have := HG.out; omega) _
         case measure => simp [intOf]; omega
       · have i1 : decide ((k : Int) < 32) = false := by simp; omega
         have HK : Hid (k = 32) := Lib.hid (by omega)
         have hd : digz (outB M k) 32 = dig (outB M k) := digz_full _ _ (by rw [outB_len, HK.out])
         have D5 : Hid (Is wr g5 31 (dig (outB M k))) := Lib.hid (by rw [← hd]; exact hI5)
         have HZa : Hid ((Tryd.prog.info? 31).map (·.size) = some (dig (outB M k)).size) := Lib.hid (by rw [dig_size, outB_len, HK.out]; kernel_rfl)
         have HOa : Hid ((dig zeros32).size = (dig (outB M k)).size) := Lib.hid (by rw [dig_size, dig_size, outB_len, HK.out]; rfl)
         have HRES : Hid (shaB (ls s) = outB M k) := Lib.hid (by unfold shaB Sha.sha; rw [HHM.out, HK.out, outB_out])
         clear hd hI5 hI3 hI2 hB
         go_wp2_with first
           | (refine wpList_load_row rfl 31 _ rfl g5 rfl 31 (dig (outB M k)) (0, 0) _ D5.out Tryd.underlying31 rfl HZa.out ?_)
           | (refine wpList_store_row rfl 31 _ _ rfl w.heap.size (dig (outB M k)) rfl rfl 31 (dig zeros32) J2.out HZa.out HOa.out (dig_one _) ?_)
         refine bodyPost_ret (v := .agg (dig (outB M k))) (results_cell_row rfl _ _ w.heap.size 31 _ (0, 0) _ rfl (J2.out.row _) Tryd.underlying31 rfl HZa.out) rfl ⟨by rw [HRES.out], below_row HB.out (Nat.le_refl _) _⟩)
end Go.Proofs.YtmcdbjkmkbdeiaaDoor.S3
