/-
  The reference's Sha.
-/
import Derived.Test.YtdkhinjogomdaaaDoorRefB
import Derived.Test.YtdkhinjogomdaaaDoorShaA
namespace Go.Proofs.YtdkhinjogomdaaaDoor
open Go.RowKit
theorem conv_bytes (W : World) (s : ByteArray) : ∃ cap W2, (convert 9 36 (.string s)).run Tryd.prog W = .ok (.slice (some ⟨W.heap.size, 0, none⟩) s.size cap) W2 ∧ BytesAt W2 W.heap.size 0 (nat (ls s)) ∧ Below W.heap.size W W2 ∧ W.heap.size < W2.heap.size := by
  refine ⟨_, _, run_bytes_of_string (P := Tryd.prog) W 9 36 5 s Tryd.underlying9 Tryd.underlying36 Tryd.underlying5, fun j hj => ?_, (Below.refl _ _).drew.alloc (Nat.le_refl _) _, ?_⟩
  · have hjs : j < s.size := by rw [nat_len, ls_length] at hj; exact hj
    rw [Nat.zero_add, cell_of_row _ W.heap.size j _ _ _ (heap_alloc_new W.drew _)]
    unfold bytesRow
    rw [Array.getElem?_append_left (by simp; exact hjs), nat_at, getD_ls s j hjs]
    rw [Array.getElem?_map, show s.data[j]? = some s[j] from Array.getElem?_eq_getElem hjs]
    rfl
  · show W.heap.size < (W.heap.push _).size
    rw [Array.size_push]; omega
theorem slice_piece (g P cap k : Nat) (hk : 64 * k + 64 ≤ P) (hc : P ≤ cap) (w : World) :
    (Instr.slice 36 (.slice (some ⟨g, 0, none⟩) P cap) (some (.int .i64 (64 * (k : Int)))) (some (.int .i64 (64 * (k : Int) + 64))) none).run Tryd.prog w = .ok (.slice (some ⟨g, 64 * k, none⟩) 64 (cap - 64 * k)) w := by
  rw [run_slice_lh (P := Tryd.prog) (ht := Tryd.underlying36) (kl := .i64) (kh := .i64) (l := 64 * (k : Int)) (h := 64 * (k : Int) + 64) (h0 := by omega) (h1 := by omega) (h2 := by omega)]
  rw [show Tryd.prog.elem 36 = 5 by kernel_rfl, Tryd.sizeOf5]
  have e1 : (64 * (k : Int)).toNat = 64 * k := by omega
  have e2 : (64 * (k : Int) + 64).toNat = 64 * k + 64 := by omega
  simp only [Result.andThen_ok, sliced, e1, e2]
  have e3 : 64 * k + 64 - 64 * k = 64 := by omega
  simp [e3, Addr.add]
  rw [if_neg (by omega)]
  split <;> simp_all
theorem pad_len (l : List Nat) : (Sha.pad l).length = 64 * ((Sha.pad l).length / 64) := by
  have : (Sha.pad l).length = l.length + 1 + Sha.zeros l.length + 8 := by unfold Sha.pad; simp; omega
  rw [this]
  unfold Sha.zeros
  omega
set_option maxHeartbeats 8000000 in
set_option maxRecDepth 100000 in
theorem rsha_any (s : ByteArray) (w : World) (hs : s.size ≤ 1000000) :
    Calls Tryd.prog 14 #[.string s] w fun e w' => e = .returned (.agg (dig (shaB (ls s)))) ∧ Below w.heap.size w w' := by
  obtain ⟨i0, hi, hz0, hz1, hz2⟩ := info_parts info5
  have hs1 : (w.alloc (Obj.cells #[Value.int IntKind.u8 0, Value.int IntKind.u8 0, Value.int IntKind.u8 0, Value.int IntKind.u8 0, Value.int IntKind.u8 0, Value.int IntKind.u8 0, Value.int IntKind.u8 0, Value.int IntKind.u8 0, Value.int IntKind.u8 0, Value.int IntKind.u8 0, Value.int IntKind.u8 0, Value.int IntKind.u8 0, Value.int IntKind.u8 0, Value.int IntKind.u8 0, Value.int IntKind.u8 0, Value.int IntKind.u8 0, Value.int IntKind.u8 0, Value.int IntKind.u8 0, Value.int IntKind.u8 0, Value.int IntKind.u8 0, Value.int IntKind.u8 0, Value.int IntKind.u8 0, Value.int IntKind.u8 0, Value.int IntKind.u8 0, Value.int IntKind.u8 0, Value.int IntKind.u8 0, Value.int IntKind.u8 0, Value.int IntKind.u8 0, Value.int IntKind.u8 0, Value.int IntKind.u8 0, Value.int IntKind.u8 0, Value.int IntKind.u8 0] 23)).heap.size = w.heap.size + 1 := Array.size_push _
  have hI2 : Is (w.alloc (Obj.cells #[Value.int IntKind.u8 0, Value.int IntKind.u8 0, Value.int IntKind.u8 0, Value.int IntKind.u8 0, Value.int IntKind.u8 0, Value.int IntKind.u8 0, Value.int IntKind.u8 0, Value.int IntKind.u8 0, Value.int IntKind.u8 0, Value.int IntKind.u8 0, Value.int IntKind.u8 0, Value.int IntKind.u8 0, Value.int IntKind.u8 0, Value.int IntKind.u8 0, Value.int IntKind.u8 0, Value.int IntKind.u8 0, Value.int IntKind.u8 0, Value.int IntKind.u8 0, Value.int IntKind.u8 0, Value.int IntKind.u8 0, Value.int IntKind.u8 0, Value.int IntKind.u8 0, Value.int IntKind.u8 0, Value.int IntKind.u8 0, Value.int IntKind.u8 0, Value.int IntKind.u8 0, Value.int IntKind.u8 0, Value.int IntKind.u8 0, Value.int IntKind.u8 0, Value.int IntKind.u8 0, Value.int IntKind.u8 0, Value.int IntKind.u8 0] 23)) w.heap.size 23 (dig zeros32) := Is.fresh w 23 _
  have hB0 : Below w.heap.size w (w.alloc (Obj.cells #[Value.int IntKind.u8 0, Value.int IntKind.u8 0, Value.int IntKind.u8 0, Value.int IntKind.u8 0, Value.int IntKind.u8 0, Value.int IntKind.u8 0, Value.int IntKind.u8 0, Value.int IntKind.u8 0, Value.int IntKind.u8 0, Value.int IntKind.u8 0, Value.int IntKind.u8 0, Value.int IntKind.u8 0, Value.int IntKind.u8 0, Value.int IntKind.u8 0, Value.int IntKind.u8 0, Value.int IntKind.u8 0, Value.int IntKind.u8 0, Value.int IntKind.u8 0, Value.int IntKind.u8 0, Value.int IntKind.u8 0, Value.int IntKind.u8 0, Value.int IntKind.u8 0, Value.int IntKind.u8 0, Value.int IntKind.u8 0, Value.int IntKind.u8 0, Value.int IntKind.u8 0, Value.int IntKind.u8 0, Value.int IntKind.u8 0, Value.int IntKind.u8 0, Value.int IntKind.u8 0, Value.int IntKind.u8 0, Value.int IntKind.u8 0] 23)) := (Below.refl _ _).alloc (Nat.le_refl _) _
  obtain ⟨cap2, W2, hconv, hby, hb2, hg2⟩ := conv_bytes (w.alloc (Obj.cells #[Value.int IntKind.u8 0, Value.int IntKind.u8 0, Value.int IntKind.u8 0, Value.int IntKind.u8 0, Value.int IntKind.u8 0, Value.int IntKind.u8 0, Value.int IntKind.u8 0, Value.int IntKind.u8 0, Value.int IntKind.u8 0, Value.int IntKind.u8 0, Value.int IntKind.u8 0, Value.int IntKind.u8 0, Value.int IntKind.u8 0, Value.int IntKind.u8 0, Value.int IntKind.u8 0, Value.int IntKind.u8 0, Value.int IntKind.u8 0, Value.int IntKind.u8 0, Value.int IntKind.u8 0, Value.int IntKind.u8 0, Value.int IntKind.u8 0, Value.int IntKind.u8 0, Value.int IntKind.u8 0, Value.int IntKind.u8 0, Value.int IntKind.u8 0, Value.int IntKind.u8 0, Value.int IntKind.u8 0, Value.int IntKind.u8 0, Value.int IntKind.u8 0, Value.int IntKind.u8 0, Value.int IntKind.u8 0, Value.int IntKind.u8 0] 23)) s
  rw [hs1] at hconv hby hb2 hg2
  have C1 : Hid (Calls Tryd.prog 23 #[.slice (some ⟨w.heap.size + 1, 0, none⟩) s.size cap2] W2 fun e w' => ∃ v, e = .returned v ∧ w'.ownsRow W2.heap.size 5 1 v (padL (ls s) 8).length (bytes (padL (ls s) 8)) ∧ Below W2.heap.size W2 w') := Lib.hid (rpadded_any (w.heap.size + 1) cap2 (ls s) W2 hs hby hg2)
  have I2 := Lib.hid (hI2.below hb2 (Nat.lt_succ_self _))
  have B2 := Lib.hid (hB0.trans (hb2.mono (Nat.le_succ _)))
  have G2 := Lib.hid hg2
  obtain ⟨N, hN⟩ : ∃ N, N = (Sha.pad (nat (ls s))).length / 64 := ⟨_, rfl⟩
  obtain ⟨PL, hPL⟩ : ∃ PL, PL = padL (ls s) 8 := ⟨_, rfl⟩
  have hPn : nat PL = Sha.pad (nat (ls s)) := by rw [hPL]; exact padL_pad _
  have hPlen : PL.length = 64 * N := by rw [← nat_len PL, hPn, hN]; exact pad_len _
  have hPb : PL.length ≤ 2000000 := by
    rw [hPL, padL_len, ls_length]
    unfold Sha.zeros
    omega
  have hPp : 0 < PL.length := by rw [hPL, padL_len]; omega
  rw [← hPL] at C1
  have HN := Lib.hid hN
  have HPN := Lib.hid hPn
  have HPL := Lib.hid hPlen
  have HPB := Lib.hid hPb
  have HPP := Lib.hid hPp
  have N1 : Hid (N ≤ 40000) := Lib.hid (by omega)
  clear hs hs1 hI2 hB0 hby hb2 hg2 hN hPL hPn hPlen hPb hPp
  go_enter Tryd.func14, Tryd.ntmps14
  go_wp2_with (go_at_call 23; refine C1.out.mono ?_; rintro e w3 ⟨v3, rfl, ho3, hb3⟩)
  rcases ho3.2 with ⟨-, hno⟩ | ⟨gp, capp, cur, rfl, hgp, hcell, hn8, -, -, -⟩
  · exact absurd hno (by have := HPP.out; omega)
  have hbs : BytesAt w3 gp 0 (nat PL) := fun j hj => by
    rw [nat_len] at hj
    have := ho3.cells (g := gp) rfl j (.int .u8 (PL[j].toNat : Nat)) (bytes_at PL j hj)
    have e : (⟨gp, 0, none⟩ : Addr).add j = ⟨gp, j, none⟩ := by unfold Addr.add; split <;> simp_all
    rw [e] at this
    rw [Nat.zero_add, this, nat_at, List.getD_eq_getElem?_getD, List.getElem?_eq_getElem hj]
    rfl
  have hgl : gp < w3.heap.size := (show Is w3 gp 5 cur from hcell).lt
  have hI3 := I2.out.below hb3 (by have := G2.out; omega)
  have hB3 : Below w.heap.size w w3 := B2.out.trans (hb3.mono (by have := G2.out; omega))
  have hs3 : w.heap.size + 2 ≤ w3.heap.size := by have := G2.out; have := hb3.size; omega
  rw [HPL.out] at hn8 ⊢
  have HC8 := Lib.hid hn8
  have BS3 := Lib.hid hbs
  have GL3 := Lib.hid hgl
  have I3 := Lib.hid hI3
  have B3 := Lib.hid hB3
  have S3 := Lib.hid hs3
  clear ho3 hb3 hcell hgp hn8 hbs hgl hI3 hB3 hs3 I2 B2 G2 C1 hconv
  clear W2
  go_wp2_with (go_at_call 24; refine (firsts_any _).mono ?_; rintro e w4 ⟨rfl, hw4⟩; have HW4 := Lib.hid hw4; clear hw4)
  have hw4 := HW4.out
  have hs4 : w4.heap.size = w3.heap.size + 1 := by rw [hw4]; exact Array.size_push _
  have hb4 : Below w3.heap.size w3 w4 := by rw [hw4]; exact (Below.refl _ _).alloc (Nat.le_refl _) _
  have hh4 : WordsAt w4 w3.heap.size Sha.h0 := fun j hj => by rw [hw4, (Is.fresh w3 27 (wd Sha.h0)).at_ j, wd_at _ j hj, getD_in _ j hj]
  have BS4 := Lib.hid (show BytesAt w4 gp 0 (nat PL) from fun j hj => (hb4.cell GL3.out).trans (BS3.out j hj))
  have I4 := Lib.hid (I3.out.below hb4 (by have := S3.out; omega))
  have B4 := Lib.hid (B3.out.trans (hb4.mono (by have := S3.out; omega)))
  have GP4 : Hid (gp < w4.heap.size) := Lib.hid (by have := GL3.out; omega)
  have S4 : Hid (w.heap.size + 2 ≤ w4.heap.size) := Lib.hid (by have := S3.out; omega)
  have H4 := Lib.hid hh4
  have G34 : Hid (w3.heap.size < w4.heap.size) := Lib.hid (by omega)
  clear hw4 HW4 hs4 hb4 hh4 BS3 GL3 I3 B3 S3
  go_wp2
  go_loopw [4, 5] (fun v i wr => ∃ k gh ch : Nat, k ≤ N ∧ i = .int .i64 (64 * (k : Int)) ∧ v = .slice (some ⟨gh, 0, none⟩) 8 ch ∧ WordsAt wr gh (absorbL Sha.h0 (nat PL) k) ∧ gh < wr.heap.size ∧ Below w4.heap.size w4 wr) (fun _ i _ => 64 * N - (intOf i).toNat)
  case atStart => exact ⟨0, w3.heap.size, 8, by omega, rfl, rfl, H4.out, G34.out, Below.refl _ _⟩
  case round =>
    obtain ⟨k, gh, ch, hk, rfl, rfl, hW, hgh, hB⟩ := hrel
    have HW := Lib.hid hW
    have HGH := Lib.hid hgh
    have HB := Lib.hid hB
    by_cases hlt : k < N
    · have i1 : decide (64 * (k : Int) < 64 * (N : Int)) = true := by simp; omega
      have i3 : (0 : Int) ≤ 64 * (k : Int) := by omega
      have i4 : (k : Int) ≤ 40000 := by have := N1.out; omega
      have SLC := slice_piece gp (64 * N) capp k (by omega) HC8.out
      obtain ⟨a, b, c, d, e, f, p, q, hL⟩ := eight (absorbL Sha.h0 (nat PL) k) (absorb_len _ _ rfl k)
      have hlts := absorb_lt Sha.h0 (nat PL) h0_lt k
      rw [hL] at hW hlts
      have hpl : ((nat PL).drop (64 * k)).length = 64 * N - 64 * k := by rw [List.length_drop, nat_len, HPL.out]
      have hch : (((nat PL).drop (64 * k)).take 64).length = 64 := by rw [List.length_take, hpl]; omega
      have hgd : ∀ j, j < 64 → (((nat PL).drop (64 * k)).take 64).getD j 0 = (nat PL).getD (64 * k + j) 0 := fun j hj => by
        simp only [List.getD_eq_getElem?_getD]
        rw [List.getElem?_take_of_lt hj, List.getElem?_drop]
      have CB := Lib.hid (rblock_any gh ch gp (64 * k) (capp - 64 * k) a b c d e f p q (((nat PL).drop (64 * k)).take 64) wr hch
        (fun m => by
          by_cases hm : m < 64
          · rw [hgd m hm]; exact nat_lt _ _
          · rw [List.getD_eq_getElem?_getD, List.getElem?_eq_none (by rw [hch]; omega)]; simp)
        (fun j hj => by
          rw [hch] at hj
          rw [hgd j hj, ← BS4.out (64 * k + j) (by rw [nat_len, HPL.out]; omega), Nat.zero_add]
          exact hB.cell GP4.out)
        (Nat.lt_of_lt_of_le GP4.out hB.size) hW hgh (hlts a (by simp)) (hlts b (by simp)) (hlts c (by simp)) (hlts d (by simp)) (hlts e (by simp)) (hlts f (by simp)) (hlts p (by simp)) (hlts q (by simp)))
      have HL := Lib.hid hL
      clear hW hgh hB hL hlts hpl hch hgd
      go_wp2_with (go_at_call 25; refine CB.out.mono ?_; rintro e' w5 ⟨g5, c5, rfl, hw5, hge5, hlt5, hb5⟩; have W5 := Lib.hid hw5; have L5 := Lib.hid hlt5; have B5 := Lib.hid hb5; clear hw5 hge5 hlt5 hb5)
      go_roundw
      case rel =>
        refine ⟨k + 1, g5, c5, by omega, by first | go_num | (congr 1; omega), rfl, ?_, L5.out, HB.out.trans (B5.out.mono HB.out.size)⟩
        rw [absorbL, HL.out]
        exact W5.out
      case measure => simp [intOf]; omega
    · have i1 : decide (64 * (k : Int) < 64 * (N : Int)) = false := by simp; omega
      have HK : Hid (k = N) := Lib.hid (by omega)
      obtain ⟨M, hM⟩ : ∃ M, M = absorbL Sha.h0 (nat PL) k := ⟨_, rfl⟩
      have HHM : Hid (Sha.blocks (Sha.pad (nat (ls s))) ((Sha.pad (nat (ls s))).length / 64) = M) := Lib.hid (by rw [hM, blocks_absorb, ← HN.out, ← HPN.out, HK.out])
      have ML : Hid (M.length = 8) := Lib.hid (by rw [hM]; exact absorb_len _ _ rfl _)
      have MLT : Hid (∀ x ∈ M, x < 4294967296) := Lib.hid (by rw [hM]; exact absorb_lt _ _ h0_lt _)
      rw [← hM] at hW
      have hJ3 : WordsAt (wr.alloc (Obj.cells #[Value.int IntKind.u8 0, Value.int IntKind.u8 0, Value.int IntKind.u8 0, Value.int IntKind.u8 0, Value.int IntKind.u8 0, Value.int IntKind.u8 0, Value.int IntKind.u8 0, Value.int IntKind.u8 0, Value.int IntKind.u8 0, Value.int IntKind.u8 0, Value.int IntKind.u8 0, Value.int IntKind.u8 0, Value.int IntKind.u8 0, Value.int IntKind.u8 0, Value.int IntKind.u8 0, Value.int IntKind.u8 0, Value.int IntKind.u8 0, Value.int IntKind.u8 0, Value.int IntKind.u8 0, Value.int IntKind.u8 0, Value.int IntKind.u8 0, Value.int IntKind.u8 0, Value.int IntKind.u8 0, Value.int IntKind.u8 0, Value.int IntKind.u8 0, Value.int IntKind.u8 0, Value.int IntKind.u8 0, Value.int IntKind.u8 0, Value.int IntKind.u8 0, Value.int IntKind.u8 0, Value.int IntKind.u8 0, Value.int IntKind.u8 0] 23)) gh M := hW.below ((Below.refl wr.heap.size wr).alloc (Nat.le_refl _) _) hgh
      have hJ5 : Is (wr.alloc (Obj.cells #[Value.int IntKind.u8 0, Value.int IntKind.u8 0, Value.int IntKind.u8 0, Value.int IntKind.u8 0, Value.int IntKind.u8 0, Value.int IntKind.u8 0, Value.int IntKind.u8 0, Value.int IntKind.u8 0, Value.int IntKind.u8 0, Value.int IntKind.u8 0, Value.int IntKind.u8 0, Value.int IntKind.u8 0, Value.int IntKind.u8 0, Value.int IntKind.u8 0, Value.int IntKind.u8 0, Value.int IntKind.u8 0, Value.int IntKind.u8 0, Value.int IntKind.u8 0, Value.int IntKind.u8 0, Value.int IntKind.u8 0, Value.int IntKind.u8 0, Value.int IntKind.u8 0, Value.int IntKind.u8 0, Value.int IntKind.u8 0, Value.int IntKind.u8 0, Value.int IntKind.u8 0, Value.int IntKind.u8 0, Value.int IntKind.u8 0, Value.int IntKind.u8 0, Value.int IntKind.u8 0, Value.int IntKind.u8 0, Value.int IntKind.u8 0] 23)) wr.heap.size 23 (digz [] 32) := Is.fresh wr 23 _
      have hJ2 : Is (wr.alloc (Obj.cells #[Value.int IntKind.u8 0, Value.int IntKind.u8 0, Value.int IntKind.u8 0, Value.int IntKind.u8 0, Value.int IntKind.u8 0, Value.int IntKind.u8 0, Value.int IntKind.u8 0, Value.int IntKind.u8 0, Value.int IntKind.u8 0, Value.int IntKind.u8 0, Value.int IntKind.u8 0, Value.int IntKind.u8 0, Value.int IntKind.u8 0, Value.int IntKind.u8 0, Value.int IntKind.u8 0, Value.int IntKind.u8 0, Value.int IntKind.u8 0, Value.int IntKind.u8 0, Value.int IntKind.u8 0, Value.int IntKind.u8 0, Value.int IntKind.u8 0, Value.int IntKind.u8 0, Value.int IntKind.u8 0, Value.int IntKind.u8 0, Value.int IntKind.u8 0, Value.int IntKind.u8 0, Value.int IntKind.u8 0, Value.int IntKind.u8 0, Value.int IntKind.u8 0, Value.int IntKind.u8 0, Value.int IntKind.u8 0, Value.int IntKind.u8 0] 23)) w.heap.size 23 (dig zeros32) := (I4.out.below hB (by have := S4.out; omega)).alloc _
      have hBJ : Below w.heap.size w (wr.alloc (Obj.cells #[Value.int IntKind.u8 0, Value.int IntKind.u8 0, Value.int IntKind.u8 0, Value.int IntKind.u8 0, Value.int IntKind.u8 0, Value.int IntKind.u8 0, Value.int IntKind.u8 0, Value.int IntKind.u8 0, Value.int IntKind.u8 0, Value.int IntKind.u8 0, Value.int IntKind.u8 0, Value.int IntKind.u8 0, Value.int IntKind.u8 0, Value.int IntKind.u8 0, Value.int IntKind.u8 0, Value.int IntKind.u8 0, Value.int IntKind.u8 0, Value.int IntKind.u8 0, Value.int IntKind.u8 0, Value.int IntKind.u8 0, Value.int IntKind.u8 0, Value.int IntKind.u8 0, Value.int IntKind.u8 0, Value.int IntKind.u8 0, Value.int IntKind.u8 0, Value.int IntKind.u8 0, Value.int IntKind.u8 0, Value.int IntKind.u8 0, Value.int IntKind.u8 0, Value.int IntKind.u8 0, Value.int IntKind.u8 0, Value.int IntKind.u8 0] 23)) := (B4.out.trans (hB.mono (by have := S4.out; omega))).alloc (by have := hB.size; have := S4.out; omega) _
      have hsz : w.heap.size + 2 ≤ wr.heap.size := by have := hB.size; have := S4.out; omega
      have J3 := Lib.hid hJ3
      have J5 := Lib.hid hJ5
      have J2 := Lib.hid hJ2
      have BJ := Lib.hid hBJ
      have GS := Lib.hid hsz
      clear hW hgh hB hM hJ3 hJ5 hJ2 hBJ hsz HB HW
      go_wp2
      obtain ⟨Y, hY⟩ : ∃ Y, Y = wr.alloc (Obj.cells #[Value.int IntKind.u8 0, Value.int IntKind.u8 0, Value.int IntKind.u8 0, Value.int IntKind.u8 0, Value.int IntKind.u8 0, Value.int IntKind.u8 0, Value.int IntKind.u8 0, Value.int IntKind.u8 0, Value.int IntKind.u8 0, Value.int IntKind.u8 0, Value.int IntKind.u8 0, Value.int IntKind.u8 0, Value.int IntKind.u8 0, Value.int IntKind.u8 0, Value.int IntKind.u8 0, Value.int IntKind.u8 0, Value.int IntKind.u8 0, Value.int IntKind.u8 0, Value.int IntKind.u8 0, Value.int IntKind.u8 0, Value.int IntKind.u8 0, Value.int IntKind.u8 0, Value.int IntKind.u8 0, Value.int IntKind.u8 0, Value.int IntKind.u8 0, Value.int IntKind.u8 0, Value.int IntKind.u8 0, Value.int IntKind.u8 0, Value.int IntKind.u8 0, Value.int IntKind.u8 0, Value.int IntKind.u8 0, Value.int IntKind.u8 0] 23) := ⟨_, rfl⟩
      obtain ⟨g6, hg6⟩ : ∃ g, g = wr.heap.size := ⟨_, rfl⟩
      rw [← hY] at J3 J5 J2 BJ ⊢
      rw [← hg6] at J5 HGH GS ⊢
      clear hY hg6
      go_loopw [7] (fun i wx => ∃ k : Nat, k ≤ 32 ∧ i = .int .i64 k ∧ Is wx g6 23 (digz (outB M k) 32) ∧ WordsAt wx gh M ∧ Is wx w.heap.size 23 (dig zeros32) ∧ Below w.heap.size w wx) (fun i _ => 32 - (intOf i).toNat)
      case atStart => exact ⟨0, by omega, rfl, J5.out, J3.out, J2.out, BJ.out⟩
      case round =>
        obtain ⟨j, hj, rfl, hI5, hI3, hI2, hB⟩ := hrel
        have K5 := Lib.hid hI5
        have K3 := Lib.hid hI3
        have K2 := Lib.hid hI2
        have HB := Lib.hid hB
        by_cases hlt2 : j < 32
        · have j1 : decide ((j : Int) < 32) = true := by simp; omega
          have j2 : (j : Int) < 32 := by omega
          have j3 : (0 : Int) ≤ (j : Int) := by omega
          obtain ⟨h, hh⟩ : ∃ h, h = j / 4 := ⟨_, rfl⟩
          have x1 : (j : Int) / 4 = (h : Int) := by omega
          have x2 : (h : Int) < 8 := by omega
          have x3 : (0 : Int) ≤ (h : Int) := by omega
          have hM8 : h < M.length := by rw [ML.out]; omega
          obtain ⟨x, hx⟩ : ∃ x, x = M.getD h 0 := ⟨_, rfl⟩
          have lx : x < 4294967296 := by rw [hx, getD_in M h hM8]; exact MLT.out _ (List.getElem_mem _)
          have y1 : wr.cell? ⟨gh, h, none⟩ = some (.int .u32 (x : Nat)) := by rw [hI3 h hM8, hx]
          obtain ⟨sh, hsh⟩ : ∃ sh, sh = 24 - 8 * (j % 4) := ⟨_, rfl⟩
          have x4 : (24 : Int) - 8 * ((j : Int) % 4) = (sh : Int) := by omega
          have x5 : ¬ (sh : Int) < 0 := by omega
          have x6 : sh < 32 := by omega
          obtain ⟨V', hV'⟩ : ∃ V, V = UInt8.ofNat (M.getD (j / 4) 0 / 256 ^ (3 - j % 4) % 256) := ⟨_, rfl⟩
          have LB : ((x : Int) / 2 ^ sh % 256) = (V'.toNat : Int) := by
            rw [hV', Hex.toNat_of _ (Nat.mod_lt _ (by decide)), ← hh, ← hx, show (256 : Nat) ^ (3 - j % 4) = 2 ^ sh by rw [show (256 : Nat) = 2 ^ 8 from rfl, ← Nat.pow_mul, hsh]; congr 1; omega]
            simp
          have hz : (digz (outB M j) 32).size = 32 := digz_size _ _ (by rw [outB_len]; omega)
          obtain ⟨v0, y2⟩ : ∃ v, wr.cell? ⟨g6, j, none⟩ = some v := ⟨_, (hI5.at_ j).trans (Array.getElem?_eq_getElem (by rw [hz]; exact hlt2))⟩
          have y3 := hI5.open_ j
          have HV' := Lib.hid hV'
          clear hI5 hI3 hI2 hB hz hV' hsh hx hh hM8
          go_wp2
          go_roundw
          case rel =>
            refine ⟨j + 1, by omega, by go_num, ?_, ?_, ?_, ?_⟩
            · have h2 := K5.out.put j (.int .u8 (V'.toNat : Nat))
              have e1 := digz_put (outB M j) 32 V' (by rw [outB_len]; exact hlt2)
              rw [outB_len] at e1
              rw [e1] at h2
              rw [outB_snoc, ← HV'.out]
              exact h2
            · exact fun m hm => (((Below.refl g6 wr).setCell (p := ⟨g6, j, none⟩) (Nat.le_refl _) _).cell HGH.out).trans (K3.out m hm)
            · exact K2.out.away (by show w.heap.size ≠ g6; have := GS.out; omega) _
            · exact HB.out.setCell (p := ⟨g6, j, none⟩) (by show w.heap.size ≤ g6; have := GS.out; omega) _
          case measure => simp [intOf]; omega
        · have j1 : decide ((j : Int) < 32) = false := by simp; omega
          have HJ : Hid (j = 32) := Lib.hid (by omega)
          have hd : digz (outB M j) 32 = dig (outB M j) := digz_full _ _ (by rw [outB_len, HJ.out])
          have D5 : Hid (Is wr g6 23 (dig (outB M j))) := Lib.hid (by rw [← hd]; exact hI5)
          have HZa : Hid ((Tryd.prog.info? 23).map (·.size) = some (dig (outB M j)).size) := Lib.hid (by rw [dig_size, outB_len, HJ.out]; kernel_rfl)
          have HOa : Hid ((dig zeros32).size = (dig (outB M j)).size) := Lib.hid (by rw [dig_size, dig_size, outB_len, HJ.out]; rfl)
          have HRES : Hid (shaB (ls s) = outB M j) := Lib.hid (by unfold shaB Sha.sha; rw [HHM.out, HJ.out, outB_out])
          clear hd hI5 hI3 hI2 hB
          go_wp2_with first
            | (refine wpList_load_row rfl 23 _ rfl g6 rfl 23 (dig (outB M j)) (0, 0) _ D5.out Tryd.underlying23 rfl HZa.out ?_)
            | (refine wpList_store_row rfl 23 _ _ rfl w.heap.size (dig (outB M j)) rfl rfl 23 (dig zeros32) K2.out HZa.out HOa.out (dig_one _) ?_)
          refine bodyPost_ret (v := .agg (dig (outB M j))) (results_cell_row rfl _ _ w.heap.size 23 _ (0, 0) _ rfl (K2.out.row _) Tryd.underlying23 rfl HZa.out) rfl ⟨by rw [HRES.out], below_row HB.out (Nat.le_refl _) _⟩
end Go.Proofs.YtdkhinjogomdaaaDoor
