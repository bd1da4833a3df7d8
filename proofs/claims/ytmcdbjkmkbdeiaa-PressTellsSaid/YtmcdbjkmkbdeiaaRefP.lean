/-
  The reference's literal and Pack.
-/
import Derived.Test.YtmcdbjkmkbdeiaaRefL
namespace Go.Proofs.Ytmcdbjkmkbdeiaa
open Go.RowKit
theorem xlit_s (s : ByteArray) (w : World) (hs : s.size ≤ 1000000000) :
    Calls Try.prog 31 #[.string s] w fun e w' => e = .returned (.string (mk (lit (ls s)))) ∧ Below w.heap.size w w' := by
  have e0 := empty_iff s
  by_cases he : ls s = []
  · have e1 : s.toList.isEmpty = true := by rw [e0, he]; rfl
    have HL : Hid (lit (ls s) = []) := Lib.hid (by rw [he]; rfl)
    clear e0 he
    go_enter Try.func31, Try.ntmps31
    go_wp2
    go_ret
    exact ⟨by rw [HL.out]; rfl, Below.refl _ _⟩
  · have e1 : s.toList.isEmpty = false := by rw [e0]; simpa using he
    have C : Hid (∀ W, Calls Try.prog 29 #[.int .i64 (2 * (s.size : Int))] W fun e w' => e = .returned (.string (mk (vint (2 * s.size)))) ∧ Below W.heap.size W w') := Lib.hid (fun W => by
      rw [show (2 * (s.size : Int)) = ((2 * s.size : Nat) : Int) by omega]
      exact xwnum_any (2 * s.size) W (by omega))
    have HL : Hid (lit (ls s) = vint (2 * s.size) ++ ls s) := Lib.hid (by unfold lit; rw [if_neg he]; rfl)
    have hv := vint_nine (2 * s.size) (by omega)
    have hv2 : (mk (vint (2 * s.size))).size ≤ 9 := hv
    clear e0 he
    go_enter Try.func31, Try.ntmps31
    go_wp2_with (first
      | (go_at_call 29; refine (C.out _).mono ?_; rintro e w1 ⟨rfl, h1⟩; have H1 := Lib.hid h1; clear h1))
    go_ret
    exact ⟨by rw [HL.out]; rfl, H1.out⟩
set_option maxRecDepth 20000 in
set_option maxHeartbeats 1000000 in
theorem xpack_s (s : ByteArray) (w : World) (hs : s.size ≤ 16777216) :
    Calls Try.prog 13 #[.string s] w fun e w' => e = .returned (.string (mk (packE (ls s)))) ∧ Below w.heap.size w w' := by
  obtain ⟨T, hT⟩ : ∃ T, T = packE (ls s) := ⟨_, rfl⟩
  have hT2 := pack_le (ls s) hs
  rw [← hT, ls_length] at hT2
  rw [← hT]
  have hT3 : vint s.size ++ go (ls s) 0 0 = T := by rw [hT, pack_in (ls s) hs]; rfl
  have TT := Lib.hid hT3
  clear hT hT3
  have h0 : decide (16777216 < (s.size : Int)) = false := by simp; omega
  have N : Hid (∀ (n : Nat), n < 9223372036854775808 → ∀ W, Calls Try.prog 29 #[.int .i64 (n : Int)] W fun e w' => e = .returned (.string (mk (vint n))) ∧ Below W.heap.size W w') := Lib.hid (fun n hn W => xwnum_any n W hn)
  have L : Hid (∀ (f i : Nat), i ≤ s.size → ∀ W, Calls Try.prog 31 #[.string (s.extract f i)] W fun e w' => e = .returned (.string (mk (lit (((ls s).take i).drop f)))) ∧ Below W.heap.size W w') := Lib.hid (fun f i hi W => by
    rw [← extract_mid]; exact xlit_s (s.extract f i) W (by rw [size_extract s f i hi]; omega))
  have LE : Hid (∀ (f : Nat) W, Calls Try.prog 31 #[.string (s.extract f s.size)] W fun e w' => e = .returned (.string (mk (lit ((ls s).drop f)))) ∧ Below W.heap.size W w') := Lib.hid (fun f W => by
    rw [← extract_end]; exact xlit_s (s.extract f s.size) W (by rw [size_extract s f _ (Nat.le_refl _)]; omega))
  go_enter Try.func13, Try.ntmps13
  go_wp2_with (first
      | (go_at_call 29; refine (N.out s.size (by omega) _).mono ?_; rintro e w1 ⟨rfl, h1⟩; have H1 := Lib.hid h1; clear h1))
  go_loopw [3, 4, 5] (fun oo ff ii wr => ∃ (o : List UInt8) (f i : Nat), oo = .string (mk o) ∧ ff = .int .i64 f ∧ ii = .int .i64 i ∧ f ≤ i ∧ i ≤ s.size ∧ Hid (o ++ go (ls s) f i = T) ∧ Hid (Below w.heap.size w wr)) (fun _ _ ii _ => s.size - (intOf ii).toNat)
  case atStart => exact ⟨_, 0, 0, rfl, rfl, rfl, by omega, by omega, TT, H1⟩
  case round =>
    obtain ⟨o, f, i, rfl, rfl, rfl, hf, hi, HO, HB⟩ := hrel
    by_cases hlt : i < s.size
    · have i1 : decide ((i : Int) < (s.size : Int)) = true := by simp; omega
      obtain ⟨k, hk⟩ : ∃ k, k = (longestE (ls s) i).1 := ⟨_, rfl⟩
      obtain ⟨d, hd⟩ : ∃ d, d = (longestE (ls s) i).2 := ⟨_, rfl⟩
      have C := xlongest_s s i wr hi (by omega)
      rw [← hk, ← hd] at C
      have C := Lib.hid C
      by_cases hk4 : k < 4
      · have i2 : decide ((k : Int) < 4) = true := by simp; omega
        have e := HO.out
        rw [go_lit (ls s) f i hlt (by rw [← hk]; exact hk4)] at e
        have E := Lib.hid e
        clear e hk hd
        go_wp2_with (first
          | (go_at_call 30; refine C.out.mono ?_; rintro e w2 ⟨rfl, h2⟩; have H2 := Lib.hid h2; clear h2))
        go_roundw
        case rel => exact ⟨o, f, i + 1, rfl, rfl, by go_num, by omega, by omega, E, Lib.hid (bw HB.out H2.out HB.out.size)⟩
        case measure => simp [intOf]; omega
      · have i2 : decide ((k : Int) < 4) = false := by simp; omega
        have hkl := longest_le (ls s) i
        rw [← hk, ls_length] at hkl
        obtain ⟨b1, b2, b3, -⟩ := longest_is (ls s) i (by omega)
        rw [← hd] at b1 b2 b3
        have e := HO.out
        rw [go_match (ls s) f i hlt (by rw [← hk]; exact hk4), ← hk, ← hd] at e
        obtain ⟨q, hq⟩ : ∃ q, q = lit (((ls s).take i).drop f) := ⟨_, rfl⟩
        have L1 := L.out f i (by omega)
        rw [← hq] at e L1
        have NI : Hid (∀ (z : Int), 0 ≤ z → z < 9223372036854775808 → ∀ W, Calls Try.prog 29 #[.int .i64 z] W fun e w' => ∃ v, e = .returned (.string v) ∧ Hid (v = mk (vint z.toNat)) ∧ v.size ≤ 9 ∧ Below W.heap.size W w') := Lib.hid (fun z h0 h1 W => by
          obtain ⟨n, rfl⟩ : ∃ n : Nat, z = n := ⟨z.toNat, by omega⟩
          exact (xwnum_any n W (by omega)).mono fun e w' ⟨e1, e2⟩ => ⟨_, e1, Lib.hid (by rw [Int.toNat_natCast]), vint_nine n (by omega), e2⟩)
        have hlen := congrArg List.length e
        simp only [List.length_append] at hlen
        have z1 : (mk o).size = o.length := rfl
        have z2 : (mk q).size = q.length := rfl
        have e' : (o ++ (q ++ (vint (2 * k + 1) ++ vint d))) ++ go (ls s) (i + k) (i + k) = T := by rw [← e]; simp only [List.append_assoc]
        have E := Lib.hid e'
        have L1 := Lib.hid L1
        have s1 : (mk o).size ≤ 40000000 := by omega
        have s2 : (mk q).size ≤ 40000000 := by omega
        have j1 : decide ((f : Int) ≤ (i : Int)) = true := by simp; omega
        clear e e' hk hd hq hlen z1 z2
        go_wp2_with (first
          | (go_at_call 30; refine C.out.mono ?_; rintro e w2 ⟨rfl, h2⟩; have H2 := Lib.hid h2; clear h2)
          | (go_at_call 31; refine (L1.out _).mono ?_; rintro e w3 ⟨rfl, h3⟩; have H3 := Lib.hid h3; clear h3)
          | (go_at_call 29; have H4' := H4; refine (NI.out _ ?_ ?_ _).mono ?_; omega; omega; rintro e w5 ⟨y, rfl, hy, sy, h5⟩; have H5 := Lib.hid h5; clear h5)
          | (go_at_call 29; refine (NI.out _ ?_ ?_ _).mono ?_; omega; omega; rintro e w4 ⟨x, rfl, hx, sx, h4⟩; have H4 := Lib.hid h4; clear h4))
        go_roundw
        case rel =>
          have B2 := bw HB.out H2.out HB.out.size
          have B3 := bw B2 H3.out B2.size
          have B4 := bw B3 H4.out B3.size
          exact ⟨o ++ (q ++ (vint (2 * k + 1) ++ vint d)), i + k, i + k, by rw [hx.out, hy.out, show (2 * (k : Int) + 1).toNat = 2 * k + 1 by omega, Int.toNat_natCast]; simp only [← mk_append, ByteArray.append_assoc], by go_num, by go_num, by omega, by omega, E, Lib.hid (bw B4 H5.out B4.size)⟩
        case measure => simp [intOf]; omega
    · have i1 : decide ((i : Int) < (s.size : Int)) = false := by simp; omega
      have e := HO.out
      rw [go_end (ls s) f i hlt] at e
      obtain ⟨q, hq⟩ : ∃ q, q = lit ((ls s).drop f) := ⟨_, rfl⟩
      have L1 := LE.out f
      rw [← hq] at e L1
      have hlen := congrArg List.length e
      simp only [List.length_append] at hlen
      have z1 : (mk o).size = o.length := rfl
      have z2 : (mk q).size = q.length := rfl
      have s1 : (mk o).size ≤ 40000000 := by omega
      have s2 : (mk q).size ≤ 40000000 := by omega
      have E := Lib.hid e
      have L1 := Lib.hid L1
      have j1 : decide ((f : Int) ≤ (s.size : Int)) = true := by simp; omega
      clear e hq hlen z1 z2
      go_wp2_with (first
          | (go_at_call 31; refine (L1.out _).mono ?_; rintro e w3 ⟨rfl, h3⟩; have H3 := Lib.hid h3; clear h3))
      go_ret
      exact ⟨by rw [← E.out, ← mk_append]; rfl, bw HB.out H3.out HB.out.size⟩
theorem xpack_any (l : List UInt8) (w : World) (hs : l.length ≤ 16777216) :
    Calls Try.prog 13 #[.string (mk l)] w fun e w' => e = .returned (.string (mk (packE l))) ∧ Below w.heap.size w w' := xpack_s (mk l) w hs
end Go.Proofs.Ytmcdbjkmkbdeiaa
