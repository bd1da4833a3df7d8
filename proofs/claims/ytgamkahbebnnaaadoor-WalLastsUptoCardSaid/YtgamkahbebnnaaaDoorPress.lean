/-
  Pack: its contract. (Unpack's stands in the text before.)
-/
import Derived.Test.YtgamkahbebnnaaaDoorOut
import Derived.Test.YtgamkahbebnnaaaDoorUnp
namespace Go.Proofs.YtgamkahbebnnaaaDoor
open Go.RowKit Go.Maps
set_option maxRecDepth 40000
set_option maxRecDepth 40000 in
set_option maxHeartbeats 4000000 in
theorem pack_s (s : ByteArray) (w : World) (hs : s.size ≤ 16777216) :
    Calls Tryd.prog 48 #[.string s] w fun e w' => e = .returned (.string (mk (packE (ls s)))) ∧ Below w.heap.size w w' := by
  obtain ⟨T, hT⟩ : ∃ T, T = packE (ls s) := ⟨_, rfl⟩
  have hT2 := pack_le (ls s) hs
  rw [← hT, ls_length] at hT2
  rw [← hT]
  have hT3 : vint s.size ++ go (ls s) 0 0 = T := by rw [hT, pack_in (ls s) hs]; rfl
  have TT := Lib.hid hT3
  clear hT hT3
  have h0 : decide (16777216 < (s.size : Int)) = false := by simp; omega
  obtain ⟨x0, hx0⟩ : ∃ y, y = mk (vint s.size) := ⟨_, rfl⟩
  have hx9 : x0.size ≤ 9 := by rw [hx0]; exact vint_nine _ (by omega)
  have N : Hid (∀ W, Calls Tryd.prog 49 #[.int .i64 (s.size : Int)] W fun e w' => e = .returned (.string x0) ∧ Below W.heap.size W w') := Lib.hid (fun W => by rw [hx0]; exact cnum_any s.size W (by omega))
  have HX0 : Hid (ls x0 = vint s.size) := Lib.hid (by rw [hx0]; rfl)
  have B0 : Hid (Lib.IsBuilderF 76 5 w.heap.size w.heap.size (Lib.byteCells []) (w.alloc (.cells #[.pointer none, .slice none 0 0] 76))) := Lib.hid (Lib.IsBuilderF.of (Lib.fresh_isBuilder 76 5 w))
  have HB0 : Hid (Below w.heap.size w (w.alloc (.cells #[.pointer none, .slice none 0 0] 76))) := Lib.hid ((Below.refl _ _).alloc (Nat.le_refl _) _)
  have HS0 : w.heap.size + 1 ≤ (w.alloc (.cells #[.pointer none, .slice none 0 0] 76)).heap.size := by show _ ≤ (w.heap.push _).size; rw [Array.size_push]; omega
  have HS0 := Lib.hid HS0
  have NW : Hid (∀ W, Calls Tryd.prog 58 #[.string s] W fun e w' => ∃ (r m g : Nat) (D : DataW Unit) (bk : List Nat), e = .returned (.pointer (some ⟨r, 0, none⟩)) ∧ Rec w' r m g s 0 D bk ∧ Cand (ls s) 0 D bk ∧ W.heap.size ≤ r ∧ W.heap.size ≤ m ∧ W.heap.size ≤ g ∧ Below W.heap.size W w') := Lib.hid (fun W => new_any W s hs)
  clear hx0
  go_enter Tryd.func48, Tryd.ntmps48
  go_wp2_with (first
    | (go_at_call 49; refine (N.out _).mono ?_; rintro e w1 ⟨rfl, h1⟩; have I1 := Lib.hid (builder_below B0.out h1); have H1 := Lib.hid (HB0.out.trans (h1.mono (Nat.le_of_succ_le HS0.out))); have hB1 : w.heap.size + 1 ≤ w1.heap.size := Nat.le_trans HS0.out h1.size; clear h1)
    | (go_at_call 36; refine (Tryd.WriteString_k w.heap.size w.heap.size _ x0 _ I1.out ?_ (Nat.le_of_succ_le hB1)).mono ?_; (rw [Lib.byteCells_length]; simp; omega); rintro e w2 ⟨rfl, h2, h3, h4⟩; have I2 : Hid (Lib.IsBuilderF 76 5 w.heap.size w.heap.size (Lib.byteCells (vint s.size)) w2) := Lib.hid (by have h5 : Lib.IsBuilderF 76 5 w.heap.size w.heap.size (Lib.byteCells ([] ++ ls x0)) w2 := by { rw [← cells_append]; exact .inr h2 }; rw [HX0.out] at h5; exact h5); have hB2 : w.heap.size + 1 ≤ w2.heap.size := Nat.le_trans hB1 h3.size; have H2 := Lib.hid (H1.out.trans h3); clear h2 h3 h4)
    | (go_at_call 58; refine (NW.out _).mono ?_; rintro e w3 ⟨r, m, g, D0, bk0, rfl, h1, h2, h3, h4, h5, h6⟩; have R3 := Lib.hid h1; have C3 := Lib.hid h2; have I3 := Lib.hid (builder_below I2.out h6); have H3 := Lib.hid (H2.out.trans (h6.mono (Nat.le_of_succ_le hB2))); have hB3 : w.heap.size + 1 ≤ w3.heap.size := Nat.le_trans hB2 h6.size; have hr : w.heap.size < r := Nat.le_trans hB2 h3; have hm : w.heap.size < m := Nat.le_trans hB2 h4; have hg : w.heap.size < g := Nat.le_trans hB2 h5; clear h1 h2 h3 h4 h5 h6))
  clear N NW B0 HB0 HS0 I1 H1 I2 H2
  go_loopw [5, 6] (fun v5 v6 wr => ∃ (o : List UInt8) (f i : Nat) (D : DataW Unit) (bk : List Nat), v5 = .int .i64 (f : Int) ∧ v6 = .int .i64 (i : Int) ∧ f ≤ i ∧ i ≤ s.size ∧ Hid (o ++ go (ls s) f i = T) ∧
    Hid (Lib.IsBuilderF 76 5 w.heap.size w.heap.size (Lib.byteCells o) wr) ∧ Hid (Rec wr r m g s i D bk) ∧ Hid (Cand (ls s) i D bk) ∧ w.heap.size + 1 ≤ wr.heap.size ∧ Hid (Below w.heap.size w wr)) (fun _ v6 _ => s.size - (intOf v6).toNat)
  case atStart => exact ⟨_, 0, 0, D0, bk0, rfl, rfl, by omega, by omega, TT, I3, R3, C3, hB3, H3⟩
  case round =>
    clear TT I3 R3 C3 hB3 H3
    obtain ⟨o, f, i, D, bk, rfl, rfl, hf, hi, HO, HI, HR, HC, hB, HB⟩ := hrel
    have hlen := congrArg List.length HO.out
    simp only [List.length_append] at hlen
    have hol : o.length ≤ 40000000 := by omega
    clear hlen
    by_cases hlt : i < s.size
    · have i1 : decide ((i : Int) < (s.size : Int)) = true := by simp; omega
      have LG := longest_any wr r m g s i D bk HR.out HC.out hs hi
      by_cases hk4 : (longestE (ls s) i).1 < 4
      · have e := HO.out
        rw [go_lit (ls s) f i hlt hk4] at e
        have E := Lib.hid e
        have LG2 : Calls Tryd.prog 59 #[.pointer (some ⟨r, 0, none⟩), .int .i64 (i : Int)] wr fun e w' => ∃ j k d : Nat, e = .returned (.tuple #[.int .i64 (k : Int), .int .i64 (d : Int)]) ∧ k < 4 ∧ w' = wr.drewN j := LG.mono fun e w' h => by
          obtain ⟨⟨j, hj⟩, k, d, he, hk⟩ := h
          exact ⟨j, k, d, he, by rcases hk with ⟨hk, _⟩ | ⟨_, hk⟩; exact hk; rw [hk] at hk4; exact hk4, hj⟩
        have LG3 := Lib.hid LG2
        have U : Hid (∀ j, Calls Tryd.prog 62 #[.pointer (some ⟨r, 0, none⟩), .int .i64 ((i : Int) + 1)] (wr.drewN j) fun x w' => x = .returned (.tuple #[]) ∧ ∃ (D' : DataW Unit) (bk' : List Nat), Rec w' r m g s (i + 1) D' bk' ∧ Cand (ls s) (i + 1) D' bk' ∧ Tri r m g (wr.drewN j) w') := Lib.hid (fun j => by
          rw [show (i : Int) + 1 = ((i + 1 : Nat) : Int) by omega]
          exact until_any (wr.drewN j) r m g s i (i + 1) D bk (HR.out.drew j) HC.out hs (by omega) (by omega))
        clear LG LG2 hk4 e
        go_wp2_with (first
          | (go_at_call 59; refine LG3.out.mono ?_; rintro e w4 ⟨j, k, d, rfl, hk, rfl⟩; have i2 : decide ((k : Int) < 4) = true := by { simp; omega })
          | (go_at_call 62; refine (U.out _).mono ?_; rintro e w5 ⟨rfl, D5, bk5, h1, h2, h3⟩; have R5 := Lib.hid h1; have C5 := Lib.hid h2; have T5 := Lib.hid h3; clear h1 h2 h3))
        go_roundw
        case rel =>
          exact ⟨o, f, i + 1, D5, bk5, rfl, by go_num, by omega, by omega, E, Lib.hid (builder_tri (show Lib.IsBuilderF 76 5 w.heap.size w.heap.size (Lib.byteCells o) (wr.drewN _) from builder_stays HI.out (fun _ _ _ _ _ _ => rfl)) T5.out (HR.out.drew _).is (HR.out.drew _).row (HR.out.drew _).map), R5, C5, Nat.le_trans hB T5.out.size, Lib.hid ((below_drew HB.out _).trans (T5.out.below (Nat.le_of_lt hr) (Nat.le_of_lt hm) (Nat.le_of_lt hg) (Nat.le_of_succ_le hB)))⟩
        case measure => simp [intOf]; omega
      · obtain ⟨K, hK⟩ : ∃ k, k = (longestE (ls s) i).1 := ⟨_, rfl⟩
        obtain ⟨d, hd⟩ : ∃ d, d = (longestE (ls s) i).2 := ⟨_, rfl⟩
        have hKl := longest_le (ls s) i
        rw [← hK, ls_length] at hKl
        obtain ⟨b1, b2, b3, -⟩ := longest_is (ls s) i (by omega)
        rw [← hd] at b1 b2 b3
        have e := HO.out
        rw [go_match (ls s) f i hlt hk4, ← hK, ← hd] at e
        obtain ⟨q, hq⟩ : ∃ q, q = lit (((ls s).take i).drop f) := ⟨_, rfl⟩
        rw [← hq] at e
        have e' : (o ++ q) ++ (vint (2 * K + 1) ++ vint d) ++ go (ls s) (i + K) (i + K) = T := by rw [← e]; simp only [List.append_assoc]
        have E := Lib.hid e'
        have hlen2 := congrArg List.length e'
        simp only [List.length_append] at hlen2
        have hol2 : (o ++ q).length ≤ 100000000 := by rw [List.length_append]; omega
        have hK4 : ¬ K < 4 := by rw [hK]; exact hk4
        have i2 : decide ((K : Int) < 4) = false := by simp; omega
        have j1 : decide ((f : Int) ≤ (i : Int)) = true := by simp; omega
        have LG2 : Calls Tryd.prog 59 #[.pointer (some ⟨r, 0, none⟩), .int .i64 (i : Int)] wr fun e w' => ∃ j : Nat, e = .returned (.tuple #[.int .i64 (K : Int), .int .i64 (d : Int)]) ∧ w' = wr.drewN j := LG.mono fun e w' h => by
          obtain ⟨⟨j, hj⟩, k, d', he, hk⟩ := h
          rcases hk with ⟨_, hk⟩ | ⟨_, hk⟩
          · exact absurd hk hk4
          · rw [hk] at hK hd
            exact ⟨j, by rw [he, hK, hd], hj⟩
        have LG3 := Lib.hid LG2
        have W1 : Hid (∀ W, Lib.IsBuilderF 76 5 w.heap.size w.heap.size (Lib.byteCells o) W → w.heap.size ≤ W.heap.size → Calls Tryd.prog 60 #[.pointer (some ⟨w.heap.size, 0, none⟩), .string (s.extract f i)] W fun e w' => e = .returned (.tuple #[]) ∧ Lib.IsBuilderF 76 5 w.heap.size w.heap.size (Lib.byteCells (o ++ q)) w' ∧ Below w.heap.size W w' ∧ Lib.OthersKept 5 (some w.heap.size) W w') := Lib.hid (fun W h1 h2 => by
          have := wlit_any w.heap.size w.heap.size o (s.extract f i) W h1 (by omega) (by rw [size_extract s f i (by omega)]; omega) h2
          rw [extract_mid, ← hq] at this
          exact this)
        have W2 : Hid (∀ W, Lib.IsBuilderF 76 5 w.heap.size w.heap.size (Lib.byteCells (o ++ q)) W → w.heap.size ≤ W.heap.size → Calls Tryd.prog 61 #[.pointer (some ⟨w.heap.size, 0, none⟩), .int .i64 (K : Int), .int .i64 (d : Int)] W fun e w' => e = .returned (.tuple #[]) ∧ Lib.IsBuilderF 76 5 w.heap.size w.heap.size (Lib.byteCells (o ++ q ++ (vint (2 * K + 1) ++ vint d))) w' ∧ Below w.heap.size W w' ∧ Lib.OthersKept 5 (some w.heap.size) W w') := Lib.hid (fun W h1 h2 => wmatch_any w.heap.size w.heap.size K d (o ++ q) W h1 hol2 (by omega) (by omega) h2)
        have U : Hid (∀ W, Rec W r m g s i D bk → Calls Tryd.prog 62 #[.pointer (some ⟨r, 0, none⟩), .int .i64 ((i : Int) + (K : Int))] W fun x w' => x = .returned (.tuple #[]) ∧ ∃ (D' : DataW Unit) (bk' : List Nat), Rec w' r m g s (i + K) D' bk' ∧ Cand (ls s) (i + K) D' bk' ∧ Tri r m g W w') := Lib.hid (fun W h1 => by
          rw [show (i : Int) + (K : Int) = ((i + K : Nat) : Int) by omega]
          exact until_any W r m g s i (i + K) D bk h1 HC.out hs (by omega) (by omega))
        have hne : r ≠ w.heap.size ∧ m ≠ w.heap.size ∧ g ≠ w.heap.size := ⟨by omega, by omega, by omega⟩
        have HNE := Lib.hid hne
        have hB' : w.heap.size ≤ wr.heap.size := by omega
        clear LG LG2 hk4 e e' hlen2 hK hd hq hne
        go_wp2_with (first
          | (go_at_call 59; refine LG3.out.mono ?_; rintro e w4 ⟨j, rfl, rfl⟩; have I4 : Hid (Lib.IsBuilderF 76 5 w.heap.size w.heap.size (Lib.byteCells o) (wr.drewN j)) := Lib.hid (builder_stays HI.out (fun _ _ _ _ _ _ => rfl)))
          | (go_at_call 60; refine (W1.out _ I4.out hB').mono ?_; rintro e w5 ⟨rfl, h1, h2, h3⟩; have I5 := Lib.hid h1; have H5 := Lib.hid ((below_drew HB.out _).trans h2); have R5 := Lib.hid ((HR.out.drew _).others h3 HNE.out); have hB5 : w.heap.size + 1 ≤ w5.heap.size := Nat.le_trans hB h2.size; clear h1 h2 h3)
          | (go_at_call 61; refine (W2.out _ I5.out (Nat.le_of_succ_le hB5)).mono ?_; rintro e w6 ⟨rfl, h1, h2, h3⟩; have I6 := Lib.hid h1; have H6 := Lib.hid (H5.out.trans h2); have R6 := Lib.hid (R5.out.others h3 HNE.out); have hB6 : w.heap.size + 1 ≤ w6.heap.size := Nat.le_trans hB5 h2.size; clear h1 h2 h3)
          | (go_at_call 62; refine (U.out _ R6.out).mono ?_; rintro e w7 ⟨rfl, D7, bk7, h1, h2, h3⟩; have R7 := Lib.hid h1; have C7 := Lib.hid h2; have T7 := Lib.hid h3; clear h1 h2 h3))
        go_roundw
        case rel =>
          exact ⟨_, i + K, i + K, D7, bk7, by go_num, by go_num, Nat.le_refl _, by omega, E, Lib.hid (builder_tri I6.out T7.out R6.out.is R6.out.row R6.out.map), R7, C7, Nat.le_trans hB6 T7.out.size, Lib.hid (H6.out.trans (T7.out.below (Nat.le_of_lt hr) (Nat.le_of_lt hm) (Nat.le_of_lt hg) (Nat.le_of_succ_le hB6)))⟩
        case measure => simp [intOf]; omega
    · have i1 : decide ((i : Int) < (s.size : Int)) = false := by simp; omega
      have e := HO.out
      rw [go_end (ls s) f i hlt] at e
      obtain ⟨q, hq⟩ : ∃ q, q = lit ((ls s).drop f) := ⟨_, rfl⟩
      rw [← hq] at e
      have E := Lib.hid e
      have j1 : decide ((f : Int) ≤ (s.size : Int)) = true := by simp; omega
      have W1 : Hid (∀ W, Lib.IsBuilderF 76 5 w.heap.size w.heap.size (Lib.byteCells o) W → w.heap.size ≤ W.heap.size → Calls Tryd.prog 60 #[.pointer (some ⟨w.heap.size, 0, none⟩), .string (s.extract f s.size)] W fun e w' => e = .returned (.tuple #[]) ∧ Lib.IsBuilderF 76 5 w.heap.size w.heap.size (Lib.byteCells (o ++ q)) w' ∧ Below w.heap.size W w' ∧ Lib.OthersKept 5 (some w.heap.size) W w') := Lib.hid (fun W h1 h2 => by
        have := wlit_any w.heap.size w.heap.size o (s.extract f s.size) W h1 (by omega) (by rw [size_extract s f _ (Nat.le_refl _)]; omega) h2
        rw [extract_end, ← hq] at this
        exact this)
      have hB' : w.heap.size ≤ wr.heap.size := by omega
      clear e hq
      go_wp2_with (first
        | (go_at_call 60; refine (W1.out _ HI.out hB').mono ?_; rintro e w5 ⟨rfl, h1, h2, h3⟩; have I5 : Hid (Lib.IsBuilderF 76 5 w.heap.size w.heap.size (Lib.byteCells T) w5) := Lib.hid (by rw [← E.out]; exact h1); have H5 := Lib.hid (HB.out.trans h2); have hB5 : w.heap.size ≤ w5.heap.size := Nat.le_trans hB' h2.size; clear h1 h2 h3)
        | (go_at_call 38; refine (Tryd.String_k w.heap.size w.heap.size T _ I5.out hB5).mono ?_; rintro e w6 ⟨rfl, -, h2, -⟩; have H6 := Lib.hid (H5.out.trans h2); clear h2))
      go_ret
      exact ⟨rfl, H6.out⟩
theorem pack_any (l : List UInt8) (w : World) (hs : l.length ≤ 16777216) :
    Calls Tryd.prog 48 #[.string (mk l)] w fun e w' => e = .returned (.string (mk (packE l))) ∧ Below w.heap.size w w' := pack_s (mk l) w hs
end Go.Proofs.YtgamkahbebnnaaaDoor
