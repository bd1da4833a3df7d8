/-
  The reference's Unpack.
-/
import Derived.Test.YtmcdbjkmkbdeiaaRefP
namespace Go.Proofs.Ytmcdbjkmkbdeiaa
open Go.RowKit
set_option maxRecDepth 40000 in
set_option maxHeartbeats 2000000 in
theorem xunpack_any (l : List UInt8) (w : World) (hl : l.length ≤ 1000000000) :
    Calls Try.prog 11 #[.string (mk l)] w fun e w' => e = .returned (.tuple #[.string (mk ((unpackE l).getD [])), .bool (unpackE l).isSome]) ∧ Below w.heap.size w w' := by
  obtain ⟨i0, hi, hz0, hz1, hz2⟩ := info_parts info5
  obtain ⟨n, hn⟩ : ∃ n, n = (rNum (some l)).1 := ⟨_, rfl⟩
  obtain ⟨st0, hst⟩ : ∃ st0, st0 = (rNum (some l)).2 := ⟨_, rfl⟩
  have hnlt : n < 9223372036854775808 := by rw [hn]; exact rNum_lt _
  have hsl : (rest st0).length ≤ 1000000000 := by rw [hst]; exact Nat.le_trans (rNum_le (some l)) hl
  obtain ⟨R, hR⟩ : ∃ R, R = unpackE l := ⟨_, rfl⟩
  have hR2 : R = if 16777216 < n then none else endE (unp n [] st0) := by rw [hR, hn, hst]; rfl
  rw [← hR]
  have O := Lib.hid (fun W => xopen_any l W)
  have M : Hid (∀ b W, Rd W b 34 (some l) → Calls Try.prog 9 #[.pointer (some ⟨b, 0, none⟩)] W fun e w' => e = .returned (.int .i64 (n : Nat)) ∧ Rd w' b 34 st0 ∧ W.grownBy w' (some b)) := Lib.hid (fun b W h => by rw [hn, hst]; exact xnum_any b (some l) W h hl)
  have HL := Lib.hid hl
  clear hn hst hR hl
  by_cases hbig : 16777216 < n
  · have g1 : decide ((16777216 : Int) < (n : Int)) = true := by simp; omega
    have HR : Hid (R = none) := Lib.hid (by rw [hR2, if_pos hbig])
    clear hR2
    go_enter Try.func11, Try.ntmps11
    go_wp2_with (first
      | (go_at_call 8; refine (O.out _).mono ?_; rintro e w1 ⟨b, rfl, hb, h1, h2⟩; have H1 := Lib.hid h1; have H2 := Lib.hid h2; clear h1 h2)
      | (go_at_call 9; refine (M.out _ _ H1.out).mono ?_; rintro e w3 ⟨rfl, h3, h4⟩; have H4 := Lib.hid h4; clear h3 h4))
    go_ret2
    exact ⟨retN HR.out, below_grown H2.out H4.out hb H2.out.size⟩
  · have g1 : decide ((16777216 : Int) < (n : Int)) = false := by simp; omega
    have HR : Hid (R = endE (unp n [] st0)) := Lib.hid (by rw [hR2, if_neg hbig])
    clear hR2
    go_enter Try.func11, Try.ntmps11
    go_wp2_with (first
      | (go_at_call 8; refine (O.out _).mono ?_; rintro e w1 ⟨b, rfl, hb, h1, h2⟩; have H1 := Lib.hid h1; have H2 := Lib.hid h2; clear h1 h2)
      | (go_at_call 9; refine (M.out _ _ H1.out).mono ?_; rintro e w3 ⟨rfl, h3, h4⟩; have H3 := Lib.hid h3; have H4 := Lib.hid (below_grown H2.out h4 hb H2.out.size); clear h3 h4))
    go_loopw [6] (fun v wr => ∃ (out : List UInt8) (st : St) (A : Option Addr) (c : Nat), v = .slice A out.length c ∧ out.length ≤ n ∧ (rest st).length ≤ 1000000000 ∧ Hid (R = endE (unp n out st)) ∧ Hid (Rd wr b 34 st) ∧ Hid (wr.ownsRow w.heap.size 5 1 v out.length (bytes out)) ∧ Hid (Below w.heap.size w wr)) (fun v _ => n - lenV v)
    case atStart => exact ⟨[], st0, none, 0, rfl, Nat.zero_le _, hsl, HR, H3, Lib.hid (World.ownsRow_nil _ _ _ _), H4⟩
    case round =>
      clear HR H3 H4
      obtain ⟨out, st, A, c, rfl, hon, hsl2, HR, HRd, HO, HB⟩ := hrel
      by_cases hlt : out.length < n
      · have i1 : decide ((out.length : Int) < (n : Int)) = true := by simp; omega
        obtain ⟨t, ht⟩ : ∃ t, t = (rNum st).1 := ⟨_, rfl⟩
        obtain ⟨st1, hst1⟩ : ∃ st1, st1 = (rNum st).2 := ⟨_, rfl⟩
        have htl : t < 9223372036854775808 := by rw [ht]; exact rNum_lt _
        have hsl3 : (rest st1).length ≤ 1000000000 := by rw [hst1]; exact Nat.le_trans (rNum_le st) hsl2
        have C := xnum_any b st wr HRd.out hsl2
        rw [← ht, ← hst1] at C
        have C := Lib.hid C
        obtain ⟨k, hk⟩ : ∃ k, k = t / 2 := ⟨_, rfl⟩
        have hkI : (t : Int) / 2 = (k : Int) := by omega
        have HU : Hid (R = endE (unp n out st)) := HR
        have hU := HR.out
        rw [unp, if_pos hlt, ← ht, ← hst1, ← hk] at hU
        by_cases h1 : k < 1
        · have k1 : decide ((k : Int) < 1) = true := by simp; omega
          have hN : R = none := by rw [hU, if_pos (by omega)]; rfl
          have HN := Lib.hid hN
          clear hU hk hN ht hst1
          go_wp2_with (first
            | (go_at_call 9; refine (C.out).mono ?_; rintro e w3 ⟨rfl, h3, h4⟩; have H5 := Lib.hid (below_grown HB.out h4 hb HB.out.size); clear h3 h4))
          go_ret2
          exact ⟨retN HN.out, H5.out⟩
        · have k1 : decide ((k : Int) < 1) = false := by simp; omega
          by_cases h2 : n - out.length < k
          · have k2 : decide ((n : Int) - (out.length : Int) < (k : Int)) = true := by simp; omega
            have hN : R = none := by rw [hU, if_pos (by omega)]; rfl
            have HN := Lib.hid hN
            clear hU hk hN ht hst1
            go_wp2_with (first
              | (go_at_call 9; refine (C.out).mono ?_; rintro e w3 ⟨rfl, h3, h4⟩; have H5 := Lib.hid (below_grown HB.out h4 hb HB.out.size); clear h3 h4))
            go_ret2
            exact ⟨retN HN.out, H5.out⟩
          · have k2 : decide ((n : Int) - (out.length : Int) < (k : Int)) = false := by simp; omega
            rw [if_neg (by omega)] at hU
            by_cases he : t % 2 = 0
            · have m1 : ((t : Int) % 2 == 0) = true := by simp; omega
              have m2 : (t : Int) % 2 = 0 := by omega
              rw [if_pos he] at hU
              obtain ⟨s, hs⟩ : ∃ s, s = (rTake (k : Nat) st1).1 := ⟨_, rfl⟩
              obtain ⟨st2, hst2⟩ : ∃ st2, st2 = (rTake (k : Nat) st1).2 := ⟨_, rfl⟩
              have hsl4 : (rest st2).length ≤ 1000000000 := by rw [hst2]; exact Nat.le_trans (rTake_le _ st1) hsl3
              have T : Hid (∀ W, Rd W b 34 st1 → Calls Try.prog 19 #[.pointer (some ⟨b, 0, none⟩), .int .i64 (k : Int)] W fun e w' => e = .returned (.string (mk s)) ∧ Rd w' b 34 st2 ∧ W.grownBy w' (some b)) := Lib.hid (fun W h => by rw [hs, hst2]; exact xtake_any b st1 k W h)
              rw [← hs, ← hst2] at hU
              by_cases h3 : s.length = k
              · have q1 : (((mk s).size : Int) != (k : Int)) = false := by rw [size_mk]; simp; omega
                rw [if_neg (by omega)] at hU
                have HU2 := Lib.hid hU
                clear hU hk ht hst1 hs hst2 HU
                go_wp2_with (first
                  | (go_at_call 9; refine (C.out).mono ?_; rintro e w3 ⟨rfl, h3, h4⟩; have O5 := Lib.hid (HO.out.kept h4 (.inr (Ne.symm (Is.row_apart HO.out HRd.out (by decide))))); have H5 := Lib.hid (below_grown HB.out h4 hb HB.out.size); have R5 := Lib.hid h3; clear h3 h4)
                  | (go_at_call 19; refine (T.out _ R5.out).mono ?_; rintro e w5 ⟨rfl, h3, h4⟩; have O6 := Lib.hid (O5.out.kept h4 (.inr (Ne.symm (Is.row_apart O5.out R5.out (by decide))))); have H6 := Lib.hid (below_grown H5.out h4 hb H5.out.size); have R6 := Lib.hid h3; clear h3 h4)
                  | (at_builtin; refine Lib.wpList_append_own_string _ rfl (.tmp 46) (.tmp 47) 37 9 rfl w.heap.size 5 i0 Try.underlying37 Try.underlying9 hi hz0 hz1 hz2 (.slice A out.length c) out.length (bytes out) rfl O6.out (mk s) rfl ?c3 ?c4 ?c5 ?_))
                case c3 => simp only [maxLen, size_mk]; omega
                case c4 => simp only [size_mk]; omega
                case c5 => exact H6.out.size
                intro v4 w4 hown4 hgr4 _
                obtain ⟨A4, c4, rfl⟩ := own_slice hown4
                have R7 := Lib.hid (Is.kept R6.out hgr4 (Is.row_apart O6.out R6.out (by decide)))
                have B7 := Lib.hid (H6.out.grown hgr4 H6.out.size (fun j hj => (O6.out.lt j hj).1))
                rw [size_mk] at hown4
                have O7 := Lib.hid hown4
                clear hown4 hgr4
                go_wp2
                go_roundw
                case rel => exact ⟨out ++ s, st2, A4, c4, by rw [List.length_append]; rfl, by rw [List.length_append]; omega, hsl4, HU2, R7, Lib.hid (own_cast O7.out (by rw [List.length_append]) (by rw [strCells_bytes]; simp [bytes])), B7⟩
                case measure => simp only [lenV, size_mk]; omega
              · have q1 : (((mk s).size : Int) != (k : Int)) = true := by rw [size_mk]; simp; omega
                have hN : R = none := by rw [hU, if_pos (by omega)]; rfl
                have HN := Lib.hid hN
                clear hU hk hN ht hst1 hs hst2 HU
                go_wp2_with (first
                  | (go_at_call 9; refine (C.out).mono ?_; rintro e w3 ⟨rfl, h3, h4⟩; have H5 := Lib.hid (below_grown HB.out h4 hb HB.out.size); have R5 := Lib.hid h3; clear h3 h4)
                  | (go_at_call 19; refine (T.out _ R5.out).mono ?_; rintro e w5 ⟨rfl, h3, h4⟩; have H6 := Lib.hid (below_grown H5.out h4 hb H5.out.size); clear h3 h4))
                go_ret2
                exact ⟨retN HN.out, H6.out⟩
            · have m1 : ((t : Int) % 2 == 0) = false := by simp; omega
              have m2 : ¬ (t : Int) % 2 = 0 := by omega
              rw [if_neg he] at hU
              obtain ⟨d, hd⟩ : ∃ d, d = (rNum st1).1 := ⟨_, rfl⟩
              obtain ⟨st2, hst2⟩ : ∃ st2, st2 = (rNum st1).2 := ⟨_, rfl⟩
              have hdl : d < 9223372036854775808 := by rw [hd]; exact rNum_lt _
              have hsl4 : (rest st2).length ≤ 1000000000 := by rw [hst2]; exact Nat.le_trans (rNum_le st1) hsl3
              have T : Hid (∀ W, Rd W b 34 st1 → Calls Try.prog 9 #[.pointer (some ⟨b, 0, none⟩)] W fun e w' => e = .returned (.int .i64 (d : Nat)) ∧ Rd w' b 34 st2 ∧ W.grownBy w' (some b)) := Lib.hid (fun W h => by rw [hd, hst2]; exact xnum_any b st1 W h hsl3)
              rw [← hd, ← hst2] at hU
              by_cases h3 : d < 1
              · have d1 : decide ((d : Int) < 1) = true := by simp; omega
                have hN : R = none := by rw [hU, if_pos (by omega)]; rfl
                have HN := Lib.hid hN
                clear hU hk hN ht hst1 hd hst2 HU
                go_wp2_with (first
                  | (go_at_call 9; have H5' := H5; refine (T.out _ R5.out).mono ?_; rintro e w5 ⟨rfl, h3, h4⟩; have H6 := Lib.hid (below_grown H5.out h4 hb H5.out.size); clear h3 h4)
                  | (go_at_call 9; refine (C.out).mono ?_; rintro e w3 ⟨rfl, h3, h4⟩; have H5 := Lib.hid (below_grown HB.out h4 hb HB.out.size); have R5 := Lib.hid h3; clear h3 h4))
                go_ret2
                exact ⟨retN HN.out, H6.out⟩
              · have d1 : decide ((d : Int) < 1) = false := by simp; omega
                by_cases h4 : out.length < d
                · have d2 : decide ((out.length : Int) < (d : Int)) = true := by simp; omega
                  have hN : R = none := by rw [hU, if_pos (by omega)]; rfl
                  have HN := Lib.hid hN
                  clear hU hk hN ht hst1 hd hst2 HU
                  go_wp2_with (first
                    | (go_at_call 9; have H5' := H5; refine (T.out _ R5.out).mono ?_; rintro e w5 ⟨rfl, h3, h4⟩; have H6 := Lib.hid (below_grown H5.out h4 hb H5.out.size); clear h3 h4)
                    | (go_at_call 9; refine (C.out).mono ?_; rintro e w3 ⟨rfl, h3, h4⟩; have H5 := Lib.hid (below_grown HB.out h4 hb HB.out.size); have R5 := Lib.hid h3; clear h3 h4))
                  go_ret2
                  exact ⟨retN HN.out, H6.out⟩
                · have d2 : decide ((out.length : Int) < (d : Int)) = false := by simp; omega
                  rw [if_neg (by omega)] at hU
                  have HU2 := Lib.hid hU
                  clear hU hk ht hst1 hd hst2 HU
                  go_wp2_with (first
                    | (go_at_call 9; have H5' := H5; refine (T.out _ R5.out).mono ?_; rintro e w5 ⟨rfl, h3, h4⟩; have O6 := Lib.hid (O5.out.kept h4 (.inr (Ne.symm (Is.row_apart O5.out R5.out (by decide))))); have H6 := Lib.hid (below_grown H5.out h4 hb H5.out.size); have R6 := Lib.hid h3; clear h3 h4)
                    | (go_at_call 9; refine (C.out).mono ?_; rintro e w3 ⟨rfl, h3, h4⟩; have O5 := Lib.hid (HO.out.kept h4 (.inr (Ne.symm (Is.row_apart HO.out HRd.out (by decide))))); have H5 := Lib.hid (below_grown HB.out h4 hb HB.out.size); have R5 := Lib.hid h3; clear h3 h4))
                  obtain ⟨g0, cap0, hv0, -⟩ := O6.out.form (by omega)
                  go_loopw [6, 11] (fun v jj wi => ∃ (j g cap : Nat), j ≤ k ∧ jj = .int .i64 j ∧ v = .slice (some ⟨g, 0, none⟩) (out.length + j) cap ∧ Hid (wi.ownsRow w.heap.size 5 1 v (out.length + j) (bytes (copy out d j))) ∧ Hid (Rd wi b 34 st2) ∧ Hid (Below w.heap.size w wi)) (fun _ jj _ => k - (intOf jj).toNat)
                  case atStart => exact ⟨0, g0, cap0, by omega, rfl, hv0, O6, R6, H6⟩
                  case round =>
                    clear O5 H5 R5 O6 H6 R6
                    obtain ⟨j, g, cap, hj, rfl, rfl, O6, R6, H6⟩ := hrel
                    by_cases hlj : j < k
                    · have p1 : decide ((j : Int) < (k : Int)) = true := by simp; omega
                      have hcl : (copy out d j).length = out.length + j := copy_length out d j
                      obtain ⟨x, hx⟩ : ∃ x, x = (copy out d j).getD ((copy out d j).length - d) 0 := ⟨_, rfl⟩
                      have hidx : out.length + j - d < (copy out d j).length := by omega
                      have hxa : (copy out d j)[out.length + j - d]'hidx = x := by
                        rw [hx, hcl, List.getD_eq_getElem?_getD, List.getElem?_eq_getElem hidx]; rfl
                      have cc : wr.cell? ⟨g, out.length + j - d, none⟩ = some (.int .u8 (x.toNat : Int)) := by
                        have := O6.out.cells (g := g) rfl (out.length + j - d) (.int .u8 (x.toNat : Int)) (by unfold bytes; rw [List.getElem?_map, List.getElem?_eq_getElem hidx, hxa]; rfl)
                        rw [addr_add] at this
                        exact this
                      have hcs : copy out d (j + 1) = copy out d j ++ [x] := by simp only [copy]; rw [← hx]
                      have CS := Lib.hid hcs
                      have HBn := Lib.hid (O6.out.alloc (.cells #[.int .u8 (x.toNat : Int)] 5))
                      have HN := Lib.hid (new_one wr (.int .u8 (x.toNat : Int)) 5)
                      clear hcl hx hidx hxa hcs
                      go_wp2_with (at_builtin; refine wpList_append_own _ rfl (.tmp 64) (.tmp 72) 37 rfl w.heap.size 5 i0 (.int .u8 0) 1 1 Try.underlying37 hi hz0 hz1 hz2 rfl (by decide) (.slice (some ⟨g, 0, none⟩) (out.length + j) cap) (out.length + j) (bytes (copy out d j)) rfl HBn.out ⟨wr.heap.size, 0, none⟩ 1 1 [.int .u8 (x.toNat : Int)] rfl rfl HN.out ?c1 ?c3 ?c4 ?c5 ?_)
                      case c1 => intro u hu; simp at hu; subst hu; rfl
                      case c3 => simp only [maxLen]; omega
                      case c4 => omega
                      case c5 => have := H6.out.size; simp; omega
                      intro v4 w4 hown4 hgr4 _
                      obtain ⟨g4, cap4, rfl, -⟩ := hown4.form (by omega)
                      have R7 := Lib.hid (Is.kept (R6.out.alloc _) hgr4 (Is.row_apart O6.out R6.out (by decide)))
                      have B7 := Lib.hid ((H6.out.alloc H6.out.size _).grown hgr4 (by have := H6.out.size; simp; omega) (fun j hj => (O6.out.lt j hj).1))
                      have O7 := Lib.hid hown4
                      clear hown4 hgr4 HBn HN
                      go_wp2
                      go_roundw
                      case rel => exact ⟨j + 1, g4, cap4, by omega, by go_num, rfl, Lib.hid (own_cast O7.out rfl (by rw [CS.out]; simp [bytes])), R7, B7⟩
                      case measure => simp [intOf]; omega
                    · have hjk : j = k := by omega
                      subst hjk
                      have p1 : decide ((j : Int) < (j : Int)) = false := by simp
                      go_wp2
                      exact ⟨⟨copy out d j, st2, some ⟨g, 0, none⟩, cap, by rw [copy_length], by rw [copy_length]; omega, hsl4, HU2, R6, Lib.hid (own_cast O6.out (by rw [copy_length]) rfl), H6⟩, by simp only [lenV]; omega⟩
      · have i1 : decide ((out.length : Int) < (n : Int)) = false := by simp; omega
        have hU := HR.out
        rw [unp_end _ _ _ hlt] at hU
        have hcv := conv_own (l := out) HO.out
        have D := xxdone_any b st wr HRd.out
        by_cases hdn : doneE st = true
        · have hS : R = some out := by rw [hU]; simp only [endE]; rw [if_pos hdn]
          have HS := Lib.hid hS
          rw [done_same, hdn] at D
          have D := Lib.hid D
          clear hU hS
          go_wp2_with (go_at_call 20; refine (D.out).mono ?_; rintro e w3 ⟨rfl, rfl⟩)
          go_ret2
          exact ⟨retS HS.out, HB.out⟩
        · have hS : R = none := by rw [hU]; simp only [endE]; rw [if_neg hdn]
          have HS := Lib.hid hS
          rw [done_same, show doneE st = false by simpa using hdn] at D
          have D := Lib.hid D
          clear hU hS
          go_wp2_with (go_at_call 20; refine (D.out).mono ?_; rintro e w3 ⟨rfl, rfl⟩)
          go_ret2
          exact ⟨retN HS.out, HB.out⟩
end Go.Proofs.Ytmcdbjkmkbdeiaa
