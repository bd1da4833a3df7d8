/-
  CodeReads' walk: the two readers side by side.
-/
import Derived.Test.YtjomkfiepmeplaaReadV
import Derived.Test.YtjomkfiepmeplaaRefC
import Derived.Deep.RegionHeld3
namespace Go.Proofs.Ytjomkfiepmeplaa
open Go.RowKit
def doneB : St → Bool
  | none => false
  | some l => l.isEmpty
theorem cdone_any (b : Nat) (st : St) (w : World) (h : Rd w b 62 st) : Calls Try.prog 39 #[.pointer (some ⟨b, 0, none⟩)] w fun e w' => e = .returned (.bool (doneB st)) ∧ w = w' := by
  cases st with
  | none => exact done_true b _ w h
  | some l =>
    have := done_false b _ w h
    rw [mkl] at this
    exact this
theorem xxdone_any (b : Nat) (st : St) (w : World) (h : Rd w b 64 st) : Calls Try.prog 40 #[.pointer (some ⟨b, 0, none⟩)] w fun e w' => e = .returned (.bool (doneB st)) ∧ w = w' := by
  cases st with
  | none => exact xdone_true b _ w h
  | some l =>
    have := xdone_false b _ w h
    rw [show decide ((mk (rest (some l))).size = 0) = l.isEmpty by cases l <;> rfl] at this
    exact this
theorem cleft_any (b : Nat) (st : St) (w : World) (h : Rd w b 62 st) : Calls Try.prog 37 #[.pointer (some ⟨b, 0, none⟩)] w fun e w' => e = .returned (.int .i64 ((rest st).length : Nat)) ∧ w = w' := left_any b _ _ w h
theorem xxleft_any (b : Nat) (st : St) (w : World) (h : Rd w b 64 st) : Calls Try.prog 38 #[.pointer (some ⟨b, 0, none⟩)] w fun e w' => e = .returned (.int .i64 ((rest st).length : Nat)) ∧ w = w' := xleft_any b _ _ w h
set_option maxRecDepth 100000 in
set_option maxHeartbeats 8000000 in
theorem reads_any (s : List UInt8) (A : Option Addr) (cap : Nat) (ks : List Int) (w : World) (hr : Row w w.heap.size A (ints ks)) (hg : ∀ n ∈ ks, -9223372036854775808 ≤ n ∧ n ≤ 9223372036854775807) (hs : s.length ≤ 140737488351232) (hn : ks.length ≤ 17592186043904) :
    Calls Try.prog 4 #[.string (mk s), .slice A ks.length cap] w fun e w' => e = .returned (.bool true) ∧ Below w.heap.size w w' := by
  have HRow := Lib.hid hr
  have HG := Lib.hid hg
  have hsz : (mk s).size = s.length := rfl
  clear hr hg
  go_enter Try.func4, Try.ntmps4
  go_wp2_with fail
  refine (small_any _).mono ?_
  rintro e w1 ⟨rfl, b1⟩
  have z1 := b1.size
  have B1 := Lib.hid b1
  clear b1
  go_wp2_with fail
  refine (open_any s _).mono ?_
  rintro e w2 ⟨br, rfl, hb, h2, b2⟩
  have F2 := Lib.hid (bw B1.out b2 z1)
  have z2 := b2.size
  have hb2 := h2.lt
  have R2 := Lib.hid h2
  clear b2 h2
  go_wp2_with fail
  refine (xopen_any s _).mono ?_
  rintro e w4 ⟨bx, rfl, hbx, h4, b4⟩
  have F4 := Lib.hid (bw F2.out b4 (by omega))
  have z4 := b4.size
  have hb4 := h4.lt
  have R4 := Lib.hid (R2.out.below b4 hb2)
  have X4 := Lib.hid h4
  clear b4 h4
  by_cases hs4 : s.length ≤ 10000
  · have j1 : decide ((10000 : Int) < (s.length : Int)) = false := by simp; omega
    have j2 : decide (10000 < s.length) = false := by simp; omega
    by_cases hk40 : ks.length ≤ 40
    · have j3 : decide ((40 : Int) < (ks.length : Int)) = false := by simp; omega
      have j4 : decide (40 < ks.length) = false := by simp; omega
      go_wp2_with fail
      go_loopw [8] (fun i wr => ∃ (k : Nat) (st : St), k ≤ ks.length ∧ i = .int .i64 k ∧ Rd wr br 62 st ∧ Rd wr bx 64 st ∧ (rest st).length ≤ 10000 ∧ Below w.heap.size w wr) (fun i _ => ks.length - (intOf i).toNat)
      case atStart => exact ⟨0, some s, by omega, rfl, R4.out, X4.out, hs4, F4.out⟩
      case round =>
        obtain ⟨k, st, hk, rfl, hrd, hxd, hst, hf⟩ := hrel
        have HR := Lib.hid hrd
        have HX := Lib.hid hxd
        have HF := Lib.hid hf
        have zf := hf.size
        have zx := hxd.lt
        clear hrd hxd hf
        by_cases hlt : k < ks.length
        · have i1 : decide ((k : Int) < (ks.length : Int)) = true := by simp; omega
          have hrow := HRow.out.below HF.out
          obtain ⟨a, rfl, ha, hc⟩ := hrow k _ (ints_at ks k hlt)
          clear hrow
          by_cases e0 : ks[k] = 0
          · rw [e0] at hc
            have LE := fun (_ : True) => rNum_le st
            go_wp2_with fail
            refine (num_any br st _ HR.out (by omega)).mono ?_
            rintro e w5 ⟨rfl, h5, g5⟩
            have R5 := Lib.hid h5
            have X5 := Lib.hid (HX.out.kept g5 (by simp; omega))
            have F5 := Lib.hid (below_grown HF.out g5 (by omega) (by omega))
            have z5 := g5.size
            clear h5 g5
            go_wp2_with fail
            refine (xnum_any bx st _ X5.out (by omega)).mono ?_
            rintro e w7 ⟨rfl, h7, g7⟩
            have X7 := Lib.hid h7
            have R7 := Lib.hid (R5.out.kept g7 (by simp; omega))
            have F7 := Lib.hid (below_grown F5.out g7 (by omega) (by omega))
            clear h7 g7
            go_wp2_with fail
            refine (cleft_any br _ _ R7.out).mono ?_
            rintro e w' ⟨rfl, rfl⟩
            go_wp2_with fail
            refine (xxleft_any bx _ _ X7.out).mono ?_
            rintro e w' ⟨rfl, rfl⟩
            go_wp2_with fail
            refine (cdone_any br _ _ R7.out).mono ?_
            rintro e w' ⟨rfl, rfl⟩
            go_wp2_with fail
            refine (xxdone_any bx _ _ X7.out).mono ?_
            rintro e w' ⟨rfl, rfl⟩
            go_wp2_with fail
            go_roundw
            case rel => exact ⟨k + 1, _, by omega, by go_num, R7.out, X7.out, Nat.le_trans (LE trivial) hst, F7.out⟩
            case measure => simp [intOf]; omega
          · have n0 : (ks[k] == 0) = false := by simpa using e0
            clear e0
            by_cases e1 : ks[k] = 1
            · rw [e1] at hc
              have LE := fun (_ : True) => rInt_le st
              go_wp2_with fail
              refine (int_any br st _ HR.out (by omega)).mono ?_
              rintro e w5 ⟨rfl, h5, g5⟩
              have R5 := Lib.hid h5
              have X5 := Lib.hid (HX.out.kept g5 (by simp; omega))
              have F5 := Lib.hid (below_grown HF.out g5 (by omega) (by omega))
              have z5 := g5.size
              clear h5 g5
              go_wp2_with fail
              refine (xint_any bx st _ X5.out (by omega)).mono ?_
              rintro e w7 ⟨rfl, h7, g7⟩
              have X7 := Lib.hid h7
              have R7 := Lib.hid (R5.out.kept g7 (by simp; omega))
              have F7 := Lib.hid (below_grown F5.out g7 (by omega) (by omega))
              clear h7 g7
              go_wp2_with fail
              refine (cleft_any br _ _ R7.out).mono ?_
              rintro e w' ⟨rfl, rfl⟩
              go_wp2_with fail
              refine (xxleft_any bx _ _ X7.out).mono ?_
              rintro e w' ⟨rfl, rfl⟩
              go_wp2_with fail
              refine (cdone_any br _ _ R7.out).mono ?_
              rintro e w' ⟨rfl, rfl⟩
              go_wp2_with fail
              refine (xxdone_any bx _ _ X7.out).mono ?_
              rintro e w' ⟨rfl, rfl⟩
              go_wp2_with fail
              go_roundw
              case rel => exact ⟨k + 1, _, by omega, by go_num, R7.out, X7.out, Nat.le_trans (LE trivial) hst, F7.out⟩
              case measure => simp [intOf]; omega
            · have n1 : (ks[k] == 1) = false := by simpa using e1
              clear e1
              by_cases e2 : ks[k] = 2
              · rw [e2] at hc
                have LE := fun (_ : True) => rText_le st
                go_wp2_with fail
                refine (text_any br st _ HR.out (by omega)).mono ?_
                rintro e w5 ⟨rfl, h5, g5⟩
                have R5 := Lib.hid h5
                have X5 := Lib.hid (HX.out.kept g5 (by simp; omega))
                have F5 := Lib.hid (below_grown HF.out g5 (by omega) (by omega))
                have z5 := g5.size
                clear h5 g5
                go_wp2_with fail
                refine (xtext_any bx st _ X5.out (by omega)).mono ?_
                rintro e w7 ⟨rfl, h7, g7⟩
                have X7 := Lib.hid h7
                have R7 := Lib.hid (R5.out.kept g7 (by simp; omega))
                have F7 := Lib.hid (below_grown F5.out g7 (by omega) (by omega))
                clear h7 g7
                go_wp2_with fail
                refine (cleft_any br _ _ R7.out).mono ?_
                rintro e w' ⟨rfl, rfl⟩
                go_wp2_with fail
                refine (xxleft_any bx _ _ X7.out).mono ?_
                rintro e w' ⟨rfl, rfl⟩
                go_wp2_with fail
                refine (cdone_any br _ _ R7.out).mono ?_
                rintro e w' ⟨rfl, rfl⟩
                go_wp2_with fail
                refine (xxdone_any bx _ _ X7.out).mono ?_
                rintro e w' ⟨rfl, rfl⟩
                go_wp2_with fail
                go_roundw
                case rel => exact ⟨k + 1, _, by omega, by go_num, R7.out, X7.out, Nat.le_trans (LE trivial) hst, F7.out⟩
                case measure => simp [intOf]; omega
              · have n2 : (ks[k] == 2) = false := by simpa using e2
                clear e2
                by_cases e3 : ks[k] = 3
                · rw [e3] at hc
                  have LE := fun (_ : True) => rSeq_le rText rText_le st
                  go_wp2_with fail
                  refine (list_any br st _ HR.out (by omega)).mono ?_
                  rintro e w5 ⟨v5, rfl, o5, h5, g5⟩
                  obtain ⟨A5, c5, rfl, -, -⟩ := Row.of_own o5
                  have O5 := Lib.hid o5
                  have R5 := Lib.hid h5
                  have X5 := Lib.hid (HX.out.kept g5 (by simp; omega))
                  have F5 := Lib.hid (below_grown HF.out g5 (by omega) (by omega))
                  have z5 := g5.size
                  clear o5 h5 g5
                  go_wp2_with fail
                  refine (xlist_any bx st _ X5.out (by omega)).mono ?_
                  rintro e w6 ⟨v6, rfl, o6, h6, g6⟩
                  obtain ⟨A6, c6, rfl, -, row6⟩ := Row.of_own o6
                  obtain ⟨A5', c5', e5, -, row5⟩ := Row.of_own (own_keep O5.out (by omega) g6)
                  obtain ⟨rfl, rfl⟩ : A5 = A5' ∧ c5 = c5' := by
                    simp only [Value.slice.injEq] at e5
                    exact ⟨e5.1, e5.2.2⟩
                  have X6 := Lib.hid h6
                  have R6 := Lib.hid (R5.out.kept g6 (by simp; omega))
                  have F6 := Lib.hid (below_grown F5.out g6 (by omega) (by omega))
                  have z6 := g6.size
                  have hll := rSeq_len rText st
                  have S6 := Lib.hid (samet_refl A5 A6 c5 c6 _ _ (rSeq rText st).1 w6 row5 row6 (by omega))
                  clear o6 h6 g6 row5 row6 e5 hll
                  go_wp2_with fail
                  refine (S6.out).mono ?_
                  rintro e w7 ⟨rfl, b7⟩
                  have X7 := Lib.hid (X6.out.below b7 (by omega))
                  have R7 := Lib.hid (R6.out.below b7 (by omega))
                  have F7 := Lib.hid (F6.out.trans (b7.mono (by omega)))
                  clear b7
                  go_wp2_with fail
                  refine (cleft_any br _ _ R7.out).mono ?_
                  rintro e w' ⟨rfl, rfl⟩
                  go_wp2_with fail
                  refine (xxleft_any bx _ _ X7.out).mono ?_
                  rintro e w' ⟨rfl, rfl⟩
                  go_wp2_with fail
                  refine (cdone_any br _ _ R7.out).mono ?_
                  rintro e w' ⟨rfl, rfl⟩
                  go_wp2_with fail
                  refine (xxdone_any bx _ _ X7.out).mono ?_
                  rintro e w' ⟨rfl, rfl⟩
                  go_wp2_with fail
                  go_roundw
                  case rel => exact ⟨k + 1, _, by omega, by go_num, R7.out, X7.out, Nat.le_trans (LE trivial) hst, F7.out⟩
                  case measure => simp [intOf]; omega
                · have n3 : (ks[k] == 3) = false := by simpa using e3
                  clear e3
                  by_cases e4 : ks[k] = 4
                  · rw [e4] at hc
                    have LE := fun (_ : True) => rSeq_le rInt rInt_le st
                    go_wp2_with fail
                    refine (nums_any br st _ HR.out (by omega)).mono ?_
                    rintro e w5 ⟨v5, rfl, o5, h5, g5⟩
                    obtain ⟨A5, c5, rfl, -, -⟩ := Row.of_own o5
                    have O5 := Lib.hid o5
                    have R5 := Lib.hid h5
                    have X5 := Lib.hid (HX.out.kept g5 (by simp; omega))
                    have F5 := Lib.hid (below_grown HF.out g5 (by omega) (by omega))
                    have z5 := g5.size
                    clear o5 h5 g5
                    go_wp2_with fail
                    refine (xnums_any bx st _ X5.out (by omega)).mono ?_
                    rintro e w6 ⟨v6, rfl, o6, h6, g6⟩
                    obtain ⟨A6, c6, rfl, -, row6⟩ := Row.of_own o6
                    obtain ⟨A5', c5', e5, -, row5⟩ := Row.of_own (own_keep O5.out (by omega) g6)
                    obtain ⟨rfl, rfl⟩ : A5 = A5' ∧ c5 = c5' := by
                      simp only [Value.slice.injEq] at e5
                      exact ⟨e5.1, e5.2.2⟩
                    have X6 := Lib.hid h6
                    have R6 := Lib.hid (R5.out.kept g6 (by simp; omega))
                    have F6 := Lib.hid (below_grown F5.out g6 (by omega) (by omega))
                    have z6 := g6.size
                    have hll := rSeq_len rInt st
                    have S6 := Lib.hid (samei_refl A5 A6 c5 c6 _ _ (rSeq rInt st).1 w6 row5 row6 (by omega))
                    clear o6 h6 g6 row5 row6 e5 hll
                    go_wp2_with fail
                    refine (S6.out).mono ?_
                    rintro e w7 ⟨rfl, b7⟩
                    have X7 := Lib.hid (X6.out.below b7 (by omega))
                    have R7 := Lib.hid (R6.out.below b7 (by omega))
                    have F7 := Lib.hid (F6.out.trans (b7.mono (by omega)))
                    clear b7
                    go_wp2_with fail
                    refine (cleft_any br _ _ R7.out).mono ?_
                    rintro e w' ⟨rfl, rfl⟩
                    go_wp2_with fail
                    refine (xxleft_any bx _ _ X7.out).mono ?_
                    rintro e w' ⟨rfl, rfl⟩
                    go_wp2_with fail
                    refine (cdone_any br _ _ R7.out).mono ?_
                    rintro e w' ⟨rfl, rfl⟩
                    go_wp2_with fail
                    refine (xxdone_any bx _ _ X7.out).mono ?_
                    rintro e w' ⟨rfl, rfl⟩
                    go_wp2_with fail
                    go_roundw
                    case rel => exact ⟨k + 1, _, by omega, by go_num, R7.out, X7.out, Nat.le_trans (LE trivial) hst, F7.out⟩
                    case measure => simp [intOf]; omega
                  · have n4 : (ks[k] == 4) = false := by simpa using e4
                    clear e4
                    obtain ⟨z, hz⟩ : ∃ z, ks[k] = z := ⟨_, rfl⟩
                    rw [hz] at hc n0 n1 n2 n3 n4
                    obtain ⟨zz, hzz⟩ : ∃ zz, IntKind.i64.wrap (z - 6) = zz := ⟨_, rfl⟩
                    have LE := fun (_ : True) => rTake_le zz st
                    clear hz
                    have m0 : (0 : Int) ≤ (k : Int) := by omega
                    have m1 : (k : Int) < (ks.length : Int) := by omega
                    have hab : (a.add k).block < w.heap.size := by rw [add_block]; exact ha
                    go_wp2_with fail
                    go_region_held3 (fun w' => w'.cell? (a.add k) = some (.int .i64 z)) (go_keep) (first
                      | (go_at_call 35; refine (take_any br st zz wr.drew HR.out (by omega)).mono ?_; rintro e w5 ⟨rfl, h5, g5'⟩; have g5 := grown_of_drew g5'; have c5 : w5.cell? (a.add k) = some (.int .i64 z) := g5.cell hc (by simp; omega); have R5 := Lib.hid h5; have X5 := Lib.hid (HX.out.kept g5 (by simp; omega)); have F5 := Lib.hid (below_grown HF.out g5 (by omega) (by omega)); have z5 := g5.size; clear h5 g5 g5')
                      | (go_at_call 36; refine (xtake_any bx st zz w5 X5.out).mono ?_; rintro e w7 ⟨rfl, h7, g7⟩; have c7 : w7.cell? (a.add k) = some (.int .i64 z) := g7.cell c5 (by simp; omega); have X7 := Lib.hid h7; have R7 := Lib.hid (R5.out.kept g7 (by simp; omega)); have F7 := Lib.hid (below_grown F5.out g7 (by omega) (by omega)); clear h7 g7))
                    all_goals
                      clear hzz
                      go_wp2_with fail
                      refine (cleft_any br _ _ R7.out).mono ?_
                      rintro e w' ⟨rfl, rfl⟩
                      go_wp2_with fail
                      refine (xxleft_any bx _ _ X7.out).mono ?_
                      rintro e w' ⟨rfl, rfl⟩
                      go_wp2_with fail
                      refine (cdone_any br _ _ R7.out).mono ?_
                      rintro e w' ⟨rfl, rfl⟩
                      go_wp2_with fail
                      refine (xxdone_any bx _ _ X7.out).mono ?_
                      rintro e w' ⟨rfl, rfl⟩
                      go_wp2_with fail
                      go_roundw
                      case rel => exact ⟨k + 1, _, by omega, by go_num, R7.out, X7.out, Nat.le_trans (LE trivial) hst, F7.out⟩
                      case measure => simp [intOf]; omega
        · have i1 : decide ((k : Int) < (ks.length : Int)) = false := by simp; omega
          have i2 : decide (k < ks.length) = false := by simp; omega
          go_wp2_with fail
          go_ret
          exact ⟨rfl, HF.out⟩
    · have j3 : decide ((40 : Int) < (ks.length : Int)) = true := by simp; omega
      have j4 : decide (40 < ks.length) = true := by simp; omega
      go_wp2_with fail
      go_ret
      exact ⟨rfl, F4.out⟩
  · have j1 : decide ((10000 : Int) < (s.length : Int)) = true := by simp; omega
    have j2 : decide (10000 < s.length) = true := by simp; omega
    go_wp2_with fail
    go_ret
    exact ⟨rfl, F4.out⟩
end Go.Proofs.Ytjomkfiepmeplaa
