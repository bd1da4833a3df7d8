/-
  The token of Unpack: as a function on lists, and what the program's token does.
-/
import Derived.Test.YtmcdbjkmkbdeiaaLow
namespace Go.Proofs.Ytmcdbjkmkbdeiaa
open Go.RowKit
/-- One token of a packed string, read at the output so far. -/
def tok (n : Nat) (out : List UInt8) (st : St) : Option (List UInt8 × St) :=
  if (rNum st).1 / 2 < 1 ∨ n - out.length < (rNum st).1 / 2 then none
  else if (rNum st).1 % 2 = 0 then
    if (rTake ((rNum st).1 / 2 : Nat) (rNum st).2).1.length ≠ (rNum st).1 / 2 then none
    else some (out ++ (rTake ((rNum st).1 / 2 : Nat) (rNum st).2).1, (rTake ((rNum st).1 / 2 : Nat) (rNum st).2).2)
  else if (rNum (rNum st).2).1 < 1 ∨ out.length < (rNum (rNum st).2).1 then none
  else some (copy out (rNum (rNum st).2).1 ((rNum st).1 / 2), (rNum (rNum st).2).2)
theorem unp_tok (n : Nat) (out : List UInt8) (st : St) (h : out.length < n) : unp n out st = match tok n out st with | none => none | some (o, st') => unp n o st' := by
  rw [unp, if_pos h]
  unfold tok
  by_cases h1 : (rNum st).1 / 2 < 1 ∨ n - out.length < (rNum st).1 / 2
  · rw [if_pos h1, if_pos h1]
  · rw [if_neg h1, if_neg h1]
    by_cases h2 : (rNum st).1 % 2 = 0
    · rw [if_pos h2, if_pos h2]
      by_cases h3 : (rTake ((rNum st).1 / 2 : Nat) (rNum st).2).1.length ≠ (rNum st).1 / 2
      · rw [if_pos h3, if_pos h3]
      · rw [if_neg h3, if_neg h3]
    · rw [if_neg h2, if_neg h2]
      by_cases h3 : (rNum (rNum st).2).1 < 1 ∨ out.length < (rNum (rNum st).2).1
      · rw [if_pos h3, if_pos h3]
      · rw [if_neg h3, if_neg h3]
theorem tok_facts (n : Nat) (out : List UInt8) (st : St) (o : List UInt8) (st' : St) (h : tok n out st = some (o, st')) : out.length < o.length ∧ (out.length < n → o.length ≤ n) ∧ (rest st').length ≤ (rest st).length := by
  unfold tok at h
  by_cases h1 : (rNum st).1 / 2 < 1 ∨ n - out.length < (rNum st).1 / 2
  · rw [if_pos h1] at h; simp at h
  · rw [if_neg h1] at h
    by_cases h2 : (rNum st).1 % 2 = 0
    · rw [if_pos h2] at h
      by_cases h3 : (rTake ((rNum st).1 / 2 : Nat) (rNum st).2).1.length ≠ (rNum st).1 / 2
      · rw [if_pos h3] at h; simp at h
      · rw [if_neg h3] at h
        simp only [Option.some.injEq, Prod.mk.injEq] at h
        obtain ⟨rfl, rfl⟩ := h
        rw [List.length_append]
        exact ⟨by omega, fun _ => by omega, Nat.le_trans (rTake_le _ _) (rNum_le _)⟩
    · rw [if_neg h2] at h
      by_cases h3 : (rNum (rNum st).2).1 < 1 ∨ out.length < (rNum (rNum st).2).1
      · rw [if_pos h3] at h; simp at h
      · rw [if_neg h3] at h
        simp only [Option.some.injEq, Prod.mk.injEq] at h
        obtain ⟨rfl, rfl⟩ := h
        rw [copy_length]
        exact ⟨by omega, fun _ => by omega, Nat.le_trans (rNum_le _) (rNum_le _)⟩
theorem rTake_len (n : Int) (st : St) : (rTake n st).1.length ≤ (rest st).length := by
  cases st with
  | none => simp [rTake]
  | some l =>
    rw [rTake_eq]
    split
    · rw [List.length_take]; exact Nat.min_le_right _ _
    · simp
set_option maxRecDepth 40000 in
set_option maxHeartbeats 2000000 in
theorem token_any (B b n : Nat) (out : List UInt8) (st : St) (A : Option Addr) (c : Nat) (w : World) (hBb : B ≤ b) (hBw : B ≤ w.heap.size) (hn : n ≤ 16777216) (hlt : out.length < n)
    (hsl : (rest st).length ≤ 1000000000) (hRd : Rd w b 58 st) (hO : w.ownsRow B 5 1 (.slice A out.length c) out.length (bytes out)) :
    Calls Try.prog 17 #[.pointer (some ⟨b, 0, none⟩), .slice A out.length c, .int .i64 (n : Int)] w fun e w' =>
      (tok n out st = none → ∃ A' k' c', e = .returned (.tuple #[.slice A' k' c', .bool false])) ∧
      (∀ o st', tok n out st = some (o, st') → ∃ A' c', e = .returned (.tuple #[.slice A' o.length c', .bool true]) ∧ w'.ownsRow B 5 1 (.slice A' o.length c') o.length (bytes o) ∧ Rd w' b 58 st') ∧ Below B w w' := by
  obtain ⟨i0, hi, hz0, hz1, hz2⟩ := info_parts info5
  obtain ⟨T0, hT0⟩ : ∃ T0, T0 = tok n out st := ⟨_, rfl⟩
  obtain ⟨t, ht⟩ : ∃ t, t = (rNum st).1 := ⟨_, rfl⟩
  obtain ⟨st1, hst1⟩ : ∃ st1, st1 = (rNum st).2 := ⟨_, rfl⟩
  have htl : t < 9223372036854775808 := by rw [ht]; exact rNum_lt _
  have hsl3 : (rest st1).length ≤ 1000000000 := by rw [hst1]; exact Nat.le_trans (rNum_le st) hsl
  have C := num_any b st w hRd hsl
  rw [← ht, ← hst1] at C
  have C := Lib.hid C
  obtain ⟨k, hk⟩ : ∃ k, k = t / 2 := ⟨_, rfl⟩
  have hkI : (t : Int) / 2 = (k : Int) := by omega
  have hU := hT0
  unfold tok at hU
  rw [← ht, ← hst1, ← hk] at hU
  rw [← hT0]
  have HO := Lib.hid hO
  have HRd := Lib.hid hRd
  have HB := Lib.hid (Below.refl B w)
  clear hO hT0 hRd
  by_cases h1 : k < 1
  · have k1 : decide ((k : Int) < 1) = true := by simp; omega
    have hN : T0 = none := by rw [hU, if_pos (by omega)]
    have HN := Lib.hid hN
    clear hU hk hN ht hst1
    go_enter Try.func17, Try.ntmps17
    go_wp2_with (first
      | (go_at_call 16; refine (C.out).mono ?_; rintro e w3 ⟨rfl, h3, h4⟩; have H5 := Lib.hid (below_grown HB.out h4 hBb hBw); clear h3 h4))
    go_ret2
    exact ⟨fun _ => ⟨_, _, _, rfl⟩, fun o st' h => by rw [HN.out] at h; simp at h, H5.out⟩
  · have k1 : decide ((k : Int) < 1) = false := by simp; omega
    by_cases h2 : n - out.length < k
    · have k2 : decide ((n : Int) - (out.length : Int) < (k : Int)) = true := by simp; omega
      have hN : T0 = none := by rw [hU, if_pos (by omega)]
      have HN := Lib.hid hN
      clear hU hk hN ht hst1
      go_enter Try.func17, Try.ntmps17
      go_wp2_with (first
        | (go_at_call 16; refine (C.out).mono ?_; rintro e w3 ⟨rfl, h3, h4⟩; have H5 := Lib.hid (below_grown HB.out h4 hBb hBw); clear h3 h4))
      go_ret2
      exact ⟨fun _ => ⟨_, _, _, rfl⟩, fun o st' h => by rw [HN.out] at h; simp at h, H5.out⟩
    · have k2 : decide ((n : Int) - (out.length : Int) < (k : Int)) = false := by simp; omega
      rw [if_neg (by omega)] at hU
      by_cases he : t % 2 = 0
      · have m1 : ((t : Int) % 2 == 0) = true := by simp; omega
        have m2 : (t : Int) % 2 = 0 := by omega
        rw [if_pos he] at hU
        obtain ⟨s, hs⟩ : ∃ s, s = (rTake (k : Nat) st1).1 := ⟨_, rfl⟩
        obtain ⟨st2, hst2⟩ : ∃ st2, st2 = (rTake (k : Nat) st1).2 := ⟨_, rfl⟩
        have hsl4 : (rest st2).length ≤ 1000000000 := by rw [hst2]; exact Nat.le_trans (rTake_le _ st1) hsl3
        have hsl5 : s.length ≤ 1000000000 := by rw [hs]; exact Nat.le_trans (rTake_len _ st1) hsl3
        have T : Hid (∀ W, Rd W b 58 st1 → Calls Try.prog 33 #[.pointer (some ⟨b, 0, none⟩), .int .i64 (k : Int)] W fun e w' => e = .returned (.string (mk s)) ∧ Rd w' b 58 st2 ∧ W.grownBy w' (some b)) := Lib.hid (fun W h => by rw [hs, hst2]; exact take_any b st1 k W h hsl3)
        rw [← hs, ← hst2] at hU
        by_cases h3 : s.length = k
        · have q1 : (((mk s).size : Int) == (k : Int)) = true := by rw [size_mk]; simp; omega
          rw [if_neg (by omega)] at hU
          have HU2 := Lib.hid hU
          have KK := Lib.hid h3
          clear hU hk ht hst1 hs hst2 h3
          go_enter Try.func17, Try.ntmps17
          go_wp2_with (first
            | (go_at_call 16; refine (C.out).mono ?_; rintro e w3 ⟨rfl, h3, h4⟩; have O5 := Lib.hid (HO.out.kept h4 (.inr (Ne.symm (Is.row_apart HO.out HRd.out (by decide))))); have H5 := Lib.hid (below_grown HB.out h4 hBb hBw); have R5 := Lib.hid h3; clear h3 h4)
            | (go_at_call 33; refine (T.out _ R5.out).mono ?_; rintro e w5 ⟨rfl, h3, h4⟩; have O6 := Lib.hid (O5.out.kept h4 (.inr (Ne.symm (Is.row_apart O5.out R5.out (by decide))))); have H6 := Lib.hid (below_grown H5.out h4 hBb (Nat.le_trans hBw H5.out.size)); have R6 := Lib.hid h3; clear h3 h4)
            | (at_builtin; refine Lib.wpList_append_own_string _ rfl (.tmp 32) (.tmp 33) 37 9 rfl B 5 i0 Try.underlying37 Try.underlying9 hi hz0 hz1 hz2 (.slice A out.length c) out.length (bytes out) rfl O6.out (mk s) rfl ?c3 ?c4 ?c5 ?_))
          case c3 => simp only [maxLen, size_mk]; omega
          case c4 => simp only [size_mk]; omega
          case c5 => exact Nat.le_trans hBw H6.out.size
          intro v4 w4 hown4 hgr4 _
          obtain ⟨A4, c4, rfl⟩ := own_slice hown4
          have R7 := Lib.hid (Is.kept R6.out hgr4 (Is.row_apart O6.out R6.out (by decide)))
          have B7 := Lib.hid (H6.out.grown hgr4 (Nat.le_trans hBw H6.out.size) (fun j hj => (O6.out.lt j hj).1))
          rw [size_mk] at hown4
          have O7 := Lib.hid (own_cast hown4 (n' := (out ++ s).length) (xs' := bytes (out ++ s)) (by rw [List.length_append]) (by rw [strCells_bytes]; simp [bytes]))
          clear hown4 hgr4
          go_wp2
          go_ret2
          refine ⟨fun h => by rw [HU2.out] at h; simp at h, fun o st' h => ?_, B7.out⟩
          rw [HU2.out] at h
          simp only [Option.some.injEq, Prod.mk.injEq] at h
          obtain ⟨rfl, rfl⟩ := h
          have HV := O7.out
          rw [List.length_append] at HV ⊢
          exact ⟨A4, c4, by simp [size_mk], HV, R7.out⟩
        · have q1 : (((mk s).size : Int) == (k : Int)) = false := by rw [size_mk]; simp; omega
          have hN : T0 = none := by rw [hU, if_pos (by omega)]
          have HN := Lib.hid hN
          have KK := Lib.hid h3
          clear hU hk hN ht hst1 hs hst2 h3
          go_enter Try.func17, Try.ntmps17
          go_wp2_with (first
            | (go_at_call 16; refine (C.out).mono ?_; rintro e w3 ⟨rfl, h3, h4⟩; have O5 := Lib.hid (HO.out.kept h4 (.inr (Ne.symm (Is.row_apart HO.out HRd.out (by decide))))); have H5 := Lib.hid (below_grown HB.out h4 hBb hBw); have R5 := Lib.hid h3; clear h3 h4)
            | (go_at_call 33; refine (T.out _ R5.out).mono ?_; rintro e w5 ⟨rfl, h3, h4⟩; have O6 := Lib.hid (O5.out.kept h4 (.inr (Ne.symm (Is.row_apart O5.out R5.out (by decide))))); have H6 := Lib.hid (below_grown H5.out h4 hBb (Nat.le_trans hBw H5.out.size)); have R6 := Lib.hid h3; clear h3 h4)
            | (at_builtin; refine Lib.wpList_append_own_string _ rfl (.tmp 32) (.tmp 33) 37 9 rfl B 5 i0 Try.underlying37 Try.underlying9 hi hz0 hz1 hz2 (.slice A out.length c) out.length (bytes out) rfl O6.out (mk s) rfl ?c3 ?c4 ?c5 ?_))
          case c3 => simp only [maxLen, size_mk]; omega
          case c4 => simp only [size_mk]; omega
          case c5 => exact Nat.le_trans hBw H6.out.size
          intro v4 w4 hown4 hgr4 _
          obtain ⟨A4, c4, rfl⟩ := own_slice hown4
          have B7 := Lib.hid (H6.out.grown hgr4 (Nat.le_trans hBw H6.out.size) (fun j hj => (O6.out.lt j hj).1))
          clear hown4 hgr4
          go_wp2
          go_ret2
          exact ⟨fun _ => ⟨_, _, _, rfl⟩, fun o st' h => by rw [HN.out] at h; simp at h, B7.out⟩
      · have m1 : ((t : Int) % 2 == 0) = false := by simp; omega
        have m2 : ¬ (t : Int) % 2 = 0 := by omega
        rw [if_neg he] at hU
        obtain ⟨d, hd⟩ : ∃ d, d = (rNum st1).1 := ⟨_, rfl⟩
        obtain ⟨st2, hst2⟩ : ∃ st2, st2 = (rNum st1).2 := ⟨_, rfl⟩
        have hdl : d < 9223372036854775808 := by rw [hd]; exact rNum_lt _
        have T : Hid (∀ W, Rd W b 58 st1 → Calls Try.prog 16 #[.pointer (some ⟨b, 0, none⟩)] W fun e w' => e = .returned (.int .i64 (d : Nat)) ∧ Rd w' b 58 st2 ∧ W.grownBy w' (some b)) := Lib.hid (fun W h => by rw [hd, hst2]; exact num_any b st1 W h hsl3)
        rw [← hd, ← hst2] at hU
        by_cases h3 : d < 1
        · have d1 : decide ((d : Int) < 1) = true := by simp; omega
          have hN : T0 = none := by rw [hU, if_pos (by omega)]
          have HN := Lib.hid hN
          clear hU hk hN ht hst1 hd hst2
          go_enter Try.func17, Try.ntmps17
          go_wp2_with (first
            | (go_at_call 16; have H5' := H5; refine (T.out _ R5.out).mono ?_; rintro e w5 ⟨rfl, h3, h4⟩; have H6 := Lib.hid (below_grown H5.out h4 hBb (Nat.le_trans hBw H5.out.size)); clear h3 h4)
            | (go_at_call 16; refine (C.out).mono ?_; rintro e w3 ⟨rfl, h3, h4⟩; have H5 := Lib.hid (below_grown HB.out h4 hBb hBw); have R5 := Lib.hid h3; clear h3 h4))
          go_ret2
          exact ⟨fun _ => ⟨_, _, _, rfl⟩, fun o st' h => by rw [HN.out] at h; simp at h, H6.out⟩
        · have d1 : decide ((d : Int) < 1) = false := by simp; omega
          by_cases h4 : out.length < d
          · have d2 : decide ((out.length : Int) < (d : Int)) = true := by simp; omega
            have hN : T0 = none := by rw [hU, if_pos (by omega)]
            have HN := Lib.hid hN
            clear hU hk hN ht hst1 hd hst2
            go_enter Try.func17, Try.ntmps17
            go_wp2_with (first
              | (go_at_call 16; have H5' := H5; refine (T.out _ R5.out).mono ?_; rintro e w5 ⟨rfl, h3, h4⟩; have H6 := Lib.hid (below_grown H5.out h4 hBb (Nat.le_trans hBw H5.out.size)); clear h3 h4)
              | (go_at_call 16; refine (C.out).mono ?_; rintro e w3 ⟨rfl, h3, h4⟩; have H5 := Lib.hid (below_grown HB.out h4 hBb hBw); have R5 := Lib.hid h3; clear h3 h4))
            go_ret2
            exact ⟨fun _ => ⟨_, _, _, rfl⟩, fun o st' h => by rw [HN.out] at h; simp at h, H6.out⟩
          · have d2 : decide ((out.length : Int) < (d : Int)) = false := by simp; omega
            rw [if_neg (by omega)] at hU
            have HU2 := Lib.hid hU
            clear hU hk ht hst1 hd hst2
            obtain ⟨g0, cap0, hv0, -⟩ := HO.out.form (by omega)
            obtain ⟨rfl, rfl⟩ : A = some ⟨g0, 0, none⟩ ∧ c = cap0 := by simpa using hv0
            clear hv0
            go_enter Try.func17, Try.ntmps17
            go_wp2_with (first
              | (go_at_call 16; have H5' := H5; refine (T.out _ R5.out).mono ?_; rintro e w5 ⟨rfl, h3, h4⟩; have O6 := Lib.hid (O5.out.kept h4 (.inr (Ne.symm (Is.row_apart O5.out R5.out (by decide))))); have H6 := Lib.hid (below_grown H5.out h4 hBb (Nat.le_trans hBw H5.out.size)); have R6 := Lib.hid h3; clear h3 h4)
              | (go_at_call 16; refine (C.out).mono ?_; rintro e w3 ⟨rfl, h3, h4⟩; have O5 := Lib.hid (HO.out.kept h4 (.inr (Ne.symm (Is.row_apart HO.out HRd.out (by decide))))); have H5 := Lib.hid (below_grown HB.out h4 hBb hBw); have R5 := Lib.hid h3; clear h3 h4))
            clear O5 H5 R5
            go_loopw [1, 50] (fun v jj wi => ∃ (j g cap : Nat), j ≤ k ∧ jj = .int .i64 j ∧ v = .slice (some ⟨g, 0, none⟩) (out.length + j) cap ∧ Hid (wi.ownsRow B 5 1 v (out.length + j) (bytes (copy out d j))) ∧ Hid (Rd wi b 58 st2) ∧ Hid (Below B w wi)) (fun _ jj _ => k - (intOf jj).toNat)
            case atStart => exact ⟨0, g0, c, by omega, rfl, rfl, O6, R6, H6⟩
            case round =>
              clear O6 H6 R6 HO
              obtain ⟨j, g, cap, hj, rfl, rfl, O6, R6, H6⟩ := hrel
              by_cases hlj : j < k
              · have p1 : decide ((j : Int) < (k : Int)) = true := by simp; omega
                have hcl : (copy out d j).length = out.length + j := copy_length out d j
                obtain ⟨x, hx⟩ : ∃ x, x = (copy out d j).getD ((copy out d j).length - d) 0 := ⟨_, rfl⟩
                have hidx : out.length + j - d < (copy out d j).length := by omega
                have hxa : (copy out d j)[out.length + j - d]'hidx = x := by
                  rw [hx, hcl, List.getD_eq_getElem?_getD, List.getElem?_eq_getElem hidx]; rfl
                have cc : wr.cell? ⟨g, out.length + j - d, none⟩ = some (.int .u8 (x.toNat : Int)) := by
                  have := O6.out.cells (g := g) rfl (out.length + j - d) (.int .u8 (x.toNat : Int)) (by unfold bytes; rw [List.getElem?_map, List.getElem?_eq_getElem hidx, hxa]; rfl)
                  rw [addr_add] at this
                  exact this
                have hcs : copy out d (j + 1) = copy out d j ++ [x] := by simp only [copy]; rw [← hx]
                have CS := Lib.hid hcs
                have HBn := Lib.hid (O6.out.alloc (.cells #[.int .u8 (x.toNat : Int)] 5))
                have HN := Lib.hid (new_one wr (.int .u8 (x.toNat : Int)) 5)
                have hbs : B ≤ (wr.alloc (.cells #[.int .u8 (x.toNat : Int)] 5)).heap.size := by have := H6.out.size; simp; omega
                have HBS := Lib.hid hbs
                have HBS2 := Lib.hid (Nat.le_trans hBw H6.out.size)
                clear hcl hx hidx hxa hcs hbs
                go_wp2_with (at_builtin; refine wpList_append_own _ rfl (.tmp 52) (.tmp 60) 37 rfl B 5 i0 (.int .u8 0) 1 1 Try.underlying37 hi hz0 hz1 hz2 rfl (by decide) (.slice (some ⟨g, 0, none⟩) (out.length + j) cap) (out.length + j) (bytes (copy out d j)) rfl HBn.out ⟨wr.heap.size, 0, none⟩ 1 1 [.int .u8 (x.toNat : Int)] rfl rfl HN.out ?c1 ?c3 ?c4 ?c5 ?_)
                case c1 => intro u hu; simp at hu; subst hu; rfl
                case c3 => simp only [maxLen]; omega
                case c4 => omega
                case c5 => exact HBS.out
                intro v4 w4 hown4 hgr4 _
                obtain ⟨g4, cap4, rfl, -⟩ := hown4.form (by omega)
                have R7 := Lib.hid (Is.kept (R6.out.alloc _) hgr4 (Is.row_apart O6.out R6.out (by decide)))
                have B7 := Lib.hid ((H6.out.alloc HBS2.out _).grown hgr4 HBS.out (fun j hj => (O6.out.lt j hj).1))
                have O7 := Lib.hid hown4
                clear hown4 hgr4 HBn HN
                go_wp2
                go_roundw
                case rel => exact ⟨j + 1, g4, cap4, by omega, by go_num, rfl, Lib.hid (own_cast O7.out rfl (by rw [CS.out]; simp [bytes])), R7, B7⟩
                case measure => simp [intOf]; omega
              · have hjk : j = k := by omega
                subst hjk
                have p1 : decide ((j : Int) < (j : Int)) = false := by simp
                go_wp2
                go_ret2
                refine ⟨fun h => by rw [HU2.out] at h; simp at h, fun o st' h => ?_, H6.out⟩
                rw [HU2.out] at h
                simp only [Option.some.injEq, Prod.mk.injEq] at h
                obtain ⟨rfl, rfl⟩ := h
                rw [copy_length]
                exact ⟨_, _, by simp, O6.out, R6.out⟩
end Go.Proofs.Ytmcdbjkmkbdeiaa
