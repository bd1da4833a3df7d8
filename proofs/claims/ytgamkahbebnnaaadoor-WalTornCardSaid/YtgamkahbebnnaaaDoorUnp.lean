import Derived.Test.YtgamkahbebnnaaaDoorUse
import Derived.Test.YtgamkahbebnnaaaDoorPack
/-
  Small facts that the texts of this stage share: parts of strings, a slice that the call made, the two results of Unpack.
-/
namespace Go.Proofs.YtgamkahbebnnaaaDoor
open Go.RowKit
theorem at_s (s : ByteArray) (k : Nat) (h : k < s.size) : (ls s)[k]? = some s[k] := List.getElem?_eq_getElem (show k < (ls s).length from h)
theorem empty_iff (s : ByteArray) : s.toList.isEmpty = decide (ls s = []) := by
  have : s.toList = ls s := by rw [ByteArray.toList_eq]; rfl
  rw [this]; cases ls s <;> simp
theorem extract_mid (s : ByteArray) (f i : Nat) : ls (s.extract f i) = ((ls s).take i).drop f := by
  show (s.extract f i).data.toList = _
  rw [ByteArray.data_extract, Array.toList_extract, List.extract_eq_take_drop, List.drop_take]
  rfl
theorem extract_end (s : ByteArray) (f : Nat) : ls (s.extract f s.size) = (ls s).drop f := by
  rw [extract_drop]; rfl
theorem size_extract (s : ByteArray) (f i : Nat) (h : i ≤ s.size) : (s.extract f i).size = i - f := by
  rw [ByteArray.size_extract]; omega
theorem mk_append (a b : List UInt8) : mk a ++ mk b = mk (a ++ b) := by
  apply ls_inj
  show (mk a ++ mk b).data.toList = a ++ b
  rw [ByteArray.data_append, Array.toList_append]; rfl
theorem retN {R : Option (List UInt8)} (h : R = none) : Ending.returned (.tuple #[.string ⟨#[]⟩, .bool false]) = Ending.returned (.tuple #[.string (mk (R.getD [])), .bool R.isSome]) := by subst h; rfl
theorem retS {R : Option (List UInt8)} {l : List UInt8} (h : R = some l) : Ending.returned (.tuple #[.string (mk l), .bool true]) = Ending.returned (.tuple #[.string (mk (R.getD [])), .bool R.isSome]) := by subst h; rfl
theorem done_same (st : St) : doneB st = doneE st := by cases st <;> rfl
theorem own_slice {w : World} {base n : Nat} {e : TypeId} {v : Value} {xs : List Value} (h : w.ownsRow base e 1 v n xs) : ∃ A c, v = .slice A n c := by
  rcases h.2 with ⟨rfl, rfl⟩ | ⟨g, cap, cur, rfl, -, -, -⟩
  · exact ⟨none, 0, rfl⟩
  · exact ⟨_, cap, rfl⟩
theorem strCells_bytes (s : List UInt8) : Lib.strCells (mk s) = bytes s := by unfold bytes Lib.strCells mk; simp
theorem addr_add (g n : Nat) : (⟨g, 0, none⟩ : Addr).add n = ⟨g, n, none⟩ := by
  unfold Addr.add; simp; omega
def lenV : Value → Nat
  | .slice _ n _ => n
  | _ => 0
end Go.Proofs.YtgamkahbebnnaaaDoor
/-
  The token of Unpack: as a function on lists, and what the program's token does.
-/
namespace Go.Proofs.YtgamkahbebnnaaaDoor
open Go.RowKit
/-- One token of a packed string, read at the output so far. -/
def tok (n : Nat) (out : List UInt8) (st : St) : Option (List UInt8 × St) :=
  if (rNum st).1 / 2 < 1 ∨ n - out.length < (rNum st).1 / 2 then none
  else if (rNum st).1 % 2 = 0 then
    if (rTake ((rNum st).1 / 2 : Nat) (rNum st).2).1.length ≠ (rNum st).1 / 2 then none
    else some (out ++ (rTake ((rNum st).1 / 2 : Nat) (rNum st).2).1, (rTake ((rNum st).1 / 2 : Nat) (rNum st).2).2)
  else if (rNum (rNum st).2).1 < 1 ∨ out.length < (rNum (rNum st).2).1 then none
  else some (copy out (rNum (rNum st).2).1 ((rNum st).1 / 2), (rNum (rNum st).2).2)
theorem unp_tok (n : Nat) (out : List UInt8) (st : St) (h : out.length < n) : unp n out st = match tok n out st with | none => none | some (o, st') => unp n o st' := by
  rw [unp, if_pos h]
  unfold tok
  by_cases h1 : (rNum st).1 / 2 < 1 ∨ n - out.length < (rNum st).1 / 2
  · rw [if_pos h1, if_pos h1]
  · rw [if_neg h1, if_neg h1]
    by_cases h2 : (rNum st).1 % 2 = 0
    · rw [if_pos h2, if_pos h2]
      by_cases h3 : (rTake ((rNum st).1 / 2 : Nat) (rNum st).2).1.length ≠ (rNum st).1 / 2
      · rw [if_pos h3, if_pos h3]
      · rw [if_neg h3, if_neg h3]
    · rw [if_neg h2, if_neg h2]
      by_cases h3 : (rNum (rNum st).2).1 < 1 ∨ out.length < (rNum (rNum st).2).1
      · rw [if_pos h3, if_pos h3]
      · rw [if_neg h3, if_neg h3]
theorem tok_facts (n : Nat) (out : List UInt8) (st : St) (o : List UInt8) (st' : St) (h : tok n out st = some (o, st')) : out.length < o.length ∧ (out.length < n → o.length ≤ n) ∧ (rest st').length ≤ (rest st).length := by
  unfold tok at h
  by_cases h1 : (rNum st).1 / 2 < 1 ∨ n - out.length < (rNum st).1 / 2
  · rw [if_pos h1] at h; simp at h
  · rw [if_neg h1] at h
    by_cases h2 : (rNum st).1 % 2 = 0
    · rw [if_pos h2] at h
      by_cases h3 : (rTake ((rNum st).1 / 2 : Nat) (rNum st).2).1.length ≠ (rNum st).1 / 2
      · rw [if_pos h3] at h; simp at h
      · rw [if_neg h3] at h
        simp only [Option.some.injEq, Prod.mk.injEq] at h
        obtain ⟨rfl, rfl⟩ := h
        rw [List.length_append]
        exact ⟨by omega, fun _ => by omega, Nat.le_trans (rTake_le _ _) (rNum_le _)⟩
    · rw [if_neg h2] at h
      by_cases h3 : (rNum (rNum st).2).1 < 1 ∨ out.length < (rNum (rNum st).2).1
      · rw [if_pos h3] at h; simp at h
      · rw [if_neg h3] at h
        simp only [Option.some.injEq, Prod.mk.injEq] at h
        obtain ⟨rfl, rfl⟩ := h
        rw [copy_length]
        exact ⟨by omega, fun _ => by omega, Nat.le_trans (rNum_le _) (rNum_le _)⟩
theorem rTake_len (n : Int) (st : St) : (rTake n st).1.length ≤ (rest st).length := by
  cases st with
  | none => simp [rTake]
  | some l =>
    rw [rTake_eq]
    split
    · rw [List.length_take]; exact Nat.min_le_right _ _
    · simp
set_option maxRecDepth 40000 in
set_option maxHeartbeats 2000000 in
theorem token_any (B b n : Nat) (out : List UInt8) (st : St) (A : Option Addr) (c : Nat) (w : World) (hBb : B ≤ b) (hBw : B ≤ w.heap.size) (hn : n ≤ 16777216) (hlt : out.length < n)
    (hsl : (rest st).length ≤ 1000000000) (hRd : Rd w b 106 st) (hO : w.ownsRow B 5 1 (.slice A out.length c) out.length (bytes out)) :
    Calls Tryd.prog 67 #[.pointer (some ⟨b, 0, none⟩), .slice A out.length c, .int .i64 (n : Int)] w fun e w' =>
      (tok n out st = none → ∃ A' k' c', e = .returned (.tuple #[.slice A' k' c', .bool false])) ∧
      (∀ o st', tok n out st = some (o, st') → ∃ A' c', e = .returned (.tuple #[.slice A' o.length c', .bool true]) ∧ w'.ownsRow B 5 1 (.slice A' o.length c') o.length (bytes o) ∧ Rd w' b 106 st') ∧ Below B w w' := by
  obtain ⟨i0, hi, hz0, hz1, hz2⟩ := info_parts info5
  obtain ⟨T0, hT0⟩ : ∃ T0, T0 = tok n out st := ⟨_, rfl⟩
  obtain ⟨t, ht⟩ : ∃ t, t = (rNum st).1 := ⟨_, rfl⟩
  obtain ⟨st1, hst1⟩ : ∃ st1, st1 = (rNum st).2 := ⟨_, rfl⟩
  have htl : t < 9223372036854775808 := by rw [ht]; exact rNum_lt _
  have hsl3 : (rest st1).length ≤ 1000000000 := by rw [hst1]; exact Nat.le_trans (rNum_le st) hsl
  have C := num_any b st w hRd hsl
  rw [← ht, ← hst1] at C
  have C := Lib.hid C
  obtain ⟨k, hk⟩ : ∃ k, k = t / 2 := ⟨_, rfl⟩
  have hkI : (t : Int) / 2 = (k : Int) := by omega
  have hU := hT0
  unfold tok at hU
  rw [← ht, ← hst1, ← hk] at hU
  rw [← hT0]
  have HO := Lib.hid hO
  have HRd := Lib.hid hRd
  have HB := Lib.hid (Below.refl B w)
  clear hO hT0 hRd
  by_cases h1 : k < 1
  · have k1 : decide ((k : Int) < 1) = true := by simp; omega
    have hN : T0 = none := by rw [hU, if_pos (by omega)]
    have HN := Lib.hid hN
    clear hU hk hN ht hst1
    go_enter Tryd.func67, Tryd.ntmps67
    go_wp2_with (first
      | (go_at_call 54; refine (C.out).mono ?_; rintro e w3 ⟨rfl, h3, h4⟩; have H5 := Lib.hid (below_grown HB.out h4 hBb hBw); clear h3 h4))
    go_ret2
    exact ⟨fun _ => ⟨_, _, _, rfl⟩, fun o st' h => by rw [HN.out] at h; simp at h, H5.out⟩
  · have k1 : decide ((k : Int) < 1) = false := by simp; omega
    by_cases h2 : n - out.length < k
    · have k2 : decide ((n : Int) - (out.length : Int) < (k : Int)) = true := by simp; omega
      have hN : T0 = none := by rw [hU, if_pos (by omega)]
      have HN := Lib.hid hN
      clear hU hk hN ht hst1
      go_enter Tryd.func67, Tryd.ntmps67
      go_wp2_with (first
        | (go_at_call 54; refine (C.out).mono ?_; rintro e w3 ⟨rfl, h3, h4⟩; have H5 := Lib.hid (below_grown HB.out h4 hBb hBw); clear h3 h4))
      go_ret2
      exact ⟨fun _ => ⟨_, _, _, rfl⟩, fun o st' h => by rw [HN.out] at h; simp at h, H5.out⟩
    · have k2 : decide ((n : Int) - (out.length : Int) < (k : Int)) = false := by simp; omega
      rw [if_neg (by omega)] at hU
      by_cases he : t % 2 = 0
      · have m1 : ((t : Int) % 2 == 0) = true := by simp; omega
        have m2 : (t : Int) % 2 = 0 := by omega
        rw [if_pos he] at hU
        obtain ⟨s, hs⟩ : ∃ s, s = (rTake (k : Nat) st1).1 := ⟨_, rfl⟩
        obtain ⟨st2, hst2⟩ : ∃ st2, st2 = (rTake (k : Nat) st1).2 := ⟨_, rfl⟩
        have hsl4 : (rest st2).length ≤ 1000000000 := by rw [hst2]; exact Nat.le_trans (rTake_le _ st1) hsl3
        have hsl5 : s.length ≤ 1000000000 := by rw [hs]; exact Nat.le_trans (rTake_len _ st1) hsl3
        have T : Hid (∀ W, Rd W b 106 st1 → Calls Tryd.prog 55 #[.pointer (some ⟨b, 0, none⟩), .int .i64 (k : Int)] W fun e w' => e = .returned (.string (mk s)) ∧ Rd w' b 106 st2 ∧ W.grownBy w' (some b)) := Lib.hid (fun W h => by rw [hs, hst2]; exact take_any b st1 k W h hsl3)
        rw [← hs, ← hst2] at hU
        by_cases h3 : s.length = k
        · have q1 : (((mk s).size : Int) == (k : Int)) = true := by rw [size_mk]; simp; omega
          rw [if_neg (by omega)] at hU
          have HU2 := Lib.hid hU
          have KK := Lib.hid h3
          clear hU hk ht hst1 hs hst2 h3
          go_enter Tryd.func67, Tryd.ntmps67
          go_wp2_with (first
            | (go_at_call 54; refine (C.out).mono ?_; rintro e w3 ⟨rfl, h3, h4⟩; have O5 := Lib.hid (HO.out.kept h4 (.inr (Ne.symm (Is.row_apart HO.out HRd.out (by decide))))); have H5 := Lib.hid (below_grown HB.out h4 hBb hBw); have R5 := Lib.hid h3; clear h3 h4)
            | (go_at_call 55; refine (T.out _ R5.out).mono ?_; rintro e w5 ⟨rfl, h3, h4⟩; have O6 := Lib.hid (O5.out.kept h4 (.inr (Ne.symm (Is.row_apart O5.out R5.out (by decide))))); have H6 := Lib.hid (below_grown H5.out h4 hBb (Nat.le_trans hBw H5.out.size)); have R6 := Lib.hid h3; clear h3 h4)
            | (at_builtin; refine Lib.wpList_append_own_string _ rfl (.tmp 32) (.tmp 33) 57 9 rfl B 5 i0 Tryd.underlying57 Tryd.underlying9 hi hz0 hz1 hz2 (.slice A out.length c) out.length (bytes out) rfl O6.out (mk s) rfl ?c3 ?c4 ?c5 ?_))
          case c3 => simp only [maxLen, size_mk]; omega
          case c4 => simp only [size_mk]; omega
          case c5 => exact Nat.le_trans hBw H6.out.size
          intro v4 w4 hown4 hgr4 _
          obtain ⟨A4, c4, rfl⟩ := own_slice hown4
          have R7 := Lib.hid (Is.kept R6.out hgr4 (Is.row_apart O6.out R6.out (by decide)))
          have B7 := Lib.hid (H6.out.grown hgr4 (Nat.le_trans hBw H6.out.size) (fun j hj => (O6.out.lt j hj).1))
          rw [size_mk] at hown4
          have O7 := Lib.hid (own_cast hown4 (n' := (out ++ s).length) (xs' := bytes (out ++ s)) (by rw [List.length_append]) (by rw [strCells_bytes]; simp [bytes]))
          clear hown4 hgr4
          go_wp2
          go_ret2
          refine ⟨fun h => by rw [HU2.out] at h; simp at h, fun o st' h => ?_, B7.out⟩
          rw [HU2.out] at h
          simp only [Option.some.injEq, Prod.mk.injEq] at h
          obtain ⟨rfl, rfl⟩ := h
          have HV := O7.out
          rw [List.length_append] at HV ⊢
          exact ⟨A4, c4, by simp [size_mk], HV, R7.out⟩
        · have q1 : (((mk s).size : Int) == (k : Int)) = false := by rw [size_mk]; simp; omega
          have hN : T0 = none := by rw [hU, if_pos (by omega)]
          have HN := Lib.hid hN
          have KK := Lib.hid h3
          clear hU hk hN ht hst1 hs hst2 h3
          go_enter Tryd.func67, Tryd.ntmps67
          go_wp2_with (first
            | (go_at_call 54; refine (C.out).mono ?_; rintro e w3 ⟨rfl, h3, h4⟩; have O5 := Lib.hid (HO.out.kept h4 (.inr (Ne.symm (Is.row_apart HO.out HRd.out (by decide))))); have H5 := Lib.hid (below_grown HB.out h4 hBb hBw); have R5 := Lib.hid h3; clear h3 h4)
            | (go_at_call 55; refine (T.out _ R5.out).mono ?_; rintro e w5 ⟨rfl, h3, h4⟩; have O6 := Lib.hid (O5.out.kept h4 (.inr (Ne.symm (Is.row_apart O5.out R5.out (by decide))))); have H6 := Lib.hid (below_grown H5.out h4 hBb (Nat.le_trans hBw H5.out.size)); have R6 := Lib.hid h3; clear h3 h4)
            | (at_builtin; refine Lib.wpList_append_own_string _ rfl (.tmp 32) (.tmp 33) 57 9 rfl B 5 i0 Tryd.underlying57 Tryd.underlying9 hi hz0 hz1 hz2 (.slice A out.length c) out.length (bytes out) rfl O6.out (mk s) rfl ?c3 ?c4 ?c5 ?_))
          case c3 => simp only [maxLen, size_mk]; omega
          case c4 => simp only [size_mk]; omega
          case c5 => exact Nat.le_trans hBw H6.out.size
          intro v4 w4 hown4 hgr4 _
          obtain ⟨A4, c4, rfl⟩ := own_slice hown4
          have B7 := Lib.hid (H6.out.grown hgr4 (Nat.le_trans hBw H6.out.size) (fun j hj => (O6.out.lt j hj).1))
          clear hown4 hgr4
          go_wp2
          go_ret2
          exact ⟨fun _ => ⟨_, _, _, rfl⟩, fun o st' h => by rw [HN.out] at h; simp at h, B7.out⟩
      · have m1 : ((t : Int) % 2 == 0) = false := by simp; omega
        have m2 : ¬ (t : Int) % 2 = 0 := by omega
        rw [if_neg he] at hU
        obtain ⟨d, hd⟩ : ∃ d, d = (rNum st1).1 := ⟨_, rfl⟩
        obtain ⟨st2, hst2⟩ : ∃ st2, st2 = (rNum st1).2 := ⟨_, rfl⟩
        have hdl : d < 9223372036854775808 := by rw [hd]; exact rNum_lt _
        have T : Hid (∀ W, Rd W b 106 st1 → Calls Tryd.prog 54 #[.pointer (some ⟨b, 0, none⟩)] W fun e w' => e = .returned (.int .i64 (d : Nat)) ∧ Rd w' b 106 st2 ∧ W.grownBy w' (some b)) := Lib.hid (fun W h => by rw [hd, hst2]; exact num_any b st1 W h hsl3)
        rw [← hd, ← hst2] at hU
        by_cases h3 : d < 1
        · have d1 : decide ((d : Int) < 1) = true := by simp; omega
          have hN : T0 = none := by rw [hU, if_pos (by omega)]
          have HN := Lib.hid hN
          clear hU hk hN ht hst1 hd hst2
          go_enter Tryd.func67, Tryd.ntmps67
          go_wp2_with (first
            | (go_at_call 54; have H5' := H5; refine (T.out _ R5.out).mono ?_; rintro e w5 ⟨rfl, h3, h4⟩; have H6 := Lib.hid (below_grown H5.out h4 hBb (Nat.le_trans hBw H5.out.size)); clear h3 h4)
            | (go_at_call 54; refine (C.out).mono ?_; rintro e w3 ⟨rfl, h3, h4⟩; have H5 := Lib.hid (below_grown HB.out h4 hBb hBw); have R5 := Lib.hid h3; clear h3 h4))
          go_ret2
          exact ⟨fun _ => ⟨_, _, _, rfl⟩, fun o st' h => by rw [HN.out] at h; simp at h, H6.out⟩
        · have d1 : decide ((d : Int) < 1) = false := by simp; omega
          by_cases h4 : out.length < d
          · have d2 : decide ((out.length : Int) < (d : Int)) = true := by simp; omega
            have hN : T0 = none := by rw [hU, if_pos (by omega)]
            have HN := Lib.hid hN
            clear hU hk hN ht hst1 hd hst2
            go_enter Tryd.func67, Tryd.ntmps67
            go_wp2_with (first
              | (go_at_call 54; have H5' := H5; refine (T.out _ R5.out).mono ?_; rintro e w5 ⟨rfl, h3, h4⟩; have H6 := Lib.hid (below_grown H5.out h4 hBb (Nat.le_trans hBw H5.out.size)); clear h3 h4)
              | (go_at_call 54; refine (C.out).mono ?_; rintro e w3 ⟨rfl, h3, h4⟩; have H5 := Lib.hid (below_grown HB.out h4 hBb hBw); have R5 := Lib.hid h3; clear h3 h4))
            go_ret2
            exact ⟨fun _ => ⟨_, _, _, rfl⟩, fun o st' h => by rw [HN.out] at h; simp at h, H6.out⟩
          · have d2 : decide ((out.length : Int) < (d : Int)) = false := by simp; omega
            rw [if_neg (by omega)] at hU
            have HU2 := Lib.hid hU
            clear hU hk ht hst1 hd hst2
            obtain ⟨g0, cap0, hv0, -⟩ := HO.out.form (by omega)
            obtain ⟨rfl, rfl⟩ : A = some ⟨g0, 0, none⟩ ∧ c = cap0 := by simpa using hv0
            clear hv0
            go_enter Tryd.func67, Tryd.ntmps67
            go_wp2_with (first
              | (go_at_call 54; have H5' := H5; refine (T.out _ R5.out).mono ?_; rintro e w5 ⟨rfl, h3, h4⟩; have O6 := Lib.hid (O5.out.kept h4 (.inr (Ne.symm (Is.row_apart O5.out R5.out (by decide))))); have H6 := Lib.hid (below_grown H5.out h4 hBb (Nat.le_trans hBw H5.out.size)); have R6 := Lib.hid h3; clear h3 h4)
              | (go_at_call 54; refine (C.out).mono ?_; rintro e w3 ⟨rfl, h3, h4⟩; have O5 := Lib.hid (HO.out.kept h4 (.inr (Ne.symm (Is.row_apart HO.out HRd.out (by decide))))); have H5 := Lib.hid (below_grown HB.out h4 hBb hBw); have R5 := Lib.hid h3; clear h3 h4))
            clear O5 H5 R5
            go_loopw [1, 50] (fun v jj wi => ∃ (j g cap : Nat), j ≤ k ∧ jj = .int .i64 j ∧ v = .slice (some ⟨g, 0, none⟩) (out.length + j) cap ∧ Hid (wi.ownsRow B 5 1 v (out.length + j) (bytes (copy out d j))) ∧ Hid (Rd wi b 106 st2) ∧ Hid (Below B w wi)) (fun _ jj _ => k - (intOf jj).toNat)
            case atStart => exact ⟨0, g0, c, by omega, rfl, rfl, O6, R6, H6⟩
            case round =>
              clear O6 H6 R6 HO
              obtain ⟨j, g, cap, hj, rfl, rfl, O6, R6, H6⟩ := hrel
              by_cases hlj : j < k
              · have p1 : decide ((j : Int) < (k : Int)) = true := by simp; omega
                have hcl : (copy out d j).length = out.length + j := copy_length out d j
                obtain ⟨x, hx⟩ : ∃ x, x = (copy out d j).getD ((copy out d j).length - d) 0 := ⟨_, rfl⟩
                have hidx : out.length + j - d < (copy out d j).length := by omega
                have hxa : (copy out d j)[out.length + j - d]'hidx = x := by
                  rw [hx, hcl, List.getD_eq_getElem?_getD, List.getElem?_eq_getElem hidx]; rfl
                have cc : wr.cell? ⟨g, out.length + j - d, none⟩ = some (.int .u8 (x.toNat : Int)) := by
                  have := O6.out.cells (g := g) rfl (out.length + j - d) (.int .u8 (x.toNat : Int)) (by unfold bytes; rw [List.getElem?_map, List.getElem?_eq_getElem hidx, hxa]; rfl)
                  rw [addr_add] at this
                  exact this
                have hcs : copy out d (j + 1) = copy out d j ++ [x] := by simp only [copy]; rw [← hx]
                have CS := Lib.hid hcs
                have HBn := Lib.hid (O6.out.alloc (.cells #[.int .u8 (x.toNat : Int)] 5))
                have HN := Lib.hid (new_one wr (.int .u8 (x.toNat : Int)) 5)
                have hbs : B ≤ (wr.alloc (.cells #[.int .u8 (x.toNat : Int)] 5)).heap.size := by have := H6.out.size; simp; omega
                have HBS := Lib.hid hbs
                have HBS2 := Lib.hid (Nat.le_trans hBw H6.out.size)
                clear hcl hx hidx hxa hcs hbs
                go_wp2_with (at_builtin; refine wpList_append_own _ rfl (.tmp 52) (.tmp 60) 57 rfl B 5 i0 (.int .u8 0) 1 1 Tryd.underlying57 hi hz0 hz1 hz2 rfl (by decide) (.slice (some ⟨g, 0, none⟩) (out.length + j) cap) (out.length + j) (bytes (copy out d j)) rfl HBn.out ⟨wr.heap.size, 0, none⟩ 1 1 [.int .u8 (x.toNat : Int)] rfl rfl HN.out ?c1 ?c3 ?c4 ?c5 ?_)
                case c1 => intro u hu; simp at hu; subst hu; rfl
                case c3 => simp only [maxLen]; omega
                case c4 => omega
                case c5 => exact HBS.out
                intro v4 w4 hown4 hgr4 _
                obtain ⟨g4, cap4, rfl, -⟩ := hown4.form (by omega)
                have R7 := Lib.hid (Is.kept (R6.out.alloc _) hgr4 (Is.row_apart O6.out R6.out (by decide)))
                have B7 := Lib.hid ((H6.out.alloc HBS2.out _).grown hgr4 HBS.out (fun j hj => (O6.out.lt j hj).1))
                have O7 := Lib.hid hown4
                clear hown4 hgr4 HBn HN
                go_wp2
                go_roundw
                case rel => exact ⟨j + 1, g4, cap4, by omega, by go_num, rfl, Lib.hid (own_cast O7.out rfl (by rw [CS.out]; simp [bytes])), R7, B7⟩
                case measure => simp [intOf]; omega
              · have hjk : j = k := by omega
                subst hjk
                have p1 : decide ((j : Int) < (j : Int)) = false := by simp
                go_wp2
                go_ret2
                refine ⟨fun h => by rw [HU2.out] at h; simp at h, fun o st' h => ?_, H6.out⟩
                rw [HU2.out] at h
                simp only [Option.some.injEq, Prod.mk.injEq] at h
                obtain ⟨rfl, rfl⟩ := h
                rw [copy_length]
                exact ⟨_, _, by simp, O6.out, R6.out⟩
end Go.Proofs.YtgamkahbebnnaaaDoor
/-
  Unpack: its contract.
-/
namespace Go.Proofs.YtgamkahbebnnaaaDoor
open Go.RowKit
set_option maxRecDepth 40000 in
set_option maxHeartbeats 2000000 in
theorem unpack_any (l : List UInt8) (w : World) (hl : l.length ≤ 1000000000) :
    Calls Tryd.prog 56 #[.string (mk l)] w fun e w' => e = .returned (.tuple #[.string (mk ((unpackE l).getD [])), .bool (unpackE l).isSome]) ∧ Below w.heap.size w w' := by
  obtain ⟨n, hn⟩ : ∃ n, n = (rNum (some l)).1 := ⟨_, rfl⟩
  obtain ⟨st0, hst⟩ : ∃ st0, st0 = (rNum (some l)).2 := ⟨_, rfl⟩
  have hnlt : n < 9223372036854775808 := by rw [hn]; exact rNum_lt _
  have hsl : (rest st0).length ≤ 1000000000 := by rw [hst]; exact Nat.le_trans (rNum_le (some l)) hl
  obtain ⟨R, hR⟩ : ∃ R, R = unpackE l := ⟨_, rfl⟩
  have hR2 : R = if 16777216 < n then none else endE (unp n [] st0) := by rw [hR, unpackE, ← hn, ← hst]
  rw [← hR]
  have O := Lib.hid (open_any l)
  have M : Hid (∀ W b, Rd W b 106 (some l) → Calls Tryd.prog 54 #[.pointer (some ⟨b, 0, none⟩)] W fun e w' => e = .returned (.int .i64 (n : Nat)) ∧ Rd w' b 106 st0 ∧ W.grownBy w' (some b)) := Lib.hid (fun W b h => by rw [hn, hst]; exact num_any b (some l) W h hl)
  clear hR hst hn
  by_cases hbig : 16777216 < n
  · have g1 : decide ((16777216 : Int) < (n : Int)) = true := by simp; omega
    have HR : Hid (R = none) := Lib.hid (by rw [hR2, if_pos hbig])
    clear hR2
    go_enter Tryd.func56, Tryd.ntmps56
    go_wp2_with (first
      | (go_at_call 53; refine (O.out _).mono ?_; rintro e w1 ⟨b, rfl, hb, h1, h2⟩; have H1 := Lib.hid h1; have H2 := Lib.hid h2; clear h1 h2)
      | (go_at_call 54; refine (M.out _ _ H1.out).mono ?_; rintro e w3 ⟨rfl, h3, h4⟩; have H4 := Lib.hid h4; clear h3 h4))
    go_ret2
    exact ⟨retN HR.out, below_grown H2.out H4.out hb H2.out.size⟩
  · have g1 : decide ((16777216 : Int) < (n : Int)) = false := by simp; omega
    have HR : Hid (R = endE (unp n [] st0)) := Lib.hid (by rw [hR2, if_neg hbig])
    clear hR2
    go_enter Tryd.func56, Tryd.ntmps56
    go_wp2_with (first
      | (go_at_call 53; refine (O.out _).mono ?_; rintro e w1 ⟨b, rfl, hb, h1, h2⟩; have H1 := Lib.hid h1; have H2 := Lib.hid h2; clear h1 h2)
      | (go_at_call 54; refine (M.out _ _ H1.out).mono ?_; rintro e w3 ⟨rfl, h3, h4⟩; have H3 := Lib.hid h3; have H4 := Lib.hid (below_grown H2.out h4 hb H2.out.size); clear h3 h4))
    go_loopw [6] (fun v wr => ∃ (out : List UInt8) (st : St) (A : Option Addr) (c : Nat), v = .slice A out.length c ∧ out.length ≤ n ∧ (rest st).length ≤ 1000000000 ∧ Hid (R = endE (unp n out st)) ∧ Hid (Rd wr b 106 st) ∧ Hid (wr.ownsRow w.heap.size 5 1 v out.length (bytes out)) ∧ Hid (Below w.heap.size w wr)) (fun v _ => n - lenV v)
    case atStart => exact ⟨[], st0, none, 0, rfl, Nat.zero_le _, hsl, HR, H3, Lib.hid (World.ownsRow_nil _ _ _ _), H4⟩
    case round =>
      clear HR H3 H4
      obtain ⟨out, st, A, c, rfl, hon, hsl2, HR, HRd, HO, HB⟩ := hrel
      by_cases hlt : out.length < n
      · have i1 : decide ((out.length : Int) < (n : Int)) = true := by simp; omega
        have T := token_any w.heap.size b n out st A c wr hb HB.out.size (by omega) hlt hsl2 HRd.out HO.out
        have hU := HR.out
        rw [unp_tok n out st hlt] at hU
        cases htk : tok n out st with
        | none =>
          rw [htk] at hU
          have hN : R = none := hU
          have T2 : Calls Tryd.prog 67 #[.pointer (some ⟨b, 0, none⟩), .slice A out.length c, .int .i64 (n : Int)] wr fun e w' => (∃ A' k' c', e = .returned (.tuple #[.slice A' k' c', .bool false])) ∧ Below w.heap.size wr w' := T.mono fun e w' h => ⟨h.1 htk, h.2.2⟩
          have HN := Lib.hid hN
          have T3 := Lib.hid T2
          clear T T2 hU hN htk
          go_wp2_with (go_at_call 67; refine (T3.out).mono ?_; rintro e w3 ⟨⟨A3, k3, c3, rfl⟩, h4⟩; have H5 := Lib.hid (HB.out.trans h4); clear h4)
          go_ret2
          exact ⟨retN HN.out, H5.out⟩
        | some p =>
          obtain ⟨o, st2⟩ := p
          rw [htk] at hU
          have hN : R = endE (unp n o st2) := hU
          obtain ⟨f1, f2, f3⟩ := tok_facts n out st o st2 htk
          have T2 : Calls Tryd.prog 67 #[.pointer (some ⟨b, 0, none⟩), .slice A out.length c, .int .i64 (n : Int)] wr fun e w' => ∃ A' c', e = .returned (.tuple #[.slice A' o.length c', .bool true]) ∧ w'.ownsRow w.heap.size 5 1 (.slice A' o.length c') o.length (bytes o) ∧ Rd w' b 106 st2 ∧ Below w.heap.size wr w' := T.mono fun e w' h => by
            obtain ⟨A', c', h1, h2, h3⟩ := h.2.1 o st2 htk
            exact ⟨A', c', h1, h2, h3, h.2.2⟩
          have HN := Lib.hid hN
          have T3 := Lib.hid T2
          have f4 := f2 hlt
          have f5 := Nat.le_trans f3 hsl2
          clear T T2 hU hN htk f2 f3
          go_wp2_with (go_at_call 67; refine (T3.out).mono ?_; rintro e w3 ⟨A3, c3, rfl, h5, h6, h4⟩; have O5 := Lib.hid h5; have R5 := Lib.hid h6; have H5 := Lib.hid (HB.out.trans h4); clear h4 h5 h6)
          go_roundw
          case rel => exact ⟨o, st2, A3, c3, rfl, f4, f5, HN, R5, O5, H5⟩
          case measure => simp only [lenV]; omega
      · have i1 : decide ((out.length : Int) < (n : Int)) = false := by simp; omega
        have hU := HR.out
        rw [unp_end _ _ _ hlt] at hU
        have hcv := conv_own (l := out) HO.out
        have D := cdone_any b st wr HRd.out
        by_cases hdn : doneE st = true
        · have hS : R = some out := by rw [hU]; simp only [endE]; rw [if_pos hdn]
          have HS := Lib.hid hS
          rw [done_same, hdn] at D
          have D := Lib.hid D
          clear hU hS
          go_wp2_with (go_at_call 68; refine (D.out).mono ?_; rintro e w3 ⟨rfl, rfl⟩)
          go_ret2
          exact ⟨retS HS.out, HB.out⟩
        · have hS : R = none := by rw [hU]; simp only [endE]; rw [if_neg hdn]
          have HS := Lib.hid hS
          rw [done_same, show doneE st = false by simpa using hdn] at D
          have D := Lib.hid D
          clear hU hS
          go_wp2_with (go_at_call 68; refine (D.out).mono ?_; rintro e w3 ⟨rfl, rfl⟩)
          go_ret2
          exact ⟨retN HS.out, HB.out⟩
end Go.Proofs.YtgamkahbebnnaaaDoor
