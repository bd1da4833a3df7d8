/-
  The record that a file begins with, as the code reads it.
-/
import Derived.Test.YtgamkahbebnnaaaDoorRec
import Derived.Deep.QuietTactic
import Derived.BigQuiet
namespace Go.Proofs.YtgamkahbebnnaaaDoor
open Go.RowKit WalPlain Go.Sort
set_option maxRecDepth 40000
/-- As the code goes: the number, the checksum, the bytes; then the whole compared. -/
def firstC (crc : List UInt8 → Nat) (l : List UInt8) : Option (List UInt8 × Nat) :=
  match unpackE (rTake (rNum (some l)).1 (rTake 4 (rNum (some l)).2).2).1 with
  | some s => if small20 s ∧ recE crc s = l.take (l.length - (rest (rTake (rNum (some l)).1 (rTake 4 (rNum (some l)).2).2).2).length) then
      some (s, l.length - (rest (rTake (rNum (some l)).1 (rTake 4 (rNum (some l)).2).2).2).length) else none
  | none => none
theorem firstC_some (crc : List UInt8 → Nat) (l s : List UInt8) (k : Nat) :
    firstC crc l = some (s, k) ↔ small20 s ∧ recE crc s <+: l ∧ k = (recE crc s).length := by
  constructor
  · intro h
    unfold firstC at h
    split at h
    · rename_i s' hu
      split at h
      · rename_i hc
        simp only [Option.some.injEq, Prod.mk.injEq] at h
        obtain ⟨rfl, rfl⟩ := h
        obtain ⟨h1, h2⟩ := hc
        refine ⟨h1, by rw [h2]; exact List.take_prefix _ _, ?_⟩
        rw [h2, List.length_take]
        omega
      · cases h
    · cases h
  · rintro ⟨hs, ⟨t, rfl⟩, rfl⟩
    have hn := rNum_vint (packE s).length (four (crc (packE s)) ++ (packE s ++ t)) (pack_lt s hs)
    have e0 : recE crc s ++ t = vint (packE s).length ++ (four (crc (packE s)) ++ (packE s ++ t)) := by
      unfold recE; simp only [List.append_assoc]
    have h4 : rTake 4 (some (four (crc (packE s)) ++ (packE s ++ t))) = (four (crc (packE s)), some (packE s ++ t)) := by
      rw [rTake_eq, if_pos ⟨by omega, by simp only [List.length_append, four_len]; omega⟩]
      rw [show (4 : Int).toNat = 4 from rfl, List.take_left' (four_len _), List.drop_left' (four_len _)]
    have h5 : rTake ((packE s).length : Int) (some (packE s ++ t)) = (packE s, some t) := by
      rw [rTake_eq, if_pos ⟨by omega, by simp only [List.length_append]; omega⟩]
      rw [show ((packE s).length : Int).toNat = (packE s).length by omega, List.take_left' rfl, List.drop_left' rfl]
    have h6 : unpackE (packE s) = some s := unpack_back s (by unfold small20 at hs; omega)
    unfold firstC
    rw [← e0] at hn
    simp only [hn, h4, h5, h6]
    have e1 : (recE crc s ++ t).length - (rest (some t)).length = (recE crc s).length := by
      show (recE crc s ++ t).length - t.length = _
      rw [List.length_append]; omega
    rw [e1, if_pos ⟨hs, by rw [List.take_left' rfl]⟩]
theorem firstC_eq (crc : List UInt8 → Nat) (l : List UInt8) : firstC crc l = firstE crc l := by
  apply Option.ext
  rintro ⟨s, k⟩
  rw [firstC_some, first_some]
/-- What the parser answers. -/
def outF : Option (List UInt8 × Nat) → Value
  | some x => .tuple #[.string (mk x.1), .int .i64 (x.2 : Nat), .bool true]
  | none => .tuple #[.string ⟨#[]⟩, .int .i64 0, .bool false]
theorem first_le (l s : List UInt8) (k : Nat) (h : firstE crcN l = some (s, k)) : 5 ≤ k ∧ k ≤ l.length ∧ small20 s := by
  obtain ⟨h1, h2, rfl⟩ := (first_some _ _ _ _).1 h
  exact ⟨rec_pos _ _, h2.length_le, h1⟩
set_option maxHeartbeats 1000000 in
theorem first_any (l : List UInt8) (w : World) (hT : S3.Tabs w) (hl : l.length ≤ 16777216) :
    Calls Tryd.prog 46 #[.string (mk l)] w fun e w' => e = .returned (outF (firstE crcN l)) ∧ Below w.heap.size w w' := by
  rw [← firstC_eq]
  obtain ⟨n, hn⟩ : ∃ n, n = (rNum (some l)).1 := ⟨_, rfl⟩
  obtain ⟨st1, h1⟩ : ∃ st1, st1 = (rNum (some l)).2 := ⟨_, rfl⟩
  obtain ⟨st2, h2⟩ : ∃ st2, st2 = (rTake 4 st1).2 := ⟨_, rfl⟩
  obtain ⟨p, hp⟩ : ∃ p, p = (rTake n st2).1 := ⟨_, rfl⟩
  obtain ⟨st3, h3⟩ : ∃ st3, st3 = (rTake n st2).2 := ⟨_, rfl⟩
  have g1 : (rest st1).length ≤ l.length := by rw [h1]; exact rNum_le (some l)
  have g2 : (rest st2).length ≤ l.length := by rw [h2]; exact Nat.le_trans (rTake_le _ _) g1
  have g3 : (rest st3).length ≤ l.length := by rw [h3]; exact Nat.le_trans (rTake_le _ _) g2
  have gp : p.length ≤ l.length := by rw [hp]; exact Nat.le_trans (rTake_len _ _) g2
  have hnlt : n < 9223372036854775808 := by rw [hn]; exact rNum_lt _
  obtain ⟨R, hR⟩ : ∃ R, R = firstC crcN l := ⟨_, rfl⟩
  have hR2 : R = match unpackE p with
    | some s => if small20 s ∧ rec6 s = l.take (l.length - (rest st3).length) then some (s, l.length - (rest st3).length) else none
    | none => none := by rw [hR, h3, hp, h2, h1, hn]; rfl
  rw [← hR]
  have O : Hid (∀ W, Calls Tryd.prog 53 #[.string (mk l)] W fun e w' => ∃ b, e = .returned (.pointer (some ⟨b, 0, none⟩)) ∧ W.heap.size ≤ b ∧ Rd w' b 106 (some l) ∧ Below W.heap.size W w') := Lib.hid (fun W => open_any l W)
  have M : Hid (∀ W b, Rd W b 106 (some l) → Calls Tryd.prog 54 #[.pointer (some ⟨b, 0, none⟩)] W fun e w' => e = .returned (.int .i64 (n : Nat)) ∧ Rd w' b 106 st1 ∧ W.grownBy w' (some b)) := Lib.hid (fun W b h => by rw [hn, h1]; exact num_any b (some l) W h (by show l.length ≤ _; omega))
  have T4 : Hid (∀ W b, Rd W b 106 st1 → Calls Tryd.prog 55 #[.pointer (some ⟨b, 0, none⟩), .int .i64 4] W fun e w' => (∃ x, e = .returned (.string x)) ∧ Rd w' b 106 st2 ∧ W.grownBy w' (some b)) := Lib.hid (fun W b h => by
    rw [h2]; exact (take_any b st1 4 W h (by omega)).mono fun e w' hh => ⟨⟨_, hh.1⟩, hh.2⟩)
  have TN : Hid (∀ W b, Rd W b 106 st2 → Calls Tryd.prog 55 #[.pointer (some ⟨b, 0, none⟩), .int .i64 (n : Nat)] W fun e w' => e = .returned (.string (mk p)) ∧ Rd w' b 106 st3 ∧ W.grownBy w' (some b)) := Lib.hid (fun W b h => by
    rw [hp, h3]; exact take_any b st2 n W h (by omega))
  have LF : Hid (∀ W b, Rd W b 106 st3 → Calls Tryd.prog 57 #[.pointer (some ⟨b, 0, none⟩)] W fun e w' => e = .returned (.int .i64 ((rest st3).length : Int)) ∧ W = w') := Lib.hid (fun W b h => left_any b (mk (rest st3)) st3.isNone W h)
  have zl : (mk l).size = l.length := rfl
  obtain ⟨r, hr⟩ : ∃ r, r = (rest st3).length := ⟨_, rfl⟩
  rw [← hr] at hR2 g3 LF
  obtain ⟨k, hk⟩ : ∃ k, k = l.length - r := ⟨_, rfl⟩
  rw [← hk] at hR2
  have W1 : IntKind.i64.wrap ((l.length : Int) - (r : Int)) = (k : Int) := by rw [show (l.length : Int) - (r : Int) = (k : Int) by omega]; exact IntWalk.i64_in _ (by omega)
  have hkl : k ≤ l.length := by omega
  clear hR hn h1 h2 hp h3 hr hk g1 g2 g3 hnlt
  cases hu : unpackE p with
  | none =>
    rw [hu] at hR2
    have U : Hid (∀ W, Calls Tryd.prog 56 #[.string (mk p)] W fun e w' => e = .returned (.tuple #[.string (mk []), .bool false]) ∧ Below W.heap.size W w') := Lib.hid (fun W => by
      have := unpack_any p W (by omega); rw [hu] at this; exact this)
    have HR := Lib.hid hR2
    clear hR2 hu gp hl hT
    go_enter Tryd.func46, Tryd.ntmps46
    go_wp2_with (first
      | (go_at_call 53; refine (O.out _).mono ?_; rintro e w1 ⟨b, rfl, hb, h1, h2⟩; have R1 := Lib.hid h1; have B1 := Lib.hid h2; clear h1 h2)
      | (go_at_call 54; refine (M.out _ _ R1.out).mono ?_; rintro e w2 ⟨rfl, h1, h2⟩; have R2 := Lib.hid h1; have B2 := Lib.hid (below_grown B1.out h2 hb B1.out.size); clear h1 h2)
      | (go_at_call 55; have X := R3; clear X; refine (TN.out _ _ R3.out).mono ?_; rintro e w4 ⟨rfl, h1, h2⟩; have R4 := Lib.hid h1; have B4 := Lib.hid (below_grown B3.out h2 hb B3.out.size); clear h1 h2)
      | (go_at_call 55; refine (T4.out _ _ R2.out).mono ?_; rintro e w3 ⟨⟨x, rfl⟩, h1, h2⟩; have R3 := Lib.hid h1; have B3 := Lib.hid (below_grown B2.out h2 hb B2.out.size); clear h1 h2)
      | (go_at_call 56; refine (U.out _).mono ?_; rintro e w5 ⟨rfl, h1⟩; have R5 := Lib.hid (Is.below R4.out h1 R4.out.lt); have B5 := Lib.hid (bw B4.out h1 B4.out.size); clear h1)
      | (go_at_call 57; refine (LF.out _ _ R5.out).mono ?_; rintro e w6 ⟨rfl, rfl⟩)
      | (go_quiet (fail)))
    go_ret3
    exact ⟨by rw [HR.out]; rfl, below_drew B5.out _⟩
  | some s =>
    rw [hu] at hR2
    have U : Hid (∀ W, Calls Tryd.prog 56 #[.string (mk p)] W fun e w' => e = .returned (.tuple #[.string (mk s), .bool true]) ∧ Below W.heap.size W w') := Lib.hid (fun W => by
      have := unpack_any p W (by omega); rw [hu] at this; exact this)
    by_cases hs : small20 s
    · have TT : Hid (∀ W, Below w.heap.size w W → S3.Tabs W) := Lib.hid (fun W h => hT.below h hT.1)
      have P : Hid (∀ W, Calls Tryd.prog 33 #[.string (mk s)] W fun e w' => e = .returned (.bool true) ∧ w' = W) := Lib.hid (fun W => by
        have := isPayload_any (mk s) W
        rw [decide_eq_true (show (mk s).size ≤ 1048576 from hs)] at this
        exact this)
      have Q : Hid (∀ W, S3.Tabs W → Calls Tryd.prog 34 #[.string (mk s)] W fun e w' => e = .returned (.string (mk (rec6 s))) ∧ Below W.heap.size W w') := Lib.hid (fun W h => record_any s W h hs)
      have j1 : decide ((k : Int) ≤ (l.length : Int)) = true := by simp; omega
      obtain ⟨G, hG⟩ : ∃ G, G = mk (rec6 s) := ⟨_, rfl⟩
      rw [← hG] at Q
      by_cases he : rec6 s = l.take k
      · have he2 : G = (mk l).extract 0 k := by rw [hG, he, extract_take]; rfl
        dsimp only at hR2
        rw [if_pos ⟨hs, he⟩] at hR2
        have q1 : (G.toList == ((mk l).extract 0 k).toList) = true := by rw [he2]; simp
        have HR := Lib.hid hR2
        have HG := Lib.hid (he2)
        clear hR2 hu gp hl hT hs he hG he2
        go_enter Tryd.func46, Tryd.ntmps46
        go_wp2_with (first
          | (go_at_call 53; refine (O.out _).mono ?_; rintro e w1 ⟨b, rfl, hb, h1, h2⟩; have R1 := Lib.hid h1; have B1 := Lib.hid h2; clear h1 h2)
          | (go_at_call 54; refine (M.out _ _ R1.out).mono ?_; rintro e w2 ⟨rfl, h1, h2⟩; have R2 := Lib.hid h1; have B2 := Lib.hid (below_grown B1.out h2 hb B1.out.size); clear h1 h2)
          | (go_at_call 55; have X := R3; clear X; refine (TN.out _ _ R3.out).mono ?_; rintro e w4 ⟨rfl, h1, h2⟩; have R4 := Lib.hid h1; have B4 := Lib.hid (below_grown B3.out h2 hb B3.out.size); clear h1 h2)
          | (go_at_call 55; refine (T4.out _ _ R2.out).mono ?_; rintro e w3 ⟨⟨x, rfl⟩, h1, h2⟩; have R3 := Lib.hid h1; have B3 := Lib.hid (below_grown B2.out h2 hb B2.out.size); clear h1 h2)
          | (go_at_call 56; refine (U.out _).mono ?_; rintro e w5 ⟨rfl, h1⟩; have R5 := Lib.hid (Is.below R4.out h1 R4.out.lt); have B5 := Lib.hid (bw B4.out h1 B4.out.size); clear h1)
          | (go_at_call 57; refine (LF.out _ _ R5.out).mono ?_; rintro e w6 ⟨rfl, rfl⟩)
        )
        have PW : Hid (∀ d os, Calls Tryd.prog 33 #[.string (mk s)] (grow (redrawn w5 d) os) fun e w'' => e = .returned (.bool true) ∧ ∃ p : Regrown, w'' = grow (redrawn w5 p.d) p.os) :=
          Lib.hid fun d os => Calls.regrown_of ((P.out _).mono fun e w' ⟨h1, h2⟩ => ⟨h1, by rw [h2]; exact Below.refl _ _⟩)
        have QW : Hid (∀ d os, Calls Tryd.prog 34 #[.string (mk s)] (grow (redrawn w5 d) os) fun e w'' => e = .returned (.string G) ∧ ∃ p : Regrown, w'' = grow (redrawn w5 p.d) p.os) :=
          Lib.hid fun d os => Calls.regrown_of (Q.out _ (TT.out _ (B5.out.trans ((below_regrown w5 d os).mono B5.out.size))))
        refine wp_region_quiet_below (by kernel_rfl) (by kernel_rfl) ?_
        repeat (quiet_step (fail))
        quiet_step (exact PW.out _ _)
        repeat (quiet_step (fail))
        quiet_step (exact QW.out _ _)
        repeat (quiet_step (fail))
        refine wpQuiet_nil ?_
        intro _ hw'
        obtain ⟨⟨dq, osq⟩, hw''⟩ := hw'
        subst hw''
        go_wp2
        go_ret3
        exact ⟨by rw [HR.out]; rfl, B5.out.trans ((below_regrown w5 dq osq).mono B5.out.size)⟩
      · have q1 : (G.toList == ((mk l).extract 0 k).toList) = false := by
          rw [extract_take, hG, mk_beq]
          exact decide_eq_false he
        dsimp only at hR2
        rw [if_neg (fun h => he h.2)] at hR2
        have HG := he
        clear he HG
        have HR := Lib.hid hR2
        clear hR2 hu gp hl hT hs hG
        go_enter Tryd.func46, Tryd.ntmps46
        go_wp2_with (first
          | (go_at_call 53; refine (O.out _).mono ?_; rintro e w1 ⟨b, rfl, hb, h1, h2⟩; have R1 := Lib.hid h1; have B1 := Lib.hid h2; clear h1 h2)
          | (go_at_call 54; refine (M.out _ _ R1.out).mono ?_; rintro e w2 ⟨rfl, h1, h2⟩; have R2 := Lib.hid h1; have B2 := Lib.hid (below_grown B1.out h2 hb B1.out.size); clear h1 h2)
          | (go_at_call 55; have X := R3; clear X; refine (TN.out _ _ R3.out).mono ?_; rintro e w4 ⟨rfl, h1, h2⟩; have R4 := Lib.hid h1; have B4 := Lib.hid (below_grown B3.out h2 hb B3.out.size); clear h1 h2)
          | (go_at_call 55; refine (T4.out _ _ R2.out).mono ?_; rintro e w3 ⟨⟨x, rfl⟩, h1, h2⟩; have R3 := Lib.hid h1; have B3 := Lib.hid (below_grown B2.out h2 hb B2.out.size); clear h1 h2)
          | (go_at_call 56; refine (U.out _).mono ?_; rintro e w5 ⟨rfl, h1⟩; have R5 := Lib.hid (Is.below R4.out h1 R4.out.lt); have B5 := Lib.hid (bw B4.out h1 B4.out.size); clear h1)
          | (go_at_call 57; refine (LF.out _ _ R5.out).mono ?_; rintro e w6 ⟨rfl, rfl⟩)
        )
        have PW : Hid (∀ d os, Calls Tryd.prog 33 #[.string (mk s)] (grow (redrawn w5 d) os) fun e w'' => e = .returned (.bool true) ∧ ∃ p : Regrown, w'' = grow (redrawn w5 p.d) p.os) :=
          Lib.hid fun d os => Calls.regrown_of ((P.out _).mono fun e w' ⟨h1, h2⟩ => ⟨h1, by rw [h2]; exact Below.refl _ _⟩)
        have QW : Hid (∀ d os, Calls Tryd.prog 34 #[.string (mk s)] (grow (redrawn w5 d) os) fun e w'' => e = .returned (.string G) ∧ ∃ p : Regrown, w'' = grow (redrawn w5 p.d) p.os) :=
          Lib.hid fun d os => Calls.regrown_of (Q.out _ (TT.out _ (B5.out.trans ((below_regrown w5 d os).mono B5.out.size))))
        refine wp_region_quiet_below (by kernel_rfl) (by kernel_rfl) ?_
        repeat (quiet_step (fail))
        quiet_step (exact PW.out _ _)
        repeat (quiet_step (fail))
        quiet_step (exact QW.out _ _)
        repeat (quiet_step (fail))
        refine wpQuiet_nil ?_
        intro _ hw'
        obtain ⟨⟨dq, osq⟩, hw''⟩ := hw'
        subst hw''
        go_wp2
        go_ret3
        exact ⟨by rw [HR.out]; rfl, B5.out.trans ((below_regrown w5 dq osq).mono B5.out.size)⟩
    · have P : Hid (∀ W, Calls Tryd.prog 33 #[.string (mk s)] W fun e w' => e = .returned (.bool false) ∧ w' = W) := Lib.hid (fun W => by
        have := isPayload_any (mk s) W
        rw [decide_eq_false (show ¬ (mk s).size ≤ 1048576 from hs)] at this
        exact this)
      dsimp only at hR2
      rw [if_neg (fun h => hs h.1)] at hR2
      have HR := Lib.hid hR2
      clear hR2 hu gp hl hT hs
      go_enter Tryd.func46, Tryd.ntmps46
      go_wp2_with (first
        | (go_at_call 53; refine (O.out _).mono ?_; rintro e w1 ⟨b, rfl, hb, h1, h2⟩; have R1 := Lib.hid h1; have B1 := Lib.hid h2; clear h1 h2)
        | (go_at_call 54; refine (M.out _ _ R1.out).mono ?_; rintro e w2 ⟨rfl, h1, h2⟩; have R2 := Lib.hid h1; have B2 := Lib.hid (below_grown B1.out h2 hb B1.out.size); clear h1 h2)
        | (go_at_call 55; have X := R3; clear X; refine (TN.out _ _ R3.out).mono ?_; rintro e w4 ⟨rfl, h1, h2⟩; have R4 := Lib.hid h1; have B4 := Lib.hid (below_grown B3.out h2 hb B3.out.size); clear h1 h2)
        | (go_at_call 55; refine (T4.out _ _ R2.out).mono ?_; rintro e w3 ⟨⟨x, rfl⟩, h1, h2⟩; have R3 := Lib.hid h1; have B3 := Lib.hid (below_grown B2.out h2 hb B2.out.size); clear h1 h2)
        | (go_at_call 56; refine (U.out _).mono ?_; rintro e w5 ⟨rfl, h1⟩; have R5 := Lib.hid (Is.below R4.out h1 R4.out.lt); have B5 := Lib.hid (bw B4.out h1 B4.out.size); clear h1)
        | (go_at_call 57; refine (LF.out _ _ R5.out).mono ?_; rintro e w6 ⟨rfl, rfl⟩)
      )
      have PW : Hid (∀ d os, Calls Tryd.prog 33 #[.string (mk s)] (grow (redrawn w5 d) os) fun e w'' => e = .returned (.bool false) ∧ ∃ p : Regrown, w'' = grow (redrawn w5 p.d) p.os) :=
        Lib.hid fun d os => Calls.regrown_of ((P.out _).mono fun e w' ⟨h1, h2⟩ => ⟨h1, by rw [h2]; exact Below.refl _ _⟩)
      refine wp_region_quiet_below (by kernel_rfl) (by kernel_rfl) ?_
      repeat (quiet_step (fail))
      quiet_step (exact PW.out _ _)
      repeat (quiet_step (fail))
      refine wpQuiet_nil ?_
      intro _ hw'
      obtain ⟨⟨dq, osq⟩, hw''⟩ := hw'
      subst hw''
      go_wp2
      go_ret3
      exact ⟨by rw [HR.out]; rfl, B5.out.trans ((below_regrown w5 dq osq).mono B5.out.size)⟩
end Go.Proofs.YtgamkahbebnnaaaDoor
