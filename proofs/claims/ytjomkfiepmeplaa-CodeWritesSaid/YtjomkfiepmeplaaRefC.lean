/-
  The reference's Reader.Int, Text, List and Nums.
-/
import Derived.Test.YtjomkfiepmeplaaRefB
import Derived.Handy
import Derived.Deep.AppendLies
namespace Go.Proofs.Ytjomkfiepmeplaa
open Go.RowKit
theorem ret_z {a b : Int} (h : a = b) : Ending.returned (.int .i64 a) = Ending.returned (.int .i64 b) := by rw [h]
set_option maxHeartbeats 1000000 in
theorem xint_any (b : Nat) (st : St) (w : World) (h : Rd w b 64 st) (hs : (rest st).length ≤ 1000000000) :
    Calls Try.prog 26 #[.pointer (some ⟨b, 0, none⟩)] w fun e w' => e = .returned (.int .i64 (rInt st).1) ∧ Rd w' b 64 (rInt st).2 ∧ w.grownBy w' (some b) := by
  have C := xnum_any b st w h hs
  have hlt := rNum_lt st
  unfold rInt
  generalize (rNum st).1 = n at *
  generalize (rNum st).2 = st1 at *
  have CC := Lib.hid C
  clear C h hs
  by_cases ho : n % 2 = 1
  · have h1 : (n : Int) % 2 = 1 := by omega
    have h2 : unzig n = -((n : Int) / 2) - 1 := by unfold unzig; rw [if_pos ho]; omega
    by_cases hr : -1152921504606846976 ≤ -((n : Int) / 2) - 1
    · have hin : inR (unzig n) = true := by rw [inR_iff, h2]; omega
      rw [if_pos hin]
      have d1 : decide (-((n : Int) / 2) - 1 < -1152921504606846976) = false := by simp; omega
      have d2 : decide (1152921504606846976 < -((n : Int) / 2) - 1) = false := by simp; omega
      have HU := Lib.hid h2
      clear h2 hin ho
      go_enter Try.func26, Try.ntmps26
      go_wp2_with (go_at_call 24; refine (CC.out).mono ?_; rintro e w1 ⟨rfl, h1, h2⟩; have H1 := Lib.hid h1; have H2 := Lib.hid h2; clear h1 h2)
      go_ret
      exact ⟨ret_z HU.out.symm, H1.out, H2.out⟩
    · have hin : inR (unzig n) = false := by
        rw [← Bool.not_eq_true, inR_iff, h2]; omega
      rw [if_neg (by rw [hin]; decide)]
      have d1 : decide (-((n : Int) / 2) - 1 < -1152921504606846976) = true := by simp; omega
      clear h2 hin ho
      go_enter Try.func26, Try.ntmps26
      go_wp2_with (first
        | (go_at_call 24; refine (CC.out).mono ?_; rintro e w1 ⟨rfl, h1, h2⟩; have H1 := Lib.hid h1; have H2 := Lib.hid h2; clear h1 h2)
        | (go_at_call 52; refine (xfail_any b _ _ _ H1.out).mono ?_; rintro e w3 ⟨rfl, h3, h4⟩))
      go_ret
      exact ⟨rfl, h3, grown_trans H2.out h4 (.inl rfl)⟩
  · have h1 : ¬ (n : Int) % 2 = 1 := by omega
    have h1' : ((n : Int) % 2 == 1) = false := by simpa using h1
    have h2 : unzig n = (n : Int) / 2 := by unfold unzig; rw [if_neg ho]; omega
    by_cases hr : (n : Int) / 2 ≤ 1152921504606846976
    · have hin : inR (unzig n) = true := by rw [inR_iff, h2]; omega
      rw [if_pos hin]
      have d1 : decide ((n : Int) / 2 < -1152921504606846976) = false := by simp; omega
      have d2 : decide (1152921504606846976 < (n : Int) / 2) = false := by simp; omega
      have HU := Lib.hid h2
      clear h2 hin ho
      go_enter Try.func26, Try.ntmps26
      go_wp2_with (go_at_call 24; refine (CC.out).mono ?_; rintro e w1 ⟨rfl, h1, h2⟩; have H1 := Lib.hid h1; have H2 := Lib.hid h2; clear h1 h2)
      go_ret
      exact ⟨ret_z HU.out.symm, H1.out, H2.out⟩
    · have hin : inR (unzig n) = false := by
        rw [← Bool.not_eq_true, inR_iff, h2]; omega
      rw [if_neg (by rw [hin]; decide)]
      have d1 : decide ((n : Int) / 2 < -1152921504606846976) = false := by simp; omega
      have d2 : decide (1152921504606846976 < (n : Int) / 2) = true := by simp; omega
      clear h2 hin ho
      go_enter Try.func26, Try.ntmps26
      go_wp2_with (first
        | (go_at_call 24; refine (CC.out).mono ?_; rintro e w1 ⟨rfl, h1, h2⟩; have H1 := Lib.hid h1; have H2 := Lib.hid h2; clear h1 h2)
        | (go_at_call 52; refine (xfail_any b _ _ _ H1.out).mono ?_; rintro e w3 ⟨rfl, h3, h4⟩))
      go_ret
      exact ⟨rfl, h3, grown_trans H2.out h4 (.inl rfl)⟩
theorem xtext_any (b : Nat) (st : St) (w : World) (h : Rd w b 64 st) (hs : (rest st).length ≤ 1000000000) :
    Calls Try.prog 28 #[.pointer (some ⟨b, 0, none⟩)] w fun e w' => e = .returned (.string (mk (rText st).1)) ∧ Rd w' b 64 (rText st).2 ∧ w.grownBy w' (some b) := by
  have H := Lib.hid h
  clear h
  go_enter Try.func28, Try.ntmps28
  go_wp2_with (first
      | (go_at_call 24; refine (xnum_any b st _ H.out hs).mono ?_; rintro e w1 ⟨rfl, h1, h2⟩; have H1 := Lib.hid h1; clear h1)
      | (go_at_call 36; refine (xtake_any b _ _ _ H1.out).mono ?_; rintro e w3 ⟨rfl, h3, h4⟩))
  go_ret
  exact ⟨rfl, h3, grown_trans h2 h4 (.inl rfl)⟩

set_option maxHeartbeats 1000000 in
theorem xlist_none (b : Nat) (st : St) (w : World) (h : Rd w b 64 st) (hs : (rest st).length ≤ 1000000000) (hn : (rNum st).2 = none) :
    Calls Try.prog 31 #[.pointer (some ⟨b, 0, none⟩)] w fun e w' => e = .returned (.slice none 0 0) ∧ Rd w' b 64 none ∧ w.grownBy w' (some b) := by
  have h0 := rNum_none st hn
  have C := xnum_any b st w h hs
  rw [h0, hn] at C
  have CC := Lib.hid C
  clear C h0 hn h
  go_enter Try.func31, Try.ntmps31
  go_wp2_with (go_at_call 24; refine (CC.out).mono ?_; rintro e w1 ⟨rfl, h1, h2⟩; have d0 : w1.cell? ⟨b, 0, none⟩ = some (.string (mk [])) := h1.at_ 0; have sz : (mk []).size = 0 := rfl; have H1 := Lib.hid h1; clear h1)
  refine wp_loop_rounds 1 ?_
  rw [rounds_succ]
  go_wp2
  go_ret
  exact ⟨rfl, H1.out, h2⟩
set_option maxHeartbeats 1000000 in
theorem xlist_big (b : Nat) (st : St) (w : World) (h : Rd w b 64 st) (hs : (rest st).length ≤ 1000000000) (q : List UInt8) (hn : (rNum st).2 = some q) (hq : q.length < (rNum st).1) :
    Calls Try.prog 31 #[.pointer (some ⟨b, 0, none⟩)] w fun e w' => e = .returned (.slice none 0 0) ∧ Rd w' b 64 none ∧ w.grownBy w' (some b) := by
  have C := xnum_any b st w h hs
  have hlt := rNum_lt st
  have hl := rNum_le st
  rw [hn] at C hl
  rw [rest_some] at hl
  generalize (rNum st).1 = n at *
  have CC := Lib.hid C
  clear C hn h
  go_enter Try.func31, Try.ntmps31
  go_wp2_with (first
    | (go_at_call 24; refine (CC.out).mono ?_; rintro e w1 ⟨rfl, h1, h2⟩; have d0 : w1.cell? ⟨b, 0, none⟩ = some (.string (mk q)) := h1.at_ 0; have sz : (mk q).size = q.length := rfl; have H1 := Lib.hid h1; clear h1)
    | (go_at_call 52; refine (xfail_any b _ _ _ H1.out).mono ?_; rintro e w3 ⟨rfl, h3, h4⟩; have H3 := Lib.hid h3; clear h3))
  go_ret
  exact ⟨rfl, H3.out, grown_trans h2 h4 (.inl rfl)⟩
set_option maxHeartbeats 1000000 in
theorem xlist_ok (b : Nat) (st : St) (w : World) (h : Rd w b 64 st) (hs : (rest st).length ≤ 1000000000) (q : List UInt8) (hn : (rNum st).2 = some q) (hq : (rNum st).1 ≤ q.length) :
    Calls Try.prog 31 #[.pointer (some ⟨b, 0, none⟩)] w fun e w' => ∃ v, e = .returned v ∧ w'.ownsRow w.heap.size 9 1 v (shut (rMany rText (rNum st).1 (some q))).1.length (strs (shut (rMany rText (rNum st).1 (some q))).1) ∧ Rd w' b 64 (shut (rMany rText (rNum st).1 (some q))).2 ∧ w.grownBy w' (some b) := by
  have C := xnum_any b st w h hs
  have hlt := rNum_lt st
  have hl := rNum_le st
  rw [hn] at C hl
  rw [rest_some] at hl
  have hb := h.lt
  generalize (rNum st).1 = n at *
  have CC := Lib.hid C
  clear C hn h
  obtain ⟨i0, hi, hz0, hz1, hz2⟩ := info_parts info9
  have hqd : decide (q.length < n) = false := by simpa using hq
  go_enter Try.func31, Try.ntmps31
  go_wp2_with (first
    | (go_at_call 24; refine (CC.out).mono ?_; rintro e w1 ⟨rfl, h1, h2⟩; have d0 : w1.cell? ⟨b, 0, none⟩ = some (.string (mk q)) := h1.at_ 0; have sz : (mk q).size = q.length := rfl; have H1 := Lib.hid h1; clear h1))
  have hsz := h2.size
  have G2 := Lib.hid h2
  clear h2 d0 sz
  go_loopw [4, 5] (fun v i wr => ∃ (k : Nat) (r : List UInt8), k ≤ n ∧ i = .int .i64 k ∧ (rMany rText k (some q)).2 = some r ∧ Rd wr b 64 (some r) ∧ wr.ownsRow w.heap.size 9 1 v (rMany rText k (some q)).1.length (strs (rMany rText k (some q)).1) ∧ w.grownBy wr (some b)) (fun _ i _ => n - (intOf i).toNat)
  case atStart => exact ⟨0, q, by omega, rfl, rfl, H1.out, World.ownsRow_nil _ _ _ _, G2.out⟩
  case round =>
    obtain ⟨k, r, hk, rfl, e, hr, ho, hg⟩ := hrel
    have hlen := rMany_len rText k (some q)
    have hle := rMany_le rText rText_le k (some q)
    by_cases hkn : k < n
    · have i1 : decide ((k : Int) < (n : Int)) = true := by simp; omega
      have hst := rMany_step rText k (some q) r e
      have hle2 : (rest (some r)).length ≤ 1000000000 := by rw [e, rest_some] at hle; rw [rest_some] at hle ⊢; omega
      have hA := Lib.hid (xtext_any b (some r) wr hr hle2)
      have hstop : (rText (some r)).2 = none → shut (rMany rText n (some q)) = ([], none) := fun h0 => by
        have := rMany_stop rText (k + 1) n (some q) (by omega) (by rw [hst]; exact h0)
        rcases e2 : rMany rText n (some q) with ⟨xs, _ | r2⟩
        · rfl
        · rw [e2] at this; simp at this
      have HSTOP := Lib.hid hstop
      have HS := Lib.hid hst
      have HG := Lib.hid hg
      have HO := Lib.hid ho
      have HE := Lib.hid e
      clear hr hg ho e hst hstop
      rcases e3 : (rText (some r)).2 with _ | r3
      all_goals
        rw [e3] at hA
        have E3 := Lib.hid e3
        clear e3
      · go_wp2_with (first
          | (go_at_call 28; refine (hA.out).mono ?_; rintro e w3 ⟨rfl, h3, h4⟩; have H3 := Lib.hid h3; have H4 := Lib.hid h4; clear h3 h4)
          | (at_builtin; have HB := Lib.hid ((own_keep HO.out hb H4.out).alloc (.cells #[.string (mk (rText (some r)).1)] 9)); have HN := Lib.hid (news_one w3 (.string (mk (rText (some r)).1)) 9); refine wpList_append_own _ rfl (.tmp 22) (.tmp 25) 22 rfl w.heap.size 9 i0 (.string ⟨#[]⟩) 1 16 Try.underlying22 hi hz0 hz1 hz2 rfl (by decide) u4 (rMany rText k (some q)).1.length (strs (rMany rText k (some q)).1) rfl HB.out ⟨w3.heap.size, 0, none⟩ 1 1 [.string (mk (rText (some r)).1)] rfl rfl HN.out ?c1 ?c3 ?c4 ?c5 ?_))
        case c1 => intro u hu; simp at hu; subst hu; rfl
        case c3 => simp only [maxLen]; omega
        case c4 => omega
        case c5 => have := HG.out.size; have := H4.out.size; simp; omega
        intro v4 w4 hown4 hgr4 _
        obtain ⟨r4, g4⟩ := app_rel HO.out hb HG.out H4.out H3.out hgr4
        have y1 : w4.cell? ⟨b, 1, none⟩ = some (.bool true) := r4.at_ 1
        have HR4 := Lib.hid r4
        have HG4 := Lib.hid g4
        clear hown4 r4 g4 hgr4
        go_wp2
        go_ret
        rw [HSTOP.out E3.out]
        exact ⟨_, rfl, World.ownsRow_nil _ _ _ _, HR4.out, HG4.out⟩
      · go_wp2_with (first
          | (go_at_call 28; refine (hA.out).mono ?_; rintro e w3 ⟨rfl, h3, h4⟩; have H3 := Lib.hid h3; have H4 := Lib.hid h4; clear h3 h4)
          | (at_builtin; have HB := Lib.hid ((own_keep HO.out hb H4.out).alloc (.cells #[.string (mk (rText (some r)).1)] 9)); have HN := Lib.hid (news_one w3 (.string (mk (rText (some r)).1)) 9); refine wpList_append_own _ rfl (.tmp 22) (.tmp 25) 22 rfl w.heap.size 9 i0 (.string ⟨#[]⟩) 1 16 Try.underlying22 hi hz0 hz1 hz2 rfl (by decide) u4 (rMany rText k (some q)).1.length (strs (rMany rText k (some q)).1) rfl HB.out ⟨w3.heap.size, 0, none⟩ 1 1 [.string (mk (rText (some r)).1)] rfl rfl HN.out ?c1 ?c3 ?c4 ?c5 ?_))
        case c1 => intro u hu; simp at hu; subst hu; rfl
        case c3 => simp only [maxLen]; omega
        case c4 => omega
        case c5 => have := HG.out.size; have := H4.out.size; simp; omega
        intro v4 w4 hown4 hgr4 _
        obtain ⟨r4, g4⟩ := app_rel HO.out hb HG.out H4.out H3.out hgr4
        have y1 : w4.cell? ⟨b, 1, none⟩ = some (.bool false) := r4.at_ 1
        have HO4 := Lib.hid hown4
        have HR4 := Lib.hid r4
        have HG4 := Lib.hid g4
        clear hown4 r4 g4 hgr4
        go_wp2
        go_roundw
        case rel =>
          refine ⟨k + 1, r3, by omega, by go_num, by rw [HS.out]; exact E3.out, HR4.out, ?_, HG4.out⟩
          rw [HS.out]; simpa [strs] using HO4.out
        case measure => simp [intOf]; omega
    · obtain rfl : k = n := by omega
      have hsh : shut (rMany rText k (some q)) = ((rMany rText k (some q)).1, some r) := by
        rcases e2 : rMany rText k (some q) with ⟨xs, _ | r2⟩
        · rw [e2] at e; simp at e
        · rw [e2] at e; simp only [Option.some.injEq] at e; subst e; rfl
      have i1 : decide ((k : Int) < (k : Int)) = false := by simp
      have HS := Lib.hid hsh
      have HR := Lib.hid hr
      have HG := Lib.hid hg
      have HO := Lib.hid ho
      clear hr hsh hg ho e
      go_wp2
      go_ret
      rw [HS.out]
      exact ⟨_, rfl, HO.out, HR.out, HG.out⟩
theorem xlist_any (b : Nat) (st : St) (w : World) (h : Rd w b 64 st) (hs : (rest st).length ≤ 1000000000) :
    Calls Try.prog 31 #[.pointer (some ⟨b, 0, none⟩)] w fun e w' => ∃ v, e = .returned v ∧ w'.ownsRow w.heap.size 9 1 v (rSeq rText st).1.length (strs (rSeq rText st).1) ∧ Rd w' b 64 (rSeq rText st).2 ∧ w.grownBy w' (some b) := by
  rcases e : (rNum st).2 with _ | q
  · rw [rSeq_none rText st e]
    exact (xlist_none b st w h hs e).mono fun _ _ ⟨h1, h2, h3⟩ => ⟨_, h1, World.ownsRow_nil _ _ _ _, h2, h3⟩
  · rw [rSeq_some rText st q e]
    by_cases hq : (rNum st).1 ≤ q.length
    · rw [if_pos hq]
      exact xlist_ok b st w h hs q e hq
    · rw [if_neg hq]
      exact (xlist_big b st w h hs q e (by omega)).mono fun _ _ ⟨h1, h2, h3⟩ => ⟨_, h1, World.ownsRow_nil _ _ _ _, h2, h3⟩

set_option maxHeartbeats 1000000 in
theorem xnums_none (b : Nat) (st : St) (w : World) (h : Rd w b 64 st) (hs : (rest st).length ≤ 1000000000) (hn : (rNum st).2 = none) :
    Calls Try.prog 34 #[.pointer (some ⟨b, 0, none⟩)] w fun e w' => e = .returned (.slice none 0 0) ∧ Rd w' b 64 none ∧ w.grownBy w' (some b) := by
  have h0 := rNum_none st hn
  have C := xnum_any b st w h hs
  rw [h0, hn] at C
  have CC := Lib.hid C
  clear C h0 hn h
  go_enter Try.func34, Try.ntmps34
  go_wp2_with (go_at_call 24; refine (CC.out).mono ?_; rintro e w1 ⟨rfl, h1, h2⟩; have d0 : w1.cell? ⟨b, 0, none⟩ = some (.string (mk [])) := h1.at_ 0; have sz : (mk []).size = 0 := rfl; have H1 := Lib.hid h1; clear h1)
  refine wp_loop_rounds 1 ?_
  rw [rounds_succ]
  go_wp2
  go_ret
  exact ⟨rfl, H1.out, h2⟩
set_option maxHeartbeats 1000000 in
theorem xnums_big (b : Nat) (st : St) (w : World) (h : Rd w b 64 st) (hs : (rest st).length ≤ 1000000000) (q : List UInt8) (hn : (rNum st).2 = some q) (hq : q.length < (rNum st).1) :
    Calls Try.prog 34 #[.pointer (some ⟨b, 0, none⟩)] w fun e w' => e = .returned (.slice none 0 0) ∧ Rd w' b 64 none ∧ w.grownBy w' (some b) := by
  have C := xnum_any b st w h hs
  have hlt := rNum_lt st
  have hl := rNum_le st
  rw [hn] at C hl
  rw [rest_some] at hl
  generalize (rNum st).1 = n at *
  have CC := Lib.hid C
  clear C hn h
  go_enter Try.func34, Try.ntmps34
  go_wp2_with (first
    | (go_at_call 24; refine (CC.out).mono ?_; rintro e w1 ⟨rfl, h1, h2⟩; have d0 : w1.cell? ⟨b, 0, none⟩ = some (.string (mk q)) := h1.at_ 0; have sz : (mk q).size = q.length := rfl; have H1 := Lib.hid h1; clear h1)
    | (go_at_call 52; refine (xfail_any b _ _ _ H1.out).mono ?_; rintro e w3 ⟨rfl, h3, h4⟩; have H3 := Lib.hid h3; clear h3))
  go_ret
  exact ⟨rfl, H3.out, grown_trans h2 h4 (.inl rfl)⟩
set_option maxHeartbeats 1000000 in
theorem xnums_ok (b : Nat) (st : St) (w : World) (h : Rd w b 64 st) (hs : (rest st).length ≤ 1000000000) (q : List UInt8) (hn : (rNum st).2 = some q) (hq : (rNum st).1 ≤ q.length) :
    Calls Try.prog 34 #[.pointer (some ⟨b, 0, none⟩)] w fun e w' => ∃ v, e = .returned v ∧ w'.ownsRow w.heap.size 3 1 v (shut (rMany rInt (rNum st).1 (some q))).1.length (ints (shut (rMany rInt (rNum st).1 (some q))).1) ∧ Rd w' b 64 (shut (rMany rInt (rNum st).1 (some q))).2 ∧ w.grownBy w' (some b) := by
  have C := xnum_any b st w h hs
  have hlt := rNum_lt st
  have hl := rNum_le st
  rw [hn] at C hl
  rw [rest_some] at hl
  have hb := h.lt
  generalize (rNum st).1 = n at *
  have CC := Lib.hid C
  clear C hn h
  obtain ⟨i0, hi, hz0, hz1, hz2⟩ := info_parts info3
  have hqd : decide (q.length < n) = false := by simpa using hq
  go_enter Try.func34, Try.ntmps34
  go_wp2_with (first
    | (go_at_call 24; refine (CC.out).mono ?_; rintro e w1 ⟨rfl, h1, h2⟩; have d0 : w1.cell? ⟨b, 0, none⟩ = some (.string (mk q)) := h1.at_ 0; have sz : (mk q).size = q.length := rfl; have H1 := Lib.hid h1; clear h1))
  have hsz := h2.size
  have G2 := Lib.hid h2
  clear h2 d0 sz
  go_loopw [4, 5] (fun v i wr => ∃ (k : Nat) (r : List UInt8), k ≤ n ∧ i = .int .i64 k ∧ (rMany rInt k (some q)).2 = some r ∧ Rd wr b 64 (some r) ∧ wr.ownsRow w.heap.size 3 1 v (rMany rInt k (some q)).1.length (ints (rMany rInt k (some q)).1) ∧ w.grownBy wr (some b)) (fun _ i _ => n - (intOf i).toNat)
  case atStart => exact ⟨0, q, by omega, rfl, rfl, H1.out, World.ownsRow_nil _ _ _ _, G2.out⟩
  case round =>
    obtain ⟨k, r, hk, rfl, e, hr, ho, hg⟩ := hrel
    have hlen := rMany_len rInt k (some q)
    have hle := rMany_le rInt rInt_le k (some q)
    by_cases hkn : k < n
    · have i1 : decide ((k : Int) < (n : Int)) = true := by simp; omega
      have hst := rMany_step rInt k (some q) r e
      have hle2 : (rest (some r)).length ≤ 1000000000 := by rw [e, rest_some] at hle; rw [rest_some] at hle ⊢; omega
      have hA := Lib.hid (xint_any b (some r) wr hr hle2)
      have hstop : (rInt (some r)).2 = none → shut (rMany rInt n (some q)) = ([], none) := fun h0 => by
        have := rMany_stop rInt (k + 1) n (some q) (by omega) (by rw [hst]; exact h0)
        rcases e2 : rMany rInt n (some q) with ⟨xs, _ | r2⟩
        · rfl
        · rw [e2] at this; simp at this
      have HSTOP := Lib.hid hstop
      have HS := Lib.hid hst
      have HG := Lib.hid hg
      have HO := Lib.hid ho
      have HE := Lib.hid e
      clear hr hg ho e hst hstop
      rcases e3 : (rInt (some r)).2 with _ | r3
      all_goals
        rw [e3] at hA
        have E3 := Lib.hid e3
        clear e3
      · go_wp2_with (first
          | (go_at_call 26; refine (hA.out).mono ?_; rintro e w3 ⟨rfl, h3, h4⟩; have H3 := Lib.hid h3; have H4 := Lib.hid h4; clear h3 h4)
          | (at_builtin; have HB := Lib.hid ((own_keep HO.out hb H4.out).alloc (.cells #[.int .i64 (rInt (some r)).1] 3)); have HN := Lib.hid (news_one w3 (.int .i64 (rInt (some r)).1) 3); refine wpList_append_own _ rfl (.tmp 22) (.tmp 25) 23 rfl w.heap.size 3 i0 (.int .i64 0) 1 8 Try.underlying23 hi hz0 hz1 hz2 rfl (by decide) u4 (rMany rInt k (some q)).1.length (ints (rMany rInt k (some q)).1) rfl HB.out ⟨w3.heap.size, 0, none⟩ 1 1 [.int .i64 (rInt (some r)).1] rfl rfl HN.out ?c1 ?c3 ?c4 ?c5 ?_))
        case c1 => intro u hu; simp at hu; subst hu; rfl
        case c3 => simp only [maxLen]; omega
        case c4 => omega
        case c5 => have := HG.out.size; have := H4.out.size; simp; omega
        intro v4 w4 hown4 hgr4 _
        obtain ⟨r4, g4⟩ := app_rel HO.out hb HG.out H4.out H3.out hgr4
        have y1 : w4.cell? ⟨b, 1, none⟩ = some (.bool true) := r4.at_ 1
        have HR4 := Lib.hid r4
        have HG4 := Lib.hid g4
        clear hown4 r4 g4 hgr4
        go_wp2
        go_ret
        rw [HSTOP.out E3.out]
        exact ⟨_, rfl, World.ownsRow_nil _ _ _ _, HR4.out, HG4.out⟩
      · go_wp2_with (first
          | (go_at_call 26; refine (hA.out).mono ?_; rintro e w3 ⟨rfl, h3, h4⟩; have H3 := Lib.hid h3; have H4 := Lib.hid h4; clear h3 h4)
          | (at_builtin; have HB := Lib.hid ((own_keep HO.out hb H4.out).alloc (.cells #[.int .i64 (rInt (some r)).1] 3)); have HN := Lib.hid (news_one w3 (.int .i64 (rInt (some r)).1) 3); refine wpList_append_own _ rfl (.tmp 22) (.tmp 25) 23 rfl w.heap.size 3 i0 (.int .i64 0) 1 8 Try.underlying23 hi hz0 hz1 hz2 rfl (by decide) u4 (rMany rInt k (some q)).1.length (ints (rMany rInt k (some q)).1) rfl HB.out ⟨w3.heap.size, 0, none⟩ 1 1 [.int .i64 (rInt (some r)).1] rfl rfl HN.out ?c1 ?c3 ?c4 ?c5 ?_))
        case c1 => intro u hu; simp at hu; subst hu; rfl
        case c3 => simp only [maxLen]; omega
        case c4 => omega
        case c5 => have := HG.out.size; have := H4.out.size; simp; omega
        intro v4 w4 hown4 hgr4 _
        obtain ⟨r4, g4⟩ := app_rel HO.out hb HG.out H4.out H3.out hgr4
        have y1 : w4.cell? ⟨b, 1, none⟩ = some (.bool false) := r4.at_ 1
        have HO4 := Lib.hid hown4
        have HR4 := Lib.hid r4
        have HG4 := Lib.hid g4
        clear hown4 r4 g4 hgr4
        go_wp2
        go_roundw
        case rel =>
          refine ⟨k + 1, r3, by omega, by go_num, by rw [HS.out]; exact E3.out, HR4.out, ?_, HG4.out⟩
          rw [HS.out]; simpa [ints] using HO4.out
        case measure => simp [intOf]; omega
    · obtain rfl : k = n := by omega
      have hsh : shut (rMany rInt k (some q)) = ((rMany rInt k (some q)).1, some r) := by
        rcases e2 : rMany rInt k (some q) with ⟨xs, _ | r2⟩
        · rw [e2] at e; simp at e
        · rw [e2] at e; simp only [Option.some.injEq] at e; subst e; rfl
      have i1 : decide ((k : Int) < (k : Int)) = false := by simp
      have HS := Lib.hid hsh
      have HR := Lib.hid hr
      have HG := Lib.hid hg
      have HO := Lib.hid ho
      clear hr hsh hg ho e
      go_wp2
      go_ret
      rw [HS.out]
      exact ⟨_, rfl, HO.out, HR.out, HG.out⟩
theorem xnums_any (b : Nat) (st : St) (w : World) (h : Rd w b 64 st) (hs : (rest st).length ≤ 1000000000) :
    Calls Try.prog 34 #[.pointer (some ⟨b, 0, none⟩)] w fun e w' => ∃ v, e = .returned v ∧ w'.ownsRow w.heap.size 3 1 v (rSeq rInt st).1.length (ints (rSeq rInt st).1) ∧ Rd w' b 64 (rSeq rInt st).2 ∧ w.grownBy w' (some b) := by
  rcases e : (rNum st).2 with _ | q
  · rw [rSeq_none rInt st e]
    exact (xnums_none b st w h hs e).mono fun _ _ ⟨h1, h2, h3⟩ => ⟨_, h1, World.ownsRow_nil _ _ _ _, h2, h3⟩
  · rw [rSeq_some rInt st q e]
    by_cases hq : (rNum st).1 ≤ q.length
    · rw [if_pos hq]
      exact xnums_ok b st w h hs q e hq
    · rw [if_neg hq]
      exact (xnums_big b st w h hs q e (by omega)).mono fun _ _ ⟨h1, h2, h3⟩ => ⟨_, h1, World.ownsRow_nil _ _ _ _, h2, h3⟩
end Go.Proofs.Ytjomkfiepmeplaa
