/-
  Unpack: its contract.
-/
import Derived.Test.YtmcdbjkmkbdeiaaTok
namespace Go.Proofs.Ytmcdbjkmkbdeiaa
open Go.RowKit
set_option maxRecDepth 40000 in
set_option maxHeartbeats 2000000 in
theorem unpack_any (l : List UInt8) (w : World) (hl : l.length ≤ 1000000000) :
    Calls Try.prog 10 #[.string (mk l)] w fun e w' => e = .returned (.tuple #[.string (mk ((unpackE l).getD [])), .bool (unpackE l).isSome]) ∧ Below w.heap.size w w' := by
  obtain ⟨n, hn⟩ : ∃ n, n = (rNum (some l)).1 := ⟨_, rfl⟩
  obtain ⟨st0, hst⟩ : ∃ st0, st0 = (rNum (some l)).2 := ⟨_, rfl⟩
  have hnlt : n < 9223372036854775808 := by rw [hn]; exact rNum_lt _
  have hsl : (rest st0).length ≤ 1000000000 := by rw [hst]; exact Nat.le_trans (rNum_le (some l)) hl
  obtain ⟨R, hR⟩ : ∃ R, R = unpackE l := ⟨_, rfl⟩
  have hR2 : R = if 16777216 < n then none else endE (unp n [] st0) := by rw [hR, unpackE, ← hn, ← hst]
  rw [← hR]
  have O := Lib.hid (open_any l)
  have M : Hid (∀ W b, Rd W b 58 (some l) → Calls Try.prog 16 #[.pointer (some ⟨b, 0, none⟩)] W fun e w' => e = .returned (.int .i64 (n : Nat)) ∧ Rd w' b 58 st0 ∧ W.grownBy w' (some b)) := Lib.hid (fun W b h => by rw [hn, hst]; exact num_any b (some l) W h hl)
  clear hR hst hn
  by_cases hbig : 16777216 < n
  · have g1 : decide ((16777216 : Int) < (n : Int)) = true := by simp; omega
    have HR : Hid (R = none) := Lib.hid (by rw [hR2, if_pos hbig])
    clear hR2
    go_enter Try.func10, Try.ntmps10
    go_wp2_with (first
      | (go_at_call 15; refine (O.out _).mono ?_; rintro e w1 ⟨b, rfl, hb, h1, h2⟩; have H1 := Lib.hid h1; have H2 := Lib.hid h2; clear h1 h2)
      | (go_at_call 16; refine (M.out _ _ H1.out).mono ?_; rintro e w3 ⟨rfl, h3, h4⟩; have H4 := Lib.hid h4; clear h3 h4))
    go_ret2
    exact ⟨retN HR.out, below_grown H2.out H4.out hb H2.out.size⟩
  · have g1 : decide ((16777216 : Int) < (n : Int)) = false := by simp; omega
    have HR : Hid (R = endE (unp n [] st0)) := Lib.hid (by rw [hR2, if_neg hbig])
    clear hR2
    go_enter Try.func10, Try.ntmps10
    go_wp2_with (first
      | (go_at_call 15; refine (O.out _).mono ?_; rintro e w1 ⟨b, rfl, hb, h1, h2⟩; have H1 := Lib.hid h1; have H2 := Lib.hid h2; clear h1 h2)
      | (go_at_call 16; refine (M.out _ _ H1.out).mono ?_; rintro e w3 ⟨rfl, h3, h4⟩; have H3 := Lib.hid h3; have H4 := Lib.hid (below_grown H2.out h4 hb H2.out.size); clear h3 h4))
    go_loopw [6] (fun v wr => ∃ (out : List UInt8) (st : St) (A : Option Addr) (c : Nat), v = .slice A out.length c ∧ out.length ≤ n ∧ (rest st).length ≤ 1000000000 ∧ Hid (R = endE (unp n out st)) ∧ Hid (Rd wr b 58 st) ∧ Hid (wr.ownsRow w.heap.size 5 1 v out.length (bytes out)) ∧ Hid (Below w.heap.size w wr)) (fun v _ => n - lenV v)
    case atStart => exact ⟨[], st0, none, 0, rfl, Nat.zero_le _, hsl, HR, H3, Lib.hid (World.ownsRow_nil _ _ _ _), H4⟩
    case round =>
      clear HR H3 H4
      obtain ⟨out, st, A, c, rfl, hon, hsl2, HR, HRd, HO, HB⟩ := hrel
      by_cases hlt : out.length < n
      · have i1 : decide ((out.length : Int) < (n : Int)) = true := by simp; omega
        have T := token_any w.heap.size b n out st A c wr hb HB.out.size (by omega) hlt hsl2 HRd.out HO.out
        have hU := HR.out
        rw [unp_tok n out st hlt] at hU
        cases htk : tok n out st with
        | none =>
          rw [htk] at hU
          have hN : R = none := hU
          have T2 : Calls Try.prog 17 #[.pointer (some ⟨b, 0, none⟩), .slice A out.length c, .int .i64 (n : Int)] wr fun e w' => (∃ A' k' c', e = .returned (.tuple #[.slice A' k' c', .bool false])) ∧ Below w.heap.size wr w' := T.mono fun e w' h => ⟨h.1 htk, h.2.2⟩
          have HN := Lib.hid hN
          have T3 := Lib.hid T2
          clear T T2 hU hN htk
          go_wp2_with (go_at_call 17; refine (T3.out).mono ?_; rintro e w3 ⟨⟨A3, k3, c3, rfl⟩, h4⟩; have H5 := Lib.hid (HB.out.trans h4); clear h4)
          go_ret2
          exact ⟨retN HN.out, H5.out⟩
        | some p =>
          obtain ⟨o, st2⟩ := p
          rw [htk] at hU
          have hN : R = endE (unp n o st2) := hU
          obtain ⟨f1, f2, f3⟩ := tok_facts n out st o st2 htk
          have T2 : Calls Try.prog 17 #[.pointer (some ⟨b, 0, none⟩), .slice A out.length c, .int .i64 (n : Int)] wr fun e w' => ∃ A' c', e = .returned (.tuple #[.slice A' o.length c', .bool true]) ∧ w'.ownsRow w.heap.size 5 1 (.slice A' o.length c') o.length (bytes o) ∧ Rd w' b 58 st2 ∧ Below w.heap.size wr w' := T.mono fun e w' h => by
            obtain ⟨A', c', h1, h2, h3⟩ := h.2.1 o st2 htk
            exact ⟨A', c', h1, h2, h3, h.2.2⟩
          have HN := Lib.hid hN
          have T3 := Lib.hid T2
          have f4 := f2 hlt
          have f5 := Nat.le_trans f3 hsl2
          clear T T2 hU hN htk f2 f3
          go_wp2_with (go_at_call 17; refine (T3.out).mono ?_; rintro e w3 ⟨A3, c3, rfl, h5, h6, h4⟩; have O5 := Lib.hid h5; have R5 := Lib.hid h6; have H5 := Lib.hid (HB.out.trans h4); clear h4 h5 h6)
          go_roundw
          case rel => exact ⟨o, st2, A3, c3, rfl, f4, f5, HN, R5, O5, H5⟩
          case measure => simp only [lenV]; omega
      · have i1 : decide ((out.length : Int) < (n : Int)) = false := by simp; omega
        have hU := HR.out
        rw [unp_end _ _ _ hlt] at hU
        have hcv := conv_own (l := out) HO.out
        have D := cdone_any b st wr HRd.out
        by_cases hdn : doneE st = true
        · have hS : R = some out := by rw [hU]; simp only [endE]; rw [if_pos hdn]
          have HS := Lib.hid hS
          rw [done_same, hdn] at D
          have D := Lib.hid D
          clear hU hS
          go_wp2_with (go_at_call 18; refine (D.out).mono ?_; rintro e w3 ⟨rfl, rfl⟩)
          go_ret2
          exact ⟨retS HS.out, HB.out⟩
        · have hS : R = none := by rw [hU]; simp only [endE]; rw [if_neg hdn]
          have HS := Lib.hid hS
          rw [done_same, show doneE st = false by simpa using hdn] at D
          have D := Lib.hid D
          clear hU hS
          go_wp2_with (go_at_call 18; refine (D.out).mono ?_; rintro e w3 ⟨rfl, rfl⟩)
          go_ret2
          exact ⟨retN HS.out, HB.out⟩
end Go.Proofs.Ytmcdbjkmkbdeiaa
