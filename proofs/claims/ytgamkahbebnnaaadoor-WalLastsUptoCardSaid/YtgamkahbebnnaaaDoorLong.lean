/-
  The longest match, found along the chain of candidates.
-/
import Derived.Test.YtgamkahbebnnaaaDoorRecs
namespace Go.Proofs.YtgamkahbebnnaaaDoor
open Go.RowKit Go.Maps
set_option maxRecDepth 40000
theorem start_at (s : ByteArray) (x : Nat) (z : Int) (w : World) (hz : z = (x : Int)) (hi : x + 4 ≤ s.size) (hl : s.size ≤ 1000000000) :
    Calls Tryd.prog 69 #[.string s, .int .i64 z] w fun e w' => e = .returned (.int .u32 ((key (ls s) x : Nat) : Int)) ∧ ∃ j, w' = w.drewN j := by
  subst hz; exact start_any s x w hi hl
/-- A look-up in the search's map, whatever has been drawn. -/
theorem look_run {w : World} {m n x : Nat} {D : DataW Unit} {o : Option Nat} (h : w.ownsMap Tryd.prog 100 (plainElem Tryd.prog 3) m n D) (hx : x < 4294967296) (ho : Says D x o) (j : Nat) :
    (Instr.lookup 109 (.map (some m)) (.int .u32 (x : Int)) true).run Tryd.prog (w.drewN j) = .ok (.tuple #[.int .i64 ((o.getD 0 : Nat) : Int), .bool o.isSome]) (w.drewN j) := by
  have h' : (w.drewN j).ownsMap Tryd.prog 100 (plainElem Tryd.prog 3) m n D := h
  obtain ⟨v, ps, hrun, hv⟩ := h'.look_ok klaw Tryd.underlying109 (zero3 _) (plainElem_int Tryd.underlying3 (by decide)) (kx_key x hx)
  obtain ⟨c, rfl, hc, -⟩ := plainElem_int_inv Tryd.underlying3 hv
  obtain ⟨e1, e2⟩ := says_zero ho
  have e3 := congrArg Prod.fst hc
  simp only at e3
  rw [e1] at e3
  injection e3 with e3
  injection e3 with _ e3
  rw [hrun, e2, ← e3]
set_option maxRecDepth 40000 in
set_option maxHeartbeats 2000000 in
theorem longest_any (w : World) (r m g : Nat) (s : ByteArray) (i : Nat) (D : DataW Unit) (bk : List Nat) (hR : Rec w r m g s i D bk) (hC : Cand (ls s) i D bk) (hs : s.size ≤ 16777216) (hi : i ≤ s.size) :
    Calls Tryd.prog 59 #[.pointer (some ⟨r, 0, none⟩), .int .i64 (i : Int)] w fun e w' => (∃ j, w' = w.drewN j) ∧
      ∃ k d : Nat, e = .returned (.tuple #[.int .i64 (k : Int), .int .i64 (d : Int)]) ∧ (k < 4 ∧ (longestE (ls s) i).1 < 4 ∨ 4 ≤ k ∧ longestE (ls s) i = (k, d)) := by
  have c0 : w.cell? ⟨r, 0, none⟩ = some (.string s) := hR.is.at_ 0
  have c2 : w.cell? ⟨r, 2, none⟩ = some (.map (some m)) := hR.is.at_ 2
  have c3 : w.cell? ⟨r, 3, none⟩ = some (.slice (some ⟨g, 0, none⟩) bk.length bk.length) := hR.is.at_ 3
  by_cases h4 : s.size < i + 4
  · have g1 : decide ((s.size : Int) < (i : Int) + 4) = true := by simp; omega
    have HN := Lib.hid (look_none (ls s) i (.inl h4))
    go_enter Tryd.func59, Tryd.ntmps59
    go_wp2
    go_ret2
    exact ⟨⟨0, rfl⟩, 0, 0, rfl, .inl ⟨by omega, HN.out⟩⟩
  · have g1 : decide ((s.size : Int) < (i : Int) + 4) = false := by simp; omega
    obtain ⟨hM, hB⟩ := hC (by rw [ls_length]; omega)
    obtain ⟨o, hw, ho⟩ := hM (key (ls s) i) (key_lt _ _)
    have S := Lib.hid (fun W => start_at s i (i : Int) W rfl (by omega) (by omega))
    have LR := fun j => look_run hR.map (key_lt (ls s) i) ho j
    cases o with
    | none =>
      have HN := Lib.hid (look_none (ls s) i (.inr hw))
      simp only [Option.getD_none, Option.isSome_none] at LR
      go_enter Tryd.func59, Tryd.ntmps59
      go_wp2
      go_quiet (first | (go_at_call 69; exact Calls.quiet_of (S.out _)))
      go_wp2
      go_ret2
      exact ⟨⟨_, rfl⟩, 0, 0, rfl, .inl ⟨by omega, HN.out⟩⟩
    | some p =>
      simp only [Option.getD_some, Option.isSome_some] at LR
      have hst := look_start (ls s) i p (by rw [ls_length]; omega) hw
      obtain ⟨d0, hd0⟩ : ∃ d0, d0 = i - p := ⟨_, rfl⟩
      obtain ⟨k0, hk0⟩ : ∃ k0, k0 = run (ls s) i d0 := ⟨_, rfl⟩
      rw [← hd0, ← hk0] at hst
      have hpi : p < i := hw.2.1
      have hd1 : d0 ≤ i := by omega
      have hd2 : d0 ≤ 4096 := hst.2.2.2.1
      have w1 : IntKind.i64.wrap ((i : Int) - (p : Int)) = (d0 : Int) := by rw [IntWalk.i64_in _ (by omega)]; omega
      have CM := Lib.hid (fun W => common_any s i d0 W hd1 hi (by omega))
      rw [← hk0] at CM
      have HST := Lib.hid hst
      have HI := Lib.hid hw
      have HCH := Lib.hid hB
      have HRW := Lib.hid hR
      have hbl := hR.len
      have HSZ : Hid (¬ s.size < i + 4) := Lib.hid h4
      have HD := Lib.hid hd0
      clear hst hw ho hM hC hR hd0 hk0 hB h4
      go_enter Tryd.func59, Tryd.ntmps59
      go_wp2
      go_quiet (first | (go_at_call 69; exact Calls.quiet_of (S.out _)))
      go_wp2_with (first | (go_at_call 70; refine (CM.out _).mono ?_; rintro e w3 ⟨rfl, j3, rfl⟩))
      clear CM LR w1 S
      go_loopw [4, 5, 8] (fun v4 v5 v8 wr => ∃ k e d : Nat, v4 = .int .i64 (k : Int) ∧ v5 = .int .i64 (e : Int) ∧ v8 = .int .i64 (d : Int) ∧ Hid (Look (ls s) i d k e) ∧ d ≤ 8193 ∧ Hid (∃ j, wr = w.drewN j)) (fun _ _ v8 _ => 4097 - (intOf v8).toNat)
      case atStart => exact ⟨k0, d0, d0, rfl, rfl, rfl, HST, by omega, Lib.hid ⟨_, rfl⟩⟩
      case round =>
        clear HST HI hd2 hd1 hpi HD
        obtain ⟨k, e, d, rfl, rfl, rfl, HL, hd8, HW⟩ := hrel
        have b0 : wr.cell? ⟨r, 0, none⟩ = some (.string s) := by obtain ⟨j, e⟩ := HW.out; rw [e]; exact c0
        have b3 : wr.cell? ⟨r, 3, none⟩ = some (.slice (some ⟨g, 0, none⟩) bk.length bk.length) := by obtain ⟨j, e⟩ := HW.out; rw [e]; exact c3
        have hk4 : 4 ≤ k := HL.out.1
        have hd1 : 1 ≤ d := HL.out.2.2.2.2.2.2.2.1
        have hks : i + k ≤ s.size := by have := run_le (ls s) i e; rw [HL.out.2.2.2.2.1, ls_length] at this; omega
        by_cases hd : d ≤ 4096
        · have i1 : decide ((d : Int) ≤ 4096) = true := by simp; omega
          have hdi : d ≤ i := (HL.out.2.2.2.2.2.2.2.2 hd).1
          by_cases hb : i + k < s.size
          · have i2 : decide ((i : Int) + (k : Int) < (s.size : Int)) = true := by simp; omega
            obtain ⟨x, hx⟩ : ∃ x, x = i + k - 3 := ⟨_, rfl⟩
            obtain ⟨K1, hK1⟩ : ∃ y, y = key (ls s) x := ⟨_, rfl⟩
            obtain ⟨K2, hK2⟩ : ∃ y, y = key (ls s) (x - d) := ⟨_, rfl⟩
            have S1 : Hid (∀ (z : Int) W, z = (x : Int) → Calls Tryd.prog 69 #[.string s, .int .i64 z] W fun e w' => e = .returned (.int .u32 (K1 : Int)) ∧ ∃ j, w' = W.drewN j) := Lib.hid (fun z W hz => by rw [hK1]; exact start_at s x z W hz (by omega) (by omega))
            have S2 : Hid (∀ (z : Int) W, z = ((x - d : Nat) : Int) → Calls Tryd.prog 69 #[.string s, .int .i64 z] W fun e w' => e = .returned (.int .u32 (K2 : Int)) ∧ ∃ j, w' = W.drewN j) := Lib.hid (fun z W hz => by rw [hK2]; exact start_at s (x - d) z W hz (by omega) (by omega))
            have hlast : k < run (ls s) i d → K1 = K2 := fun hh => by rw [hK1, hK2, hx]; exact key_last (ls s) i d k hdi (by omega) hh
            have a1 : IntKind.i64.wrap ((i : Int) + (k : Int)) = (i : Int) + (k : Int) := IntWalk.i64_in _ (by omega)
            have a2 : IntKind.i64.wrap ((i : Int) + (k : Int) + 1) = (i : Int) + (k : Int) + 1 := IntWalk.i64_in _ (by omega)
            have a3 : IntKind.i64.wrap ((i : Int) + (k : Int) + 1 - 4) = (x : Int) := by rw [IntWalk.i64_in _ (by omega)]; omega
            have a4 : IntKind.i64.wrap ((x : Int) - (d : Int)) = (x : Int) - (d : Int) := IntWalk.i64_in _ (by omega)
            have a5 : IntKind.i64.wrap ((i : Int) - (d : Int)) = (i : Int) - (d : Int) := IntWalk.i64_in _ (by omega)
            obtain ⟨gg, hgg, hgap⟩ := HCH.out (i - d) (by omega) (by omega)
            obtain ⟨q, hq⟩ : ∃ q, q = (i - d) % 4096 := ⟨_, rfl⟩
            rw [← hq] at hgg
            have hql : q < bk.length := (List.getElem?_eq_some_iff.1 hgg).1
            have cq : wr.cell? ⟨g, q, none⟩ = some (.int .i64 (gg : Int)) := by obtain ⟨j, e⟩ := HW.out; rw [e]; exact (HRW.out.row.at_ q).trans (ints_at bk q gg hgg)
            have m0 : (d : Int) ≤ (i : Int) := by omega
            have m1 : ((i : Int) - (d : Int)) % 4096 = (q : Int) := by omega
            have m2 : ((i : Int) - (d : Int)).tmod 4096 = (q : Int) := by rw [Int.tmod_eq_emod_of_nonneg (by omega)]; exact m1
            have m3 : (q : Int) < (bk.length : Int) := by omega
            have hg8 : gg ≤ 4097 := by
              rcases hgap.2 with ⟨h, _⟩ | ⟨_, h, _⟩ <;> omega
            have hg1 : 1 ≤ gg := hgap.1
            have hxd : d ≤ x := by omega
            have HGP := Lib.hid hgap
            have HSZ2 := Lib.hid (show i + 4 ≤ (ls s).length by have := HSZ.out; rw [ls_length]; omega)
            by_cases hkk : K1 = K2
            · have e1 : ((K1 : Int) != (K2 : Int)) = false := by simp; omega
              obtain ⟨k', hk'⟩ : ∃ y, y = run (ls s) i d := ⟨_, rfl⟩
              have CM := Lib.hid (fun W => common_any s i d W hdi hi (by omega))
              rw [← hk'] at CM
              have HK' := Lib.hid hk'
              by_cases hgt : k < k'
              · have e2 : decide ((k : Int) < (k' : Int)) = true := by simp; omega
                have HN := Lib.hid (look_step (ls s) i d k e gg k' d HSZ2.out HL.out hd HGP.out (.inr ⟨by rw [← hk']; exact hgt, hk', rfl⟩))
                clear hK1 hK2 hlast hgg hq hgap hkk hx hk'
                go_wp2
                go_quiet (first | (go_at_call 69; exact Calls.quiet_of (S1.out _ _ (by omega))) | (go_at_call 69; exact Calls.quiet_of (S2.out _ _ (by omega))))
                go_wp2_with (first | (go_at_call 70; refine (CM.out _).mono ?_; rintro e w3 ⟨rfl, j3, rfl⟩))
                go_roundw
                case rel => exact ⟨k', d, d + gg, rfl, rfl, by go_num, HN, by omega, Lib.hid (by obtain ⟨j, e⟩ := HW.out; rw [e]; simp only [World.drewN_drewN]; exact ⟨_, rfl⟩)⟩
                case measure => simp [intOf]; omega
              · have e2 : decide ((k : Int) < (k' : Int)) = false := by simp; omega
                have HN := Lib.hid (look_step (ls s) i d k e gg k e HSZ2.out HL.out hd HGP.out (.inl ⟨by rw [← hk']; omega, rfl, rfl⟩))
                clear hK1 hK2 hlast hgg hq hgap hkk hx hk'
                go_wp2
                go_quiet (first | (go_at_call 69; exact Calls.quiet_of (S1.out _ _ (by omega))) | (go_at_call 69; exact Calls.quiet_of (S2.out _ _ (by omega))))
                go_wp2_with (first | (go_at_call 70; refine (CM.out _).mono ?_; rintro e w3 ⟨rfl, j3, rfl⟩))
                go_roundw
                case rel => exact ⟨k, e, d + gg, rfl, rfl, by go_num, HN, by omega, Lib.hid (by obtain ⟨j, e⟩ := HW.out; rw [e]; simp only [World.drewN_drewN]; exact ⟨_, rfl⟩)⟩
                case measure => simp [intOf]; omega
            · have e1 : ((K1 : Int) != (K2 : Int)) = true := by simp; omega
              have HN := Lib.hid (look_step (ls s) i d k e gg k e HSZ2.out HL.out hd HGP.out (.inl ⟨by
                by_cases hh : k < run (ls s) i d
                · exact absurd (hlast hh) hkk
                · omega, rfl, rfl⟩))
              clear hK1 hK2 hlast hgg hq hgap hkk hx
              go_wp2
              go_quiet (first | (go_at_call 69; exact Calls.quiet_of (S1.out _ _ (by omega))) | (go_at_call 69; exact Calls.quiet_of (S2.out _ _ (by omega))))
              go_wp2
              go_roundw
              case rel => exact ⟨k, e, d + gg, rfl, rfl, by go_num, HN, by omega, Lib.hid (by obtain ⟨j, e⟩ := HW.out; rw [e]; simp only [World.drewN_drewN]; exact ⟨_, rfl⟩)⟩
              case measure => simp [intOf]; omega
          · have i2 : decide ((i : Int) + (k : Int) < (s.size : Int)) = false := by simp; omega
            have HN := Lib.hid (look_end (ls s) i d k e HL.out (.inr (by rw [ls_length]; omega)))
            go_wp2
            go_ret2
            exact ⟨HW.out, k, e, rfl, .inr ⟨hk4, HN.out⟩⟩
        · have i1 : decide ((d : Int) ≤ 4096) = false := by simp; omega
          have HN := Lib.hid (look_end (ls s) i d k e HL.out (.inl (by omega)))
          go_wp2
          go_ret2
          exact ⟨HW.out, k, e, rfl, .inr ⟨hk4, HN.out⟩⟩
end Go.Proofs.YtgamkahbebnnaaaDoor
