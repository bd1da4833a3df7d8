/-
  A place is added to the search's memory.
-/
import Derived.Test.YtgamkahbebnnaaaDoorLong
namespace Go.Proofs.YtgamkahbebnnaaaDoor
open Go.RowKit Go.Maps
set_option maxRecDepth 40000
theorem look_run0 {w : World} {m n x : Nat} {D : DataW Unit} {o : Option Nat} (h : w.ownsMap Tryd.prog 100 (plainElem Tryd.prog 3) m n D) (hx : x < 4294967296) (ho : Says D x o) (j : Nat) :
    (Instr.lookup 109 (.map (some m)) (.int .u32 (x : Int)) false).run Tryd.prog (w.drewN j) = .ok (.int .i64 ((o.getD 0 : Nat) : Int)) (w.drewN j) := by
  have h' : (w.drewN j).ownsMap Tryd.prog 100 (plainElem Tryd.prog 3) m n D := h
  obtain ⟨c, hrun, hat, -⟩ := h'.lookup_int klaw Tryd.underlying109 Tryd.underlying3 (zero3 _) (kx_key x hx)
  obtain ⟨e1, -⟩ := says_zero ho
  have e3 : DataW.lit (Lit.int .i64 c) = DataW.lit (Lit.int .i64 ((o.getD 0 : Nat) : Int)) := hat.symm.trans e1
  injection e3 with e3
  injection e3 with _ e3
  rw [hrun, e3]
/-- What adding the place i leaves. -/
def Added (r m g : Nat) (s : ByteArray) (i : Nat) (bk : List Nat) (w w' : World) : Prop := ∃ (D' : DataW Unit) (bk' : List Nat), bk'.length = bk.length ∧
  Is w' r 111 #[.string s, .int .i64 (i : Int), .map (some m), .slice (some ⟨g, 0, none⟩) bk.length bk.length] ∧ w'.ownsMap Tryd.prog 100 (plainElem Tryd.prog 3) m (i + 1) D' ∧ Is w' g 3 (ints bk') ∧
  MapIs (ls s) (i + 1 - 4096) (i + 1) D' ∧ Bk (ls s) (i + 1) bk' ∧ Tri r m g w w'
set_option maxRecDepth 40000 in
set_option maxHeartbeats 4000000 in
theorem add_any (w : World) (r m g : Nat) (s : ByteArray) (i : Nat) (D : DataW Unit) (bk : List Nat) (hR : Rec w r m g s i D bk) (hM : MapIs (ls s) (i - 4096) i D) (hB : Bk (ls s) i bk) (hs : s.size ≤ 16777216) (hi : i + 4 ≤ s.size) :
    Calls Tryd.prog 71 #[.pointer (some ⟨r, 0, none⟩), .int .i64 (i : Int)] w fun e w' => e = .returned (.tuple #[]) ∧ Added r m g s i bk w w' := by
  obtain ⟨hI, hO, hG, hL⟩ := hR
  have hrm : r ≠ m := map_apart hO hI
  have hgm : g ≠ m := map_apart hO hG
  have hrg : r ≠ g := Is.apart hI hG (by decide)
  have hgr : g ≠ r := Ne.symm hrg
  obtain ⟨q, hq⟩ : ∃ q, q = i % 4096 := ⟨_, rfl⟩
  have hql : q < bk.length := by rw [hq, hL]; omega
  have m1 : (i : Int) % 4096 = (q : Int) := by omega
  have m2 : (i : Int).tmod 4096 = (q : Int) := by rw [Int.tmod_eq_emod_of_nonneg (by omega)]; exact m1
  have m3 : (q : Int) < (bk.length : Int) := by omega
  obtain ⟨K, hK⟩ : ∃ K, K = key (ls s) i := ⟨_, rfl⟩
  have hKl : K < 4294967296 := by rw [hK]; exact key_lt _ _
  have S : Hid (∀ W, Calls Tryd.prog 69 #[.string s, .int .i64 (i : Int)] W fun e w' => e = .returned (.int .u32 (K : Int)) ∧ ∃ j, w' = W.drewN j) := Lib.hid (fun W => by rw [hK]; exact start_any s i W hi (by omega))
  have WF : (Lit.int .i64 (i : Int)).wf = true := WalkArith.wf_i64 (by omega)
  have HK := Lib.hid hK
  have HQ := Lib.hid hq
  have HB := Lib.hid hB
  clear hB hq hK hL
  by_cases h0 : i < 4096
  · have z0 : IntKind.i64.wrap ((i : Int) - 4096) = (i : Int) - 4096 := IntWalk.i64_in _ (by omega)
    have z1 : decide ((0 : Int) ≤ (i : Int) - 4096) = false := by simp; omega
    have z2 : decide ((4096 : Int) ≤ (i : Int)) = false := by simp; omega
    have hM1 : MapIs (ls s) (i + 1 - 4096) i D := by rw [show i + 1 - 4096 = i - 4096 by omega]; exact hM
    have hT0 := Tri.refl r m g w
    clear hM
    go_enter Tryd.func71, Tryd.ntmps71
    obtain ⟨o, hw2, ho⟩ := hM1 K hKl
    rw [HK.out] at hw2
    have hgap := gap_win (ls s) i o hw2
    have LR := fun j => look_run hO hKl ho j
    have HM1 := Lib.hid hM1
    have HO1 := Lib.hid hO
    have HG1 := Lib.hid hG
    have HI1 := Lib.hid hI
    have HT1 := Lib.hid hT0
    have f1 : (w).frozen? ⟨g, q, none⟩ = false := hG.open_ q
    have a0 : (w).cell? ⟨r, 0, none⟩ = some (.string s) := hI.at_ 0
    have a2 : (w).cell? ⟨r, 2, none⟩ = some (.map (some m)) := hI.at_ 2
    have a3 : (w).cell? ⟨r, 3, none⟩ = some (.slice (some ⟨g, 0, none⟩) bk.length bk.length) := hI.at_ 3
    obtain ⟨u0, a4⟩ : ∃ u, (w).cell? ⟨g, q, none⟩ = some u := ⟨_, (hG.at_ q).trans (Array.getElem?_eq_getElem (by simp only [ints, List.size_toArray, List.length_map]; exact hql))⟩
    cases o with
    | none =>
      have HGP : Hid (Gap (ls s) i 4097) := Lib.hid hgap
      clear hw2 ho hgap
      simp only [Option.getD_none, Option.isSome_none] at LR
      go_wp2_with (first
        | (go_at_call 69; refine (S.out _).mono ?_; rintro e w3 ⟨rfl, j3, rfl⟩)
        | (at_mapUpdate; refine wpList_mapUpdate_in _ rfl _ _ _ 109 rfl 100 3 klaw Tryd.underlying109 _ m i _ rfl (HO1.out.setCell (a := ⟨g, q, none⟩) (Ne.symm hgm) _) (by unfold maxLen; omega) _ _ (kx K) rfl rfl (kx_key K hKl) (.lit (.int .i64 (i : Int))) [] (plainElem_int Tryd.underlying3 WF) ?_; intro w5 hown5 hturn5; have HO5 := Lib.hid hown5; have HT5 := Lib.hid hturn5; clear hown5 hturn5))
      go_end0
      refine ⟨rfl, _, bk.set q 4097, List.length_set, ?_, HO5.out, ?_, ?_, ?_, ?_⟩
      · exact Is.kept (Is.away (show Is ((w).drewN j3) r 111 _ from HI1.out) hrg _) HT5.out.grown (fun e => hrm (Option.some.inj e))
      · have h := Is.kept (Is.put (show Is ((w).drewN j3) g 3 _ from HG1.out) q (.int .i64 ((4097 : Nat) : Int))) HT5.out.grown (fun e => hgm (Option.some.inj e))
        rw [ints_set] at h
        exact h
      · have h := map_put HO1.out.isMap HM1.out (by omega)
        rw [← HK.out] at h
        exact h
      · rw [HQ.out]; exact bk_put (ls s) i _ bk HB.out HGP.out (by rw [← HQ.out]; exact hql)
      · exact ((HT1.out.drew _).set (.inr (.inr rfl)) q _).trans (Tri.of_grown HT5.out.grown (.inr (.inl rfl)))
    | some p =>
      have HGP : Hid (Gap (ls s) i (i - p)) := Lib.hid hgap
      have hpi0 : p < i := hw2.2.1
      clear hw2 ho hgap
      have hpi : p < i := hpi0
      simp only [Option.getD_some, Option.isSome_some] at LR
      have b1 : IntKind.i64.wrap ((i : Int) - (p : Int)) = ((i - p : Nat) : Int) := by rw [IntWalk.i64_in _ (by omega)]; omega
      go_wp2_with (first
        | (go_at_call 69; refine (S.out _).mono ?_; rintro e w3 ⟨rfl, j3, rfl⟩)
        | (at_mapUpdate; refine wpList_mapUpdate_in _ rfl _ _ _ 109 rfl 100 3 klaw Tryd.underlying109 _ m i _ rfl (HO1.out.setCell (a := ⟨g, q, none⟩) (Ne.symm hgm) _) (by unfold maxLen; omega) _ _ (kx K) rfl rfl (kx_key K hKl) (.lit (.int .i64 (i : Int))) [] (plainElem_int Tryd.underlying3 WF) ?_; intro w5 hown5 hturn5; have HO5 := Lib.hid hown5; have HT5 := Lib.hid hturn5; clear hown5 hturn5))
      go_end0
      refine ⟨rfl, _, bk.set q (i - p), List.length_set, ?_, HO5.out, ?_, ?_, ?_, ?_⟩
      · exact Is.kept (Is.away (show Is ((w).drewN j3) r 111 _ from HI1.out) hrg _) HT5.out.grown (fun e => hrm (Option.some.inj e))
      · have h := Is.kept (Is.put (show Is ((w).drewN j3) g 3 _ from HG1.out) q (.int .i64 (((i - p) : Nat) : Int))) HT5.out.grown (fun e => hgm (Option.some.inj e))
        rw [ints_set] at h
        exact h
      · have h := map_put HO1.out.isMap HM1.out (by omega)
        rw [← HK.out] at h
        exact h
      · rw [HQ.out]; exact bk_put (ls s) i _ bk HB.out HGP.out (by rw [← HQ.out]; exact hql)
      · exact ((HT1.out.drew _).set (.inr (.inr rfl)) q _).trans (Tri.of_grown HT5.out.grown (.inr (.inl rfl)))
  · obtain ⟨L, hL⟩ : ∃ L, L = i - 4096 := ⟨_, rfl⟩
    rw [← hL] at hM
    have z0 : IntKind.i64.wrap ((i : Int) - 4096) = (L : Int) := by rw [IntWalk.i64_in _ (by omega)]; omega
    have hLi : L < i := by omega
    obtain ⟨K0, hK0⟩ : ∃ K, K = key (ls s) L := ⟨_, rfl⟩
    have hKl0 : K0 < 4294967296 := by rw [hK0]; exact key_lt _ _
    have S0 : Hid (∀ W, Calls Tryd.prog 69 #[.string s, .int .i64 (L : Int)] W fun e w' => e = .returned (.int .u32 (K0 : Int)) ∧ ∃ j, w' = W.drewN j) := Lib.hid (fun W => by rw [hK0]; exact start_any s L W (by omega) (by omega))
    obtain ⟨o0, hw0, ho0⟩ := hM K0 hKl0
    have HL : Hid (i + 1 - 4096 = L + 1) := Lib.hid (by omega)
    have HK0 := Lib.hid hK0
    cases o0 with
    | none => exact absurd hK0.symm (hw0 L (Nat.le_refl _) hLi)
    | some p0 =>
      have LR0 := fun j => look_run0 hO hKl0 ho0 j
      simp only [Option.getD_some] at LR0
      rw [HK0.out] at hw0
      have c0 : w.cell? ⟨r, 0, none⟩ = some (.string s) := hI.at_ 0
      have c2 : w.cell? ⟨r, 2, none⟩ = some (.map (some m)) := hI.at_ 2
      have hT0 := Tri.refl r m g w
      clear ho0 hL
      by_cases hp0 : p0 = L
      · have n1 : ((p0 : Int) == (L : Int)) = true := by simp; omega
        rw [hp0] at hw0
        have hMd := map_del hM hw0
        rw [← HK0.out, ← HL.out] at hMd
        have HO := Lib.hid hO
        have HG := Lib.hid hG
        have HI := Lib.hid hI
        have HMd := Lib.hid hMd
        clear hp0 hw0 hM hK0 hO hG hI hMd
        obtain ⟨o, hw2, ho⟩ := HMd.out K hKl
        rw [HK.out] at hw2
        have hgap := gap_win (ls s) i o hw2
        have HM1 := HMd
        cases o with
        | none =>
          have HGP : Hid (Gap (ls s) i 4097) := Lib.hid hgap
          clear hw2 hgap
          go_enter Tryd.func71, Tryd.ntmps71
          go_wp2_with (first
            | (go_at_call 69; have j2' := hI1; refine (S.out _).mono ?_; rintro e w3 ⟨rfl, j3, rfl⟩)
            | (go_at_call 69; refine (S0.out _).mono ?_; rintro e w2 ⟨rfl, j2, rfl⟩)
            | (at_delete; refine wpList_delete_own _ rfl _ _ 109 100 rfl 3 klaw Tryd.underlying109 _ m i D rfl HO.out _ _ rfl (kx_key K0 hKl0) ?_; intro w1 hO1 hturn1; have hI1 := Is.kept (show Is (w.drewN j2) r 111 _ from HI.out) hturn1.grown (fun e => hrm (Option.some.inj e)); have hG1 := Is.kept (show Is (w.drewN j2) g 3 _ from HG.out) hturn1.grown (fun e => hgm (Option.some.inj e)); have HT1 := Lib.hid ((hT0.drew j2).trans (Tri.of_grown hturn1.grown (.inr (.inl rfl)))); have LR := fun j => look_run hO1 hKl ho j; simp only [Option.getD_none, Option.isSome_none] at LR; have f1 : w1.frozen? ⟨g, q, none⟩ = false := hG1.open_ q; have a0 : w1.cell? ⟨r, 0, none⟩ = some (.string s) := hI1.at_ 0; have a2 : w1.cell? ⟨r, 2, none⟩ = some (.map (some m)) := hI1.at_ 2; have a3 : w1.cell? ⟨r, 3, none⟩ = some (.slice (some ⟨g, 0, none⟩) bk.length bk.length) := hI1.at_ 3; obtain ⟨u0, a4⟩ : ∃ u, w1.cell? ⟨g, q, none⟩ = some u := ⟨_, (hG1.at_ q).trans (Array.getElem?_eq_getElem (by simp only [ints, List.size_toArray, List.length_map]; exact hql))⟩; have HI1 := Lib.hid hI1; have HG1 := Lib.hid hG1; have HO1 := Lib.hid hO1; clear hturn1 hG1 hO1 LR0)
            | (at_mapUpdate; refine wpList_mapUpdate_in _ rfl _ _ _ 109 rfl 100 3 klaw Tryd.underlying109 _ m i _ rfl (HO1.out.setCell (a := ⟨g, q, none⟩) (Ne.symm hgm) _) (by unfold maxLen; omega) _ _ (kx K) rfl rfl (kx_key K hKl) (.lit (.int .i64 (i : Int))) [] (plainElem_int Tryd.underlying3 WF) ?_; intro w5 hown5 hturn5; have HO5 := Lib.hid hown5; have HT5 := Lib.hid hturn5; clear hown5 hturn5))
          go_end0
          refine ⟨rfl, _, bk.set q 4097, List.length_set, ?_, HO5.out, ?_, ?_, ?_, ?_⟩
          · exact Is.kept (Is.away (show Is (w1.drewN j3) r 111 _ from HI1.out) hrg _) HT5.out.grown (fun e => hrm (Option.some.inj e))
          · have h := Is.kept (Is.put (show Is (w1.drewN j3) g 3 _ from HG1.out) q (.int .i64 ((4097 : Nat) : Int))) HT5.out.grown (fun e => hgm (Option.some.inj e))
            rw [ints_set] at h
            exact h
          · have h := map_put HO1.out.isMap HM1.out (by omega)
            rw [← HK.out] at h
            exact h
          · rw [HQ.out]; exact bk_put (ls s) i _ bk HB.out HGP.out (by rw [← HQ.out]; exact hql)
          · exact ((HT1.out.drew _).set (.inr (.inr rfl)) q _).trans (Tri.of_grown HT5.out.grown (.inr (.inl rfl)))
        | some p =>
          have HGP : Hid (Gap (ls s) i (i - p)) := Lib.hid hgap
          have hpi : p < i := hw2.2.1
          have b1 : IntKind.i64.wrap ((i : Int) - (p : Int)) = ((i - p : Nat) : Int) := by rw [IntWalk.i64_in _ (by omega)]; omega
          clear hw2 hgap
          go_enter Tryd.func71, Tryd.ntmps71
          go_wp2_with (first
            | (go_at_call 69; have j2' := hI1; refine (S.out _).mono ?_; rintro e w3 ⟨rfl, j3, rfl⟩)
            | (go_at_call 69; refine (S0.out _).mono ?_; rintro e w2 ⟨rfl, j2, rfl⟩)
            | (at_delete; refine wpList_delete_own _ rfl _ _ 109 100 rfl 3 klaw Tryd.underlying109 _ m i D rfl HO.out _ _ rfl (kx_key K0 hKl0) ?_; intro w1 hO1 hturn1; have hI1 := Is.kept (show Is (w.drewN j2) r 111 _ from HI.out) hturn1.grown (fun e => hrm (Option.some.inj e)); have hG1 := Is.kept (show Is (w.drewN j2) g 3 _ from HG.out) hturn1.grown (fun e => hgm (Option.some.inj e)); have HT1 := Lib.hid ((hT0.drew j2).trans (Tri.of_grown hturn1.grown (.inr (.inl rfl)))); have LR := fun j => look_run hO1 hKl ho j; simp only [Option.getD_some, Option.isSome_some] at LR; have f1 : w1.frozen? ⟨g, q, none⟩ = false := hG1.open_ q; have a0 : w1.cell? ⟨r, 0, none⟩ = some (.string s) := hI1.at_ 0; have a2 : w1.cell? ⟨r, 2, none⟩ = some (.map (some m)) := hI1.at_ 2; have a3 : w1.cell? ⟨r, 3, none⟩ = some (.slice (some ⟨g, 0, none⟩) bk.length bk.length) := hI1.at_ 3; obtain ⟨u0, a4⟩ : ∃ u, w1.cell? ⟨g, q, none⟩ = some u := ⟨_, (hG1.at_ q).trans (Array.getElem?_eq_getElem (by simp only [ints, List.size_toArray, List.length_map]; exact hql))⟩; have HI1 := Lib.hid hI1; have HG1 := Lib.hid hG1; have HO1 := Lib.hid hO1; clear hturn1 hG1 hO1 LR0)
            | (at_mapUpdate; refine wpList_mapUpdate_in _ rfl _ _ _ 109 rfl 100 3 klaw Tryd.underlying109 _ m i _ rfl (HO1.out.setCell (a := ⟨g, q, none⟩) (Ne.symm hgm) _) (by unfold maxLen; omega) _ _ (kx K) rfl rfl (kx_key K hKl) (.lit (.int .i64 (i : Int))) [] (plainElem_int Tryd.underlying3 WF) ?_; intro w5 hown5 hturn5; have HO5 := Lib.hid hown5; have HT5 := Lib.hid hturn5; clear hown5 hturn5))
          go_end0
          refine ⟨rfl, _, bk.set q (i - p), List.length_set, ?_, HO5.out, ?_, ?_, ?_, ?_⟩
          · exact Is.kept (Is.away (show Is (w1.drewN j3) r 111 _ from HI1.out) hrg _) HT5.out.grown (fun e => hrm (Option.some.inj e))
          · have h := Is.kept (Is.put (show Is (w1.drewN j3) g 3 _ from HG1.out) q (.int .i64 (((i - p) : Nat) : Int))) HT5.out.grown (fun e => hgm (Option.some.inj e))
            rw [ints_set] at h
            exact h
          · have h := map_put HO1.out.isMap HM1.out (by omega)
            rw [← HK.out] at h
            exact h
          · rw [HQ.out]; exact bk_put (ls s) i _ bk HB.out HGP.out (by rw [← HQ.out]; exact hql)
          · exact ((HT1.out.drew _).set (.inr (.inr rfl)) q _).trans (Tri.of_grown HT5.out.grown (.inr (.inl rfl)))
      · have n1 : ((p0 : Int) == (L : Int)) = false := by simp; omega
        have hM1 := map_keep hM hw0 hp0
        rw [← HL.out] at hM1
        clear hp0 hw0 hM hK0
        go_enter Tryd.func71, Tryd.ntmps71
        obtain ⟨o, hw2, ho⟩ := hM1 K hKl
        rw [HK.out] at hw2
        have hgap := gap_win (ls s) i o hw2
        have LR := fun j => look_run hO hKl ho j
        have HM1 := Lib.hid hM1
        have HO1 := Lib.hid hO
        have HG1 := Lib.hid hG
        have HI1 := Lib.hid hI
        have HT1 := Lib.hid hT0
        have f1 : (w).frozen? ⟨g, q, none⟩ = false := hG.open_ q
        have a0 : (w).cell? ⟨r, 0, none⟩ = some (.string s) := hI.at_ 0
        have a2 : (w).cell? ⟨r, 2, none⟩ = some (.map (some m)) := hI.at_ 2
        have a3 : (w).cell? ⟨r, 3, none⟩ = some (.slice (some ⟨g, 0, none⟩) bk.length bk.length) := hI.at_ 3
        obtain ⟨u0, a4⟩ : ∃ u, (w).cell? ⟨g, q, none⟩ = some u := ⟨_, (hG.at_ q).trans (Array.getElem?_eq_getElem (by simp only [ints, List.size_toArray, List.length_map]; exact hql))⟩
        cases o with
        | none =>
          have HGP : Hid (Gap (ls s) i 4097) := Lib.hid hgap
          clear hw2 ho hgap
          simp only [Option.getD_none, Option.isSome_none] at LR
          go_wp2_with (first
            | (go_at_call 69; have j2' := j2; refine (S.out _).mono ?_; rintro e w3 ⟨rfl, j3, rfl⟩)
            | (go_at_call 69; refine (S0.out _).mono ?_; rintro e w2 ⟨rfl, j2, rfl⟩)
            | (at_mapUpdate; refine wpList_mapUpdate_in _ rfl _ _ _ 109 rfl 100 3 klaw Tryd.underlying109 _ m i _ rfl (HO1.out.setCell (a := ⟨g, q, none⟩) (Ne.symm hgm) _) (by unfold maxLen; omega) _ _ (kx K) rfl rfl (kx_key K hKl) (.lit (.int .i64 (i : Int))) [] (plainElem_int Tryd.underlying3 WF) ?_; intro w5 hown5 hturn5; have HO5 := Lib.hid hown5; have HT5 := Lib.hid hturn5; clear hown5 hturn5))
          go_end0
          refine ⟨rfl, _, bk.set q 4097, List.length_set, ?_, HO5.out, ?_, ?_, ?_, ?_⟩
          · exact Is.kept (Is.away (show Is ((w).drewN (j2 + j3)) r 111 _ from HI1.out) hrg _) HT5.out.grown (fun e => hrm (Option.some.inj e))
          · have h := Is.kept (Is.put (show Is ((w).drewN (j2 + j3)) g 3 _ from HG1.out) q (.int .i64 ((4097 : Nat) : Int))) HT5.out.grown (fun e => hgm (Option.some.inj e))
            rw [ints_set] at h
            exact h
          · have h := map_put HO1.out.isMap HM1.out (by omega)
            rw [← HK.out] at h
            exact h
          · rw [HQ.out]; exact bk_put (ls s) i _ bk HB.out HGP.out (by rw [← HQ.out]; exact hql)
          · exact ((HT1.out.drew _).set (.inr (.inr rfl)) q _).trans (Tri.of_grown HT5.out.grown (.inr (.inl rfl)))
        | some p =>
          have HGP : Hid (Gap (ls s) i (i - p)) := Lib.hid hgap
          have hpi0 : p < i := hw2.2.1
          clear hw2 ho hgap
          have hpi : p < i := hpi0
          simp only [Option.getD_some, Option.isSome_some] at LR
          have b1 : IntKind.i64.wrap ((i : Int) - (p : Int)) = ((i - p : Nat) : Int) := by rw [IntWalk.i64_in _ (by omega)]; omega
          go_wp2_with (first
            | (go_at_call 69; have j2' := j2; refine (S.out _).mono ?_; rintro e w3 ⟨rfl, j3, rfl⟩)
            | (go_at_call 69; refine (S0.out _).mono ?_; rintro e w2 ⟨rfl, j2, rfl⟩)
            | (at_mapUpdate; refine wpList_mapUpdate_in _ rfl _ _ _ 109 rfl 100 3 klaw Tryd.underlying109 _ m i _ rfl (HO1.out.setCell (a := ⟨g, q, none⟩) (Ne.symm hgm) _) (by unfold maxLen; omega) _ _ (kx K) rfl rfl (kx_key K hKl) (.lit (.int .i64 (i : Int))) [] (plainElem_int Tryd.underlying3 WF) ?_; intro w5 hown5 hturn5; have HO5 := Lib.hid hown5; have HT5 := Lib.hid hturn5; clear hown5 hturn5))
          go_end0
          refine ⟨rfl, _, bk.set q (i - p), List.length_set, ?_, HO5.out, ?_, ?_, ?_, ?_⟩
          · exact Is.kept (Is.away (show Is ((w).drewN (j2 + j3)) r 111 _ from HI1.out) hrg _) HT5.out.grown (fun e => hrm (Option.some.inj e))
          · have h := Is.kept (Is.put (show Is ((w).drewN (j2 + j3)) g 3 _ from HG1.out) q (.int .i64 (((i - p) : Nat) : Int))) HT5.out.grown (fun e => hgm (Option.some.inj e))
            rw [ints_set] at h
            exact h
          · have h := map_put HO1.out.isMap HM1.out (by omega)
            rw [← HK.out] at h
            exact h
          · rw [HQ.out]; exact bk_put (ls s) i _ bk HB.out HGP.out (by rw [← HQ.out]; exact hql)
          · exact ((HT1.out.drew _).set (.inr (.inr rfl)) q _).trans (Tri.of_grown HT5.out.grown (.inr (.inl rfl)))
end Go.Proofs.YtgamkahbebnnaaaDoor
