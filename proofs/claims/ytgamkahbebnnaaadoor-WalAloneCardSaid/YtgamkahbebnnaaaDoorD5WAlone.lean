/-
  The walk of WalAlone, where the lists are within their bounds.
-/
import Derived.Test.YtgamkahbebnnaaaDoorD5WAloneA
namespace Go.Proofs.YtgamkahbebnnaaaDoor.D5
open Go.RowKit WalPlain
set_option maxRecDepth 40000
set_option maxHeartbeats 2000000 in
theorem alone_3 (A1 A2 : Option Addr) (cap1 cap2 : Nat) (l m : List Bs) (again : Bool) (w : World) (hT : S3.Tabs w) (hr1 : Row w w.heap.size A1 (strs l)) (hr2 : Row w w.heap.size A2 (strs m)) (hl : ∀ s ∈ l, s.length ≤ 140737488351232) (hm : ∀ s ∈ m, s.length ≤ 140737488351232)
    (hn1 : A1 = none → l.length = 0) (hn2 : A2 = none → m.length = 0) (hlen1 : l.length ≤ 140737488351232) (hlen2 : m.length ≤ 140737488351232) (h20 : l.length ≤ 20) (g20 : m.length ≤ 20) :
    Calls Tryd.prog 6 #[.slice A1 l.length cap1, .slice A2 m.length cap2, .bool again] w fun e w' => e = .returned (.bool true) ∧ Below w.heap.size w w' := by
  have j1 : decide (20 < (l.length : Int)) = false := by simp; omega
  have j2 : decide (20 < l.length) = false := by simp; omega
  have j3 : decide (20 < (m.length : Int)) = false := by simp; omega
  have j4 : decide (20 < m.length) = false := by simp; omega
  have HT := Lib.hid hT
  have HL := Lib.hid hl
  have HM := Lib.hid hm
  have HN1 := Lib.hid hn1
  have HN2 := Lib.hid hn2
  have HR1 := Lib.hid hr1
  have HR2 := Lib.hid hr2
  have S0 := Lib.hid (small_any w hT)
  clear hT hr1 hr2 hl hm hn1 hn2
  go_enter Tryd.func6, Tryd.ntmps6
  go_wp2_with (go_at_call 7; refine S0.out.mono ?_; rintro e w1 ⟨rfl, h1⟩; have B1 := Lib.hid h1; clear h1)
  obtain ⟨q0, hq0⟩ : ∃ q : Nat, q = 0 := ⟨_, rfl⟩
  have HQ0 := Lib.hid hq0
  have hq0b : q0 ≤ 140737488351232 := by omega

  clear hq0
  go_loopw [8, 9] (fun v8 v9 wr => ∃ k : Nat, v9 = .int .i64 (k : Int) ∧ k ≤ l.length ∧ v8 = .int .i64 ((q0 : Nat) + (tot (l.take k) : Nat) : Int) ∧ wr = w1) (fun _ v9 _ => l.length - (intOf v9).toNat)
  case atStart => exact ⟨0, rfl, Nat.zero_le _, by rw [HQ0.out]; simp [tot], rfl⟩
  case round =>
    obtain ⟨k, rfl, hk, rfl, hwr⟩ := hrel
    subst hwr
    have hT2 : tot (l.take k) ≤ 140737488351232 * 20 := by
      have h1 := tot_le (l.take k) 140737488351232 (fun s hs => HL.out s (List.mem_of_mem_take hs))
      rw [List.length_take] at h1
      have : 140737488351232 * min k l.length ≤ 140737488351232 * 20 := Nat.mul_le_mul_left _ (by omega)
      omega
    by_cases hlt : k < l.length
    · have i1 : decide ((k : Int) < (l.length : Int)) = true := by simp; omega
      have i2 : decide (k < l.length) = true := by simp; omega
      have i3 : decide ((k : Int) < 30) = true := by simp; omega
      have i4 : decide (k < 30) = true := by simp; omega
      obtain ⟨s, hs⟩ : ∃ s, s = l[k] := ⟨_, rfl⟩
      obtain ⟨a, hAa, ha, hc⟩ := HR1.out k _ (strs_at l k hlt)
      rw [← hs] at hc
      have hcr : wr.cell? (a.add k) = some (.string (mk s)) := (B1.out.cell (by rw [add_block]; exact ha)).trans hc
      have hz : (mk s).size = s.length := rfl
      have hsl := HL.out s (by rw [hs]; exact List.getElem_mem hlt)
      have ht := tot_snoc l k hlt
      rw [← hs] at ht
      have HTT := Lib.hid ht
      have W1 : IntKind.i64.wrap ((q0 : Nat) + (tot (l.take k) : Nat) + (s.length : Int) : Int) = (q0 : Nat) + (tot (l.take k) : Nat) + (s.length : Int) := IntWalk.i64_in _ (by omega)
      have W2 : IntKind.i64.wrap ((k : Int) + 1) = (k : Int) + 1 := IntWalk.i64_in _ (by omega)
      subst hAa
      clear hs hc ht
      go_wp2
      go_roundw
      case rel => exact ⟨k + 1, by go_num, by omega, by rw [HTT.out]; go_num, trivial⟩
      case measure => simp [intOf]; omega
    · obtain rfl : k = l.length := by omega
      have i1 : decide ((l.length : Int) < (l.length : Int)) = false := by simp
      have i2 : decide (l.length < l.length) = false := by simp
      rw [List.take_length] at hT2 ⊢
      clear hlt
      obtain ⟨wo, hwo⟩ : ∃ wo, wo = wr := ⟨_, rfl⟩
      subst hwo
      obtain ⟨q, hq⟩ : ∃ q, q = q0 + tot l := ⟨_, rfl⟩
      have HQ := Lib.hid hq
      have e1 : ((q0 : Int) + (tot l : Nat)) = ((q : Nat) : Int) := by omega
      have hqb : q ≤ 140737488351232 * 21 := by omega
      rw [e1]
      clear hq e1 hT2
      go_wp2
      go_loopw [8, 10] (fun v8 v9 wr => ∃ k : Nat, v9 = .int .i64 (k : Int) ∧ k ≤ m.length ∧ v8 = .int .i64 ((q : Nat) + (tot (m.take k) : Nat) : Int) ∧ wr = wo) (fun _ v9 _ => m.length - (intOf v9).toNat)
      case atStart => exact ⟨0, rfl, Nat.zero_le _, by  simp [tot], rfl⟩
      case round =>
        obtain ⟨k, rfl, hk, rfl, hwr⟩ := hrel
        subst hwr
        have hT2 : tot (m.take k) ≤ 140737488351232 * 20 := by
          have h1 := tot_le (m.take k) 140737488351232 (fun s hs => HM.out s (List.mem_of_mem_take hs))
          rw [List.length_take] at h1
          have : 140737488351232 * min k m.length ≤ 140737488351232 * 20 := Nat.mul_le_mul_left _ (by omega)
          omega
        by_cases hlt : k < m.length
        · have i1 : decide ((k : Int) < (m.length : Int)) = true := by simp; omega
          have i2 : decide (k < m.length) = true := by simp; omega
          have i3 : decide ((k : Int) < 30) = true := by simp; omega
          have i4 : decide (k < 30) = true := by simp; omega
          obtain ⟨s, hs⟩ : ∃ s, s = m[k] := ⟨_, rfl⟩
          obtain ⟨a, hAa, ha, hc⟩ := HR2.out k _ (strs_at m k hlt)
          rw [← hs] at hc
          have hcr : wr.cell? (a.add k) = some (.string (mk s)) := (B1.out.cell (by rw [add_block]; exact ha)).trans hc
          have hz : (mk s).size = s.length := rfl
          have hsl := HM.out s (by rw [hs]; exact List.getElem_mem hlt)
          have ht := tot_snoc m k hlt
          rw [← hs] at ht
          have HTT := Lib.hid ht
          have W1 : IntKind.i64.wrap ((q : Nat) + (tot (m.take k) : Nat) + (s.length : Int) : Int) = (q : Nat) + (tot (m.take k) : Nat) + (s.length : Int) := IntWalk.i64_in _ (by omega)
          have W2 : IntKind.i64.wrap ((k : Int) + 1) = (k : Int) + 1 := IntWalk.i64_in _ (by omega)
          subst hAa
          clear hs hc ht
          go_wp2
          go_roundw
          case rel => exact ⟨k + 1, by go_num, by omega, by rw [HTT.out]; go_num, trivial⟩
          case measure => simp [intOf]; omega
        · obtain rfl : k = m.length := by omega
          have i1 : decide ((m.length : Int) < (m.length : Int)) = false := by simp
          have i2 : decide (m.length < m.length) = false := by simp
          rw [List.take_length] at hT2 ⊢
          clear hlt
          obtain ⟨t, ht⟩ : ∃ t, t = q + tot m := ⟨_, rfl⟩
          have HQ2 := Lib.hid ht
          have e1 : ((q : Int) + (tot m : Nat)) = ((t : Nat) : Int) := by omega
          rw [e1]
          clear ht e1 hT2 hqb
          by_cases h2 : 2000 < t
          · have k3 : decide (2000 < (t : Int)) = true := by simp; omega
            have k4 : decide (2000 < t) = true := by simp; omega
            go_wp2
            go_ret
            exact ⟨rfl, B1.out⟩
          · have k3 : decide (2000 < (t : Int)) = false := by simp; omega
            have k4 : decide (2000 < t) = false := by simp; omega
            have ht2 : tot l + tot m ≤ 2000 := by have := HQ0.out; have := HQ.out; have := HQ2.out; omega
            have tl : tot l ≤ 2000 := by omega
            have tm : tot m ≤ 2000 := by omega
            have y1 : (flat rec6 l).length ≤ 5000 := flat_tot tl (by omega)
            have y2 : (flat rec6 m).length ≤ 5000 := flat_tot tm (by omega)
            have sl := of_tot tl
            have sm := of_tot tm
            obtain ⟨wb, hwb⟩ : ∃ wb, wb = wr := ⟨_, rfl⟩
            subst hwb
            have T1 : S3.Tabs wb := HT.out.below B1.out HT.out.1
            have r1 : Row wb wb.heap.size A1 (strs l) := HR1.out.up B1.out B1.out.size
            have r2 : Row wb wb.heap.size A2 (strs m) := HR2.out.up B1.out B1.out.size
            have O1 : Hid (∀ b W, Par wb W (HasP b Dk.new) Non → Calls Tryd.prog 10 #[.pointer (some ⟨b, 0, none⟩), .int .i64 0] W fun e w' => ∃ c D', e = .returned (.tuple #[.pointer (some ⟨c, 0, none⟩), .int .i64 0]) ∧ (Cl D' 0 [] [] ∧ D'.fs 2 = ([], [])) ∧ Par wb w' (HasP b D') (LgP c b 0 [])) := Lib.hid (fun b W h =>
              (st_open_new h stab_non T1 0 (by decide) (by decide)).mono fun e w' ⟨c, D', g1, g2, g3, g4⟩ => ⟨c, D', g1, ⟨g2, by rw [g3 2 (by decide) (by decide)]; rfl⟩, par_lg g4⟩)
            have O2 : Hid (∀ b c1 D W, (Cl D 0 [] [] ∧ D.fs 2 = ([], [])) → Par wb W (HasP b D) (LgP c1 b 0 []) → Calls Tryd.prog 10 #[.pointer (some ⟨b, 0, none⟩), .int .i64 2] W fun e w' => ∃ c D', e = .returned (.tuple #[.pointer (some ⟨c, 0, none⟩), .int .i64 0]) ∧ (Cl D' 0 [] [] ∧ Cl D' 2 [] []) ∧ Par wb w' (DL b c1 0 D' []) (LgP c b 2 [])) := Lib.hid (fun b c1 D W hc h =>
              (st_open (f := 2) h (stab_lg _ _ _ _) hc.1.calm T1 (by decide) (by decide) [] (by show Valid small20 rec6 ((D.fs 2).1 ++ (D.fs 2).2) []; rw [hc.2]; exact valid_nil)).mono fun e w' ⟨c, D', g1, g2, g3, g4⟩ => ⟨c, D', g1, ⟨hc.1.else g2 g3 (by decide) (by decide), g2⟩, par_swap g4⟩)
            have RW : Hid (∀ b c1 c2 D W, (Cl D 0 [] (flat rec6 l) ∧ Cl D 2 [] []) → Par wb W (DL b c1 0 D l) (LgP c2 b 2 []) → Calls Tryd.prog 14 #[.pointer (some ⟨c2, 0, none⟩), .slice A2 m.length cap2] W fun e w' => ∃ D', e = .returned (.int .i64 0) ∧ (Cl D' 0 [] (flat rec6 l) ∧ Cl D' 2 (flat rec6 m) []) ∧ Par wb w' (DL b c2 2 D' m) (LgP c1 b 0 l)) := Lib.hid (fun b c1 c2 D W hc h =>
              (st_rewrite (f := 2) (par_swap h) (stab_lg _ _ _ _) hc.2.calm T1 m A2 cap2 (by decide) (by decide) (r2.below h.below) HN2.out sm (by omega) (by omega)).mono fun e w' ⟨D', g1, g2, _, g3, g4⟩ => ⟨D', g1, ⟨hc.1.else g2 g3 (by decide) (by decide), g2⟩, g4⟩)
            have O3 : Hid (∀ b c1 c2 D W, (Cl D 0 [] (flat rec6 l) ∧ Cl D 2 (flat rec6 m) []) → Par wb W (DL b c2 2 D m) (LgP c1 b 0 l) → Calls Tryd.prog 10 #[.pointer (some ⟨b, 0, none⟩), .int .i64 2] W fun e w' => ∃ c D', e = .returned (.tuple #[.pointer (some ⟨c, 0, none⟩), .int .i64 0]) ∧ (Cl D' 0 [] (flat rec6 l) ∧ Cl D' 2 (flat rec6 m) []) ∧ Par wb w' (DL b c 2 D' m) (LgP c1 b 0 l)) := Lib.hid (fun b c1 c2 D W hc h =>
              (st_open_cl (f := 2) h (stab_lg _ _ _ _) hc.2 T1 (by decide) (by decide) m sm (List.append_nil _)).mono fun e w' ⟨c, D', g1, g2, g3, g4⟩ => ⟨c, D', g1, ⟨hc.1.else g2 g3 (by decide) (by decide), g2⟩, g4⟩)
            have AX : Hid (∀ b c1 c2 D W, Par wb W (DL b c2 2 D m) (LgP c1 b 0 l) → Calls Tryd.prog 13 #[.pointer (some ⟨c1, 0, none⟩)] W fun e w' => ∃ A cap, e = .returned (.slice A l.length cap) ∧ RowAt w' A (strs l) ∧ Par wb w' (DL b c2 2 D m) (LgP c1 b 0 l)) := Lib.hid (fun b c1 c2 D W h =>
              (dl_all (par_swap h) (stab_lg _ _ _ _) (by omega)).mono fun e w' ⟨A, cap, g1, g2⟩ => ⟨A, cap, g1, sl_at g2 rfl, par_swap (g2.drop (fun w G hh => both_left w G hh))⟩)
            have AY : Hid (∀ b c1 c2 D W, Par wb W (DL b c2 2 D m) (LgP c1 b 0 l) → Calls Tryd.prog 13 #[.pointer (some ⟨c2, 0, none⟩)] W fun e w' => ∃ A cap, e = .returned (.slice A m.length cap) ∧ RowAt w' A (strs m) ∧ Par wb w' (DL b c2 2 D m) (LgP c1 b 0 l)) := Lib.hid (fun b c1 c2 D W h =>
              (dl_all h (stab_lg _ _ _ _) (by omega)).mono fun e w' ⟨A, cap, g1, g2⟩ => ⟨A, cap, g1, sl_at g2 rfl, g2.drop (fun w G hh => both_left w G hh)⟩)
            have SX : Hid (∀ A c W, RowAt W A (strs l) → Below wb.heap.size wb W → Calls Tryd.prog 22 #[.slice A l.length c, .slice A1 l.length cap1] W fun e w' => e = .returned (.bool true) ∧ ∃ j, w' = W.drewN j) := Lib.hid (fun A c W h1 h2 => by
              have := same_any A A1 c cap1 l l W h1 (r1.below h2).at_ (by omega)
              rwa [decide_eq_true rfl] at this)
            have SY : Hid (∀ A c W, RowAt W A (strs m) → Below wb.heap.size wb W → Calls Tryd.prog 22 #[.slice A m.length c, .slice A2 m.length cap2] W fun e w' => e = .returned (.bool true) ∧ ∃ j, w' = W.drewN j) := Lib.hid (fun A c W h1 h2 => by
              have := same_any A A2 c cap2 m m W h1 (r2.below h2).at_ (by omega)
              rwa [decide_eq_true rfl] at this)
            have KD : Hid (∀ b c1 c2 D W j, Par wb W (DL b c2 2 D m) (LgP c1 b 0 l) → Par wb (W.drewN j) (DL b c2 2 D m) (LgP c1 b 0 l)) := Lib.hid (fun b c1 c2 D W j h => h.kept (stab_dl _ _ _ _ _) (stab_lg _ _ _ _) (drewB _ j))
            have FL : Hid (∀ b c1 c2 D W, (Cl D 0 [] (flat rec6 l) ∧ Cl D 2 (flat rec6 m) []) → Par wb W (DL b c2 2 D m) (LgP c1 b 0 l) → Calls Tryd.prog 12 #[.pointer (some ⟨c1, 0, none⟩)] W fun e w' => e = .returned (.int .i64 0) ∧ Below wb.heap.size wb w') := Lib.hid (fun b c1 c2 D W hc h =>
              (st_flush (f := 0) (par_swap h) (stab_lg _ _ _ _) hc.1 (by decide) (by decide)).mono fun e w' ⟨D', g1, g2, g3, g4⟩ => ⟨g1, g4.below⟩)
            have APP : Hid (∀ b c1 c2 D W (k : Nat) (hk : k < l.length), (Cl D 0 [] (flat rec6 (l.take k)) ∧ Cl D 2 [] []) → Par wb W (DL b c1 0 D (l.take k)) (LgP c2 b 2 []) → Calls Tryd.prog 11 #[.pointer (some ⟨c1, 0, none⟩), .string (mk l[k])] W fun e w' => e = .returned (.int .i64 0) ∧ ∃ D, (Cl D 0 [] (flat rec6 (l.take (k + 1))) ∧ Cl D 2 [] []) ∧ Par wb w' (DL b c1 0 D (l.take (k + 1))) (LgP c2 b 2 [])) := Lib.hid (fun b c1 c2 D W k hk hc h => by
              have e1 : flat rec6 (l.take (k + 1)) = flat rec6 (l.take k) ++ rec6 l[k] := by rw [← List.take_append_getElem hk, flat_snoc]
              have e2 : l.take (k + 1) = l.take k ++ [l[k]] := by rw [← List.take_append_getElem hk]
              have hpre : (flat rec6 (l.take (k + 1))).length ≤ 16777216 := Nat.le_trans (flat_mono rec6 (List.take_prefix _ _)).length_le (by omega)
              refine (st_append (f := 0) h (stab_lg _ _ _ _) hc.1 T1 (by decide) (by decide) l[k] (sl _ (List.getElem_mem hk)) (by rw [List.length_take]; omega) (by rw [e1, List.length_append] at hpre; simp only [List.length_nil]; omega)).mono fun e w' ⟨D', g1, g2, g3, g4⟩ => ⟨g1, D', ⟨?_, ?_⟩, ?_⟩
              · rw [e1]; exact g2
              · exact hc.2.else g2 g3 (by decide) (by decide)
              · rw [e2]; exact g4)
            have RR := Lib.hid r1
            clear HQ0 HQ HQ2 hq0b ht2 tl tm y1 y2 sl sm T1 r1 r2 HT HR1 HR2 HL HM
            go_wp2_with (first
              | (go_at_call 10; have X := H2; clear X; go_must (refine (O2.out _ _ _ _ C2.out H2.out).mono ?_); rintro e v3 ⟨c3, D3, rfl, h1, h2⟩; have C3 := Lib.hid h1; have H3 := Lib.hid h2; clear h1 h2)
              | (go_at_call 10; go_must (refine (O1.out _ _ H1.out).mono ?_); rintro e v2 ⟨c2, D2, rfl, h1, h2⟩; have C2 := Lib.hid h1; have H2 := Lib.hid h2; clear h1 h2)
              | (go_at_call 8; go_must (refine (st_new wb _ (Below.refl _ _)).mono ?_); rintro e v1 ⟨b, rfl, h⟩; have H1 := Lib.hid h; clear h))
            go_loopw [16] (fun v16 wr => ∃ k : Nat, v16 = .int .i64 (k : Int) ∧ k ≤ l.length ∧ Hid (∃ D, (Cl D 0 [] (flat rec6 (l.take k)) ∧ Cl D 2 [] []) ∧ Par wb wr (DL b c2 0 D (l.take k)) (LgP c3 b 2 []))) (fun v16 _ => l.length - (intOf v16).toNat)
            case atStart => exact ⟨0, rfl, Nat.zero_le _, Lib.hid ⟨D3, C3.out, H3.out⟩⟩
            case round =>
              clear H1 H2 H3 C2 C3
              obtain ⟨k, rfl, hk, HK⟩ := hrel
              by_cases hlt : k < l.length
              · have i1 : decide ((k : Int) < (l.length : Int)) = true := by simp; omega
                have i2 : decide (k < l.length) = true := by simp; omega
                have W1 : IntKind.i64.wrap ((k : Int) + 1) = (k : Int) + 1 := IntWalk.i64_in _ (by omega)
                obtain ⟨s, hs⟩ : ∃ s, s = l[k] := ⟨_, rfl⟩
                obtain ⟨a, hAa, ha, hc⟩ := RR.out k _ (strs_at l k hlt)
                rw [← hs] at hc
                obtain ⟨D, hD, hP⟩ := HK.out
                have hcr : wr.cell? (a.add k) = some (.string (mk s)) := (hP.below.cell (by rw [add_block]; exact ha)).trans hc
                have AP := Lib.hid (APP.out _ _ _ _ _ k hlt hD hP)
                rw [← hs] at AP
                subst hAa
                clear hs hc hD hP HK O1 O2 RW O3 AX AY SX SY KD FL APP
                go_wp2_with (go_at_call 11; refine AP.out.mono ?_; rintro e w3 ⟨rfl, h3⟩; have H3 := Lib.hid h3; clear h3)
                go_roundw
                case rel => exact ⟨k + 1, by go_num, by omega, H3⟩
                case measure => simp [intOf]; omega
              · obtain rfl : k = l.length := by omega
                have i1 : decide ((l.length : Int) < (l.length : Int)) = false := by simp
                have i2 : decide (l.length < l.length) = false := by simp
                have HK2 := HK.out
                rw [List.take_length] at HK2
                obtain ⟨D, hD, hP⟩ := HK2
                have C5 := Lib.hid hD
                have H5 := Lib.hid hP
                clear hD hP HK hlt O1 O2 APP
                cases again with
          | false =>
              go_wp2_with (first
                | (go_at_call 12; go_must (refine (FL.out _ _ _ _ _ C6.out HC.out).mono ?_); rintro e vc ⟨rfl, h⟩; have BF := Lib.hid h; clear h)
                | (go_at_call 22; have X := HB; clear X; go_must (refine (SY.out _ _ _ RB.out HB.out.below).mono ?_); rintro e v ⟨rfl, j, rfl⟩; have HC := Lib.hid (KD.out _ _ _ _ _ j HB.out))
                | (go_at_call 13; have X := H8; clear X; go_must (refine (AY.out _ _ _ _ _ H8.out).mono ?_); rintro e vb ⟨A9, c9, rfl, h1, h2⟩; have RB := Lib.hid h1; have HB := Lib.hid h2; clear h1 h2)
                | (go_at_call 22; go_must (refine (SX.out _ _ _ RA.out H7.out.below).mono ?_); rintro e v ⟨rfl, j, rfl⟩; have H8 := Lib.hid (KD.out _ _ _ _ _ j H7.out))
                | (go_at_call 13; go_must (refine (AX.out _ _ _ _ _ H6.out).mono ?_); rintro e v7 ⟨A7, c7, rfl, h1, h2⟩; have RA := Lib.hid h1; have H7 := Lib.hid h2; clear h1 h2)
                | (go_at_call 10; go_must (refine (O3.out _ _ _ _ _ C6.out H6.out).mono ?_); rintro e v8 ⟨c8, D8, rfl, h1, h2⟩; have C6 := Lib.hid h1; have H6 := Lib.hid h2; clear h1 h2)
                | (go_at_call 14; go_must (refine (RW.out _ _ _ _ _ C5.out H5.out).mono ?_); rintro e v6 ⟨D6, rfl, h1, h2⟩; have C6 := Lib.hid h1; have H6 := Lib.hid h2; clear h1 h2))
              go_ret
              exact ⟨by simp, B1.out.trans (BF.out.mono B1.out.size)⟩
          | true =>
              go_wp2_with (first
                | (go_at_call 12; go_must (refine (FL.out _ _ _ _ _ C6.out HC.out).mono ?_); rintro e vc ⟨rfl, h⟩; have BF := Lib.hid h; clear h)
                | (go_at_call 22; have X := HB; clear X; go_must (refine (SY.out _ _ _ RB.out HB.out.below).mono ?_); rintro e v ⟨rfl, j, rfl⟩; have HC := Lib.hid (KD.out _ _ _ _ _ j HB.out))
                | (go_at_call 13; have X := H8; clear X; go_must (refine (AY.out _ _ _ _ _ H8.out).mono ?_); rintro e vb ⟨A9, c9, rfl, h1, h2⟩; have RB := Lib.hid h1; have HB := Lib.hid h2; clear h1 h2)
                | (go_at_call 22; go_must (refine (SX.out _ _ _ RA.out H7.out.below).mono ?_); rintro e v ⟨rfl, j, rfl⟩; have H8 := Lib.hid (KD.out _ _ _ _ _ j H7.out))
                | (go_at_call 13; go_must (refine (AX.out _ _ _ _ _ H6.out).mono ?_); rintro e v7 ⟨A7, c7, rfl, h1, h2⟩; have RA := Lib.hid h1; have H7 := Lib.hid h2; clear h1 h2)
                | (go_at_call 10; go_must (refine (O3.out _ _ _ _ _ C6.out H6.out).mono ?_); rintro e v8 ⟨c8, D8, rfl, h1, h2⟩; have C6 := Lib.hid h1; have H6 := Lib.hid h2; clear h1 h2)
                | (go_at_call 14; go_must (refine (RW.out _ _ _ _ _ C5.out H5.out).mono ?_); rintro e v6 ⟨D6, rfl, h1, h2⟩; have C6 := Lib.hid h1; have H6 := Lib.hid h2; clear h1 h2))
              go_ret
              exact ⟨by simp, B1.out.trans (BF.out.mono B1.out.size)⟩

theorem alone_any (A1 A2 : Option Addr) (cap1 cap2 : Nat) (l m : List Bs) (again : Bool) (w : World) (hT : S3.Tabs w) (hr1 : Row w w.heap.size A1 (strs l)) (hr2 : Row w w.heap.size A2 (strs m)) (hl : ∀ s ∈ l, s.length ≤ 140737488351232) (hm : ∀ s ∈ m, s.length ≤ 140737488351232)
    (hn1 : A1 = none → l.length = 0) (hn2 : A2 = none → m.length = 0) (hlen1 : l.length ≤ 140737488351232) (hlen2 : m.length ≤ 140737488351232) :
    Calls Tryd.prog 6 #[.slice A1 l.length cap1, .slice A2 m.length cap2, .bool again] w fun e w' => e = .returned (.bool true) ∧ Below w.heap.size w w' := by
  by_cases h20 : 20 < l.length
  · exact alone_1 A1 A2 cap1 cap2 l m again w hT hr1 hr2 hlen1 hlen2 h20
  · by_cases g20 : 20 < m.length
    · exact alone_2 A1 A2 cap1 cap2 l m again w hT hr1 hr2 hlen1 hlen2 (by omega) g20
    · exact alone_3 A1 A2 cap1 cap2 l m again w hT hr1 hr2 hl hm hn1 hn2 hlen1 hlen2 (by omega) (by omega)
end Go.Proofs.YtgamkahbebnnaaaDoor.D5
