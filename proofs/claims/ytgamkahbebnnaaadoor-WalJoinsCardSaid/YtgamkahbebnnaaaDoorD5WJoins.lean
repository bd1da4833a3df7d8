/-
  The walk of WalJoins, where the lists are within their bounds.
-/
import Derived.Test.YtgamkahbebnnaaaDoorD5WJoinsA
namespace Go.Proofs.YtgamkahbebnnaaaDoor.D5
open Go.RowKit WalPlain
set_option maxRecDepth 40000
set_option maxHeartbeats 2000000 in
theorem joins_3 (A1 A2 : Option Addr) (cap1 cap2 : Nat) (l m : List Bs) (x : Bs) (w : World) (hT : S3.Tabs w) (hr1 : Row w w.heap.size A1 (strs l)) (hr2 : Row w w.heap.size A2 (strs m)) (hl : ∀ s ∈ l, s.length ≤ 140737488351232) (hm : ∀ s ∈ m, s.length ≤ 140737488351232) (hx : x.length ≤ 140737488351232)
    (hn1 : A1 = none → l.length = 0) (hn2 : A2 = none → m.length = 0) (hlen1 : l.length ≤ 140737488351232) (hlen2 : m.length ≤ 140737488351232) (h20 : l.length ≤ 20) (g20 : m.length ≤ 20) :
    Calls Tryd.prog 5 #[.slice A1 l.length cap1, .slice A2 m.length cap2, .string (mk x)] w fun e w' => e = .returned (.bool true) ∧ Below w.heap.size w w' := by
  have j1 : decide (20 < (l.length : Int)) = false := by simp; omega
  have j2 : decide (20 < l.length) = false := by simp; omega
  have j3 : decide (20 < (m.length : Int)) = false := by simp; omega
  have j4 : decide (20 < m.length) = false := by simp; omega
  have HT := Lib.hid hT
  have HL := Lib.hid hl
  have HM := Lib.hid hm
  have HN1 := Lib.hid hn1
  have HN2 := Lib.hid hn2
  have HR1 := Lib.hid hr1
  have HR2 := Lib.hid hr2
  have S0 := Lib.hid (small_any w hT)
  clear hT hr1 hr2 hl hm hn1 hn2
  have hz0 : (mk x).size = x.length := rfl
  go_enter Tryd.func5, Tryd.ntmps5
  go_wp2_with (go_at_call 7; refine S0.out.mono ?_; rintro e w1 ⟨rfl, h1⟩; have B1 := Lib.hid h1; clear h1)
  obtain ⟨q0, hq0⟩ : ∃ q : Nat, q = x.length := ⟨_, rfl⟩
  have HQ0 := Lib.hid hq0
  have hq0b : q0 ≤ 140737488351232 := by omega
  rw [← hq0]
  clear hq0
  go_loopw [8, 9] (fun v8 v9 wr => ∃ k : Nat, v9 = .int .i64 (k : Int) ∧ k ≤ l.length ∧ v8 = .int .i64 ((q0 : Nat) + (tot (l.take k) : Nat) : Int) ∧ wr = w1) (fun _ v9 _ => l.length - (intOf v9).toNat)
  case atStart => exact ⟨0, rfl, Nat.zero_le _, by  simp [tot], rfl⟩
  case round =>
    obtain ⟨k, rfl, hk, rfl, hwr⟩ := hrel
    subst hwr
    have hT2 : tot (l.take k) ≤ 140737488351232 * 20 := by
      have h1 := tot_le (l.take k) 140737488351232 (fun s hs => HL.out s (List.mem_of_mem_take hs))
      rw [List.length_take] at h1
      have : 140737488351232 * min k l.length ≤ 140737488351232 * 20 := Nat.mul_le_mul_left _ (by omega)
      omega
    by_cases hlt : k < l.length
    · have i1 : decide ((k : Int) < (l.length : Int)) = true := by simp; omega
      have i2 : decide (k < l.length) = true := by simp; omega
      have i3 : decide ((k : Int) < 30) = true := by simp; omega
      have i4 : decide (k < 30) = true := by simp; omega
      obtain ⟨s, hs⟩ : ∃ s, s = l[k] := ⟨_, rfl⟩
      obtain ⟨a, hAa, ha, hc⟩ := HR1.out k _ (strs_at l k hlt)
      rw [← hs] at hc
      have hcr : wr.cell? (a.add k) = some (.string (mk s)) := (B1.out.cell (by rw [add_block]; exact ha)).trans hc
      have hz : (mk s).size = s.length := rfl
      have hsl := HL.out s (by rw [hs]; exact List.getElem_mem hlt)
      have ht := tot_snoc l k hlt
      rw [← hs] at ht
      have HTT := Lib.hid ht
      have W1 : IntKind.i64.wrap ((q0 : Nat) + (tot (l.take k) : Nat) + (s.length : Int) : Int) = (q0 : Nat) + (tot (l.take k) : Nat) + (s.length : Int) := IntWalk.i64_in _ (by omega)
      have W2 : IntKind.i64.wrap ((k : Int) + 1) = (k : Int) + 1 := IntWalk.i64_in _ (by omega)
      subst hAa
      clear hs hc ht
      go_wp2
      go_roundw
      case rel => exact ⟨k + 1, by go_num, by omega, by rw [HTT.out]; go_num, trivial⟩
      case measure => simp [intOf]; omega
    · obtain rfl : k = l.length := by omega
      have i1 : decide ((l.length : Int) < (l.length : Int)) = false := by simp
      have i2 : decide (l.length < l.length) = false := by simp
      rw [List.take_length] at hT2 ⊢
      clear hlt
      obtain ⟨wo, hwo⟩ : ∃ wo, wo = wr := ⟨_, rfl⟩
      subst hwo
      obtain ⟨q, hq⟩ : ∃ q, q = q0 + tot l := ⟨_, rfl⟩
      have HQ := Lib.hid hq
      have e1 : ((q0 : Int) + (tot l : Nat)) = ((q : Nat) : Int) := by omega
      have hqb : q ≤ 140737488351232 * 21 := by omega
      rw [e1]
      clear hq e1 hT2
      go_wp2
      go_loopw [8, 10] (fun v8 v9 wr => ∃ k : Nat, v9 = .int .i64 (k : Int) ∧ k ≤ m.length ∧ v8 = .int .i64 ((q : Nat) + (tot (m.take k) : Nat) : Int) ∧ wr = wo) (fun _ v9 _ => m.length - (intOf v9).toNat)
      case atStart => exact ⟨0, rfl, Nat.zero_le _, by  simp [tot], rfl⟩
      case round =>
        obtain ⟨k, rfl, hk, rfl, hwr⟩ := hrel
        subst hwr
        have hT2 : tot (m.take k) ≤ 140737488351232 * 20 := by
          have h1 := tot_le (m.take k) 140737488351232 (fun s hs => HM.out s (List.mem_of_mem_take hs))
          rw [List.length_take] at h1
          have : 140737488351232 * min k m.length ≤ 140737488351232 * 20 := Nat.mul_le_mul_left _ (by omega)
          omega
        by_cases hlt : k < m.length
        · have i1 : decide ((k : Int) < (m.length : Int)) = true := by simp; omega
          have i2 : decide (k < m.length) = true := by simp; omega
          have i3 : decide ((k : Int) < 30) = true := by simp; omega
          have i4 : decide (k < 30) = true := by simp; omega
          obtain ⟨s, hs⟩ : ∃ s, s = m[k] := ⟨_, rfl⟩
          obtain ⟨a, hAa, ha, hc⟩ := HR2.out k _ (strs_at m k hlt)
          rw [← hs] at hc
          have hcr : wr.cell? (a.add k) = some (.string (mk s)) := (B1.out.cell (by rw [add_block]; exact ha)).trans hc
          have hz : (mk s).size = s.length := rfl
          have hsl := HM.out s (by rw [hs]; exact List.getElem_mem hlt)
          have ht := tot_snoc m k hlt
          rw [← hs] at ht
          have HTT := Lib.hid ht
          have W1 : IntKind.i64.wrap ((q : Nat) + (tot (m.take k) : Nat) + (s.length : Int) : Int) = (q : Nat) + (tot (m.take k) : Nat) + (s.length : Int) := IntWalk.i64_in _ (by omega)
          have W2 : IntKind.i64.wrap ((k : Int) + 1) = (k : Int) + 1 := IntWalk.i64_in _ (by omega)
          subst hAa
          clear hs hc ht
          go_wp2
          go_roundw
          case rel => exact ⟨k + 1, by go_num, by omega, by rw [HTT.out]; go_num, trivial⟩
          case measure => simp [intOf]; omega
        · obtain rfl : k = m.length := by omega
          have i1 : decide ((m.length : Int) < (m.length : Int)) = false := by simp
          have i2 : decide (m.length < m.length) = false := by simp
          rw [List.take_length] at hT2 ⊢
          clear hlt
          obtain ⟨t, ht⟩ : ∃ t, t = q + tot m := ⟨_, rfl⟩
          have HQ2 := Lib.hid ht
          have e1 : ((q : Int) + (tot m : Nat)) = ((t : Nat) : Int) := by omega
          rw [e1]
          clear ht e1 hT2 hqb
          by_cases h2 : 2000 < t
          · have k3 : decide (2000 < (t : Int)) = true := by simp; omega
            have k4 : decide (2000 < t) = true := by simp; omega
            go_wp2
            go_ret
            exact ⟨rfl, B1.out⟩
          · have k3 : decide (2000 < (t : Int)) = false := by simp; omega
            have k4 : decide (2000 < t) = false := by simp; omega
            have ht2 : x.length + tot l + tot m ≤ 2000 := by have := HQ0.out; have := HQ.out; have := HQ2.out; omega
            have hx2 : x.length ≤ 2000 := by omega
            have tb : tot (l ++ m) ≤ 2000 := by rw [tot_append]; omega
            have tl : tot l ≤ 2000 := by omega
            have tm : tot m ≤ 2000 := by omega
            obtain ⟨p, hp⟩ : ∃ p, p = (l ++ m).length := ⟨_, rfl⟩
            have hp2 : p = l.length + m.length := by rw [hp, List.length_append]
            have hp40 : p ≤ 40 := by omega
            obtain ⟨X1, hX1⟩ : ∃ X, X = flat rec6 l := ⟨_, rfl⟩
            obtain ⟨X2, hX2⟩ : ∃ X, X = flat rec6 m := ⟨_, rfl⟩
            obtain ⟨X3, hX3⟩ : ∃ X, X = flat rec6 (l ++ m) := ⟨_, rfl⟩
            have hcat : X3 = X1 ++ X2 := by rw [hX3, hX1, hX2, flat_append]
            have y1 : X1.length ≤ 5000 := by rw [hX1]; exact flat_tot tl (by omega)
            have y2 : X2.length ≤ 5000 := by rw [hX2]; exact flat_tot tm (by omega)
            have y3 : X3.length ≤ 5000 := by rw [hX3]; exact flat_tot tb (by omega)
            have sl := of_tot tl
            have sm := of_tot tm
            have sb := of_tot tb
            obtain ⟨now, hv⟩ := Form.has (rec_form crcN) (X3 ++ x)
            have hv : Valid small20 rec6 (X3 ++ x) now := hv
            have hpre : l ++ m <+: now := Valid.most (rec_form crcN) hv sb (show flat rec6 (l ++ m) <+: X3 ++ x from hX3 ▸ List.prefix_append _ _)
            have hcnt : now.length ≤ 16777216 := by
              have h1 := flat_count now
              have h2 := hv.part.length_le
              rw [List.length_append] at h2
              omega
            have heq : now.length = p → now = l ++ m := fun h => (hpre.eq_of_length (by rw [← hp]; exact h.symm)).symm
            obtain ⟨V1, hV1⟩ : ∃ V, V = mk X1 := ⟨_, rfl⟩
            obtain ⟨V2, hV2⟩ : ∃ V, V = mk X2 := ⟨_, rfl⟩
            obtain ⟨V3, hV3⟩ : ∃ V, V = mk X3 := ⟨_, rfl⟩
            have s1 : V1.size ≤ 5000 := by rw [hV1]; exact y1
            have s2 : V2.size ≤ 5000 := by rw [hV2]; exact y2
            have s3 : V3.size ≤ 5000 := by rw [hV3]; exact y3
            have sX : (mk x).size ≤ 2000 := hx2
            have a12 : (V1 ++ V2).size = V1.size + V2.size := by simp
            have a3X : (V3 ++ mk x).size = V3.size + (mk x).size := by simp
            have c12 : ((V1 ++ V2).toList == V3.toList) = true := by rw [hV1, hV2, hV3, mk5_append, ← hcat]; simp
            have FI1 : Hid (Calls Tryd.prog 20 #[.slice A1 l.length cap1] wr fun e w' => e = .returned (.tuple #[.string V1, .bool true]) ∧ Below wr.heap.size wr w') := Lib.hid (by
              rw [hV1, hX1]
              exact file_any A1 cap1 l wr (HT.out.below B1.out HT.out.1) (HR1.out.up B1.out B1.out.size) sl (by rw [← hX1]; omega) (by omega))
            have FI2 : Hid (∀ W, Below w.heap.size w W → Calls Tryd.prog 20 #[.slice A2 m.length cap2] W fun e w' => e = .returned (.tuple #[.string V2, .bool true]) ∧ Below W.heap.size W w') := Lib.hid (fun W h => by
              rw [hV2, hX2]
              exact file_any A2 cap2 m W (HT.out.below h HT.out.1) (HR2.out.up h h.size) sm (by rw [← hX2]; omega) (by omega))
            have FI3 : Hid (∀ W A c, Below w.heap.size w W → Row W W.heap.size A (strs (l ++ m)) → Calls Tryd.prog 20 #[.slice A p c] W fun e w' => e = .returned (.tuple #[.string V3, .bool true]) ∧ Below W.heap.size W w') := Lib.hid (fun W A c h hr => by
              rw [hV3, hX3, hp]
              exact file_any A c (l ++ m) W (HT.out.below h HT.out.1) hr sb (by rw [← hX3]; omega) (by omega))
            have AP : Hid (∀ W0 b W, Par W0 W (HasP b Dk.new) Non → Calls Tryd.prog 24 #[.pointer (some ⟨b, 0, none⟩), .int .i64 0, .string (V3 ++ mk x)] W fun e w' => e = .returned (.int .i64 0) ∧ ∃ D, Cl D 0 [] (X3 ++ x) ∧ Par W0 w' (HasP b D) Non) := Lib.hid (fun W0 b W h => by
              have e1 := calm_new.app (show (0 : Int) ≤ 0 by decide) (by decide) (s := X3 ++ x) (by show 0 + (X3 ++ x).length ≤ _; rw [List.length_append]; omega)
              have e2 : V3 ++ mk x = mk (X3 ++ x) := by rw [hV3, mk5_append]
              rw [e2]
              refine (par_app h stab_non 0 (mk (X3 ++ x))).mono fun e w' ⟨g1, g2⟩ => ?_
              have e3 : ls (mk (X3 ++ x)) = X3 ++ x := rfl
              rw [e3, e1] at g1 g2
              exact ⟨g1, _, ⟨calm_new.set _ _, by simp [Dk.set, upd, Dk.new]⟩, g2⟩)
            have OP : Hid (∀ W0 b D W, S3.Tabs W0 → Cl D 0 [] (X3 ++ x) → Par W0 W (HasP b D) Non → Calls Tryd.prog 10 #[.pointer (some ⟨b, 0, none⟩), .int .i64 0] W fun e w' => ∃ c D', e = .returned (.tuple #[.pointer (some ⟨c, 0, none⟩), .int .i64 0]) ∧ Cl D' 0 (flat rec6 now) [] ∧ Par W0 w' (DL b c 0 D' now) Non) := Lib.hid (fun W0 b D W hT0 hc h =>
              (st_open (f := 0) h stab_non hc.calm hT0 (by decide) (by decide) now (by show Valid small20 rec6 ((D.fs 0).1 ++ (D.fs 0).2) now; rw [hc.fs]; exact hv)).mono fun e w' ⟨c, D', g1, g2, _, g3⟩ => ⟨c, D', g1, g2, g3⟩)
            have BG : Hid (∀ W A3 c3 A4 c4, RowAt W A4 (strs now) → RowAt W A3 (strs (l ++ m)) → now.length ≤ c4 → Calls Tryd.prog 23 #[.slice A4 now.length c4, .slice A3 p c3] W fun e w' => e = .returned (.bool true) ∧ ∃ j, w' = W.drewN j) := Lib.hid (fun W A3 c3 A4 c4 h1 h2 h3 => by
              have := begins_any A4 A3 c4 c3 now (l ++ m) W h1 h2 h3 hcnt
              rw [decide_eq_true hpre, ← hp] at this
              exact this)
            have SZ : Hid (now.length = p → ∀ W0 W b c D Q, Cl D 0 (flat rec6 now) [] → Par W0 W (DL b c 0 D now) Q → Calls Tryd.prog 25 #[.pointer (some ⟨b, 0, none⟩), .int .i64 0] W fun e w' => e = .returned (.int .i64 (V3.size : Nat)) ∧ w' = W) := Lib.hid (fun h W0 W b c D Q hc hP => by
              have := dl_size hP 0
              have e : D.size 0 = V3.size := by
                unfold Dk.size
                rw [if_neg (by simp [isF_in])]
                show D.len 0 = _
                unfold Dk.len
                rw [hc.fs, heq h, ← hX3, hV3]
                rfl
              rwa [e] at this)
            have RW : Hid (∀ W0 W b c D Q A cp, Par W0 W (DL b c 0 D now) Q → Stab Q → Cl D 0 (flat rec6 now) [] → S3.Tabs W0 → Row W0 W0.heap.size A (strs (l ++ m)) → (A = none → p = 0) → Calls Tryd.prog 14 #[.pointer (some ⟨c, 0, none⟩), .slice A p cp] W fun e w' => ∃ D', e = .returned (.int .i64 0) ∧ (Cl D' 0 X3 [] ∧ D'.len 1 = 0) ∧ Par W0 w' (DL b c 0 D' (l ++ m)) Q) := Lib.hid (fun W0 W b c D Q A cp h hQ hc hT0 hr hA => by
              have := st_rewrite (f := 0) h hQ hc.calm hT0 (l ++ m) A cp (by decide) (by decide) (hr.below h.below) (fun e => by rw [← hp]; exact hA e) sb (by rw [← hX3]; omega) (by omega)
              rw [← hX3, ← hp] at this
              exact this.mono fun e w' ⟨D', g1, g2, g3, _, g4⟩ => ⟨D', g1, ⟨g2, g3⟩, g4⟩)
            have RD : Hid (∀ W0 W b c D Q, Cl D 0 X3 [] ∧ D.len 1 = 0 → Par W0 W (DL b c 0 D (l ++ m)) Q → Calls Tryd.prog 26 #[.pointer (some ⟨b, 0, none⟩), .int .i64 0] W fun e w' => e = .returned (.tuple #[.string V3, .int .i64 0]) ∧ w' = W) := Lib.hid (fun W0 W b c D Q hc hP => by
              have := dl_read hP 0
              rw [hc.1.calm.read (by decide) (by decide)] at this
              have e : D.all (0 : Int).toNat = X3 := by show (D.fs 0).1 ++ (D.fs 0).2 = _; rw [hc.1.fs]; exact List.append_nil _
              rw [e, ← hV3] at this
              exact this)
            have S1 : Hid (∀ W0 W b c D Q, Cl D 0 X3 [] ∧ D.len 1 = 0 → Par W0 W (DL b c 0 D (l ++ m)) Q → Calls Tryd.prog 25 #[.pointer (some ⟨b, 0, none⟩), .int .i64 1] W fun e w' => e = .returned (.int .i64 0) ∧ w' = W) := Lib.hid (fun W0 W b c D Q hc hP => by
              have := dl_size hP 1
              have e : D.size 1 = 0 := by
                unfold Dk.size
                rw [if_neg (by simp [isF_in])]
                exact hc.2
              rwa [e] at this)
            have e33 : (V3.toList == V3.toList) = true := by simp
            have HP := Lib.hid hp2
            obtain ⟨i0, hi, hi0, hi1, hi2⟩ := info_parts info9
            have hcl : (l.length + m.length) * 16 ≤ 140737488355328 := by omega
            clear HQ0 HQ HQ2 hq0b ht2 tb tl tm hX1 hX2 hX3 hcat y1 y2 y3 sl sm sb hv hpre hV1 hV2 hV3 heq hp hp2
            by_cases hnow : now.length = p
            · have S0 := Lib.hid (SZ.out hnow)
              clear SZ
              subst hnow
              go_wp2_with (first
                | (go_at_call 25; have X := HG; clear X; go_must (refine (S1.out _ _ _ _ _ _ CF.out HG.out).mono ?_); rintro e v ⟨rfl, rfl⟩)
                | (go_at_call 26; go_must (refine (RD.out _ _ _ _ _ _ CF.out HF.out).mono ?_); rintro e v ⟨rfl, rfl⟩; have HG := HF)
                | (go_at_call 14; go_must (refine (RW.out _ _ _ _ _ _ _ _ HD.out stab_non CC.out T6.out R6.out N6.out).mono ?_); rintro e ve ⟨De, rfl, h1, h2⟩; have CF := Lib.hid h1; have HF := Lib.hid h2; clear h1 h2)
                | (go_at_call 25; go_must (refine (S0.out _ _ _ _ _ _ CC.out HD.out).mono ?_); rintro e v ⟨rfl, rfl⟩)
                | (go_at_call 13; have X := HB; clear X; go_must (refine (dl_all HB.out stab_non hcnt).mono ?_); rintro e vd ⟨A5, c5, rfl, h⟩; have HD := Lib.hid (h.drop (fun w G hh => to_non w G hh)); clear h)
                | (go_at_call 23; go_must (refine (BG.out _ _ _ _ _ R9.out (R6.out.below HA.out.below).at_ K9.out).mono ?_); rintro e vb ⟨rfl, j, rfl⟩; have HB := Lib.hid (HA.out.kept (stab_dl _ _ _ _ _) stab_non (drewB _ j)))
                | (go_at_call 13; go_must (refine (dl_all H9.out stab_non hcnt).mono ?_); rintro e va ⟨A4, c4, rfl, h⟩; have R9 := Lib.hid (sl_at h rfl); have K9 := Lib.hid (own_cap (sl_own h)); have HA := Lib.hid (h.drop (fun w G hh => to_non w G hh)); clear h)
                | (go_at_call 10; go_must (refine (OP.out _ _ _ _ T6.out C8.out H8.out).mono ?_); rintro e v9 ⟨c9, D9, rfl, h1, h2⟩; have CC := Lib.hid h1; have H9 := Lib.hid h2; clear h1 h2)
                | (go_at_call 24; go_must (refine (AP.out _ _ _ H7.out).mono ?_); rintro e v8 ⟨rfl, D8, h1, h2⟩; have C8 := Lib.hid h1; have H8 := Lib.hid h2; clear h1 h2)
                | (go_at_call 8; go_must (refine (st_new v6 _ (Below.refl _ _)).mono ?_); rintro e v7 ⟨b, rfl, h⟩; have H7 := Lib.hid h; clear h)
                | (go_at_call 20; have X := B5; clear X; go_must (refine (FI3.out _ _ _ B5.out R5.out).mono ?_); rintro e v6 ⟨rfl, h1⟩; have B6 := Lib.hid (B5.out.trans (h1.mono B5.out.size)); have R6 := Lib.hid (R5.out.up h1 h1.size); have T6 := Lib.hid (HT.out.below B6.out HT.out.1); clear h1)
                | (refine wpList_append_row rfl (.tmp 86) (.tmp 87) 32 rfl 9 i0 _ 1 16 Tryd.underlying32 hi hi0 hi1 hi2 rfl (by decide) u4 (0 + l.length) ([] ++ strs l) rfl O4.out.1 A2 m.length cap2 (strs m) rfl (by rw [strs_len, Nat.mul_one]) (HR2.out.below (B3.out.trans (O4.out.2.1.mono B3.out.size))).at_ HN2.out (strs_one _) (by simp only [maxLen]; omega) (by omega) ?_; intro u5 v5 ho hg hb; obtain ⟨n1, n2⟩ := app_next O4.out.2.1 O4.out.2.2 hg hb; have O5 := own_cast ho (Eq.trans (show 0 + l.length + m.length = l.length + m.length by omega) HP.out.symm) (show [] ++ strs l ++ strs m = strs (l ++ m) by rw [strs_append]; rfl); obtain ⟨A3, c3, rfl, hA3⟩ := own_form O5; have R5 := Lib.hid (own_row O5); have N6 := Lib.hid hA3; have B5 := Lib.hid (B3.out.trans (n1.mono B3.out.size)); clear ho hg hb n1 n2 O5 hA3)
                | (refine wpList_append_row rfl (.tmp 84) (.tmp 85) 32 rfl 9 i0 _ 1 16 Tryd.underlying32 hi hi0 hi1 hi2 rfl (by decide) (.slice (some ⟨v3.heap.size, 0, none⟩) 0 0) 0 [] rfl (World.ownsRow_lit (base := 0) (e := 9) (size := 1) v3 #[] 0 (Nat.zero_le _) (by simp [maxLen]) rfl) A1 l.length cap1 (strs l) rfl (by rw [strs_len, Nat.mul_one]) ((HR1.out.below B3.out).at_.alloc _) HN1.out (strs_one _) (by simp only [maxLen]; omega) (by omega) ?_; intro u4 v4 ho hg hb; have O4 := Lib.hid (And.intro ho (app_first hg hb)); clear ho hg hb)
                | (go_at_call 20; have X := B2; clear X; go_must (refine (FI2.out _ B2.out).mono ?_); rintro e v3 ⟨rfl, h1⟩; have B3 := Lib.hid (B2.out.trans (h1.mono B2.out.size)); clear h1)
                | (go_at_call 20; go_must (refine FI1.out.mono ?_); rintro e v2 ⟨rfl, h1⟩; have B2 := Lib.hid (B1.out.trans (h1.mono B1.out.size)); clear h1))
              go_ret
              exact ⟨by simp, B6.out.trans (HG.out.below.mono B6.out.size)⟩
            · have n1 : ((now.length : Int) == (p : Int)) = false := by simp; omega
              go_wp2_with (first
                | (go_at_call 25; have X := HG; clear X; go_must (refine (S1.out _ _ _ _ _ _ CF.out HG.out).mono ?_); rintro e v ⟨rfl, rfl⟩)
                | (go_at_call 26; go_must (refine (RD.out _ _ _ _ _ _ CF.out HF.out).mono ?_); rintro e v ⟨rfl, rfl⟩; have HG := HF)
                | (go_at_call 14; go_must (refine (RW.out _ _ _ _ _ _ _ _ HD.out stab_non CC.out T6.out R6.out N6.out).mono ?_); rintro e ve ⟨De, rfl, h1, h2⟩; have CF := Lib.hid h1; have HF := Lib.hid h2; clear h1 h2)
                | (go_at_call 25; go_must (refine (S0.out _ _ _ _ _ _ CC.out HD.out).mono ?_); rintro e v ⟨rfl, rfl⟩)
                | (go_at_call 13; have X := HB; clear X; go_must (refine (dl_all HB.out stab_non hcnt).mono ?_); rintro e vd ⟨A5, c5, rfl, h⟩; have HD := Lib.hid (h.drop (fun w G hh => to_non w G hh)); clear h)
                | (go_at_call 23; go_must (refine (BG.out _ _ _ _ _ R9.out (R6.out.below HA.out.below).at_ K9.out).mono ?_); rintro e vb ⟨rfl, j, rfl⟩; have HB := Lib.hid (HA.out.kept (stab_dl _ _ _ _ _) stab_non (drewB _ j)))
                | (go_at_call 13; go_must (refine (dl_all H9.out stab_non hcnt).mono ?_); rintro e va ⟨A4, c4, rfl, h⟩; have R9 := Lib.hid (sl_at h rfl); have K9 := Lib.hid (own_cap (sl_own h)); have HA := Lib.hid (h.drop (fun w G hh => to_non w G hh)); clear h)
                | (go_at_call 10; go_must (refine (OP.out _ _ _ _ T6.out C8.out H8.out).mono ?_); rintro e v9 ⟨c9, D9, rfl, h1, h2⟩; have CC := Lib.hid h1; have H9 := Lib.hid h2; clear h1 h2)
                | (go_at_call 24; go_must (refine (AP.out _ _ _ H7.out).mono ?_); rintro e v8 ⟨rfl, D8, h1, h2⟩; have C8 := Lib.hid h1; have H8 := Lib.hid h2; clear h1 h2)
                | (go_at_call 8; go_must (refine (st_new v6 _ (Below.refl _ _)).mono ?_); rintro e v7 ⟨b, rfl, h⟩; have H7 := Lib.hid h; clear h)
                | (go_at_call 20; have X := B5; clear X; go_must (refine (FI3.out _ _ _ B5.out R5.out).mono ?_); rintro e v6 ⟨rfl, h1⟩; have B6 := Lib.hid (B5.out.trans (h1.mono B5.out.size)); have R6 := Lib.hid (R5.out.up h1 h1.size); have T6 := Lib.hid (HT.out.below B6.out HT.out.1); clear h1)
                | (refine wpList_append_row rfl (.tmp 86) (.tmp 87) 32 rfl 9 i0 _ 1 16 Tryd.underlying32 hi hi0 hi1 hi2 rfl (by decide) u4 (0 + l.length) ([] ++ strs l) rfl O4.out.1 A2 m.length cap2 (strs m) rfl (by rw [strs_len, Nat.mul_one]) (HR2.out.below (B3.out.trans (O4.out.2.1.mono B3.out.size))).at_ HN2.out (strs_one _) (by simp only [maxLen]; omega) (by omega) ?_; intro u5 v5 ho hg hb; obtain ⟨n1, n2⟩ := app_next O4.out.2.1 O4.out.2.2 hg hb; have O5 := own_cast ho (Eq.trans (show 0 + l.length + m.length = l.length + m.length by omega) HP.out.symm) (show [] ++ strs l ++ strs m = strs (l ++ m) by rw [strs_append]; rfl); obtain ⟨A3, c3, rfl, hA3⟩ := own_form O5; have R5 := Lib.hid (own_row O5); have N6 := Lib.hid hA3; have B5 := Lib.hid (B3.out.trans (n1.mono B3.out.size)); clear ho hg hb n1 n2 O5 hA3)
                | (refine wpList_append_row rfl (.tmp 84) (.tmp 85) 32 rfl 9 i0 _ 1 16 Tryd.underlying32 hi hi0 hi1 hi2 rfl (by decide) (.slice (some ⟨v3.heap.size, 0, none⟩) 0 0) 0 [] rfl (World.ownsRow_lit (base := 0) (e := 9) (size := 1) v3 #[] 0 (Nat.zero_le _) (by simp [maxLen]) rfl) A1 l.length cap1 (strs l) rfl (by rw [strs_len, Nat.mul_one]) ((HR1.out.below B3.out).at_.alloc _) HN1.out (strs_one _) (by simp only [maxLen]; omega) (by omega) ?_; intro u4 v4 ho hg hb; have O4 := Lib.hid (And.intro ho (app_first hg hb)); clear ho hg hb)
                | (go_at_call 20; have X := B2; clear X; go_must (refine (FI2.out _ B2.out).mono ?_); rintro e v3 ⟨rfl, h1⟩; have B3 := Lib.hid (B2.out.trans (h1.mono B2.out.size)); clear h1)
                | (go_at_call 20; go_must (refine FI1.out.mono ?_); rintro e v2 ⟨rfl, h1⟩; have B2 := Lib.hid (B1.out.trans (h1.mono B1.out.size)); clear h1))
              go_ret
              exact ⟨by simp, B6.out.trans (HG.out.below.mono B6.out.size)⟩

theorem joins_any (A1 A2 : Option Addr) (cap1 cap2 : Nat) (l m : List Bs) (x : Bs) (w : World) (hT : S3.Tabs w) (hr1 : Row w w.heap.size A1 (strs l)) (hr2 : Row w w.heap.size A2 (strs m)) (hl : ∀ s ∈ l, s.length ≤ 140737488351232) (hm : ∀ s ∈ m, s.length ≤ 140737488351232) (hx : x.length ≤ 140737488351232)
    (hn1 : A1 = none → l.length = 0) (hn2 : A2 = none → m.length = 0) (hlen1 : l.length ≤ 140737488351232) (hlen2 : m.length ≤ 140737488351232) :
    Calls Tryd.prog 5 #[.slice A1 l.length cap1, .slice A2 m.length cap2, .string (mk x)] w fun e w' => e = .returned (.bool true) ∧ Below w.heap.size w w' := by
  by_cases h20 : 20 < l.length
  · exact joins_1 A1 A2 cap1 cap2 l m x w hT hr1 hr2 hlen1 hlen2 h20
  · by_cases g20 : 20 < m.length
    · exact joins_2 A1 A2 cap1 cap2 l m x w hT hr1 hr2 hlen1 hlen2 (by omega) g20
    · exact joins_3 A1 A2 cap1 cap2 l m x w hT hr1 hr2 hl hm hx hn1 hn2 hlen1 hlen2 (by omega) (by omega)
end Go.Proofs.YtgamkahbebnnaaaDoor.D5
