/-
  The walk of WalLasts.
-/
import Derived.Test.YtgamkahbebnnaaaDoorD5WLastsA
namespace Go.Proofs.YtgamkahbebnnaaaDoor.D5
open Go.RowKit WalPlain
set_option maxRecDepth 100000
set_option maxHeartbeats 20000000 in
theorem lasts_walk (A : Option Addr) (c : Nat) (l : List Wc) (A1 : Option Addr) (c1 : Nat) (ks : List Int) (W : World) (hT : S3.Tabs W) (h : ActsW W W.heap.size A l) (hb : wts l ≤ 1048576) (hl : l.length ≤ 1048576) (hN : ∀ t ∈ l, t.n < 9223372036854775808) (hk : Keep W W.heap.size A1 ks) :
    Calls Tryd.prog 3 #[.slice A l.length c, .slice A1 ks.length c1] W fun e w' => e = .returned (.bool true) ∧ Below W.heap.size W w' := by
  have HA := Lib.hid h
  have HT := Lib.hid hT
  have HN := Lib.hid hN
  have HK := Lib.hid hk
  have S0 := Lib.hid (small_any W hT)
  have FW : Hid (∀ v, Below W.heap.size W v → Calls Tryd.prog 9 #[.slice A l.length c] v fun e w' => ∃ r, e = .returned (.bool r) ∧ Hid (r = true → Fines l) ∧ ∃ j, w' = v.drewN j) := Lib.hid (fun v hv => few_any A c l v ((h.below hv).top hv.size) hb hl)
  clear h hT hb hN hk
  by_cases h8 : 8 < ks.length
  · have g1 : decide (8 < (ks.length : Int)) = true := by simp; omega
    have g2 : decide (8 < ks.length) = true := by simp; omega
    go_enter Tryd.func3, Tryd.ntmps3
    go_wp2_with (first
      | (go_at_call 9; refine (FW.out _ H2.out.below).mono ?_; rintro e v3 ⟨r, rfl, hr, hj⟩; have FR := hr; have H3 : Hid (Par W v3 (HasP b Dk.new) Non) := Lib.hid (by obtain ⟨j, hj⟩ := hj; rw [hj]; exact H2.out.kept (stab_has _ _) stab_non (drewB _ j)); clear hr hj; cases r)
      | (go_at_call 8; refine (st_new W _ B1.out).mono ?_; rintro e v2 ⟨b, rfl, h⟩; have H2 := Lib.hid h; clear h)
      | (go_at_call 7; refine S0.out.mono ?_; rintro e v1 ⟨rfl, h⟩; have B1 := Lib.hid h; clear h))
    all_goals
      go_ret
      exact ⟨rfl, H3.out.below⟩
  · have g1 : decide (8 < (ks.length : Int)) = false := by simp; omega
    have g2 : decide (8 < ks.length) = false := by simp; omega
    obtain ⟨i0, hi, hz0, hz1, hz2⟩ := info_parts info9
    go_enter Tryd.func3, Tryd.ntmps3
    go_wp2_with (first
      | (go_at_call 10; go_must (refine (st_open_new H3.out stab_non HT.out 2 (by decide) (by decide)).mono ?_); rintro e v4 ⟨c2, D2, rfl, h1, -, h2⟩; have C4 : Hid (Cl D2 2 [] []) := Lib.hid h1; have H4 := Lib.hid (par_nil h2); clear h1 h2)
      | (go_at_call 9; refine (FW.out _ H2.out.below).mono ?_; rintro e v3 ⟨r, rfl, hr, hj⟩; have FR := hr; have H3 : Hid (Par W v3 (HasP b Dk.new) Non) := Lib.hid (by obtain ⟨j, hj⟩ := hj; rw [hj]; exact H2.out.kept (stab_has _ _) stab_non (drewB _ j)); clear hr hj; cases r)
      | (go_at_call 8; refine (st_new W _ B1.out).mono ?_; rintro e v2 ⟨b, rfl, h⟩; have H2 := Lib.hid h; clear h)
      | (go_at_call 7; refine S0.out.mono ?_; rintro e v1 ⟨rfl, h⟩; have B1 := Lib.hid h; clear h))
    · go_ret
      exact ⟨rfl, H3.out.below⟩
    · have FN : Hid (Fines l) := Lib.hid (by first | exact FR.out trivial | exact FR.out rfl)
      clear FR
      go_loopw [9, 10, 11, 12, 13] (fun sv rv lv tv iv wr => ∃ (k : Nat) (D : Dk) (R safe : List Bs) (A9 : Option Addr) (c9 : Nat), iv = .int .i64 (k : Int) ∧ sv = .slice A9 safe.length c9 ∧ rv = .slice none 0 0 ∧ lv = .slice none 0 0 ∧ tv = .bool false ∧ k ≤ l.length ∧ Hid (Par W wr (DL b c2 2 D R) (SlP (.slice A9 safe.length c9) safe)) ∧ Hid (Up small20 rec6 D 2 R safe) ∧ Hid (R.length ≤ 3000 + k)) (fun _ _ _ _ iv _ => l.length - (intOf iv).toNat)
      case atStart => exact ⟨0, D2, [], [], none, 0, rfl, rfl, rfl, rfl, rfl, Nat.zero_le _, H4, Lib.hid ⟨C4.out.calm.up, by simp [Dk.all, C4.out.fs, flat], List.nil_prefix, (fun s hs => by simp at hs), (fun s hs => by simp at hs)⟩, Lib.hid (by simp)⟩
      case round =>
        obtain ⟨k, D, R, safe, A9, c9, rfl, rfl, rfl, rfl, rfl, hk, P1, HU, HR⟩ := hrel
        obtain ⟨wo, hwo⟩ : ∃ wo, wo = wr := ⟨_, rfl⟩
        subst hwo
        by_cases hlt : k < l.length
        · have j1 : decide ((k : Int) < (l.length : Int)) = true := by simp; omega
          have j2 : (k : Int) < (l.length : Int) := by omega
          have j3 : decide (k < l.length) = true := by simp; omega
          have W1 : IntKind.i64.wrap ((k : Int) + 1) = (k : Int) + 1 := IntWalk.i64_in _ (by omega)
          obtain ⟨t, ht⟩ : ∃ t, t = l[k] := ⟨_, rfl⟩
          have hmem : t ∈ l := by rw [ht]; exact List.getElem_mem _
          have FT := Lib.hid (FN.out.2 t hmem)
          have hk40 : k < 40 := by have := FN.out.1; omega
          have hRb : R.length < 4000 := by have := HR.out; omega
          have TN := Lib.hid (HN.out t hmem)
          obtain ⟨a, rfl, hat⟩ := HA.out k t (by rw [List.getElem?_eq_getElem hlt, ht])
          obtain ⟨hP, LA, cL, KA, cK, g0, g1, g2, g3, g4, rL, nL, gK⟩ := hat
          have hb := P1.out.below
          have g0 := (hb.cell (p := a.add (k * 5)) hP).trans g0
          have g1 := (hb.cell (p := ⟨(a.add (k * 5)).block, (a.add (k * 5)).off + 1, none⟩) hP).trans g1
          have g2 := (hb.cell (p := ⟨(a.add (k * 5)).block, (a.add (k * 5)).off + 2, none⟩) hP).trans g2
          have g3 := (hb.cell (p := ⟨(a.add (k * 5)).block, (a.add (k * 5)).off + 3, none⟩) hP).trans g3
          have g4 := (hb.cell (p := ⟨(a.add (k * 5)).block, (a.add (k * 5)).off + 4, none⟩) hP).trans g4
          have RL := Lib.hid rL
          have NL := Lib.hid nL
          have GK := Lib.hid gK
          have PA0 : Hid (Par W (wo.alloc (.cells #[.int .i64 t.d, .string (mk t.s), .slice LA t.l.length cL, .int .i64 t.n, .slice KA t.keep.length cK] 34)) (DL b c2 2 D R) (SB (.slice A9 safe.length c9) safe wo.heap.size t LA cL KA cK)) := Lib.hid (P1.out.withBlk (stab_dl _ _ _ _ _) (stab_sl _ _) 34 (ActC t LA cL KA cK))
          have d8 : t.d % 8 = 0 ∨ t.d % 8 = 1 ∨ t.d % 8 = 2 ∨ t.d % 8 = 3 ∨ t.d % 8 = 4 ∨ t.d % 8 = 5 ∨ t.d % 8 = 6 ∨ t.d % 8 = 7 := by omega
          have hu := HU.out.up
          clear rL nL gK ht hP hb hmem FW
          rcases d8 with q | q | q | q | q | q | q | q
          · have a7 : bits .and .i64 t.d 7 = 0 := by rw [i64_and7, q]
            clear q
            obtain ⟨x, hx⟩ : ∃ x, x = D.app 2 (rec6 t.s) := ⟨_, rfl⟩
            obtain ⟨m1, m2, m3⟩ := HU.out.append (f := 2) (by decide) (by decide) FT.out.small
            have m1 : x.1 = 0 → Up small20 rec6 x.2 2 (R ++ [t.s]) safe := by rw [hx]; exact m1
            have m2 : x.1 ≠ 0 → x.2.down = false → Up small20 rec6 x.2 2 R safe := by rw [hx]; exact m2
            have m3 : x.2.down = true → x.1 = 12 ∧ Fell small20 rec6 x.2 2 (R ++ [t.s]) safe := by rw [hx]; exact m3
            have m4 : x.1 = 12 → x.2.down = true := by rw [hx]; exact (says_app hu (by decide) (by decide) _).2
            obtain ⟨N, hN⟩ : ∃ N, N = if x.1 = 0 then R ++ [t.s] else R := ⟨_, rfl⟩
            have AP : Hid (∀ w, Par W w (DL b c2 2 D R) (SB (.slice A9 safe.length c9) safe wo.heap.size t LA cL KA cK) → Calls Tryd.prog 11 #[.pointer (some ⟨c2, 0, none⟩), .string (mk t.s)] w fun e w' => e = .returned (.int .i64 (x.1 : Nat)) ∧ Par W w' (DL b c2 2 x.2 N) (SB (.slice A9 safe.length c9) safe wo.heap.size t LA cL KA cK)) := Lib.hid (fun w h => by rw [hN, hx]; exact dl_append h stab_sb HT.out t.s FT.out.small (by omega))
            clear hx
            by_cases h12 : x.1 = 12
            · have hd := m4 h12
              obtain ⟨P, hP⟩ : ∃ P, P = R ++ [t.s] := ⟨_, rfl⟩
              have hN2 : N = R := by rw [hN, if_neg (by omega)]
              rw [hN2] at AP
              have hf : Fell small20 rec6 x.2 2 P safe := by rw [hP]; exact (m3 hd).2
              have DN : Hid (∀ w Q, Par W w (DL b c2 2 x.2 R) Q → Calls Tryd.prog 17 #[.pointer (some ⟨b, 0, none⟩)] w fun e w' => e = .returned (.bool true) ∧ w = w') := Lib.hid (fun w Q h => by have := dl_down h; rw [hd] at this; exact this.mono fun _ _ hh => ⟨hh.1, hh.2.symm⟩)
              have FIN : Hid (∀ w A5 c5, Par W w (HasP b x.2) (Both (SlP (.slice A5 P.length c5) P) (SlP (.slice A9 safe.length c9) safe)) → Calls Tryd.prog 18 #[.pointer (some ⟨b, 0, none⟩), .slice A5 P.length c5, .slice A9 safe.length c9, .slice none 0 0, .bool false] w fun e w' => e = .returned (.bool true) ∧ Below W.heap.size W w') := Lib.hid (fun w A5 c5 h => recov_no W w b c5 c9 0 0 A5 A9 none x.2 P safe HT.out h (hf) (by rw [hP, List.length_append]; simp; omega))
              have z1 : (((x.1 : Nat) : Int) == 12) = true := by simp; omega
              have z2 : (x.1 == 12) = true := by simp; omega
              have HP := Lib.hid hP
              clear m1 m2 m3 m4 hN hN2 hf hd h12 hP HU HR
              go_wp2_with (first
                | (go_at_call 18; go_must (refine (FIN.out _ _ _ PF.out).mono ?_); rintro e u6 ⟨rfl, h⟩; have BF := Lib.hid h; clear h)
                | (refine wpList_append_row rfl (.tmp 105) (.tmp 106) 32 rfl 9 i0 _ 1 16 Tryd.underlying32 hi hz0 hz1 hz2 rfl (by decide) (.slice A5 R.length c5) R.length (strs R) rfl PE.out.slR (some ⟨u2.heap.size, 0, none⟩) 1 1 (strs [t.s]) rfl rfl (own_at0 PE.out.left.slR) (fun e => by cases e) (strs_one _) (by simp only [maxLen]; omega) (by omega) ?_; intro v' u5 ho hg hbl; have ho2 := own_cast ho (show R.length + 1 = P.length by rw [HP.out]; simp) (show strs R ++ strs [t.s] = strs P by rw [HP.out, strs_append]); obtain ⟨A6, c6, rfl, -⟩ := own_form ho2; have PF1 := par_append PE.out (stab_dl _ _ _ _ _) (stab_both stab_sb (stab_sl _ _)) ho2 hg hbl; have PF := Lib.hid (dl_only PF1.mid.mid.swapQ); clear ho hg hbl ho2 PF1)
                | (go_at_call 13; go_must (refine (dl_all PD.out (stab_both stab_sb (stab_sl _ _)) (by omega)).mono ?_); rintro e u4 ⟨A5, c5, rfl, h⟩; have PE := Lib.hid h; clear h)
                | (go_at_call 17; go_must (refine (DN.out _ _ PD.out).mono ?_); rintro e u3 ⟨rfl, rfl⟩)
                | (go_at_call 11; go_must (refine (AP.out _ PA0.out).mono ?_); rintro e u2 ⟨rfl, h⟩; have PB := Lib.hid h; obtain ⟨b0, b1, b2, b3, b4⟩ := sb_act PB.out; have PD := Lib.hid (lit1 t.s PB.out stab_sb); clear h))
              go_ret
              exact ⟨by simp, BF.out⟩
            · have hd : x.2.down = false := by cases h : x.2.down with | false => rfl | true => exact absurd (m3 h).1 h12
              have HU2 : Hid (Up small20 rec6 x.2 2 N safe) := Lib.hid (by
                by_cases h0 : x.1 = 0
                · rw [hN, if_pos h0]; exact m1 h0
                · rw [hN, if_neg h0]; exact m2 h0 hd)
              have HR2 : Hid (N.length ≤ 3000 + (k + 1)) := Lib.hid (by
                have := HR.out
                rw [hN]
                split
                · rw [List.length_append]; simp; omega
                · omega)
              have DN : Hid (∀ w Q, Par W w (DL b c2 2 x.2 N) Q → Calls Tryd.prog 17 #[.pointer (some ⟨b, 0, none⟩)] w fun e w' => e = .returned (.bool false) ∧ w = w') := Lib.hid (fun w Q h => by have := dl_down h; rw [hd] at this; exact this.mono fun _ _ hh => ⟨hh.1, hh.2.symm⟩)
              have z1 : (((x.1 : Nat) : Int) == 12) = false := by simp; omega
              have z2 : (x.1 == 12) = false := by simp; omega
              clear m1 m2 m3 m4 hN hd h12 HU HR
              go_wp2_with (first
                | (go_at_call 17; go_must (refine (DN.out _ _ PB.out).mono ?_); rintro e u3 ⟨rfl, rfl⟩)
                | (go_at_call 11; go_must (refine (AP.out _ PA0.out).mono ?_); rintro e u2 ⟨rfl, h⟩; have PB := Lib.hid h; obtain ⟨b0, b1, b2, b3, b4⟩ := sb_act PB.out; clear h))
              go_roundw
              case rel => exact ⟨k + 1, x.2, N, safe, A9, c9, by go_num, rfl, rfl, rfl, rfl, by omega, Lib.hid (PB.out.left), HU2, HR2⟩
              case measure => simp [intOf]; omega
          · have a7 : bits .and .i64 t.d 7 = 1 := by rw [i64_and7, q]
            clear q
            obtain ⟨x, hx⟩ : ∃ x, x = D.app 2 (rec6 t.s) := ⟨_, rfl⟩
            obtain ⟨m1, m2, m3⟩ := HU.out.append (f := 2) (by decide) (by decide) FT.out.small
            have m1 : x.1 = 0 → Up small20 rec6 x.2 2 (R ++ [t.s]) safe := by rw [hx]; exact m1
            have m2 : x.1 ≠ 0 → x.2.down = false → Up small20 rec6 x.2 2 R safe := by rw [hx]; exact m2
            have m3 : x.2.down = true → x.1 = 12 ∧ Fell small20 rec6 x.2 2 (R ++ [t.s]) safe := by rw [hx]; exact m3
            have m4 : x.1 = 12 → x.2.down = true := by rw [hx]; exact (says_app hu (by decide) (by decide) _).2
            obtain ⟨N, hN⟩ : ∃ N, N = if x.1 = 0 then R ++ [t.s] else R := ⟨_, rfl⟩
            have AP : Hid (∀ w, Par W w (DL b c2 2 D R) (SB (.slice A9 safe.length c9) safe wo.heap.size t LA cL KA cK) → Calls Tryd.prog 11 #[.pointer (some ⟨c2, 0, none⟩), .string (mk t.s)] w fun e w' => e = .returned (.int .i64 (x.1 : Nat)) ∧ Par W w' (DL b c2 2 x.2 N) (SB (.slice A9 safe.length c9) safe wo.heap.size t LA cL KA cK)) := Lib.hid (fun w h => by rw [hN, hx]; exact dl_append h stab_sb HT.out t.s FT.out.small (by omega))
            clear hx
            by_cases h12 : x.1 = 12
            · have hd := m4 h12
              obtain ⟨P, hP⟩ : ∃ P, P = R ++ [t.s] := ⟨_, rfl⟩
              have hN2 : N = R := by rw [hN, if_neg (by omega)]
              rw [hN2] at AP
              have hf : Fell small20 rec6 x.2 2 P safe := by rw [hP]; exact (m3 hd).2
              have DN : Hid (∀ w Q, Par W w (DL b c2 2 x.2 R) Q → Calls Tryd.prog 17 #[.pointer (some ⟨b, 0, none⟩)] w fun e w' => e = .returned (.bool true) ∧ w = w') := Lib.hid (fun w Q h => by have := dl_down h; rw [hd] at this; exact this.mono fun _ _ hh => ⟨hh.1, hh.2.symm⟩)
              have FIN : Hid (∀ w A5 c5, Par W w (HasP b x.2) (Both (SlP (.slice A5 P.length c5) P) (SlP (.slice A9 safe.length c9) safe)) → Calls Tryd.prog 18 #[.pointer (some ⟨b, 0, none⟩), .slice A5 P.length c5, .slice A9 safe.length c9, .slice none 0 0, .bool false] w fun e w' => e = .returned (.bool true) ∧ Below W.heap.size W w') := Lib.hid (fun w A5 c5 h => recov_no W w b c5 c9 0 0 A5 A9 none x.2 P safe HT.out h (hf) (by rw [hP, List.length_append]; simp; omega))
              have z1 : (((x.1 : Nat) : Int) == 12) = true := by simp; omega
              have z2 : (x.1 == 12) = true := by simp; omega
              have HP := Lib.hid hP
              clear m1 m2 m3 m4 hN hN2 hf hd h12 hP HU HR
              go_wp2_with (first
                | (go_at_call 18; go_must (refine (FIN.out _ _ _ PF.out).mono ?_); rintro e u6 ⟨rfl, h⟩; have BF := Lib.hid h; clear h)
                | (refine wpList_append_row rfl (.tmp 105) (.tmp 106) 32 rfl 9 i0 _ 1 16 Tryd.underlying32 hi hz0 hz1 hz2 rfl (by decide) (.slice A5 R.length c5) R.length (strs R) rfl PE.out.slR (some ⟨u2.heap.size, 0, none⟩) 1 1 (strs [t.s]) rfl rfl (own_at0 PE.out.left.slR) (fun e => by cases e) (strs_one _) (by simp only [maxLen]; omega) (by omega) ?_; intro v' u5 ho hg hbl; have ho2 := own_cast ho (show R.length + 1 = P.length by rw [HP.out]; simp) (show strs R ++ strs [t.s] = strs P by rw [HP.out, strs_append]); obtain ⟨A6, c6, rfl, -⟩ := own_form ho2; have PF1 := par_append PE.out (stab_dl _ _ _ _ _) (stab_both stab_sb (stab_sl _ _)) ho2 hg hbl; have PF := Lib.hid (dl_only PF1.mid.mid.swapQ); clear ho hg hbl ho2 PF1)
                | (go_at_call 13; go_must (refine (dl_all PD.out (stab_both stab_sb (stab_sl _ _)) (by omega)).mono ?_); rintro e u4 ⟨A5, c5, rfl, h⟩; have PE := Lib.hid h; clear h)
                | (go_at_call 17; go_must (refine (DN.out _ _ PD.out).mono ?_); rintro e u3 ⟨rfl, rfl⟩)
                | (go_at_call 11; go_must (refine (AP.out _ PA0.out).mono ?_); rintro e u2 ⟨rfl, h⟩; have PB := Lib.hid h; obtain ⟨b0, b1, b2, b3, b4⟩ := sb_act PB.out; have PD := Lib.hid (lit1 t.s PB.out stab_sb); clear h))
              go_ret
              exact ⟨by simp, BF.out⟩
            · have hd : x.2.down = false := by cases h : x.2.down with | false => rfl | true => exact absurd (m3 h).1 h12
              have HU2 : Hid (Up small20 rec6 x.2 2 N safe) := Lib.hid (by
                by_cases h0 : x.1 = 0
                · rw [hN, if_pos h0]; exact m1 h0
                · rw [hN, if_neg h0]; exact m2 h0 hd)
              have HR2 : Hid (N.length ≤ 3000 + (k + 1)) := Lib.hid (by
                have := HR.out
                rw [hN]
                split
                · rw [List.length_append]; simp; omega
                · omega)
              have DN : Hid (∀ w Q, Par W w (DL b c2 2 x.2 N) Q → Calls Tryd.prog 17 #[.pointer (some ⟨b, 0, none⟩)] w fun e w' => e = .returned (.bool false) ∧ w = w') := Lib.hid (fun w Q h => by have := dl_down h; rw [hd] at this; exact this.mono fun _ _ hh => ⟨hh.1, hh.2.symm⟩)
              have z1 : (((x.1 : Nat) : Int) == 12) = false := by simp; omega
              have z2 : (x.1 == 12) = false := by simp; omega
              clear m1 m2 m3 m4 hN hd h12 HU HR
              go_wp2_with (first
                | (go_at_call 17; go_must (refine (DN.out _ _ PB.out).mono ?_); rintro e u3 ⟨rfl, rfl⟩)
                | (go_at_call 11; go_must (refine (AP.out _ PA0.out).mono ?_); rintro e u2 ⟨rfl, h⟩; have PB := Lib.hid h; obtain ⟨b0, b1, b2, b3, b4⟩ := sb_act PB.out; clear h))
              go_roundw
              case rel => exact ⟨k + 1, x.2, N, safe, A9, c9, by go_num, rfl, rfl, rfl, rfl, by omega, Lib.hid (PB.out.left), HU2, HR2⟩
              case measure => simp [intOf]; omega
          · have a7 : bits .and .i64 t.d 7 = 2 := by rw [i64_and7, q]
            clear q
            obtain ⟨x, hx⟩ : ∃ x, x = D.app 2 (rec6 t.s) := ⟨_, rfl⟩
            obtain ⟨m1, m2, m3⟩ := HU.out.append (f := 2) (by decide) (by decide) FT.out.small
            have m1 : x.1 = 0 → Up small20 rec6 x.2 2 (R ++ [t.s]) safe := by rw [hx]; exact m1
            have m2 : x.1 ≠ 0 → x.2.down = false → Up small20 rec6 x.2 2 R safe := by rw [hx]; exact m2
            have m3 : x.2.down = true → x.1 = 12 ∧ Fell small20 rec6 x.2 2 (R ++ [t.s]) safe := by rw [hx]; exact m3
            have m4 : x.1 = 12 → x.2.down = true := by rw [hx]; exact (says_app hu (by decide) (by decide) _).2
            obtain ⟨N, hN⟩ : ∃ N, N = if x.1 = 0 then R ++ [t.s] else R := ⟨_, rfl⟩
            have AP : Hid (∀ w, Par W w (DL b c2 2 D R) (SB (.slice A9 safe.length c9) safe wo.heap.size t LA cL KA cK) → Calls Tryd.prog 11 #[.pointer (some ⟨c2, 0, none⟩), .string (mk t.s)] w fun e w' => e = .returned (.int .i64 (x.1 : Nat)) ∧ Par W w' (DL b c2 2 x.2 N) (SB (.slice A9 safe.length c9) safe wo.heap.size t LA cL KA cK)) := Lib.hid (fun w h => by rw [hN, hx]; exact dl_append h stab_sb HT.out t.s FT.out.small (by omega))
            clear hx
            by_cases h12 : x.1 = 12
            · have hd := m4 h12
              obtain ⟨P, hP⟩ : ∃ P, P = R ++ [t.s] := ⟨_, rfl⟩
              have hN2 : N = R := by rw [hN, if_neg (by omega)]
              rw [hN2] at AP
              have hf : Fell small20 rec6 x.2 2 P safe := by rw [hP]; exact (m3 hd).2
              have DN : Hid (∀ w Q, Par W w (DL b c2 2 x.2 R) Q → Calls Tryd.prog 17 #[.pointer (some ⟨b, 0, none⟩)] w fun e w' => e = .returned (.bool true) ∧ w = w') := Lib.hid (fun w Q h => by have := dl_down h; rw [hd] at this; exact this.mono fun _ _ hh => ⟨hh.1, hh.2.symm⟩)
              have FIN : Hid (∀ w A5 c5, Par W w (HasP b x.2) (Both (SlP (.slice A5 P.length c5) P) (SlP (.slice A9 safe.length c9) safe)) → Calls Tryd.prog 18 #[.pointer (some ⟨b, 0, none⟩), .slice A5 P.length c5, .slice A9 safe.length c9, .slice none 0 0, .bool false] w fun e w' => e = .returned (.bool true) ∧ Below W.heap.size W w') := Lib.hid (fun w A5 c5 h => recov_no W w b c5 c9 0 0 A5 A9 none x.2 P safe HT.out h (hf) (by rw [hP, List.length_append]; simp; omega))
              have z1 : (((x.1 : Nat) : Int) == 12) = true := by simp; omega
              have z2 : (x.1 == 12) = true := by simp; omega
              have HP := Lib.hid hP
              clear m1 m2 m3 m4 hN hN2 hf hd h12 hP HU HR
              go_wp2_with (first
                | (go_at_call 18; go_must (refine (FIN.out _ _ _ PF.out).mono ?_); rintro e u6 ⟨rfl, h⟩; have BF := Lib.hid h; clear h)
                | (refine wpList_append_row rfl (.tmp 105) (.tmp 106) 32 rfl 9 i0 _ 1 16 Tryd.underlying32 hi hz0 hz1 hz2 rfl (by decide) (.slice A5 R.length c5) R.length (strs R) rfl PE.out.slR (some ⟨u2.heap.size, 0, none⟩) 1 1 (strs [t.s]) rfl rfl (own_at0 PE.out.left.slR) (fun e => by cases e) (strs_one _) (by simp only [maxLen]; omega) (by omega) ?_; intro v' u5 ho hg hbl; have ho2 := own_cast ho (show R.length + 1 = P.length by rw [HP.out]; simp) (show strs R ++ strs [t.s] = strs P by rw [HP.out, strs_append]); obtain ⟨A6, c6, rfl, -⟩ := own_form ho2; have PF1 := par_append PE.out (stab_dl _ _ _ _ _) (stab_both stab_sb (stab_sl _ _)) ho2 hg hbl; have PF := Lib.hid (dl_only PF1.mid.mid.swapQ); clear ho hg hbl ho2 PF1)
                | (go_at_call 13; go_must (refine (dl_all PD.out (stab_both stab_sb (stab_sl _ _)) (by omega)).mono ?_); rintro e u4 ⟨A5, c5, rfl, h⟩; have PE := Lib.hid h; clear h)
                | (go_at_call 17; go_must (refine (DN.out _ _ PD.out).mono ?_); rintro e u3 ⟨rfl, rfl⟩)
                | (go_at_call 11; go_must (refine (AP.out _ PA0.out).mono ?_); rintro e u2 ⟨rfl, h⟩; have PB := Lib.hid h; obtain ⟨b0, b1, b2, b3, b4⟩ := sb_act PB.out; have PD := Lib.hid (lit1 t.s PB.out stab_sb); clear h))
              go_ret
              exact ⟨by simp, BF.out⟩
            · have hd : x.2.down = false := by cases h : x.2.down with | false => rfl | true => exact absurd (m3 h).1 h12
              have HU2 : Hid (Up small20 rec6 x.2 2 N safe) := Lib.hid (by
                by_cases h0 : x.1 = 0
                · rw [hN, if_pos h0]; exact m1 h0
                · rw [hN, if_neg h0]; exact m2 h0 hd)
              have HR2 : Hid (N.length ≤ 3000 + (k + 1)) := Lib.hid (by
                have := HR.out
                rw [hN]
                split
                · rw [List.length_append]; simp; omega
                · omega)
              have DN : Hid (∀ w Q, Par W w (DL b c2 2 x.2 N) Q → Calls Tryd.prog 17 #[.pointer (some ⟨b, 0, none⟩)] w fun e w' => e = .returned (.bool false) ∧ w = w') := Lib.hid (fun w Q h => by have := dl_down h; rw [hd] at this; exact this.mono fun _ _ hh => ⟨hh.1, hh.2.symm⟩)
              have z1 : (((x.1 : Nat) : Int) == 12) = false := by simp; omega
              have z2 : (x.1 == 12) = false := by simp; omega
              clear m1 m2 m3 m4 hN hd h12 HU HR
              go_wp2_with (first
                | (go_at_call 17; go_must (refine (DN.out _ _ PB.out).mono ?_); rintro e u3 ⟨rfl, rfl⟩)
                | (go_at_call 11; go_must (refine (AP.out _ PA0.out).mono ?_); rintro e u2 ⟨rfl, h⟩; have PB := Lib.hid h; obtain ⟨b0, b1, b2, b3, b4⟩ := sb_act PB.out; clear h))
              go_roundw
              case rel => exact ⟨k + 1, x.2, N, safe, A9, c9, by go_num, rfl, rfl, rfl, rfl, by omega, Lib.hid (PB.out.left), HU2, HR2⟩
              case measure => simp [intOf]; omega
          · have a7 : bits .and .i64 t.d 7 = 3 := by rw [i64_and7, q]
            clear q
            obtain ⟨x, hx⟩ : ∃ x, x = D.flush 2 := ⟨_, rfl⟩
            obtain ⟨m1, m2⟩ := HU.out.flush (f := 2)
            have m1 : x.1 = 0 → Up small20 rec6 x.2 2 R R := by rw [hx]; exact m1
            have m2 : Keeps small20 rec6 x 2 R safe := by rw [hx]; exact m2
            have FL : Hid (∀ w, Par W w (DL b c2 2 D R) (SB (.slice A9 safe.length c9) safe wo.heap.size t LA cL KA cK) → Calls Tryd.prog 12 #[.pointer (some ⟨c2, 0, none⟩)] w fun e w' => e = .returned (.int .i64 (x.1 : Nat)) ∧ Par W w' (DL b c2 2 x.2 R) (SB (.slice A9 safe.length c9) safe wo.heap.size t LA cL KA cK)) := Lib.hid (fun w h => by rw [hx]; exact dl_flush h stab_sb)
            clear hx
            by_cases h0 : x.1 = 0
            · have HU2 := Lib.hid (m1 h0)
              have hd := HU2.out.up
              have HR2 : Hid (R.length ≤ 3000 + (k + 1)) := Lib.hid (by have := HR.out; omega)
              have DN : Hid (∀ w Q, Par W w (DL b c2 2 x.2 R) Q → Calls Tryd.prog 17 #[.pointer (some ⟨b, 0, none⟩)] w fun e w' => e = .returned (.bool false) ∧ w = w') := Lib.hid (fun w Q h => by have := dl_down h; rw [hd] at this; exact this.mono fun _ _ hh => ⟨hh.1, hh.2.symm⟩)
              have z1 : (((x.1 : Nat) : Int) == 0) = true := by simp; omega
              have z2 : (x.1 == 0) = true := by simp; omega
              clear m1 m2 hd h0 HU HR
              go_wp2_with (first
                | (go_at_call 17; go_must (refine (DN.out _ _ PE.out).mono ?_); rintro e u3 ⟨rfl, rfl⟩)
                | (go_at_call 13; go_must (refine (dl_all PB.out stab_sb (by omega)).mono ?_); rintro e u4 ⟨A5, c5, rfl, h⟩; have PE := Lib.hid h; clear h)
                | (go_at_call 12; go_must (refine (FL.out _ PA0.out).mono ?_); rintro e u2 ⟨rfl, h⟩; have PB := Lib.hid h; obtain ⟨b0, b1, b2, b3, b4⟩ := sb_act PB.out; clear h))
              go_roundw
              case rel => exact ⟨k + 1, x.2, R, R, A5, c5, by go_num, rfl, rfl, rfl, rfl, by omega, Lib.hid (PE.out.right), HU2, HR2⟩
              case measure => simp [intOf]; omega
            · have z1 : (((x.1 : Nat) : Int) == 0) = false := by simp; omega
              have z2 : (x.1 == 0) = false := by simp; omega
              cases hd : x.2.down with
              | true =>
                have hf := (m2.2 hd).2
                have DN : Hid (∀ w Q, Par W w (DL b c2 2 x.2 R) Q → Calls Tryd.prog 17 #[.pointer (some ⟨b, 0, none⟩)] w fun e w' => e = .returned (.bool true) ∧ w = w') := Lib.hid (fun w Q h => by have := dl_down h; rw [hd] at this; exact this.mono fun _ _ hh => ⟨hh.1, hh.2.symm⟩)
                have FIN : Hid (∀ w A5 c5, Par W w (HasP b x.2) (Both (SlP (.slice A5 R.length c5) R) (SlP (.slice A9 safe.length c9) safe)) → Calls Tryd.prog 18 #[.pointer (some ⟨b, 0, none⟩), .slice A5 R.length c5, .slice A9 safe.length c9, .slice none 0 0, .bool false] w fun e w' => e = .returned (.bool true) ∧ Below W.heap.size W w') := Lib.hid (fun w A5 c5 h => recov_no W w b c5 c9 0 0 A5 A9 none x.2 R safe HT.out h (hf) (by omega))
                clear m1 m2 hf hd h0 HU HR
                go_wp2_with (first
                  | (go_at_call 18; go_must (refine (FIN.out _ _ _ PF.out).mono ?_); rintro e u6 ⟨rfl, h⟩; have BF := Lib.hid h; clear h)
                  | (refine wpList_append_row rfl (.tmp 105) (.tmp 106) 32 rfl 9 i0 _ 1 16 Tryd.underlying32 hi hz0 hz1 hz2 rfl (by decide) (.slice A5 R.length c5) R.length (strs R) rfl PE.out.slR none 0 0 (strs []) rfl rfl (RowAt.nil _ none) (fun _ => rfl) (strs_one _) (by simp only [maxLen]; omega) (by omega) ?_; intro v' u5 ho hg hbl; have ho2 := own_cast ho (show R.length + 0 = R.length by omega) (show strs R ++ strs [] = strs R by simp [strs]); obtain ⟨A6, c6, rfl, -⟩ := own_form ho2; have PF1 := par_append PE.out (stab_dl _ _ _ _ _) stab_sb ho2 hg hbl; have PF := Lib.hid (dl_only PF1.mid.swapQ); clear ho hg hbl ho2 PF1)
                  | (go_at_call 13; go_must (refine (dl_all PB.out stab_sb (by omega)).mono ?_); rintro e u4 ⟨A5, c5, rfl, h⟩; have PE := Lib.hid h; clear h)
                  | (go_at_call 17; go_must (refine (DN.out _ _ PB.out).mono ?_); rintro e u3 ⟨rfl, rfl⟩)
                  | (go_at_call 12; go_must (refine (FL.out _ PA0.out).mono ?_); rintro e u2 ⟨rfl, h⟩; have PB := Lib.hid h; obtain ⟨b0, b1, b2, b3, b4⟩ := sb_act PB.out; clear h))
                go_ret
                exact ⟨by simp, BF.out⟩
              | false =>
                have HU2 := Lib.hid (m2.1 hd)
                have HR2 : Hid (R.length ≤ 3000 + (k + 1)) := Lib.hid (by have := HR.out; omega)
                have DN : Hid (∀ w Q, Par W w (DL b c2 2 x.2 R) Q → Calls Tryd.prog 17 #[.pointer (some ⟨b, 0, none⟩)] w fun e w' => e = .returned (.bool false) ∧ w = w') := Lib.hid (fun w Q h => by have := dl_down h; rw [hd] at this; exact this.mono fun _ _ hh => ⟨hh.1, hh.2.symm⟩)
                clear m1 m2 hd h0 HU HR
                go_wp2_with (first
                  | (go_at_call 17; go_must (refine (DN.out _ _ PB.out).mono ?_); rintro e u3 ⟨rfl, rfl⟩)
                  | (go_at_call 12; go_must (refine (FL.out _ PA0.out).mono ?_); rintro e u2 ⟨rfl, h⟩; have PB := Lib.hid h; obtain ⟨b0, b1, b2, b3, b4⟩ := sb_act PB.out; clear h))
                go_roundw
                case rel => exact ⟨k + 1, x.2, R, safe, A9, c9, by go_num, rfl, rfl, rfl, rfl, by omega, Lib.hid (PB.out.left), HU2, HR2⟩
                case measure => simp [intOf]; omega
          · have a7 : bits .and .i64 t.d 7 = 4 := by rw [i64_and7, q]
            clear q
            have hd := hu
            have HR2 : Hid (R.length ≤ 3000 + (k + 1)) := Lib.hid (by have := HR.out; omega)
            have DN : Hid (∀ w Q, Par W w (DL b c2 2 D R) Q → Calls Tryd.prog 17 #[.pointer (some ⟨b, 0, none⟩)] w fun e w' => e = .returned (.bool false) ∧ w = w') := Lib.hid (fun w Q h => by have := dl_down h; rw [hd] at this; exact this.mono fun _ _ hh => ⟨hh.1, hh.2.symm⟩)
            clear hd HR
            go_wp2_with (first
              | (go_at_call 17; go_must (refine (DN.out _ _ PA0.out).mono ?_); rintro e u3 ⟨rfl, rfl⟩))
            go_roundw
            case rel => exact ⟨k + 1, D, R, safe, A9, c9, by go_num, rfl, rfl, rfl, rfl, by omega, Lib.hid (PA0.out.left), HU, HR2⟩
            case measure => simp [intOf]; omega
          · have a7 : bits .and .i64 t.d 7 = 5 := by rw [i64_and7, q]
            clear q
            obtain ⟨x, hx⟩ : ∃ x, x = rewD D 2 (flat rec6 t.l) := ⟨_, rfl⟩
            obtain ⟨m1, m2⟩ := HU.out.rewrite (f := 2) (by decide) (by decide) FT.out.smalls
            have m1 : x.1 = 0 → Up small20 rec6 x.2 2 t.l t.l := by rw [hx]; exact m1
            have m2 : x.1 ≠ 0 → Keeps small20 rec6 x 2 R safe := by rw [hx]; exact m2
            have m4 : x.1 = 12 → x.2.down = true := by rw [hx]; exact (says_rew hu _).2
            obtain ⟨N, hN⟩ : ∃ N, N = if x.1 = 0 then t.l else R := ⟨_, rfl⟩
            have RW : Hid (∀ w, Par W w (DL b c2 2 D R) (SB (.slice A9 safe.length c9) safe wo.heap.size t LA cL KA cK) → Calls Tryd.prog 14 #[.pointer (some ⟨c2, 0, none⟩), .slice LA t.l.length cL] w fun e w' => e = .returned (.int .i64 (x.1 : Nat)) ∧ Par W w' (DL b c2 2 x.2 N) (SB (.slice A9 safe.length c9) safe wo.heap.size t LA cL KA cK)) := Lib.hid (fun w h => by rw [hN, hx]; exact dl_rewrite h stab_sb HT.out t.l LA cL (by decide) (by decide) (RL.out.below h.below) NL.out FT.out.smalls FT.out.flat (by have := FT.out.l; omega))
            clear hx
            by_cases h0 : x.1 = 0
            · have HU2 := Lib.hid (m1 h0)
              have hd := HU2.out.up
              have hN2 : N = t.l := by rw [hN, if_pos h0]
              rw [hN2] at RW
              have HR2 : Hid (t.l.length ≤ 3000 + (k + 1)) := Lib.hid (by have := FT.out.l; omega)
              have hlb : t.l.length ≤ 16777216 := by have := FT.out.l; omega
              have DN : Hid (∀ w Q, Par W w (DL b c2 2 x.2 t.l) Q → Calls Tryd.prog 17 #[.pointer (some ⟨b, 0, none⟩)] w fun e w' => e = .returned (.bool false) ∧ w = w') := Lib.hid (fun w Q h => by have := dl_down h; rw [hd] at this; exact this.mono fun _ _ hh => ⟨hh.1, hh.2.symm⟩)
              have z1 : (((x.1 : Nat) : Int) == 0) = true := by simp; omega
              have z2 : (x.1 == 0) = true := by simp; omega
              have z3 : (((x.1 : Nat) : Int) == 12) = false := by simp; omega
              have z4 : (x.1 == 12) = false := by simp; omega
              clear m1 m2 m4 hN hN2 hd h0 HU HR
              go_wp2_with (first
                | (go_at_call 17; go_must (refine (DN.out _ _ PE.out).mono ?_); rintro e u3 ⟨rfl, rfl⟩)
                | (go_at_call 13; go_must (refine (dl_all PB.out stab_sb hlb).mono ?_); rintro e u4 ⟨A5, c5, rfl, h⟩; have PE := Lib.hid h; clear h)
                | (go_at_call 14; go_must (refine (RW.out _ PA0.out).mono ?_); rintro e u2 ⟨rfl, h⟩; have PB := Lib.hid h; obtain ⟨b0, b1, b2, b3, b4⟩ := sb_act PB.out; clear h))
              go_roundw
              case rel => exact ⟨k + 1, x.2, t.l, t.l, A5, c5, by go_num, rfl, rfl, rfl, rfl, by omega, Lib.hid (PE.out.right), HU2, HR2⟩
              case measure => simp [intOf]; omega
            · have z1 : (((x.1 : Nat) : Int) == 0) = false := by simp; omega
              have z2 : (x.1 == 0) = false := by simp; omega
              have hN2 : N = R := by rw [hN, if_neg h0]
              rw [hN2] at RW
              by_cases h12 : x.1 = 12
              · have hd := m4 h12
                have hf := ((m2 h0).2 hd).2
                have DN : Hid (∀ w Q, Par W w (DL b c2 2 x.2 R) Q → Calls Tryd.prog 17 #[.pointer (some ⟨b, 0, none⟩)] w fun e w' => e = .returned (.bool true) ∧ w = w') := Lib.hid (fun w Q h => by have := dl_down h; rw [hd] at this; exact this.mono fun _ _ hh => ⟨hh.1, hh.2.symm⟩)
                have FIN : Hid (∀ w A5 c5, Par W w (HasP b x.2) (Both (SlP (.slice A5 R.length c5) R) (SlP (.slice A9 safe.length c9) safe)) → Calls Tryd.prog 18 #[.pointer (some ⟨b, 0, none⟩), .slice A5 R.length c5, .slice A9 safe.length c9, .slice LA t.l.length cL, .bool true] w fun e w' => e = .returned (.bool true) ∧ Below W.heap.size W w') := Lib.hid (fun w A5 c5 h => recov_yes W w b c5 c9 cL A5 A9 LA x.2 R safe t.l HT.out h (hf) (by omega) (RL.out.below h.below))
                have z3 : (((x.1 : Nat) : Int) == 12) = true := by simp; omega
                have z4 : (x.1 == 12) = true := by simp; omega
                clear m1 m2 m4 hN hN2 hf hd h0 h12 HU HR
                go_wp2_with (first
                  | (go_at_call 18; go_must (refine (FIN.out _ _ _ PF.out).mono ?_); rintro e u6 ⟨rfl, h⟩; have BF := Lib.hid h; clear h)
                  | (refine wpList_append_row rfl (.tmp 105) (.tmp 106) 32 rfl 9 i0 _ 1 16 Tryd.underlying32 hi hz0 hz1 hz2 rfl (by decide) (.slice A5 R.length c5) R.length (strs R) rfl PE.out.slR none 0 0 (strs []) rfl rfl (RowAt.nil _ none) (fun _ => rfl) (strs_one _) (by simp only [maxLen]; omega) (by omega) ?_; intro v' u5 ho hg hbl; have ho2 := own_cast ho (show R.length + 0 = R.length by omega) (show strs R ++ strs [] = strs R by simp [strs]); obtain ⟨A6, c6, rfl, -⟩ := own_form ho2; have PF1 := par_append PE.out (stab_dl _ _ _ _ _) stab_sb ho2 hg hbl; have PF := Lib.hid (dl_only PF1.mid.swapQ); clear ho hg hbl ho2 PF1)
                  | (go_at_call 13; go_must (refine (dl_all PB.out stab_sb (by omega)).mono ?_); rintro e u4 ⟨A5, c5, rfl, h⟩; have PE := Lib.hid h; clear h)
                  | (go_at_call 17; go_must (refine (DN.out _ _ PB.out).mono ?_); rintro e u3 ⟨rfl, rfl⟩)
                  | (go_at_call 14; go_must (refine (RW.out _ PA0.out).mono ?_); rintro e u2 ⟨rfl, h⟩; have PB := Lib.hid h; obtain ⟨b0, b1, b2, b3, b4⟩ := sb_act PB.out; clear h))
                go_ret
                exact ⟨by simp, BF.out⟩
              · have hd : x.2.down = false := by cases h : x.2.down with | false => rfl | true => exact absurd ((m2 h0).2 h).1 h12
                have HU2 := Lib.hid ((m2 h0).1 hd)
                have HR2 : Hid (R.length ≤ 3000 + (k + 1)) := Lib.hid (by have := HR.out; omega)
                have DN : Hid (∀ w Q, Par W w (DL b c2 2 x.2 R) Q → Calls Tryd.prog 17 #[.pointer (some ⟨b, 0, none⟩)] w fun e w' => e = .returned (.bool false) ∧ w = w') := Lib.hid (fun w Q h => by have := dl_down h; rw [hd] at this; exact this.mono fun _ _ hh => ⟨hh.1, hh.2.symm⟩)
                have z3 : (((x.1 : Nat) : Int) == 12) = false := by simp; omega
                have z4 : (x.1 == 12) = false := by simp; omega
                clear m1 m2 m4 hN hN2 hd h0 h12 HU HR
                go_wp2_with (first
                  | (go_at_call 17; go_must (refine (DN.out _ _ PB.out).mono ?_); rintro e u3 ⟨rfl, rfl⟩)
                  | (go_at_call 14; go_must (refine (RW.out _ PA0.out).mono ?_); rintro e u2 ⟨rfl, h⟩; have PB := Lib.hid h; obtain ⟨b0, b1, b2, b3, b4⟩ := sb_act PB.out; clear h))
                go_roundw
                case rel => exact ⟨k + 1, x.2, R, safe, A9, c9, by go_num, rfl, rfl, rfl, rfl, by omega, Lib.hid (PB.out.left), HU2, HR2⟩
                case measure => simp [intOf]; omega
          · have a7 : bits .and .i64 t.d 7 = 6 := by rw [i64_and7, q]
            clear q
            obtain ⟨E, hE⟩ : ∃ E, E = D.lose t.n := ⟨_, rfl⟩
            have HU2 : Hid (Up small20 rec6 E 2 R safe) := Lib.hid (by rw [hE]; exact HU.out.lose _)
            have hd := HU2.out.up
            have HR2 : Hid (R.length ≤ 3000 + (k + 1)) := Lib.hid (by have := HR.out; omega)
            have DN : Hid (∀ w Q, Par W w (DL b c2 2 E R) Q → Calls Tryd.prog 17 #[.pointer (some ⟨b, 0, none⟩)] w fun e w' => e = .returned (.bool false) ∧ w = w') := Lib.hid (fun w Q h => by have := dl_down h; rw [hd] at this; exact this.mono fun _ _ hh => ⟨hh.1, hh.2.symm⟩)
            have LS : Hid (∀ w, Par W w (DL b c2 2 D R) (SB (.slice A9 safe.length c9) safe wo.heap.size t LA cL KA cK) → Calls Tryd.prog 15 #[.pointer (some ⟨b, 0, none⟩), .int .i64 t.n] w fun e w' => e = .returned (.tuple #[]) ∧ Par W w' (DL b c2 2 E R) (SB (.slice A9 safe.length c9) safe wo.heap.size t LA cL KA cK)) := Lib.hid (fun w h => by rw [hE]; exact dl_lose h stab_sb t.n TN.out)
            clear hE hd HU HR
            go_wp2_with (first
              | (go_at_call 17; go_must (refine (DN.out _ _ PB.out).mono ?_); rintro e u3 ⟨rfl, rfl⟩)
              | (go_at_call 15; go_must (refine (LS.out _ PA0.out).mono ?_); rintro e u2 ⟨rfl, h⟩; have PB := Lib.hid h; obtain ⟨b0, b1, b2, b3, b4⟩ := sb_act PB.out; clear h))
            go_roundw
            case rel => exact ⟨k + 1, E, R, safe, A9, c9, by go_num, rfl, rfl, rfl, rfl, by omega, Lib.hid (PB.out.left), HU2, HR2⟩
            case measure => simp [intOf]; omega
          · have a7 : bits .and .i64 t.d 7 = 7 := by rw [i64_and7, q]
            clear q
            obtain ⟨E, hE⟩ : ∃ E, E = D.arm t.n (kf t.keep) := ⟨_, rfl⟩
            have HU2 : Hid (Up small20 rec6 E 2 R safe) := Lib.hid (by rw [hE]; exact HU.out.arm _ _)
            have hd := HU2.out.up
            have HR2 : Hid (R.length ≤ 3000 + (k + 1)) := Lib.hid (by have := HR.out; omega)
            have DN : Hid (∀ w Q, Par W w (DL b c2 2 E R) Q → Calls Tryd.prog 17 #[.pointer (some ⟨b, 0, none⟩)] w fun e w' => e = .returned (.bool false) ∧ w = w') := Lib.hid (fun w Q h => by have := dl_down h; rw [hd] at this; exact this.mono fun _ _ hh => ⟨hh.1, hh.2.symm⟩)
            have AM : Hid (∀ w, Par W w (DL b c2 2 D R) (SB (.slice A9 safe.length c9) safe wo.heap.size t LA cL KA cK) → Calls Tryd.prog 16 #[.pointer (some ⟨b, 0, none⟩), .int .i64 t.n, .slice KA t.keep.length cK] w fun e w' => e = .returned (.tuple #[]) ∧ Par W w' (DL b c2 2 E R) (SB (.slice A9 safe.length c9) safe wo.heap.size t LA cL KA cK)) := Lib.hid (fun w h => by rw [hE]; exact dl_arm h stab_sb t.n TN.out KA cK t.keep (GK.out.below h.below).row.at_ GK.out.lt)
            clear hE hd HU HR
            go_wp2_with (first
              | (go_at_call 17; go_must (refine (DN.out _ _ PB.out).mono ?_); rintro e u3 ⟨rfl, rfl⟩)
              | (go_at_call 16; go_must (refine (AM.out _ PA0.out).mono ?_); rintro e u2 ⟨rfl, h⟩; have PB := Lib.hid h; obtain ⟨b0, b1, b2, b3, b4⟩ := sb_act PB.out; clear h))
            go_roundw
            case rel => exact ⟨k + 1, E, R, safe, A9, c9, by go_num, rfl, rfl, rfl, rfl, by omega, Lib.hid (PB.out.left), HU2, HR2⟩
            case measure => simp [intOf]; omega
        · obtain rfl : k = l.length := by omega
          have j1 : decide ((l.length : Int) < (l.length : Int)) = false := by simp
          have j2 : decide (l.length < l.length) = false := by simp
          have hRb : R.length ≤ 16777216 := by have := HR.out; have := FN.out.1; omega
          obtain ⟨E, hE⟩ : ∃ E, E = D.fall (kf ks) := ⟨_, rfl⟩
          have FA : Hid (∀ w, Par W w (DL b c2 2 D R) (SlP (.slice A9 safe.length c9) safe) → Calls Tryd.prog 19 #[.pointer (some ⟨b, 0, none⟩), .slice A1 ks.length c1] w fun e w' => e = .returned (.tuple #[]) ∧ Par W w' (DL b c2 2 E R) (SlP (.slice A9 safe.length c9) safe)) := Lib.hid (fun w h => by
            rw [hE]; exact dl_fall h (stab_sl _ _) A1 c1 ks (HK.out.below h.below).row.at_)
          have FIN : Hid (∀ w A5 c5, Par W w (HasP b E) (Both (SlP (.slice A5 R.length c5) R) (SlP (.slice A9 safe.length c9) safe)) → Calls Tryd.prog 18 #[.pointer (some ⟨b, 0, none⟩), .slice A5 R.length c5, .slice A9 safe.length c9, .slice none 0 0, .bool false] w fun e w' => e = .returned (.bool true) ∧ Below W.heap.size W w') := Lib.hid (fun w A5 c5 h =>
            recov_no W w b c5 c9 0 0 A5 A9 none E R safe HT.out h (by rw [hE]; exact HU.out.fall _) hRb)
          clear hE
          go_wp2_with (first
            | (go_at_call 18; go_must (refine (FIN.out _ _ _ (dl_only H7.out.swapQ)).mono ?_); rintro e v8 ⟨rfl, h⟩; have B8 := Lib.hid h; clear h)
            | (go_at_call 13; go_must (refine (dl_all H6.out (stab_sl _ _) hRb).mono ?_); rintro e v7 ⟨A5, c5, rfl, h⟩; have H7 := Lib.hid h; clear h)
            | (go_at_call 19; go_must (refine (FA.out _ P1.out).mono ?_); rintro e v6 ⟨rfl, h⟩; have H6 := Lib.hid h; clear h))
          go_ret
          exact ⟨by simp, B8.out⟩
end Go.Proofs.YtgamkahbebnnaaaDoor.D5
