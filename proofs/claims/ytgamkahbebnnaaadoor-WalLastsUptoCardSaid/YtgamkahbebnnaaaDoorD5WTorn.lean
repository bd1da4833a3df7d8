/-
  The walk of WalTorn.
-/
import Derived.Test.YtgamkahbebnnaaaDoorD5WFile
namespace Go.Proofs.YtgamkahbebnnaaaDoor.D5
open Go.RowKit WalPlain
set_option maxRecDepth 40000
def tot (l : List Bs) : Nat := (l.map List.length).sum
theorem tot_snoc (l : List Bs) (k : Nat) (h : k < l.length) : tot (l.take (k + 1)) = tot (l.take k) + (l[k]).length := by
  have e : l.take (k + 1) = l.take k ++ [l[k]] := (List.take_append_getElem h).symm
  unfold tot
  rw [e, List.map_append, List.sum_append]
  simp
theorem tot_le (l : List Bs) (B : Nat) (h : ∀ s ∈ l, s.length ≤ B) : tot l ≤ B * l.length := by
  induction l with
  | nil => simp [tot]
  | cons a l ih =>
    have h1 := h a (by simp)
    have h2 := ih (fun s hs => h s (by simp [hs]))
    simp only [tot, List.map_cons, List.sum_cons, List.length_cons] at h2 ⊢
    rw [Nat.mul_succ]
    omega
theorem tot_mem (l : List Bs) (s : Bs) (h : s ∈ l) : s.length ≤ tot l := by
  induction l with
  | nil => simp at h
  | cons a l ih =>
    simp only [tot, List.map_cons, List.sum_cons]
    rcases List.mem_cons.1 h with rfl | h
    · omega
    · have := ih h
      simp only [tot] at this
      omega
theorem of_tot {l : List Bs} (h : tot l ≤ 2000) : ∀ s ∈ l, small20 s := fun s hs => by
  have := tot_mem l s hs
  unfold small20
  omega
theorem flat_tot {l : List Bs} (h : tot l ≤ 2000) (hl : l.length ≤ 40) : (flat rec6 l).length ≤ 5000 := by
  have := flat_le l 2000 (fun s hs => of_tot h s hs) h
  omega
set_option maxHeartbeats 400000 in
theorem torn_any (A : Option Addr) (cap : Nat) (l : List Bs) (cut : Int) (w : World) (hT : S3.Tabs w) (hr : Row w w.heap.size A (strs l)) (hl : ∀ s ∈ l, s.length ≤ 140737488351232) (hcap : l.length ≤ cap) (hlen : l.length ≤ 140737488351232) :
    Calls Tryd.prog 4 #[.slice A l.length cap, .int .i64 cut] w fun e w' => e = .returned (.bool true) ∧ Below w.heap.size w w' := by
  have HT := Lib.hid hT
  have HR := Lib.hid hr
  have HL := Lib.hid hl
  have S0 := Lib.hid (small_any w hT)
  clear hT hr hl
  go_enter Tryd.func4, Tryd.ntmps4
  go_wp2_with (go_at_call 7; refine S0.out.mono ?_; rintro e w1 ⟨rfl, h1⟩; have B1 := Lib.hid h1; clear h1)
  go_loopw [6, 7] (fun v6 v7 wr => ∃ k : Nat, v7 = .int .i64 (k : Int) ∧ k ≤ l.length ∧ k ≤ 30 ∧ v6 = .int .i64 (tot (l.take k) : Nat) ∧ wr = w1) (fun _ v7 _ => 30 - (intOf v7).toNat)
  case atStart => exact ⟨0, rfl, Nat.zero_le _, by omega, rfl, rfl⟩
  case round =>
    obtain ⟨k, rfl, hk, h30, rfl, rfl⟩ := hrel
    have hT2 : tot (l.take k) ≤ 140737488351232 * 30 := by
      have h1 := tot_le (l.take k) 140737488351232 (fun s hs => HL.out s (List.mem_of_mem_take hs))
      rw [List.length_take] at h1
      have : 140737488351232 * min k l.length ≤ 140737488351232 * 30 := Nat.mul_le_mul_left _ (by omega)
      omega
    by_cases hlt : k < l.length ∧ k < 30
    · obtain ⟨hlt, hk3⟩ := hlt
      have i1 : decide ((k : Int) < (l.length : Int)) = true := by simp; omega
      have i2 : decide (k < l.length) = true := by simp; omega
      have i3 : decide ((k : Int) < 30) = true := by simp; omega
      have i4 : decide (k < 30) = true := by simp; omega
      obtain ⟨s, hs⟩ : ∃ s, s = l[k] := ⟨_, rfl⟩
      obtain ⟨a, rfl, ha, hc⟩ := HR.out k _ (strs_at l k hlt)
      rw [← hs] at hc
      have hcr : wr.cell? (a.add k) = some (.string (mk s)) := (B1.out.cell (by rw [add_block]; exact ha)).trans hc
      have hz : (mk s).size = s.length := rfl
      have hsl := HL.out s (by rw [hs]; exact List.getElem_mem hlt)
      have ht := tot_snoc l k hlt
      rw [← hs] at ht
      have HTT := Lib.hid ht
      have W1 : IntKind.i64.wrap ((tot (l.take k) : Nat) + (s.length : Int) : Int) = (tot (l.take k) : Nat) + (s.length : Int) := IntWalk.i64_in _ (by omega)
      have W2 : IntKind.i64.wrap ((k : Int) + 1) = (k : Int) + 1 := IntWalk.i64_in _ (by omega)
      clear hs hc ht
      go_wp2
      go_roundw
      case rel => exact ⟨k + 1, by go_num, by omega, by omega, by rw [HTT.out]; go_num, trivial⟩
      case measure => simp [intOf]; omega
    · obtain ⟨t, ht⟩ : ∃ t, t = tot (l.take k) := ⟨_, rfl⟩
      have hd : decide ((k : Int) < (l.length : Int)) = false ∨ decide ((k : Int) < (l.length : Int)) = true ∧ decide ((k : Int) < 30) = false := by simp; omega
      have hd2 : decide (k < l.length) = false ∨ decide (k < l.length) = true ∧ decide (k < 30) = false := by simp; omega
      rw [← ht] at hT2 ⊢
      have HX : Hid (l.length ≤ 20 → tot l = t) := Lib.hid (fun h => by rw [ht, List.take_of_length_le (by omega)])
      clear ht
      by_cases h20 : 20 < l.length
      · have j1 : decide (20 < (l.length : Int)) = true := by simp; omega
        have j2 : decide (20 < l.length) = true := by simp; omega
        rcases hd with hd | ⟨hd, hd'⟩
        · have hd3 : decide (k < l.length) = false := by simp at hd ⊢; omega
          clear hd2
          go_wp2
          go_ret
          exact ⟨rfl, B1.out⟩
        · have hd3 : decide (k < 30) = false := by simp at hd' ⊢; omega
          have hd4 : decide (k < l.length) = true := by simp at hd ⊢; omega
          clear hd2
          go_wp2
          go_ret
          exact ⟨rfl, B1.out⟩
      · have j1 : decide (20 < (l.length : Int)) = false := by simp; omega
        have j2 : decide (20 < l.length) = false := by simp; omega
        have hk2 : k = l.length := by omega
        have hd3 : decide (k < l.length) = false := by simp; omega
        have hd4 : decide ((k : Int) < (l.length : Int)) = false := by simp; omega
        have htt := HX.out (by omega)
        clear hd hd2
        by_cases h2 : 2000 < t
        · have j3 : decide (2000 < (t : Int)) = true := by simp; omega
          have j4 : decide (2000 < t) = true := by simp; omega
          clear htt
          go_wp2
          go_ret
          exact ⟨rfl, B1.out⟩
        · have j3 : decide (2000 < (t : Int)) = false := by simp; omega
          have j4 : decide (2000 < t) = false := by simp; omega
          by_cases h3 : cut < 0
          · have j5 : decide (cut < 0) = true := by simp; omega
            clear htt
            go_wp2
            go_ret
            exact ⟨rfl, B1.out⟩
          · have j5 : decide (cut < 0) = false := by simp; omega
            obtain ⟨q, rfl⟩ := Int.eq_ofNat_of_zero_le (show 0 ≤ cut by omega)
            have ht2 : tot l ≤ 2000 := by omega
            clear htt
            obtain ⟨X, hX⟩ : ∃ X, X = flat rec6 l := ⟨_, rfl⟩
            have hX5 : X.length ≤ 5000 := by rw [hX]; exact flat_tot ht2 (by omega)
            have hsm := of_tot ht2
            have FI : Hid (Calls Tryd.prog 20 #[.slice A l.length cap] wr fun e w' => e = .returned (.tuple #[.string (mk X), .bool true]) ∧ Below wr.heap.size wr w') := Lib.hid (by
              rw [hX]
              exact file_any A cap l wr (HT.out.below B1.out HT.out.1) (HR.out.up B1.out B1.out.size) hsm (by rw [← hX]; omega) (by omega))
            have hz : (mk X).size = X.length := rfl
            by_cases h5 : X.length < q
            · have j6 : decide (X.length < q) = true := by simp; omega
              have j7 : decide ((X.length : Int) < (q : Int)) = true := by simp; omega
              have j8 : decide ((mk X).size < q) = true := by rw [hz]; simp; omega
              have j9 : decide (((mk X).size : Int) < (q : Int)) = true := by rw [hz]; simp; omega
              clear hX hsm
              go_wp2_with (go_at_call 20; refine FI.out.mono ?_; rintro e w2 ⟨rfl, h1⟩; have B2 := Lib.hid (B1.out.trans (h1.mono B1.out.size)); clear h1)
              go_ret
              exact ⟨rfl, B2.out⟩
            · have j6 : decide (X.length < q) = false := by simp; omega
              have j7 : decide ((X.length : Int) < (q : Int)) = false := by simp; omega
              have j8 : decide ((mk X).size < q) = false := by rw [hz]; simp; omega
              have j9 : decide (((mk X).size : Int) < (q : Int)) = false := by rw [hz]; simp; omega
              obtain ⟨m2, hv2⟩ := Form.has (rec_form crcN) (X.take q)
              obtain ⟨m3, hv3⟩ := Form.has (rec_form crcN) (X.take (min (q + 1) X.length))
              have hv1 : Valid small20 rec6 X l := by rw [hX]; exact whole6 l hsm
              have g1 : m2 <+: l := Valid.torn (rec_form crcN) hv2 hsm (by rw [hX]; exact List.take_prefix _ _)
              have g2 : m2 <+: m3 := Valid.grows (rec_form crcN) hv2 hv3 (by
                rw [show X.take q = (X.take (min (q + 1) X.length)).take q by rw [List.take_take]; congr 1; omega]
                exact List.take_prefix _ _)
              have g3 : ¬ q < X.length → m2.length = l.length := fun h => by
                have e : X.take q = X := List.take_of_length_le (by omega)
                rw [e] at hv2
                rw [Valid.one (rec_form crcN) hv2 hv1]
              have hcnt3 : m3.length ≤ 16777216 := by
                have h1 := flat_count m3
                have h2 := hv3.part.length_le
                rw [List.length_take] at h2
                have e : (flat rec6 m3).length = (flat (recE crcN) m3).length := rfl
                omega
              have R1 : Hid (∀ W, Below w.heap.size w W → Calls Tryd.prog 21 #[.string (mk X)] W fun e w' => ∃ A1 c1, e = .returned (.tuple #[.slice A1 l.length c1, .bool true]) ∧ w'.ownsRow W.heap.size 9 1 (.slice A1 l.length c1) l.length (strs l) ∧ Below W.heap.size W w') := Lib.hid (fun W h => rows_any X l W (HT.out.below h HT.out.1) (by omega) hv1)
              have R2 : Hid (∀ W, Below w.heap.size w W → Calls Tryd.prog 21 #[.string (mk (X.take q))] W fun e w' => ∃ A1 c1, e = .returned (.tuple #[.slice A1 m2.length c1, .bool true]) ∧ w'.ownsRow W.heap.size 9 1 (.slice A1 m2.length c1) m2.length (strs m2) ∧ Below W.heap.size W w') := Lib.hid (fun W h => rows_any _ m2 W (HT.out.below h HT.out.1) (by rw [List.length_take]; omega) hv2)
              have R3 : Hid (∀ W, Below w.heap.size w W → Calls Tryd.prog 21 #[.string (mk (X.take (min (q + 1) X.length)))] W fun e w' => ∃ A1 c1, e = .returned (.tuple #[.slice A1 m3.length c1, .bool true]) ∧ w'.ownsRow W.heap.size 9 1 (.slice A1 m3.length c1) m3.length (strs m3) ∧ Below W.heap.size W w') := Lib.hid (fun W h => rows_any _ m3 W (HT.out.below h HT.out.1) (by rw [List.length_take]; omega) hv3)
              have e2 : (mk X).extract 0 q = mk (X.take q) := by rw [extract_take]; rfl
              have e3 : (mk X).extract 0 (min ((q : Int) + 1) (X.length : Int)).toNat = mk (X.take (min (q + 1) X.length)) := by
                rw [extract_take, show (min ((q : Int) + 1) (X.length : Int)).toNat = min (q + 1) X.length by omega]; rfl
              have G1 := Lib.hid g1
              have G2 := Lib.hid g2
              have G3 := Lib.hid g3
              have Z := Lib.hid ht2
              clear hX hsm hv1 hv2 hv3 g1 g2 g3 ht2
              go_wp2_with (first
                | (go_at_call 20; refine FI.out.mono ?_; rintro e w2 ⟨rfl, h1⟩; have B2 := Lib.hid (B1.out.trans (h1.mono B1.out.size)); clear h1)
                | (go_at_call 21; have X := B4; clear X; go_must (refine (R3.out _ B4.out).mono ?_); rintro e w5 ⟨A3, c3, rfl, h1, h2⟩; have O5 := Lib.hid h1; have D5 := Lib.hid h2; have B5 := Lib.hid (B4.out.trans (h2.mono B4.out.size)); clear h1 h2)
                | (go_at_call 21; have X := B3; clear X; go_must (refine (R2.out _ B3.out).mono ?_); rintro e w4 ⟨A2, c2, rfl, h1, h2⟩; have O4 := Lib.hid h1; have D4 := Lib.hid h2; have B4 := Lib.hid (B3.out.trans (h2.mono B3.out.size)); clear h1 h2)
                | (go_at_call 21; go_must (refine (R1.out _ B2.out).mono ?_); rintro e w3 ⟨A1, c1, rfl, h1, h2⟩; have O3 := Lib.hid h1; have B3 := Lib.hid (B2.out.trans (h2.mono B2.out.size)); clear h1 h2))
              have RW : Hid (∀ W, Below w5.heap.size w5 W → RowAt W A (strs l) ∧ RowAt W A1 (strs l) ∧ RowAt W A2 (strs m2) ∧ RowAt W A3 (strs m3)) := Lib.hid (fun W h =>
                ⟨(HR.out.below (B5.out.trans (h.mono B5.out.size))).at_, own_later O3.out (D4.out.trans ((D5.out.mono D4.out.size).trans (h.mono (Nat.le_trans D4.out.size D5.out.size)))), own_later O4.out (D5.out.trans (h.mono D5.out.size)), own_later O5.out h⟩)
              have hc3 : m3.length ≤ c3 := own_cap O5.out
              have SM : Hid (Calls Tryd.prog 22 #[.slice A1 l.length c1, .slice A l.length cap] w5 fun e w' => e = .returned (.bool true) ∧ ∃ j, w' = w5.drewN j) := Lib.hid (by
                have h := RW.out w5 (Below.refl _ _)
                have := same_any A1 A c1 cap l l w5 h.2.1 h.1 (by omega)
                rwa [decide_eq_true rfl] at this)
              have BA : Hid (∀ j, Calls Tryd.prog 23 #[.slice A l.length cap, .slice A2 m2.length c2] (w5.drewN j) fun e w' => e = .returned (.bool true) ∧ ∃ j, w' = w5.drewN j) := Lib.hid (fun j => by
                have h := RW.out (w5.drewN j) (drewB _ _)
                have := begins_any A A2 cap c2 l m2 (w5.drewN j) h.1 h.2.2.1 hcap (by omega)
                rw [decide_eq_true G1.out] at this
                exact this.mono fun e w' ⟨h1, j2, h2⟩ => ⟨h1, j + j2, by rw [h2, World.drewN_drewN]⟩)
              have BB : Hid (∀ j, Calls Tryd.prog 23 #[.slice A3 m3.length c3, .slice A2 m2.length c2] (w5.drewN j) fun e w' => e = .returned (.bool true) ∧ ∃ j, w' = w5.drewN j) := Lib.hid (fun j => by
                have h := RW.out (w5.drewN j) (drewB _ _)
                have := begins_any A3 A2 c3 c2 m3 m2 (w5.drewN j) h.2.2.2 h.2.2.1 hc3 hcnt3
                rw [decide_eq_true G2.out] at this
                exact this.mono fun e w' ⟨h1, j2, h2⟩ => ⟨h1, j + j2, by rw [h2, World.drewN_drewN]⟩)
              clear hc3 O3 O4 O5 D4 D5 RW R1 R2 R3
              by_cases h9 : q < X.length
              · have t1 : decide ((q : Int) < (X.length : Int)) = true := by simp; omega
                have t2 : decide (q < X.length) = true := by simp; omega
                have t3 : decide (q < (mk X).size) = true := by rw [hz]; simp; omega
                have t4 : decide ((q : Int) < ((mk X).size : Int)) = true := by rw [hz]; simp; omega
                clear G1 G2 G3 h9
                go_wp2_with (first
                  | (go_at_call 22; go_must (refine SM.out.mono ?_); rintro e v1 ⟨rfl, j1, rfl⟩; have M1 := Lib.hid True.intro)
                  | (go_at_call 23; have X := M2; clear X; go_must (refine (BB.out _).mono ?_); rintro e v3 ⟨rfl, j3, rfl⟩)
                  | (go_at_call 23; go_must (refine (BA.out _).mono ?_); rintro e v2 ⟨rfl, j2, rfl⟩; have M2 := Lib.hid True.intro))
                go_ret
                exact ⟨rfl, B5.out.trans ((drewB _ _).mono B5.out.size)⟩
              · have t1 : decide ((q : Int) < (X.length : Int)) = false := by simp; omega
                have t2 : decide (q < X.length) = false := by simp; omega
                have t3 : decide (q < (mk X).size) = false := by rw [hz]; simp; omega
                have t4 : decide ((q : Int) < ((mk X).size : Int)) = false := by rw [hz]; simp; omega
                have t5 : ((m2.length : Int) == (l.length : Int)) = true := by have := G3.out h9; simp; omega
                clear G1 G2 G3 h9
                go_wp2_with (first
                  | (go_at_call 22; go_must (refine SM.out.mono ?_); rintro e v1 ⟨rfl, j1, rfl⟩; have M1 := Lib.hid True.intro)
                  | (go_at_call 23; have X := M2; clear X; go_must (refine (BB.out _).mono ?_); rintro e v3 ⟨rfl, j3, rfl⟩)
                  | (go_at_call 23; go_must (refine (BA.out _).mono ?_); rintro e v2 ⟨rfl, j2, rfl⟩; have M2 := Lib.hid True.intro))
                go_ret
                exact ⟨rfl, B5.out.trans ((drewB _ _).mono B5.out.size)⟩
end Go.Proofs.YtgamkahbebnnaaaDoor.D5
