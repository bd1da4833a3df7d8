/-
  The reference's Reader.Num.
-/
import Derived.Test.YtmcdbjkmkbdeiaaRefA
namespace Go.Proofs.Ytmcdbjkmkbdeiaa
open Go.RowKit
theorem val_drop (l : List UInt8) (k : Nat) (h : k < l.length) : val (l.drop k) = l[k].toNat % 128 + 128 * val (l.drop (k + 1)) := by
  rw [List.drop_eq_getElem_cons h]
  rfl
theorem val_drop_lt (l : List UInt8) (k : Nat) (h : l.length ≤ 9) : val (l.drop k) < 9223372036854775808 := by
  have h1 := val_lt (l.drop k)
  have h2 := pow_nine (l.drop k).length (by rw [List.length_drop]; omega)
  omega
theorem val_nat {a b : Nat} (h : a = b) : Ending.returned (.int .i64 (a : Int)) = Ending.returned (.int .i64 (b : Int)) := by rw [h]
theorem zint {a b : Int} (h : a = b) : Value.int .i64 a = .int .i64 b := by rw [h]
set_option maxRecDepth 20000 in
set_option maxHeartbeats 1000000 in
theorem xnum_ok (b : Nat) (s : ByteArray) (f : Bool) (w : World) (h : Is w b 34 #[.string s, .bool f]) (hs : s.size ≤ 1000000000) (hok : okv (ls s)) :
    Calls Try.prog 9 #[.pointer (some ⟨b, 0, none⟩)] w fun e w' => e = .returned (.int .i64 (val ((ls s).take (hi (ls s) + 1)) : Nat)) ∧ Is w' b 34 #[.string (s.extract (hi (ls s) + 1) s.size), .bool f] ∧ w.grownBy w' (some b) := by
  have c0 : w.cell? ⟨b, 0, none⟩ = some (.string s) := h.at_ 0
  have f0 := h.open_ 0
  have H := Lib.hid h
  clear h
  obtain ⟨o1, o2, o3⟩ := hok
  rw [ls_length] at o1
  have G := getD_at s (hi (ls s)) o1
  rw [G] at o3
  have O3 := Lib.hid o3
  clear o3 G
  go_enter Try.func9, Try.ntmps9
  go_wp2
  go_loop [3] (fun i => ∃ k : Nat, k ≤ s.size ∧ k ≤ hi (ls s) ∧ i = .int .i64 k) (fun i => s.size - (intOf i).toNat)
  case atStart => exact ⟨0, by omega, by omega, rfl⟩
  case round =>
    obtain ⟨k, hk, hkh, rfl⟩ := hrel
    have hlt : k < s.size := by omega
    have ha := hi_at (ls s) k hlt hkh
    rw [show (ls s)[k]'hlt = s[k] from rfl] at ha
    have i1 : decide ((k : Int) < (s.size : Int)) = true := by simp; omega
    by_cases hc : 128 ≤ s[k].toNat
    · have h1 := ha.1 hc
      have i2 : decide ((128 : Int) ≤ (s[k].toNat : Int)) = true := by simp; omega
      clear ha
      go_wp2
      go_round
      case rel => exact ⟨k + 1, by omega, by omega, by go_num⟩
      case measure => simp [intOf]; omega
    · have h1 := ha.2 (by omega)
      have i2 : decide ((128 : Int) ≤ (s[k].toNat : Int)) = false := by simp; omega
      have HK := Lib.hid h1
      have hk8 : k ≤ 8 := by omega
      have O4 : k = 0 ∨ s[k].toNat ≠ 0 := by
        have := O3.out
        simp only [h1] at this
        exact this
      have hl : ((ls s).take (k + 1)).length = k + 1 := by rw [List.length_take, ls_length]; omega
      have HL := Lib.hid hl
      have j1 : decide ((s.size : Int) ≤ (k : Int)) = false := by simp; omega
      have j1b : decide (s.size ≤ k) = false := by simp; omega
      have j2 : decide ((8 : Int) < (k : Int)) = false := by simp; omega
      have j2b : decide (8 < k) = false := by simp; omega
      clear ha h1 hl
      by_cases hk0 : k = 0
      · have e3 : decide ((0 : Int) < (k : Int)) = false := by simp; omega
        have e3b : decide (0 < k) = false := by simp; omega
        have HK0 := Lib.hid hk0
        clear hk0 O4
        go_wp2
        go_loop [4, 5] (fun n i => ∃ z : Int, -1 ≤ z ∧ z ≤ (k : Int) ∧ i = .int .i64 z ∧ n = .int .i64 (val (((ls s).take (k + 1)).drop (z + 1).toNat) : Nat)) (fun _ i => (intOf i + 1).toNat)
        case atStart =>
          refine ⟨k, by omega, by omega, rfl, ?_⟩
          rw [show ((k : Int) + 1).toNat = k + 1 by omega, List.drop_of_length_le (by rw [HL.out]; omega)]
          rfl
        case round =>
          obtain ⟨z, hz1, hz2, rfl, rfl⟩ := hrel
          by_cases hz : z < 0
          · obtain rfl : z = -1 := by omega
            have hv : val (((ls s).take (k + 1)).drop ((-1 : Int) + 1).toNat) = val ((ls s).take (k + 1)) := by simp
            have HV := Lib.hid hv
            clear hv
            go_wp2
            go_ret
            exact ⟨by rw [HK.out]; exact val_nat HV.out, by rw [HK.out]; exact H.out.put 0 _, grown_set (World.grownBy.refl _ _) _ _⟩
          · obtain ⟨j, rfl⟩ : ∃ j : Nat, z = j := ⟨z.toNat, by omega⟩
            have hjk : j ≤ k := by omega
            have hjs : j < s.size := by omega
            have A := and127 s[j]
            have hd : val (((ls s).take (k + 1)).drop j) = s[j].toNat % 128 + 128 * val (((ls s).take (k + 1)).drop (j + 1)) := by
              have h0 := val_drop ((ls s).take (k + 1)) j (by rw [HL.out]; omega)
              rw [List.getElem_take] at h0
              exact h0
            have hb := val_drop_lt ((ls s).take (k + 1)) j (by rw [HL.out]; omega)
            rw [show ((j : Int) + 1).toNat = j + 1 by omega]
            obtain ⟨V, hV⟩ : ∃ V, val (((ls s).take (k + 1)).drop (j + 1)) = V := ⟨_, rfl⟩
            rw [hV] at hd ⊢
            have hbd : s[j].toNat % 128 + 128 * V < 9223372036854775808 := by omega
            have HD := Lib.hid hd
            have m0 : decide ((0 : Int) ≤ (j : Int)) = true := by simp
            clear hd hb hV
            go_wp2
            go_round
            case rel =>
              refine ⟨(j : Int) - 1, by omega, by omega, rfl, ?_⟩
              rw [show ((j : Int) - 1 + 1).toNat = j by omega, HD.out]
              exact zint (by omega)
            case measure => simp [intOf]
      · have e3 : decide ((0 : Int) < (k : Int)) = true := by simp; omega
        have e3b : decide (0 < k) = true := by simp; omega
        have hnz : ¬ s[k].toNat = 0 := by omega
        clear hk0 O4
        go_wp2
        go_loop [4, 5] (fun n i => ∃ z : Int, -1 ≤ z ∧ z ≤ (k : Int) ∧ i = .int .i64 z ∧ n = .int .i64 (val (((ls s).take (k + 1)).drop (z + 1).toNat) : Nat)) (fun _ i => (intOf i + 1).toNat)
        case atStart =>
          refine ⟨k, by omega, by omega, rfl, ?_⟩
          rw [show ((k : Int) + 1).toNat = k + 1 by omega, List.drop_of_length_le (by rw [HL.out]; omega)]
          rfl
        case round =>
          obtain ⟨z, hz1, hz2, rfl, rfl⟩ := hrel
          by_cases hz : z < 0
          · obtain rfl : z = -1 := by omega
            have hv : val (((ls s).take (k + 1)).drop ((-1 : Int) + 1).toNat) = val ((ls s).take (k + 1)) := by simp
            have HV := Lib.hid hv
            clear hv
            go_wp2
            go_ret
            exact ⟨by rw [HK.out]; exact val_nat HV.out, by rw [HK.out]; exact H.out.put 0 _, grown_set (World.grownBy.refl _ _) _ _⟩
          · obtain ⟨j, rfl⟩ : ∃ j : Nat, z = j := ⟨z.toNat, by omega⟩
            have hjk : j ≤ k := by omega
            have hjs : j < s.size := by omega
            have A := and127 s[j]
            have hd : val (((ls s).take (k + 1)).drop j) = s[j].toNat % 128 + 128 * val (((ls s).take (k + 1)).drop (j + 1)) := by
              have h0 := val_drop ((ls s).take (k + 1)) j (by rw [HL.out]; omega)
              rw [List.getElem_take] at h0
              exact h0
            have hb := val_drop_lt ((ls s).take (k + 1)) j (by rw [HL.out]; omega)
            rw [show ((j : Int) + 1).toNat = j + 1 by omega]
            obtain ⟨V, hV⟩ : ∃ V, val (((ls s).take (k + 1)).drop (j + 1)) = V := ⟨_, rfl⟩
            rw [hV] at hd ⊢
            have hbd : s[j].toNat % 128 + 128 * V < 9223372036854775808 := by omega
            have HD := Lib.hid hd
            have m0 : decide ((0 : Int) ≤ (j : Int)) = true := by simp
            clear hd hb hV
            go_wp2
            go_round
            case rel =>
              refine ⟨(j : Int) - 1, by omega, by omega, rfl, ?_⟩
              rw [show ((j : Int) - 1 + 1).toNat = j by omega, HD.out]
              exact zint (by omega)
            case measure => simp [intOf]

set_option maxRecDepth 20000 in
set_option maxHeartbeats 1000000 in
theorem xnum_no (b : Nat) (s : ByteArray) (f : Bool) (w : World) (h : Is w b 34 #[.string s, .bool f]) (hs : s.size ≤ 1000000000) (hok : ¬ okv (ls s)) :
    Calls Try.prog 9 #[.pointer (some ⟨b, 0, none⟩)] w fun e w' => e = .returned (.int .i64 0) ∧ Rd w' b 34 none ∧ w.grownBy w' (some b) := by
  have c0 : w.cell? ⟨b, 0, none⟩ = some (.string s) := h.at_ 0
  have H := Lib.hid h
  clear h
  have K := Lib.hid hok
  have hhl := hi_le (ls s)
  rw [ls_length] at hhl
  clear hok
  go_enter Try.func9, Try.ntmps9
  go_wp2
  go_loop [3] (fun i => ∃ k : Nat, k ≤ s.size ∧ k ≤ hi (ls s) ∧ i = .int .i64 k) (fun i => s.size - (intOf i).toNat)
  case atStart => exact ⟨0, by omega, by omega, rfl⟩
  case round =>
    obtain ⟨k, hk, hkh, rfl⟩ := hrel
    by_cases hlt : k < s.size
    · have ha := hi_at (ls s) k hlt hkh
      rw [show (ls s)[k]'hlt = s[k] from rfl] at ha
      have i1 : decide ((k : Int) < (s.size : Int)) = true := by simp; omega
      by_cases hc : 128 ≤ s[k].toNat
      · have h1 := ha.1 hc
        have i2 : decide ((128 : Int) ≤ (s[k].toNat : Int)) = true := by simp; omega
        clear ha
        go_wp2
        go_round
        case rel => exact ⟨k + 1, by omega, by omega, by go_num⟩
        case measure => simp [intOf]; omega
      · have h1 := ha.2 (by omega)
        have i2 : decide ((128 : Int) ≤ (s[k].toNat : Int)) = false := by simp; omega
        have G := getD_at s k hlt
        have hbad : 8 < k ∨ (0 < k ∧ s[k].toNat = 0) := by
          have K1 := K.out
          unfold okv at K1
          rw [h1, G, ls_length] at K1
          omega
        have j1 : decide ((s.size : Int) ≤ (k : Int)) = false := by simp; omega
        have j1b : decide (s.size ≤ k) = false := by simp; omega
        clear ha h1 G
        by_cases h8 : 8 < k
        · have j2 : decide ((8 : Int) < (k : Int)) = true := by simp; omega
          clear hbad
          go_wp2_with (go_at_call 14; refine (xfail_any b s f _ H.out).mono ?_; rintro e w' ⟨rfl, h1, h2⟩)
          go_ret
          exact ⟨rfl, h1, h2⟩
        · have j2 : decide ((8 : Int) < (k : Int)) = false := by simp; omega
          have j2b : decide (8 < k) = false := by simp; omega
          have hz : s[k].toNat = 0 := by omega
          have e3 : decide ((0 : Int) < (k : Int)) = true := by simp; omega
          have e3b : decide (0 < k) = true := by simp; omega
          clear hbad
          go_wp2_with (go_at_call 14; refine (xfail_any b s f _ H.out).mono ?_; rintro e w' ⟨rfl, h1, h2⟩)
          go_ret
          exact ⟨rfl, h1, h2⟩
    · have i1 : decide ((k : Int) < (s.size : Int)) = false := by simp; omega
      have i1b : decide (k < s.size) = false := by simp; omega
      have j1 : decide ((s.size : Int) ≤ (k : Int)) = true := by simp; omega
      have j1b : decide (s.size ≤ k) = true := by simp; omega
      go_wp2_with (go_at_call 14; refine (xfail_any b s f _ H.out).mono ?_; rintro e w' ⟨rfl, h1, h2⟩)
      go_ret
      exact ⟨rfl, h1, h2⟩
theorem xnum_any (b : Nat) (st : St) (w : World) (h : Rd w b 34 st) (hs : (rest st).length ≤ 1000000000) :
    Calls Try.prog 9 #[.pointer (some ⟨b, 0, none⟩)] w fun e w' => e = .returned (.int .i64 ((rNum st).1 : Nat)) ∧ Rd w' b 34 (rNum st).2 ∧ w.grownBy w' (some b) := by
  cases st with
  | none => exact xnum_no b (mk []) true w h (by simp [size_mk]) not_okv_nil
  | some l =>
    by_cases hok : okv l
    · have := xnum_ok b (mk l) false w h hs hok
      rw [extract_drop] at this
      rw [rNum_some, if_pos hok]
      exact this
    · rw [rNum_some, if_neg hok]
      exact xnum_no b (mk l) false w h hs hok
end Go.Proofs.Ytmcdbjkmkbdeiaa
