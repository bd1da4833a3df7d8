/-
  The code's Reader, call by call.
-/
import Derived.Test.YtmcdbjkmkbdeiaaBits
import Derived.Outline
import Derived.Deep.DeepFit
namespace Go.Proofs.Ytmcdbjkmkbdeiaa
open Go.RowKit

theorem fail_any (b : Nat) (s : ByteArray) (f : Bool) (w : World) (h : Is w b 58 #[.string s, .bool f]) :
    Calls Try.prog 32 #[.pointer (some ⟨b, 0, none⟩)] w fun e w' => e = .returned (.tuple #[]) ∧ Rd w' b 58 none ∧ w.grownBy w' (some b) := by
  have c0 : w.cell? ⟨b, 0, none⟩ = some (.string s) := h.at_ 0
  have c1 : w.cell? ⟨b, 1, none⟩ = some (.bool f) := h.at_ 1
  have f0 := h.open_ 0
  have f1 := h.open_ 1
  go_enter Try.func32, Try.ntmps32
  go_wp2
  go_end0
  exact ⟨rfl, (h.put 0 _).put 1 _, grown_set (grown_set (World.grownBy.refl _ _) _ _) _ _⟩
theorem done_true (b : Nat) (s : ByteArray) (w : World) (h : Is w b 58 #[.string s, .bool true]) :
    Calls Try.prog 18 #[.pointer (some ⟨b, 0, none⟩)] w fun e w' => e = .returned (.bool false) ∧ w = w' := by
  have c1 : w.cell? ⟨b, 1, none⟩ = some (.bool true) := h.at_ 1
  go_enter Try.func18, Try.ntmps18
  go_wp2
  go_ret
  exact ⟨rfl, rfl⟩
theorem done_false (b : Nat) (s : ByteArray) (w : World) (h : Is w b 58 #[.string s, .bool false]) :
    Calls Try.prog 18 #[.pointer (some ⟨b, 0, none⟩)] w fun e w' => e = .returned (.bool (s.toList.isEmpty)) ∧ w = w' := by
  have c0 : w.cell? ⟨b, 0, none⟩ = some (.string s) := h.at_ 0
  have c1 : w.cell? ⟨b, 1, none⟩ = some (.bool false) := h.at_ 1
  go_enter Try.func18, Try.ntmps18
  go_wp2
  go_ret
  exact ⟨rfl, rfl⟩
theorem take_no (b : Nat) (s : ByteArray) (f : Bool) (n : Int) (w : World) (h : Is w b 58 #[.string s, .bool f]) (_ : s.size ≤ 1000000000) (hn : n < 0 ∨ (s.size : Int) < n) :
    Calls Try.prog 33 #[.pointer (some ⟨b, 0, none⟩), .int .i64 n] w fun e w' => e = .returned (.string ⟨#[]⟩) ∧ Rd w' b 58 none ∧ w.grownBy w' (some b) := by
  have c0 : w.cell? ⟨b, 0, none⟩ = some (.string s) := h.at_ 0
  have H := Lib.hid h
  clear h
  by_cases h0 : n < 0
  · clear hn
    have h1 : decide (n < 0) = true := by simpa using h0
    go_enter Try.func33, Try.ntmps33
    go_wp2_with (go_at_call 32; refine (fail_any b s f _ H.out).mono ?_; rintro e w' ⟨rfl, h1, h2⟩)
    go_ret
    exact ⟨rfl, h1, h2⟩
  · have h1 : decide (n < 0) = false := by simpa using h0
    have h2 : (s.size : Int) < n := by omega
    clear hn
    go_enter Try.func33, Try.ntmps33
    go_wp2_with (go_at_call 32; refine (fail_any b s f _ H.out).mono ?_; rintro e w' ⟨rfl, h1, h2⟩)
    go_ret
    exact ⟨rfl, h1, h2⟩
theorem take_yes (b : Nat) (s : ByteArray) (f : Bool) (n : Nat) (w : World) (h : Is w b 58 #[.string s, .bool f]) (_ : s.size ≤ 1000000000) (hn : n ≤ s.size) :
    Calls Try.prog 33 #[.pointer (some ⟨b, 0, none⟩), .int .i64 (n : Int)] w fun e w' => e = .returned (.string (s.extract 0 n)) ∧ Is w' b 58 #[.string (s.extract n s.size), .bool f] ∧ w.grownBy w' (some b) := by
  have c0 : w.cell? ⟨b, 0, none⟩ = some (.string s) := h.at_ 0
  have f0 := h.open_ 0
  have H := Lib.hid h
  clear h
  have h1 : decide ((n : Int) < 0) = false := by simp
  have h2 : decide ((s.size : Int) < (n : Int)) = false := by simp; omega
  have h3 : decide (s.size < n) = false := by simp; omega
  go_enter Try.func33, Try.ntmps33
  go_wp2
  go_ret
  exact ⟨rfl, H.out.put 0 _, grown_set (World.grownBy.refl _ _) _ _⟩
theorem ret_nat {a b : Nat} (h : a = b) : Ending.returned (.int .i64 (a : Int)) = Ending.returned (.int .i64 (b : Int)) := by rw [h]
theorem val_int {a b : Nat} (h : a = b) : Value.int .i64 (a : Int) = .int .i64 (b : Int) := by rw [h]
theorem getD_at (s : ByteArray) (k : Nat) (h : k < s.size) : ((ls s).getD k 0).toNat = s[k].toNat := by
  have h' : k < (ls s).length := h
  rw [List.getD_eq_getElem?_getD, List.getElem?_eq_getElem h']; rfl

set_option maxRecDepth 20000 in
set_option maxHeartbeats 400000 in
theorem num_ok (b : Nat) (s : ByteArray) (f : Bool) (w : World) (h : Is w b 58 #[.string s, .bool f]) (hs : s.size ≤ 1000000000) (hok : okv (ls s)) :
    Calls Try.prog 16 #[.pointer (some ⟨b, 0, none⟩)] w fun e w' => e = .returned (.int .i64 (val ((ls s).take (hi (ls s) + 1)) : Nat)) ∧ Is w' b 58 #[.string (s.extract (hi (ls s) + 1) s.size), .bool f] ∧ w.grownBy w' (some b) := by
  have c0 : w.cell? ⟨b, 0, none⟩ = some (.string s) := h.at_ 0
  have f0 := h.open_ 0
  have H := Lib.hid h
  clear h
  have K := Lib.hid hok
  clear hok
  go_enter Try.func16, Try.ntmps16
  go_wp2
  go_loop [3, 4] (fun n i => ∃ k : Nat, k ≤ s.size ∧ k ≤ 9 ∧ k ≤ hi (ls s) ∧ i = .int .i64 k ∧ n = .int .i64 (val ((ls s).take k) : Nat)) (fun _ i => 9 - (intOf i).toNat)
  case atStart => exact ⟨0, by omega, by omega, by omega, rfl, rfl⟩
  case round =>
    obtain ⟨k, hk, hk9, hkh, rfl, rfl⟩ := hrel
    obtain ⟨o1, o2, o3⟩ := K.out
    rw [ls_length] at o1
    have hlt : k < s.size := by omega
    have h9 : k < 9 := by omega
    have ha := hi_at (ls s) k hlt hkh
    have D := digit_in s k hlt h9
    have G := getD_at s k hlt
    rw [show (ls s)[k]'hlt = s[k] from rfl] at ha
    have i1 : decide ((k : Int) < (s.size : Int)) = true := by simp; omega
    have i2 : decide ((k : Int) < 9) = true := by simp; omega
    by_cases hc : 128 ≤ s[k].toNat
    · have h1 := ha.1 hc
      clear ha o3 G
      go_wp2
      go_round
      case rel => exact ⟨k + 1, by omega, by omega, by omega, by go_num, rfl⟩
      case measure => simp [intOf]; omega
    · have h1 := ha.2 (by omega)
      clear ha
      rw [h1, G] at o3
      have HH := Lib.hid h1
      by_cases hz : s[k].toNat = 0
      · have hk0 : ¬ 0 < k := by omega
        have D2 : bits .or .i64 ((val ((ls s).take k) : Nat) : Int) 0 = ((val ((ls s).take (k + 1)) : Nat) : Int) := by
          rw [hz] at D
          simp only [Int.natCast_zero, Int.zero_emod, Int.zero_mul] at D
          rw [IntWalk.wrap64_in 0 (by omega)] at D
          exact D
        clear o3 h1 G D
        go_wp2
        go_ret
        exact ⟨by rw [HH.out]; rfl, by rw [HH.out]; exact H.out.put 0 _, grown_set (World.grownBy.refl _ _) _ _⟩
      · clear o3 h1 G
        go_wp2
        go_ret
        exact ⟨by rw [HH.out]; rfl, by rw [HH.out]; exact H.out.put 0 _, grown_set (World.grownBy.refl _ _) _ _⟩

set_option maxRecDepth 20000 in
set_option maxHeartbeats 400000 in
theorem num_no (b : Nat) (s : ByteArray) (f : Bool) (w : World) (h : Is w b 58 #[.string s, .bool f]) (hs : s.size ≤ 1000000000) (hok : ¬ okv (ls s)) :
    Calls Try.prog 16 #[.pointer (some ⟨b, 0, none⟩)] w fun e w' => e = .returned (.int .i64 0) ∧ Rd w' b 58 none ∧ w.grownBy w' (some b) := by
  have c0 : w.cell? ⟨b, 0, none⟩ = some (.string s) := h.at_ 0
  have H := Lib.hid h
  clear h
  have K := Lib.hid hok
  clear hok
  go_enter Try.func16, Try.ntmps16
  go_wp2
  go_loop [3, 4] (fun n i => ∃ k : Nat, k ≤ s.size ∧ k ≤ 9 ∧ k ≤ hi (ls s) ∧ i = .int .i64 k ∧ n = .int .i64 (val ((ls s).take k) : Nat)) (fun _ i => 9 - (intOf i).toNat)
  case atStart => exact ⟨0, by omega, by omega, by omega, rfl, rfl⟩
  case round =>
    obtain ⟨k, hk, hk9, hkh, rfl, rfl⟩ := hrel
    by_cases hlt : k < s.size
    · have i1 : decide ((k : Int) < (s.size : Int)) = true := by simp; omega
      by_cases h9 : k < 9
      · have i2 : decide ((k : Int) < 9) = true := by simp; omega
        have ha := hi_at (ls s) k hlt hkh
        have D := digit_in s k hlt h9
        have G := getD_at s k hlt
        rw [show (ls s)[k]'hlt = s[k] from rfl] at ha
        by_cases hc : 128 ≤ s[k].toNat
        · have h1 := ha.1 hc
          clear ha G
          go_wp2
          go_round
          case rel => exact ⟨k + 1, by omega, by omega, by omega, by go_num, rfl⟩
          case measure => simp [intOf]; omega
        · have h1 := ha.2 (by omega)
          have hz : s[k].toNat = 0 ∧ 0 < k := by
            have K1 := K.out
            unfold okv at K1
            rw [h1, G, ls_length] at K1
            omega
          obtain ⟨hz, hk0⟩ := hz
          clear ha G h1 D
          go_wp2_with (go_at_call 32; refine (fail_any b s f _ H.out).mono ?_; rintro e w' ⟨rfl, h1, h2⟩)
          go_ret
          exact ⟨rfl, h1, h2⟩
      · have i2 : decide ((k : Int) < 9) = false := by simp; omega
        go_wp2_with (go_at_call 32; refine (fail_any b s f _ H.out).mono ?_; rintro e w' ⟨rfl, h1, h2⟩)
        go_ret
        exact ⟨rfl, h1, h2⟩
    · have i1 : decide ((k : Int) < (s.size : Int)) = false := by simp; omega
      have i1' : decide (k < s.size) = false := by simp; omega
      go_wp2_with (go_at_call 32; refine (fail_any b s f _ H.out).mono ?_; rintro e w' ⟨rfl, h1, h2⟩)
      go_ret
      exact ⟨rfl, h1, h2⟩

theorem extract_drop (s : ByteArray) (k : Nat) : s.extract k s.size = mk ((ls s).drop k) := by
  apply ls_inj
  show (s.extract k s.size).data.toList = (ls s).drop k
  rw [ByteArray.data_extract, Array.toList_extract]
  rw [List.extract_eq_take_drop]
  apply List.take_of_length_le
  rw [List.length_drop]
  exact Nat.le_refl _
theorem extract_take (s : ByteArray) (k : Nat) : s.extract 0 k = mk ((ls s).take k) := by
  apply ls_inj
  show (s.extract 0 k).data.toList = (ls s).take k
  rw [ByteArray.data_extract, Array.toList_extract]
  rw [List.extract_eq_take_drop]
  rfl
theorem not_okv_nil : ¬ okv [] := by unfold okv; simp
theorem rest_none : rest none = [] := rfl
theorem rest_some (l : List UInt8) : rest (some l) = l := rfl
theorem rNum_le (st : St) : (rest (rNum st).2).length ≤ (rest st).length := by
  cases st with
  | none => exact Nat.le_refl _
  | some l =>
    rw [rNum_some]
    split
    · simp only [rest_some, List.length_drop]; omega
    · simp [rest_none]
theorem rTake_le (n : Int) (st : St) : (rest (rTake n st).2).length ≤ (rest st).length := by
  cases st with
  | none => exact Nat.le_refl _
  | some l =>
    rw [rTake_eq]
    split
    · simp only [rest_some, List.length_drop]; omega
    · simp [rest_none]
theorem rInt_le (st : St) : (rest (rInt st).2).length ≤ (rest st).length := by
  unfold rInt
  split
  · exact rNum_le st
  · simp [rest_none]
theorem rText_le (st : St) : (rest (rText st).2).length ≤ (rest st).length := by
  unfold rText
  exact Nat.le_trans (rTake_le _ _) (rNum_le st)
theorem num_any (b : Nat) (st : St) (w : World) (h : Rd w b 58 st) (hs : (rest st).length ≤ 1000000000) :
    Calls Try.prog 16 #[.pointer (some ⟨b, 0, none⟩)] w fun e w' => e = .returned (.int .i64 ((rNum st).1 : Nat)) ∧ Rd w' b 58 (rNum st).2 ∧ w.grownBy w' (some b) := by
  cases st with
  | none => exact num_no b (mk []) true w h (by simp [size_mk]) not_okv_nil
  | some l =>
    by_cases hok : okv l
    · have := num_ok b (mk l) false w h hs hok
      rw [extract_drop] at this
      rw [rNum_some, if_pos hok]
      exact this
    · rw [rNum_some, if_neg hok]
      exact num_no b (mk l) false w h hs hok
theorem take_any (b : Nat) (st : St) (n : Int) (w : World) (h : Rd w b 58 st) (hs : (rest st).length ≤ 1000000000) :
    Calls Try.prog 33 #[.pointer (some ⟨b, 0, none⟩), .int .i64 n] w fun e w' => e = .returned (.string (mk (rTake n st).1)) ∧ Rd w' b 58 (rTake n st).2 ∧ w.grownBy w' (some b) := by
  by_cases hn : 0 ≤ n ∧ n ≤ ((rest st).length : Int)
  · obtain ⟨k, rfl⟩ : ∃ k : Nat, n = k := ⟨n.toNat, by omega⟩
    have := take_yes b (mk (rest st)) st.isNone k w h hs (by rw [size_mk]; omega)
    rw [extract_drop, extract_take] at this
    cases st with
    | none =>
      have hk : k = 0 := by simp [rest_none] at hn; exact hn
      subst hk
      exact this
    | some l =>
      rw [rTake_eq, if_pos (by exact hn), Int.toNat_natCast]
      exact this
  · have := take_no b (mk (rest st)) st.isNone n w h hs (by rw [size_mk]; omega)
    cases st with
    | none => exact this
    | some l =>
      rw [rTake_eq, if_neg (by exact hn)]
      exact this
end Go.Proofs.Ytmcdbjkmkbdeiaa
