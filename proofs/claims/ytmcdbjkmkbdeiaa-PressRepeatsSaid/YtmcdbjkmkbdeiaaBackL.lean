/-
  The walks of PressBack, PressCuts and PressRepeats.
-/
import Derived.Test.YtmcdbjkmkbdeiaaSmall
namespace Go.Proofs.Ytmcdbjkmkbdeiaa
open Go.RowKit
theorem pack_lim (s : ByteArray) (hs : s.size ≤ 16777216) : (mk (packE (ls s))).size ≤ 2 * s.size + 4 := pack_le (ls s) hs
/-- Pack's result by a name, with its bound and what Unpack makes of it. -/
theorem packed (s : ByteArray) (hs : s.size ≤ 16777216) : ∃ p : ByteArray, p.size ≤ 2 * s.size + 4 ∧ Hid (ls p = packE (ls s)) ∧
    Hid (∀ w, Calls Try.prog 12 #[.string s] w fun e w' => e = .returned (.string p) ∧ Below w.heap.size w w') ∧
    Hid (∀ w, Calls Try.prog 10 #[.string p] w fun e w' => e = .returned (.tuple #[.string s, .bool true]) ∧ Below w.heap.size w w') := by
  refine ⟨mk (packE (ls s)), pack_lim s hs, Lib.hid rfl, Lib.hid (fun w => pack_any (ls s) w hs), Lib.hid (fun w => ?_)⟩
  exact uk _ (ls s) (unpack_back _ hs) (by have := pack_le (ls s) hs; rw [ls_length] at this; omega) w
theorem empty_str (s : ByteArray) (h : s.size = 0) : s = ⟨#[]⟩ := by
  apply ls_inj
  exact List.eq_nil_of_length_eq_zero h
set_option maxRecDepth 20000 in
set_option maxHeartbeats 1000000 in
theorem back_any (s : ByteArray) (w : World) : Calls Try.prog 4 #[.string s] w fun e w' => e = .returned (.bool true) ∧ Below w.heap.size w w' := by
  have S0 := Lib.hid small_any
  have B0 := Lib.hid (Below.refl w.heap.size w)
  by_cases hs : 4000 < s.size
  · have i1 : decide ((4000 : Int) < (s.size : Int)) = true := by simp; omega
    go_enter Try.func4, Try.ntmps4
    go_wp2_with (go_at_call 7; refine (S0.out _).mono ?_; rintro e w1 ⟨rfl, h1⟩; have B1 := Lib.hid h1; clear h1)
    go_ret
    exact ⟨rfl, B1.out⟩
  · have i1 : decide ((4000 : Int) < (s.size : Int)) = false := by simp; omega
    obtain ⟨p, hp, -, P, U⟩ := packed s (by omega)
    have i2 : decide ((p.size : Int) ≤ 2 * (s.size : Int) + 8) = true := by simp; omega
    go_enter Try.func4, Try.ntmps4
    go_wp2_with (first
      | (go_at_call 7; refine (S0.out _).mono ?_; rintro e w1 ⟨rfl, h1⟩; have B1 := Lib.hid h1; clear h1)
      | (go_at_call 12; refine (P.out _).mono ?_; rintro e w2 ⟨rfl, h2⟩; have B2 := Lib.hid (bw B1.out h2 B1.out.size); clear h2)
      | (go_at_call 10; refine (U.out _).mono ?_; rintro e w3 ⟨rfl, h3⟩; have B3 := Lib.hid (bw B2.out h3 B2.out.size); clear h3))
    go_ret
    exact ⟨by simp, B3.out⟩
set_option maxRecDepth 20000 in
set_option maxHeartbeats 1000000 in
theorem cuts_any (s : ByteArray) (n : Int) (m : ByteArray) (w : World) : Calls Try.prog 5 #[.string s, .int .i64 n, .string m] w fun e w' => e = .returned (.bool true) ∧ Below w.heap.size w w' := by
  have S0 := Lib.hid small_any
  by_cases hs : 4000 < s.size
  · have i1 : decide ((4000 : Int) < (s.size : Int)) = true := by simp; omega
    go_enter Try.func5, Try.ntmps5
    go_wp2_with (go_at_call 7; refine (S0.out _).mono ?_; rintro e w1 ⟨rfl, h1⟩; have B1 := Lib.hid h1; clear h1)
    go_ret
    exact ⟨rfl, B1.out⟩
  · have i1 : decide ((4000 : Int) < (s.size : Int)) = false := by simp; omega
    by_cases hm : 100 < m.size
    · have i2 : decide ((100 : Int) < (m.size : Int)) = true := by simp; omega
      go_enter Try.func5, Try.ntmps5
      go_wp2_with (go_at_call 7; refine (S0.out _).mono ?_; rintro e w1 ⟨rfl, h1⟩; have B1 := Lib.hid h1; clear h1)
      go_ret
      exact ⟨rfl, B1.out⟩
    · have i2 : decide ((100 : Int) < (m.size : Int)) = false := by simp; omega
      obtain ⟨p, hp, HP, P, -⟩ := packed s (by omega)
      have e0 := empty_iff m
      obtain ⟨u, ok, U, hok, hu⟩ : ∃ (u : ByteArray) (ok : Bool), Hid (∀ w, Calls Try.prog 10 #[.string (p ++ m)] w fun e w' => e = .returned (.tuple #[.string u, .bool ok]) ∧ Below w.heap.size w w') ∧ ok = m.toList.isEmpty ∧ (ok = true ∧ u = s ∨ ok = false ∧ u = ⟨#[]⟩) := by
        have hU := unpack_pack (ls s) (ls m) (by rw [ls_length]; omega)
        have hpm : ls (p ++ m) = packE (ls s) ++ ls m := by
          show (p ++ m).data.toList = _
          rw [ByteArray.data_append, Array.toList_append]
          show ls p ++ ls m = _
          rw [HP.out]
        have hlen : (ls (p ++ m)).length ≤ 1000000000 := by
          rw [ls_length, ByteArray.size_append]; omega
        rw [← hpm] at hU
        by_cases he : ls m = []
        · rw [if_pos he] at hU
          exact ⟨s, true, Lib.hid (fun w => uk _ _ hU hlen w), by rw [e0, he]; rfl, .inl ⟨rfl, rfl⟩⟩
        · rw [if_neg he] at hU
          exact ⟨⟨#[]⟩, false, Lib.hid (fun w => un _ hU hlen w), by rw [e0]; simpa using he, .inr ⟨rfl, rfl⟩⟩
      clear e0
      by_cases hn : 0 ≤ n ∧ n < (p.size : Int)
      · obtain ⟨k, rfl⟩ : ∃ k : Nat, n = k := ⟨n.toNat, by omega⟩
        have k1 : decide ((0 : Int) ≤ (k : Int)) = true := by simp
        have k2 : decide ((k : Int) < (p.size : Int)) = true := by simp; omega
        have C : Hid (∀ w, Calls Try.prog 10 #[.string (p.extract 0 k)] w fun e w' => e = .returned (.tuple #[.string ⟨#[]⟩, .bool false]) ∧ Below w.heap.size w w') := Lib.hid (fun w => by
          have hx : p.extract 0 k = mk ((ls p).take k) := extract_take p k
          rw [hx]
          refine un _ (unpack_cut (ls s) _ ((ls p).drop k) (by rw [ls_length]; omega) (by rw [List.take_append_drop, HP.out]) ?_) (by rw [List.length_take, ls_length]; omega) w
          intro h
          have := congrArg List.length h
          rw [List.length_drop, ls_length, List.length_nil] at this
          omega)
        rcases hu with ⟨rfl, rfl⟩ | ⟨rfl, rfl⟩
        · have m1 : m.toList.isEmpty = true := hok.symm
          clear hok
          go_enter Try.func5, Try.ntmps5
          go_wp2_with (first
            | (go_at_call 7; refine (S0.out _).mono ?_; rintro e w1 ⟨rfl, h1⟩; have B1 := Lib.hid h1; clear h1)
            | (go_at_call 12; refine (P.out _).mono ?_; rintro e w2 ⟨rfl, h2⟩; have B2 := Lib.hid (bw B1.out h2 B1.out.size); clear h2)
            | (go_at_call 10; have B3' := B3; refine (U.out _).mono ?_; rintro e w4 ⟨rfl, h4⟩; have B4 := Lib.hid (bw B3.out h4 B3.out.size); clear h4)
            | (go_at_call 10; refine (C.out _).mono ?_; rintro e w3 ⟨rfl, h3⟩; have B3 := Lib.hid (bw B2.out h3 B2.out.size); clear h3))
          go_ret
          exact ⟨by simp, B4.out⟩
        · have m1 : m.toList.isEmpty = false := hok.symm
          clear hok
          go_enter Try.func5, Try.ntmps5
          go_wp2_with (first
            | (go_at_call 7; refine (S0.out _).mono ?_; rintro e w1 ⟨rfl, h1⟩; have B1 := Lib.hid h1; clear h1)
            | (go_at_call 12; refine (P.out _).mono ?_; rintro e w2 ⟨rfl, h2⟩; have B2 := Lib.hid (bw B1.out h2 B1.out.size); clear h2)
            | (go_at_call 10; have B3' := B3; refine (U.out _).mono ?_; rintro e w4 ⟨rfl, h4⟩; have B4 := Lib.hid (bw B3.out h4 B3.out.size); clear h4)
            | (go_at_call 10; refine (C.out _).mono ?_; rintro e w3 ⟨rfl, h3⟩; have B3 := Lib.hid (bw B2.out h3 B2.out.size); clear h3))
          go_ret
          exact ⟨by simp, B4.out⟩
      · by_cases hn0 : 0 ≤ n
        · have k1 : decide ((0 : Int) ≤ n) = true := by simpa using hn0
          have k2 : decide (n < (p.size : Int)) = false := by simp; omega
          rcases hu with ⟨rfl, rfl⟩ | ⟨rfl, rfl⟩
          · have m1 : m.toList.isEmpty = true := hok.symm
            clear hok
            go_enter Try.func5, Try.ntmps5
            go_wp2_with (first
              | (go_at_call 7; refine (S0.out _).mono ?_; rintro e w1 ⟨rfl, h1⟩; have B1 := Lib.hid h1; clear h1)
              | (go_at_call 12; refine (P.out _).mono ?_; rintro e w2 ⟨rfl, h2⟩; have B2 := Lib.hid (bw B1.out h2 B1.out.size); clear h2)
              | (go_at_call 10; refine (U.out _).mono ?_; rintro e w4 ⟨rfl, h4⟩; have B4 := Lib.hid (bw B2.out h4 B2.out.size); clear h4))
            go_ret
            exact ⟨by simp, B4.out⟩
          · have m1 : m.toList.isEmpty = false := hok.symm
            clear hok
            go_enter Try.func5, Try.ntmps5
            go_wp2_with (first
              | (go_at_call 7; refine (S0.out _).mono ?_; rintro e w1 ⟨rfl, h1⟩; have B1 := Lib.hid h1; clear h1)
              | (go_at_call 12; refine (P.out _).mono ?_; rintro e w2 ⟨rfl, h2⟩; have B2 := Lib.hid (bw B1.out h2 B1.out.size); clear h2)
              | (go_at_call 10; refine (U.out _).mono ?_; rintro e w4 ⟨rfl, h4⟩; have B4 := Lib.hid (bw B2.out h4 B2.out.size); clear h4))
            go_ret
            exact ⟨by simp, B4.out⟩
        · have k1 : decide ((0 : Int) ≤ n) = false := by simpa using hn0
          rcases hu with ⟨rfl, rfl⟩ | ⟨rfl, rfl⟩
          · have m1 : m.toList.isEmpty = true := hok.symm
            clear hok
            go_enter Try.func5, Try.ntmps5
            go_wp2_with (first
              | (go_at_call 7; refine (S0.out _).mono ?_; rintro e w1 ⟨rfl, h1⟩; have B1 := Lib.hid h1; clear h1)
              | (go_at_call 12; refine (P.out _).mono ?_; rintro e w2 ⟨rfl, h2⟩; have B2 := Lib.hid (bw B1.out h2 B1.out.size); clear h2)
              | (go_at_call 10; refine (U.out _).mono ?_; rintro e w4 ⟨rfl, h4⟩; have B4 := Lib.hid (bw B2.out h4 B2.out.size); clear h4))
            go_ret
            exact ⟨by simp, B4.out⟩
          · have m1 : m.toList.isEmpty = false := hok.symm
            clear hok
            go_enter Try.func5, Try.ntmps5
            go_wp2_with (first
              | (go_at_call 7; refine (S0.out _).mono ?_; rintro e w1 ⟨rfl, h1⟩; have B1 := Lib.hid h1; clear h1)
              | (go_at_call 12; refine (P.out _).mono ?_; rintro e w2 ⟨rfl, h2⟩; have B2 := Lib.hid (bw B1.out h2 B1.out.size); clear h2)
              | (go_at_call 10; refine (U.out _).mono ?_; rintro e w4 ⟨rfl, h4⟩; have B4 := Lib.hid (bw B2.out h4 B2.out.size); clear h4))
            go_ret
            exact ⟨by simp, B4.out⟩
end Go.Proofs.Ytmcdbjkmkbdeiaa
