/-
  The reference's Reader, call by call: its numbers.
-/
import Derived.Test.YtmcdbjkmkbdeiaaUse
import Derived.Laws.BitsAllLaws
namespace Go.Proofs.Ytmcdbjkmkbdeiaa
open Go.RowKit
theorem xopen_any (l : List UInt8) (w : World) : Calls Try.prog 8 #[.string (mk l)] w fun e w' => ∃ b, e = .returned (.pointer (some ⟨b, 0, none⟩)) ∧ w.heap.size ≤ b ∧ Rd w' b 34 (some l) ∧ Below w.heap.size w w' := by
  go_enter Try.func8, Try.ntmps8
  go_wp2
  go_ret
  exact ⟨_, rfl, Nat.le_refl _, Is.fresh w 34 _, (Below.refl _ _).alloc (Nat.le_refl _) _⟩
theorem xfail_any (b : Nat) (s : ByteArray) (f : Bool) (w : World) (h : Is w b 34 #[.string s, .bool f]) :
    Calls Try.prog 14 #[.pointer (some ⟨b, 0, none⟩)] w fun e w' => e = .returned (.tuple #[]) ∧ Rd w' b 34 none ∧ w.grownBy w' (some b) := by
  have c0 : w.cell? ⟨b, 0, none⟩ = some (.string s) := h.at_ 0
  have c1 : w.cell? ⟨b, 1, none⟩ = some (.bool f) := h.at_ 1
  have f0 := h.open_ 0
  have f1 := h.open_ 1
  go_enter Try.func14, Try.ntmps14
  go_wp2
  go_end0
  exact ⟨rfl, (h.put 0 _).put 1 _, grown_set (grown_set (World.grownBy.refl _ _) _ _) _ _⟩
theorem xdone_true (b : Nat) (s : ByteArray) (w : World) (h : Is w b 34 #[.string s, .bool true]) :
    Calls Try.prog 20 #[.pointer (some ⟨b, 0, none⟩)] w fun e w' => e = .returned (.bool false) ∧ w = w' := by
  have c1 : w.cell? ⟨b, 1, none⟩ = some (.bool true) := h.at_ 1
  go_enter Try.func20, Try.ntmps20
  go_wp2
  go_ret
  exact ⟨rfl, rfl⟩
theorem xdone_false (b : Nat) (s : ByteArray) (w : World) (h : Is w b 34 #[.string s, .bool false]) :
    Calls Try.prog 20 #[.pointer (some ⟨b, 0, none⟩)] w fun e w' => e = .returned (.bool (decide (s.size = 0))) ∧ w = w' := by
  have c0 : w.cell? ⟨b, 0, none⟩ = some (.string s) := h.at_ 0
  have c1 : w.cell? ⟨b, 1, none⟩ = some (.bool false) := h.at_ 1
  by_cases hz : s.size = 0
  · have e1 : ((s.size : Int) == 0) = true := by rw [hz]; rfl
    have e2 : decide (s.size = 0) = true := decide_eq_true hz
    have E := Lib.hid e2
    clear e2 hz
    go_enter Try.func20, Try.ntmps20
    go_wp2
    go_ret
    exact ⟨by rw [E.out]; rfl, rfl⟩
  · have e1 : ((s.size : Int) == 0) = false := by rw [beq_eq_false_iff_ne]; omega
    have e2 : decide (s.size = 0) = false := decide_eq_false hz
    have E := Lib.hid e2
    clear e2 hz
    go_enter Try.func20, Try.ntmps20
    go_wp2
    go_ret
    exact ⟨by rw [E.out]; rfl, rfl⟩
theorem xtake_no (b : Nat) (s : ByteArray) (f : Bool) (n : Int) (w : World) (h : Is w b 34 #[.string s, .bool f]) (hn : f = true ∨ n < 0 ∨ (s.size : Int) < n) :
    Calls Try.prog 19 #[.pointer (some ⟨b, 0, none⟩), .int .i64 n] w fun e w' => e = .returned (.string ⟨#[]⟩) ∧ Rd w' b 34 none ∧ w.grownBy w' (some b) := by
  have c0 : w.cell? ⟨b, 0, none⟩ = some (.string s) := h.at_ 0
  have c1 : w.cell? ⟨b, 1, none⟩ = some (.bool f) := h.at_ 1
  have H := Lib.hid h
  clear h
  rcases f with _ | _
  · by_cases h0 : n < 0
    · clear hn
      have h1 : decide (n < 0) = true := by simpa using h0
      go_enter Try.func19, Try.ntmps19
      go_wp2_with (go_at_call 14; refine (xfail_any b s _ _ H.out).mono ?_; rintro e w' ⟨rfl, h1, h2⟩)
      go_ret
      exact ⟨rfl, h1, h2⟩
    · have h1 : decide (n < 0) = false := by simpa using h0
      have h2 : (s.size : Int) < n := by rcases hn with hn | hn | hn; exact absurd hn (by decide); omega; exact hn
      have h3 : decide ((s.size : Int) < n) = true := by simpa using h2
      clear hn
      go_enter Try.func19, Try.ntmps19
      go_wp2_with (go_at_call 14; refine (xfail_any b s _ _ H.out).mono ?_; rintro e w' ⟨rfl, h1, h2⟩)
      go_ret
      exact ⟨rfl, h1, h2⟩
  · clear hn
    go_enter Try.func19, Try.ntmps19
    go_wp2_with (go_at_call 14; refine (xfail_any b s _ _ H.out).mono ?_; rintro e w' ⟨rfl, h1, h2⟩)
    go_ret
    exact ⟨rfl, h1, h2⟩
theorem xtake_yes (b : Nat) (s : ByteArray) (n : Nat) (w : World) (h : Is w b 34 #[.string s, .bool false]) (hn : n ≤ s.size) :
    Calls Try.prog 19 #[.pointer (some ⟨b, 0, none⟩), .int .i64 (n : Int)] w fun e w' => e = .returned (.string (s.extract 0 n)) ∧ Is w' b 34 #[.string (s.extract n s.size), .bool false] ∧ w.grownBy w' (some b) := by
  have c0 : w.cell? ⟨b, 0, none⟩ = some (.string s) := h.at_ 0
  have c1 : w.cell? ⟨b, 1, none⟩ = some (.bool false) := h.at_ 1
  have f0 := h.open_ 0
  have H := Lib.hid h
  clear h
  have h1 : decide ((n : Int) < 0) = false := by simp
  have h2 : decide ((s.size : Int) < (n : Int)) = false := by simp; omega
  have h3 : decide (s.size < n) = false := by simp; omega
  go_enter Try.func19, Try.ntmps19
  go_wp2
  go_ret
  exact ⟨rfl, H.out.put 0 _, grown_set (World.grownBy.refl _ _) _ _⟩
theorem xtake_any (b : Nat) (st : St) (n : Int) (w : World) (h : Rd w b 34 st) :
    Calls Try.prog 19 #[.pointer (some ⟨b, 0, none⟩), .int .i64 n] w fun e w' => e = .returned (.string (mk (rTake n st).1)) ∧ Rd w' b 34 (rTake n st).2 ∧ w.grownBy w' (some b) := by
  cases st with
  | none => exact xtake_no b (mk []) true n w h (.inl rfl)
  | some l =>
    by_cases hn : 0 ≤ n ∧ n ≤ (l.length : Int)
    · obtain ⟨k, rfl⟩ : ∃ k : Nat, n = k := ⟨n.toNat, by omega⟩
      have := xtake_yes b (mk l) k w h (by rw [size_mk]; omega)
      rw [extract_drop, extract_take] at this
      rw [rTake_eq, if_pos hn, Int.toNat_natCast]
      exact this
    · rw [rTake_eq, if_neg hn]
      exact xtake_no b (mk l) false n w h (.inr (by rw [size_mk]; omega))
theorem val_lt (l : List UInt8) : val l < 128 ^ l.length := by
  have := val_take_lt l.length l
  rwa [List.take_length] at this
theorem and127 (c : UInt8) : bits .and .u8 (c.toNat : Int) 127 = ((c.toNat : Int) % 128) := by
  have h := u8_and_nat c.toNat 127 c.toNat_lt (by omega)
  rw [show c.toNat &&& 127 = c.toNat % 128 from Nat.and_two_pow_sub_one_eq_mod c.toNat 7] at h
  exact h
end Go.Proofs.Ytmcdbjkmkbdeiaa
