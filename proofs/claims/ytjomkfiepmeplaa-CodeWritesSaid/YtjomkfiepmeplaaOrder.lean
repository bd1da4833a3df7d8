/-
  CodeOrder's walk: the lengths of varints, and that none begins another.
-/
import Derived.Test.YtjomkfiepmeplaaSmall
namespace Go.Proofs.Ytjomkfiepmeplaa
open Go.RowKit
theorem vint_prefix (a b : Nat) (ha : a < 9223372036854775808) (hb : b < 9223372036854775808) (h : (vint b).take (vint a).length = vint a) : a = b := by
  have e : vint b = vint a ++ (vint b).drop (vint a).length := by
    have := List.take_append_drop (vint a).length (vint b)
    rw [h] at this
    exact this.symm
  have h1 := rNum_vint a ((vint b).drop (vint a).length) ha
  have h2 := rNum_vint b [] hb
  rw [List.append_nil, e, h1] at h2
  exact (Prod.mk.inj h2).1
theorem in_yes (n : Int) (w : World) (h0 : -1152921504606846976 ≤ n) (h1 : n ≤ 1152921504606846976) :
    Calls Try.prog 45 #[.int .i64 n] w fun e w' => e = .returned (.bool true) ∧ w = w' := by
  go_enter Try.func45, Try.ntmps45
  go_wp2
  go_ret
  exact ⟨rfl, rfl⟩
theorem in_lo (n : Int) (w : World) (h0 : n < -1152921504606846976) :
    Calls Try.prog 45 #[.int .i64 n] w fun e w' => e = .returned (.bool false) ∧ w = w' := by
  have h : decide (-1152921504606846976 ≤ n) = false := by simpa using h0
  go_enter Try.func45, Try.ntmps45
  go_wp2
  go_ret
  exact ⟨rfl, rfl⟩
theorem in_hi (n : Int) (w : World) (h0 : 1152921504606846976 < n) :
    Calls Try.prog 45 #[.int .i64 n] w fun e w' => e = .returned (.bool false) ∧ w = w' := by
  have h : decide (-1152921504606846976 ≤ n) = true := by simp; omega
  have h' : decide (n ≤ 1152921504606846976) = false := by simpa using h0
  go_enter Try.func45, Try.ntmps45
  go_wp2
  go_ret
  exact ⟨rfl, rfl⟩
theorem in_any (n : Int) (w : World) : Calls Try.prog 45 #[.int .i64 n] w fun e w' => e = .returned (.bool (inR n)) ∧ w = w' := by
  by_cases h0 : -1152921504606846976 ≤ n
  · by_cases h1 : n ≤ 1152921504606846976
    · rw [show inR n = true from decide_eq_true ⟨h0, h1⟩]; exact in_yes n w h0 h1
    · rw [show inR n = false from decide_eq_false (by omega)]; exact in_hi n w (by omega)
  · rw [show inR n = false from decide_eq_false (by omega)]; exact in_lo n w (by omega)
/-- A call of small and two of Num, whatever their results. -/
theorem order_neg (a b : Int) (w : World) (ha : a < 0) (hb : b < 9223372036854775808) :
    Calls Try.prog 8 #[.int .i64 a, .int .i64 b] w fun e w' => e = .returned (.bool true) ∧ Below w.heap.size w w' := by
  have d : decide (a < 0) = true := by simpa using ha
  have d2 : decide (0 ≤ a) = false := by simpa using ha
  obtain ⟨Y, hY⟩ : ∃ Y, Y = mk (numE b) := ⟨_, rfl⟩
  have CB := Lib.hid (fun W => cnumE_any b W hb)
  rw [← hY] at CB
  clear hY
  go_enter Try.func8, Try.ntmps8
  go_wp2_with fail
  refine (small_any _).mono ?_
  rintro e w1 ⟨rfl, b1⟩
  have B1 := Lib.hid b1
  clear b1
  go_wp2_with fail
  refine (cnum_neg a _ ha).mono ?_
  rintro e w2 ⟨rfl, b2⟩
  have B2 := Lib.hid b2
  clear b2
  rw [show mk [] = ⟨#[]⟩ from rfl]
  go_wp2_with fail
  refine (CB.out _).mono ?_
  rintro e w3 ⟨rfl, b3⟩
  have B3 := Lib.hid b3
  clear b3
  go_wp2_with fail
  go_ret
  have f2 := bw B1.out B2.out B1.out.size
  exact ⟨rfl, bw f2 B3.out f2.size⟩
theorem order_out (a b : Int) (w : World) (ha : 0 ≤ a) (ha2 : a < 9223372036854775808) (hb : b < 9223372036854775808) (h : b < a) :
    Calls Try.prog 8 #[.int .i64 a, .int .i64 b] w fun e w' => e = .returned (.bool true) ∧ Below w.heap.size w w' := by
  have d : decide (a < 0) = false := by simpa using ha
  have d2 : decide (0 ≤ a) = true := by simpa using ha
  have d3 : decide (b < a) = true := by simpa using h
  obtain ⟨X, hX⟩ : ∃ X, X = mk (numE a) := ⟨_, rfl⟩
  have CA := Lib.hid (fun W => cnumE_any a W ha2)
  rw [← hX] at CA
  clear hX
  obtain ⟨Y, hY⟩ : ∃ Y, Y = mk (numE b) := ⟨_, rfl⟩
  have CB := Lib.hid (fun W => cnumE_any b W hb)
  rw [← hY] at CB
  clear hY
  by_cases hb0 : b < 0
  all_goals
    have d4 := Lib.hid hb0
    go_enter Try.func8, Try.ntmps8
    go_wp2_with fail
    refine (small_any _).mono ?_
    rintro e w1 ⟨rfl, b1⟩
    have B1 := Lib.hid b1
    clear b1
    go_wp2_with fail
    refine (CA.out _).mono ?_
    rintro e w2 ⟨rfl, b2⟩
    have B2 := Lib.hid b2
    clear b2
    go_wp2_with fail
    refine (CB.out _).mono ?_
    rintro e w3 ⟨rfl, b3⟩
    have B3 := Lib.hid b3
    clear b3
    go_wp2_with fail
    go_ret
    have f2 := bw B1.out B2.out B1.out.size
    exact ⟨rfl, bw f2 B3.out f2.size⟩
/-- The way with 0 ≤ a ≤ b, its strings by what is asked of them. -/
theorem order_in (a b : Int) (X Y P Q : ByteArray) (w : World) (ha : 0 ≤ a) (hab : a ≤ b) (hb : b < 9223372036854775808)
    (CA : Hid (∀ W, Calls Try.prog 11 #[.int .i64 a] W fun e w' => e = .returned (.string X) ∧ Below W.heap.size W w'))
    (CB : Hid (∀ W, Calls Try.prog 11 #[.int .i64 b] W fun e w' => e = .returned (.string Y) ∧ Below W.heap.size W w'))
    (CP : Hid (∀ W, Calls Try.prog 13 #[.int .i64 (-a)] W fun e w' => e = .returned (.string P) ∧ Below W.heap.size W w'))
    (CQ : Hid (∀ W, Calls Try.prog 13 #[.int .i64 (-b)] W fun e w' => e = .returned (.string Q) ∧ Below W.heap.size W w'))
    (hXY : X.size ≤ Y.size) (hY : Y.size ≤ 9) (hX : 1 ≤ X.size)
    (E1 : a = b → Y.extract 0 X.size = X) (E2 : a ≠ b → ((Y.extract 0 X.size).toList == X.toList) = false)
    (hPQ : inR b = true → P.size ≤ Q.size ∧ Q.size ≤ 9 ∧ (!P.toList.isEmpty) = true ∧ (P.toList = []) = False) :
    Calls Try.prog 8 #[.int .i64 a, .int .i64 b] w fun e w' => e = .returned (.bool true) ∧ Below w.heap.size w w' := by
  have d1 : decide (a < 0) = false := by simpa using ha
  have d2 : decide (b < 0) = false := by simp; omega
  have d3 : decide (b < a) = false := by simpa using hab
  have d4 : decide (Y.size < X.size) = false := by simpa using hXY
  have IB := Lib.hid (fun W => in_any b W)
  by_cases hr : inR b = true
  · obtain ⟨p1, p2, p3, p4⟩ := hPQ hr
    have d5 : decide (P.size ≤ Q.size) = true := by simpa using p1
    rw [hr] at IB
    clear hPQ hr
    by_cases he : a = b
    · subst he
      have E := E1 rfl
      clear E1 E2
      go_enter Try.func8, Try.ntmps8
      go_wp2_with fail
      refine (small_any _).mono ?_
      rintro e w1 ⟨rfl, b1⟩
      have B1 := Lib.hid b1
      clear b1
      go_wp2_with fail
      refine (CA.out _).mono ?_
      rintro e w2 ⟨rfl, b2⟩
      have B2 := Lib.hid b2
      clear b2
      go_wp2_with fail
      refine (CB.out _).mono ?_
      rintro e w3 ⟨rfl, b3⟩
      have B3 := Lib.hid b3
      clear b3
      go_wp2_with fail
      refine (IB.out _).mono ?_
      rintro e w' ⟨rfl, rfl⟩
      go_wp2_with fail
      refine (CP.out _).mono ?_
      rintro e w4 ⟨rfl, b4⟩
      have B4 := Lib.hid b4
      clear b4
      go_wp2_with fail
      refine (CQ.out _).mono ?_
      rintro e w5 ⟨rfl, b5⟩
      have B5 := Lib.hid b5
      clear b5
      go_wp2_with fail
      refine (CP.out _).mono ?_
      rintro e w6 ⟨rfl, b6⟩
      have B6 := Lib.hid b6
      clear b6
      go_wp2_with fail
      go_ret
      have f2 := bw B1.out B2.out B1.out.size
      have f3 := bw f2 B3.out f2.size
      have f4 := bw f3 B4.out f3.size
      have f5 := bw f4 B5.out f4.size
      exact ⟨rfl, bw f5 B6.out f5.size⟩
    · have E := E2 he
      have e0 : (a == b) = false := by simpa using he
      clear E1 E2
      go_enter Try.func8, Try.ntmps8
      go_wp2_with fail
      refine (small_any _).mono ?_
      rintro e w1 ⟨rfl, b1⟩
      have B1 := Lib.hid b1
      clear b1
      go_wp2_with fail
      refine (CA.out _).mono ?_
      rintro e w2 ⟨rfl, b2⟩
      have B2 := Lib.hid b2
      clear b2
      go_wp2_with fail
      refine (CB.out _).mono ?_
      rintro e w3 ⟨rfl, b3⟩
      have B3 := Lib.hid b3
      clear b3
      go_wp2_with fail
      refine (IB.out _).mono ?_
      rintro e w' ⟨rfl, rfl⟩
      go_wp2_with fail
      refine (CP.out _).mono ?_
      rintro e w4 ⟨rfl, b4⟩
      have B4 := Lib.hid b4
      clear b4
      go_wp2_with fail
      refine (CQ.out _).mono ?_
      rintro e w5 ⟨rfl, b5⟩
      have B5 := Lib.hid b5
      clear b5
      go_wp2_with fail
      refine (CP.out _).mono ?_
      rintro e w6 ⟨rfl, b6⟩
      have B6 := Lib.hid b6
      clear b6
      go_wp2_with fail
      go_ret
      have f2 := bw B1.out B2.out B1.out.size
      have f3 := bw f2 B3.out f2.size
      have f4 := bw f3 B4.out f3.size
      have f5 := bw f4 B5.out f4.size
      exact ⟨rfl, bw f5 B6.out f5.size⟩
  · have hr' : inR b = false := by simpa using hr
    rw [hr'] at IB
    clear hPQ hr hr'
    by_cases he : a = b
    · subst he
      have E := E1 rfl
      clear E1 E2
      go_enter Try.func8, Try.ntmps8
      go_wp2_with fail
      refine (small_any _).mono ?_
      rintro e w1 ⟨rfl, b1⟩
      have B1 := Lib.hid b1
      clear b1
      go_wp2_with fail
      refine (CA.out _).mono ?_
      rintro e w2 ⟨rfl, b2⟩
      have B2 := Lib.hid b2
      clear b2
      go_wp2_with fail
      refine (CB.out _).mono ?_
      rintro e w3 ⟨rfl, b3⟩
      have B3 := Lib.hid b3
      clear b3
      go_wp2_with fail
      refine (IB.out _).mono ?_
      rintro e w' ⟨rfl, rfl⟩
      go_wp2_with fail
      go_ret
      have f2 := bw B1.out B2.out B1.out.size
      exact ⟨rfl, bw f2 B3.out f2.size⟩
    · have E := E2 he
      have e0 : (a == b) = false := by simpa using he
      clear E1 E2
      go_enter Try.func8, Try.ntmps8
      go_wp2_with fail
      refine (small_any _).mono ?_
      rintro e w1 ⟨rfl, b1⟩
      have B1 := Lib.hid b1
      clear b1
      go_wp2_with fail
      refine (CA.out _).mono ?_
      rintro e w2 ⟨rfl, b2⟩
      have B2 := Lib.hid b2
      clear b2
      go_wp2_with fail
      refine (CB.out _).mono ?_
      rintro e w3 ⟨rfl, b3⟩
      have B3 := Lib.hid b3
      clear b3
      go_wp2_with fail
      refine (IB.out _).mono ?_
      rintro e w' ⟨rfl, rfl⟩
      go_wp2_with fail
      go_ret
      have f2 := bw B1.out B2.out B1.out.size
      exact ⟨rfl, bw f2 B3.out f2.size⟩

theorem intE_ne (n : Int) (h : inR n = true) : intE n ≠ [] := by
  intro e
  have := intE_pos n h
  rw [e] at this
  simp at this
theorem order_any (a b : Int) (w : World) (ha2 : a < 9223372036854775808) (hb : b < 9223372036854775808) :
    Calls Try.prog 8 #[.int .i64 a, .int .i64 b] w fun e w' => e = .returned (.bool true) ∧ Below w.heap.size w w' := by
  by_cases ha : a < 0
  · exact order_neg a b w ha hb
  · by_cases h : b < a
    · exact order_out a b w (by omega) ha2 hb h
    · have ea : numE a = vint a.toNat := by unfold numE; rw [if_neg ha]
      have eb : numE b = vint b.toNat := by unfold numE; rw [if_neg (by omega)]
      have hm := vint_mono a.toNat b.toNat (by omega)
      have h9 := vint_nine b.toNat (by omega)
      have h1 := vint_pos a.toNat
      refine order_in a b (mk (numE a)) (mk (numE b)) (mk (intE (-a))) (mk (intE (-b))) w (by omega) (by omega) hb
        (fun W => cnumE_any a W ha2) (fun W => cnumE_any b W hb) (fun W => cint_any (-a) W) (fun W => cint_any (-b) W) ?_ ?_ ?_ ?_ ?_ ?_
      · rw [size_mk, size_mk, ea, eb]; exact hm
      · rw [size_mk, eb]; exact h9
      · rw [size_mk, ea]; exact h1
      · intro e
        subst e
        rw [extract_take, size_mk, ls_mk, List.take_length]
      · intro hne
        rw [extract_take, size_mk, ls_mk, mk_beq, ea, eb]
        apply decide_eq_false
        intro e
        have := vint_prefix a.toNat b.toNat (by omega) (by omega) e
        omega
      · intro hr
        rw [inR_iff] at hr
        have ra : inR (-a) = true := by rw [inR_iff]; omega
        have rb : inR (-b) = true := by rw [inR_iff]; omega
        have za : zig (-a) ≤ zig (-b) := by unfold zig; split <;> split <;> omega
        have n9 := vint_nine (zig (-b)) (zig_lt _ rb)
        have hn := intE_ne (-a) ra
        rw [size_mk, size_mk, mkl, intE_in _ rb]
        refine ⟨by rw [intE_in _ ra]; exact vint_mono _ _ za, n9, ?_, ?_⟩
        · simp [hn]
        · simp [hn]
end Go.Proofs.Ytjomkfiepmeplaa
