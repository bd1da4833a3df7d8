/-
  The reference's Num, Int, Text, List and Nums.
-/
import Derived.Test.YtjomkfiepmeplaaReads
namespace Go.Proofs.Ytjomkfiepmeplaa
open Go.RowKit
theorem xwnum_neg (n : Int) (w : World) (hn : n < 0) : Calls Try.prog 12 #[.int .i64 n] w fun e w' => e = .returned (.string (mk [])) ∧ Below w.heap.size w w' := by
  have h : decide (n < 0) = true := by simpa using hn
  go_enter Try.func12, Try.ntmps12
  go_wp2
  go_ret
  exact ⟨rfl, Below.refl _ _⟩
set_option maxHeartbeats 1000000 in
theorem xwnum_any (n : Nat) (w : World) (hn : n < 9223372036854775808) :
    Calls Try.prog 12 #[.int .i64 (n : Int)] w fun e w' => e = .returned (.string (mk (vint n))) ∧ Below w.heap.size w w' := by
  obtain ⟨i0, hi, hz0, hz1, hz2⟩ := info_parts info5
  have hv9 := vint_nine n hn
  have h0 : decide ((n : Int) < 0) = false := by simp
  go_enter Try.func12, Try.ntmps12
  go_wp2
  go_loopw [0, 3] (fun m v wr => ∃ k : Nat, ∃ d : List UInt8, k ≤ n ∧ m = .int .i64 k ∧ vint n = d ++ vint k ∧ wr.ownsRow w.heap.size 5 1 v d.length (bytes d) ∧ Below w.heap.size w wr) (fun m _ _ => (intOf m).toNat)
  case atStart => exact ⟨n, [], by omega, rfl, rfl, World.ownsRow_nil _ _ _ _, Below.refl _ _⟩
  case round =>
    obtain ⟨k, d, hk, rfl, hv, ho, hb⟩ := hrel
    have hd : d.length + 1 ≤ 9 := by
      have := vint_pos k
      have e := congrArg List.length hv
      rw [List.length_append] at e
      omega
    have hz := hb.size
    have HO := Lib.hid ho
    have HV := Lib.hid hv
    have HW := Lib.hid hb
    clear ho hv hb
    by_cases h128 : 128 ≤ k
    · have hge : decide ((128 : Int) ≤ (k : Int)) = true := by simp; omega
      go_wp2_with (first
        | (at_builtin; have HB := Lib.hid (HO.out.alloc (.cells #[.int .u8 ((k : Int) % 128 + 128)] 5)); have HN := Lib.hid (new_one wr (.int .u8 ((k : Int) % 128 + 128)) 5); refine wpList_append_own _ rfl (.tmp 8) (.tmp 13) 53 rfl w.heap.size 5 i0 (.int .u8 0) 1 1 Try.underlying53 hi hz0 hz1 hz2 rfl (by decide) u3 d.length (bytes d) rfl HB.out ⟨wr.heap.size, 0, none⟩ 1 1 [.int .u8 ((k : Int) % 128 + 128)] rfl rfl HN.out ?c1 ?c3 ?c4 ?c5 ?_))
      case c1 => intro u hu; simp at hu; subst hu; rfl
      case c3 => simp only [maxLen]; omega
      case c4 => omega
      case c5 => simp; omega
      intro v4 w4 hown4 hgr4 _
      have B4 := Lib.hid ((HW.out.alloc hz _).grown hgr4 (by simp; omega) (fun j hj => (HO.out.lt j hj).1))
      have O4 := Lib.hid hown4
      clear hown4 hgr4
      go_wp2
      go_roundw
      case rel =>
        refine ⟨k / 128, d ++ [UInt8.ofNat (k % 128 + 128)], by omega, by go_num, ?_, ?_, B4.out⟩
        · rw [HV.out, vint_step k h128]; simp
        · have := O4.out
          rw [byte_up] at this
          exact own_cast this (by simp) (by simp [bytes])
      case measure => simp [intOf]; omega
    · have hge : decide ((128 : Int) ≤ (k : Int)) = false := by simp; omega
      have hk128 : k < 128 := by omega
      go_wp2_with (first
        | (at_builtin; have HB := Lib.hid (HO.out.alloc (.cells #[.int .u8 (k : Int)] 5)); have HN := Lib.hid (new_one wr (.int .u8 (k : Int)) 5); refine wpList_append_own _ rfl (.tmp 17) (.tmp 20) 53 rfl w.heap.size 5 i0 (.int .u8 0) 1 1 Try.underlying53 hi hz0 hz1 hz2 rfl (by decide) u3 d.length (bytes d) rfl HB.out ⟨wr.heap.size, 0, none⟩ 1 1 [.int .u8 (k : Int)] rfl rfl HN.out ?c1 ?c3 ?c4 ?c5 ?_))
      case c1 => intro u hu; simp at hu; subst hu; rfl
      case c3 => simp only [maxLen]; omega
      case c4 => omega
      case c5 => simp; omega
      intro v4 w4 hown4 hgr4 _
      have B4 := Lib.hid ((HW.out.alloc hz _).grown hgr4 (by simp; omega) (fun j hj => (HO.out.lt j hj).1))
      have hvn : vint n = d ++ [UInt8.ofNat k] := by rw [HV.out, vint_small k hk128]
      rw [byte_lo k hk128] at hown4
      have hcv := conv_own (l := d ++ [UInt8.ofNat k]) (own_cast hown4 (by simp) (by simp [bytes]))
      have VN := Lib.hid hvn
      clear hown4 hgr4 hvn
      go_wp2
      go_ret
      exact ⟨by rw [VN.out]; rfl, B4.out⟩
theorem xwnumE_any (n : Int) (w : World) (hn : n < 9223372036854775808) :
    Calls Try.prog 12 #[.int .i64 n] w fun e w' => e = .returned (.string (mk (numE n))) ∧ Below w.heap.size w w' := by
  unfold numE
  by_cases h : n < 0
  · rw [if_pos h]; exact xwnum_neg n w h
  · rw [if_neg h]
    have := xwnum_any n.toNat w (by omega)
    rw [show ((n.toNat : Nat) : Int) = n by omega] at this
    exact this
theorem xwint_any (n : Int) (w : World) :
    Calls Try.prog 14 #[.int .i64 n] w fun e w' => e = .returned (.string (mk (intE n))) ∧ Below w.heap.size w w' := by
  by_cases h0 : n < -1152921504606846976
  · have hr : inR n = false := by rw [← Bool.not_eq_true, inR_iff]; omega
    rw [intE_out n hr]
    have d0 : decide (n < -1152921504606846976) = true := by simpa using h0
    clear hr
    go_enter Try.func14, Try.ntmps14
    go_wp2
    go_ret
    exact ⟨rfl, Below.refl _ _⟩
  · have d0 : decide (n < -1152921504606846976) = false := by simpa using h0
    by_cases h1 : 1152921504606846976 < n
    · have hr : inR n = false := by rw [← Bool.not_eq_true, inR_iff]; omega
      rw [intE_out n hr]
      have d1 : decide (1152921504606846976 < n) = true := by simpa using h1
      clear hr
      go_enter Try.func14, Try.ntmps14
      go_wp2
      go_ret
      exact ⟨rfl, Below.refl _ _⟩
    · have d1 : decide (1152921504606846976 < n) = false := by simpa using h1
      have hr : inR n = true := by rw [inR_iff]; omega
      rw [intE_in n hr]
      have C := fun W => xwnum_any (zig n) W (zig_lt n hr)
      by_cases hn : n < 0
      · rw [show ((zig n : Nat) : Int) = -2 * n - 1 by unfold zig; rw [if_pos hn]; omega] at C
        have CC := Lib.hid C
        have d2 : decide (n < 0) = true := by simpa using hn
        clear C hr
        go_enter Try.func14, Try.ntmps14
        go_wp2_with (go_at_call 12; refine (CC.out _).mono ?_; rintro e w1 ⟨rfl, b1⟩)
        go_ret
        exact ⟨rfl, b1⟩
      · rw [show ((zig n : Nat) : Int) = 2 * n by unfold zig; rw [if_neg hn]; omega] at C
        have CC := Lib.hid C
        have d2 : decide (n < 0) = false := by simpa using hn
        clear C hr
        go_enter Try.func14, Try.ntmps14
        go_wp2_with (go_at_call 12; refine (CC.out _).mono ?_; rintro e w1 ⟨rfl, b1⟩)
        go_ret
        exact ⟨rfl, b1⟩
theorem xwtext_any (s : List UInt8) (w : World) (hs : s.length ≤ 140737488355328) :
    Calls Try.prog 16 #[.string (mk s)] w fun e w' => e = .returned (.string (mk (textE s))) ∧ Below w.heap.size w w' := by
  have hz : (mk s).size = s.length := rfl
  have hv := vint_nine s.length (by omega)
  have hz2 : (mk (vint s.length)).size ≤ 9 := hv
  have CC := Lib.hid (fun W => xwnum_any s.length W (by omega))
  have hcat := mk_append (vint s.length) s
  rw [show vint s.length ++ s = textE s from rfl] at hcat
  clear hv
  go_enter Try.func16, Try.ntmps16
  go_wp2_with (go_at_call 12; refine (CC.out _).mono ?_; rintro e w1 ⟨rfl, b1⟩)
  go_ret
  exact ⟨rfl, b1⟩

set_option maxHeartbeats 1000000 in
theorem xwlist_any (A : Option Addr) (c : Nat) (xs : List (List UInt8)) (w : World) (hr : Row w w.heap.size A (strs xs)) (hl : (xs.flatMap textE).length ≤ 100000000000000) (hx : xs.length < 4611686018427387904) :
    Calls Try.prog 18 #[.slice A xs.length c] w fun e w' => e = .returned (.string (mk (listE xs))) ∧ Below w.heap.size w w' := by
  have HR := Lib.hid hr
  have CC := Lib.hid (fun W => xwnum_any xs.length W (by omega))
  have hv := vint_nine xs.length (by omega)
  clear hr
  go_enter Try.func18, Try.ntmps18
  go_wp2_with fail
  refine (CC.out _).mono ?_
  rintro e w1 ⟨rfl, b1⟩
  have B1 := Lib.hid b1
  clear b1
  go_wp2_with fail
  go_loopw [3, 4] (fun s i wr => ∃ k : Nat, k ≤ xs.length ∧ i = .int .i64 k ∧ (∃ S, s = .string S ∧ S = mk (vint xs.length ++ (xs.take k).flatMap textE)) ∧ Below w.heap.size w wr) (fun _ i _ => xs.length - (intOf i).toNat)
  case atStart => exact ⟨0, by omega, rfl, ⟨_, rfl, by simp⟩, B1.out⟩
  case round =>
    obtain ⟨k, hk, rfl, ⟨S, rfl, hS⟩, hb⟩ := hrel
    have ES := Lib.hid hS
    have HB := Lib.hid hb
    have hsz := hb.size
    have hft := flat_take textE xs k
    have hSz : S.size ≤ 100000000000009 := by rw [hS, size_mk, List.length_append]; omega
    clear hS hb hft
    by_cases hlt : k < xs.length
    · have i1 : decide ((k : Int) < (xs.length : Int)) = true := by simp; omega
      obtain ⟨a, rfl, ha, hc⟩ := (HR.out.below HB.out) k _ (strs_at xs k hlt)
      have hsn := flat_snoc textE xs k hlt
      have hft := flat_take textE xs (k + 1)
      have hel : (textE xs[k]).length ≤ 100000000000000 := by rw [hsn, List.length_append] at hft; omega
      have hx1 : (mk (textE xs[k])).size ≤ 100000000000000 := hel
      have SN := Lib.hid hsn
      have D := Lib.hid (xwtext_any xs[k] wr (by have := text_lt xs[k]; omega))
      clear hsn hft hel
      go_wp2_with fail
      refine (D.out).mono ?_
      rintro e w2 ⟨rfl, b2⟩
      have B2 := Lib.hid b2
      clear b2
      go_wp2_with fail
      go_roundw
      case rel =>
        refine ⟨k + 1, by omega, by go_num, ⟨_, rfl, ?_⟩, bw HB.out B2.out hsz⟩
        rw [ES.out, mk_append, SN.out, List.append_assoc]
      case measure => simp [intOf]; omega
    · have i1 : decide ((k : Int) < (xs.length : Int)) = false := by simp; omega
      have i2 : decide (k < xs.length) = false := by simp; omega
      have hk : k = xs.length := by omega
      have HK := Lib.hid hk
      clear hk
      go_wp2_with fail
      go_ret
      refine ⟨?_, HB.out⟩
      have := ES.out
      rw [HK.out, List.take_length] at this
      rw [this]
      rfl

set_option maxHeartbeats 1000000 in
theorem xwnums_any (A : Option Addr) (c : Nat) (xs : List Int) (w : World) (hr : Row w w.heap.size A (ints xs)) (hl : (xs.flatMap intE).length ≤ 100000000000000) (hx : xs.length < 4611686018427387904) :
    Calls Try.prog 20 #[.slice A xs.length c] w fun e w' => e = .returned (.string (mk (numsE xs))) ∧ Below w.heap.size w w' := by
  have HR := Lib.hid hr
  have CC := Lib.hid (fun W => xwnum_any xs.length W (by omega))
  have hv := vint_nine xs.length (by omega)
  clear hr
  go_enter Try.func20, Try.ntmps20
  go_wp2_with fail
  refine (CC.out _).mono ?_
  rintro e w1 ⟨rfl, b1⟩
  have B1 := Lib.hid b1
  clear b1
  go_wp2_with fail
  go_loopw [3, 4] (fun s i wr => ∃ k : Nat, k ≤ xs.length ∧ i = .int .i64 k ∧ (∃ S, s = .string S ∧ S = mk (vint xs.length ++ (xs.take k).flatMap intE)) ∧ Below w.heap.size w wr) (fun _ i _ => xs.length - (intOf i).toNat)
  case atStart => exact ⟨0, by omega, rfl, ⟨_, rfl, by simp⟩, B1.out⟩
  case round =>
    obtain ⟨k, hk, rfl, ⟨S, rfl, hS⟩, hb⟩ := hrel
    have ES := Lib.hid hS
    have HB := Lib.hid hb
    have hsz := hb.size
    have hft := flat_take intE xs k
    have hSz : S.size ≤ 100000000000009 := by rw [hS, size_mk, List.length_append]; omega
    clear hS hb hft
    by_cases hlt : k < xs.length
    · have i1 : decide ((k : Int) < (xs.length : Int)) = true := by simp; omega
      obtain ⟨a, rfl, ha, hc⟩ := (HR.out.below HB.out) k _ (ints_at xs k hlt)
      have hsn := flat_snoc intE xs k hlt
      have hft := flat_take intE xs (k + 1)
      have hel : (intE xs[k]).length ≤ 100000000000000 := by rw [hsn, List.length_append] at hft; omega
      have hx1 : (mk (intE xs[k])).size ≤ 100000000000000 := hel
      have SN := Lib.hid hsn
      have D := Lib.hid (xwint_any xs[k] wr)
      clear hsn hft hel
      go_wp2_with fail
      refine (D.out).mono ?_
      rintro e w2 ⟨rfl, b2⟩
      have B2 := Lib.hid b2
      clear b2
      go_wp2_with fail
      go_roundw
      case rel =>
        refine ⟨k + 1, by omega, by go_num, ⟨_, rfl, ?_⟩, bw HB.out B2.out hsz⟩
        rw [ES.out, mk_append, SN.out, List.append_assoc]
      case measure => simp [intOf]; omega
    · have i1 : decide ((k : Int) < (xs.length : Int)) = false := by simp; omega
      have i2 : decide (k < xs.length) = false := by simp; omega
      have hk : k = xs.length := by omega
      have HK := Lib.hid hk
      clear hk
      go_wp2_with fail
      go_ret
      refine ⟨?_, HB.out⟩
      have := ES.out
      rw [HK.out, List.take_length] at this
      rw [this]
      rfl
end Go.Proofs.Ytjomkfiepmeplaa
