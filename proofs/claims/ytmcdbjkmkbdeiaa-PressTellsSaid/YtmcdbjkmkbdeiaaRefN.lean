/-
  The reference's Num, and the end of its input.
-/
import Derived.Test.YtmcdbjkmkbdeiaaRefB
namespace Go.Proofs.Ytmcdbjkmkbdeiaa
open Go.RowKit
theorem xxdone_any (b : Nat) (st : St) (w : World) (h : Rd w b 34 st) : Calls Try.prog 20 #[.pointer (some ⟨b, 0, none⟩)] w fun e w' => e = .returned (.bool (doneB st)) ∧ w = w' := by
  cases st with
  | none => exact xdone_true b _ w h
  | some l =>
    have := xdone_false b _ w h
    rw [show decide ((mk (rest (some l))).size = 0) = l.isEmpty by cases l <;> rfl] at this
    exact this
theorem xwnum_neg (n : Int) (w : World) (hn : n < 0) : Calls Try.prog 29 #[.int .i64 n] w fun e w' => e = .returned (.string (mk [])) ∧ Below w.heap.size w w' := by
  have h : decide (n < 0) = true := by simpa using hn
  go_enter Try.func29, Try.ntmps29
  go_wp2
  go_ret
  exact ⟨rfl, Below.refl _ _⟩
set_option maxHeartbeats 1000000 in
theorem xwnum_any (n : Nat) (w : World) (hn : n < 9223372036854775808) :
    Calls Try.prog 29 #[.int .i64 (n : Int)] w fun e w' => e = .returned (.string (mk (vint n))) ∧ Below w.heap.size w w' := by
  obtain ⟨i0, hi, hz0, hz1, hz2⟩ := info_parts info5
  have hv9 := vint_nine n hn
  have h0 : decide ((n : Int) < 0) = false := by simp
  go_enter Try.func29, Try.ntmps29
  go_wp2
  go_loopw [0, 3] (fun m v wr => ∃ k : Nat, ∃ d : List UInt8, k ≤ n ∧ m = .int .i64 k ∧ vint n = d ++ vint k ∧ wr.ownsRow w.heap.size 5 1 v d.length (bytes d) ∧ Below w.heap.size w wr) (fun m _ _ => (intOf m).toNat)
  case atStart => exact ⟨n, [], by omega, rfl, rfl, World.ownsRow_nil _ _ _ _, Below.refl _ _⟩
  case round =>
    obtain ⟨k, d, hk, rfl, hv, ho, hb⟩ := hrel
    have hd : d.length + 1 ≤ 9 := by
      have := vint_pos k
      have e := congrArg List.length hv
      rw [List.length_append] at e
      omega
    have hz := hb.size
    have HO := Lib.hid ho
    have HV := Lib.hid hv
    have HW := Lib.hid hb
    clear ho hv hb
    by_cases h128 : 128 ≤ k
    · have hge : decide ((128 : Int) ≤ (k : Int)) = true := by simp; omega
      go_wp2_with (first
        | (at_builtin; have HB := Lib.hid (HO.out.alloc (.cells #[.int .u8 ((k : Int) % 128 + 128)] 5)); have HN := Lib.hid (new_one wr (.int .u8 ((k : Int) % 128 + 128)) 5); refine wpList_append_own _ rfl (.tmp 8) (.tmp 13) 37 rfl w.heap.size 5 i0 (.int .u8 0) 1 1 Try.underlying37 hi hz0 hz1 hz2 rfl (by decide) u3 d.length (bytes d) rfl HB.out ⟨wr.heap.size, 0, none⟩ 1 1 [.int .u8 ((k : Int) % 128 + 128)] rfl rfl HN.out ?c1 ?c3 ?c4 ?c5 ?_))
      case c1 => intro u hu; simp at hu; subst hu; rfl
      case c3 => simp only [maxLen]; omega
      case c4 => omega
      case c5 => simp; omega
      intro v4 w4 hown4 hgr4 _
      have B4 := Lib.hid ((HW.out.alloc hz _).grown hgr4 (by simp; omega) (fun j hj => (HO.out.lt j hj).1))
      have O4 := Lib.hid hown4
      clear hown4 hgr4
      go_wp2
      go_roundw
      case rel =>
        refine ⟨k / 128, d ++ [UInt8.ofNat (k % 128 + 128)], by omega, by go_num, ?_, ?_, B4.out⟩
        · rw [HV.out, vint_step k h128]; simp
        · have := O4.out
          rw [byte_up] at this
          exact own_cast this (by simp) (by simp [bytes])
      case measure => simp [intOf]; omega
    · have hge : decide ((128 : Int) ≤ (k : Int)) = false := by simp; omega
      have hk128 : k < 128 := by omega
      go_wp2_with (first
        | (at_builtin; have HB := Lib.hid (HO.out.alloc (.cells #[.int .u8 (k : Int)] 5)); have HN := Lib.hid (new_one wr (.int .u8 (k : Int)) 5); refine wpList_append_own _ rfl (.tmp 17) (.tmp 20) 37 rfl w.heap.size 5 i0 (.int .u8 0) 1 1 Try.underlying37 hi hz0 hz1 hz2 rfl (by decide) u3 d.length (bytes d) rfl HB.out ⟨wr.heap.size, 0, none⟩ 1 1 [.int .u8 (k : Int)] rfl rfl HN.out ?c1 ?c3 ?c4 ?c5 ?_))
      case c1 => intro u hu; simp at hu; subst hu; rfl
      case c3 => simp only [maxLen]; omega
      case c4 => omega
      case c5 => simp; omega
      intro v4 w4 hown4 hgr4 _
      have B4 := Lib.hid ((HW.out.alloc hz _).grown hgr4 (by simp; omega) (fun j hj => (HO.out.lt j hj).1))
      have hvn : vint n = d ++ [UInt8.ofNat k] := by rw [HV.out, vint_small k hk128]
      rw [byte_lo k hk128] at hown4
      have hcv := conv_own (l := d ++ [UInt8.ofNat k]) (own_cast hown4 (by simp) (by simp [bytes]))
      have VN := Lib.hid hvn
      clear hown4 hgr4 hvn
      go_wp2
      go_ret
      exact ⟨by rw [VN.out]; rfl, B4.out⟩
theorem xwnumE_any (n : Int) (w : World) (hn : n < 9223372036854775808) :
    Calls Try.prog 29 #[.int .i64 n] w fun e w' => e = .returned (.string (mk (numE n))) ∧ Below w.heap.size w w' := by
  unfold numE
  by_cases h : n < 0
  · rw [if_pos h]; exact xwnum_neg n w h
  · rw [if_neg h]
    have := xwnum_any n.toNat w (by omega)
    rw [show ((n.toNat : Nat) : Int) = n by omega] at this
    exact this
end Go.Proofs.Ytmcdbjkmkbdeiaa
