/-
  How many bytes from a place on equal those a distance before them.
-/
import Derived.Test.YtmcdbjkmkbdeiaaDoorStart
namespace Go.Proofs.YtmcdbjkmkbdeiaaDoor
open Go.RowKit
theorem run_more (l : List UInt8) (i d a : Nat) (hd : d ≤ i) (h1 : i ≤ a) (h2 : a ≤ i + run l i d) (hb : a + 32 ≤ l.length) (h : (l.take (a + 32)).drop a = (l.take (a - d + 32)).drop (a - d)) : a + 32 ≤ i + run l i d := by
  have := run_ge l i d (a - i + 32) (by omega) fun j hj => by
    by_cases hlt : j < a - i
    · exact (run_at l i d j (by omega)).1
    · have e := congrArg (fun x => x[j - (a - i)]?) h
      simp only [List.getElem?_drop] at e
      rw [List.getElem?_take_of_lt (by omega), List.getElem?_take_of_lt (by omega), show a + (j - (a - i)) = i + j by omega, show a - d + (j - (a - i)) = i - d + j by omega] at e
      exact e
  omega
set_option maxRecDepth 20000 in
set_option maxHeartbeats 1000000 in
theorem common_any (s : ByteArray) (i d : Nat) (w : World) (hd : d ≤ i) (hi : i ≤ s.size) (hl : s.size ≤ 1000000000) :
    Calls Tryd.prog 27 #[.string s, .int .i64 (i : Int), .int .i64 (d : Int)] w fun e w' => e = .returned (.int .i64 (run (ls s) i d : Nat)) ∧ ∃ j, w' = w.drewN j := by
  obtain ⟨z, hz⟩ : ∃ z, z = run (ls s) i d := ⟨_, rfl⟩
  rw [← hz]
  have hrl : i + z ≤ s.size := by have := run_le (ls s) i d; rw [ls_length] at this; omega
  have HZ := Lib.hid hz
  clear hz
  go_enter Tryd.func27, Tryd.ntmps27
  go_wp2
  go_loopw [7] (fun v wr => ∃ a j : Nat, i ≤ a ∧ a ≤ i + z ∧ v = .int .i64 a ∧ wr = w.drewN j) (fun v _ => s.size - (intOf v).toNat)
  case atStart => exact ⟨i, 0, by omega, by omega, rfl, rfl⟩
  case round =>
    obtain ⟨a, j, h1, h2, rfl, rfl⟩ := hrel
    have j1 : IntKind.i64.wrap ((a : Int) + 32) = (a : Int) + 32 := IntWalk.i64_in _ (by omega)
    have j2 : IntKind.i64.wrap ((a : Int) - (d : Int)) = (a : Int) - (d : Int) := IntWalk.i64_in _ (by omega)
    have j3 : IntKind.i64.wrap ((a : Int) - (d : Int) + 32) = (a : Int) - (d : Int) + 32 := IntWalk.i64_in _ (by omega)
    by_cases hb : a + 32 ≤ s.size
    · have g1 : decide ((a : Int) + 32 ≤ (s.size : Int)) = true := by simp; omega
      have g2 : (a : Int) + 32 ≤ (s.size : Int) := by omega
      have g3 : (0 : Int) ≤ (a : Int) + 32 := by omega
      have g4 : (a : Int) ≤ (a : Int) + 32 := by omega
      have g5 : (d : Int) ≤ (a : Int) := by omega
      have g6 : (a : Int) - (d : Int) ≤ (a : Int) - (d : Int) + 32 := by omega
      have g7 : (a : Int) - (d : Int) + 32 ≤ (s.size : Int) := by omega
      have g8 : (0 : Int) ≤ (a : Int) - (d : Int) + 32 := by omega
      have E : ((s.extract a (a + 32)).toList == (s.extract (a - d) (a - d + 32)).toList) = decide (ls (s.extract a (a + 32)) = ls (s.extract (a - d) (a - d + 32))) := mk_beq _ _
      rw [extract_mid, extract_mid] at E
      by_cases hE : ((ls s).take (a + 32)).drop a = ((ls s).take (a - d + 32)).drop (a - d)
      · rw [decide_eq_true hE] at E
        have h3 : a + 32 ≤ i + z := by
          rw [HZ.out]; exact run_more (ls s) i d a hd h1 (by rw [← HZ.out]; exact h2) hb hE
        clear hE
        go_wp2
        go_quiet (fail)
        go_wp2
        go_roundw
        case rel => exact ⟨a + 32, _, by omega, by omega, by go_num, rfl⟩
        case measure => simp [intOf]; omega
      · rw [decide_eq_false hE] at E
        clear hE
        go_wp2
        go_quiet (fail)
        go_wp2
        go_loopw [7] (fun v wr => ∃ a j : Nat, i ≤ a ∧ a ≤ i + z ∧ v = .int .i64 a ∧ wr = w.drewN j) (fun v _ => s.size - (intOf v).toNat)
        case atStart => exact ⟨a, _, by omega, by omega, rfl, by rw [World.drewN_drewN]⟩
        case round =>
          clear j1 j2 j3 hb g1 g2 g3 g4 g5 g6 g7 g8 E h1 h2
          obtain ⟨a, j, h1, h2, rfl, rfl⟩ := hrel
          have j2 : IntKind.i64.wrap ((a : Int) - (d : Int)) = (a : Int) - (d : Int) := IntWalk.i64_in _ (by omega)
          have j5 : (d : Int) ≤ (a : Int) := by omega
          by_cases hb : a < s.size
          · have j1 : decide ((a : Int) < (s.size : Int)) = true := by simp; omega
            have j0 : (a : Int) < (s.size : Int) := by omega
            have j4 : (a : Int) - (d : Int) < (s.size : Int) := by omega
            have j7 : ((a : Int) - (d : Int)).toNat < s.size := by omega
            have a1 := at_s s a hb
            have a2 := at_s s (a - d) (by omega)
            by_cases hk2 : a < i + z
            · have E : (((s[a]'hb).toNat : Int) == ((s[a - d]'(by omega)).toNat : Int)) = true := by
                obtain ⟨e, -⟩ := run_at (ls s) i d (a - i) (by rw [← HZ.out]; omega)
                rw [show i + (a - i) = a by omega, show i - d + (a - i) = a - d by omega, a1, a2] at e
                simp only [Option.some.injEq] at e
                rw [e]; simp
              clear a1 a2
              go_wp2
              go_quiet (fail)
              go_wp2
              go_roundw
              case rel => exact ⟨a + 1, _, by omega, by omega, by go_num, rfl⟩
              case measure => simp [intOf]; omega
            · have E : (((s[a]'hb).toNat : Int) == ((s[a - d]'(by omega)).toNat : Int)) = false := by
                have e := run_stop (ls s) i d (by rw [← HZ.out, ls_length]; omega)
                rw [← HZ.out, show i + z = a by omega, show i - d + z = a - d by omega, a1, a2] at e
                have e2 : s[a]'hb ≠ s[a - d]'(by omega) := fun x => e (by rw [x])
                simp only [beq_eq_false_iff_ne, ne_eq]
                intro x
                exact e2 (UInt8.toNat_inj.1 (by omega))
              clear a1 a2
              go_wp2
              go_quiet (fail)
              go_wp2
              go_ret
              exact ⟨by rw [show (a : Int) - (i : Int) = ((z : Nat) : Int) by omega]; rfl, _, rfl⟩
          · have j1 : decide ((a : Int) < (s.size : Int)) = false := by simp; omega
            go_wp2
            go_quiet (fail)
            go_wp2
            go_ret
            exact ⟨by rw [show (a : Int) - (i : Int) = ((z : Nat) : Int) by omega]; rfl, _, rfl⟩
    · have g1 : decide ((a : Int) + 32 ≤ (s.size : Int)) = false := by simp; omega
      go_wp2
      go_quiet (fail)
      go_wp2
      go_loopw [7] (fun v wr => ∃ a j : Nat, i ≤ a ∧ a ≤ i + z ∧ v = .int .i64 a ∧ wr = w.drewN j) (fun v _ => s.size - (intOf v).toNat)
      case atStart => exact ⟨a, _, by omega, by omega, rfl, by rw [World.drewN_drewN]⟩
      case round =>
        clear j1 j2 j3 hb g1 h1 h2
        obtain ⟨a, j, h1, h2, rfl, rfl⟩ := hrel
        have j2 : IntKind.i64.wrap ((a : Int) - (d : Int)) = (a : Int) - (d : Int) := IntWalk.i64_in _ (by omega)
        have j5 : (d : Int) ≤ (a : Int) := by omega
        by_cases hb : a < s.size
        · have j1 : decide ((a : Int) < (s.size : Int)) = true := by simp; omega
          have j0 : (a : Int) < (s.size : Int) := by omega
          have j4 : (a : Int) - (d : Int) < (s.size : Int) := by omega
          have j7 : ((a : Int) - (d : Int)).toNat < s.size := by omega
          have a1 := at_s s a hb
          have a2 := at_s s (a - d) (by omega)
          by_cases hk2 : a < i + z
          · have E : (((s[a]'hb).toNat : Int) == ((s[a - d]'(by omega)).toNat : Int)) = true := by
              obtain ⟨e, -⟩ := run_at (ls s) i d (a - i) (by rw [← HZ.out]; omega)
              rw [show i + (a - i) = a by omega, show i - d + (a - i) = a - d by omega, a1, a2] at e
              simp only [Option.some.injEq] at e
              rw [e]; simp
            clear a1 a2
            go_wp2
            go_quiet (fail)
            go_wp2
            go_roundw
            case rel => exact ⟨a + 1, _, by omega, by omega, by go_num, rfl⟩
            case measure => simp [intOf]; omega
          · have E : (((s[a]'hb).toNat : Int) == ((s[a - d]'(by omega)).toNat : Int)) = false := by
              have e := run_stop (ls s) i d (by rw [← HZ.out, ls_length]; omega)
              rw [← HZ.out, show i + z = a by omega, show i - d + z = a - d by omega, a1, a2] at e
              have e2 : s[a]'hb ≠ s[a - d]'(by omega) := fun x => e (by rw [x])
              simp only [beq_eq_false_iff_ne, ne_eq]
              intro x
              exact e2 (UInt8.toNat_inj.1 (by omega))
            clear a1 a2
            go_wp2
            go_quiet (fail)
            go_wp2
            go_ret
            exact ⟨by rw [show (a : Int) - (i : Int) = ((z : Nat) : Int) by omega]; rfl, _, rfl⟩
        · have j1 : decide ((a : Int) < (s.size : Int)) = false := by simp; omega
          go_wp2
          go_quiet (fail)
          go_wp2
          go_ret
          exact ⟨by rw [show (a : Int) - (i : Int) = ((z : Nat) : Int) by omega]; rfl, _, rfl⟩
end Go.Proofs.YtmcdbjkmkbdeiaaDoor
