/-
  The reference's longest match.
-/
import Derived.Test.YtmcdbjkmkbdeiaaRefN
import Derived.Test.YtmcdbjkmkbdeiaaLow
namespace Go.Proofs.Ytmcdbjkmkbdeiaa
open Go.RowKit
set_option maxRecDepth 20000 in
set_option maxHeartbeats 1000000 in
theorem xlongest_s (s : ByteArray) (i : Nat) (w : World) (hi : i ≤ s.size) (hl : s.size ≤ 1000000000) :
    Calls Try.prog 30 #[.string s, .int .i64 (i : Int)] w fun e w' => e = .returned (.tuple #[.int .i64 ((longestE (ls s) i).1 : Nat), .int .i64 ((longestE (ls s) i).2 : Nat)]) ∧ Below w.heap.size w w' := by
  obtain ⟨l, es⟩ : ∃ l, l = ls s := ⟨_, rfl⟩
  rw [← es]
  have ES := Lib.hid es
  have hsz : l.length = s.size := by rw [es]; rfl
  have SZ := Lib.hid hsz
  clear es hsz
  obtain ⟨m, hm⟩ : ∃ m, m = min i 4096 := ⟨_, rfl⟩
  have HM : Hid (longestE l i = best l i m) := Lib.hid (by rw [hm]; rfl)
  have hm1 : m ≤ i := by omega
  have hm2 : m ≤ 4096 := by omega
  have hm3 : i ≤ m ∨ 4096 ≤ m := by omega
  clear hm
  go_enter Try.func30, Try.ntmps30
  go_wp2
  go_loopw [6, 7, 8] (fun b f dd wr => ∃ d p q j : Nat, 1 ≤ d ∧ d ≤ m + 1 ∧ dd = .int .i64 d ∧ b = .int .i64 (p : Nat) ∧ f = .int .i64 (q : Nat) ∧ Hid (best l i (d - 1) = (p, q)) ∧ wr = w.drewN j) (fun _ _ dd _ => m + 1 - (intOf dd).toNat)
  case atStart => exact ⟨1, 0, 0, 0, by omega, by omega, rfl, rfl, rfl, Lib.hid rfl, rfl⟩
  case round =>
    obtain ⟨d, p, q, j, hd1, hd2, rfl, rfl, rfl, HP, rfl⟩ := hrel
    by_cases hlt : d ≤ m
    · have i1 : decide ((d : Int) ≤ (i : Int)) = true := by simp; omega
      have i2 : decide ((d : Int) ≤ 4096) = true := by simp; omega
      obtain ⟨z, hz⟩ : ∃ z, z = run l i d := ⟨_, rfl⟩
      have hrl : i + z ≤ s.size := by have := run_le l i d; rw [SZ.out] at this; omega
      have HZ := Lib.hid hz
      clear hz
      go_wp2
      go_loopw [9] (fun kk wi => ∃ k j : Nat, k ≤ z ∧ kk = .int .i64 k ∧ wi = w.drewN j) (fun kk _ => z - (intOf kk).toNat)
      case atStart => exact ⟨0, j, by omega, rfl, rfl⟩
      case round =>
        obtain ⟨k, j, hk, rfl, rfl⟩ := hrel
        have j2 : IntKind.i64.wrap ((i : Int) + (k : Int)) = (i : Int) + (k : Int) := IntWalk.i64_in _ (by omega)
        by_cases hb : i + k < s.size
        · have j6 : IntKind.i64.wrap ((i : Int) + (k : Int) - (d : Int)) = (i : Int) + (k : Int) - (d : Int) := IntWalk.i64_in _ (by omega)
          have j1 : decide ((i : Int) + (k : Int) < (s.size : Int)) = true := by simp; omega
          have j0 : (i : Int) + (k : Int) < (s.size : Int) := by omega
          have j3 : (0 : Int) ≤ (i : Int) + (k : Int) := by omega
          have j4 : (i : Int) + (k : Int) - (d : Int) < (s.size : Int) := by omega
          have j5 : (d : Int) ≤ (i : Int) + (k : Int) := by omega
          have j7 : ((i : Int) + (k : Int) - (d : Int)).toNat < s.size := by omega
          have j8 : ((i : Int) + (k : Int)).toNat < s.size := by omega
          have a1 := at_s s (i + k) hb
          have a2 := at_s s (i + k - d) (by omega)
          rw [← ES.out] at a1 a2
          by_cases hk2 : k < z
          · have E : (((s[i + k]'hb).toNat : Int) == ((s[i + k - d]'(by omega)).toNat : Int)) = true := by
              obtain ⟨e, -⟩ := run_at l i d k (by rw [← HZ.out]; exact hk2)
              rw [show i - d + k = i + k - d by omega, a1, a2] at e
              simp only [Option.some.injEq] at e
              rw [e]; simp
            have E' : ((s[i + k]'hb).toNat == (s[i + k - d]'(by omega)).toNat) = true := by
              simp only [beq_iff_eq] at E ⊢; omega
            clear a1 a2
            go_wp2
            go_quiet (fail)
            go_wp2
            go_roundw
            case rel => exact ⟨k + 1, _, by omega, by go_num, rfl⟩
            case measure => simp [intOf]; omega
          · have E : (((s[i + k]'hb).toNat : Int) == ((s[i + k - d]'(by omega)).toNat : Int)) = false := by
              have hkz : k = run l i d := by rw [← HZ.out]; omega
              have e := run_stop l i d (by rw [← hkz, SZ.out]; exact hb)
              rw [← hkz, show i - d + k = i + k - d by omega, a1, a2] at e
              simp only [ne_eq, Option.some.injEq] at e
              simp only [beq_eq_false_iff_ne, ne_eq]
              intro h
              exact e (UInt8.toNat_inj.1 (by omega))
            have E' : ((s[i + k]'hb).toNat == (s[i + k - d]'(by omega)).toNat) = false := by
              simp only [beq_eq_false_iff_ne, ne_eq] at E ⊢; omega
            have hkz : k = z := by omega
            subst hkz
            clear a1 a2
            by_cases hpk : p < k
            · have c1 : decide ((p : Int) < (k : Int)) = true := by simp; omega
              go_wp2
              go_quiet (fail)
              go_wp2
              refine ⟨⟨d + 1, k, d, _, by omega, by omega, by go_num, rfl, rfl, Lib.hid ?_, rfl⟩, by simp [intOf]; omega⟩
              rw [Nat.add_sub_cancel, best_step l i d hd1, HP.out, ← HZ.out, if_pos hpk]
            · have c1 : decide ((p : Int) < (k : Int)) = false := by simp; omega
              go_wp2
              go_quiet (fail)
              go_wp2
              refine ⟨⟨d + 1, p, q, _, by omega, by omega, by go_num, rfl, rfl, Lib.hid ?_, rfl⟩, by simp [intOf]; omega⟩
              rw [Nat.add_sub_cancel, best_step l i d hd1, HP.out, ← HZ.out, if_neg hpk]
        · have j1 : decide ((i : Int) + (k : Int) < (s.size : Int)) = false := by simp; omega
          have hkz : k = z := by omega
          subst hkz
          by_cases hpk : p < k
          · have c1 : decide ((p : Int) < (k : Int)) = true := by simp; omega
            go_wp2
            go_quiet (fail)
            go_wp2
            refine ⟨⟨d + 1, k, d, _, by omega, by omega, by go_num, rfl, rfl, Lib.hid ?_, rfl⟩, by simp [intOf]; omega⟩
            rw [Nat.add_sub_cancel, best_step l i d hd1, HP.out, ← HZ.out, if_pos hpk]
          · have c1 : decide ((p : Int) < (k : Int)) = false := by simp; omega
            go_wp2
            go_quiet (fail)
            go_wp2
            refine ⟨⟨d + 1, p, q, _, by omega, by omega, by go_num, rfl, rfl, Lib.hid ?_, rfl⟩, by simp [intOf]; omega⟩
            rw [Nat.add_sub_cancel, best_step l i d hd1, HP.out, ← HZ.out, if_neg hpk]
    · have hdm : d = m + 1 := by omega
      have hB : best l i m = (p, q) := by have := HP.out; rw [hdm, Nat.add_sub_cancel] at this; exact this
      have e1 : (longestE l i).1 = p := by rw [HM.out, hB]
      have e2 : (longestE l i).2 = q := by rw [HM.out, hB]
      have E1 := Lib.hid e1
      have E2 := Lib.hid e2
      clear e1 e2 hB
      by_cases hdi : d ≤ i
      · have i1 : decide ((d : Int) ≤ (i : Int)) = true := by simp; omega
        have i2 : decide ((d : Int) ≤ 4096) = false := by simp; omega
        go_wp2
        go_ret2
        exact ⟨by rw [E1.out, E2.out]; rfl, below_drew (Below.refl _ _) _⟩
      · have i1 : decide ((d : Int) ≤ (i : Int)) = false := by simp; omega
        go_wp2
        go_ret2
        exact ⟨by rw [E1.out, E2.out]; rfl, below_drew (Below.refl _ _) _⟩
theorem xlongest_any (l : List UInt8) (i : Nat) (w : World) (hi : i ≤ l.length) (hl : l.length ≤ 1000000000) :
    Calls Try.prog 30 #[.string (mk l), .int .i64 (i : Int)] w fun e w' => e = .returned (.tuple #[.int .i64 ((longestE l i).1 : Nat), .int .i64 ((longestE l i).2 : Nat)]) ∧ Below w.heap.size w w' := xlongest_s (mk l) i w hi hl
end Go.Proofs.Ytmcdbjkmkbdeiaa
