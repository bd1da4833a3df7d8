/-
  DiskLoses: the walk.
-/
import Derived.Test.YtokoccffkogamaaPar
namespace Go.Proofs.Ytokoccffkogamaa
open Go.RowKit
/-- m flushes are going to be lost; file 0 has s, nothing of it durable. -/
def L (s : List UInt8) (m : Nat) : Dk := ⟨upd (fun _ => ([], [])) 0 ([], s), false, m, 0, fun _ => 0⟩
def L1 (m : Nat) : Dk := ⟨fun _ => ([], []), false, m, 0, fun _ => 0⟩
theorem l_app (s : List UInt8) (m : Nat) (h : s.length ≤ 50000) : (L1 m).app 0 s = (0, L s m) := by
  have h2 : ¬ 16777216 < (L1 m).len 0 + s.length := by show ¬ 16777216 < 0 + 0 + s.length; omega
  have ha : (L1 m).add 0 s = (0, L s m) := by
    unfold Dk.add
    rw [if_neg (by simp [L1]), if_neg (by decide)]
    show (if 16777216 < (L1 m).len 0 + s.length then _ else _) = _
    rw [if_neg h2]
    simp [L1, L, Dk.set]
  unfold Dk.app
  rw [ha]
  simp [Dk.enter, L]
theorem l_flush (s : List UInt8) (m : Nat) : (L s (m + 1)).flush 0 = (13, L s m) := by
  simp [Dk.flush, Dk.flushed, Dk.enter, L, isF]
theorem l_flush0 (s : List UInt8) : (L s 0).flush 0 = (0, U (upd (fun _ => ([], [])) 0 (s, []))) := by
  have e : upd (upd (fun _ => (([], []) : List UInt8 × List UInt8)) 0 ([], s)) 0 (s, []) = upd (fun _ => ([], [])) 0 (s, []) := by
    funext i
    unfold upd
    split <;> rfl
  simp [Dk.flush, Dk.flushed, Dk.enter, L, isF, Dk.set, Dk.all, U, upd_same, e]
theorem l_read (s : List UInt8) (m : Nat) : (((L s m).fall (kf [])).start).read 0 = ([], 0) := by
  simp [Dk.fall, Dk.crash, Dk.start, Dk.read, L, isF, Dk.all, upd_same, kf]
theorem u_read0 (s : List UInt8) : (((U (upd (fun _ => ([], [])) 0 (s, []))).fall (kf [])).start).read 0 = (s, 0) := by
  simp [Dk.fall, Dk.crash, Dk.start, Dk.read, U, isF, Dk.all, upd_same, kf]
section
variable {W w : World} {b : Nat} {s : List UInt8} {m : Nat} {Q : World → (Nat → Prop) → Prop}
theorem q_lose (h : Own W w b Dk.new) (n : Int) (hn : n ≤ 20) : Calls Try.prog 33 #[.pointer (some ⟨b, 0, none⟩), .int .i64 n] w fun e w' => e = .returned (.tuple #[]) ∧ Own W w' b (L1 n.toNat) := lose_own h n (by omega)
theorem q_app (h : Own W w b (L1 m)) (hs : s.length ≤ 50000) : Calls Try.prog 15 #[.pointer (some ⟨b, 0, none⟩), .int .i64 0, .string (mk s)] w fun e w' => e = .returned (.int .i64 0) ∧ Own W w' b (L s m) := by
  have := app_own h 0 (mk s)
  rw [ls_mk, l_app s m hs] at this
  exact this
theorem q_flush (h : Par W w (HasP b (L s (m + 1))) Q) (hQ : Stab Q) : Calls Try.prog 30 #[.pointer (some ⟨b, 0, none⟩), .int .i64 0] w fun e w' => e = .returned (.int .i64 13) ∧ Par W w' (HasP b (L s m)) Q := by
  have := par_flush h hQ 0
  rw [l_flush] at this
  exact this
theorem q_flush0 (h : Own W w b (L s 0)) : Calls Try.prog 30 #[.pointer (some ⟨b, 0, none⟩), .int .i64 0] w fun e w' => e = .returned (.int .i64 0) ∧ Own W w' b (U (upd (fun _ => ([], [])) 0 (s, []))) := by
  have := flush_own h 0
  rw [l_flush0] at this
  exact this
theorem q_read (h : Par W w (HasP b (((L s m).fall (kf [])).start)) Q) : Calls Try.prog 26 #[.pointer (some ⟨b, 0, none⟩), .int .i64 0] w fun e w' => e = .returned (.tuple #[.string ⟨#[]⟩, .int .i64 0]) ∧ w' = w := by
  have := par_read h 0
  rw [l_read] at this
  exact this
theorem q_read0 (h : Own W w b (((U (upd (fun _ => ([], [])) 0 (s, []))).fall (kf [])).start)) : Calls Try.prog 26 #[.pointer (some ⟨b, 0, none⟩), .int .i64 0] w fun e w' => e = .returned (.tuple #[.string (mk s), .int .i64 0]) ∧ w' = w := by
  have := read_own h 0
  rw [u_read0] at this
  exact this
end
set_option maxRecDepth 100000 in
set_option maxHeartbeats 4000000 in
theorem loses_walk (s : List UInt8) (n : Int) (W : World) :
    Calls Try.prog 7 #[.string (mk s), .int .i64 n] W fun e w' => e = .returned (.bool true) ∧ Below W.heap.size W w' := by
  have s1 : (mk s).size = s.length := rfl
  by_cases hs : s.length ≤ 50000
  · have i1 : decide ((50000 : Int) < (s.length : Int)) = false := by simp; omega
    have i1' : decide (50000 < s.length) = false := by simp; omega
    by_cases hn : n ≤ 20
    · have i2 : decide ((20 : Int) < n) = false := by simp; omega
      go_enter Try.func7, Try.ntmps7
      go_wp2_with (first
        | (go_at_call 15; have X := H1; clear X; refine (q_app H1.out hs).mono ?_; rintro e v4 ⟨rfl, h⟩; have H2 := Lib.hid h; clear h)
        | (go_at_call 33; have X := H0; clear X; refine (q_lose H0.out n hn).mono ?_; rintro e v3 ⟨rfl, h⟩; have H1 := Lib.hid h; clear h)
        | (go_at_call 10; have X := HB; clear X; refine (new_own W v1 HB.out).mono ?_; rintro e v2 ⟨rfl, h⟩; have H0 := Lib.hid h; clear h)
        | (go_at_call 9; refine (small_any _).mono ?_; rintro e v1 ⟨rfl, h⟩; have HB := Lib.hid h; clear h))
      go_loopw [7] (fun i wr => ∃ k : Nat, k ≤ n.toNat ∧ i = .int .i64 (k : Int) ∧ Own W wr v1.heap.size (L s (n.toNat - k))) (fun i _ => n.toNat - (intOf i).toNat)
      case atStart => exact ⟨0, by omega, rfl, H2.out⟩
      case round =>
        obtain ⟨k, hk, rfl, hO⟩ := hrel
        have HO := Lib.hid hO
        clear hO
        by_cases hlt : (k : Int) < n
        · have j1 : decide ((k : Int) < n) = true := by simp; omega
          have hm : n.toNat - k = (n.toNat - (k + 1)) + 1 := by omega
          rw [hm] at HO
          have W1 : IntKind.i64.wrap ((k : Int) + 1) = (k : Int) + 1 := IntWalk.i64_in _ (by omega)
          clear hm
          go_wp2_with (first
            | (go_at_call 26; have X := P5; clear X; refine (q_read P5.out.symm).mono ?_; rintro e u6 ⟨rfl, hq⟩; have P6 := Lib.hid (hq ▸ P5.out); clear hq)
            | (go_at_call 24; have X := P4; clear X; refine (par_start P4.out.symm (stab_has _ _)).mono ?_; rintro e u5 ⟨rfl, h⟩; have P5 := Lib.hid h.symm; clear h)
            | (go_at_call 16; have X := P3; clear X; refine (par_fall0 P3.out.symm (stab_has _ _)).mono ?_; rintro e u4 ⟨rfl, h⟩; have P4 := Lib.hid h.symm; clear h)
            | (go_at_call 30; have X := P2; clear X; refine (q_flush P2.out.symm (stab_has _ _)).mono ?_; rintro e u3 ⟨rfl, h⟩; have P3 := Lib.hid h.symm; clear h)
            | (go_at_call 30; have X := P1; clear X; refine (q_flush P1.out (stab_has _ _)).mono ?_; rintro e u2 ⟨rfl, h⟩; have P2 := Lib.hid h; clear h)
            | (go_at_call 14; refine (two_copy HO.out).mono ?_; rintro e u1 ⟨rfl, h⟩; have P1 := Lib.hid h; clear h))
          go_roundw
          case rel => exact ⟨k + 1, by omega, by go_num, P6.out.own⟩
          case measure => simp [intOf]; omega
        · have j1 : decide ((k : Int) < n) = false := by simp; omega
          have hm : n.toNat - k = 0 := by omega
          rw [hm] at HO
          clear hm
          go_wp2_with (first
            | (go_at_call 26; have X := P3; clear X; refine (q_read0 P3.out).mono ?_; rintro e u4 ⟨rfl, hq⟩; have P4 := Lib.hid (hq ▸ P3.out); clear hq)
            | (go_at_call 24; have X := P2; clear X; refine (start_own P2.out).mono ?_; rintro e u3 ⟨rfl, h⟩; have P3 := Lib.hid h; clear h)
            | (go_at_call 16; have X := P1; clear X; refine (fall0_own P1.out).mono ?_; rintro e u2 ⟨rfl, h⟩; have P2 := Lib.hid h; clear h)
            | (go_at_call 30; refine (q_flush0 HO.out).mono ?_; rintro e u1 ⟨rfl, h⟩; have P1 := Lib.hid h; clear h))
          go_ret
          exact ⟨rfl, P4.out.below⟩
    · have i2 : decide ((20 : Int) < n) = true := by simp; omega
      go_enter Try.func7, Try.ntmps7
      go_wp2_with (first
        | (go_at_call 10; have X := HB; clear X; refine (new_own W v1 HB.out).mono ?_; rintro e v2 ⟨rfl, h⟩; have H0 := Lib.hid h; clear h)
        | (go_at_call 9; refine (small_any _).mono ?_; rintro e v1 ⟨rfl, h⟩; have HB := Lib.hid h; clear h))
      go_ret
      exact ⟨rfl, H0.out.below⟩
  · have i1 : decide ((50000 : Int) < (s.length : Int)) = true := by simp; omega
    have i1' : decide (50000 < s.length) = true := by simp; omega
    go_enter Try.func7, Try.ntmps7
    go_wp2_with (first
      | (go_at_call 10; have X := HB; clear X; refine (new_own W v1 HB.out).mono ?_; rintro e v2 ⟨rfl, h⟩; have H0 := Lib.hid h; clear h)
      | (go_at_call 9; refine (small_any _).mono ?_; rintro e v1 ⟨rfl, h⟩; have HB := Lib.hid h; clear h))
    go_ret
    exact ⟨rfl, H0.out.below⟩
end Go.Proofs.Ytokoccffkogamaa
