/-
  DiskArms: the walk.
-/
import Derived.Test.YtokoccffkogamaaDown
namespace Go.Proofs.Ytokoccffkogamaa
open Go.RowKit
def strs (xs : List (List UInt8)) : List Value := xs.map fun l => .string (mk l)
theorem join_mk (a b : List UInt8) : mk a ++ mk b = mk (a ++ b) := by
  apply ls_inj
  show (mk a ++ mk b).data.toList = a ++ b
  rw [ByteArray.data_append, Array.toList_append]
  rfl
def totS (l : List (List UInt8)) : Nat := (l.map List.length).sum
theorem totS_snoc (l : List (List UInt8)) (k : Nat) (h : k < l.length) : totS (l.take (k + 1)) = totS (l.take k) + l[k].length := by
  unfold totS
  rw [List.take_succ_eq_append_getElem h, List.map_append, List.sum_append]
  simp
theorem totS_le (l : List (List UInt8)) (h : ∀ a ∈ l, a.length ≤ 140737488351232) : totS l ≤ l.length * 140737488351232 := by
  induction l with
  | nil => simp [totS]
  | cons a r ih =>
    have h1 := h a (by simp)
    have h2 := ih (fun b hb => h b (by simp [hb]))
    simp only [totS, List.map_cons, List.sum_cons, List.length_cons] at h2 ⊢
    omega
theorem totS_mono (l : List (List UInt8)) (k : Nat) : totS (l.take k) ≤ totS l := by
  have e : totS l = totS (l.take k) + totS (l.drop k) := by
    unfold totS
    rw [← List.sum_append, ← List.map_append, List.take_append_drop]
  omega
/-- Armed: m calls until the crash. -/
def V (sf rs : List UInt8) (m : Nat) (k : Nat → Int) : Dk := ⟨upd (fun _ => ([], [])) 0 (sf, rs), false, 0, m, k⟩
theorem upd_upd (x y : List UInt8 × List UInt8) : upd (upd (fun _ => (([], []) : List UInt8 × List UInt8)) 0 x) 0 y = upd (fun _ => ([], [])) 0 y := by
  funext i
  unfold upd
  split <;> rfl
theorem v_add (sf rs s : List UInt8) (m : Nat) (k : Nat → Int) (h : sf.length + rs.length + s.length ≤ 20000) : (V sf rs m k).add 0 s = (0, V sf (rs ++ s) m k) := by
  unfold Dk.add
  rw [if_neg (by simp [V]), if_neg (by decide)]
  show (if 16777216 < (V sf rs m k).len 0 + s.length then _ else _) = _
  rw [if_neg (by show ¬ 16777216 < ((upd (fun _ => (([], []) : List UInt8 × List UInt8)) 0 (sf, rs)) 0).1.length + ((upd (fun _ => (([], []) : List UInt8 × List UInt8)) 0 (sf, rs)) 0).2.length + s.length; simp only [upd_same]; omega)]
  simp [V, Dk.set, upd_same, upd_upd]
theorem v_app (sf rs s : List UInt8) (m : Nat) (k : Nat → Int) (h : sf.length + rs.length + s.length ≤ 20000) : (V sf rs (m + 2) k).app 0 s = (0, V sf (rs ++ s) (m + 1) k) := by
  unfold Dk.app
  rw [v_add sf rs s _ k h]
  simp [Dk.enter, V]
theorem v_app1 (sf rs s : List UInt8) (k : Nat → Int) (h : sf.length + rs.length + s.length ≤ 20000) : (V sf rs 1 k).app 0 s = (12, (V sf (rs ++ s) 1 k).crash k) := by
  unfold Dk.app
  rw [v_add sf rs s _ k h]
  simp [Dk.enter, V]
theorem v_flush (sf rs : List UInt8) (m : Nat) (k : Nat → Int) : (V sf rs (m + 2) k).flush 0 = (0, V (sf ++ rs) [] (m + 1) k) := by
  simp [Dk.flush, Dk.flushed, Dk.enter, V, isF, Dk.set, Dk.all, upd_same, upd_upd]
theorem v_flush1 (sf rs : List UInt8) (k : Nat → Int) : (V sf rs 1 k).flush 0 = (12, (V sf rs 1 k).crash k) := by
  simp [Dk.flush, Dk.enter, V]
theorem v_read (sf rs : List UInt8) (m : Nat) (k : Nat → Int) : (V sf rs m k).read 0 = (sf ++ rs, 0) := by
  simp [Dk.read, V, isF, Dk.all, upd_same]
theorem v_read1 (sf rs : List UInt8) (k : Nat → Int) : (((V sf rs 1 k).crash k).start).read 0 = (sf ++ rs.take (k 0).toNat, 0) := by
  simp [Dk.read, V, isF, Dk.all, upd_same, Dk.crash, Dk.start]
theorem tm2 (q : Nat) : (q : Int).tmod 2 = ((q % 2 : Nat) : Int) := by
  rw [Int.tmod_eq_emod_of_nonneg (by omega)]
  omega
section
variable {W w : World} {b : Nat} {sf rs s : List UInt8} {m : Nat} {k : Nat → Int}
theorem a_arm (h : Own W w b Dk.new) (n keep : Int) (hn : n ≤ 100) : Calls Try.prog 29 #[.pointer (some ⟨b, 0, none⟩), .int .i64 n, .slice (some ⟨w.heap.size, 0, none⟩) 1 1] (w.alloc (.cells #[.int .i64 keep] 3)) fun e w' => e = .returned (.tuple #[]) ∧ Own W w' b (V [] [] n.toNat (kf [keep])) := by
  have hb := h.blt
  have := arm_own (h.alloc (.cells #[.int .i64 keep] 3)) n (by omega) (some ⟨w.heap.size, 0, none⟩) 1 [keep] (row_lit w [keep]) (fun _ a ha => by cases ha; show w.heap.size ≠ b; omega)
  refine this.mono fun e w' hh => ⟨hh.1, ?_⟩
  have e : Dk.new.arm n (kf [keep]) = V [] [] n.toNat (kf [keep]) := by
    unfold Dk.arm Dk.new V
    simp only [Dk.mk.injEq, and_true]
    funext i
    unfold upd
    split <;> rfl
  rw [← e]
  exact hh.2
theorem a_app (h : Own W w b (V sf rs (m + 2) k)) (hs : sf.length + rs.length + s.length ≤ 20000) : Calls Try.prog 15 #[.pointer (some ⟨b, 0, none⟩), .int .i64 0, .string (mk s)] w fun e w' => e = .returned (.int .i64 0) ∧ Own W w' b (V sf (rs ++ s) (m + 1) k) := by
  have := app_own h 0 (mk s)
  rw [ls_mk, v_app sf rs s m k hs] at this
  exact this
theorem a_app1 (h : Own W w b (V sf rs 1 k)) (hs : sf.length + rs.length + s.length ≤ 20000) : Calls Try.prog 15 #[.pointer (some ⟨b, 0, none⟩), .int .i64 0, .string (mk s)] w fun e w' => e = .returned (.int .i64 12) ∧ Own W w' b ((V sf (rs ++ s) 1 k).crash k) := by
  have := app_own h 0 (mk s)
  rw [ls_mk, v_app1 sf rs s k hs] at this
  exact this
theorem a_flush (h : Own W w b (V sf rs (m + 2) k)) : Calls Try.prog 30 #[.pointer (some ⟨b, 0, none⟩), .int .i64 0] w fun e w' => e = .returned (.int .i64 0) ∧ Own W w' b (V (sf ++ rs) [] (m + 1) k) := by
  have := flush_own h 0
  rw [v_flush] at this
  exact this
theorem a_flush1 (h : Own W w b (V sf rs 1 k)) : Calls Try.prog 30 #[.pointer (some ⟨b, 0, none⟩), .int .i64 0] w fun e w' => e = .returned (.int .i64 12) ∧ Own W w' b ((V sf rs 1 k).crash k) := by
  have := flush_own h 0
  rw [v_flush1] at this
  exact this
theorem a_down (h : Own W w b (V sf rs m k)) : Calls Try.prog 20 #[.pointer (some ⟨b, 0, none⟩)] w fun e w' => e = .returned (.bool false) ∧ w' = w := down_own h
theorem a_down1 (h : Own W w b ((V sf rs 1 k).crash k)) : Calls Try.prog 20 #[.pointer (some ⟨b, 0, none⟩)] w fun e w' => e = .returned (.bool true) ∧ w' = w := down_own h
theorem a_read (h : Own W w b (V sf rs m k)) : Calls Try.prog 26 #[.pointer (some ⟨b, 0, none⟩), .int .i64 0] w fun e w' => e = .returned (.tuple #[.string (mk (sf ++ rs)), .int .i64 0]) ∧ w' = w := by
  have := read_own h 0
  rw [v_read] at this
  exact this
theorem a_read1 (h : Own W w b (((V sf rs 1 k).crash k).start)) {x : List UInt8} (hx : sf ++ rs.take (k 0).toNat = x) : Calls Try.prog 26 #[.pointer (some ⟨b, 0, none⟩), .int .i64 0] w fun e w' => e = .returned (.tuple #[.string (mk x), .int .i64 0]) ∧ w' = w := by
  have := read_own h 0
  rw [v_read1, hx] at this
  exact this
end
set_option maxRecDepth 100000 in
set_option maxHeartbeats 8000000 in
theorem arms_walk (A : Option Addr) (c : Nat) (l : List (List UInt8)) (n keep : Int) (W : World) (h : Row W W.heap.size A (strs l)) (hl : l.length < 4611686018427387904) (hs : ∀ s ∈ l, s.length ≤ 140737488351232) :
    Calls Try.prog 8 #[.slice A l.length c, .int .i64 n, .int .i64 keep] W fun e w' => e = .returned (.bool true) ∧ Below W.heap.size W w' := by
  have HA := Lib.hid h
  have HSZ := Lib.hid hs
  clear h hs
  go_enter Try.func8, Try.ntmps8
  go_wp2_with (first
    | (go_at_call 10; have X := HB; clear X; refine (new_own W v1 HB.out).mono ?_; rintro e v2 ⟨rfl, h⟩; have H0 := Lib.hid h; clear h)
    | (go_at_call 9; refine (small_any _).mono ?_; rintro e v1 ⟨rfl, h⟩; have HB := Lib.hid h; clear h))
  go_loopw [9, 10] (fun n i wr => ∃ (k : Nat) (z : Int), k ≤ l.length ∧ i = .int .i64 (k : Int) ∧ n = .int .i64 z ∧ (l.length ≤ 50 → z = (totS (l.take k) : Nat)) ∧ wr = v2) (fun _ i _ => l.length - (intOf i).toNat)
  case atStart => exact ⟨0, 0, by omega, rfl, rfl, fun _ => by simp [totS], rfl⟩
  case round =>
    obtain ⟨k, z, hk, rfl, rfl, hz, rfl⟩ := hrel
    by_cases hlt : k < l.length
    · have i1 : decide ((k : Int) < (l.length : Int)) = true := by simp; omega
      have i2 : (k : Int) < (l.length : Int) := by omega
      have W1 : IntKind.i64.wrap ((k : Int) + 1) = (k : Int) + 1 := IntWalk.i64_in _ (by omega)
      obtain ⟨s, hs⟩ : ∃ s, s = l[k] := ⟨_, rfl⟩
      obtain ⟨a, rfl, hab, hc⟩ := (HA.out.below H0.out.below) k (.string (mk s)) (by simp [strs, List.getElem?_eq_getElem hlt, hs])
      have s4 : (mk s).size = s.length := rfl
      have HZ : Hid (l.length ≤ 50 → wrap64 (z + (s.length : Int)) = (totS (l.take (k + 1)) : Nat)) := Lib.hid (fun h50 => by
        have e := totS_snoc l k hlt
        rw [← hs] at e
        have e2 := hz h50
        have b1 := totS_le (l.take k) (fun b hb => HSZ.out b (List.mem_of_mem_take hb))
        have b2 := HSZ.out l[k] (List.getElem_mem _)
        rw [← hs] at b2
        rw [List.length_take] at b1
        have b5 : totS (l.take k) ≤ 50 * 140737488351232 := Nat.le_trans b1 (Nat.mul_le_mul_right _ (by omega))
        rw [IntWalk.wrap64_in _ (by omega)]
        omega)
      clear hs hz hab
      go_wp2
      go_roundw
      case rel => exact ⟨k + 1, _, by omega, by go_num, rfl, HZ.out, trivial⟩
      case measure => simp [intOf]; omega
    · have i1 : decide ((k : Int) < (l.length : Int)) = false := by simp; omega
      have i2 : decide (k < l.length) = false := by simp; omega
      have hkl : k = l.length := by omega
      have hz' : l.length ≤ 50 → z = (totS l : Nat) := (fun h => by have := hz h; rw [hkl, List.take_length] at this; exact this)
      clear hz hkl hk hlt
      by_cases h50 : l.length ≤ 50
      · have z0 := hz' h50
        clear hz'
        have j1 : decide ((50 : Int) < (l.length : Int)) = false := by simp; omega
        have j1' : decide (50 < l.length) = false := by simp; omega
        by_cases hsum : totS l ≤ 20000
        · have j2 : decide ((20000 : Int) < z) = false := by simp; omega
          by_cases hn1 : n < 1
          · have j3 : decide (n < 1) = true := by simp; omega
            go_wp2
            go_ret
            exact ⟨rfl, H0.out.below⟩
          · have j3 : decide (n < 1) = false := by simp; omega
            by_cases hn2 : 100 < n
            · have j4 : decide (100 < n) = true := by simp; omega
              go_wp2
              go_ret
              exact ⟨rfl, H0.out.below⟩
            · have j4 : decide (100 < n) = false := by simp; omega
              obtain ⟨N, rfl⟩ := Int.eq_ofNat_of_zero_le (show 0 ≤ n by omega)
              have HN : Hid (1 ≤ N ∧ N ≤ 100) := Lib.hid (by omega)
              have HSUM := Lib.hid hsum
              clear hn1 hn2 hsum z0
              go_wp2_with (first
                | (go_at_call 29; refine (a_arm H0.out (N : Int) keep (by have := HN.out; omega)).mono ?_; rintro e v3 ⟨rfl, h⟩; have H1 := Lib.hid h; clear h))
              go_loopw [11, 12, 13, 14] (fun sv rv cv i wr => ∃ (q : Nat) (sf rs : List UInt8) (cnt : Nat), q ≤ l.length ∧ sv = .string (mk sf) ∧ rv = .string (mk rs) ∧ cv = .int .i64 (cnt : Int) ∧ i = .int .i64 (q : Int) ∧ sf.length + rs.length = totS (l.take q) ∧
                ((cnt < N ∧ Own W wr v1.heap.size (V sf rs (N - cnt) (kf [keep]))) ∨ (cnt = N ∧ Own W wr v1.heap.size ((V sf rs 1 (kf [keep])).crash (kf [keep]))))) (fun _ _ _ i _ => l.length - (intOf i).toNat)
              case atStart => exact ⟨0, [], [], 0, by omega, rfl, rfl, rfl, rfl, by simp [totS], .inl ⟨by have := HN.out; omega, by simpa using H1.out⟩⟩
              case round =>
                obtain ⟨q, sf, rs, cnt, hq, rfl, rfl, rfl, rfl, hlen, hst⟩ := hrel
                have htot := totS_mono l q
                have s1 : (mk sf).size = sf.length := rfl
                have s2 : (mk rs).size = rs.length := rfl
                have hcat : ¬ 9223372036854775807 < sf.length + rs.length := by have := HSUM.out; omega
                have HLEN := Lib.hid hlen
                have HTOT := Lib.hid htot
                rcases hst with ⟨hcn, hO⟩ | ⟨hcn, hO⟩
                · have HO := Lib.hid hO
                  have hb := hO.below
                  clear hO hlen htot
                  by_cases hq2 : q < l.length
                  · have k1 : decide ((q : Int) < (l.length : Int)) = true := by simp; omega
                    have k1' : decide (q < l.length) = true := by simp; omega
                    have k2 : (q : Int) < (l.length : Int) := by omega
                    have k3 : IntKind.i64.wrap ((q : Int) + 1) = (q : Int) + 1 := IntWalk.i64_in _ (by omega)
                    have k4 : IntKind.i64.wrap ((cnt : Int) + 1) = (cnt : Int) + 1 := IntWalk.i64_in _ (by have := HN.out; omega)
                    have k5 : IntKind.i64.wrap ((cnt : Int) + 1 + 1) = (cnt : Int) + 1 + 1 := IntWalk.i64_in _ (by have := HN.out; omega)
                    obtain ⟨s, hs⟩ : ∃ s, s = l[q] := ⟨_, rfl⟩
                    have CL : Hid (∀ w, Below W.heap.size W w → ∃ a, A = some a ∧ w.cell? (a.add q) = some (.string (mk s))) := Lib.hid (fun w hb => by
                      obtain ⟨a, h1, _, h3⟩ := (HA.out.below hb) q (.string (mk s)) (by simp [strs, List.getElem?_eq_getElem hq2, hs])
                      exact ⟨a, h1, h3⟩)
                    have hsn := totS_snoc l q hq2
                    rw [← hs] at hsn
                    have hmo := totS_mono l (q + 1)
                    have hfit : sf.length + rs.length + s.length ≤ 20000 := by have := HSUM.out; have := HLEN.out; omega
                    have HFIT := Lib.hid hfit
                    have HSN : Hid (sf.length + (rs ++ s).length = totS (l.take (q + 1))) := Lib.hid (by have := HLEN.out; rw [List.length_append]; omega)
                    have HSN2 : Hid ((sf ++ (rs ++ s)).length + ([] : List UInt8).length = totS (l.take (q + 1))) := Lib.hid (by have := HLEN.out; simp only [List.length_append, List.length_nil]; omega)
                    have s3 : (mk s).size = s.length := rfl
                    have hc1 : ¬ 9223372036854775807 < rs.length + s.length := by omega
                    have hc2 : ¬ 9223372036854775807 < sf.length + (rs.length + s.length) := by omega
                    have s5 : (mk (rs ++ s)).size = rs.length + s.length := by rw [size_mk, List.length_append]
                    have jm := join_mk rs s
                    have jm2 := join_mk sf (rs ++ s)
                    obtain ⟨a, rfl, hcell⟩ := CL.out _ hb
                    clear hs hsn hmo hfit hb
                    by_cases hm1 : N - cnt = 1
                    · rw [hm1] at HO
                      have e1 : ((cnt : Int) + 1 == (N : Int)) = true := by simp; omega
                      have e2 : decide ((cnt : Int) + 1 < (N : Int)) = false := by simp; omega
                      have HC : Hid (cnt + 1 = N) := Lib.hid (by omega)
                      clear hm1 hcn
                      rcases Nat.mod_two_eq_zero_or_one q with hpar | hpar
                      · have m1 : (q : Int).tmod 2 = 0 := by have := tm2 q; omega
                        have m2 : ((q : Int).tmod 2 == 1) = false := by rw [m1]; rfl
                        go_wp2_with (first
                          | (go_at_call 15; have X := Y0; clear X; refine (a_app1 Y0.out HFIT.out).mono ?_; rintro e u1 ⟨rfl, h⟩; have Y1 := Lib.hid h; obtain ⟨a9, e9, hcell⟩ := CL.out _ Y1.out.below; cases e9; clear h)
                          | (go_at_call 20; refine (a_down HO.out).mono ?_; rintro e u0 ⟨rfl, rfl⟩; have Y0 := HO))
                        go_roundw
                        case rel => exact ⟨q + 1, sf, rs ++ s, cnt + 1, by omega, rfl, rfl, by go_num, by go_num, HSN.out, .inr ⟨HC.out, Y1.out⟩⟩
                        case measure => simp [intOf]; omega
                      · have m1 : (q : Int).tmod 2 = 1 := by have := tm2 q; omega
                        have m2 : ((q : Int).tmod 2 == 1) = true := by rw [m1]; rfl
                        go_wp2_with (first
                          | (go_at_call 20; have X := Y1; clear X; refine (a_down1 Y1.out).mono ?_; rintro e u2 ⟨rfl, hq9⟩; have Y2 := Lib.hid (hq9 ▸ Y1.out); clear hq9)
                          | (go_at_call 15; have X := Y0; clear X; refine (a_app1 Y0.out HFIT.out).mono ?_; rintro e u1 ⟨rfl, h⟩; have Y1 := Lib.hid h; obtain ⟨a9, e9, hcell⟩ := CL.out _ Y1.out.below; cases e9; clear h)
                          | (go_at_call 20; refine (a_down HO.out).mono ?_; rintro e u0 ⟨rfl, rfl⟩; have Y0 := HO))
                        go_roundw
                        case rel => exact ⟨q + 1, sf, rs ++ s, cnt + 1, by omega, rfl, rfl, by go_num, by go_num, HSN.out, .inr ⟨HC.out, Y2.out⟩⟩
                        case measure => simp [intOf]; omega
                    · obtain ⟨m, hm⟩ : ∃ m, N - cnt = m + 2 := ⟨N - cnt - 2, by omega⟩
                      rw [hm] at HO
                      have e1 : ((cnt : Int) + 1 == (N : Int)) = false := by simp; omega
                      have e2 : decide ((cnt : Int) + 1 < (N : Int)) = true := by simp; omega
                      have HC : Hid (cnt + 1 < N ∧ N - (cnt + 1) = m + 1) := Lib.hid (by omega)
                      rcases Nat.mod_two_eq_zero_or_one q with hpar | hpar
                      · clear hm1 hcn hm
                        have m1 : (q : Int).tmod 2 = 0 := by have := tm2 q; omega
                        have m2 : ((q : Int).tmod 2 == 1) = false := by rw [m1]; rfl
                        go_wp2_with (first
                          | (go_at_call 15; have X := Y0; clear X; refine (a_app Y0.out HFIT.out).mono ?_; rintro e u1 ⟨rfl, h⟩; have Y1 := Lib.hid h; obtain ⟨a9, e9, hcell⟩ := CL.out _ Y1.out.below; cases e9; clear h)
                          | (go_at_call 20; refine (a_down HO.out).mono ?_; rintro e u0 ⟨rfl, rfl⟩; have Y0 := HO))
                        go_roundw
                        case rel => exact ⟨q + 1, sf, rs ++ s, cnt + 1, by omega, rfl, rfl, by go_num, by go_num, HSN.out, .inl ⟨HC.out.1, by rw [HC.out.2]; exact Y1.out⟩⟩
                        case measure => simp [intOf]; omega
                      · by_cases hm2 : m = 0
                        · have e3 : ((cnt : Int) + 1 + 1 == (N : Int)) = true := by simp; omega
                          have e4 : decide ((cnt : Int) + 1 + 1 < (N : Int)) = false := by simp; omega
                          have HC2 : Hid (cnt + 2 = N) := Lib.hid (by omega)
                          rw [hm2] at HO
                          clear hm1 hcn hm hm2 HC
                          have m1 : (q : Int).tmod 2 = 1 := by have := tm2 q; omega
                          have m2 : ((q : Int).tmod 2 == 1) = true := by rw [m1]; rfl
                          go_wp2_with (first
                            | (go_at_call 30; have X := Y2; clear X; refine (a_flush1 Y2.out).mono ?_; rintro e u3 ⟨rfl, h⟩; have Y3 := Lib.hid h; clear h)
                            | (go_at_call 20; have X := Y1; clear X; refine (a_down Y1.out).mono ?_; rintro e u2 ⟨rfl, hq9⟩; have Y2 := Lib.hid (hq9 ▸ Y1.out); clear hq9)
                            | (go_at_call 15; have X := Y0; clear X; refine (a_app (m := 0) Y0.out HFIT.out).mono ?_; rintro e u1 ⟨rfl, h⟩; have Y1 := Lib.hid h; obtain ⟨a9, e9, hcell⟩ := CL.out _ Y1.out.below; cases e9; clear h)
                            | (go_at_call 20; refine (a_down HO.out).mono ?_; rintro e u0 ⟨rfl, rfl⟩; have Y0 := HO))
                          go_roundw
                          case rel => exact ⟨q + 1, sf, rs ++ s, cnt + 2, by omega, rfl, rfl, by go_num, by go_num, HSN.out, .inr ⟨HC2.out, Y3.out⟩⟩
                          case measure => simp [intOf]; omega
                        · obtain ⟨m', rfl⟩ : ∃ m', m = m' + 1 := ⟨m - 1, by omega⟩
                          have e3 : ((cnt : Int) + 1 + 1 == (N : Int)) = false := by simp; omega
                          have e4 : decide ((cnt : Int) + 1 + 1 < (N : Int)) = true := by simp; omega
                          have HC2 : Hid (cnt + 2 < N ∧ N - (cnt + 2) = m' + 1) := Lib.hid (by omega)
                          clear hm1 hcn hm hm2 HC
                          have m1 : (q : Int).tmod 2 = 1 := by have := tm2 q; omega
                          have m2 : ((q : Int).tmod 2 == 1) = true := by rw [m1]; rfl
                          go_wp2_with (first
                            | (go_at_call 30; have X := Y2; clear X; refine (a_flush Y2.out).mono ?_; rintro e u3 ⟨rfl, h⟩; have Y3 := Lib.hid h; clear h)
                            | (go_at_call 20; have X := Y1; clear X; refine (a_down Y1.out).mono ?_; rintro e u2 ⟨rfl, hq9⟩; have Y2 := Lib.hid (hq9 ▸ Y1.out); clear hq9)
                            | (go_at_call 15; have X := Y0; clear X; refine (a_app Y0.out HFIT.out).mono ?_; rintro e u1 ⟨rfl, h⟩; have Y1 := Lib.hid h; obtain ⟨a9, e9, hcell⟩ := CL.out _ Y1.out.below; cases e9; clear h)
                            | (go_at_call 20; refine (a_down HO.out).mono ?_; rintro e u0 ⟨rfl, rfl⟩; have Y0 := HO))
                          go_roundw
                          case rel => exact ⟨q + 1, sf ++ (rs ++ s), [], cnt + 2, by omega, rfl, rfl, by go_num, by go_num, HSN2.out, .inl ⟨HC2.out.1, by rw [HC2.out.2]; exact Y3.out⟩⟩
                          case measure => simp [intOf]; omega
                  · have k1 : decide ((q : Int) < (l.length : Int)) = false := by simp; omega
                    have k1' : decide (q < l.length) = false := by simp; omega
                    have k2 : decide ((cnt : Int) < (N : Int)) = true := by simp; omega
                    have k2' : decide (cnt < N) = true := by simp; omega
                    have jm := join_mk sf rs
                    clear hb hcn
                    go_wp2_with (first
                      | (go_at_call 26; have X := Y0; clear X; refine (a_read Y0.out).mono ?_; rintro e u1 ⟨rfl, hq9⟩; have Y1 := Lib.hid (hq9 ▸ Y0.out); clear hq9)
                      | (go_at_call 20; refine (a_down HO.out).mono ?_; rintro e u0 ⟨rfl, rfl⟩; have Y0 := HO))
                    go_ret
                    exact ⟨rfl, Y1.out.below⟩
                · have HO := Lib.hid hO
                  have hrl : rs.length ≤ 20000 := by have := HSUM.out; omega
                  clear hO hlen htot hcn
                  by_cases hq2 : q < l.length
                  · have k1 : decide ((q : Int) < (l.length : Int)) = true := by simp; omega
                    have k1' : decide (q < l.length) = true := by simp; omega
                    by_cases hk0 : keep < 0
                    · have HX : Hid (sf ++ rs.take (kf [keep] 0).toNat = sf) := Lib.hid (by simp [kf, show keep.toNat = 0 by omega])
                      have y0 : (0 : Int) ≤ (rs.length : Int) := by omega
                      have y1 : ¬ (rs.length : Int) < 0 := by omega
                      have q0 : ¬ 9223372036854775807 < sf.length := by omega
                      go_wp2_with (first
                        | (go_at_call 26; have X := Y1; clear X; refine (a_read1 Y1.out HX.out).mono ?_; rintro e u2 ⟨rfl, hq9⟩; have Y2 := Lib.hid (hq9 ▸ Y1.out); clear hq9)
                        | (go_at_call 24; have X := Y0; clear X; refine (start_own Y0.out).mono ?_; rintro e u1 ⟨rfl, h⟩; have Y1 := Lib.hid h; clear h)
                        | (go_at_call 20; refine (a_down1 HO.out).mono ?_; rintro e u0 ⟨rfl, rfl⟩; have Y0 := HO))
                      go_ret
                      exact ⟨rfl, Y2.out.below⟩
                    · by_cases hk1 : (rs.length : Int) < keep
                      · have HX : Hid (sf ++ rs.take (kf [keep] 0).toNat = sf ++ rs) := Lib.hid (by rw [show kf [keep] 0 = keep by simp [kf], List.take_of_length_le (by omega)])
                        have ex : (mk rs).extract 0 rs.length = mk rs := by rw [extract_front, ls_mk, List.take_length]
                        have jm := join_mk sf rs
                        go_wp2_with (first
                          | (go_at_call 26; have X := Y1; clear X; refine (a_read1 Y1.out HX.out).mono ?_; rintro e u2 ⟨rfl, hq9⟩; have Y2 := Lib.hid (hq9 ▸ Y1.out); clear hq9)
                          | (go_at_call 24; have X := Y0; clear X; refine (start_own Y0.out).mono ?_; rintro e u1 ⟨rfl, h⟩; have Y1 := Lib.hid h; clear h)
                          | (go_at_call 20; refine (a_down1 HO.out).mono ?_; rintro e u0 ⟨rfl, rfl⟩; have Y0 := HO))
                        go_ret
                        exact ⟨rfl, Y2.out.below⟩
                      · have HX : Hid (sf ++ rs.take (kf [keep] 0).toNat = sf ++ rs.take keep.toNat) := Lib.hid (by simp [kf])
                        have z2 : keep ≤ (rs.length : Int) := by omega
                        have z3 : 0 ≤ keep := by omega
                        have z5 : keep.toNat ≤ rs.length := by omega
                        have ex : (mk rs).extract 0 keep.toNat = mk (rs.take keep.toNat) := by rw [extract_front, ls_mk]
                        have s6 : (mk (rs.take keep.toNat)).size = keep.toNat := by rw [size_mk, List.length_take]; omega
                        have q0 : ¬ 9223372036854775807 < sf.length + keep.toNat := by omega
                        have jm := join_mk sf (rs.take keep.toNat)
                        go_wp2_with (first
                          | (go_at_call 26; have X := Y1; clear X; refine (a_read1 Y1.out HX.out).mono ?_; rintro e u2 ⟨rfl, hq9⟩; have Y2 := Lib.hid (hq9 ▸ Y1.out); clear hq9)
                          | (go_at_call 24; have X := Y0; clear X; refine (start_own Y0.out).mono ?_; rintro e u1 ⟨rfl, h⟩; have Y1 := Lib.hid h; clear h)
                          | (go_at_call 20; refine (a_down1 HO.out).mono ?_; rintro e u0 ⟨rfl, rfl⟩; have Y0 := HO))
                        go_ret
                        exact ⟨rfl, Y2.out.below⟩
                  · have k1 : decide ((q : Int) < (l.length : Int)) = false := by simp; omega
                    have k1' : decide (q < l.length) = false := by simp; omega
                    by_cases hk0 : keep < 0
                    · have HX : Hid (sf ++ rs.take (kf [keep] 0).toNat = sf) := Lib.hid (by simp [kf, show keep.toNat = 0 by omega])
                      have y0 : (0 : Int) ≤ (rs.length : Int) := by omega
                      have y1 : ¬ (rs.length : Int) < 0 := by omega
                      have q0 : ¬ 9223372036854775807 < sf.length := by omega
                      go_wp2_with (first
                        | (go_at_call 26; have X := Y1; clear X; refine (a_read1 Y1.out HX.out).mono ?_; rintro e u2 ⟨rfl, hq9⟩; have Y2 := Lib.hid (hq9 ▸ Y1.out); clear hq9)
                        | (go_at_call 24; have X := Y0; clear X; refine (start_own Y0.out).mono ?_; rintro e u1 ⟨rfl, h⟩; have Y1 := Lib.hid h; clear h)
                        | (go_at_call 20; refine (a_down1 HO.out).mono ?_; rintro e u0 ⟨rfl, rfl⟩; have Y0 := HO))
                      go_ret
                      exact ⟨rfl, Y2.out.below⟩
                    · by_cases hk1 : (rs.length : Int) < keep
                      · have HX : Hid (sf ++ rs.take (kf [keep] 0).toNat = sf ++ rs) := Lib.hid (by rw [show kf [keep] 0 = keep by simp [kf], List.take_of_length_le (by omega)])
                        have ex : (mk rs).extract 0 rs.length = mk rs := by rw [extract_front, ls_mk, List.take_length]
                        have jm := join_mk sf rs
                        go_wp2_with (first
                          | (go_at_call 26; have X := Y1; clear X; refine (a_read1 Y1.out HX.out).mono ?_; rintro e u2 ⟨rfl, hq9⟩; have Y2 := Lib.hid (hq9 ▸ Y1.out); clear hq9)
                          | (go_at_call 24; have X := Y0; clear X; refine (start_own Y0.out).mono ?_; rintro e u1 ⟨rfl, h⟩; have Y1 := Lib.hid h; clear h)
                          | (go_at_call 20; refine (a_down1 HO.out).mono ?_; rintro e u0 ⟨rfl, rfl⟩; have Y0 := HO))
                        go_ret
                        exact ⟨rfl, Y2.out.below⟩
                      · have HX : Hid (sf ++ rs.take (kf [keep] 0).toNat = sf ++ rs.take keep.toNat) := Lib.hid (by simp [kf])
                        have z2 : keep ≤ (rs.length : Int) := by omega
                        have z3 : 0 ≤ keep := by omega
                        have z5 : keep.toNat ≤ rs.length := by omega
                        have ex : (mk rs).extract 0 keep.toNat = mk (rs.take keep.toNat) := by rw [extract_front, ls_mk]
                        have s6 : (mk (rs.take keep.toNat)).size = keep.toNat := by rw [size_mk, List.length_take]; omega
                        have q0 : ¬ 9223372036854775807 < sf.length + keep.toNat := by omega
                        have jm := join_mk sf (rs.take keep.toNat)
                        go_wp2_with (first
                          | (go_at_call 26; have X := Y1; clear X; refine (a_read1 Y1.out HX.out).mono ?_; rintro e u2 ⟨rfl, hq9⟩; have Y2 := Lib.hid (hq9 ▸ Y1.out); clear hq9)
                          | (go_at_call 24; have X := Y0; clear X; refine (start_own Y0.out).mono ?_; rintro e u1 ⟨rfl, h⟩; have Y1 := Lib.hid h; clear h)
                          | (go_at_call 20; refine (a_down1 HO.out).mono ?_; rintro e u0 ⟨rfl, rfl⟩; have Y0 := HO))
                        go_ret
                        exact ⟨rfl, Y2.out.below⟩
        · have j2 : decide ((20000 : Int) < z) = true := by simp; omega
          go_wp2
          go_ret
          exact ⟨rfl, H0.out.below⟩
      · have j1 : decide ((50 : Int) < (l.length : Int)) = true := by simp; omega
        have j1' : decide (50 < l.length) = true := by simp; omega
        go_wp2
        go_ret
        exact ⟨rfl, H0.out.below⟩
end Go.Proofs.Ytokoccffkogamaa
