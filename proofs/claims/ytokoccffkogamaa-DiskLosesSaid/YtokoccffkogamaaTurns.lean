/-
  DiskTurns: the walk.
-/
import Derived.Test.YtokoccffkogamaaBase
namespace Go.Proofs.Ytokoccffkogamaa
open Go.RowKit
/-- A machine that is up, with no lost flush and no scheduled crash. -/
def U (fs : Nat → List UInt8 × List UInt8) : Dk := ⟨fs, false, 0, 0, fun _ => 0⟩
theorem mkl' (l : List UInt8) : (mk l).toList = l := by
  rw [ByteArray.toList_eq]
  rfl
theorem u_new : Dk.new = U (fun _ => ([], [])) := rfl
theorem isF_nat {f : Nat} (hf : f < 8) : isF (f : Int) = true := (isF_iff _).2 ⟨by omega, by omega⟩
theorem u_app (fs : Nat → List UInt8 × List UInt8) {f : Nat} (hf : f < 8) (s : List UInt8) (h : (fs f).1.length + (fs f).2.length + s.length ≤ 16777216) : (U fs).app (f : Int) s = (0, U (upd fs f ((fs f).1, (fs f).2 ++ s))) := by
  have h2 : ¬ 16777216 < (U fs).len f + s.length := by show ¬ 16777216 < (fs f).1.length + (fs f).2.length + s.length; omega
  have ha : (U fs).add (f : Int) s = (0, U (upd fs f ((fs f).1, (fs f).2 ++ s))) := by
    unfold Dk.add
    rw [if_neg (by simp [U]), if_neg (by simp [isF_nat hf]), Int.toNat_natCast, if_neg h2]
    rfl
  unfold Dk.app
  rw [ha]
  simp [Dk.enter, U]
theorem u_flush (fs : Nat → List UInt8 × List UInt8) {f : Nat} (hf : f < 8) : (U fs).flush (f : Int) = (0, U (upd fs f ((fs f).1 ++ (fs f).2, []))) := by
  simp [Dk.flush, Dk.flushed, isF_nat hf, Dk.enter, U, Dk.set, Dk.all]
theorem u_turn (fs : Nat → List UInt8 × List UInt8) {f g : Nat} (hf : f < 8) (hg : g < 8) (hne : f ≠ g) (h : (fs g).2 = []) : (U fs).turn (f : Int) (g : Int) = (0, U (upd (upd fs f (fs g)) g ([], []))) := by
  have h1 : ¬ (f : Int) = (g : Int) := by omega
  simp [Dk.turn, Dk.turned, isF_nat hf, isF_nat hg, Dk.enter, U, Dk.set, h, h1]
theorem u_turn_no (fs : Nat → List UInt8 × List UInt8) {f g : Nat} (hf : f < 8) (hg : g < 8) (hne : f ≠ g) (h : ¬ (fs g).2 = []) : (U fs).turn (f : Int) (g : Int) = (16, U fs) := by
  have h1 : ¬ (f : Int) = (g : Int) := by omega
  simp [Dk.turn, Dk.turned, isF_nat hf, isF_nat hg, Dk.enter, U, h, h1]
theorem u_fall (fs : Nat → List UInt8 × List UInt8) (k : Nat → Int) : ((U fs).fall k).start = U (fun i => ((fs i).1 ++ (fs i).2.take (k i).toNat, [])) := by
  simp [Dk.fall, Dk.crash, Dk.start, U]
theorem u_read (fs : Nat → List UInt8 × List UInt8) {f : Nat} (hf : f < 8) : (U fs).read (f : Int) = ((fs f).1 ++ (fs f).2, 0) := by
  simp [Dk.read, U, isF_nat hf, Dk.all]
theorem u_size (fs : Nat → List UInt8 × List UInt8) {f : Nat} (hf : f < 8) : (U fs).size (f : Int) = (fs f).1.length + (fs f).2.length := by
  simp [Dk.size, U, isF_nat hf, Dk.len]
section
variable {W w : World} {b : Nat} {fs : Nat → List UInt8 × List UInt8}
theorem uo_app (h : Own W w b (U fs)) {f : Nat} (hf : f < 8) (s : ByteArray) (hs : (fs f).1.length + (fs f).2.length + s.size ≤ 16777216) : Calls Try.prog 15 #[.pointer (some ⟨b, 0, none⟩), .int .i64 (f : Int), .string s] w fun e w' => e = .returned (.int .i64 0) ∧ Own W w' b (U (upd fs f ((fs f).1, (fs f).2 ++ ls s))) := by
  have := app_own h (f : Int) s
  rw [u_app fs hf (ls s) (by rw [ls_length]; exact hs)] at this
  exact this
theorem uo_flush (h : Own W w b (U fs)) {f : Nat} (hf : f < 8) : Calls Try.prog 30 #[.pointer (some ⟨b, 0, none⟩), .int .i64 (f : Int)] w fun e w' => e = .returned (.int .i64 0) ∧ Own W w' b (U (upd fs f ((fs f).1 ++ (fs f).2, []))) := by
  have := flush_own h (f : Int)
  rw [u_flush fs hf] at this
  exact this
theorem uo_turn (h : Own W w b (U fs)) {f g : Nat} (hf : f < 8) (hg : g < 8) (hne : f ≠ g) (h2 : (fs g).2 = []) : Calls Try.prog 32 #[.pointer (some ⟨b, 0, none⟩), .int .i64 (f : Int), .int .i64 (g : Int)] w fun e w' => e = .returned (.int .i64 0) ∧ Own W w' b (U (upd (upd fs f (fs g)) g ([], []))) := by
  have := turn_own h (f : Int) (g : Int)
  rw [u_turn fs hf hg hne h2] at this
  exact this
theorem uo_turn_no (h : Own W w b (U fs)) {f g : Nat} (hf : f < 8) (hg : g < 8) (hne : f ≠ g) (h2 : ¬ (fs g).2 = []) : Calls Try.prog 32 #[.pointer (some ⟨b, 0, none⟩), .int .i64 (f : Int), .int .i64 (g : Int)] w fun e w' => e = .returned (.int .i64 16) ∧ Own W w' b (U fs) := by
  have := turn_own h (f : Int) (g : Int)
  rw [u_turn_no fs hf hg hne h2] at this
  exact this
theorem uo_read (h : Own W w b (U fs)) {f : Nat} (hf : f < 8) {x : List UInt8} (hx : (fs f).1 ++ (fs f).2 = x) : Calls Try.prog 26 #[.pointer (some ⟨b, 0, none⟩), .int .i64 (f : Int)] w fun e w' => e = .returned (.tuple #[.string (mk x), .int .i64 0]) ∧ w' = w := by
  have := read_own h (f : Int)
  rw [u_read fs hf, hx] at this
  exact this
theorem uo_size (h : Own W w b (U fs)) {f : Nat} (hf : f < 8) {x : Nat} (hx : (fs f).1.length + (fs f).2.length = x) : Calls Try.prog 22 #[.pointer (some ⟨b, 0, none⟩), .int .i64 (f : Int)] w fun e w' => e = .returned (.int .i64 (x : Nat)) ∧ w' = w := by
  have := size_own h (f : Int)
  rw [u_size fs hf, hx] at this
  exact this
end
-- THE WALK
def t1 (s : List UInt8) : Nat → List UInt8 × List UInt8 := upd (fun _ => ([], [])) 3 ([], s)
def t2 (s : List UInt8) : Nat → List UInt8 × List UInt8 := upd (t1 s) 3 (s, [])
def t3 (s t : List UInt8) : Nat → List UInt8 × List UInt8 := upd (t2 s) 4 ([], t)
def t4 (s t : List UInt8) : Nat → List UInt8 × List UInt8 := upd (t3 s t) 4 (t, [])
def crashF (fs : Nat → List UInt8 × List UInt8) (k : Nat → Int) : Nat → List UInt8 × List UInt8 := fun i => ((fs i).1 ++ (fs i).2.take (k i).toNat, [])
def swapF (fs : Nat → List UInt8 × List UInt8) : Nat → List UInt8 × List UInt8 := upd (upd fs 3 (fs 4)) 4 ([], [])
section
variable {W w : World} {b : Nat} {s t : List UInt8}
theorem k1 (h : Own W w b Dk.new) (hs : s.length ≤ 50000) : Calls Try.prog 15 #[.pointer (some ⟨b, 0, none⟩), .int .i64 3, .string (mk s)] w fun e w' => e = .returned (.int .i64 0) ∧ Own W w' b (U (t1 s)) :=
  uo_app (fs := fun _ => ([], [])) h (f := 3) (by omega) (mk s) (by simp [size_mk]; omega)
theorem k2 (h : Own W w b (U (t1 s))) : Calls Try.prog 30 #[.pointer (some ⟨b, 0, none⟩), .int .i64 3] w fun e w' => e = .returned (.int .i64 0) ∧ Own W w' b (U (t2 s)) := by
  have := uo_flush h (f := 3) (by omega)
  simpa [t2, t1, upd_same] using this
theorem k3 (h : Own W w b (U (t2 s))) (ht : t.length ≤ 50000) : Calls Try.prog 15 #[.pointer (some ⟨b, 0, none⟩), .int .i64 4, .string (mk t)] w fun e w' => e = .returned (.int .i64 0) ∧ Own W w' b (U (t3 s t)) := by
  have := uo_app h (f := 4) (by omega) (mk t) (by simp [size_mk, t2, t1, upd]; omega)
  simpa [t3, t2, t1, upd, ls_mk] using this
theorem k4 (h : Own W w b (U (t3 s t))) : Calls Try.prog 30 #[.pointer (some ⟨b, 0, none⟩), .int .i64 4] w fun e w' => e = .returned (.int .i64 0) ∧ Own W w' b (U (t4 s t)) := by
  have := uo_flush h (f := 4) (by omega)
  simpa [t4, t3, upd_same] using this
theorem k5 {fs : Nat → List UInt8 × List UInt8} (h : Own W w b (U fs)) (h4 : (fs 4).2 = []) : Calls Try.prog 32 #[.pointer (some ⟨b, 0, none⟩), .int .i64 3, .int .i64 4] w fun e w' => e = .returned (.int .i64 0) ∧ Own W w' b (U (swapF fs)) :=
  uo_turn h (f := 3) (g := 4) (by omega) (by omega) (by omega) h4
theorem k6 {fs : Nat → List UInt8 × List UInt8} (h : Own W w b (U fs)) (h4 : ¬ (fs 4).2 = []) : Calls Try.prog 32 #[.pointer (some ⟨b, 0, none⟩), .int .i64 3, .int .i64 4] w fun e w' => e = .returned (.int .i64 16) ∧ Own W w' b (U fs) :=
  uo_turn_no h (f := 3) (g := 4) (by omega) (by omega) (by omega) h4
theorem k7 {fs : Nat → List UInt8 × List UInt8} (h : Own W w b (U fs)) {A : Option Addr} {c : Nat} {xs : List Int} (hk : Keep W W.heap.size A xs) : Calls Try.prog 16 #[.pointer (some ⟨b, 0, none⟩), .slice A xs.length c] w fun e w' => e = .returned (.tuple #[]) ∧ Own W w' b ((U fs).fall (kf xs)) :=
  fall_own h A c xs (hk.below h.below).row.at_
theorem k8 {fs : Nat → List UInt8 × List UInt8} {k : Nat → Int} (h : Own W w b ((U fs).fall k)) : Calls Try.prog 24 #[.pointer (some ⟨b, 0, none⟩)] w fun e w' => e = .returned (.tuple #[]) ∧ Own W w' b (U (crashF fs k)) := by
  have := start_own h
  rw [u_fall] at this
  exact this
end
set_option maxRecDepth 100000 in
set_option maxHeartbeats 4000000 in
theorem turns_walk (s t : List UInt8) (st : Int) (A : Option Addr) (c : Nat) (xs : List Int) (W : World) (hk : Keep W W.heap.size A xs) :
    Calls Try.prog 6 #[.string (mk s), .string (mk t), .int .i64 st, .slice A xs.length c] W fun e w' => e = .returned (.bool true) ∧ Below W.heap.size W w' := by
  have s1 : (mk s).size = s.length := rfl
  have s2 : (mk t).size = t.length := rfl
  have HK := Lib.hid hk
  have m0 : (mk []).toList.isEmpty = true := by rw [mkl']; rfl
  have m1 : (mk []).size = 0 := rfl
  clear hk
  by_cases hs : s.length ≤ 50000
  · have i1 : decide ((50000 : Int) < (s.length : Int)) = false := by simp; omega
    have i1' : decide (50000 < s.length) = false := by simp; omega
    by_cases ht : t.length ≤ 50000
    · have i2 : decide ((50000 : Int) < (t.length : Int)) = false := by simp; omega
      have i2' : decide (50000 < t.length) = false := by simp; omega
      by_cases h0 : st = 0
      · subst h0
        go_enter Try.func6, Try.ntmps6
        go_wp2_with (first
          | (go_at_call 26; have X := H8; clear X; refine (uo_read H8.out (f := 3) (by omega) (x := []) (by simp [crashF, swapF, t2, t1, upd])).mono ?_; rintro e v11 ⟨rfl, hq⟩; have H9 := Lib.hid (hq ▸ H8.out); clear hq)
          | (go_at_call 24; have X := H7; clear X; refine (k8 (fs := swapF (t2 s)) H7.out).mono ?_; rintro e v10 ⟨rfl, h⟩; have H8 := Lib.hid h; clear h)
          | (go_at_call 16; have X := H6; clear X; refine (k7 (fs := swapF (t2 s)) H6.out HK.out).mono ?_; rintro e v9 ⟨rfl, h⟩; have H7 := Lib.hid h; clear h)
          | (go_at_call 32; have X := H2; clear X; refine (k5 H2.out (by simp [t2, t1, upd])).mono ?_; rintro e v8 ⟨rfl, h⟩; have H6 := Lib.hid h; clear h)
          | (go_at_call 30; have X := H1; clear X; refine (k2 H1.out).mono ?_; rintro e v4 ⟨rfl, h⟩; have H2 := Lib.hid h; clear h)
          | (go_at_call 15; have X := H0; clear X; refine (k1 H0.out hs).mono ?_; rintro e v3 ⟨rfl, h⟩; have H1 := Lib.hid h; clear h)
          | (go_at_call 10; have X := HB; clear X; refine (new_own W v1 HB.out).mono ?_; rintro e v2 ⟨rfl, h⟩; have H0 := Lib.hid h; clear h)
          | (go_at_call 9; refine (small_any _).mono ?_; rintro e v1 ⟨rfl, h⟩; have HB := Lib.hid h; clear h))
        go_ret
        exact ⟨rfl, H9.out.below⟩
      · have j0 : (st == 0) = false := by simpa using h0
        by_cases h1 : st = 1
        · subst h1
          by_cases hn : t = []
          · subst hn
            clear s2 i2 i2'
            go_enter Try.func6, Try.ntmps6
            go_wp2_with (first
              | (go_at_call 22; have X := H9; clear X; refine (uo_size H9.out (f := 4) (by omega) (x := 0) (by simp [crashF, swapF, upd])).mono ?_; rintro e v12 ⟨rfl, hq⟩; have H10 := Lib.hid (hq ▸ H9.out); clear hq)
              | (go_at_call 26; have X := H8; clear X; refine (uo_read H8.out (f := 3) (by omega) (x := []) (by simp [crashF, swapF, t3, upd])).mono ?_; rintro e v11 ⟨rfl, hq⟩; have H9 := Lib.hid (hq ▸ H8.out); clear hq)
              | (go_at_call 24; have X := H7; clear X; refine (k8 (fs := swapF (t3 s [])) H7.out).mono ?_; rintro e v10 ⟨rfl, h⟩; have H8 := Lib.hid h; clear h)
              | (go_at_call 16; have X := H6; clear X; refine (k7 (fs := swapF (t3 s [])) H6.out HK.out).mono ?_; rintro e v9 ⟨rfl, h⟩; have H7 := Lib.hid h; clear h)
              | (go_at_call 32; have X := H3; clear X; refine (k5 H3.out (by simp [t3, upd])).mono ?_; rintro e v8 ⟨rfl, h⟩; have H6 := Lib.hid h; clear h)
              | (go_at_call 15; have X := H2; clear X; refine (k3 (t := []) H2.out ht).mono ?_; rintro e v5 ⟨rfl, h⟩; have H3 := Lib.hid h; clear h)
              | (go_at_call 30; have X := H1; clear X; refine (k2 H1.out).mono ?_; rintro e v4 ⟨rfl, h⟩; have H2 := Lib.hid h; clear h)
              | (go_at_call 15; have X := H0; clear X; refine (k1 H0.out hs).mono ?_; rintro e v3 ⟨rfl, h⟩; have H1 := Lib.hid h; clear h)
              | (go_at_call 10; have X := HB; clear X; refine (new_own W v1 HB.out).mono ?_; rintro e v2 ⟨rfl, h⟩; have H0 := Lib.hid h; clear h)
              | (go_at_call 9; refine (small_any _).mono ?_; rintro e v1 ⟨rfl, h⟩; have HB := Lib.hid h; clear h))
            go_ret
            exact ⟨rfl, H10.out.below⟩
          · have e1 : (mk t).toList.isEmpty = false := by rw [mkl']; simpa using hn
            have z1 : ((min (kf xs 4).toNat t.length : Nat) : Int) ≤ (t.length : Int) := by omega
            have z2 : decide (((min (kf xs 4).toNat t.length : Nat) : Int) ≤ (t.length : Int)) = true := by simp; omega
            have z3 : decide (min (kf xs 4).toNat t.length ≤ t.length) = true := by simp; omega
            go_enter Try.func6, Try.ntmps6
            go_wp2_with (first
              | (go_at_call 22; have X := H9; clear X; refine (uo_size H9.out (f := 4) (by omega) (x := min (kf xs 4).toNat t.length) (by simp [crashF, t3, upd])).mono ?_; rintro e v12 ⟨rfl, hq⟩; have H10 := Lib.hid (hq ▸ H9.out); clear hq)
              | (go_at_call 26; have X := H8; clear X; refine (uo_read H8.out (f := 3) (by omega) (x := s) (by simp [crashF, t3, t2, upd])).mono ?_; rintro e v11 ⟨rfl, hq⟩; have H9 := Lib.hid (hq ▸ H8.out); clear hq)
              | (go_at_call 24; have X := H7; clear X; refine (k8 (fs := t3 s t) H7.out).mono ?_; rintro e v10 ⟨rfl, h⟩; have H8 := Lib.hid h; clear h)
              | (go_at_call 16; have X := H6; clear X; refine (k7 (fs := t3 s t) H6.out HK.out).mono ?_; rintro e v9 ⟨rfl, h⟩; have H7 := Lib.hid h; clear h)
              | (go_at_call 32; have X := H3; clear X; refine (k6 H3.out (by simpa [t3, upd] using hn)).mono ?_; rintro e v8 ⟨rfl, h⟩; have H6 := Lib.hid h; clear h)
              | (go_at_call 15; have X := H2; clear X; refine (k3 (t := t) H2.out ht).mono ?_; rintro e v5 ⟨rfl, h⟩; have H3 := Lib.hid h; clear h)
              | (go_at_call 30; have X := H1; clear X; refine (k2 H1.out).mono ?_; rintro e v4 ⟨rfl, h⟩; have H2 := Lib.hid h; clear h)
              | (go_at_call 15; have X := H0; clear X; refine (k1 H0.out hs).mono ?_; rintro e v3 ⟨rfl, h⟩; have H1 := Lib.hid h; clear h)
              | (go_at_call 10; have X := HB; clear X; refine (new_own W v1 HB.out).mono ?_; rintro e v2 ⟨rfl, h⟩; have H0 := Lib.hid h; clear h)
              | (go_at_call 9; refine (small_any _).mono ?_; rintro e v1 ⟨rfl, h⟩; have HB := Lib.hid h; clear h))
            go_ret
            exact ⟨rfl, H10.out.below⟩
        · have j1 : (st == 1) = false := by simpa using h1
          go_enter Try.func6, Try.ntmps6
          go_wp2_with (first
            | (go_at_call 22; have X := H9; clear X; refine (uo_size H9.out (f := 4) (by omega) (x := 0) (by simp [crashF, swapF, upd])).mono ?_; rintro e v12 ⟨rfl, hq⟩; have H10 := Lib.hid (hq ▸ H9.out); clear hq)
            | (go_at_call 26; have X := H8; clear X; refine (uo_read H8.out (f := 3) (by omega) (x := t) (by simp [crashF, swapF, t4, upd])).mono ?_; rintro e v11 ⟨rfl, hq⟩; have H9 := Lib.hid (hq ▸ H8.out); clear hq)
            | (go_at_call 24; have X := H7; clear X; refine (k8 (fs := swapF (t4 s t)) H7.out).mono ?_; rintro e v10 ⟨rfl, h⟩; have H8 := Lib.hid h; clear h)
            | (go_at_call 16; have X := H6; clear X; refine (k7 (fs := swapF (t4 s t)) H6.out HK.out).mono ?_; rintro e v9 ⟨rfl, h⟩; have H7 := Lib.hid h; clear h)
            | (go_at_call 32; have X := H4; clear X; refine (k5 H4.out (by simp [t4, upd])).mono ?_; rintro e v8 ⟨rfl, h⟩; have H6 := Lib.hid h; clear h)
            | (go_at_call 30; have X := H3; clear X; refine (k4 H3.out).mono ?_; rintro e v6 ⟨rfl, h⟩; have H4 := Lib.hid h; clear h)
            | (go_at_call 15; have X := H2; clear X; refine (k3 (t := t) H2.out ht).mono ?_; rintro e v5 ⟨rfl, h⟩; have H3 := Lib.hid h; clear h)
            | (go_at_call 30; have X := H1; clear X; refine (k2 H1.out).mono ?_; rintro e v4 ⟨rfl, h⟩; have H2 := Lib.hid h; clear h)
            | (go_at_call 15; have X := H0; clear X; refine (k1 H0.out hs).mono ?_; rintro e v3 ⟨rfl, h⟩; have H1 := Lib.hid h; clear h)
            | (go_at_call 10; have X := HB; clear X; refine (new_own W v1 HB.out).mono ?_; rintro e v2 ⟨rfl, h⟩; have H0 := Lib.hid h; clear h)
            | (go_at_call 9; refine (small_any _).mono ?_; rintro e v1 ⟨rfl, h⟩; have HB := Lib.hid h; clear h))
          go_ret
          exact ⟨rfl, H10.out.below⟩
    · have i2 : decide ((50000 : Int) < (t.length : Int)) = true := by simp; omega
      have i2' : decide (50000 < t.length) = true := by simp; omega
      go_enter Try.func6, Try.ntmps6
      go_wp2_with (first
        | (go_at_call 10; have X := HB; clear X; refine (new_own W v1 HB.out).mono ?_; rintro e v2 ⟨rfl, h⟩; have H0 := Lib.hid h; clear h)
        | (go_at_call 9; refine (small_any _).mono ?_; rintro e v1 ⟨rfl, h⟩; have HB := Lib.hid h; clear h))
      go_ret
      exact ⟨rfl, H0.out.below⟩
  · have i1 : decide ((50000 : Int) < (s.length : Int)) = true := by simp; omega
    have i1' : decide (50000 < s.length) = true := by simp; omega
    go_enter Try.func6, Try.ntmps6
    go_wp2_with (first
      | (go_at_call 10; have X := HB; clear X; refine (new_own W v1 HB.out).mono ?_; rintro e v2 ⟨rfl, h⟩; have H0 := Lib.hid h; clear h)
      | (go_at_call 9; refine (small_any _).mono ?_; rintro e v1 ⟨rfl, h⟩; have HB := Lib.hid h; clear h))
    go_ret
    exact ⟨rfl, H0.out.below⟩
end Go.Proofs.Ytokoccffkogamaa
