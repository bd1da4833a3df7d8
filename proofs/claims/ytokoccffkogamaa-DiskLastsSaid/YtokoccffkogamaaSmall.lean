/-
  The law's small example.
-/
import Derived.Test.YtokoccffkogamaaOwn
import Derived.KernelRfl
namespace Go.Proofs.Ytokoccffkogamaa
open Go.RowKit
theorem row_lit (w : World) (xs : List Int) : RowAt (w.alloc (.cells (ints xs).toArray 3)) (some ⟨w.heap.size, 0, none⟩) (ints xs) := fun k u hk => by
  refine ⟨_, rfl, ?_⟩
  rw [Addr.add_mid, cell_of_row _ _ _ _ _ _ (heap_alloc_new w _), Nat.zero_add]
  simpa using hk
def S1 : Dk := (Dk.new.app 1 [104, 101, 108, 108, 111]).2
theorem sr1 : (Dk.new.app 1 [104, 101, 108, 108, 111]).1 = 0 := by kernel_rfl
theorem sm1 {W w : World} {b : Nat} (h : Own W w b Dk.new) : Calls Try.prog 15 #[.pointer (some ⟨b, 0, none⟩), .int .i64 1, .string ⟨#[104, 101, 108, 108, 111]⟩] w fun e w' => e = .returned (.int .i64 0) ∧ Own W w' b S1 := by
  have c := app_own h 1 ⟨#[104, 101, 108, 108, 111]⟩
  refine c.mono fun e w' hh => ⟨hh.1.trans ?_, hh.2⟩
  have e := sr1
  rw [show (Dk.new.app 1 (ls ⟨#[104, 101, 108, 108, 111]⟩)).1 = 0 from e]
  rfl
def S2 : Dk := (S1.flush 1).2
theorem sr2 : (S1.flush 1).1 = 0 := by kernel_rfl
theorem sm2 {W w : World} {b : Nat} (h : Own W w b S1) : Calls Try.prog 30 #[.pointer (some ⟨b, 0, none⟩), .int .i64 1] w fun e w' => e = .returned (.int .i64 0) ∧ Own W w' b S2 := by
  have c := flush_own h 1
  refine c.mono fun e w' hh => ⟨hh.1.trans ?_, hh.2⟩
  have e := sr2
  rw [e]
  rfl
def S3 : Dk := (S2.app 1 [121, 111, 117]).2
theorem sr3 : (S2.app 1 [121, 111, 117]).1 = 0 := by kernel_rfl
theorem sm3 {W w : World} {b : Nat} (h : Own W w b S2) : Calls Try.prog 15 #[.pointer (some ⟨b, 0, none⟩), .int .i64 1, .string ⟨#[121, 111, 117]⟩] w fun e w' => e = .returned (.int .i64 0) ∧ Own W w' b S3 := by
  have c := app_own h 1 ⟨#[121, 111, 117]⟩
  refine c.mono fun e w' hh => ⟨hh.1.trans ?_, hh.2⟩
  have e := sr3
  rw [show (S2.app 1 (ls ⟨#[121, 111, 117]⟩)).1 = 0 from e]
  rfl
def S4 : Dk := S3.fall (kf [9, 1])
theorem sm4 {W w : World} {b : Nat} (h : Own W w b S3) : Calls Try.prog 16 #[.pointer (some ⟨b, 0, none⟩), .slice (some ⟨w.heap.size, 0, none⟩) 2 2] (w.alloc (.cells #[.int .i64 9, .int .i64 1] 3)) fun e w' => e = .returned (.tuple #[]) ∧ Own W w' b S4 :=
  fall_own (h.alloc _) (some ⟨w.heap.size, 0, none⟩) 2 [9, 1] (row_lit w [9, 1])
theorem sr5 : S4.read 1 = ([], 12) := by kernel_rfl
theorem sm5 {W w : World} {b : Nat} (h : Own W w b S4) : Calls Try.prog 26 #[.pointer (some ⟨b, 0, none⟩), .int .i64 1] w fun e w' => e = .returned (.tuple #[.string ⟨#[]⟩, .int .i64 12]) ∧ w' = w := by
  have c := read_own h 1
  rw [sr5] at c
  exact c
theorem sr6 : S4.down = true := by kernel_rfl
theorem sm6 {W w : World} {b : Nat} (h : Own W w b S4) : Calls Try.prog 20 #[.pointer (some ⟨b, 0, none⟩)] w fun e w' => e = .returned (.bool true) ∧ w' = w := by
  have c := down_own h
  rw [sr6] at c
  exact c
def S5 : Dk := S4.start
theorem sm7 {W w : World} {b : Nat} (h : Own W w b S4) : Calls Try.prog 24 #[.pointer (some ⟨b, 0, none⟩)] w fun e w' => e = .returned (.tuple #[]) ∧ Own W w' b S5 := start_own h
theorem sr8 : S5.read 1 = ([104, 101, 108, 108, 111, 121], 0) := by kernel_rfl
theorem sm8 {W w : World} {b : Nat} (h : Own W w b S5) : Calls Try.prog 26 #[.pointer (some ⟨b, 0, none⟩), .int .i64 1] w fun e w' => e = .returned (.tuple #[.string ⟨#[104, 101, 108, 108, 111, 121]⟩, .int .i64 0]) ∧ w' = w := by
  have c := read_own h 1
  rw [sr8] at c
  exact c
def S6 : Dk := S5.lose 1
theorem sm9 {W w : World} {b : Nat} (h : Own W w b S5) : Calls Try.prog 33 #[.pointer (some ⟨b, 0, none⟩), .int .i64 1] w fun e w' => e = .returned (.tuple #[]) ∧ Own W w' b S6 := lose_own h 1 (by decide)
def S7 : Dk := (S6.flush 1).2
theorem sr10 : (S6.flush 1).1 = 13 := by kernel_rfl
theorem sm10 {W w : World} {b : Nat} (h : Own W w b S6) : Calls Try.prog 30 #[.pointer (some ⟨b, 0, none⟩), .int .i64 1] w fun e w' => e = .returned (.int .i64 13) ∧ Own W w' b S7 := by
  have c := flush_own h 1
  refine c.mono fun e w' hh => ⟨hh.1.trans ?_, hh.2⟩
  have e := sr10
  rw [e]
  rfl
def S8 : Dk := (S7.app 2 [120]).2
theorem sr11 : (S7.app 2 [120]).1 = 0 := by kernel_rfl
theorem sm11 {W w : World} {b : Nat} (h : Own W w b S7) : Calls Try.prog 15 #[.pointer (some ⟨b, 0, none⟩), .int .i64 2, .string ⟨#[120]⟩] w fun e w' => e = .returned (.int .i64 0) ∧ Own W w' b S8 := by
  have c := app_own h 2 ⟨#[120]⟩
  refine c.mono fun e w' hh => ⟨hh.1.trans ?_, hh.2⟩
  have e := sr11
  rw [show (S7.app 2 (ls ⟨#[120]⟩)).1 = 0 from e]
  rfl
def S9 : Dk := (S8.turn 1 2).2
theorem sr12 : (S8.turn 1 2).1 = 16 := by kernel_rfl
theorem sm12 {W w : World} {b : Nat} (h : Own W w b S8) : Calls Try.prog 32 #[.pointer (some ⟨b, 0, none⟩), .int .i64 1, .int .i64 2] w fun e w' => e = .returned (.int .i64 16) ∧ Own W w' b S9 := by
  have c := turn_own h 1 2
  refine c.mono fun e w' hh => ⟨hh.1.trans ?_, hh.2⟩
  have e := sr12
  rw [e]
  rfl
def S10 : Dk := (S9.flush 2).2
theorem sr13 : (S9.flush 2).1 = 0 := by kernel_rfl
theorem sm13 {W w : World} {b : Nat} (h : Own W w b S9) : Calls Try.prog 30 #[.pointer (some ⟨b, 0, none⟩), .int .i64 2] w fun e w' => e = .returned (.int .i64 0) ∧ Own W w' b S10 := by
  have c := flush_own h 2
  refine c.mono fun e w' hh => ⟨hh.1.trans ?_, hh.2⟩
  have e := sr13
  rw [e]
  rfl
def S11 : Dk := (S10.turn 1 2).2
theorem sr14 : (S10.turn 1 2).1 = 0 := by kernel_rfl
theorem sm14 {W w : World} {b : Nat} (h : Own W w b S10) : Calls Try.prog 32 #[.pointer (some ⟨b, 0, none⟩), .int .i64 1, .int .i64 2] w fun e w' => e = .returned (.int .i64 0) ∧ Own W w' b S11 := by
  have c := turn_own h 1 2
  refine c.mono fun e w' hh => ⟨hh.1.trans ?_, hh.2⟩
  have e := sr14
  rw [e]
  rfl
theorem sr15 : S11.read 1 = ([120], 0) := by kernel_rfl
theorem sm15 {W w : World} {b : Nat} (h : Own W w b S11) : Calls Try.prog 26 #[.pointer (some ⟨b, 0, none⟩), .int .i64 1] w fun e w' => e = .returned (.tuple #[.string ⟨#[120]⟩, .int .i64 0]) ∧ w' = w := by
  have c := read_own h 1
  rw [sr15] at c
  exact c
theorem sr16 : S11.size 2 = 0 := by kernel_rfl
theorem sm16 {W w : World} {b : Nat} (h : Own W w b S11) : Calls Try.prog 22 #[.pointer (some ⟨b, 0, none⟩), .int .i64 2] w fun e w' => e = .returned (.int .i64 0) ∧ w' = w := by
  have c := size_own h 2
  rw [sr16] at c
  exact c
def S12 : Dk := (S11.app 8 []).2
theorem sr17 : (S11.app 8 []).1 = 1 := by kernel_rfl
theorem sm17 {W w : World} {b : Nat} (h : Own W w b S11) : Calls Try.prog 15 #[.pointer (some ⟨b, 0, none⟩), .int .i64 8, .string ⟨#[]⟩] w fun e w' => e = .returned (.int .i64 1) ∧ Own W w' b S12 := by
  have c := app_own h 8 ⟨#[]⟩
  refine c.mono fun e w' hh => ⟨hh.1.trans ?_, hh.2⟩
  have e := sr17
  rw [show (S11.app 8 (ls ⟨#[]⟩)).1 = 1 from e]
  rfl
def S13 : Dk := (S12.cut 1 2).2
theorem sr18 : (S12.cut 1 2).1 = 1 := by kernel_rfl
theorem sm18 {W w : World} {b : Nat} (h : Own W w b S12) : Calls Try.prog 31 #[.pointer (some ⟨b, 0, none⟩), .int .i64 1, .int .i64 2] w fun e w' => e = .returned (.int .i64 1) ∧ Own W w' b S13 := by
  have c := cut_own h 1 2
  refine c.mono fun e w' hh => ⟨hh.1.trans ?_, hh.2⟩
  have e := sr18
  rw [e]
  rfl
set_option maxRecDepth 100000 in
set_option maxHeartbeats 4000000 in
theorem small_any (w : World) : Calls Try.prog 9 #[] w fun e w' => e = .returned (.bool true) ∧ Below w.heap.size w w' := by
  go_enter Try.func9, Try.ntmps9
  go_wp2_with (first
    | (go_at_call 31; have X := H17; clear X; refine (sm18 H17.out).mono ?_; rintro e v18 ⟨rfl, h⟩; have H18 := Lib.hid h; clear h)
    | (go_at_call 15; have X := H16; clear X; refine (sm17 H16.out).mono ?_; rintro e v17 ⟨rfl, h⟩; have H17 := Lib.hid h; clear h)
    | (go_at_call 22; have X := H15; clear X; refine (sm16 H15.out).mono ?_; rintro e v16 ⟨rfl, hq⟩; have H16 := Lib.hid (hq ▸ H15.out); clear hq)
    | (go_at_call 26; have X := H14; clear X; refine (sm15 H14.out).mono ?_; rintro e v15 ⟨rfl, hq⟩; have H15 := Lib.hid (hq ▸ H14.out); clear hq)
    | (go_at_call 32; have X := H13; clear X; refine (sm14 H13.out).mono ?_; rintro e v14 ⟨rfl, h⟩; have H14 := Lib.hid h; clear h)
    | (go_at_call 30; have X := H12; clear X; refine (sm13 H12.out).mono ?_; rintro e v13 ⟨rfl, h⟩; have H13 := Lib.hid h; clear h)
    | (go_at_call 32; have X := H11; clear X; refine (sm12 H11.out).mono ?_; rintro e v12 ⟨rfl, h⟩; have H12 := Lib.hid h; clear h)
    | (go_at_call 15; have X := H10; clear X; refine (sm11 H10.out).mono ?_; rintro e v11 ⟨rfl, h⟩; have H11 := Lib.hid h; clear h)
    | (go_at_call 30; have X := H9; clear X; refine (sm10 H9.out).mono ?_; rintro e v10 ⟨rfl, h⟩; have H10 := Lib.hid h; clear h)
    | (go_at_call 33; have X := H8; clear X; refine (sm9 H8.out).mono ?_; rintro e v9 ⟨rfl, h⟩; have H9 := Lib.hid h; clear h)
    | (go_at_call 26; have X := H7; clear X; refine (sm8 H7.out).mono ?_; rintro e v8 ⟨rfl, hq⟩; have H8 := Lib.hid (hq ▸ H7.out); clear hq)
    | (go_at_call 24; have X := H6; clear X; refine (sm7 H6.out).mono ?_; rintro e v7 ⟨rfl, h⟩; have H7 := Lib.hid h; clear h)
    | (go_at_call 20; have X := H5; clear X; refine (sm6 H5.out).mono ?_; rintro e v6 ⟨rfl, hq⟩; have H6 := Lib.hid (hq ▸ H5.out); clear hq)
    | (go_at_call 26; have X := H4; clear X; refine (sm5 H4.out).mono ?_; rintro e v5 ⟨rfl, hq⟩; have H5 := Lib.hid (hq ▸ H4.out); clear hq)
    | (go_at_call 16; have X := H3; clear X; refine (sm4 H3.out).mono ?_; rintro e v4 ⟨rfl, h⟩; have H4 := Lib.hid h; clear h)
    | (go_at_call 15; have X := H2; clear X; refine (sm3 H2.out).mono ?_; rintro e v3 ⟨rfl, h⟩; have H3 := Lib.hid h; clear h)
    | (go_at_call 30; have X := H1; clear X; refine (sm2 H1.out).mono ?_; rintro e v2 ⟨rfl, h⟩; have H2 := Lib.hid h; clear h)
    | (go_at_call 15; have X := H0; clear X; refine (sm1 H0.out).mono ?_; rintro e v1 ⟨rfl, h⟩; have H1 := Lib.hid h; clear h)
    | (go_at_call 10; go_must (refine (new_own w w (Below.refl _ _)).mono ?_); rintro e v0 ⟨rfl, h⟩; have H0 := Lib.hid h; clear h))
  go_ret
  exact ⟨rfl, H18.out.below⟩
end Go.Proofs.Ytokoccffkogamaa
