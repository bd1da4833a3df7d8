/-
  The example that each law runs first: it returns true.
-/
import Derived.Test.YtjomkfiepmeplaaSame
namespace Go.Proofs.Ytjomkfiepmeplaa
open Go.RowKit
theorem ex1 : rNum (some [172, 2, 2, 97, 98, 2, 0, 1, 99, 2, 14, 127, 3, 122]) = (300, some [2, 97, 98, 2, 0, 1, 99, 2, 14, 127, 3, 122]) := by decide
theorem ex2 : rText (some [2, 97, 98, 2, 0, 1, 99, 2, 14, 127, 3, 122]) = ([97, 98], some [2, 0, 1, 99, 2, 14, 127, 3, 122]) := by decide
theorem ex3 : rSeq rText (some [2, 0, 1, 99, 2, 14, 127, 3, 122]) = ([[], [99]], some [2, 14, 127, 3, 122]) := by decide
theorem ex4 : rSeq rInt (some [2, 14, 127, 3, 122]) = ([7, -64], some [3, 122]) := by decide
theorem ex5 : rInt (some [3, 122]) = (-2, some [122]) := by decide
theorem ex6 : rTake 1 (some [122]) = ([122], some []) := by decide
theorem ex7 : rNum (some [128, 0]) = (0, none) := by decide
theorem v300 : vint 300 = [172, 2] := by rw [vint_step 300 (by omega), vint_small _ (by omega)]; rfl
theorem open_any (l : List UInt8) (w : World) : Calls Try.prog 21 #[.string (mk l)] w fun e w' => ∃ b, e = .returned (.pointer (some ⟨b, 0, none⟩)) ∧ w.heap.size ≤ b ∧ Rd w' b 62 (some l) ∧ Below w.heap.size w w' := by
  go_enter Try.func21, Try.ntmps21
  go_wp2
  go_ret
  exact ⟨_, rfl, Nat.le_refl _, Is.fresh w 62 _, (Below.refl _ _).alloc (Nat.le_refl _) _⟩
theorem bw {B : Nat} {w w1 w2 : World} (h : Below B w w1) (k : Below w1.heap.size w1 w2) (hB : B ≤ w1.heap.size) : Below B w w2 := h.trans (k.mono hB)
theorem bwa {B : Nat} {w w1 w2 : World} (h : Below B w w1) (hB : B ≤ w1.heap.size) (o : Obj) (k : Below (w1.alloc o).heap.size (w1.alloc o) w2) : Below B w w2 := by
  have h1 := h.alloc hB o
  exact bw h1 k (by simp; omega)
theorem c300 (w : World) : Calls Try.prog 11 #[.int .i64 300] w fun e w' => e = .returned (.string ⟨#[172, 2]⟩) ∧ Below w.heap.size w w' := by
  have := cnum_any 300 w (by omega)
  rw [v300] at this
  exact this
theorem cab (w : World) : Calls Try.prog 15 #[.string ⟨#[97, 98]⟩] w fun e w' => e = .returned (.string ⟨#[2, 97, 98]⟩) ∧ Below w.heap.size w w' := by
  have := ctext_any [97, 98] w (by simp)
  have e : textE [97, 98] = [2, 97, 98] := by unfold textE; rw [vint_small _ (by simp)]; rfl
  rw [e] at this
  exact this
theorem row_lit (w : World) (t : TypeId) (cs : Array Value) : Row (w.alloc (.cells cs t)) (w.alloc (.cells cs t)).heap.size (some ⟨w.heap.size, 0, none⟩) cs.toList := by
  intro k u hu
  refine ⟨_, rfl, by simp, ?_⟩
  exact World.news_of_block (cs := cs) (t := t) (fr := (0, 0)) (heap_alloc_new w _) k u hu
theorem clc (w : World) : Calls Try.prog 17 #[.slice (some ⟨w.heap.size, 0, none⟩) 2 2] (w.alloc (.cells #[.string ⟨#[]⟩, .string ⟨#[99]⟩] 9)) fun e w' => e = .returned (.string ⟨#[2, 0, 1, 99]⟩) ∧ Below (w.alloc (.cells #[.string ⟨#[]⟩, .string ⟨#[99]⟩] 9)).heap.size (w.alloc (.cells #[.string ⟨#[]⟩, .string ⟨#[99]⟩] 9)) w' := by
  have := clist_any (some ⟨w.heap.size, 0, none⟩) 2 [[], [99]] (w.alloc (.cells #[.string ⟨#[]⟩, .string ⟨#[99]⟩] 9)) (row_lit w 9 _) (by simp [textE, vint_small]) (by simp)
  have e : (vint ([[], [99]] : List (List UInt8)).length ++ ([[], [99]] : List (List UInt8)).flatMap textE) = [2, 0, 1, 99] := by simp [textE, vint_small]
  rw [e] at this
  exact this
theorem cnn (w : World) : Calls Try.prog 19 #[.slice (some ⟨w.heap.size, 0, none⟩) 2 2] (w.alloc (.cells #[.int .i64 7, .int .i64 (-64)] 3)) fun e w' => e = .returned (.string ⟨#[2, 14, 127]⟩) ∧ Below (w.alloc (.cells #[.int .i64 7, .int .i64 (-64)] 3)).heap.size (w.alloc (.cells #[.int .i64 7, .int .i64 (-64)] 3)) w' := by
  have e1 : intE 7 = [14] := by rw [intE_in 7 (by decide)]; exact vint_small 14 (by omega)
  have e2 : intE (-64) = [127] := by rw [intE_in (-64) (by decide)]; exact vint_small 127 (by omega)
  have := cnums_any (some ⟨w.heap.size, 0, none⟩) 2 [7, -64] (w.alloc (.cells #[.int .i64 7, .int .i64 (-64)] 3)) (row_lit w 3 _) (by simp [e1, e2]) (by simp)
  have e : (vint ([7, -64] : List Int).length ++ ([7, -64] : List Int).flatMap intE) = [2, 14, 127] := by simp [e1, e2, vint_small]
  rw [e] at this
  exact this
theorem cm2 (w : World) : Calls Try.prog 13 #[.int .i64 (-2)] w fun e w' => e = .returned (.string ⟨#[3]⟩) ∧ Below w.heap.size w w' := by
  have := cint_any (-2) w
  have e : intE (-2) = [3] := by rw [intE_in (-2) (by decide)]; exact vint_small 3 (by omega)
  rw [e] at this
  exact this
set_option maxRecDepth 100000 in
set_option maxHeartbeats 1000000 in
theorem small_any (w : World) : Calls Try.prog 9 #[] w fun e w' => e = .returned (.bool true) ∧ Below w.heap.size w w' := by
  have k1 : ((⟨#[172, 2]⟩ : ByteArray) ++ ⟨#[2, 97, 98]⟩) = ⟨#[172, 2, 2, 97, 98]⟩ := rfl
  have k2 : ((⟨#[172, 2, 2, 97, 98]⟩ : ByteArray) ++ ⟨#[2, 0, 1, 99]⟩) = ⟨#[172, 2, 2, 97, 98, 2, 0, 1, 99]⟩ := rfl
  have k3 : ((⟨#[172, 2, 2, 97, 98, 2, 0, 1, 99]⟩ : ByteArray) ++ ⟨#[2, 14, 127]⟩) = ⟨#[172, 2, 2, 97, 98, 2, 0, 1, 99, 2, 14, 127]⟩ := rfl
  have k4 : ((⟨#[172, 2, 2, 97, 98, 2, 0, 1, 99, 2, 14, 127]⟩ : ByteArray) ++ ⟨#[3]⟩) = ⟨#[172, 2, 2, 97, 98, 2, 0, 1, 99, 2, 14, 127, 3]⟩ := rfl
  have k5 : ((⟨#[172, 2, 2, 97, 98, 2, 0, 1, 99, 2, 14, 127, 3]⟩ : ByteArray) ++ ⟨#[122]⟩) = ⟨#[172, 2, 2, 97, 98, 2, 0, 1, 99, 2, 14, 127, 3, 122]⟩ := rfl
  go_enter Try.func9, Try.ntmps9
  go_wp2_with fail
  refine (c300 _).mono ?_
  rintro e w1 ⟨rfl, b1⟩
  have B1 := Lib.hid b1
  clear b1
  go_wp2_with fail
  refine (cab _).mono ?_
  rintro e w2 ⟨rfl, b2⟩
  have B2 := Lib.hid b2
  clear b2
  go_wp2_with fail
  refine (clc _).mono ?_
  rintro e w3 ⟨rfl, b3⟩
  have B3 := Lib.hid b3
  clear b3
  go_wp2_with fail
  refine (cnn _).mono ?_
  rintro e w4 ⟨rfl, b4⟩
  have B4 := Lib.hid b4
  clear b4
  go_wp2_with fail
  refine (cm2 _).mono ?_
  rintro e w5 ⟨rfl, b5⟩
  have B5 := Lib.hid b5
  clear b5
  go_wp2_with fail
  refine (open_any [172, 2, 2, 97, 98, 2, 0, 1, 99, 2, 14, 127, 3, 122] _).mono ?_
  rintro e w6 ⟨r, rfl, hr, h6, b6⟩
  have H6 := Lib.hid h6
  have B6 := Lib.hid b6
  clear h6 b6
  go_wp2_with fail
  refine (open_any [128, 0] _).mono ?_
  rintro e w7 ⟨q, rfl, hq, h7, b7⟩
  have hrs := H6.out.lt
  have R7 := Lib.hid (Is.below H6.out b7 hrs)
  have H7 := Lib.hid h7
  have B7 := Lib.hid b7
  clear h7 b7
  go_wp2_with fail
  have C := num_any r _ w7 R7.out (by simp [rest_some])
  rw [ex1] at C
  have CC := Lib.hid C
  clear C
  refine (CC.out).mono ?_
  rintro e w8 ⟨rfl, h8, g8⟩
  have R8 := Lib.hid h8
  have G8 := Lib.hid g8
  clear h8 g8 CC
  go_wp2_with fail
  have C := text_any r _ w8 R8.out (by simp [rest_some])
  rw [ex2, show mk (([97, 98], some [2, 0, 1, 99, 2, 14, 127, 3, 122]) : List UInt8 × St).1 = ⟨#[97, 98]⟩ from rfl] at C
  have CC := Lib.hid C
  clear C
  refine (CC.out).mono ?_
  rintro e w9 ⟨rfl, h9, g9⟩
  have R9 := Lib.hid h9
  have G9 := Lib.hid g9
  clear h9 g9 CC
  go_wp2_with fail
  have C := list_any r _ w9 R9.out (by simp [rest_some])
  rw [ex3] at C
  have CC := Lib.hid C
  clear C
  refine (CC.out).mono ?_
  rintro e w10 ⟨v, rfl, o10, h10, g10⟩
  obtain ⟨A, c, rfl, -, -⟩ := Row.of_own o10
  have R10 := Lib.hid h10
  have G10 := Lib.hid g10
  have O10 := Lib.hid o10
  clear h10 g10 CC o10
  go_wp2_with fail
  have C := nums_any r _ w10 R10.out (by simp [rest_some])
  rw [ex4] at C
  have CC := Lib.hid C
  clear C
  refine (CC.out).mono ?_
  rintro e w11 ⟨v, rfl, o11, h11, g11⟩
  obtain ⟨A2, c2, rfl, -, -⟩ := Row.of_own o11
  have R11 := Lib.hid h11
  have G11 := Lib.hid g11
  have O11 := Lib.hid o11
  clear h11 g11 CC o11
  go_wp2_with fail
  have C := int_any r _ w11 R11.out (by simp [rest_some])
  rw [ex5] at C
  have CC := Lib.hid C
  clear C
  refine (CC.out).mono ?_
  rintro e w12 ⟨rfl, h12, g12⟩
  have R12 := Lib.hid h12
  have G12 := Lib.hid g12
  clear h12 g12 CC
  go_wp2_with fail
  have C := left_any r _ _ w12 R12.out
  rw [show ((mk (rest (some [122]))).size : Int) = 1 from rfl] at C
  have CC := Lib.hid C
  clear C
  refine (CC.out).mono ?_
  rintro e w' ⟨rfl, rfl⟩
  clear CC
  go_wp2_with fail
  have C := done_false r _ w12 R12.out
  rw [show (mk (rest (some [122]))).toList.isEmpty = false by rw [mkl]; rfl] at C
  have CC := Lib.hid C
  clear C
  refine (CC.out).mono ?_
  rintro e w' ⟨rfl, rfl⟩
  clear CC
  go_wp2_with fail
  have C := take_any r _ 1 w12 R12.out (by simp [rest_some])
  rw [ex6, show mk (([122], some []) : List UInt8 × St).1 = ⟨#[122]⟩ from rfl] at C
  have CC := Lib.hid C
  clear C
  refine (CC.out).mono ?_
  rintro e w13 ⟨rfl, h13, g13⟩
  have R13 := Lib.hid h13
  have G13 := Lib.hid g13
  clear h13 g13 CC
  go_wp2_with fail
  have rq : r ≠ q := by omega
  have Q13 := Lib.hid (Is.kept (Is.kept (Is.kept (Is.kept (Is.kept (Is.kept H7.out G8.out (by simp; omega)) G9.out (by simp; omega)) G10.out (by simp; omega)) G11.out (by simp; omega)) G12.out (by simp; omega)) G13.out (by simp; omega))
  have C := num_any q _ w13 Q13.out (by simp [rest_some])
  rw [ex7] at C
  have CC := Lib.hid C
  clear C
  refine (CC.out).mono ?_
  rintro e w14 ⟨rfl, h14, g14⟩
  have Q14 := Lib.hid h14
  have G14 := Lib.hid g14
  clear h14 g14 CC
  have R14 := Lib.hid (Is.kept R13.out G14.out (by simp; omega))
  go_wp2_with fail
  have z7 := H7.out.lt
  have z8 := G8.out.size
  have z9 := G9.out.size
  have z10 := G10.out.size
  have z11 := G11.out.size
  have z12 := G12.out.size
  have z13 := G13.out.size
  have z14 := G14.out.size
  have T14 := Lib.hid (own_keep (own_keep (own_keep (own_keep O10.out (by omega) G11.out) (by omega) G12.out) (by omega) G13.out) (by omega) G14.out)
  have I14 := Lib.hid (own_keep (own_keep (own_keep O11.out (by omega) G12.out) (by omega) G13.out) (by omega) G14.out)
  obtain ⟨A', c', e1, -, row1⟩ := Row.of_own T14.out
  obtain ⟨rfl, rfl⟩ : A = A' ∧ c = c' := by
    simp only [Value.slice.injEq] at e1
    exact ⟨e1.1, e1.2.2⟩
  obtain ⟨A2', c2', e2, -, row2⟩ := Row.of_own I14.out
  obtain ⟨rfl, rfl⟩ : A2 = A2' ∧ c2 = c2' := by
    simp only [Value.slice.injEq] at e2
    exact ⟨e2.1, e2.2.2⟩
  clear e1 e2
  have BA := Lib.hid ((Below.refl w14.heap.size w14).alloc (Nat.le_refl _) (.cells #[.string ⟨#[]⟩, .string ⟨#[99]⟩] 9))
  have C := samet_any A (some ⟨w14.heap.size, 0, none⟩) c 2 _ _ [[], [99]] [[], [99]] (w14.alloc (.cells #[.string ⟨#[]⟩, .string ⟨#[99]⟩] 9)) (row1.below BA.out) (row_lit w14 9 _) (by simp) (by simp)
  rw [show decide (([[], [99]] : List (List UInt8)) = [[], [99]]) = true from rfl] at C
  have CC := Lib.hid C
  have ROW2 := Lib.hid row2
  clear C row1 row2
  refine (CC.out).mono ?_
  rintro e w15 ⟨rfl, j15, h15⟩
  have B15 := Lib.hid (show Below w14.heap.size w14 w15 by rw [h15]; exact below_drew BA.out j15)
  clear h15 CC
  go_wp2_with fail
  have z15 := B15.out.size
  have BC := Lib.hid ((Below.refl w15.heap.size w15).alloc (Nat.le_refl _) (.cells #[.int .i64 7, .int .i64 (-64)] 3))
  have C := samei_any A2 (some ⟨w15.heap.size, 0, none⟩) c2 2 _ _ [7, -64] [7, -64] (w15.alloc (.cells #[.int .i64 7, .int .i64 (-64)] 3)) ((ROW2.out.below B15.out).below (BC.out.mono z15)) (row_lit w15 3 _) (by simp) (by simp)
  rw [show decide (([7, -64] : List Int) = [7, -64]) = true from rfl] at C
  have CC := Lib.hid C
  clear C
  refine (CC.out).mono ?_
  rintro e w16 ⟨rfl, j16, h16⟩
  have B16 := Lib.hid (show Below w14.heap.size w14 w16 by rw [h16]; exact below_drew (B15.out.trans (BC.out.mono z15)) j16)
  clear h16 CC
  have R16 := Lib.hid (R14.out.below B16.out (by omega))
  have Q16 := Lib.hid (Q14.out.below B16.out (by omega))
  go_wp2_with fail
  have C := done_false r _ w16 R16.out
  rw [show (mk (rest (some []))).toList.isEmpty = true by rw [mkl]; rfl] at C
  have CC := Lib.hid C
  clear C
  refine (CC.out).mono ?_
  rintro e w' ⟨rfl, rfl⟩
  clear CC
  go_wp2_with fail
  refine (done_true q _ w16 Q16.out).mono ?_
  rintro e w' ⟨rfl, rfl⟩
  go_wp2_with fail
  have C := left_any q _ _ w16 Q16.out
  rw [show ((mk (rest none)).size : Int) = 0 from rfl] at C
  have CC := Lib.hid C
  clear C
  refine (CC.out).mono ?_
  rintro e w' ⟨rfl, rfl⟩
  clear CC
  go_wp2_with fail
  refine (cnum_neg (-1) w16 (by omega)).mono ?_
  rintro e w17 ⟨rfl, b17⟩
  have B17 := Lib.hid b17
  clear b17
  rw [show mk [] = ⟨#[]⟩ from rfl]
  go_wp2_with fail
  have C := cint_any 1152921504606846977 w17
  rw [intE_out _ (by decide), show mk [] = ⟨#[]⟩ from rfl] at C
  have CC := Lib.hid C
  clear C
  refine (CC.out).mono ?_
  rintro e w18 ⟨rfl, b18⟩
  have B18 := Lib.hid b18
  clear b18 CC
  go_wp2_with fail
  go_ret
  refine ⟨rfl, ?_⟩
  have f1 := B1.out
  have f2 := bw f1 B2.out f1.size
  have f3 := bwa f2 f2.size _ B3.out
  have f4 := bwa f3 f3.size _ B4.out
  have f5 := bw f4 B5.out f4.size
  have f6 := bw f5 B6.out f5.size
  have f7 := bw f6 B7.out f6.size
  have y1 := f5.size
  have y2 := f6.size
  have f8 := below_grown f7 G8.out (by omega) f7.size
  have f9 := below_grown f8 G9.out (by omega) f8.size
  have f10 := below_grown f9 G10.out (by omega) f9.size
  have f11 := below_grown f10 G11.out (by omega) f10.size
  have f12 := below_grown f11 G12.out (by omega) f11.size
  have f13 := below_grown f12 G13.out (by omega) f12.size
  have f14 := below_grown f13 G14.out (by omega) f13.size
  have f16 := bw f14 B16.out f14.size
  have f17 := bw f16 B17.out f16.size
  exact bw f17 B18.out f17.size
end Go.Proofs.Ytjomkfiepmeplaa
