/-
  small of the laws: the sanity example.
-/
import Derived.Test.YtkagfhfjomhkdaaDoorScan
import Derived.Test.YtkagfhfjomhkdaaDoorFew
import Derived.Test.YtkagfhfjomhkdaaDoorRun
namespace Go.Proofs.YtkagfhfjomhkdaaDoor
open Go.RowKit L7
def src1 : Bs := [97, 32, 60, 61, 32, 49, 50, 32, 47, 47, 32, 99, 10, 34, 120, 92, 110, 92, 34, 34, 95, 98, 49, 58, 45, 61, 62]
def tks1 : List (Tk × Int) := [(⟨1, [97], 0⟩, 0), (⟨4, [60, 61], 0⟩, 2), (⟨2, [], 12⟩, 5), (⟨3, [120, 10, 34], 0⟩, 13), (⟨4, [95], 0⟩, 20), (⟨1, [98, 49], 0⟩, 21), (⟨4, [58, 45], 0⟩, 23), (⟨4, [61, 62], 0⟩, 25)]
theorem run1 : offs 27 (okL (scanF 27 src1)) = tks1 := by kernel_rfl
theorem run1' : (match scanF 27 src1 with | .ok _ => true | _ => false) = true := by kernel_rfl
theorem scan1 (A : Option Addr) (c : Nat) : scanV (scan src1) 27 A c = .tuple #[.slice A 8 c, .int .i64 0, .int .i64 0] ∧ offs 27 (okL (scan src1)) = tks1 := by
  rw [← scanF_eq 27 src1 (by decide)]
  have h := run1
  have h2 := run1'
  cases hs : scanF 27 src1 with
  | error e => rw [hs] at h2; cases h2
  | ok l =>
    rw [hs] at h
    have hl : l.length = 8 := by
      have := congrArg List.length h
      simpa [offs, okL, tks1] using this
    exact ⟨by simp only [scanV]; rw [hl], h⟩
theorem call1 (w : World) (hw : Lies w) : Calls Tryd.prog 9 #[.string ⟨#[97, 32, 60, 61, 32, 49, 50, 32, 47, 47, 32, 99, 10, 34, 120, 92, 110, 92, 34, 34, 95, 98, 49, 58, 45, 61, 62]⟩] w fun e w' => ∃ g c, e = .returned (.tuple #[.slice (some ⟨g, 0, none⟩) 8 c, .int .i64 0, .int .i64 0]) ∧ ToksIn w' w'.heap.size (some ⟨g, 0, none⟩) tks1 ∧ Below w.heap.size w w' := by
  refine (scan_any (mk src1) w hw (by decide)).mono ?_
  rintro e w' ⟨⟨A, c, h1, h2, h3, -⟩, hb⟩
  rw [ls_mk, show (mk src1).size = 27 from rfl] at h1 h2
  obtain ⟨e1, e2⟩ := scan1 A c
  rw [e1] at h1
  rw [e2] at h2
  obtain ⟨a, ha, -⟩ := h2 0 _ rfl
  rcases h3 with rfl | ⟨g, rfl⟩
  · cases ha
  · exact ⟨g, c, h1, h2, hb⟩
theorem call_err (l : Bs) (n e k : Nat) (w : World) (hw : Lies w) (hl : l.length = n) (hn : n ≤ 30) (h : scanF n l = .error (e, k)) : Calls Tryd.prog 9 #[.string (mk l)] w fun e' w' => e' = .returned (.tuple #[.slice none 0 0, .int .i64 (e : Int), .int .i64 ((n - k : Nat) : Int)]) ∧ Below w.heap.size w w' := by
  refine (scan_any (mk l) w hw (by rw [size_mk]; omega)).mono ?_
  rintro e' w' ⟨⟨A, c, h1, -, -, -⟩, hb⟩
  rw [ls_mk, size_mk, ← scanF_eq n l (by omega), h, hl] at h1
  exact ⟨h1, hb⟩
theorem call2 (w : World) (hw : Lies w) : Calls Tryd.prog 9 #[.string ⟨#[97, 32, 48, 48, 55]⟩] w fun e w' => e = .returned (.tuple #[.slice none 0 0, .int .i64 2, .int .i64 2]) ∧ Below w.heap.size w w' :=
  call_err [97, 32, 48, 48, 55] 5 2 3 w hw rfl (by decide) (by kernel_rfl)
theorem call3 (w : World) (hw : Lies w) : Calls Tryd.prog 9 #[.string ⟨#[97, 98, 10, 32, 34, 120, 10, 34]⟩] w fun e w' => e = .returned (.tuple #[.slice none 0 0, .int .i64 2, .int .i64 4]) ∧ Below w.heap.size w w' :=
  call_err [97, 98, 10, 32, 34, 120, 10, 34] 8 2 4 w hw rfl (by decide) (by kernel_rfl)
theorem call4 (w : World) (hw : Lies w) : Calls Tryd.prog 9 #[.string ⟨#[57, 48, 48, 55, 49, 57, 57, 50, 53, 52, 55, 52, 48, 57, 57, 51]⟩] w fun e w' => e = .returned (.tuple #[.slice none 0 0, .int .i64 6, .int .i64 0]) ∧ Below w.heap.size w w' :=
  call_err [57, 48, 48, 55, 49, 57, 57, 50, 53, 52, 55, 52, 48, 57, 57, 51] 16 6 16 w hw rfl (by decide) (by kernel_rfl)
theorem call5 (w : World) (hw : Lies w) : Calls Tryd.prog 9 #[.string ⟨#[97, 33, 98]⟩] w fun e w' => e = .returned (.tuple #[.slice none 0 0, .int .i64 2, .int .i64 1]) ∧ Below w.heap.size w w' :=
  call_err [97, 33, 98] 3 2 2 w hw rfl (by decide) (by kernel_rfl)
theorem call6 (w : World) (hw : Lies w) : Calls Tryd.prog 9 #[.string ⟨#[49, 50, 97, 98]⟩] w fun e w' => e = .returned (.tuple #[.slice none 0 0, .int .i64 2, .int .i64 0]) ∧ Below w.heap.size w w' :=
  call_err [49, 50, 97, 98] 4 2 4 w hw rfl (by decide) (by kernel_rfl)
theorem dec12 : dec 12 = [49, 50] := by
  unfold dec
  rw [Lib.decDigits, dif_neg (by decide), Lib.decDigits, dif_pos (by decide)]
  rfl
theorem wrt1 : wrt (tks1.map Prod.fst) = [97, 32, 60, 61, 32, 49, 50, 32, 34, 120, 92, 110, 92, 34, 34, 32, 95, 32, 98, 49, 32, 58, 45, 32, 61, 62] := by
  have e : dec = fun n => if n = 12 then [49, 50] else dec n := by
    funext n
    by_cases h : n = 12
    · subst h; rw [if_pos rfl, dec12]
    · rw [if_neg h]
  have k : (match forms (fun n => if n = 12 then [49, 50] else dec n) (tks1.map Prod.fst) with | some xs => join xs | none => []) = [97, 32, 60, 61, 32, 49, 50, 32, 34, 120, 92, 110, 92, 34, 34, 32, 95, 32, 98, 49, 32, 58, 45, 32, 61, 62] := by kernel_rfl
  rw [← e] at k
  exact k
theorem wrt2 : wrt [⟨1, [49, 97], 0⟩] = [] := by kernel_rfl
theorem write1 (g c top : Nat) (w : World) (hw : Lies w) (hT : ToksIn w top (some ⟨g, 0, none⟩) tks1) (htop : top ≤ w.heap.size) :
    Calls Tryd.prog 8 #[.slice (some ⟨g, 0, none⟩) 8 c] w fun e w' => e = .returned (.string ⟨#[97, 32, 60, 61, 32, 49, 50, 32, 34, 120, 92, 110, 92, 34, 34, 32, 95, 32, 98, 49, 32, 58, 45, 32, 61, 62]⟩) ∧ Below w.heap.size w w' := by
  have := write_any (some ⟨g, 0, none⟩) c top tks1 w hw hT htop (by decide) (by intro x hx; simp [tks1] at hx; rcases hx with rfl | rfl | rfl | rfl | rfl | rfl | rfl | rfl <;> decide)
  rw [wrt1] at this
  exact this
theorem write2 (g : Nat) (w : World) (hw : Lies w) (hg : Is w g 32 #[.int .i64 1, .string ⟨#[49, 97]⟩, .int .i64 0, .int .i64 0]) :
    Calls Tryd.prog 8 #[.slice (some ⟨g, 0, none⟩) 1 1] w fun e w' => e = .returned (.string ⟨#[]⟩) ∧ Below w.heap.size w w' := by
  have hT : ToksIn w w.heap.size (some ⟨g, 0, none⟩) [(⟨1, [49, 97], 0⟩, 0)] := by
    intro k x hk
    cases k with
    | succ k => simp at hk
    | zero =>
      simp at hk; subst hk
      refine ⟨_, rfl, hg.lt, fun j u hu => ?_⟩
      have := World.news_of_block (w := w) (B := g) (t := 32) (fr := (0, 0)) hg j u hu
      rw [show 0 * 4 + j = j by omega]
      exact this
  have := write_any (some ⟨g, 0, none⟩) 1 w.heap.size [(⟨1, [49, 97], 0⟩, 0)] w hw hT (Nat.le_refl _) (by decide) (by intro x hx; simp at hx; subst hx; decide)
  rw [show wrt ([((⟨1, [49, 97], 0⟩ : Tk), (0 : Int))].map Prod.fst) = [] from wrt2] at this
  exact this
set_option maxRecDepth 20000 in
set_option maxHeartbeats 4000000 in
theorem small_any (w : World) (hw : Lies w) : Calls Tryd.prog 6 #[] w fun e w' => e = .returned (.bool true) ∧ Below w.heap.size w w' := by
  have HW := Lib.hid hw
  have HC1 := Lib.hid call1
  have HC2 := Lib.hid call2
  have HC3 := Lib.hid call3
  have HC4 := Lib.hid call4
  have HC5 := Lib.hid call5
  have HC6 := Lib.hid call6
  clear hw
  go_enter Tryd.func6, Tryd.ntmps6
  go_wp2_with fail
  refine (HC1.out _ HW.out).mono ?_
  rintro e w1 ⟨g, c, rfl, h1, h2⟩
  have T1 := Lib.hid h1
  have B1 := Lib.hid h2
  clear h1 h2
  go_wp2_with fail
  refine (HC2.out _ (HW.out.on B1.out)).mono ?_
  rintro e w2 ⟨rfl, h2⟩
  have B2 := Lib.hid (B1.out.trans (h2.mono B1.out.size))
  have T2 := Lib.hid (T1.out.below h2)
  have S2 := Lib.hid h2.size
  clear h2
  go_wp2_with fail
  refine (HC3.out _ (HW.out.on B2.out)).mono ?_
  rintro e w3 ⟨rfl, h2⟩
  have B3 := Lib.hid (B2.out.trans (h2.mono B2.out.size))
  have T3 := Lib.hid (T2.out.below (h2.mono S2.out))
  have S3 := Lib.hid (Nat.le_trans S2.out h2.size)
  clear h2
  go_wp2_with fail
  refine (HC4.out _ (HW.out.on B3.out)).mono ?_
  rintro e w4 ⟨rfl, h2⟩
  have B4 := Lib.hid (B3.out.trans (h2.mono B3.out.size))
  have T4 := Lib.hid (T3.out.below (h2.mono S3.out))
  have S4 := Lib.hid (Nat.le_trans S3.out h2.size)
  clear h2
  go_wp2_with fail
  refine (HC5.out _ (HW.out.on B4.out)).mono ?_
  rintro e w5 ⟨rfl, h2⟩
  have B5 := Lib.hid (B4.out.trans (h2.mono B4.out.size))
  have T5 := Lib.hid (T4.out.below (h2.mono S4.out))
  have S5 := Lib.hid (Nat.le_trans S4.out h2.size)
  clear h2
  go_wp2_with fail
  refine (HC6.out _ (HW.out.on B5.out)).mono ?_
  rintro e w6 ⟨rfl, h2⟩
  have B6 := Lib.hid (B5.out.trans (h2.mono B5.out.size))
  have T6 := T5.out.below (h2.mono S5.out)
  have S6 := Lib.hid (Nat.le_trans S5.out h2.size)
  have T6' := Lib.hid T6
  clear h2 T1 T2 T3 T4 T5 S2 S3 S4 S5 B1 B2 B3 B4 B5
  have q : ∀ (k : Nat) (x : Tk × Int), tks1[k]? = some x → ∀ j u, (cells4 x)[j]? = some u → w6.cell? ⟨g, k * 4 + j, none⟩ = some u := by
    intro k x hk j u hu
    obtain ⟨a, ha, -, hc⟩ := T6 k x hk
    cases ha
    have := hc j u hu
    rw [show (⟨g, 0, none⟩ : Addr).add (k * 4 + j) = ⟨g, k * 4 + j, none⟩ by unfold Addr.add; split <;> simp_all] at this
    exact this
  have c00 : w6.cell? ⟨g, 0, none⟩ = some (.int .i64 1) := q 0 _ rfl 0 _ rfl
  have c01 : w6.cell? ⟨g, 1, none⟩ = some (.string ⟨#[97]⟩) := q 0 _ rfl 1 _ rfl
  have c02 : w6.cell? ⟨g, 2, none⟩ = some (.int .i64 0) := q 0 _ rfl 2 _ rfl
  have c03 : w6.cell? ⟨g, 3, none⟩ = some (.int .i64 0) := q 0 _ rfl 3 _ rfl
  have c10 : w6.cell? ⟨g, 4, none⟩ = some (.int .i64 4) := q 1 _ rfl 0 _ rfl
  have c11 : w6.cell? ⟨g, 5, none⟩ = some (.string ⟨#[60, 61]⟩) := q 1 _ rfl 1 _ rfl
  have c12 : w6.cell? ⟨g, 6, none⟩ = some (.int .i64 0) := q 1 _ rfl 2 _ rfl
  have c13 : w6.cell? ⟨g, 7, none⟩ = some (.int .i64 2) := q 1 _ rfl 3 _ rfl
  have c20 : w6.cell? ⟨g, 8, none⟩ = some (.int .i64 2) := q 2 _ rfl 0 _ rfl
  have c21 : w6.cell? ⟨g, 9, none⟩ = some (.string ⟨#[]⟩) := q 2 _ rfl 1 _ rfl
  have c22 : w6.cell? ⟨g, 10, none⟩ = some (.int .i64 12) := q 2 _ rfl 2 _ rfl
  have c23 : w6.cell? ⟨g, 11, none⟩ = some (.int .i64 5) := q 2 _ rfl 3 _ rfl
  have c30 : w6.cell? ⟨g, 12, none⟩ = some (.int .i64 3) := q 3 _ rfl 0 _ rfl
  have c31 : w6.cell? ⟨g, 13, none⟩ = some (.string ⟨#[120, 10, 34]⟩) := q 3 _ rfl 1 _ rfl
  have c32 : w6.cell? ⟨g, 14, none⟩ = some (.int .i64 0) := q 3 _ rfl 2 _ rfl
  have c33 : w6.cell? ⟨g, 15, none⟩ = some (.int .i64 13) := q 3 _ rfl 3 _ rfl
  have c40 : w6.cell? ⟨g, 16, none⟩ = some (.int .i64 4) := q 4 _ rfl 0 _ rfl
  have c41 : w6.cell? ⟨g, 17, none⟩ = some (.string ⟨#[95]⟩) := q 4 _ rfl 1 _ rfl
  have c42 : w6.cell? ⟨g, 18, none⟩ = some (.int .i64 0) := q 4 _ rfl 2 _ rfl
  have c43 : w6.cell? ⟨g, 19, none⟩ = some (.int .i64 20) := q 4 _ rfl 3 _ rfl
  have c50 : w6.cell? ⟨g, 20, none⟩ = some (.int .i64 1) := q 5 _ rfl 0 _ rfl
  have c51 : w6.cell? ⟨g, 21, none⟩ = some (.string ⟨#[98, 49]⟩) := q 5 _ rfl 1 _ rfl
  have c52 : w6.cell? ⟨g, 22, none⟩ = some (.int .i64 0) := q 5 _ rfl 2 _ rfl
  have c53 : w6.cell? ⟨g, 23, none⟩ = some (.int .i64 21) := q 5 _ rfl 3 _ rfl
  have c60 : w6.cell? ⟨g, 24, none⟩ = some (.int .i64 4) := q 6 _ rfl 0 _ rfl
  have c61 : w6.cell? ⟨g, 25, none⟩ = some (.string ⟨#[58, 45]⟩) := q 6 _ rfl 1 _ rfl
  have c62 : w6.cell? ⟨g, 26, none⟩ = some (.int .i64 0) := q 6 _ rfl 2 _ rfl
  have c63 : w6.cell? ⟨g, 27, none⟩ = some (.int .i64 23) := q 6 _ rfl 3 _ rfl
  have c70 : w6.cell? ⟨g, 28, none⟩ = some (.int .i64 4) := q 7 _ rfl 0 _ rfl
  have c71 : w6.cell? ⟨g, 29, none⟩ = some (.string ⟨#[61, 62]⟩) := q 7 _ rfl 1 _ rfl
  have c72 : w6.cell? ⟨g, 30, none⟩ = some (.int .i64 0) := q 7 _ rfl 2 _ rfl
  have c73 : w6.cell? ⟨g, 31, none⟩ = some (.int .i64 25) := q 7 _ rfl 3 _ rfl
  clear q T6
  go_wp2_with fail
  refine (write1 _ _ _ _ (HW.out.on B6.out) T6'.out S6.out).mono ?_
  rintro e w7 ⟨rfl, h2⟩
  have B7 := Lib.hid (B6.out.trans (h2.mono B6.out.size))
  clear h2 c00 c01 c02 c03 c10 c11 c12 c13 c20 c21 c22 c23 c30 c31 c32 c33 c40 c41 c42 c43 c50 c51 c52 c53 c60 c61 c62 c63 c70 c71 c72 c73
  go_wp2_with fail
  refine (write2 _ _ (HW.out.on (B7.out.alloc B7.out.size _)) (Is.fresh w7 32 _)).mono ?_
  rintro e w8 ⟨rfl, h2⟩
  have B8 := Lib.hid ((B7.out.alloc B7.out.size (.cells #[.int .i64 1, .string ⟨#[49, 97]⟩, .int .i64 0, .int .i64 0] 32)).trans (h2.mono (by have := B7.out.size; simp; omega)))
  clear h2
  go_wp2
  go_ret
  exact ⟨rfl, B8.out⟩
end Go.Proofs.YtkagfhfjomhkdaaDoor
