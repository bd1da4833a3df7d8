/-
  LexBack: the walk.
-/
import Derived.Test.YtkagfhfjomhkdaaDoorLawP
import Derived.Deep.Cut
namespace Go.Proofs.YtkagfhfjomhkdaaDoor
open Go.RowKit L7
theorem str_beq (y : ByteArray) : (y.toList == y.toList) = true := by simp
theorem empty_of (y : Bs) (h : y ≠ []) : (mk y).toList.isEmpty = false := by
  rw [show (mk y).toList = y by rw [ByteArray.toList_eq]; rfl]
  cases y with
  | nil => exact absurd rfl h
  | cons a l => rfl
set_option maxRecDepth 100000 in
set_option maxHeartbeats 1000000 in
theorem back_long (s : ByteArray) (A : Option Addr) (c : Nat) (L : List (Tk × Int)) (w : World) (hw : Lies w) (hs : 2000 < s.size) :
    Calls Tryd.prog 3 #[.string s, .slice A L.length c] w fun e w' => e = .returned (.bool true) ∧ Below w.heap.size w w' := by
  have d1 : decide ((2000 : Int) < (s.size : Int)) = true := by simp; omega
  have SM := Lib.hid (small_any w hw)
  clear hw
  go_enter Tryd.func3, Tryd.ntmps3
  go_wp2_with (go_at_call 6; (with_reducible refine (SM.out).mono ?_); rintro e w1 ⟨rfl, h⟩; have B1 := Lib.hid h; clear h)
  go_ret
  exact ⟨rfl, B1.out⟩
set_option maxRecDepth 100000 in
set_option maxHeartbeats 1000000 in
theorem back_many (s : ByteArray) (A : Option Addr) (c top : Nat) (L : List (Tk × Int)) (w : World) (hw : Lies w) (hs : ¬ 2000 < s.size) (hT : ToksIn w top A L) (htop : top ≤ w.heap.size) (hn : L.length ≤ 4611686018427387904) (hf : fewB L = false) :
    Calls Tryd.prog 3 #[.string s, .slice A L.length c] w fun e w' => e = .returned (.bool true) ∧ Below w.heap.size w w' := by
  have d1 : decide ((2000 : Int) < (s.size : Int)) = false := by simp; omega
  have SM := Lib.hid (small_any w hw)
  have FW : Hid (∀ W, ToksIn W top A L → Calls Tryd.prog 7 #[.slice A L.length c] W fun e w' => e = .returned (.bool false) ∧ W = w') := Lib.hid (fun W h => by
    have := few_any A c top L W h hn
    rwa [hf] at this)
  have HT := Lib.hid hT
  clear hw hf hT
  go_enter Tryd.func3, Tryd.ntmps3
  go_wp2_with (first
    | (go_at_call 6; (with_reducible refine (SM.out).mono ?_); rintro e w1 ⟨rfl, h⟩; have B1 := Lib.hid h; clear h)
    | (go_at_call 7; (with_reducible refine (FW.out _ (HT.out.below (B1.out.mono htop))).mono ?_); rintro e w' ⟨rfl, rfl⟩))
  go_ret
  exact ⟨rfl, B1.out⟩
set_option maxRecDepth 100000 in
set_option maxHeartbeats 4000000 in
theorem back_F1S1 (s : ByteArray) (A : Option Addr) (c top : Nat) (L : List (Tk × Int)) (w : World) (hw : Lies w) (hs : ¬ 2000 < s.size) (hT : ToksIn w top A L) (htop : top ≤ w.heap.size) (hf : fewB L = true)
    (hy : wrt (L.map Prod.fst) = [])
    (er k : Nat) (hsc : scan (ls s) = .error (er, k)) :
    Calls Tryd.prog 3 #[.string s, .slice A L.length c] w fun e w' => e = .returned (.bool true) ∧ Below w.heap.size w w' := by
  have hcopy := few_ok hf
  obtain ⟨hL, hLt⟩ := hcopy
  have d1 : decide ((2000 : Int) < (s.size : Int)) = false := by simp; omega
  have SM := Lib.hid (small_any w hw)
  have FW : Hid (∀ W, ToksIn W top A L → Calls Tryd.prog 7 #[.slice A L.length c] W fun e w' => e = .returned (.bool true) ∧ W = w') := Lib.hid (fun W h => by
    have := few_any A c top L W h (by omega)
    rwa [hf] at this)
  have WL0 : ∀ W, Lies W → ToksIn W top A L → top ≤ W.heap.size → Calls Tryd.prog 8 #[.slice A L.length c] W fun e w' => e = .returned (.string (mk (wrt (L.map Prod.fst)))) ∧ Below W.heap.size W w' := fun W h1 h2 h3 => write_any A c top L W h1 h2 h3 (by omega) hLt
  have HT := Lib.hid hT
  have HW := Lib.hid hw
  have HY : mk (wrt (L.map Prod.fst)) = ⟨#[]⟩ := by rw [hy]; rfl
  have WL : Hid (∀ W, Lies W → ToksIn W top A L → top ≤ W.heap.size → Calls Tryd.prog 8 #[.slice A L.length c] W fun e w' => e = .returned (.string ⟨#[]⟩) ∧ Below W.heap.size W w') := Lib.hid (fun W h1 h2 h3 => by have := WL0 W h1 h2 h3; rw [HY] at this; exact this)
  clear WL0 HY hy
  have hk := scan_error _ (ls s) (Nat.le_refl _) er k hsc
  rw [ls_length] at hk
  have SS : Hid (∀ W, Lies W → Calls Tryd.prog 9 #[.string s] W fun e w' => e = .returned (.tuple #[.slice none 0 0, .int .i64 (er : Int), .int .i64 ((s.size - k : Nat) : Int)]) ∧ Below W.heap.size W w') := Lib.hid (fun W h => scan_err_any s er k hsc (by omega) W h)
  have hne := scan_errc hsc
  obtain ⟨q, hq⟩ : ∃ q, q = s.size - k := ⟨_, rfl⟩
  have hq1 : q < s.size := by omega
  rw [← hq] at SS
  have d3 : decide ((q : Int) < max (s.size : Int) 1) = true := decide_eq_true (by omega)
  have d4 : decide ((0 : Int) ≤ (q : Int)) = true := decide_eq_true (by omega)
  have d5 : (q : Int) < max (s.size : Int) 1 := by omega
  clear hsc hq hk
  clear hw hf hT hLt
  go_enter Tryd.func3, Tryd.ntmps3
  go_upto_region 9 with (first
    | (go_at_call 6; (with_reducible refine (SM.out).mono ?_); rintro e w1 ⟨rfl, h⟩; have B1 := Lib.hid h; clear h)
    | (go_at_call 7; (with_reducible refine (FW.out _ (HT.out.below (B1.out.mono htop))).mono ?_); rintro e w' ⟨rfl, rfl⟩)
    | (go_at_call 8; (with_reducible refine (WL.out _ (HW.out.on B1.out) (HT.out.below (B1.out.mono htop)) (Nat.le_trans htop B1.out.size)).mono ?_); rintro e w2 ⟨rfl, h⟩; have B2 := Lib.hid (B1.out.trans (h.mono B1.out.size)); clear h))
  go_wp2_with (first
    | (go_at_call 9; (with_reducible refine (SS.out _ (HW.out.on B2.out)).mono ?_); rintro e v1 ⟨rfl, h⟩; have C1 := Lib.hid (B2.out.trans (h.mono B2.out.size)); clear h))
  go_ret
  exact ⟨rfl, C1.out⟩
set_option maxRecDepth 100000 in
set_option maxHeartbeats 4000000 in
theorem back_F1S2 (s : ByteArray) (A : Option Addr) (c top : Nat) (L : List (Tk × Int)) (w : World) (hw : Lies w) (hs : ¬ 2000 < s.size) (hT : ToksIn w top A L) (htop : top ≤ w.heap.size) (hf : fewB L = true)
    (hy : wrt (L.map Prod.fst) = [])
    (hsc : scan (ls s) = .ok []) :
    Calls Tryd.prog 3 #[.string s, .slice A L.length c] w fun e w' => e = .returned (.bool true) ∧ Below w.heap.size w w' := by
  have hcopy := few_ok hf
  obtain ⟨hL, hLt⟩ := hcopy
  have d1 : decide ((2000 : Int) < (s.size : Int)) = false := by simp; omega
  have SM := Lib.hid (small_any w hw)
  have FW : Hid (∀ W, ToksIn W top A L → Calls Tryd.prog 7 #[.slice A L.length c] W fun e w' => e = .returned (.bool true) ∧ W = w') := Lib.hid (fun W h => by
    have := few_any A c top L W h (by omega)
    rwa [hf] at this)
  have WL0 : ∀ W, Lies W → ToksIn W top A L → top ≤ W.heap.size → Calls Tryd.prog 8 #[.slice A L.length c] W fun e w' => e = .returned (.string (mk (wrt (L.map Prod.fst)))) ∧ Below W.heap.size W w' := fun W h1 h2 h3 => write_any A c top L W h1 h2 h3 (by omega) hLt
  have HT := Lib.hid hT
  have HW := Lib.hid hw
  have HY : mk (wrt (L.map Prod.fst)) = ⟨#[]⟩ := by rw [hy]; rfl
  have WL : Hid (∀ W, Lies W → ToksIn W top A L → top ≤ W.heap.size → Calls Tryd.prog 8 #[.slice A L.length c] W fun e w' => e = .returned (.string ⟨#[]⟩) ∧ Below W.heap.size W w') := Lib.hid (fun W h1 h2 h3 => by have := WL0 W h1 h2 h3; rw [HY] at this; exact this)
  clear WL0 HY hy
  have SS : Hid (∀ W, Lies W → Calls Tryd.prog 9 #[.string s] W fun e w' => ∃ A c, e = .returned (.tuple #[.slice A 0 c, .int .i64 0, .int .i64 0]) ∧ ToksIn w' w'.heap.size A (offs s.size []) ∧ Head A ∧ 0 ≤ c ∧ Below W.heap.size W w') := Lib.hid (fun W h => scan_ok_any s [] hsc (by omega) W h)
  have WS : Hid (∀ (A' : Option Addr) (c' t' : Nat) (W : World), Lies W → ToksIn W t' A' (offs s.size []) → t' ≤ W.heap.size → Calls Tryd.prog 8 #[.slice A' 0 c'] W fun e w' => e = .returned (.string ⟨#[]⟩) ∧ Below W.heap.size W w') := Lib.hid (fun A' c' t' W h h1 h2 => write_offs A' c' t' s.size [] [] rfl (by decide) (fun x hx => by simp at hx) W h h1 h2)
  clear hsc
  clear hw hf hT hLt
  go_enter Tryd.func3, Tryd.ntmps3
  go_upto_region 9 with (first
    | (go_at_call 6; (with_reducible refine (SM.out).mono ?_); rintro e w1 ⟨rfl, h⟩; have B1 := Lib.hid h; clear h)
    | (go_at_call 7; (with_reducible refine (FW.out _ (HT.out.below (B1.out.mono htop))).mono ?_); rintro e w' ⟨rfl, rfl⟩)
    | (go_at_call 8; (with_reducible refine (WL.out _ (HW.out.on B1.out) (HT.out.below (B1.out.mono htop)) (Nat.le_trans htop B1.out.size)).mono ?_); rintro e w2 ⟨rfl, h⟩; have B2 := Lib.hid (B1.out.trans (h.mono B1.out.size)); clear h))
  go_wp2_with (first
    | (go_at_call 9; (with_reducible refine (SS.out _ (HW.out.on B2.out)).mono ?_); rintro e v1 ⟨A1, c1, rfl, h1, h2, h3, h⟩; have U1 := Lib.hid h1; have C1 := Lib.hid (B2.out.trans (h.mono B2.out.size)); clear h h1 h2 h3)
    | (go_at_call 8; have U1' := U1; (with_reducible refine (WS.out _ _ _ _ (HW.out.on C1.out) U1.out (Nat.le_refl _)).mono ?_); rintro e v2 ⟨rfl, h⟩; have C2 := Lib.hid (C1.out.trans (h.mono C1.out.size)); clear h))
  go_ret
  exact ⟨rfl, C2.out⟩
set_option maxRecDepth 100000 in
set_option maxHeartbeats 4000000 in
theorem back_F1S3 (s : ByteArray) (A : Option Addr) (c top : Nat) (L : List (Tk × Int)) (w : World) (hw : Lies w) (hs : ¬ 2000 < s.size) (hT : ToksIn w top A L) (htop : top ≤ w.heap.size) (hf : fewB L = true)
    (hy : wrt (L.map Prod.fst) = [])
    (D : List (Tk × Nat)) (hsc : scan (ls s) = .ok D) (hv : wrt (D.map Prod.fst) ≠ []) (hvb : 32768 < (wrt (D.map Prod.fst)).length) :
    Calls Tryd.prog 3 #[.string s, .slice A L.length c] w fun e w' => e = .returned (.bool true) ∧ Below w.heap.size w w' := by
  have hcopy := few_ok hf
  obtain ⟨hL, hLt⟩ := hcopy
  have d1 : decide ((2000 : Int) < (s.size : Int)) = false := by simp; omega
  have SM := Lib.hid (small_any w hw)
  have FW : Hid (∀ W, ToksIn W top A L → Calls Tryd.prog 7 #[.slice A L.length c] W fun e w' => e = .returned (.bool true) ∧ W = w') := Lib.hid (fun W h => by
    have := few_any A c top L W h (by omega)
    rwa [hf] at this)
  have WL0 : ∀ W, Lies W → ToksIn W top A L → top ≤ W.heap.size → Calls Tryd.prog 8 #[.slice A L.length c] W fun e w' => e = .returned (.string (mk (wrt (L.map Prod.fst)))) ∧ Below W.heap.size W w' := fun W h1 h2 h3 => write_any A c top L W h1 h2 h3 (by omega) hLt
  have HT := Lib.hid hT
  have HW := Lib.hid hw
  have HY : mk (wrt (L.map Prod.fst)) = ⟨#[]⟩ := by rw [hy]; rfl
  have WL : Hid (∀ W, Lies W → ToksIn W top A L → top ≤ W.heap.size → Calls Tryd.prog 8 #[.slice A L.length c] W fun e w' => e = .returned (.string ⟨#[]⟩) ∧ Below W.heap.size W w') := Lib.hid (fun W h1 h2 h3 => by have := WL0 W h1 h2 h3; rw [HY] at this; exact this)
  clear WL0 HY hy
  obtain ⟨hDl, hDt⟩ := scan_len D (ls s) hsc
  rw [ls_length] at hDl hDt
  have hDt2 : ∀ x ∈ D, x.1.t.length ≤ 4200 := fun x hx => by have := hDt x hx; omega
  have SS : Hid (∀ W, Lies W → Calls Tryd.prog 9 #[.string s] W fun e w' => ∃ A c, e = .returned (.tuple #[.slice A D.length c, .int .i64 0, .int .i64 0]) ∧ ToksIn w' w'.heap.size A (offs s.size D) ∧ Head A ∧ D.length ≤ c ∧ Below W.heap.size W w') := Lib.hid (fun W h => scan_ok_any s D hsc (by omega) W h)
  obtain ⟨v, hvv⟩ : ∃ v, v = mk (wrt (D.map Prod.fst)) := ⟨_, rfl⟩
  have WS : Hid (∀ (A' : Option Addr) (c' t' : Nat) (W : World), Lies W → ToksIn W t' A' (offs s.size D) → t' ≤ W.heap.size → Calls Tryd.prog 8 #[.slice A' D.length c'] W fun e w' => e = .returned (.string v) ∧ Below W.heap.size W w') := Lib.hid (fun A' c' t' W h h1 h2 => by
    have := write_offs A' c' t' s.size D _ rfl (by omega) hDt2 W h h1 h2
    rw [← hvv] at this
    exact this)
  have hve : v.toList.isEmpty = false := by rw [hvv]; exact empty_of _ hv
  have hve2 : (!v.toList.isEmpty) = true := by rw [hve]; rfl
  have hvz : v.size = (wrt (D.map Prod.fst)).length := by rw [hvv, size_mk]
  have d3 : decide ((32768 : Int) < (v.size : Int)) = true := by rw [hvz]; simp; omega
  have d4 : ((D.length : Int) == 0) = false := by
    have : D ≠ [] := by rintro rfl; exact hv rfl
    have := List.length_pos_iff.2 this
    simp; omega
  clear hsc hv hvb hvv hvz hDt hDt2
  clear hw hf hT hLt
  go_enter Tryd.func3, Tryd.ntmps3
  go_upto_region 9 with (first
    | (go_at_call 6; (with_reducible refine (SM.out).mono ?_); rintro e w1 ⟨rfl, h⟩; have B1 := Lib.hid h; clear h)
    | (go_at_call 7; (with_reducible refine (FW.out _ (HT.out.below (B1.out.mono htop))).mono ?_); rintro e w' ⟨rfl, rfl⟩)
    | (go_at_call 8; (with_reducible refine (WL.out _ (HW.out.on B1.out) (HT.out.below (B1.out.mono htop)) (Nat.le_trans htop B1.out.size)).mono ?_); rintro e w2 ⟨rfl, h⟩; have B2 := Lib.hid (B1.out.trans (h.mono B1.out.size)); clear h))
  go_wp2_with (first
    | (go_at_call 9; (with_reducible refine (SS.out _ (HW.out.on B2.out)).mono ?_); rintro e v1 ⟨A1, c1, rfl, h1, h2, h3, h⟩; have U1 := Lib.hid h1; have C1 := Lib.hid (B2.out.trans (h.mono B2.out.size)); clear h h1 h2 h3)
    | (go_at_call 8; have U1' := U1; (with_reducible refine (WS.out _ _ _ _ (HW.out.on C1.out) U1.out (Nat.le_refl _)).mono ?_); rintro e v2 ⟨rfl, h⟩; have C2 := Lib.hid (C1.out.trans (h.mono C1.out.size)); clear h))
  go_ret
  exact ⟨rfl, C2.out⟩
set_option maxRecDepth 100000 in
set_option maxHeartbeats 4000000 in
theorem back_F1S4 (s : ByteArray) (A : Option Addr) (c top : Nat) (L : List (Tk × Int)) (w : World) (hw : Lies w) (hs : ¬ 2000 < s.size) (hT : ToksIn w top A L) (htop : top ≤ w.heap.size) (hf : fewB L = true)
    (hy : wrt (L.map Prod.fst) = [])
    (D : List (Tk × Nat)) (hsc : scan (ls s) = .ok D) (hv : wrt (D.map Prod.fst) ≠ []) (hvb : ¬ 32768 < (wrt (D.map Prod.fst)).length) :
    Calls Tryd.prog 3 #[.string s, .slice A L.length c] w fun e w' => e = .returned (.bool true) ∧ Below w.heap.size w w' := by
  have hcopy := few_ok hf
  obtain ⟨hL, hLt⟩ := hcopy
  have d1 : decide ((2000 : Int) < (s.size : Int)) = false := by simp; omega
  have SM := Lib.hid (small_any w hw)
  have FW : Hid (∀ W, ToksIn W top A L → Calls Tryd.prog 7 #[.slice A L.length c] W fun e w' => e = .returned (.bool true) ∧ W = w') := Lib.hid (fun W h => by
    have := few_any A c top L W h (by omega)
    rwa [hf] at this)
  have WL0 : ∀ W, Lies W → ToksIn W top A L → top ≤ W.heap.size → Calls Tryd.prog 8 #[.slice A L.length c] W fun e w' => e = .returned (.string (mk (wrt (L.map Prod.fst)))) ∧ Below W.heap.size W w' := fun W h1 h2 h3 => write_any A c top L W h1 h2 h3 (by omega) hLt
  have HT := Lib.hid hT
  have HW := Lib.hid hw
  have HY : mk (wrt (L.map Prod.fst)) = ⟨#[]⟩ := by rw [hy]; rfl
  have WL : Hid (∀ W, Lies W → ToksIn W top A L → top ≤ W.heap.size → Calls Tryd.prog 8 #[.slice A L.length c] W fun e w' => e = .returned (.string ⟨#[]⟩) ∧ Below W.heap.size W w') := Lib.hid (fun W h1 h2 h3 => by have := WL0 W h1 h2 h3; rw [HY] at this; exact this)
  clear WL0 HY hy
  obtain ⟨hDl, hDt⟩ := scan_len D (ls s) hsc
  rw [ls_length] at hDl hDt
  have hDt2 : ∀ x ∈ D, x.1.t.length ≤ 4200 := fun x hx => by have := hDt x hx; omega
  have SS : Hid (∀ W, Lies W → Calls Tryd.prog 9 #[.string s] W fun e w' => ∃ A c, e = .returned (.tuple #[.slice A D.length c, .int .i64 0, .int .i64 0]) ∧ ToksIn w' w'.heap.size A (offs s.size D) ∧ Head A ∧ D.length ≤ c ∧ Below W.heap.size W w') := Lib.hid (fun W h => scan_ok_any s D hsc (by omega) W h)
  obtain ⟨v, hvv⟩ : ∃ v, v = mk (wrt (D.map Prod.fst)) := ⟨_, rfl⟩
  have WS : Hid (∀ (A' : Option Addr) (c' t' : Nat) (W : World), Lies W → ToksIn W t' A' (offs s.size D) → t' ≤ W.heap.size → Calls Tryd.prog 8 #[.slice A' D.length c'] W fun e w' => e = .returned (.string v) ∧ Below W.heap.size W w') := Lib.hid (fun A' c' t' W h h1 h2 => by
    have := write_offs A' c' t' s.size D _ rfl (by omega) hDt2 W h h1 h2
    rw [← hvv] at this
    exact this)
  have hve : v.toList.isEmpty = false := by rw [hvv]; exact empty_of _ hv
  have hve2 : (!v.toList.isEmpty) = true := by rw [hve]; rfl
  have hvz : v.size = (wrt (D.map Prod.fst)).length := by rw [hvv, size_mk]
  have d3 : decide ((32768 : Int) < (v.size : Int)) = false := by rw [hvz]; simp; omega
  obtain ⟨G, hG, hGm⟩ := scan_wrt hv
  have hGl : G.length = D.length := by have := congrArg List.length hGm; simpa using this
  have SV := Lib.hid (fun W h => scan_ok_any v G (by rw [hvv, ls_mk]; exact hG) (by omega) W h)
  have SG : Hid (∀ (A1 A2 : Option Addr) (c1 c2 t1 t2 : Nat) (W : World), ToksIn W t1 A1 (offs s.size D) → ToksIn W t2 A2 (offs v.size G) → Calls Tryd.prog 10 #[.slice A1 D.length c1, .slice A2 G.length c2] W fun e w' => e = .returned (.bool true) ∧ Below W.heap.size W w') := Lib.hid (fun A1 A2 c1 c2 t1 t2 W h1 h2 => same_any' A1 A2 c1 c2 t1 t2 _ _ _ _ true (offs_length _ _) (offs_length _ _) (by rw [offs_map, offs_map, hGm]; simp) (by omega) (by omega) W h1 h2)
  clear hsc hv hvb hvv hvz hDt hDt2 hG hGm hGl
  clear hw hf hT hLt
  go_enter Tryd.func3, Tryd.ntmps3
  go_upto_region 9 with (first
    | (go_at_call 6; (with_reducible refine (SM.out).mono ?_); rintro e w1 ⟨rfl, h⟩; have B1 := Lib.hid h; clear h)
    | (go_at_call 7; (with_reducible refine (FW.out _ (HT.out.below (B1.out.mono htop))).mono ?_); rintro e w' ⟨rfl, rfl⟩)
    | (go_at_call 8; (with_reducible refine (WL.out _ (HW.out.on B1.out) (HT.out.below (B1.out.mono htop)) (Nat.le_trans htop B1.out.size)).mono ?_); rintro e w2 ⟨rfl, h⟩; have B2 := Lib.hid (B1.out.trans (h.mono B1.out.size)); clear h))
  go_wp2_with (first
    | (go_at_call 9; have U2' := U2; (with_reducible refine (SV.out _ (HW.out.on C2.out)).mono ?_); rintro e v3 ⟨A3, c3, rfl, h1, h2, h3, h⟩; have V3 := Lib.hid h1; have U3 := Lib.hid (U2.out.below (h.mono S2.out)); have C3 := Lib.hid (C2.out.trans (h.mono C2.out.size)); clear h h1 h2 h3)
    | (go_at_call 9; (with_reducible refine (SS.out _ (HW.out.on B2.out)).mono ?_); rintro e v1 ⟨A1, c1, rfl, h1, h2, h3, h⟩; have U1 := Lib.hid h1; have C1 := Lib.hid (B2.out.trans (h.mono B2.out.size)); clear h h1 h2 h3)
    | (go_at_call 8; have U1' := U1; (with_reducible refine (WS.out _ _ _ _ (HW.out.on C1.out) U1.out (Nat.le_refl _)).mono ?_); rintro e v2 ⟨rfl, h⟩; have U2 := Lib.hid (U1.out.below h); have S2 := Lib.hid h.size; have C2 := Lib.hid (C1.out.trans (h.mono C1.out.size)); clear h)
    | (go_at_call 10; (with_reducible refine (SG.out _ _ _ _ _ _ _ U3.out V3.out).mono ?_); rintro e v4 ⟨rfl, h⟩; have C4 := Lib.hid (C3.out.trans (h.mono C3.out.size)); clear h))
  go_ret
  exact ⟨rfl, C4.out⟩
set_option maxRecDepth 100000 in
set_option maxHeartbeats 4000000 in
theorem back_F2S1 (s : ByteArray) (A : Option Addr) (c top : Nat) (L : List (Tk × Int)) (w : World) (hw : Lies w) (hs : ¬ 2000 < s.size) (hT : ToksIn w top A L) (htop : top ≤ w.heap.size) (hf : fewB L = true)
    (hy : wrt (L.map Prod.fst) ≠ []) (hb : 32768 < (wrt (L.map Prod.fst)).length)
    (er k : Nat) (hsc : scan (ls s) = .error (er, k)) :
    Calls Tryd.prog 3 #[.string s, .slice A L.length c] w fun e w' => e = .returned (.bool true) ∧ Below w.heap.size w w' := by
  have hcopy := few_ok hf
  obtain ⟨hL, hLt⟩ := hcopy
  have d1 : decide ((2000 : Int) < (s.size : Int)) = false := by simp; omega
  have SM := Lib.hid (small_any w hw)
  have FW : Hid (∀ W, ToksIn W top A L → Calls Tryd.prog 7 #[.slice A L.length c] W fun e w' => e = .returned (.bool true) ∧ W = w') := Lib.hid (fun W h => by
    have := few_any A c top L W h (by omega)
    rwa [hf] at this)
  have WL0 : ∀ W, Lies W → ToksIn W top A L → top ≤ W.heap.size → Calls Tryd.prog 8 #[.slice A L.length c] W fun e w' => e = .returned (.string (mk (wrt (L.map Prod.fst)))) ∧ Below W.heap.size W w' := fun W h1 h2 h3 => write_any A c top L W h1 h2 h3 (by omega) hLt
  have HT := Lib.hid hT
  have HW := Lib.hid hw
  obtain ⟨y, hyy⟩ : ∃ y, y = mk (wrt (L.map Prod.fst)) := ⟨_, rfl⟩
  have HY : mk (wrt (L.map Prod.fst)) = y := hyy.symm
  have he : y.toList.isEmpty = false := by rw [hyy]; exact empty_of _ hy
  have he2 : (!y.toList.isEmpty) = true := by rw [he]; rfl
  have hsz : y.size = (wrt (L.map Prod.fst)).length := by rw [hyy, size_mk]
  have WL : Hid (∀ W, Lies W → ToksIn W top A L → top ≤ W.heap.size → Calls Tryd.prog 8 #[.slice A L.length c] W fun e w' => e = .returned (.string y) ∧ Below W.heap.size W w') := Lib.hid (fun W h1 h2 h3 => by have := WL0 W h1 h2 h3; rw [HY] at this; exact this)
  have d2 : decide ((y.size : Int) ≤ 32768) = false := by rw [hsz]; simp; omega
  clear WL0 HY hyy hy hsz hb
  have hk := scan_error _ (ls s) (Nat.le_refl _) er k hsc
  rw [ls_length] at hk
  have SS : Hid (∀ W, Lies W → Calls Tryd.prog 9 #[.string s] W fun e w' => e = .returned (.tuple #[.slice none 0 0, .int .i64 (er : Int), .int .i64 ((s.size - k : Nat) : Int)]) ∧ Below W.heap.size W w') := Lib.hid (fun W h => scan_err_any s er k hsc (by omega) W h)
  have hne := scan_errc hsc
  obtain ⟨q, hq⟩ : ∃ q, q = s.size - k := ⟨_, rfl⟩
  have hq1 : q < s.size := by omega
  rw [← hq] at SS
  have d3 : decide ((q : Int) < max (s.size : Int) 1) = true := decide_eq_true (by omega)
  have d4 : decide ((0 : Int) ≤ (q : Int)) = true := decide_eq_true (by omega)
  have d5 : (q : Int) < max (s.size : Int) 1 := by omega
  clear hsc hq hk
  clear hw hf hT hLt
  go_enter Tryd.func3, Tryd.ntmps3
  go_upto_region 9 with (first
    | (go_at_call 6; (with_reducible refine (SM.out).mono ?_); rintro e w1 ⟨rfl, h⟩; have B1 := Lib.hid h; clear h)
    | (go_at_call 7; (with_reducible refine (FW.out _ (HT.out.below (B1.out.mono htop))).mono ?_); rintro e w' ⟨rfl, rfl⟩)
    | (go_at_call 8; (with_reducible refine (WL.out _ (HW.out.on B1.out) (HT.out.below (B1.out.mono htop)) (Nat.le_trans htop B1.out.size)).mono ?_); rintro e w2 ⟨rfl, h⟩; have B2 := Lib.hid (B1.out.trans (h.mono B1.out.size)); clear h))
  go_wp2_with (first
    | (go_at_call 9; (with_reducible refine (SS.out _ (HW.out.on B2.out)).mono ?_); rintro e v1 ⟨rfl, h⟩; have C1 := Lib.hid (B2.out.trans (h.mono B2.out.size)); clear h))
  go_ret
  exact ⟨rfl, C1.out⟩
set_option maxRecDepth 100000 in
set_option maxHeartbeats 4000000 in
theorem back_F2S2 (s : ByteArray) (A : Option Addr) (c top : Nat) (L : List (Tk × Int)) (w : World) (hw : Lies w) (hs : ¬ 2000 < s.size) (hT : ToksIn w top A L) (htop : top ≤ w.heap.size) (hf : fewB L = true)
    (hy : wrt (L.map Prod.fst) ≠ []) (hb : 32768 < (wrt (L.map Prod.fst)).length)
    (hsc : scan (ls s) = .ok []) :
    Calls Tryd.prog 3 #[.string s, .slice A L.length c] w fun e w' => e = .returned (.bool true) ∧ Below w.heap.size w w' := by
  have hcopy := few_ok hf
  obtain ⟨hL, hLt⟩ := hcopy
  have d1 : decide ((2000 : Int) < (s.size : Int)) = false := by simp; omega
  have SM := Lib.hid (small_any w hw)
  have FW : Hid (∀ W, ToksIn W top A L → Calls Tryd.prog 7 #[.slice A L.length c] W fun e w' => e = .returned (.bool true) ∧ W = w') := Lib.hid (fun W h => by
    have := few_any A c top L W h (by omega)
    rwa [hf] at this)
  have WL0 : ∀ W, Lies W → ToksIn W top A L → top ≤ W.heap.size → Calls Tryd.prog 8 #[.slice A L.length c] W fun e w' => e = .returned (.string (mk (wrt (L.map Prod.fst)))) ∧ Below W.heap.size W w' := fun W h1 h2 h3 => write_any A c top L W h1 h2 h3 (by omega) hLt
  have HT := Lib.hid hT
  have HW := Lib.hid hw
  obtain ⟨y, hyy⟩ : ∃ y, y = mk (wrt (L.map Prod.fst)) := ⟨_, rfl⟩
  have HY : mk (wrt (L.map Prod.fst)) = y := hyy.symm
  have he : y.toList.isEmpty = false := by rw [hyy]; exact empty_of _ hy
  have he2 : (!y.toList.isEmpty) = true := by rw [he]; rfl
  have hsz : y.size = (wrt (L.map Prod.fst)).length := by rw [hyy, size_mk]
  have WL : Hid (∀ W, Lies W → ToksIn W top A L → top ≤ W.heap.size → Calls Tryd.prog 8 #[.slice A L.length c] W fun e w' => e = .returned (.string y) ∧ Below W.heap.size W w') := Lib.hid (fun W h1 h2 h3 => by have := WL0 W h1 h2 h3; rw [HY] at this; exact this)
  have d2 : decide ((y.size : Int) ≤ 32768) = false := by rw [hsz]; simp; omega
  clear WL0 HY hyy hy hsz hb
  have SS : Hid (∀ W, Lies W → Calls Tryd.prog 9 #[.string s] W fun e w' => ∃ A c, e = .returned (.tuple #[.slice A 0 c, .int .i64 0, .int .i64 0]) ∧ ToksIn w' w'.heap.size A (offs s.size []) ∧ Head A ∧ 0 ≤ c ∧ Below W.heap.size W w') := Lib.hid (fun W h => scan_ok_any s [] hsc (by omega) W h)
  have WS : Hid (∀ (A' : Option Addr) (c' t' : Nat) (W : World), Lies W → ToksIn W t' A' (offs s.size []) → t' ≤ W.heap.size → Calls Tryd.prog 8 #[.slice A' 0 c'] W fun e w' => e = .returned (.string ⟨#[]⟩) ∧ Below W.heap.size W w') := Lib.hid (fun A' c' t' W h h1 h2 => write_offs A' c' t' s.size [] [] rfl (by decide) (fun x hx => by simp at hx) W h h1 h2)
  clear hsc
  clear hw hf hT hLt
  go_enter Tryd.func3, Tryd.ntmps3
  go_upto_region 9 with (first
    | (go_at_call 6; (with_reducible refine (SM.out).mono ?_); rintro e w1 ⟨rfl, h⟩; have B1 := Lib.hid h; clear h)
    | (go_at_call 7; (with_reducible refine (FW.out _ (HT.out.below (B1.out.mono htop))).mono ?_); rintro e w' ⟨rfl, rfl⟩)
    | (go_at_call 8; (with_reducible refine (WL.out _ (HW.out.on B1.out) (HT.out.below (B1.out.mono htop)) (Nat.le_trans htop B1.out.size)).mono ?_); rintro e w2 ⟨rfl, h⟩; have B2 := Lib.hid (B1.out.trans (h.mono B1.out.size)); clear h))
  go_wp2_with (first
    | (go_at_call 9; (with_reducible refine (SS.out _ (HW.out.on B2.out)).mono ?_); rintro e v1 ⟨A1, c1, rfl, h1, h2, h3, h⟩; have U1 := Lib.hid h1; have C1 := Lib.hid (B2.out.trans (h.mono B2.out.size)); clear h h1 h2 h3)
    | (go_at_call 8; have U1' := U1; (with_reducible refine (WS.out _ _ _ _ (HW.out.on C1.out) U1.out (Nat.le_refl _)).mono ?_); rintro e v2 ⟨rfl, h⟩; have C2 := Lib.hid (C1.out.trans (h.mono C1.out.size)); clear h))
  go_ret
  exact ⟨rfl, C2.out⟩
set_option maxRecDepth 100000 in
set_option maxHeartbeats 4000000 in
theorem back_F2S3 (s : ByteArray) (A : Option Addr) (c top : Nat) (L : List (Tk × Int)) (w : World) (hw : Lies w) (hs : ¬ 2000 < s.size) (hT : ToksIn w top A L) (htop : top ≤ w.heap.size) (hf : fewB L = true)
    (hy : wrt (L.map Prod.fst) ≠ []) (hb : 32768 < (wrt (L.map Prod.fst)).length)
    (D : List (Tk × Nat)) (hsc : scan (ls s) = .ok D) (hv : wrt (D.map Prod.fst) ≠ []) (hvb : 32768 < (wrt (D.map Prod.fst)).length) :
    Calls Tryd.prog 3 #[.string s, .slice A L.length c] w fun e w' => e = .returned (.bool true) ∧ Below w.heap.size w w' := by
  have hcopy := few_ok hf
  obtain ⟨hL, hLt⟩ := hcopy
  have d1 : decide ((2000 : Int) < (s.size : Int)) = false := by simp; omega
  have SM := Lib.hid (small_any w hw)
  have FW : Hid (∀ W, ToksIn W top A L → Calls Tryd.prog 7 #[.slice A L.length c] W fun e w' => e = .returned (.bool true) ∧ W = w') := Lib.hid (fun W h => by
    have := few_any A c top L W h (by omega)
    rwa [hf] at this)
  have WL0 : ∀ W, Lies W → ToksIn W top A L → top ≤ W.heap.size → Calls Tryd.prog 8 #[.slice A L.length c] W fun e w' => e = .returned (.string (mk (wrt (L.map Prod.fst)))) ∧ Below W.heap.size W w' := fun W h1 h2 h3 => write_any A c top L W h1 h2 h3 (by omega) hLt
  have HT := Lib.hid hT
  have HW := Lib.hid hw
  obtain ⟨y, hyy⟩ : ∃ y, y = mk (wrt (L.map Prod.fst)) := ⟨_, rfl⟩
  have HY : mk (wrt (L.map Prod.fst)) = y := hyy.symm
  have he : y.toList.isEmpty = false := by rw [hyy]; exact empty_of _ hy
  have he2 : (!y.toList.isEmpty) = true := by rw [he]; rfl
  have hsz : y.size = (wrt (L.map Prod.fst)).length := by rw [hyy, size_mk]
  have WL : Hid (∀ W, Lies W → ToksIn W top A L → top ≤ W.heap.size → Calls Tryd.prog 8 #[.slice A L.length c] W fun e w' => e = .returned (.string y) ∧ Below W.heap.size W w') := Lib.hid (fun W h1 h2 h3 => by have := WL0 W h1 h2 h3; rw [HY] at this; exact this)
  have d2 : decide ((y.size : Int) ≤ 32768) = false := by rw [hsz]; simp; omega
  clear WL0 HY hyy hy hsz hb
  obtain ⟨hDl, hDt⟩ := scan_len D (ls s) hsc
  rw [ls_length] at hDl hDt
  have hDt2 : ∀ x ∈ D, x.1.t.length ≤ 4200 := fun x hx => by have := hDt x hx; omega
  have SS : Hid (∀ W, Lies W → Calls Tryd.prog 9 #[.string s] W fun e w' => ∃ A c, e = .returned (.tuple #[.slice A D.length c, .int .i64 0, .int .i64 0]) ∧ ToksIn w' w'.heap.size A (offs s.size D) ∧ Head A ∧ D.length ≤ c ∧ Below W.heap.size W w') := Lib.hid (fun W h => scan_ok_any s D hsc (by omega) W h)
  obtain ⟨v, hvv⟩ : ∃ v, v = mk (wrt (D.map Prod.fst)) := ⟨_, rfl⟩
  have WS : Hid (∀ (A' : Option Addr) (c' t' : Nat) (W : World), Lies W → ToksIn W t' A' (offs s.size D) → t' ≤ W.heap.size → Calls Tryd.prog 8 #[.slice A' D.length c'] W fun e w' => e = .returned (.string v) ∧ Below W.heap.size W w') := Lib.hid (fun A' c' t' W h h1 h2 => by
    have := write_offs A' c' t' s.size D _ rfl (by omega) hDt2 W h h1 h2
    rw [← hvv] at this
    exact this)
  have hve : v.toList.isEmpty = false := by rw [hvv]; exact empty_of _ hv
  have hve2 : (!v.toList.isEmpty) = true := by rw [hve]; rfl
  have hvz : v.size = (wrt (D.map Prod.fst)).length := by rw [hvv, size_mk]
  have d3 : decide ((32768 : Int) < (v.size : Int)) = true := by rw [hvz]; simp; omega
  have d4 : ((D.length : Int) == 0) = false := by
    have : D ≠ [] := by rintro rfl; exact hv rfl
    have := List.length_pos_iff.2 this
    simp; omega
  clear hsc hv hvb hvv hvz hDt hDt2
  clear hw hf hT hLt
  go_enter Tryd.func3, Tryd.ntmps3
  go_upto_region 9 with (first
    | (go_at_call 6; (with_reducible refine (SM.out).mono ?_); rintro e w1 ⟨rfl, h⟩; have B1 := Lib.hid h; clear h)
    | (go_at_call 7; (with_reducible refine (FW.out _ (HT.out.below (B1.out.mono htop))).mono ?_); rintro e w' ⟨rfl, rfl⟩)
    | (go_at_call 8; (with_reducible refine (WL.out _ (HW.out.on B1.out) (HT.out.below (B1.out.mono htop)) (Nat.le_trans htop B1.out.size)).mono ?_); rintro e w2 ⟨rfl, h⟩; have B2 := Lib.hid (B1.out.trans (h.mono B1.out.size)); clear h))
  go_wp2_with (first
    | (go_at_call 9; (with_reducible refine (SS.out _ (HW.out.on B2.out)).mono ?_); rintro e v1 ⟨A1, c1, rfl, h1, h2, h3, h⟩; have U1 := Lib.hid h1; have C1 := Lib.hid (B2.out.trans (h.mono B2.out.size)); clear h h1 h2 h3)
    | (go_at_call 8; have U1' := U1; (with_reducible refine (WS.out _ _ _ _ (HW.out.on C1.out) U1.out (Nat.le_refl _)).mono ?_); rintro e v2 ⟨rfl, h⟩; have C2 := Lib.hid (C1.out.trans (h.mono C1.out.size)); clear h))
  go_ret
  exact ⟨rfl, C2.out⟩
set_option maxRecDepth 100000 in
set_option maxHeartbeats 4000000 in
theorem back_F2S4 (s : ByteArray) (A : Option Addr) (c top : Nat) (L : List (Tk × Int)) (w : World) (hw : Lies w) (hs : ¬ 2000 < s.size) (hT : ToksIn w top A L) (htop : top ≤ w.heap.size) (hf : fewB L = true)
    (hy : wrt (L.map Prod.fst) ≠ []) (hb : 32768 < (wrt (L.map Prod.fst)).length)
    (D : List (Tk × Nat)) (hsc : scan (ls s) = .ok D) (hv : wrt (D.map Prod.fst) ≠ []) (hvb : ¬ 32768 < (wrt (D.map Prod.fst)).length) :
    Calls Tryd.prog 3 #[.string s, .slice A L.length c] w fun e w' => e = .returned (.bool true) ∧ Below w.heap.size w w' := by
  have hcopy := few_ok hf
  obtain ⟨hL, hLt⟩ := hcopy
  have d1 : decide ((2000 : Int) < (s.size : Int)) = false := by simp; omega
  have SM := Lib.hid (small_any w hw)
  have FW : Hid (∀ W, ToksIn W top A L → Calls Tryd.prog 7 #[.slice A L.length c] W fun e w' => e = .returned (.bool true) ∧ W = w') := Lib.hid (fun W h => by
    have := few_any A c top L W h (by omega)
    rwa [hf] at this)
  have WL0 : ∀ W, Lies W → ToksIn W top A L → top ≤ W.heap.size → Calls Tryd.prog 8 #[.slice A L.length c] W fun e w' => e = .returned (.string (mk (wrt (L.map Prod.fst)))) ∧ Below W.heap.size W w' := fun W h1 h2 h3 => write_any A c top L W h1 h2 h3 (by omega) hLt
  have HT := Lib.hid hT
  have HW := Lib.hid hw
  obtain ⟨y, hyy⟩ : ∃ y, y = mk (wrt (L.map Prod.fst)) := ⟨_, rfl⟩
  have HY : mk (wrt (L.map Prod.fst)) = y := hyy.symm
  have he : y.toList.isEmpty = false := by rw [hyy]; exact empty_of _ hy
  have he2 : (!y.toList.isEmpty) = true := by rw [he]; rfl
  have hsz : y.size = (wrt (L.map Prod.fst)).length := by rw [hyy, size_mk]
  have WL : Hid (∀ W, Lies W → ToksIn W top A L → top ≤ W.heap.size → Calls Tryd.prog 8 #[.slice A L.length c] W fun e w' => e = .returned (.string y) ∧ Below W.heap.size W w') := Lib.hid (fun W h1 h2 h3 => by have := WL0 W h1 h2 h3; rw [HY] at this; exact this)
  have d2 : decide ((y.size : Int) ≤ 32768) = false := by rw [hsz]; simp; omega
  clear WL0 HY hyy hy hsz hb
  obtain ⟨hDl, hDt⟩ := scan_len D (ls s) hsc
  rw [ls_length] at hDl hDt
  have hDt2 : ∀ x ∈ D, x.1.t.length ≤ 4200 := fun x hx => by have := hDt x hx; omega
  have SS : Hid (∀ W, Lies W → Calls Tryd.prog 9 #[.string s] W fun e w' => ∃ A c, e = .returned (.tuple #[.slice A D.length c, .int .i64 0, .int .i64 0]) ∧ ToksIn w' w'.heap.size A (offs s.size D) ∧ Head A ∧ D.length ≤ c ∧ Below W.heap.size W w') := Lib.hid (fun W h => scan_ok_any s D hsc (by omega) W h)
  obtain ⟨v, hvv⟩ : ∃ v, v = mk (wrt (D.map Prod.fst)) := ⟨_, rfl⟩
  have WS : Hid (∀ (A' : Option Addr) (c' t' : Nat) (W : World), Lies W → ToksIn W t' A' (offs s.size D) → t' ≤ W.heap.size → Calls Tryd.prog 8 #[.slice A' D.length c'] W fun e w' => e = .returned (.string v) ∧ Below W.heap.size W w') := Lib.hid (fun A' c' t' W h h1 h2 => by
    have := write_offs A' c' t' s.size D _ rfl (by omega) hDt2 W h h1 h2
    rw [← hvv] at this
    exact this)
  have hve : v.toList.isEmpty = false := by rw [hvv]; exact empty_of _ hv
  have hve2 : (!v.toList.isEmpty) = true := by rw [hve]; rfl
  have hvz : v.size = (wrt (D.map Prod.fst)).length := by rw [hvv, size_mk]
  have d3 : decide ((32768 : Int) < (v.size : Int)) = false := by rw [hvz]; simp; omega
  obtain ⟨G, hG, hGm⟩ := scan_wrt hv
  have hGl : G.length = D.length := by have := congrArg List.length hGm; simpa using this
  have SV := Lib.hid (fun W h => scan_ok_any v G (by rw [hvv, ls_mk]; exact hG) (by omega) W h)
  have SG : Hid (∀ (A1 A2 : Option Addr) (c1 c2 t1 t2 : Nat) (W : World), ToksIn W t1 A1 (offs s.size D) → ToksIn W t2 A2 (offs v.size G) → Calls Tryd.prog 10 #[.slice A1 D.length c1, .slice A2 G.length c2] W fun e w' => e = .returned (.bool true) ∧ Below W.heap.size W w') := Lib.hid (fun A1 A2 c1 c2 t1 t2 W h1 h2 => same_any' A1 A2 c1 c2 t1 t2 _ _ _ _ true (offs_length _ _) (offs_length _ _) (by rw [offs_map, offs_map, hGm]; simp) (by omega) (by omega) W h1 h2)
  clear hsc hv hvb hvv hvz hDt hDt2 hG hGm hGl
  clear hw hf hT hLt
  go_enter Tryd.func3, Tryd.ntmps3
  go_upto_region 9 with (first
    | (go_at_call 6; (with_reducible refine (SM.out).mono ?_); rintro e w1 ⟨rfl, h⟩; have B1 := Lib.hid h; clear h)
    | (go_at_call 7; (with_reducible refine (FW.out _ (HT.out.below (B1.out.mono htop))).mono ?_); rintro e w' ⟨rfl, rfl⟩)
    | (go_at_call 8; (with_reducible refine (WL.out _ (HW.out.on B1.out) (HT.out.below (B1.out.mono htop)) (Nat.le_trans htop B1.out.size)).mono ?_); rintro e w2 ⟨rfl, h⟩; have B2 := Lib.hid (B1.out.trans (h.mono B1.out.size)); clear h))
  go_wp2_with (first
    | (go_at_call 9; have U2' := U2; (with_reducible refine (SV.out _ (HW.out.on C2.out)).mono ?_); rintro e v3 ⟨A3, c3, rfl, h1, h2, h3, h⟩; have V3 := Lib.hid h1; have U3 := Lib.hid (U2.out.below (h.mono S2.out)); have C3 := Lib.hid (C2.out.trans (h.mono C2.out.size)); clear h h1 h2 h3)
    | (go_at_call 9; (with_reducible refine (SS.out _ (HW.out.on B2.out)).mono ?_); rintro e v1 ⟨A1, c1, rfl, h1, h2, h3, h⟩; have U1 := Lib.hid h1; have C1 := Lib.hid (B2.out.trans (h.mono B2.out.size)); clear h h1 h2 h3)
    | (go_at_call 8; have U1' := U1; (with_reducible refine (WS.out _ _ _ _ (HW.out.on C1.out) U1.out (Nat.le_refl _)).mono ?_); rintro e v2 ⟨rfl, h⟩; have U2 := Lib.hid (U1.out.below h); have S2 := Lib.hid h.size; have C2 := Lib.hid (C1.out.trans (h.mono C1.out.size)); clear h)
    | (go_at_call 10; (with_reducible refine (SG.out _ _ _ _ _ _ _ U3.out V3.out).mono ?_); rintro e v4 ⟨rfl, h⟩; have C4 := Lib.hid (C3.out.trans (h.mono C3.out.size)); clear h))
  go_ret
  exact ⟨rfl, C4.out⟩
set_option maxRecDepth 100000 in
set_option maxHeartbeats 4000000 in
theorem back_F3S1 (s : ByteArray) (A : Option Addr) (c top : Nat) (L : List (Tk × Int)) (w : World) (hw : Lies w) (hs : ¬ 2000 < s.size) (hT : ToksIn w top A L) (htop : top ≤ w.heap.size) (hf : fewB L = true)
    (hy : wrt (L.map Prod.fst) ≠ []) (hb : ¬ 32768 < (wrt (L.map Prod.fst)).length)
    (er k : Nat) (hsc : scan (ls s) = .error (er, k)) :
    Calls Tryd.prog 3 #[.string s, .slice A L.length c] w fun e w' => e = .returned (.bool true) ∧ Below w.heap.size w w' := by
  have hcopy := few_ok hf
  obtain ⟨hL, hLt⟩ := hcopy
  have d1 : decide ((2000 : Int) < (s.size : Int)) = false := by simp; omega
  have SM := Lib.hid (small_any w hw)
  have FW : Hid (∀ W, ToksIn W top A L → Calls Tryd.prog 7 #[.slice A L.length c] W fun e w' => e = .returned (.bool true) ∧ W = w') := Lib.hid (fun W h => by
    have := few_any A c top L W h (by omega)
    rwa [hf] at this)
  have WL0 : ∀ W, Lies W → ToksIn W top A L → top ≤ W.heap.size → Calls Tryd.prog 8 #[.slice A L.length c] W fun e w' => e = .returned (.string (mk (wrt (L.map Prod.fst)))) ∧ Below W.heap.size W w' := fun W h1 h2 h3 => write_any A c top L W h1 h2 h3 (by omega) hLt
  have HT := Lib.hid hT
  have HW := Lib.hid hw
  obtain ⟨y, hyy⟩ : ∃ y, y = mk (wrt (L.map Prod.fst)) := ⟨_, rfl⟩
  have HY : mk (wrt (L.map Prod.fst)) = y := hyy.symm
  have he : y.toList.isEmpty = false := by rw [hyy]; exact empty_of _ hy
  have he2 : (!y.toList.isEmpty) = true := by rw [he]; rfl
  have hsz : y.size = (wrt (L.map Prod.fst)).length := by rw [hyy, size_mk]
  have WL : Hid (∀ W, Lies W → ToksIn W top A L → top ≤ W.heap.size → Calls Tryd.prog 8 #[.slice A L.length c] W fun e w' => e = .returned (.string y) ∧ Below W.heap.size W w') := Lib.hid (fun W h1 h2 h3 => by have := WL0 W h1 h2 h3; rw [HY] at this; exact this)
  have d2 : decide ((y.size : Int) ≤ 32768) = true := by rw [hsz]; simp; omega
  obtain ⟨E, hE, hEm⟩ := scan_wrt hy
  have hEl : E.length = L.length := by have := congrArg List.length hEm; simpa using this
  have hEt : ∀ x ∈ E, x.1.t.length ≤ 4200 := fun x hx => by
    have : x.1 ∈ L.map Prod.fst := by rw [← hEm]; exact List.mem_map_of_mem hx
    obtain ⟨z, hz, hzx⟩ := List.mem_map.1 this
    rw [← hzx]; exact hLt z hz
  have SY := Lib.hid (fun W h => scan_ok_any y E (by rw [hyy, ls_mk]; exact hE) (by omega) W h)
  have SA : Hid (∀ (A' : Option Addr) (c' t' : Nat) (W : World), ToksIn W t' A' (offs y.size E) → ToksIn W top A L → Calls Tryd.prog 10 #[.slice A' E.length c', .slice A L.length c] W fun e w' => e = .returned (.bool true) ∧ Below W.heap.size W w') := Lib.hid (fun A' c' t' W h1 h2 => same_any' A' A c' c t' top _ _ _ _ true (offs_length _ _) rfl (by rw [offs_map, hEm]; simp) (by omega) (by omega) W h1 h2)
  have WE : Hid (∀ (A' : Option Addr) (c' t' : Nat) (W : World), Lies W → ToksIn W t' A' (offs y.size E) → t' ≤ W.heap.size → Calls Tryd.prog 8 #[.slice A' E.length c'] W fun e w' => e = .returned (.string y) ∧ Below W.heap.size W w') := Lib.hid (fun A' c' t' W h h1 h2 => by
    have := write_offs A' c' t' y.size E _ rfl (by omega) hEt W h h1 h2
    rw [hEm, HY] at this
    exact this)
  have yy := str_beq y
  clear WL0 HY hyy hy hsz hb hE hEm hEl hEt
  have hk := scan_error _ (ls s) (Nat.le_refl _) er k hsc
  rw [ls_length] at hk
  have SS : Hid (∀ W, Lies W → Calls Tryd.prog 9 #[.string s] W fun e w' => e = .returned (.tuple #[.slice none 0 0, .int .i64 (er : Int), .int .i64 ((s.size - k : Nat) : Int)]) ∧ Below W.heap.size W w') := Lib.hid (fun W h => scan_err_any s er k hsc (by omega) W h)
  have hne := scan_errc hsc
  obtain ⟨q, hq⟩ : ∃ q, q = s.size - k := ⟨_, rfl⟩
  have hq1 : q < s.size := by omega
  rw [← hq] at SS
  have d3 : decide ((q : Int) < max (s.size : Int) 1) = true := decide_eq_true (by omega)
  have d4 : decide ((0 : Int) ≤ (q : Int)) = true := decide_eq_true (by omega)
  have d5 : (q : Int) < max (s.size : Int) 1 := by omega
  clear hsc hq hk
  clear hw hf hT hLt
  go_enter Tryd.func3, Tryd.ntmps3
  go_upto_region 9 with (first
    | (go_at_call 8; have B4' := B4; (with_reducible refine (WE.out _ _ _ _ (HW.out.on B4.out) T4.out S4.out).mono ?_); rintro e w5 ⟨rfl, h⟩; have B5 := Lib.hid (B4.out.trans (h.mono B4.out.size)); clear h)
    | (go_at_call 6; (with_reducible refine (SM.out).mono ?_); rintro e w1 ⟨rfl, h⟩; have B1 := Lib.hid h; clear h)
    | (go_at_call 7; (with_reducible refine (FW.out _ (HT.out.below (B1.out.mono htop))).mono ?_); rintro e w' ⟨rfl, rfl⟩)
    | (go_at_call 8; (with_reducible refine (WL.out _ (HW.out.on B1.out) (HT.out.below (B1.out.mono htop)) (Nat.le_trans htop B1.out.size)).mono ?_); rintro e w2 ⟨rfl, h⟩; have B2 := Lib.hid (B1.out.trans (h.mono B1.out.size)); clear h)
    | (go_at_call 9; (with_reducible refine (SY.out _ (HW.out.on B2.out)).mono ?_); rintro e w3 ⟨A3, c3, rfl, h1, h2, h3, h⟩; have T3 := Lib.hid h1; have B3 := Lib.hid (B2.out.trans (h.mono B2.out.size)); clear h h1 h2 h3)
    | (go_at_call 10; (with_reducible refine (SA.out _ _ _ _ T3.out (HT.out.below (B3.out.mono htop))).mono ?_); rintro e w4 ⟨rfl, h⟩; have T4 := Lib.hid (T3.out.below h); have B4 := Lib.hid (B3.out.trans (h.mono B3.out.size)); have S4 := Lib.hid h.size; clear h))
  go_wp2_with (first
    | (go_at_call 9; (with_reducible refine (SS.out _ (HW.out.on B5.out)).mono ?_); rintro e v1 ⟨rfl, h⟩; have C1 := Lib.hid (B5.out.trans (h.mono B5.out.size)); clear h))
  go_ret
  exact ⟨rfl, C1.out⟩
set_option maxRecDepth 100000 in
set_option maxHeartbeats 4000000 in
theorem back_F3S2 (s : ByteArray) (A : Option Addr) (c top : Nat) (L : List (Tk × Int)) (w : World) (hw : Lies w) (hs : ¬ 2000 < s.size) (hT : ToksIn w top A L) (htop : top ≤ w.heap.size) (hf : fewB L = true)
    (hy : wrt (L.map Prod.fst) ≠ []) (hb : ¬ 32768 < (wrt (L.map Prod.fst)).length)
    (hsc : scan (ls s) = .ok []) :
    Calls Tryd.prog 3 #[.string s, .slice A L.length c] w fun e w' => e = .returned (.bool true) ∧ Below w.heap.size w w' := by
  have hcopy := few_ok hf
  obtain ⟨hL, hLt⟩ := hcopy
  have d1 : decide ((2000 : Int) < (s.size : Int)) = false := by simp; omega
  have SM := Lib.hid (small_any w hw)
  have FW : Hid (∀ W, ToksIn W top A L → Calls Tryd.prog 7 #[.slice A L.length c] W fun e w' => e = .returned (.bool true) ∧ W = w') := Lib.hid (fun W h => by
    have := few_any A c top L W h (by omega)
    rwa [hf] at this)
  have WL0 : ∀ W, Lies W → ToksIn W top A L → top ≤ W.heap.size → Calls Tryd.prog 8 #[.slice A L.length c] W fun e w' => e = .returned (.string (mk (wrt (L.map Prod.fst)))) ∧ Below W.heap.size W w' := fun W h1 h2 h3 => write_any A c top L W h1 h2 h3 (by omega) hLt
  have HT := Lib.hid hT
  have HW := Lib.hid hw
  obtain ⟨y, hyy⟩ : ∃ y, y = mk (wrt (L.map Prod.fst)) := ⟨_, rfl⟩
  have HY : mk (wrt (L.map Prod.fst)) = y := hyy.symm
  have he : y.toList.isEmpty = false := by rw [hyy]; exact empty_of _ hy
  have he2 : (!y.toList.isEmpty) = true := by rw [he]; rfl
  have hsz : y.size = (wrt (L.map Prod.fst)).length := by rw [hyy, size_mk]
  have WL : Hid (∀ W, Lies W → ToksIn W top A L → top ≤ W.heap.size → Calls Tryd.prog 8 #[.slice A L.length c] W fun e w' => e = .returned (.string y) ∧ Below W.heap.size W w') := Lib.hid (fun W h1 h2 h3 => by have := WL0 W h1 h2 h3; rw [HY] at this; exact this)
  have d2 : decide ((y.size : Int) ≤ 32768) = true := by rw [hsz]; simp; omega
  obtain ⟨E, hE, hEm⟩ := scan_wrt hy
  have hEl : E.length = L.length := by have := congrArg List.length hEm; simpa using this
  have hEt : ∀ x ∈ E, x.1.t.length ≤ 4200 := fun x hx => by
    have : x.1 ∈ L.map Prod.fst := by rw [← hEm]; exact List.mem_map_of_mem hx
    obtain ⟨z, hz, hzx⟩ := List.mem_map.1 this
    rw [← hzx]; exact hLt z hz
  have SY := Lib.hid (fun W h => scan_ok_any y E (by rw [hyy, ls_mk]; exact hE) (by omega) W h)
  have SA : Hid (∀ (A' : Option Addr) (c' t' : Nat) (W : World), ToksIn W t' A' (offs y.size E) → ToksIn W top A L → Calls Tryd.prog 10 #[.slice A' E.length c', .slice A L.length c] W fun e w' => e = .returned (.bool true) ∧ Below W.heap.size W w') := Lib.hid (fun A' c' t' W h1 h2 => same_any' A' A c' c t' top _ _ _ _ true (offs_length _ _) rfl (by rw [offs_map, hEm]; simp) (by omega) (by omega) W h1 h2)
  have WE : Hid (∀ (A' : Option Addr) (c' t' : Nat) (W : World), Lies W → ToksIn W t' A' (offs y.size E) → t' ≤ W.heap.size → Calls Tryd.prog 8 #[.slice A' E.length c'] W fun e w' => e = .returned (.string y) ∧ Below W.heap.size W w') := Lib.hid (fun A' c' t' W h h1 h2 => by
    have := write_offs A' c' t' y.size E _ rfl (by omega) hEt W h h1 h2
    rw [hEm, HY] at this
    exact this)
  have yy := str_beq y
  clear WL0 HY hyy hy hsz hb hE hEm hEl hEt
  have SS : Hid (∀ W, Lies W → Calls Tryd.prog 9 #[.string s] W fun e w' => ∃ A c, e = .returned (.tuple #[.slice A 0 c, .int .i64 0, .int .i64 0]) ∧ ToksIn w' w'.heap.size A (offs s.size []) ∧ Head A ∧ 0 ≤ c ∧ Below W.heap.size W w') := Lib.hid (fun W h => scan_ok_any s [] hsc (by omega) W h)
  have WS : Hid (∀ (A' : Option Addr) (c' t' : Nat) (W : World), Lies W → ToksIn W t' A' (offs s.size []) → t' ≤ W.heap.size → Calls Tryd.prog 8 #[.slice A' 0 c'] W fun e w' => e = .returned (.string ⟨#[]⟩) ∧ Below W.heap.size W w') := Lib.hid (fun A' c' t' W h h1 h2 => write_offs A' c' t' s.size [] [] rfl (by decide) (fun x hx => by simp at hx) W h h1 h2)
  clear hsc
  clear hw hf hT hLt
  go_enter Tryd.func3, Tryd.ntmps3
  go_upto_region 9 with (first
    | (go_at_call 8; have B4' := B4; (with_reducible refine (WE.out _ _ _ _ (HW.out.on B4.out) T4.out S4.out).mono ?_); rintro e w5 ⟨rfl, h⟩; have B5 := Lib.hid (B4.out.trans (h.mono B4.out.size)); clear h)
    | (go_at_call 6; (with_reducible refine (SM.out).mono ?_); rintro e w1 ⟨rfl, h⟩; have B1 := Lib.hid h; clear h)
    | (go_at_call 7; (with_reducible refine (FW.out _ (HT.out.below (B1.out.mono htop))).mono ?_); rintro e w' ⟨rfl, rfl⟩)
    | (go_at_call 8; (with_reducible refine (WL.out _ (HW.out.on B1.out) (HT.out.below (B1.out.mono htop)) (Nat.le_trans htop B1.out.size)).mono ?_); rintro e w2 ⟨rfl, h⟩; have B2 := Lib.hid (B1.out.trans (h.mono B1.out.size)); clear h)
    | (go_at_call 9; (with_reducible refine (SY.out _ (HW.out.on B2.out)).mono ?_); rintro e w3 ⟨A3, c3, rfl, h1, h2, h3, h⟩; have T3 := Lib.hid h1; have B3 := Lib.hid (B2.out.trans (h.mono B2.out.size)); clear h h1 h2 h3)
    | (go_at_call 10; (with_reducible refine (SA.out _ _ _ _ T3.out (HT.out.below (B3.out.mono htop))).mono ?_); rintro e w4 ⟨rfl, h⟩; have T4 := Lib.hid (T3.out.below h); have B4 := Lib.hid (B3.out.trans (h.mono B3.out.size)); have S4 := Lib.hid h.size; clear h))
  go_wp2_with (first
    | (go_at_call 9; (with_reducible refine (SS.out _ (HW.out.on B5.out)).mono ?_); rintro e v1 ⟨A1, c1, rfl, h1, h2, h3, h⟩; have U1 := Lib.hid h1; have C1 := Lib.hid (B5.out.trans (h.mono B5.out.size)); clear h h1 h2 h3)
    | (go_at_call 8; have U1' := U1; (with_reducible refine (WS.out _ _ _ _ (HW.out.on C1.out) U1.out (Nat.le_refl _)).mono ?_); rintro e v2 ⟨rfl, h⟩; have C2 := Lib.hid (C1.out.trans (h.mono C1.out.size)); clear h))
  go_ret
  exact ⟨rfl, C2.out⟩
set_option maxRecDepth 100000 in
set_option maxHeartbeats 4000000 in
theorem back_F3S3 (s : ByteArray) (A : Option Addr) (c top : Nat) (L : List (Tk × Int)) (w : World) (hw : Lies w) (hs : ¬ 2000 < s.size) (hT : ToksIn w top A L) (htop : top ≤ w.heap.size) (hf : fewB L = true)
    (hy : wrt (L.map Prod.fst) ≠ []) (hb : ¬ 32768 < (wrt (L.map Prod.fst)).length)
    (D : List (Tk × Nat)) (hsc : scan (ls s) = .ok D) (hv : wrt (D.map Prod.fst) ≠ []) (hvb : 32768 < (wrt (D.map Prod.fst)).length) :
    Calls Tryd.prog 3 #[.string s, .slice A L.length c] w fun e w' => e = .returned (.bool true) ∧ Below w.heap.size w w' := by
  have hcopy := few_ok hf
  obtain ⟨hL, hLt⟩ := hcopy
  have d1 : decide ((2000 : Int) < (s.size : Int)) = false := by simp; omega
  have SM := Lib.hid (small_any w hw)
  have FW : Hid (∀ W, ToksIn W top A L → Calls Tryd.prog 7 #[.slice A L.length c] W fun e w' => e = .returned (.bool true) ∧ W = w') := Lib.hid (fun W h => by
    have := few_any A c top L W h (by omega)
    rwa [hf] at this)
  have WL0 : ∀ W, Lies W → ToksIn W top A L → top ≤ W.heap.size → Calls Tryd.prog 8 #[.slice A L.length c] W fun e w' => e = .returned (.string (mk (wrt (L.map Prod.fst)))) ∧ Below W.heap.size W w' := fun W h1 h2 h3 => write_any A c top L W h1 h2 h3 (by omega) hLt
  have HT := Lib.hid hT
  have HW := Lib.hid hw
  obtain ⟨y, hyy⟩ : ∃ y, y = mk (wrt (L.map Prod.fst)) := ⟨_, rfl⟩
  have HY : mk (wrt (L.map Prod.fst)) = y := hyy.symm
  have he : y.toList.isEmpty = false := by rw [hyy]; exact empty_of _ hy
  have he2 : (!y.toList.isEmpty) = true := by rw [he]; rfl
  have hsz : y.size = (wrt (L.map Prod.fst)).length := by rw [hyy, size_mk]
  have WL : Hid (∀ W, Lies W → ToksIn W top A L → top ≤ W.heap.size → Calls Tryd.prog 8 #[.slice A L.length c] W fun e w' => e = .returned (.string y) ∧ Below W.heap.size W w') := Lib.hid (fun W h1 h2 h3 => by have := WL0 W h1 h2 h3; rw [HY] at this; exact this)
  have d2 : decide ((y.size : Int) ≤ 32768) = true := by rw [hsz]; simp; omega
  obtain ⟨E, hE, hEm⟩ := scan_wrt hy
  have hEl : E.length = L.length := by have := congrArg List.length hEm; simpa using this
  have hEt : ∀ x ∈ E, x.1.t.length ≤ 4200 := fun x hx => by
    have : x.1 ∈ L.map Prod.fst := by rw [← hEm]; exact List.mem_map_of_mem hx
    obtain ⟨z, hz, hzx⟩ := List.mem_map.1 this
    rw [← hzx]; exact hLt z hz
  have SY := Lib.hid (fun W h => scan_ok_any y E (by rw [hyy, ls_mk]; exact hE) (by omega) W h)
  have SA : Hid (∀ (A' : Option Addr) (c' t' : Nat) (W : World), ToksIn W t' A' (offs y.size E) → ToksIn W top A L → Calls Tryd.prog 10 #[.slice A' E.length c', .slice A L.length c] W fun e w' => e = .returned (.bool true) ∧ Below W.heap.size W w') := Lib.hid (fun A' c' t' W h1 h2 => same_any' A' A c' c t' top _ _ _ _ true (offs_length _ _) rfl (by rw [offs_map, hEm]; simp) (by omega) (by omega) W h1 h2)
  have WE : Hid (∀ (A' : Option Addr) (c' t' : Nat) (W : World), Lies W → ToksIn W t' A' (offs y.size E) → t' ≤ W.heap.size → Calls Tryd.prog 8 #[.slice A' E.length c'] W fun e w' => e = .returned (.string y) ∧ Below W.heap.size W w') := Lib.hid (fun A' c' t' W h h1 h2 => by
    have := write_offs A' c' t' y.size E _ rfl (by omega) hEt W h h1 h2
    rw [hEm, HY] at this
    exact this)
  have yy := str_beq y
  clear WL0 HY hyy hy hsz hb hE hEm hEl hEt
  obtain ⟨hDl, hDt⟩ := scan_len D (ls s) hsc
  rw [ls_length] at hDl hDt
  have hDt2 : ∀ x ∈ D, x.1.t.length ≤ 4200 := fun x hx => by have := hDt x hx; omega
  have SS : Hid (∀ W, Lies W → Calls Tryd.prog 9 #[.string s] W fun e w' => ∃ A c, e = .returned (.tuple #[.slice A D.length c, .int .i64 0, .int .i64 0]) ∧ ToksIn w' w'.heap.size A (offs s.size D) ∧ Head A ∧ D.length ≤ c ∧ Below W.heap.size W w') := Lib.hid (fun W h => scan_ok_any s D hsc (by omega) W h)
  obtain ⟨v, hvv⟩ : ∃ v, v = mk (wrt (D.map Prod.fst)) := ⟨_, rfl⟩
  have WS : Hid (∀ (A' : Option Addr) (c' t' : Nat) (W : World), Lies W → ToksIn W t' A' (offs s.size D) → t' ≤ W.heap.size → Calls Tryd.prog 8 #[.slice A' D.length c'] W fun e w' => e = .returned (.string v) ∧ Below W.heap.size W w') := Lib.hid (fun A' c' t' W h h1 h2 => by
    have := write_offs A' c' t' s.size D _ rfl (by omega) hDt2 W h h1 h2
    rw [← hvv] at this
    exact this)
  have hve : v.toList.isEmpty = false := by rw [hvv]; exact empty_of _ hv
  have hve2 : (!v.toList.isEmpty) = true := by rw [hve]; rfl
  have hvz : v.size = (wrt (D.map Prod.fst)).length := by rw [hvv, size_mk]
  have d3 : decide ((32768 : Int) < (v.size : Int)) = true := by rw [hvz]; simp; omega
  have d4 : ((D.length : Int) == 0) = false := by
    have : D ≠ [] := by rintro rfl; exact hv rfl
    have := List.length_pos_iff.2 this
    simp; omega
  clear hsc hv hvb hvv hvz hDt hDt2
  clear hw hf hT hLt
  go_enter Tryd.func3, Tryd.ntmps3
  go_upto_region 9 with (first
    | (go_at_call 8; have B4' := B4; (with_reducible refine (WE.out _ _ _ _ (HW.out.on B4.out) T4.out S4.out).mono ?_); rintro e w5 ⟨rfl, h⟩; have B5 := Lib.hid (B4.out.trans (h.mono B4.out.size)); clear h)
    | (go_at_call 6; (with_reducible refine (SM.out).mono ?_); rintro e w1 ⟨rfl, h⟩; have B1 := Lib.hid h; clear h)
    | (go_at_call 7; (with_reducible refine (FW.out _ (HT.out.below (B1.out.mono htop))).mono ?_); rintro e w' ⟨rfl, rfl⟩)
    | (go_at_call 8; (with_reducible refine (WL.out _ (HW.out.on B1.out) (HT.out.below (B1.out.mono htop)) (Nat.le_trans htop B1.out.size)).mono ?_); rintro e w2 ⟨rfl, h⟩; have B2 := Lib.hid (B1.out.trans (h.mono B1.out.size)); clear h)
    | (go_at_call 9; (with_reducible refine (SY.out _ (HW.out.on B2.out)).mono ?_); rintro e w3 ⟨A3, c3, rfl, h1, h2, h3, h⟩; have T3 := Lib.hid h1; have B3 := Lib.hid (B2.out.trans (h.mono B2.out.size)); clear h h1 h2 h3)
    | (go_at_call 10; (with_reducible refine (SA.out _ _ _ _ T3.out (HT.out.below (B3.out.mono htop))).mono ?_); rintro e w4 ⟨rfl, h⟩; have T4 := Lib.hid (T3.out.below h); have B4 := Lib.hid (B3.out.trans (h.mono B3.out.size)); have S4 := Lib.hid h.size; clear h))
  go_wp2_with (first
    | (go_at_call 9; (with_reducible refine (SS.out _ (HW.out.on B5.out)).mono ?_); rintro e v1 ⟨A1, c1, rfl, h1, h2, h3, h⟩; have U1 := Lib.hid h1; have C1 := Lib.hid (B5.out.trans (h.mono B5.out.size)); clear h h1 h2 h3)
    | (go_at_call 8; have U1' := U1; (with_reducible refine (WS.out _ _ _ _ (HW.out.on C1.out) U1.out (Nat.le_refl _)).mono ?_); rintro e v2 ⟨rfl, h⟩; have C2 := Lib.hid (C1.out.trans (h.mono C1.out.size)); clear h))
  go_ret
  exact ⟨rfl, C2.out⟩
set_option maxRecDepth 100000 in
set_option maxHeartbeats 4000000 in
theorem back_F3S4 (s : ByteArray) (A : Option Addr) (c top : Nat) (L : List (Tk × Int)) (w : World) (hw : Lies w) (hs : ¬ 2000 < s.size) (hT : ToksIn w top A L) (htop : top ≤ w.heap.size) (hf : fewB L = true)
    (hy : wrt (L.map Prod.fst) ≠ []) (hb : ¬ 32768 < (wrt (L.map Prod.fst)).length)
    (D : List (Tk × Nat)) (hsc : scan (ls s) = .ok D) (hv : wrt (D.map Prod.fst) ≠ []) (hvb : ¬ 32768 < (wrt (D.map Prod.fst)).length) :
    Calls Tryd.prog 3 #[.string s, .slice A L.length c] w fun e w' => e = .returned (.bool true) ∧ Below w.heap.size w w' := by
  have hcopy := few_ok hf
  obtain ⟨hL, hLt⟩ := hcopy
  have d1 : decide ((2000 : Int) < (s.size : Int)) = false := by simp; omega
  have SM := Lib.hid (small_any w hw)
  have FW : Hid (∀ W, ToksIn W top A L → Calls Tryd.prog 7 #[.slice A L.length c] W fun e w' => e = .returned (.bool true) ∧ W = w') := Lib.hid (fun W h => by
    have := few_any A c top L W h (by omega)
    rwa [hf] at this)
  have WL0 : ∀ W, Lies W → ToksIn W top A L → top ≤ W.heap.size → Calls Tryd.prog 8 #[.slice A L.length c] W fun e w' => e = .returned (.string (mk (wrt (L.map Prod.fst)))) ∧ Below W.heap.size W w' := fun W h1 h2 h3 => write_any A c top L W h1 h2 h3 (by omega) hLt
  have HT := Lib.hid hT
  have HW := Lib.hid hw
  obtain ⟨y, hyy⟩ : ∃ y, y = mk (wrt (L.map Prod.fst)) := ⟨_, rfl⟩
  have HY : mk (wrt (L.map Prod.fst)) = y := hyy.symm
  have he : y.toList.isEmpty = false := by rw [hyy]; exact empty_of _ hy
  have he2 : (!y.toList.isEmpty) = true := by rw [he]; rfl
  have hsz : y.size = (wrt (L.map Prod.fst)).length := by rw [hyy, size_mk]
  have WL : Hid (∀ W, Lies W → ToksIn W top A L → top ≤ W.heap.size → Calls Tryd.prog 8 #[.slice A L.length c] W fun e w' => e = .returned (.string y) ∧ Below W.heap.size W w') := Lib.hid (fun W h1 h2 h3 => by have := WL0 W h1 h2 h3; rw [HY] at this; exact this)
  have d2 : decide ((y.size : Int) ≤ 32768) = true := by rw [hsz]; simp; omega
  obtain ⟨E, hE, hEm⟩ := scan_wrt hy
  have hEl : E.length = L.length := by have := congrArg List.length hEm; simpa using this
  have hEt : ∀ x ∈ E, x.1.t.length ≤ 4200 := fun x hx => by
    have : x.1 ∈ L.map Prod.fst := by rw [← hEm]; exact List.mem_map_of_mem hx
    obtain ⟨z, hz, hzx⟩ := List.mem_map.1 this
    rw [← hzx]; exact hLt z hz
  have SY := Lib.hid (fun W h => scan_ok_any y E (by rw [hyy, ls_mk]; exact hE) (by omega) W h)
  have SA : Hid (∀ (A' : Option Addr) (c' t' : Nat) (W : World), ToksIn W t' A' (offs y.size E) → ToksIn W top A L → Calls Tryd.prog 10 #[.slice A' E.length c', .slice A L.length c] W fun e w' => e = .returned (.bool true) ∧ Below W.heap.size W w') := Lib.hid (fun A' c' t' W h1 h2 => same_any' A' A c' c t' top _ _ _ _ true (offs_length _ _) rfl (by rw [offs_map, hEm]; simp) (by omega) (by omega) W h1 h2)
  have WE : Hid (∀ (A' : Option Addr) (c' t' : Nat) (W : World), Lies W → ToksIn W t' A' (offs y.size E) → t' ≤ W.heap.size → Calls Tryd.prog 8 #[.slice A' E.length c'] W fun e w' => e = .returned (.string y) ∧ Below W.heap.size W w') := Lib.hid (fun A' c' t' W h h1 h2 => by
    have := write_offs A' c' t' y.size E _ rfl (by omega) hEt W h h1 h2
    rw [hEm, HY] at this
    exact this)
  have yy := str_beq y
  clear WL0 HY hyy hy hsz hb hE hEm hEl hEt
  obtain ⟨hDl, hDt⟩ := scan_len D (ls s) hsc
  rw [ls_length] at hDl hDt
  have hDt2 : ∀ x ∈ D, x.1.t.length ≤ 4200 := fun x hx => by have := hDt x hx; omega
  have SS : Hid (∀ W, Lies W → Calls Tryd.prog 9 #[.string s] W fun e w' => ∃ A c, e = .returned (.tuple #[.slice A D.length c, .int .i64 0, .int .i64 0]) ∧ ToksIn w' w'.heap.size A (offs s.size D) ∧ Head A ∧ D.length ≤ c ∧ Below W.heap.size W w') := Lib.hid (fun W h => scan_ok_any s D hsc (by omega) W h)
  obtain ⟨v, hvv⟩ : ∃ v, v = mk (wrt (D.map Prod.fst)) := ⟨_, rfl⟩
  have WS : Hid (∀ (A' : Option Addr) (c' t' : Nat) (W : World), Lies W → ToksIn W t' A' (offs s.size D) → t' ≤ W.heap.size → Calls Tryd.prog 8 #[.slice A' D.length c'] W fun e w' => e = .returned (.string v) ∧ Below W.heap.size W w') := Lib.hid (fun A' c' t' W h h1 h2 => by
    have := write_offs A' c' t' s.size D _ rfl (by omega) hDt2 W h h1 h2
    rw [← hvv] at this
    exact this)
  have hve : v.toList.isEmpty = false := by rw [hvv]; exact empty_of _ hv
  have hve2 : (!v.toList.isEmpty) = true := by rw [hve]; rfl
  have hvz : v.size = (wrt (D.map Prod.fst)).length := by rw [hvv, size_mk]
  have d3 : decide ((32768 : Int) < (v.size : Int)) = false := by rw [hvz]; simp; omega
  obtain ⟨G, hG, hGm⟩ := scan_wrt hv
  have hGl : G.length = D.length := by have := congrArg List.length hGm; simpa using this
  have SV := Lib.hid (fun W h => scan_ok_any v G (by rw [hvv, ls_mk]; exact hG) (by omega) W h)
  have SG : Hid (∀ (A1 A2 : Option Addr) (c1 c2 t1 t2 : Nat) (W : World), ToksIn W t1 A1 (offs s.size D) → ToksIn W t2 A2 (offs v.size G) → Calls Tryd.prog 10 #[.slice A1 D.length c1, .slice A2 G.length c2] W fun e w' => e = .returned (.bool true) ∧ Below W.heap.size W w') := Lib.hid (fun A1 A2 c1 c2 t1 t2 W h1 h2 => same_any' A1 A2 c1 c2 t1 t2 _ _ _ _ true (offs_length _ _) (offs_length _ _) (by rw [offs_map, offs_map, hGm]; simp) (by omega) (by omega) W h1 h2)
  clear hsc hv hvb hvv hvz hDt hDt2 hG hGm hGl
  clear hw hf hT hLt
  go_enter Tryd.func3, Tryd.ntmps3
  go_upto_region 9 with (first
    | (go_at_call 8; have B4' := B4; (with_reducible refine (WE.out _ _ _ _ (HW.out.on B4.out) T4.out S4.out).mono ?_); rintro e w5 ⟨rfl, h⟩; have B5 := Lib.hid (B4.out.trans (h.mono B4.out.size)); clear h)
    | (go_at_call 6; (with_reducible refine (SM.out).mono ?_); rintro e w1 ⟨rfl, h⟩; have B1 := Lib.hid h; clear h)
    | (go_at_call 7; (with_reducible refine (FW.out _ (HT.out.below (B1.out.mono htop))).mono ?_); rintro e w' ⟨rfl, rfl⟩)
    | (go_at_call 8; (with_reducible refine (WL.out _ (HW.out.on B1.out) (HT.out.below (B1.out.mono htop)) (Nat.le_trans htop B1.out.size)).mono ?_); rintro e w2 ⟨rfl, h⟩; have B2 := Lib.hid (B1.out.trans (h.mono B1.out.size)); clear h)
    | (go_at_call 9; (with_reducible refine (SY.out _ (HW.out.on B2.out)).mono ?_); rintro e w3 ⟨A3, c3, rfl, h1, h2, h3, h⟩; have T3 := Lib.hid h1; have B3 := Lib.hid (B2.out.trans (h.mono B2.out.size)); clear h h1 h2 h3)
    | (go_at_call 10; (with_reducible refine (SA.out _ _ _ _ T3.out (HT.out.below (B3.out.mono htop))).mono ?_); rintro e w4 ⟨rfl, h⟩; have T4 := Lib.hid (T3.out.below h); have B4 := Lib.hid (B3.out.trans (h.mono B3.out.size)); have S4 := Lib.hid h.size; clear h))
  go_wp2_with (first
    | (go_at_call 9; have U2' := U2; (with_reducible refine (SV.out _ (HW.out.on C2.out)).mono ?_); rintro e v3 ⟨A3, c3, rfl, h1, h2, h3, h⟩; have V3 := Lib.hid h1; have U3 := Lib.hid (U2.out.below (h.mono S2.out)); have C3 := Lib.hid (C2.out.trans (h.mono C2.out.size)); clear h h1 h2 h3)
    | (go_at_call 9; (with_reducible refine (SS.out _ (HW.out.on B5.out)).mono ?_); rintro e v1 ⟨A1, c1, rfl, h1, h2, h3, h⟩; have U1 := Lib.hid h1; have C1 := Lib.hid (B5.out.trans (h.mono B5.out.size)); clear h h1 h2 h3)
    | (go_at_call 8; have U1' := U1; (with_reducible refine (WS.out _ _ _ _ (HW.out.on C1.out) U1.out (Nat.le_refl _)).mono ?_); rintro e v2 ⟨rfl, h⟩; have U2 := Lib.hid (U1.out.below h); have S2 := Lib.hid h.size; have C2 := Lib.hid (C1.out.trans (h.mono C1.out.size)); clear h)
    | (go_at_call 10; (with_reducible refine (SG.out _ _ _ _ _ _ _ U3.out V3.out).mono ?_); rintro e v4 ⟨rfl, h⟩; have C4 := Lib.hid (C3.out.trans (h.mono C3.out.size)); clear h))
  go_ret
  exact ⟨rfl, C4.out⟩
theorem back_any (s : ByteArray) (A : Option Addr) (c top : Nat) (L : List (Tk × Int)) (w : World) (hw : Lies w) (hT : ToksIn w top A L) (htop : top ≤ w.heap.size) (hn : L.length ≤ 4611686018427387904) :
    Calls Tryd.prog 3 #[.string s, .slice A L.length c] w fun e w' => e = .returned (.bool true) ∧ Below w.heap.size w w' := by
  by_cases hs : 2000 < s.size
  · exact back_long s A c L w hw hs
  cases hf : fewB L with
  | false => exact back_many s A c top L w hw hs hT htop hn hf
  | true =>
    cases hsc : scan (ls s) with
    | error e =>
      obtain ⟨er, k⟩ := e
      by_cases hy : wrt (L.map Prod.fst) = []
      · exact back_F1S1 s A c top L w hw hs hT htop hf hy er k hsc
      by_cases hb : 32768 < (wrt (L.map Prod.fst)).length
      · exact back_F2S1 s A c top L w hw hs hT htop hf hy hb er k hsc
      · exact back_F3S1 s A c top L w hw hs hT htop hf hy hb er k hsc
    | ok D =>
      by_cases hv : wrt (D.map Prod.fst) = []
      · have hD := wrt_empty hsc hv
        subst hD
        by_cases hy : wrt (L.map Prod.fst) = []
        · exact back_F1S2 s A c top L w hw hs hT htop hf hy hsc
        by_cases hb : 32768 < (wrt (L.map Prod.fst)).length
        · exact back_F2S2 s A c top L w hw hs hT htop hf hy hb hsc
        · exact back_F3S2 s A c top L w hw hs hT htop hf hy hb hsc
      by_cases hvb : 32768 < (wrt (D.map Prod.fst)).length
      · by_cases hy : wrt (L.map Prod.fst) = []
        · exact back_F1S3 s A c top L w hw hs hT htop hf hy D hsc hv hvb
        by_cases hb : 32768 < (wrt (L.map Prod.fst)).length
        · exact back_F2S3 s A c top L w hw hs hT htop hf hy hb D hsc hv hvb
        · exact back_F3S3 s A c top L w hw hs hT htop hf hy hb D hsc hv hvb
      · by_cases hy : wrt (L.map Prod.fst) = []
        · exact back_F1S4 s A c top L w hw hs hT htop hf hy D hsc hv hvb
        by_cases hb : 32768 < (wrt (L.map Prod.fst)).length
        · exact back_F2S4 s A c top L w hw hs hT htop hf hy hb D hsc hv hvb
        · exact back_F3S4 s A c top L w hw hs hT htop hf hy hb D hsc hv hvb
end Go.Proofs.YtkagfhfjomhkdaaDoor
