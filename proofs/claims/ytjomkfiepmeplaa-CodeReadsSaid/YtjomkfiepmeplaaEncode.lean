/-
  The code's generic encode, at strings and at integers; List and Nums.
-/
import Derived.Test.YtjomkfiepmeplaaWrite
import Derived.Test.YtjomkfiepmeplaaLists
namespace Go.Proofs.Ytjomkfiepmeplaa
open Go.RowKit
theorem flat_snoc {α : Type} (f : α → List UInt8) (xs : List α) (k : Nat) (h : k < xs.length) : (xs.take (k + 1)).flatMap f = (xs.take k).flatMap f ++ f xs[k] := by
  rw [List.take_succ_eq_append_getElem h, List.flatMap_append]
  simp
theorem flat_take {α : Type} (f : α → List UInt8) (xs : List α) (k : Nat) : ((xs.take k).flatMap f).length ≤ (xs.flatMap f).length := by
  have e : xs.flatMap f = (xs.take k).flatMap f ++ (xs.drop k).flatMap f := by rw [← List.flatMap_append, List.take_append_drop]
  rw [e, List.length_append]
  omega
theorem strs_at (xs : List (List UInt8)) (k : Nat) (h : k < xs.length) : (strs xs)[k]? = some (.string (mk xs[k])) := by
  unfold strs; rw [List.getElem?_map, List.getElem?_eq_getElem h]; rfl
theorem ints_at (xs : List Int) (k : Nat) (h : k < xs.length) : (ints xs)[k]? = some (.int .i64 xs[k]) := by
  unfold ints; rw [List.getElem?_map, List.getElem?_eq_getElem h]; rfl
theorem text_lt (s : List UInt8) : s.length < (textE s).length := by unfold textE; rw [List.length_append]; have := vint_pos s.length; omega
theorem Row.of_own {w : World} {base : Nat} {e : TypeId} {v : Value} {n : Nat} {xs : List Value} (h : w.ownsRow base e 1 v n xs) : ∃ A c, v = .slice A n c ∧ xs.length = n ∧ Row w w.heap.size A xs := by
  have hlen := h.1
  rcases h.2 with ⟨rfl, rfl⟩ | ⟨g, cap, cur, rfl, -, -, -⟩
  · refine ⟨none, 0, rfl, by omega, fun k u hu => ?_⟩
    have : xs = [] := List.eq_nil_of_length_eq_zero (by omega)
    subst this
    simp at hu
  · exact ⟨_, cap, rfl, by omega, fun k u hu => ⟨_, rfl, (h.lt g rfl).2, h.cells (g := g) rfl k u hu⟩⟩

set_option maxHeartbeats 400000 in
theorem encstr_any (b B : Nat) (A : Option Addr) (c : Nat) (xs : List (List UInt8)) (l : List UInt8) (w : World) (h : Wr w b B l) (hr : Row w B A (strs xs)) (hl : l.length + 18 + (xs.flatMap textE).length ≤ 140737488355328) (hx : xs.length < 9223372036854775808) :
    Calls Try.prog 49 #[.pointer (some ⟨b, 0, none⟩), .slice A xs.length c, .func (.func 48) #[.pointer (some ⟨b, 0, none⟩)] #[]] w fun e w' => e = .returned (.tuple #[]) ∧ Wr w' b B (l ++ (vint xs.length ++ xs.flatMap textE)) ∧ Below B w w' := by
  have C := Lib.hid (wnum_any b B xs.length l w h hx (by omega))
  have hv := vint_nine xs.length hx
  have HR := Lib.hid hr
  clear h hr
  go_enter Try.func49, Try.ntmps49
  go_wp2_with (first
    | (go_at_call 46; refine (C.out).mono ?_; rintro e w1 ⟨rfl, h1, h2⟩; have H1 := Lib.hid h1; have H2 := Lib.hid h2; clear h1 h2))
  go_loopw [14] (fun i wr => ∃ k : Nat, k ≤ xs.length ∧ i = .int .i64 k ∧ Wr wr b B (l ++ (vint xs.length ++ (xs.take k).flatMap textE)) ∧ Below B w wr) (fun i _ => xs.length - (intOf i).toNat)
  case atStart => exact ⟨0, by omega, rfl, by simpa using H1.out, H2.out⟩
  case round =>
    obtain ⟨k, hk, rfl, hw, hb⟩ := hrel
    have HW := Lib.hid hw
    have HB := Lib.hid hb
    clear hw hb
    by_cases hlt : k < xs.length
    · have i1 : decide ((k : Int) < (xs.length : Int)) = true := by simp; omega
      have hle := flat_take textE xs (k + 1)
      have hts := flat_snoc textE xs k hlt
      have hll := congrArg List.length hts
      rw [List.length_append] at hll
      obtain ⟨a, rfl, ha, hc⟩ := HR.out k _ (strs_at xs k hlt)
      have hc2 := (HB.out.cell (p := a.add k) (by rw [add_block]; exact ha)).trans hc
      have D := Lib.hid (wtext_any b B xs[k] (l ++ (vint xs.length ++ (xs.take k).flatMap textE)) wr HW.out (by have := text_lt xs[k]; simp only [List.length_append]; omega))
      have HT := Lib.hid hts
      clear hts hll hle hc
      go_wp2_with (go_at_call 48; refine (D.out).mono ?_; rintro e w3 ⟨rfl, h3, h4⟩; have H3 := Lib.hid h3; have H4 := Lib.hid h4; clear h3 h4)
      go_roundw
      case rel =>
        refine ⟨k + 1, by omega, by go_num, ?_, HB.out.trans H4.out⟩
        rw [HT.out]
        have := H3.out
        simpa [List.append_assoc] using this
      case measure => simp [intOf]; omega
    · have i1 : decide ((k : Int) < (xs.length : Int)) = false := by simp; omega
      have i2 : decide (k < xs.length) = false := by simp; omega
      have hk : k = xs.length := by omega
      have HK := Lib.hid hk
      clear hk
      go_wp2
      go_end0
      refine ⟨rfl, ?_, HB.out⟩
      have := HW.out
      rw [HK.out, List.take_length] at this
      exact this
theorem clist_any (A : Option Addr) (c : Nat) (xs : List (List UInt8)) (w : World) (hr : Row w w.heap.size A (strs xs)) (hl : (xs.flatMap textE).length + 18 ≤ 140737488355328) (hx : xs.length < 9223372036854775808) :
    Calls Try.prog 17 #[.slice A xs.length c] w fun e w' => e = .returned (.string (mk (vint xs.length ++ xs.flatMap textE))) ∧ Below w.heap.size w w' := by
  have C := Lib.hid (encstr_any w.heap.size w.heap.size A c xs [] _ (wr_new w) (hr.below ((Below.refl _ _).alloc (Nat.le_refl _) _)) (by rw [List.length_nil]; omega) hx)
  clear hr
  go_enter Try.func17, Try.ntmps17
  go_wp2_with (go_at_call 49; refine (C.out).mono ?_; rintro e w1 ⟨rfl, ⟨hB, v, his, ho⟩, h2⟩; have c0 : w1.cell? ⟨w.heap.size, 0, none⟩ = some v := his.at_ 0; have hcv := conv_own ho; have H2 := Lib.hid h2; clear his ho h2)
  go_ret
  exact ⟨rfl, ((Below.refl _ _).alloc (Nat.le_refl _) _).trans H2.out⟩

set_option maxHeartbeats 400000 in
theorem encint_any (b B : Nat) (A : Option Addr) (c : Nat) (xs : List Int) (l : List UInt8) (w : World) (h : Wr w b B l) (hr : Row w B A (ints xs)) (hl : l.length + 18 + (xs.flatMap intE).length ≤ 140737488355328) (hx : xs.length < 9223372036854775808) :
    Calls Try.prog 50 #[.pointer (some ⟨b, 0, none⟩), .slice A xs.length c, .func (.func 47) #[.pointer (some ⟨b, 0, none⟩)] #[]] w fun e w' => e = .returned (.tuple #[]) ∧ Wr w' b B (l ++ (vint xs.length ++ xs.flatMap intE)) ∧ Below B w w' := by
  have C := Lib.hid (wnum_any b B xs.length l w h hx (by omega))
  have hv := vint_nine xs.length hx
  have HR := Lib.hid hr
  clear h hr
  go_enter Try.func50, Try.ntmps50
  go_wp2_with (first
    | (go_at_call 46; refine (C.out).mono ?_; rintro e w1 ⟨rfl, h1, h2⟩; have H1 := Lib.hid h1; have H2 := Lib.hid h2; clear h1 h2))
  go_loopw [14] (fun i wr => ∃ k : Nat, k ≤ xs.length ∧ i = .int .i64 k ∧ Wr wr b B (l ++ (vint xs.length ++ (xs.take k).flatMap intE)) ∧ Below B w wr) (fun i _ => xs.length - (intOf i).toNat)
  case atStart => exact ⟨0, by omega, rfl, by simpa using H1.out, H2.out⟩
  case round =>
    obtain ⟨k, hk, rfl, hw, hb⟩ := hrel
    have HW := Lib.hid hw
    have HB := Lib.hid hb
    clear hw hb
    by_cases hlt : k < xs.length
    · have i1 : decide ((k : Int) < (xs.length : Int)) = true := by simp; omega
      have hle := flat_take intE xs (k + 1)
      have hts := flat_snoc intE xs k hlt
      have hll := congrArg List.length hts
      rw [List.length_append] at hll
      obtain ⟨a, rfl, ha, hc⟩ := HR.out k _ (ints_at xs k hlt)
      have hc2 := (HB.out.cell (p := a.add k) (by rw [add_block]; exact ha)).trans hc
      have D := Lib.hid (wint_any b B xs[k] (l ++ (vint xs.length ++ (xs.take k).flatMap intE)) wr HW.out (by simp only [List.length_append]; omega))
      have HT := Lib.hid hts
      clear hts hll hle hc
      go_wp2_with (go_at_call 47; refine (D.out).mono ?_; rintro e w3 ⟨rfl, h3, h4⟩; have H3 := Lib.hid h3; have H4 := Lib.hid h4; clear h3 h4)
      go_roundw
      case rel =>
        refine ⟨k + 1, by omega, by go_num, ?_, HB.out.trans H4.out⟩
        rw [HT.out]
        have := H3.out
        simpa [List.append_assoc] using this
      case measure => simp [intOf]; omega
    · have i1 : decide ((k : Int) < (xs.length : Int)) = false := by simp; omega
      have i2 : decide (k < xs.length) = false := by simp; omega
      have hk : k = xs.length := by omega
      have HK := Lib.hid hk
      clear hk
      go_wp2
      go_end0
      refine ⟨rfl, ?_, HB.out⟩
      have := HW.out
      rw [HK.out, List.take_length] at this
      exact this
theorem cnums_any (A : Option Addr) (c : Nat) (xs : List Int) (w : World) (hr : Row w w.heap.size A (ints xs)) (hl : (xs.flatMap intE).length + 18 ≤ 140737488355328) (hx : xs.length < 9223372036854775808) :
    Calls Try.prog 19 #[.slice A xs.length c] w fun e w' => e = .returned (.string (mk (vint xs.length ++ xs.flatMap intE))) ∧ Below w.heap.size w w' := by
  have C := Lib.hid (encint_any w.heap.size w.heap.size A c xs [] _ (wr_new w) (hr.below ((Below.refl _ _).alloc (Nat.le_refl _) _)) (by rw [List.length_nil]; omega) hx)
  clear hr
  go_enter Try.func19, Try.ntmps19
  go_wp2_with (go_at_call 50; refine (C.out).mono ?_; rintro e w1 ⟨rfl, ⟨hB, v, his, ho⟩, h2⟩; have c0 : w1.cell? ⟨w.heap.size, 0, none⟩ = some v := his.at_ 0; have hcv := conv_own ho; have H2 := Lib.hid h2; clear his ho h2)
  go_ret
  exact ⟨rfl, ((Below.refl _ _).alloc (Nat.le_refl _) _).trans H2.out⟩
end Go.Proofs.Ytjomkfiepmeplaa
