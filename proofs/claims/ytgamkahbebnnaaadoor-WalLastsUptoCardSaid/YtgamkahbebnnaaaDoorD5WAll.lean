/-
  The log's All and Len; a clone of a slice of strings.
-/
import Derived.Test.YtgamkahbebnnaaaDoorD5WApp
import Derived.Lib.LazyBuf
namespace Go.Proofs.YtgamkahbebnnaaaDoor.D5
open Go.RowKit WalPlain
set_option maxRecDepth 40000
theorem own_base {w : World} {B e size n : Nat} {v : Value} {xs : List Value} (h : w.ownsRow 0 e size v n xs) (hb : ∀ k, v.ownBlock = some k → B ≤ k) : w.ownsRow B e size v n xs := by
  refine ⟨h.1, ?_⟩
  rcases h.2 with h1 | ⟨g, cap, cur, h1, h2, h3⟩
  · exact .inl h1
  · subst h1
    exact .inr ⟨g, cap, cur, rfl, hb g rfl, h3⟩
theorem own_zero {w : World} {B e size n : Nat} {v : Value} {xs : List Value} (h : w.ownsRow B e size v n xs) : w.ownsRow 0 e size v n xs := by
  refine ⟨h.1, ?_⟩
  rcases h.2 with h1 | ⟨g, cap, cur, h1, h2, h3⟩
  · exact .inl h1
  · exact .inr ⟨g, cap, cur, h1, Nat.zero_le _, h3⟩
theorem own_at {w : World} {B e n : Nat} {A : Option Addr} {cap : Nat} {xs : List Value} (h : w.ownsRow B e 1 (.slice A n cap) n xs) : RowAt w A xs := fun k u hk => by
  rcases h.2 with ⟨h1, h2⟩ | ⟨g, c, cur, h1, h2, h3⟩
  · have := h.1
    obtain rfl : xs = [] := List.eq_nil_of_length_eq_zero (by omega)
    simp at hk
  · injection h1 with h4 h5 h6
    subst h4
    exact ⟨_, rfl, h.cells (g := g) rfl k u hk⟩
/-- A clone: a row of its own. -/
theorem clone_any (A : Option Addr) (cap : Nat) (R : List Bs) (w : World) (hr : RowAt w A (strs R)) (hA : A = none → R.length = 0) (hR : R.length ≤ 16777216) :
    Calls Tryd.prog 35 #[.slice A R.length cap] w fun e w' => (∃ u, e = .returned u ∧ w'.ownsRow w.heap.size 9 1 u R.length (strs R)) ∧ Below w.heap.size w w' := by
  obtain ⟨i0, hi, hz0, hz1, hz2⟩ := info_parts info9
  cases A with
  | none =>
    have h0 := hA rfl
    obtain rfl : R = [] := List.eq_nil_of_length_eq_zero h0
    have hnil : (binOp .eql 32 (.slice none 0 cap) (.slice none 0 0)).run Tryd.prog w = .ok (.bool true) w := by apply Lib.run_eql_slice_nil; exact Tryd.underlying32
    clear hr hA h0 hR
    go_enter Tryd.func35, Tryd.ntmps35
    go_wp2
    go_ret
    exact ⟨⟨_, rfl, World.ownsRow_nil _ _ _ _⟩, Below.refl _ _⟩
  | some a =>
    have HR := Lib.hid hr
    have hnil : (binOp .eql 32 (.slice (some a) R.length cap) (.slice none 0 0)).run Tryd.prog w = .ok (.bool false) w := by apply Lib.run_eql_slice_nil; exact Tryd.underlying32
    clear hr hA
    go_enter Tryd.func35, Tryd.ntmps35
    go_wp2_with (refine wpList_append_row rfl (.tmp 5) (.tmp 6) 32 rfl 9 i0 _ 1 16 Tryd.underlying32 hi hz0 hz1 hz2 rfl (by decide) (.slice (some ⟨w.heap.size, 0, none⟩) 0 0) 0 [] rfl ?ho (some a) R.length cap (strs R) rfl ?hl ?hrow (fun e => by cases e) (strs_one _) ?h63 ?hb ?_)
    case ho => exact World.ownsRow_lit (base := 0) (e := 9) (size := 1) w #[] 0 (Nat.zero_le _) (by simp [maxLen]) rfl
    case hl => rw [strs_len, Nat.mul_one]
    case hrow => exact HR.out.alloc _
    case h63 => simp only [maxLen]; omega
    case hb => omega
    intro v' w5 hown hgr hbl
    have A3 : Hid ((∃ u, Ending.returned v' = .returned u ∧ w5.ownsRow w.heap.size 9 1 u R.length (strs R)) ∧ Below w.heap.size w w5) := Lib.hid ⟨⟨v', rfl, own_base hown (fun k hk => by
      rcases hbl k hk with h | h
      · simp only [Value.ownBlock, Option.some.injEq] at h; omega
      · omega)⟩, (Fr.below (F := fun k => k = w.heap.size) (((Fr.refl _ w).alloc _).trans (Fr.of_grown (F := fun k => k = w.heap.size) hgr (fun b e => by simp only [Value.ownBlock, Option.some.injEq] at e; exact e.symm)) (fun _ _ e => e)) (fun k e => by omega) (Nat.le_refl _))⟩
    obtain ⟨A', cap', rfl, -⟩ := own_form hown
    clear hown hgr hbl
    go_wp2
    go_ret
    exact A3.out
/-- All. -/
theorem all_any (c b : Nat) (f : Int) (G : Nat → Prop) (R : List Bs) (w : World) (hL : LgH w c b f G R) (hR : R.length ≤ 16777216) :
    Calls Tryd.prog 13 #[.pointer (some ⟨c, 0, none⟩)] w fun e w' => (∃ u, e = .returned u ∧ w'.ownsRow w.heap.size 9 1 u R.length (strs R)) ∧ Below w.heap.size w w' := by
  obtain ⟨v, hl⟩ := hL
  have c2 := hl.c2
  obtain ⟨A, cap, rfl, hA⟩ := own_form hl.own
  have K := Lib.hid (clone_any A cap R w (own_at hl.own) hA hR)
  clear hl hA
  go_enter Tryd.func13, Tryd.ntmps13
  go_wp2_with (go_at_call 35; refine K.out.mono ?_; rintro e w1 ⟨⟨u, rfl, h1⟩, h2⟩; have K1 := Lib.hid h1; have K2 := Lib.hid h2; clear h1 h2)
  go_ret
  exact ⟨⟨_, rfl, K1.out⟩, K2.out⟩
/-- Len. -/
theorem len_any (c b : Nat) (f : Int) (G : Nat → Prop) (R : List Bs) (w : World) (hL : LgH w c b f G R) :
    Calls Tryd.prog 27 #[.pointer (some ⟨c, 0, none⟩)] w fun e w' => e = .returned (.int .i64 (R.length : Nat)) ∧ w' = w := by
  obtain ⟨v, hl⟩ := hL
  have c2 := hl.c2
  obtain ⟨A, cap, rfl, hA⟩ := own_form hl.own
  clear hl hA
  go_enter Tryd.func27, Tryd.ntmps27
  go_wp2
  go_ret
  exact ⟨rfl, rfl⟩
end Go.Proofs.YtgamkahbebnnaaaDoor.D5
