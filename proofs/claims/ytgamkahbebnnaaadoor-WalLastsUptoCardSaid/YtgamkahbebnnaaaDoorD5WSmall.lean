/-
  The law's small example.
-/
import Derived.Test.YtgamkahbebnnaaaDoorD5WCl
import Derived.KernelRfl
namespace Go.Proofs.YtgamkahbebnnaaaDoor.D5
open Go.RowKit WalPlain
set_option maxRecDepth 100000
theorem flat_le (l : List Bs) (n : Nat) (hl : ∀ s ∈ l, s.length ≤ 1048576) (hn : (l.map List.length).sum ≤ n) : (flat rec6 l).length ≤ 2 * n + 17 * l.length := by
  induction l generalizing n with
  | nil => simp [flat]
  | cons a l ih =>
    have h1 := rec6_len a (hl a (by simp))
    simp only [List.map_cons, List.sum_cons] at hn
    have h2 := ih (n - a.length) (fun s hs => hl s (by simp [hs])) (by omega)
    simp only [flat, List.length_append, List.length_cons]
    omega
theorem strs3 (w : World) : (w.alloc (.cells #[.string ⟨#[120]⟩, .string ⟨#[]⟩, .string ⟨#[97]⟩] 9)).ownsRow w.heap.size 9 1 (.slice (some ⟨w.heap.size, 0, none⟩) 3 3) 3 (strs [[120], [], [97]]) :=
  World.ownsRow_lit (base := w.heap.size) (e := 9) (size := 1) w #[.string ⟨#[120]⟩, .string ⟨#[]⟩, .string ⟨#[97]⟩] 3 (Nat.le_refl _) (by simp [maxLen]) rfl
theorem strs3_at (w : World) : RowAt (w.alloc (.cells #[.string ⟨#[120]⟩, .string ⟨#[]⟩, .string ⟨#[97]⟩] 9)) (some ⟨w.heap.size, 0, none⟩) (strs [[120], [], [97]]) := own_at (strs3 w)
theorem all_new (f : Nat) : Dk.new.all f = [] := rfl
theorem st_open_new {W w : World} {b : Nat} {Q : World → (Nat → Prop) → Prop} (h : Par W w (HasP b Dk.new) Q) (hQ : Stab Q) (hT : S3.Tabs W) (f : Int) (h0 : 0 ≤ f) (h7 : f < 7) :
    Calls Tryd.prog 10 #[.pointer (some ⟨b, 0, none⟩), .int .i64 f] w fun e w' => ∃ c D', e = .returned (.tuple #[.pointer (some ⟨c, 0, none⟩), .int .i64 0]) ∧ Cl D' f.toNat [] [] ∧ Else f.toNat Dk.new D' ∧ Par W w' (DL b c f D' []) Q :=
  st_open h hQ calm_new hT h0 h7 [] (by rw [all_new]; exact valid_nil)
theorem st_open_cl {W w : World} {b c : Nat} {f : Int} {D : Dk} {R : List Bs} {Q : World → (Nat → Prop) → Prop} {x y : Bs} (h : Par W w (DL b c f D R) Q) (hQ : Stab Q) (hc : Cl D f.toNat x y) (hT : S3.Tabs W) (h0 : 0 ≤ f) (h7 : f < 7) (now : List Bs) (hn : ∀ s ∈ now, small20 s) (hx : x ++ y = flat rec6 now) :
    Calls Tryd.prog 10 #[.pointer (some ⟨b, 0, none⟩), .int .i64 f] w fun e w' => ∃ c D', e = .returned (.tuple #[.pointer (some ⟨c, 0, none⟩), .int .i64 0]) ∧ Cl D' f.toNat (flat rec6 now) [] ∧ Else f.toNat D D' ∧ Par W w' (DL b c f D' now) Q :=
  st_open (dl_only h) hQ hc.calm hT h0 h7 now (by unfold Dk.all; rw [hc.fs, hx]; exact whole6 now hn)
theorem sl_at {W w : World} {P Q : World → (Nat → Prop) → Prop} {A : Option Addr} {cap n : Nat} {l : List Bs} (h : Par W w P (Both Q (SlP (.slice A n cap) l))) (hn : n = l.length) : RowAt w A (strs l) := by
  subst hn
  obtain ⟨F, G, h1, ⟨G1, G2, g1, g2, g3, g4⟩, _⟩ := h
  exact own_at g2.1
theorem lit3 {W w : World} {b c : Nat} {f : Int} {D : Dk} {R : List Bs} {Q : World → (Nat → Prop) → Prop} (h : Par W w (DL b c f D R) Q) (hQ : Stab Q) :
    Par W (w.alloc (.cells #[.string ⟨#[120]⟩, .string ⟨#[]⟩, .string ⟨#[97]⟩] 9)) (DL b c f D R) (Both Q (SlP (.slice (some ⟨w.heap.size, 0, none⟩) 3 3) [[120], [], [97]])) :=
  h.more (stab_dl b c f D R) hQ ((Below.refl _ w).alloc (Nat.le_refl _) _) (G := fun k => k = w.heap.size) ⟨own_zero (strs3 w), fun k hk => by simp only [Value.ownBlock, Option.some.injEq] at hk; exact hk.symm, fun k hk => by rw [hk]; simp⟩ (fun k hk => by omega)
theorem sm3 : ∀ s ∈ ([[120], [], [97]] : List Bs), small20 s := by
  intro s hs
  simp only [List.mem_cons, List.not_mem_nil, or_false] at hs
  rcases hs with rfl | rfl | rfl <;> (unfold small20; simp)
theorem fl3 : (flat rec6 ([[120], [], [97]] : List Bs)).length ≤ 16777216 := by
  have := flat_le [[120], [], [97]] 2 (fun s hs => sm3 s hs) (by decide)
  simp only [List.length_cons, List.length_nil] at this
  omega
theorem sm1 : ∀ s ∈ ([[97]] : List Bs), small20 s := by
  intro s hs
  simp only [List.mem_cons, List.not_mem_nil, or_false] at hs
  subst hs
  unfold small20; simp
theorem strs1_at (w : World) : RowAt (w.alloc (.cells #[.string ⟨#[97]⟩] 9)) (some ⟨w.heap.size, 0, none⟩) (strs [[97]]) := strs_lit w [97]
set_option maxHeartbeats 400000 in
theorem small_any (w : World) (hT : S3.Tabs w) : Calls Tryd.prog 7 #[] w fun e w' => e = .returned (.bool true) ∧ Below w.heap.size w w' := by
  have HT := Lib.hid hT
  have sm : ∀ s : Bs, s.length ≤ 1 → small20 s := fun s h => by unfold small20; omega
  have ra : (rec6 [97]).length ≤ 19 := rec6_len [97] (sm _ (by decide))
  have rb : (rec6 [98]).length ≤ 19 := rec6_len [98] (sm _ (by decide))
  have rA := Lib.hid ra
  have rB := Lib.hid rb
  clear hT ra rb
  go_enter Tryd.func7, Tryd.ntmps7
  go_wp2_with (first
    | (go_at_call 27; have X := HD; clear X; go_must (refine (dl_len HD.out).mono ?_); rintro e vd ⟨rfl, rfl⟩)
    | (go_at_call 22; have X := HC; clear X; go_must (refine (same_any _ (some ⟨vc.heap.size, 0, none⟩) _ 3 [[120], [], [97]] [[120], [], [97]] _ ?_ (strs3_at _) (by decide)).mono ?_); (exact sl_at (HC.out.kept (stab_dl _ _ _ _ _) (stab_both (stab_both (stab_both stab_non (stab_sl _ _)) (stab_sl _ _)) (stab_sl _ _)) ((Below.refl _ _).alloc (Nat.le_refl _) _)) rfl); rintro e vd ⟨rfl, j, rfl⟩; have HD := Lib.hid ((HC.out.kept (stab_dl _ _ _ _ _) (stab_both (stab_both (stab_both stab_non (stab_sl _ _)) (stab_sl _ _)) (stab_sl _ _)) ((Below.refl _ _).alloc (Nat.le_refl _) (.cells #[.string ⟨#[120]⟩, .string ⟨#[]⟩, .string ⟨#[97]⟩] 9))).kept (stab_dl _ _ _ _ _) (stab_both (stab_both (stab_both stab_non (stab_sl _ _)) (stab_sl _ _)) (stab_sl _ _)) (drewB _ j)))
    | (go_at_call 13; have X := HB; clear X; go_must (refine (dl_all HB.out (stab_both (stab_both stab_non (stab_sl _ _)) (stab_sl _ _)) (by decide)).mono ?_); rintro e vc ⟨Ac, cc, rfl, h⟩; have HC := Lib.hid h; clear h)
    | (go_at_call 22; have X := HA; clear X; go_must (refine (same_any _ (some ⟨va.heap.size, 0, none⟩) _ 1 [[97]] [[97]] _ ?_ (strs1_at _) (by decide)).mono ?_); (exact sl_at ((HA.out.drop (fun w G hh => both_left w G hh)).kept (stab_dl _ _ _ _ _) (stab_both stab_non (stab_sl _ _)) ((Below.refl _ _).alloc (Nat.le_refl _) _)) rfl); rintro e vb ⟨rfl, j, rfl⟩; have HB := Lib.hid ((HA.out.kept (stab_dl _ _ _ _ _) (stab_both (stab_both stab_non (stab_sl _ _)) (stab_sl _ _)) ((Below.refl _ _).alloc (Nat.le_refl _) (.cells #[.string ⟨#[97]⟩] 9))).kept (stab_dl _ _ _ _ _) (stab_both (stab_both stab_non (stab_sl _ _)) (stab_sl _ _)) (drewB _ j)))
    | (go_at_call 10; have X := H14; clear X; go_must (refine (st_open_cl (f := 2) H14.out (stab_both (stab_both stab_non (stab_sl _ _)) (stab_sl _ _)) C14.out HT.out (by decide) (by decide) [[120], [], [97]] sm3 ?_).mono ?_); (simp); rintro e va ⟨ca, Da, rfl, h1, -, h2⟩; have CA := Lib.hid h1; have HA := Lib.hid h2; clear h1 h2)
    | (go_at_call 28; have X := H13; clear X; go_must (refine (st_start (f := 2) H13.out (stab_both (stab_both stab_non (stab_sl _ _)) (stab_sl _ _)) D13.out).mono ?_); rintro e v14 ⟨E14, rfl, h1, h2⟩; have C14 := Lib.hid h1; have H14 := Lib.hid h2; clear h1 h2)
    | (go_at_call 19; have X := H12; clear X; go_must (refine (st_fall (f := 2) H12.out (stab_both (stab_both stab_non (stab_sl _ _)) (stab_sl _ _)) C12.out).mono ?_); rintro e v13 ⟨E13, rfl, h1, h2⟩; have D13 := Lib.hid h1; have H13 := Lib.hid h2; clear h1 h2)
    | (go_at_call 14; go_must (refine (st_rewrite_own (f := 2) _ _ [[120], [], [97]] (lit3 H10.out (stab_both stab_non (stab_sl _ _))) (stab_both stab_non (stab_sl _ _)) C9.out.calm HT.out (by decide) (by decide) (fun e => by cases e) sm3 fl3 (by decide)).mono ?_); rintro e v12 ⟨E12, rfl, h1, -, -, h2⟩; have C12 := Lib.hid h1; have H12 := Lib.hid h2; clear h1 h2)
    | (go_at_call 13; have X := H9; clear X; go_must (refine (dl_all H9.out stab_non (by decide)).mono ?_); rintro e v10 ⟨A10, c10, rfl, h⟩; have H10 := Lib.hid h; clear h)
    | (go_at_call 10; have X := H8; clear X; go_must (refine (st_open_cl (f := 2) H8.out stab_non C8.out HT.out (by decide) (by decide) [[97]] sm1 ?_).mono ?_); (simp [flat]); rintro e v9 ⟨c9, E9, rfl, h1, -, h2⟩; have C9 := Lib.hid h1; have H9 := Lib.hid h2; clear h1 h2)
    | (go_at_call 28; have X := H7; clear X; go_must (refine (st_start (f := 2) H7.out stab_non D6.out).mono ?_); rintro e v8 ⟨E8, rfl, h1, h2⟩; have C8 := Lib.hid h1; have H8 := Lib.hid h2; clear h1 h2)
    | (go_at_call 11; have X := H6; clear X; go_must (refine (st_append_down (f := 2) H6.out stab_non D6.out HT.out [99] (sm _ (by decide)) (by decide)).mono ?_); rintro e v7 ⟨rfl, h2⟩; have H7 := Lib.hid h2; clear h2)
    | (go_at_call 19; have X := H5; clear X; go_must (refine (st_fall (f := 2) H5.out stab_non C5.out).mono ?_); rintro e v6 ⟨E6, rfl, h1, h2⟩; have D6 := Lib.hid h1; have H6 := Lib.hid h2; clear h1 h2)
    | (go_at_call 27; have X := H5; clear X; go_must (refine (dl_len H5.out).mono ?_); rintro e v ⟨rfl, rfl⟩)
    | (go_at_call 11; have X := H4; clear X; go_must (refine (st_append (f := 2) H4.out stab_non C4.out HT.out (by decide) (by decide) [98] (sm _ (by decide)) (by decide) ?_).mono ?_); (have := rA.out; have := rB.out; simp only [List.length_append, List.length_nil]; omega); rintro e v5 ⟨D5, rfl, h1, -, h2⟩; have C5 := Lib.hid h1; have H5 := Lib.hid h2; clear h1 h2)
    | (go_at_call 12; go_must (refine (st_flush (f := 2) H3.out stab_non C3.out (by decide) (by decide)).mono ?_); rintro e v4 ⟨D4, rfl, h1, -, h2⟩; have C4 := Lib.hid h1; have H4 := Lib.hid h2; clear h1 h2)
    | (go_at_call 11; have X := H2; clear X; go_must (refine (st_append (f := 2) H2.out stab_non C2.out HT.out (by decide) (by decide) [97] (sm _ (by decide)) (by decide) ?_).mono ?_); (have := rA.out; simp only [List.length_nil]; omega); rintro e v3 ⟨D3, rfl, h1, -, h2⟩; have C3 := Lib.hid h1; have H3 := Lib.hid h2; clear h1 h2)
    | (go_at_call 10; have X := N1; clear X; go_must (refine (open_nil _).mono ?_); rintro e v ⟨rfl, rfl⟩)
    | (go_at_call 10; have X := H2; clear X; go_must (refine (open_far _ _).mono ?_); rintro e v ⟨rfl, rfl⟩; have N1 := Lib.hid True.intro)
    | (go_at_call 10; have X := H1; clear X; go_must (refine (st_open_new H1.out stab_non HT.out 2 (by decide) (by decide)).mono ?_); rintro e v2 ⟨c2, D2, rfl, h1, -, h2⟩; have C2 := Lib.hid h1; have H2 := Lib.hid h2; clear h1 h2)
    | (go_at_call 8; go_must (refine (st_new w _ (Below.refl _ _)).mono ?_); rintro e v1 ⟨b, rfl, h⟩; have H1 := Lib.hid h; clear h))
  go_ret
  exact ⟨by simp, HD.out.below⟩
end Go.Proofs.YtgamkahbebnnaaaDoor.D5
