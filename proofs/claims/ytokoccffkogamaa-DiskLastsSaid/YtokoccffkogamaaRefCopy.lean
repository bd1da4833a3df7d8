/-
  The reference's Copy.
-/
import Derived.Test.YtokoccffkogamaaRefMore
import Derived.Deep.RegionHeldLaw
namespace Go.Proofs.Ytokoccffkogamaa
open Go.RowKit
theorem own_empty {W : World} {base g : Nat} {e : TypeId} {size : Nat} (h : W.heap[g]? = some (.cells #[] e (0, 0))) (hb : base ≤ g) : W.ownsRow base e size (.slice (some ⟨g, 0, none⟩) 0 0) 0 [] :=
  ⟨by simp, .inr ⟨g, 0, #[], rfl, hb, h, Nat.le_refl _, by simp [maxLen], by simp, by simp⟩⟩
theorem fileCells_one (D : Dk) : ∀ u ∈ fileCells D, u.oneCell' = true := by
  intro u hu
  simp only [fileCells, List.mem_cons, List.not_mem_nil, or_false] at hu
  rcases hu with rfl | rfl | rfl | rfl | rfl | rfl | rfl | rfl | rfl | rfl | rfl | rfl | rfl | rfl | rfl | rfl <;> rfl
theorem fileCells_len (D : Dk) : (fileCells D).length = 8 * 2 := rfl
/-- What the copy's walk knows of a world: of what was there nothing has turned. -/
theorem below_drew1 (w : World) : Below w.heap.size w w.drew := ⟨rfl, rfl, rfl, Nat.le_refl _, fun _ _ => rfl⟩
theorem row_below {w W : World} {A : Option Addr} {us : List Value} (h : RowAt w A us) (hb : Below w.heap.size w W) : RowAt W A us :=
  h.kept (Fr.of_below (F := fun _ => False) hb (Nat.le_refl _)) (fun _ _ hh => hh)
theorem Ref.files {F : Nat → Prop} {w : World} {r g cap kcap : Nat} {K : Option Addr} {ks : List Int} {D : Dk} (h : Ref w r g cap K kcap ks F D) : RowAt w (some ⟨g, 0, none⟩) (fileCells D) := fun k u hk => by
  refine ⟨_, rfl, ?_⟩
  exact World.ownsRow.cells h.row rfl k u hk
theorem Ref.copied {F : Nat → Prop} {w w2 : World} {r g cap kcap : Nat} {K : Option Addr} {ks : List Int} {D : Dk} (h : Ref w r g cap K kcap ks F D) (hb : Below w.heap.size w w2) {A' A2 : Addr} {cap' cap2 : Nat}
    (h1 : w2.ownsRow w.heap.size 67 2 (.slice (some A') 8 cap') 8 (fileCells D)) (h2 : w2.ownsRow w.heap.size 3 1 (.slice (some A2) ks.length cap2) ks.length (ints ks)) :
    ∃ F', RHas (w2.alloc (.cells #[.slice (some A') 8 cap', .int .i64 (D.lost : Nat), .bool D.down, .int .i64 (D.left : Nat), .slice (some A2) ks.length cap2] 60)) w2.heap.size F' D ∧ ∀ k, F' k → w.heap.size ≤ k := by
  have b1 := h1.lt A'.block rfl
  have b2 := h2.lt A2.block rfl
  have hA : ∃ g', A' = ⟨g', 0, none⟩ := by
    rcases h1.2 with ⟨h5, _⟩ | ⟨g', c', cur, h5, _⟩
    · cases h5
    · injection h5 with a _ _
      injection a with a
      exact ⟨g', a⟩
  obtain ⟨g', rfl⟩ := hA
  have b1' : w.heap.size ≤ g' ∧ g' < w2.heap.size := b1
  refine ⟨fun k => w.heap.size ≤ k ∧ k < w2.heap.size + 1, ⟨g', cap', some A2, cap2, ks, ?_⟩, fun k hk => hk.1⟩
  have hs := hb.size
  exact ⟨Is.fresh w2 60 _, World.ownsRow.mono (h1.alloc _) (Nat.zero_le _), World.ownsRow.mono (h2.alloc _) (Nat.zero_le _), h.keep, h.small, ⟨hs, by omega⟩, ⟨b1'.1, by have := b1'.2; omega⟩, fun a ha => (by cases ha; exact ⟨b2.1, by have := b2.2; omega⟩), fun k hk => by simp; omega, h.ok⟩
theorem below_draw {B : Nat} {w W : World} (h : Below B w W) : Below B w W.drew := ⟨h.os, h.tape, h.output, h.size, h.block⟩
theorem below_grow {w W w' : World} {k : Nat} (h : Below w.heap.size w W) (hg : W.grownBy w' (some k)) (hk : w.heap.size ≤ k) : Below w.heap.size w w' := h.grown hg h.size (fun j hj => by injection hj with hj; omega)
theorem bel1 (w : World) (B : Obj) : Below w.heap.size w (w.alloc B).drew := below_draw ((Below.refl w.heap.size w).alloc (Nat.le_refl _) B)
theorem bel2 (w : World) (B B' : Obj) : Below w.heap.size w ((w.alloc B).alloc B').drew := below_draw (((Below.refl w.heap.size w).alloc (Nat.le_refl _) B).alloc (by simp) B')
theorem e1 (w : World) (B : Obj) : (w.alloc B).drew.heap[w.heap.size]? = some B := heap_alloc_new w B
theorem e1' (w : World) (B : Obj) : (w.alloc B).heap[w.heap.size]? = some B := heap_alloc_new w B
theorem e2 (w : World) (B B' : Obj) : ((w.alloc B).alloc B').drew.heap[w.heap.size]? = some B := (Below.heap_alloc (w.alloc B) B' w.heap.size (by simp)).trans (heap_alloc_new w B)
theorem e3 (w : World) (B B' : Obj) : ((w.alloc B).alloc B').drew.heap[w.heap.size + 1]? = some B' := by
  have := heap_alloc_new (w.alloc B) B'
  rw [show (w.alloc B).heap.size = w.heap.size + 1 by simp] at this
  exact this
theorem own_alloc_kept {W w2 : World} {base e size n k : Nat} {v : Value} {xs : List Value} (h : W.ownsRow base e size v n xs) (hg : W.grownBy w2 (some k)) {e' : Nat} {c : Array Value} (hk : Is W k e' c) (hne : e ≠ e') : w2.ownsRow base e size v n xs :=
  h.kept hg (.inr (Is.row_apart h hk hne))
theorem grow_old {W w' : World} {k j : Nat} {o : Obj} (hg : W.grownBy w' (some k)) (hj : W.heap[j]? = some o) (hne : j ≠ k) : w'.heap[j]? = some o := by
  have hl : j < W.heap.size := by
    by_cases h : j < W.heap.size
    · exact h
    · rw [Array.getElem?_eq_none (by omega)] at hj; cases hj
  exact (hg.block j hl (fun e => by injection e with e; exact hne e)).trans hj
set_option maxRecDepth 40000 in
set_option maxHeartbeats 4000000 in
theorem rcopy_any (r : Nat) (D : Dk) (F : Nat → Prop) (w : World) (h : RHas w r F D) :
    Calls Try.prog 17 #[.pointer (some ⟨r, 0, none⟩)] w fun e w' => ∃ r', e = .returned (.pointer (some ⟨r', 0, none⟩)) ∧ Below w.heap.size w w' ∧ ∃ F', RHas w' r' F' D ∧ ∀ k, F' k → w.heap.size ≤ k := by
  obtain ⟨g, cap, K, kcap, ks, h⟩ := h
  have hrl := h.is.lt
  have c0 := h.c0
  have c1 := h.c1
  have c2 := h.c2
  have c3 := h.c3
  have c4 := h.c4
  have up : ∀ (o : Obj) {i : Nat} {v : Value} {W : World}, W.cell? ⟨r, i, none⟩ = some v → (W.alloc o).cell? ⟨r, i, none⟩ = some v := fun o i v W hc => by
    rw [World.cell?_alloc_lt _ _ _ (World.block_lt_of_cell? W _ hc)]
    exact hc
  have d0 := fun o => up o c0
  have d1 := fun o => up o c1
  have d2 := fun o => up o c2
  have d3 := fun o => up o c3
  have d4 := fun o => up o c4
  have b0 := fun o o' => up o' (d0 o)
  have b1 := fun o o' => up o' (d1 o)
  have b2 := fun o o' => up o' (d2 o)
  have b3 := fun o o' => up o' (d3 o)
  have b4 := fun o o' => up o' (d4 o)
  have HF := Lib.hid h.files
  have HK := Lib.hid h.keeps
  have H1 := Lib.hid (fileCells_one D)
  have H2 := Lib.hid (fileCells_len D)
  have H3 := Lib.hid (ints_one ks)
  have H4 : Hid ((ints ks).length = ks.length * 1) := Lib.hid (by rw [ints_length, Nat.mul_one])
  have HS := Lib.hid h.small
  have hA0 : K = none → ks.length = 0 := fun e => by
    obtain ⟨A, c, e1, hr, hl⟩ := own_read h.kept
    cases e1
    subst e
    rcases h.kept.2 with ⟨h5, h6⟩ | ⟨g', c', cur, h5, _⟩
    · exact h6
    · cases h5
  have HA0 := Lib.hid hA0
  have UP := Lib.hid (fun (W : World) (hb : Below w.heap.size w W) (i : Nat) (v : Value) (hc : w.cell? ⟨r, i, none⟩ = some v) => (hb.cell (p := ⟨r, i, none⟩) hrl).trans hc)
  have HC4 := Lib.hid c4
  have HC1 := Lib.hid c1
  have HC0 := Lib.hid c0
  have HC2 := Lib.hid c2
  have HC3 := Lib.hid c3
  have UP2 := Lib.hid (fun (W : World) (o : Obj) (i : Nat) (v : Value) (hc : W.cell? ⟨r, i, none⟩ = some v) => up o hc)
  obtain ⟨i0, hi, hz0, hz1, hz2⟩ := info_parts info67
  obtain ⟨j0, hj, hy0, hy1, hy2⟩ := info_parts info3w
  have HH := Lib.hid h
  clear h hA0 hrl up
  go_enter Try.func17, Try.ntmps17
  go_wp2
  go_region_held_law (fun W => W.cell? ⟨r, 0, none⟩ = some (.slice (some ⟨g, 0, none⟩) 8 cap) ∧ W.cell? ⟨r, 1, none⟩ = some (.int .i64 (D.lost : Nat)) ∧ W.cell? ⟨r, 2, none⟩ = some (.bool D.down) ∧ W.cell? ⟨r, 3, none⟩ = some (.int .i64 (D.left : Nat)) ∧ W.cell? ⟨r, 4, none⟩ = some (.slice K ks.length kcap))
    (first | exact ⟨c0, c1, c2, c3, c4⟩ | exact ⟨d0 _, d1 _, d2 _, d3 _, d4 _⟩ | exact ⟨b0 _ _, b1 _ _, b2 _ _, b3 _ _, b4 _ _⟩ | exact ⟨x0, x1, x2, x3, x4⟩ | exact ⟨y0 _, y1 _, y2 _, y3 _, y4 _⟩ | exact ⟨z0, z1, z2, z3, z4⟩ | exact ⟨u0 _, u1 _, u2 _, u3 _, u4 _⟩) (first
    | (refine step_append_copy rfl (.tmp 3) (.tmp 7) 58 rfl 67 i0 (.agg #[.string ⟨#[]⟩, .string ⟨#[]⟩]) 2 32 Try.underlying58 hi hz0 hz1 hz2 rfl (by decide) w.heap.size _ rfl (own_empty (by first | exact e1 _ _ | exact e2 _ _ _ | exact e3 _ _ _) (by first | (simp; done) | (simp; omega))) (some ⟨g, 0, none⟩) 8 cap (fileCells D) rfl H2.out (row_below HF.out (by first | exact bel1 w _ | exact bel2 w _ _)) (fun e => by cases e) H1.out (by simp [maxLen]) (by omega) (by first | (simp; done) | (simp; omega)) ?_; intro A' cap' w' hown hgr
       have hb' := below_grow (by first | exact bel1 w _ | exact bel2 w _ _) hgr (by first | (simp; done) | (simp; omega))
       have x0 := UP.out w' hb' 0 _ HC0.out
       have x1 := UP.out w' hb' 1 _ HC1.out
       have y0 := fun o => UP2.out w' o 0 _ x0
       have x2 := UP.out w' hb' 2 _ HC2.out
       have x3 := UP.out w' hb' 3 _ HC3.out
       have x4 := UP.out w' hb' 4 _ HC4.out
       have y1 := fun o => UP2.out w' o 1 _ x1
       have y2 := fun o => UP2.out w' o 2 _ x2
       have y3 := fun o => UP2.out w' o 3 _ x3
       have y4 := fun o => UP2.out w' o 4 _ x4
       try (have E3 : Hid (w'.heap[w.heap.size + 1]? = some (.cells #[] 3 (0, 0))) := Lib.hid (grow_old hgr (e3 _ _ _) (by omega)))
       try (have E4 : Hid (w'.heap[w.heap.size]? = some (.cells #[] 3 (0, 0))) := Lib.hid (grow_old hgr (e2 _ _ _) (by omega)))
       have HB' := Lib.hid hb'
       have HO' := Lib.hid hown
       have HZ : Hid (w.heap.size ≤ w'.heap.size) := Lib.hid hb'.size
       clear hb' hown hgr)
    | (refine step_append_copy rfl (.tmp 21) (.tmp 25) 30 rfl 3 j0 (.int .i64 0) 1 8 Try.underlying30 hj hy0 hy1 hy2 rfl (by decide) w.heap.size _ rfl (own_empty (by first | exact E3.out | exact E4.out | exact e1' _ _) (by have := HZ.out; omega)) K ks.length kcap (ints ks) rfl H4.out (row_below HK.out (by first | exact HB'.out | exact HB'.out.alloc HZ.out _)) HA0.out H3.out (by have := HS.out; simp only [maxLen]; omega) (by have := HS.out; omega) (by have := HZ.out; simp; omega) ?_; intro A2 cap2 w2 hown2 hgr2
       have hb2 : Below w.heap.size w w2 := by first | exact below_grow HB'.out hgr2 (by have := HZ.out; omega) | exact below_grow (HB'.out.alloc HZ.out _) hgr2 HZ.out
       have ho1 : w2.ownsRow w.heap.size 67 2 (.slice (some A') 8 cap') 8 (fileCells D) := by first | exact own_alloc_kept HO'.out hgr2 E3.out (by decide) | exact own_alloc_kept HO'.out hgr2 E4.out (by decide) | exact own_alloc_kept (HO'.out.alloc _) hgr2 (e1' _ _) (by decide)
       have z0 := UP.out w2 hb2 0 _ HC0.out
       have z4 := UP.out w2 hb2 4 _ HC4.out
       have z1 := UP.out w2 hb2 1 _ HC1.out
       have z2 := UP.out w2 hb2 2 _ HC2.out
       have z3 := UP.out w2 hb2 3 _ HC3.out
       have u0 := fun o => UP2.out w2 o 0 _ z0
       have u1 := fun o => UP2.out w2 o 1 _ z1
       have u2 := fun o => UP2.out w2 o 2 _ z2
       have u3 := fun o => UP2.out w2 o 3 _ z3
       have u4 := fun o => UP2.out w2 o 4 _ z4
       have FIN := Lib.hid (HH.out.copied hb2 ho1 hown2)
       have HB2 := Lib.hid hb2
       clear hb2 ho1 hown2 hgr2))
  all_goals
    go_wp2
    go_ret
    refine ⟨_, rfl, HB2.out.alloc HB2.out.size _, FIN.out⟩
end Go.Proofs.Ytokoccffkogamaa
