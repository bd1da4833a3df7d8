/-
  What Pack writes: literals and matches into a strings.Builder.
-/
import Derived.Test.YtgamkahbebnnaaaDoorShelf
import Derived.Test.YtgamkahbebnnaaaDoorNew
namespace Go.Proofs.YtgamkahbebnnaaaDoor
open Go.RowKit Go.Maps
set_option maxRecDepth 40000
theorem others_below {w w' : World} (h : Below w.heap.size w w') (b : Option Nat) : Lib.OthersKept 5 b w w' := fun k o hk _ _ => by
  have hlt : k < w.heap.size := (Array.getElem?_eq_some_iff.1 hk).1
  rw [h.block k hlt]; exact hk
/-- A builder stays what it is where its own block and every row of bytes stand. -/
theorem builder_stays {B b : Nat} {bs : List Value} {w w' : World} (h : Lib.IsBuilderF 76 5 B b bs w) (hk : ∀ (k : Nat) (c : Array Value) (t : TypeId) (fz : Nat × Nat), w.heap[k]? = some (Obj.cells c t fz) → t = 76 ∨ t = 5 → w'.heap[k]? = w.heap[k]?) : Lib.IsBuilderF 76 5 B b bs w' := by
  have one : ∀ p, Lib.BuilderAtF 76 5 B b p bs w → Lib.BuilderAtF 76 5 B b p bs w' := by
    intro p h
    obtain ⟨hB, v, hb, hown, hne⟩ := h
    refine ⟨hB, v, (hk b _ _ _ hb (.inl rfl)).trans hb, ⟨hown.1, ?_⟩, hne⟩
    rcases hown.2 with hn | ⟨g, cap, cur, fz, hv, hbg, hg, rest⟩
    · exact .inl hn
    · exact .inr ⟨g, cap, cur, fz, hv, hbg, (hk g _ _ _ hg (.inr rfl)).trans hg, rest⟩
  exact h.elim (fun x => .inl (one _ x)) (fun x => .inr (one _ x))
theorem builder_below {B b : Nat} {bs : List Value} {w w' : World} (h : Lib.IsBuilderF 76 5 B b bs w) (hk : Below w.heap.size w w') : Lib.IsBuilderF 76 5 B b bs w' :=
  builder_stays h fun k _ _ _ e _ => hk.block k (Array.getElem?_eq_some_iff.1 e).1
theorem builder_tri {B b r m g n : Nat} {bs : List Value} {w w' : World} {c c' : Array Value} {D : DataW Unit} (h : Lib.IsBuilderF 76 5 B b bs w) (hk : Tri r m g w w') (hr : Is w r 111 c) (hg : Is w g 3 c') (hm : w.ownsMap Tryd.prog 100 (plainElem Tryd.prog 3) m n D) : Lib.IsBuilderF 76 5 B b bs w' :=
  builder_stays h fun k x t fz e ht => by
    refine hk.block k (Array.getElem?_eq_some_iff.1 e).1 ?_ ?_ ?_
    · rintro rfl
      have hr' : w.heap[k]? = _ := hr
      rw [hr'] at e; injection e with e; injection e with _ e _; subst e; rcases ht with ht | ht <;> exact absurd ht (by decide)
    · rintro rfl
      obtain ⟨es, clock, hb, _⟩ := hm
      rw [hb] at e; cases e
    · rintro rfl
      have hg' : w.heap[k]? = _ := hg
      rw [hg'] at e; injection e with e; injection e with _ e _; subst e; rcases ht with ht | ht <;> exact absurd ht (by decide)
theorem Rec.others {w w' : World} {r m g : Nat} {s : ByteArray} {n : Nat} {D : DataW Unit} {bk : List Nat} {b : Nat} (h : Rec w r m g s n D bk) (hk : Lib.OthersKept 5 (some b) w w') (hb : r ≠ b ∧ m ≠ b ∧ g ≠ b) : Rec w' r m g s n D bk := by
  obtain ⟨hI, hO, hG, hL⟩ := h
  refine ⟨hk r _ hI (by simpa using hb.1) (by intro c fz e; injection e with _ e _; exact absurd e (by decide)), ?_, hk g _ hG (by simpa using hb.2.2) (by intro c fz e; injection e with _ e _; exact absurd e (by decide)), hL⟩
  obtain ⟨es, clock, hm, rest⟩ := hO
  exact ⟨es, clock, hk m _ hm (by simpa using hb.2.1) (by intro c fz e; cases e), rest⟩
theorem Rec.drew {w : World} {r m g : Nat} {s : ByteArray} {n : Nat} {D : DataW Unit} {bk : List Nat} (h : Rec w r m g s n D bk) (j : Nat) : Rec (w.drewN j) r m g s n D bk := ⟨h.is, h.map, h.row, h.len⟩
theorem cells_append (a : List UInt8) (x : ByteArray) : Lib.byteCells a ++ Lib.strCells x = Lib.byteCells (a ++ ls x) := by
  rw [Lib.byteCells_append]; rfl
set_option maxRecDepth 20000 in
set_option maxHeartbeats 1000000 in
theorem wlit_any (B b : Nat) (acc : List UInt8) (x : ByteArray) (w : World) (h : Lib.IsBuilderF 76 5 B b (Lib.byteCells acc) w) (hl : acc.length ≤ 100000000) (hx : x.size ≤ 16777216) (hB : B ≤ w.heap.size) :
    Calls Tryd.prog 60 #[.pointer (some ⟨b, 0, none⟩), .string x] w fun e w' => e = .returned (.tuple #[]) ∧ Lib.IsBuilderF 76 5 B b (Lib.byteCells (acc ++ lit (ls x))) w' ∧ Below B w w' ∧ Lib.OthersKept 5 (some b) w w' := by
  have e0 := empty_iff x
  by_cases he : ls x = []
  · have e1 : x.toList.isEmpty = true := by rw [e0, he]; rfl
    have HL : Hid (lit (ls x) = []) := Lib.hid (by rw [he]; rfl)
    clear e0 he
    go_enter Tryd.func60, Tryd.ntmps60
    go_wp2
    exact bodyPost_ret (results_none rfl _ _ _) rfl ⟨rfl, by rw [HL.out, List.append_nil]; exact h, Below.refl _ _, Lib.OthersKept.refl _ _ _⟩
  · have e1 : x.toList.isEmpty = false := by rw [e0]; simpa using he
    have N : Hid (∀ W, Calls Tryd.prog 49 #[.int .i64 (2 * (x.size : Int))] W fun e w' => e = .returned (.string (mk (vint (2 * x.size)))) ∧ Below W.heap.size W w') := Lib.hid (fun W => by
      rw [show (2 * (x.size : Int)) = ((2 * x.size : Nat) : Int) by omega]
      exact cnum_any (2 * x.size) W (by omega))
    have HL : Hid (lit (ls x) = vint (2 * x.size) ++ ls x) := Lib.hid (by unfold lit; rw [if_neg he]; rfl)
    have hv := vint_nine (2 * x.size) (by omega)
    obtain ⟨y, hy⟩ : ∃ y, y = mk (vint (2 * x.size)) := ⟨_, rfl⟩
    have hy9 : y.size ≤ 9 := by rw [hy]; exact hv
    rw [← hy] at N
    have HY : Hid (ls y = vint (2 * x.size)) := Lib.hid (by rw [hy]; rfl)
    have H0 := Lib.hid h
    clear e0 he hv hy h
    go_enter Tryd.func60, Tryd.ntmps60
    go_wp2_with (first
      | (go_at_call 49; refine (N.out _).mono ?_; rintro e w1 ⟨rfl, h1⟩; have H1 := Lib.hid h1; have I1 := Lib.hid (builder_below H0.out h1); have hB1 : B ≤ w1.heap.size := Nat.le_trans hB h1.size; clear h1)
      | (go_at_call 36; have I2' := I2; refine (Tryd.WriteString_k B b _ x _ I2.out ?_ hB2).mono ?_; (rw [Lib.byteCells_length, List.length_append, ls_length]; omega); rintro e w3 ⟨rfl, h5, h6, h7⟩; have I3 := Lib.hid h5; have B3 := Lib.hid h6; have O3 := Lib.hid h7; clear h5 h6 h7)
      | (go_at_call 36; refine (Tryd.WriteString_k B b _ y _ I1.out ?_ hB1).mono ?_; (rw [Lib.byteCells_length]; omega); rintro e w2 ⟨rfl, h2, h3, h4⟩; have I2 : Hid (Lib.IsBuilderF 76 5 B b (Lib.byteCells (acc ++ ls y)) w2) := Lib.hid (by rw [← cells_append]; exact .inr h2); have hB2 : B ≤ w2.heap.size := Nat.le_trans hB1 h3.size; have B2 := Lib.hid h3; have O2 := Lib.hid h4; clear h2 h3 h4))
    go_end0
    refine ⟨rfl, ?_, ((H1.out.mono hB).trans B2.out).trans B3.out, ((others_below H1.out _).trans O2.out).trans O3.out⟩
    rw [HL.out, ← HY.out, ← List.append_assoc, ← cells_append]
    exact .inr I3.out
set_option maxRecDepth 20000 in
set_option maxHeartbeats 1000000 in
theorem wmatch_any (B b k d : Nat) (acc : List UInt8) (w : World) (h : Lib.IsBuilderF 76 5 B b (Lib.byteCells acc) w) (hl : acc.length ≤ 100000000) (hk : k ≤ 16777216) (hd : d ≤ 16777216) (hB : B ≤ w.heap.size) :
    Calls Tryd.prog 61 #[.pointer (some ⟨b, 0, none⟩), .int .i64 (k : Int), .int .i64 (d : Int)] w fun e w' => e = .returned (.tuple #[]) ∧ Lib.IsBuilderF 76 5 B b (Lib.byteCells (acc ++ (vint (2 * k + 1) ++ vint d))) w' ∧ Below B w w' ∧ Lib.OthersKept 5 (some b) w w' := by
  obtain ⟨x, hx⟩ : ∃ y, y = mk (vint (2 * k + 1)) := ⟨_, rfl⟩
  obtain ⟨y, hy⟩ : ∃ y, y = mk (vint d) := ⟨_, rfl⟩
  have hx9 : x.size ≤ 9 := by rw [hx]; exact vint_nine _ (by omega)
  have hy9 : y.size ≤ 9 := by rw [hy]; exact vint_nine _ (by omega)
  have N1 : Hid (∀ W, Calls Tryd.prog 49 #[.int .i64 (2 * (k : Int) + 1)] W fun e w' => e = .returned (.string x) ∧ Below W.heap.size W w') := Lib.hid (fun W => by
    rw [show (2 * (k : Int) + 1) = ((2 * k + 1 : Nat) : Int) by omega, hx]
    exact cnum_any (2 * k + 1) W (by omega))
  have N2 : Hid (∀ W, Calls Tryd.prog 49 #[.int .i64 (d : Int)] W fun e w' => e = .returned (.string y) ∧ Below W.heap.size W w') := Lib.hid (fun W => by
    rw [hy]; exact cnum_any d W (by omega))
  have HX : Hid (ls x = vint (2 * k + 1)) := Lib.hid (by rw [hx]; rfl)
  have HY : Hid (ls y = vint d) := Lib.hid (by rw [hy]; rfl)
  have H0 := Lib.hid h
  clear hx hy h
  go_enter Tryd.func61, Tryd.ntmps61
  go_wp2_with (first
    | (go_at_call 49; have I2' := I2; refine (N2.out _).mono ?_; rintro e w3 ⟨rfl, h1⟩; have H3 := Lib.hid h1; have I3 := Lib.hid (builder_below I2.out h1); have hB3 : B ≤ w3.heap.size := Nat.le_trans hB2 h1.size; clear h1)
    | (go_at_call 49; refine (N1.out _).mono ?_; rintro e w1 ⟨rfl, h1⟩; have H1 := Lib.hid h1; have I1 := Lib.hid (builder_below H0.out h1); have hB1 : B ≤ w1.heap.size := Nat.le_trans hB h1.size; clear h1)
    | (go_at_call 36; have I3' := I3; refine (Tryd.WriteString_k B b _ y _ I3.out ?_ hB3).mono ?_; (rw [Lib.byteCells_length, List.length_append, ls_length]; omega); rintro e w4 ⟨rfl, h5, h6, h7⟩; have I4 := Lib.hid h5; have B4 := Lib.hid h6; have O4 := Lib.hid h7; clear h5 h6 h7)
    | (go_at_call 36; refine (Tryd.WriteString_k B b _ x _ I1.out ?_ hB1).mono ?_; (rw [Lib.byteCells_length]; omega); rintro e w2 ⟨rfl, h2, h3, h4⟩; have I2 : Hid (Lib.IsBuilderF 76 5 B b (Lib.byteCells (acc ++ ls x)) w2) := Lib.hid (by rw [← cells_append]; exact .inr h2); have hB2 : B ≤ w2.heap.size := Nat.le_trans hB1 h3.size; have B2 := Lib.hid h3; have O2 := Lib.hid h4; clear h2 h3 h4))
  go_end0
  refine ⟨rfl, ?_, (((H1.out.mono hB).trans B2.out).trans (H3.out.mono hB2)).trans B4.out, (((others_below H1.out _).trans O2.out).trans (others_below H3.out _)).trans O4.out⟩
  rw [← HX.out, ← HY.out, ← List.append_assoc, ← cells_append]
  exact .inr I4.out
end Go.Proofs.YtgamkahbebnnaaaDoor
