/-
  The reference's disk in memory; its readers.
-/
import Derived.Test.YtokoccffkogamaaEnter
namespace Go.Proofs.Ytokoccffkogamaa
open Go.RowKit
theorem extract_take (s : ByteArray) (k : Nat) : s.extract 0 k = mk ((ls s).take k) := by
  apply ls_inj
  show (s.extract 0 k).data.toList = (ls s).take k
  rw [ByteArray.data_extract, Array.toList_extract, List.extract_eq_take_drop]
  rfl
theorem mk_append (a b : List UInt8) : mk a ++ mk b = mk (a ++ b) := by
  apply ls_inj
  show (mk a ++ mk b).data.toList = a ++ b
  rw [ByteArray.data_append, Array.toList_append]
  rfl
/-- The reference's files as cells. -/
def fileCells (D : Dk) : List Value := [
  .string (mk (D.fs 0).1), .string (mk (D.fs 0).2), .string (mk (D.fs 1).1), .string (mk (D.fs 1).2), .string (mk (D.fs 2).1), .string (mk (D.fs 2).2), .string (mk (D.fs 3).1), .string (mk (D.fs 3).2),
  .string (mk (D.fs 4).1), .string (mk (D.fs 4).2), .string (mk (D.fs 5).1), .string (mk (D.fs 5).2), .string (mk (D.fs 6).1), .string (mk (D.fs 6).2), .string (mk (D.fs 7).1), .string (mk (D.fs 7).2)]
theorem fileCells_a (D : Dk) {f : Nat} (h : f < 8) : (fileCells D)[f * 2]? = some (.string (mk (D.fs f).1)) := by
  rcases lt8 h with rfl | rfl | rfl | rfl | rfl | rfl | rfl | rfl <;> rfl
theorem fileCells_b (D : Dk) {f : Nat} (h : f < 8) : (fileCells D)[f * 2 + 1]? = some (.string (mk (D.fs f).2)) := by
  rcases lt8 h with rfl | rfl | rfl | rfl | rfl | rfl | rfl | rfl <;> rfl
theorem fileCells_set (D : Dk) {f : Nat} (h : f < 8) (x : List UInt8 × List UInt8) : ((fileCells D).set (f * 2) (.string (mk x.1))).set (f * 2 + 1) (.string (mk x.2)) = fileCells (D.set f x) := by
  rcases lt8 h with rfl | rfl | rfl | rfl | rfl | rfl | rfl | rfl <;> simp [fileCells, Dk.set, upd]
theorem fileCells_set_b (D : Dk) {f : Nat} (h : f < 8) (y : List UInt8) : (fileCells D).set (f * 2 + 1) (.string (mk y)) = fileCells (D.set f ((D.fs f).1, y)) := by
  rcases lt8 h with rfl | rfl | rfl | rfl | rfl | rfl | rfl | rfl <;> simp [fileCells, Dk.set, upd]
theorem fileCells_congr {D D' : Dk} (h : ∀ f, f < 8 → D.fs f = D'.fs f) : fileCells D = fileCells D' := by
  unfold fileCells
  rw [h 0 (by omega), h 1 (by omega), h 2 (by omega), h 3 (by omega), h 4 (by omega), h 5 (by omega), h 6 (by omega), h 7 (by omega)]
def refCells (g cap : Nat) (K : Option Addr) (kcap : Nat) (ks : List Int) (D : Dk) : Array Value := #[.slice (some ⟨g, 0, none⟩) 8 cap, .int .i64 (D.lost : Nat), .bool D.down, .int .i64 (D.left : Nat), .slice K ks.length kcap]
/-- The reference's disk in block r. -/
structure Ref (w : World) (r g cap : Nat) (K : Option Addr) (kcap : Nat) (ks : List Int) (F : Nat → Prop) (D : Dk) : Prop where
  laid ::
  is : Is w r 60 (refCells g cap K kcap ks D)
  row : w.ownsRow 0 67 2 (.slice (some ⟨g, 0, none⟩) 8 cap) 8 (fileCells D)
  kept : w.ownsRow 0 3 1 (.slice K ks.length kcap) ks.length (ints ks)
  keep : ∀ f, f < 8 → D.keep f = kf ks f
  small : ks.length ≤ 17592186043904
  mr : F r
  mg : F g
  mq : ∀ a, K = some a → F a.block
  lt : ∀ k, F k → k < w.heap.size
  ok : D.Ok
def RHas (w : World) (r : Nat) (F : Nat → Prop) (D : Dk) : Prop := ∃ g cap K kcap ks, Ref w r g cap K kcap ks F D
def RStep (r : Nat) (F : Nat → Prop) (w w' : World) (D' : Dk) : Prop := ∃ F', RHas w' r F' D' ∧ (∀ k, F' k → F k ∨ w.heap.size ≤ k) ∧ Fr F w w'
section
variable {F G F1 : Nat → Prop} {w w1 w2 : World} {r g cap kcap : Nat} {K : Option Addr} {ks : List Int} {D D' D2 : Dk}
theorem own_block {w : World} {base : Nat} {e : TypeId} {size n cap : Nat} {A : Option Addr} {xs : List Value} (_ : w.ownsRow base e size (.slice A n cap) n xs) : (Value.slice A n cap).ownBlock = A.map Addr.block := by
  cases A <;> rfl
theorem Ref.kept_to (h : Ref w r g cap K kcap ks F D) (hf : Fr G w w1) (hd : ∀ k, F k → ¬ G k) : Ref w1 r g cap K kcap ks F D :=
  ⟨hf.is h.is (hd r h.mr), hf.own h.row (fun k hk => by cases hk; exact hd g h.mg), hf.own h.kept (fun k hk => by
    cases K with
    | none => cases hk
    | some a => cases hk; exact hd _ (h.mq a rfl)), h.keep, h.small, h.mr, h.mg, h.mq, fun k hk => Nat.lt_of_lt_of_le (h.lt k hk) hf.size, h.ok⟩
theorem RHas.kept (h : RHas w r F D) (hf : Fr G w w1) (hd : ∀ k, F k → ¬ G k) : RHas w1 r F D := by
  obtain ⟨g, cap, K, kcap, ks, h⟩ := h
  exact ⟨g, cap, K, kcap, ks, h.kept_to hf hd⟩
theorem RHas.lt (h : RHas w r F D) : ∀ k, F k → k < w.heap.size := by
  obtain ⟨g, cap, K, kcap, ks, h⟩ := h
  exact h.lt
theorem RHas.ok (h : RHas w r F D) : D.Ok := by
  obtain ⟨g, cap, K, kcap, ks, h⟩ := h
  exact h.ok
theorem RHas.drew (h : RHas w r F D) (n : Nat) : RHas (w.drewN n) r F D := by
  obtain ⟨g, cap, K, kcap, ks, h⟩ := h
  exact ⟨g, cap, K, kcap, ks, h.is, h.row, h.kept, h.keep, h.small, h.mr, h.mg, h.mq, h.lt, h.ok⟩
theorem Ref.congr (h : Ref w r g cap K kcap ks F D) (h1 : ∀ f, f < 8 → D.fs f = D'.fs f) (h2 : D.down = D'.down) (h3 : D.lost = D'.lost) (h4 : D.left = D'.left) (h5 : ∀ f, f < 8 → D.keep f = D'.keep f) : Ref w r g cap K kcap ks F D' :=
  ⟨by have := h.is; unfold refCells at this ⊢; rw [h2, h3, h4] at this; exact this, by rw [← fileCells_congr h1]; exact h.row, h.kept, fun f hf => (h5 f hf).symm.trans (h.keep f hf), h.small, h.mr, h.mg, h.mq, h.lt,
    ⟨h3 ▸ h.ok.lost, h4 ▸ h.ok.left, fun f hf => by have := h.ok.len f hf; unfold Dk.len at this ⊢; rw [← h1 f hf]; exact this⟩⟩
theorem RHas.congr (h : RHas w r F D) (h1 : ∀ f, f < 8 → D.fs f = D'.fs f) (h2 : D.down = D'.down) (h3 : D.lost = D'.lost) (h4 : D.left = D'.left) (h5 : ∀ f, f < 8 → D.keep f = D'.keep f) : RHas w r F D' := by
  obtain ⟨g, cap, K, kcap, ks, h⟩ := h
  exact ⟨g, cap, K, kcap, ks, h.congr h1 h2 h3 h4 h5⟩
theorem RStep.same (h : RHas w1 r F D) (hf : Fr F w w1) : RStep r F w w1 D := ⟨F, h, fun _ hk => .inl hk, hf⟩
theorem RStep.refl (h : RHas w r F D) : RStep r F w w D := RStep.same h (Fr.refl F w)
theorem RStep.trans (hf : Fr F w w1) (hg : ∀ k, F1 k → F k ∨ w.heap.size ≤ k) (h : RStep r F1 w1 w2 D2) : RStep r F w w2 D2 := by
  obtain ⟨F2, h1, h2, h3⟩ := h
  refine ⟨F2, h1, fun k hk => ?_, hf.trans h3 (fun i hi h => ?_)⟩
  · rcases h2 k hk with h | h
    · exact hg k h
    · exact .inr (Nat.le_trans hf.size h)
  · rcases hg i h with h | h
    · exact h
    · omega
theorem RStep.drew (h : RStep r F w w1 D) (n : Nat) : RStep r F w (w1.drewN n) D := by
  obtain ⟨F2, h1, h2, h3⟩ := h
  exact ⟨F2, h1.drew n, h2, h3.drew n⟩
theorem RStep.congr (h : RStep r F w w1 D) (h1 : ∀ f, f < 8 → D.fs f = D'.fs f) (h2 : D.down = D'.down) (h3 : D.lost = D'.lost) (h4 : D.left = D'.left) (h5 : ∀ f, f < 8 → D.keep f = D'.keep f) : RStep r F w w1 D' := by
  obtain ⟨F2, h, a, c⟩ := h
  exact ⟨F2, h.congr h1 h2 h3 h4 h5, a, c⟩
theorem Ref.ca (h : Ref w r g cap K kcap ks F D) {f : Nat} (hf : f < 8) : w.cell? ⟨g, f * 2, none⟩ = some (.string (mk (D.fs f).1)) := (World.ownsRow.cellAt h.row _ (by omega)).trans (fileCells_a D hf)
theorem Ref.cb (h : Ref w r g cap K kcap ks F D) {f : Nat} (hf : f < 8) : w.cell? ⟨g, f * 2 + 1, none⟩ = some (.string (mk (D.fs f).2)) := (World.ownsRow.cellAt h.row _ (by omega)).trans (fileCells_b D hf)
theorem Ref.fo (h : Ref w r g cap K kcap ks F D) (j : Nat) : w.frozen? ⟨g, j, none⟩ = false := World.ownsRow.frozenAt h.row j
theorem Ref.c0 (h : Ref w r g cap K kcap ks F D) : w.cell? ⟨r, 0, none⟩ = some (.slice (some ⟨g, 0, none⟩) 8 cap) := h.is.at_ 0
theorem Ref.c1 (h : Ref w r g cap K kcap ks F D) : w.cell? ⟨r, 1, none⟩ = some (.int .i64 (D.lost : Nat)) := h.is.at_ 1
theorem Ref.c2 (h : Ref w r g cap K kcap ks F D) : w.cell? ⟨r, 2, none⟩ = some (.bool D.down) := h.is.at_ 2
theorem Ref.c3 (h : Ref w r g cap K kcap ks F D) : w.cell? ⟨r, 3, none⟩ = some (.int .i64 (D.left : Nat)) := h.is.at_ 3
theorem Ref.c4 (h : Ref w r g cap K kcap ks F D) : w.cell? ⟨r, 4, none⟩ = some (.slice K ks.length kcap) := h.is.at_ 4
theorem Ref.gr (h : Ref w r g cap K kcap ks F D) : g ≠ r := by
  intro e
  exact Is.row_apart h.row h.is (by decide) (by rw [e]; rfl)
theorem Ref.kr (h : Ref w r g cap K kcap ks F D) : ∀ a, K = some a → a.block ≠ r := by
  rintro a rfl e
  exact Is.row_apart h.kept h.is (by decide) (by rw [← e]; rfl)
theorem Ref.isRow (h : Ref w r g cap K kcap ks F D) : ∃ cur, Is w g 67 cur := by
  rcases h.row.2 with ⟨h1, h2⟩ | ⟨g', cap', cur, h1, _, h3, _⟩
  · cases h1
  · injection h1 with ha _ _
    injection ha with ha
    injection ha with ha
    subst ha
    exact ⟨cur, h3⟩
theorem Ref.kg (h : Ref w r g cap K kcap ks F D) : ∀ a, K = some a → a.block ≠ g := by
  rintro a rfl e
  obtain ⟨cur, hc⟩ := h.isRow
  exact Is.row_apart h.kept hc (by decide) (by rw [← e]; rfl)
/-- A turn of the struct's own cells. -/
theorem Ref.turn (h : Ref w r g cap K kcap ks F D) {i : Nat} {u : Value} (hc : (refCells g cap K kcap ks D).setIfInBounds i u = refCells g cap K kcap ks D') (ha : ∀ f, f < 8 → D'.fs f = D.fs f) (hk : ∀ f, f < 8 → D'.keep f = D.keep f) (ho : D'.Ok) : Ref (w.setCell ⟨r, i, none⟩ u) r g cap K kcap ks F D' := by
  have hf : Fr (fun k => k = r) w (w.setCell ⟨r, i, none⟩ u) := (Fr.refl (fun k => k = r) w).set (b := r) rfl i u
  refine ⟨hc ▸ h.is.put i u, ?_, ?_, fun f hf8 => (hk f hf8).trans (h.keep f hf8), h.small, h.mr, h.mg, h.mq, fun k hk => Nat.lt_of_lt_of_le (h.lt k hk) hf.size, ho⟩
  · rw [fileCells_congr ha]
    exact hf.own h.row (fun k hk e => Is.row_apart h.row h.is (by decide) (by rw [hk, e]))
  · exact hf.own h.kept (fun k hk e => Is.row_apart h.kept h.is (by decide) (by rw [hk, e]))
theorem Ref.row_put (h : Ref w r g cap K kcap ks F D) (j : Nat) (u : Value) : Is (w.setCell ⟨g, j, none⟩ u) r 60 (refCells g cap K kcap ks D) ∧ (w.setCell ⟨g, j, none⟩ u).ownsRow 0 67 2 (.slice (some ⟨g, 0, none⟩) 8 cap) 8 ((fileCells D).set j u) ∧ (w.setCell ⟨g, j, none⟩ u).ownsRow 0 3 1 (.slice K ks.length kcap) ks.length (ints ks) := by
  have hf : Fr (fun k => k = g) w (w.setCell ⟨g, j, none⟩ u) := (Fr.refl (fun k => k = g) w).set (b := g) rfl j u
  refine ⟨hf.is h.is (fun e => h.gr e.symm), (World.ownsRow.stored h.row j u).1, hf.own h.kept (fun k hk e => ?_)⟩
  cases K with
  | none => cases hk
  | some a => cases hk; exact h.kg a rfl e
/-- The rest of file f turns. -/
theorem Ref.file1 (h : Ref w r g cap K kcap ks F D) {f : Nat} (hf : f < 8) (y : List UInt8) (hy : (D.fs f).1.length + y.length ≤ 16777216) : Ref (w.setCell ⟨g, f * 2 + 1, none⟩ (.string (mk y))) r g cap K kcap ks F (D.set f ((D.fs f).1, y)) := by
  obtain ⟨h1, h2, h3⟩ := h.row_put (f * 2 + 1) (.string (mk y))
  rw [fileCells_set_b D hf] at h2
  exact ⟨h1, h2, h3, h.keep, h.small, h.mr, h.mg, h.mq, fun k hk => by have := h.lt k hk; simpa [World.setCell] using this, h.ok.set hy⟩
/-- File f turns. -/
theorem Ref.file2 (h : Ref w r g cap K kcap ks F D) {f : Nat} (hf : f < 8) (x : List UInt8 × List UInt8) (hx : x.1.length + x.2.length ≤ 16777216) :
    Ref ((w.setCell ⟨g, f * 2, none⟩ (.string (mk x.1))).setCell ⟨g, f * 2 + 1, none⟩ (.string (mk x.2))) r g cap K kcap ks F (D.set f x) := by
  obtain ⟨h1, h2, h3⟩ := h.row_put (f * 2) (.string (mk x.1))
  have hf2 : Fr (fun k => k = g) (w.setCell ⟨g, f * 2, none⟩ (.string (mk x.1))) ((w.setCell ⟨g, f * 2, none⟩ (.string (mk x.1))).setCell ⟨g, f * 2 + 1, none⟩ (.string (mk x.2))) := (Fr.refl (fun k => k = g) _).set (b := g) rfl _ _
  have h2' := (World.ownsRow.stored h2 (f * 2 + 1) (.string (mk x.2))).1
  rw [fileCells_set D hf] at h2'
  refine ⟨hf2.is h1 (fun e => h.gr e.symm), h2', hf2.own h3 (fun k hk e => ?_), h.keep, h.small, h.mr, h.mg, h.mq, fun k hk => by have := h.lt k hk; simpa [World.setCell] using this, h.ok.set hx⟩
  cases K with
  | none => cases hk
  | some a => cases hk; exact h.kg a rfl e
end
end Go.Proofs.Ytokoccffkogamaa
