/-
  What the second form's bound gives of a Value: its encoding is short.
-/
import Derived.Test.YtjomkfiepmeplaaOpen
namespace Go.Proofs.Ytjomkfiepmeplaa
open Go.ChangeShapes Go.WideShapes Go.ChangeAt Go.RowKit Go.Deep
theorem bulk_mem {H : Type} {d : DataW H} {l : List (DataW H)} (h : d ∈ l) : Rows.uptoBulk d ≤ Rows.uptoBulkAll l := by
  induction l with
  | nil => cases h
  | cons x r ih =>
    simp only [Rows.uptoBulkAll]
    rcases List.mem_cons.1 h with rfl | h
    · omega
    · have := ih h; omega
theorem bulk_texts {H : Type} (xs : List (List UInt8)) : Rows.uptoBulkAll (xs.map fun l => (.lit (.string l) : DataW H)) = total xs + xs.length := by
  induction xs with
  | nil => simp [Rows.uptoBulkAll, total]
  | cons x xs ih =>
    simp only [total] at ih
    simp only [List.map_cons, Rows.uptoBulkAll, Rows.uptoBulk, ih, total, List.sum_cons, List.length_cons]
    omega
theorem bulk_ints {H : Type} (xs : List Int) : Rows.uptoBulkAll (xs.map fun n => (.lit (.int .i64 n) : DataW H)) = xs.length := by
  induction xs with
  | nil => simp [Rows.uptoBulkAll]
  | cons x xs ih => simp only [List.map_cons, Rows.uptoBulkAll, Rows.uptoBulk, ih, List.length_cons]; omega
section
variable {H : Type} {enc : TypeId × Value → H} {w : World} {base : Nat} {spare : Nat → Bool} {held : Bool}
theorem row_same {w : World} {t1 t2 : Nat} {A : Option Addr} {xs ys : List Value} (h : Row w t1 A xs) (k : Row w t2 A ys) (hl : xs.length = ys.length) : xs = ys := by
  apply List.ext_getElem hl
  intro i h1 h2
  obtain ⟨a, ha, -, c1⟩ := h i _ (List.getElem?_eq_getElem h1)
  obtain ⟨b, hb, -, c2⟩ := k i _ (List.getElem?_eq_getElem h2)
  rw [ha] at hb
  injection hb with hb
  subst hb
  rw [c1] at c2
  exact Option.some.inj c2
theorem strs_inj {xs ys : List (List UInt8)} (h : strs xs = strs ys) : xs = ys := by
  unfold strs at h
  refine List.map_inj_right (f := fun l => Value.string (mk l)) ?_ |>.1 h
  intro a b e
  have : mk a = mk b := by injection e
  have := congrArg ls this
  exact this
/-- A slice of strings' bulk. -/
theorem texts_bulk {fuel : Nat} {A : Option Addr} {c : Nat} {xs : List (List UInt8)} {x : DataW H × List MemPlace} (h : DataW.trod enc Try.prog w base spare held fuel 22 [.slice A xs.length c] = some x) (hr : Row w w.heap.size A (strs xs)) :
    total xs + xs.length ≤ Rows.uptoBulk x.1 := by
  rcases open_strings Try.underlying22 Try.underlying9 cells9 h with ⟨hcs, rfl⟩ | ⟨a, len, cap, ss, hcs, _, hl, hm, hz, rfl, hcell, hws⟩
  · simp only [List.cons.injEq, Value.slice.injEq, and_true] at hcs
    have : xs = [] := List.eq_nil_of_length_eq_zero hcs.2.1
    subst this
    simp [total]
  · simp only [List.cons.injEq, Value.slice.injEq, and_true] at hcs
    obtain ⟨rfl, hlen, rfl⟩ := hcs
    have hle : len ≤ ss.length := by rw [hz]; split <;> omega
    have hxl : ((ss.take len).map ls).length = len := by rw [List.length_map, List.length_take]; omega
    have hrow : Row w w.heap.size (some a) (strs ((ss.take len).map ls)) := row_of fun k u hu => by
      have hk : k < len := by
        rw [← hxl]
        have : k < (strs ((ss.take len).map ls)).length := (List.getElem?_eq_some_iff.1 hu).1
        simpa [strs] using this
      rw [hcell k (by omega)]
      have e := strs_at ((ss.take len).map ls) k (by omega)
      rw [e] at hu
      rw [← hu]
      have : ss.getD k ByteArray.empty = ss[k] := by rw [List.getD_eq_getElem?_getD, List.getElem?_eq_getElem (by omega)]; rfl
      rw [this]
      simp [mk_ls]
    have e := strs_inj (row_same hr hrow (by simp only [strs, List.length_map, List.length_take]; omega))
    subst e
    simp only [Rows.uptoBulk]
    have e2 : (ChangeShapes.strs (ss.take len) : List (DataW H)) = ((ss.take len).map ls).map fun l => (.lit (.string l) : DataW H) := by
      simp only [ChangeShapes.strs, List.map_map]
      rfl
    rw [e2, bulk_texts]
    omega
theorem nums_bulk {fuel : Nat} {A : Option Addr} {c n : Nat} {x : DataW H × List MemPlace} (h : DataW.trod enc Try.prog w base spare held fuel 23 [.slice A n c] = some x) : n ≤ Rows.uptoBulk x.1 := by
  rcases open_ints Try.underlying23 Try.underlying3 cells3 h with ⟨hcs, rfl⟩ | ⟨a, len, cap, zs, hcs, _, hl, hm, hz, rfl, hcell, hws⟩
  · simp only [List.cons.injEq, Value.slice.injEq, and_true] at hcs
    omega
  · simp only [List.cons.injEq, Value.slice.injEq, and_true] at hcs
    obtain ⟨rfl, hlen, rfl⟩ := hcs
    have hle : len ≤ zs.length := by rw [hz]; split <;> omega
    simp only [Rows.uptoBulk]
    have := bulk_ints (H := H) (zs.take len)
    rw [show (ChangeShapes.lits .i64 (zs.take len) : List (DataW H)) = (zs.take len).map fun n => (.lit (.int .i64 n) : DataW H) from rfl, this, List.length_take]
    omega
/-- A Value's bulk bounds its encoding. -/
theorem val_bulk {fuel : Nat} {t : Val} {T N : Option Addr} {cT cN : Nat} {x : DataW H × List MemPlace}
    (h : DataW.trod enc Try.prog w base spare held fuel 47 [.int .i64 t.kind, .int .i64 t.n, .string (mk t.text), .slice T t.texts.length cT, .slice N t.nums.length cN] = some x)
    (rT : Row w w.heap.size T (strs t.texts)) (hs : Sized2 t) (hb : Rows.uptoBulk x.1 ≤ 1048576) : (encV t).length ≤ 100000000000000 := by
  obtain ⟨ys, n, _, rfl, hl, hlen, hf⟩ := DataW.trod_struct Try.underlying47 h
  match ys, hlen with
  | [y0, y1, y2, y3, y4], _ =>
    have e2 : DataW.trod enc Try.prog w base spare held n 9 [.string (mk t.text)] = some y2 := by have := hf 2 _ rfl; simpa [cells9] using this
    have e3 : DataW.trod enc Try.prog w base spare held n 22 [.slice T t.texts.length cT] = some y3 := by have := hf 3 _ rfl; simpa [cells22] using this
    have e4 : DataW.trod enc Try.prog w base spare held n 23 [.slice N t.nums.length cN] = some y4 := by have := hf 4 _ rfl; simpa [cells23] using this
    obtain ⟨s, q2, rfl, ws⟩ := DataW.trod_string Try.underlying9 e2
    simp only [List.cons.injEq, Value.string.injEq, and_true] at q2
    have l3 := texts_bulk e3 rT
    have l4 := nums_bulk e4
    simp only [Rows.uptoBulk, Rows.uptoBulkAll, List.map_cons, List.map_nil] at hb
    have ht : t.text.length = s.data.toList.length := by rw [← q2]; rfl
    obtain ⟨⟨s1, s2, s3, s4, s5⟩, s6, s7⟩ := hs
    unfold encV
    split
    · unfold numE
      split
      · simp
      · have := vint_nine t.n.toNat (by omega)
        omega
    · split
      · have := intE_len t.n; omega
      · split
        · unfold textE; rw [List.length_append]; have := vint_nine t.text.length (by omega); omega
        · split
          · rw [listE_eq, List.length_append]
            have a1 := vint_nine t.texts.length (by omega)
            have a2 := texts_len t.texts (fun s hs => by have := s7 s hs; omega)
            omega
          · rw [numsE_eq, List.length_append]
            have a1 := vint_nine t.nums.length (by omega)
            have a2 := ints_len t.nums
            omega
end
end Go.Proofs.Ytjomkfiepmeplaa
