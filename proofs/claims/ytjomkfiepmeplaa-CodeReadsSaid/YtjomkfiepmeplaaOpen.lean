/-
  Arguments opened: slices of strings, slices of ints, a Value, a slice of Values: what lies in memory, and how great it may be.
-/
import Derived.Test.YtjomkfiepmeplaaBase
import Derived.Test.YtjomkfiepmeplaaBack
import Derived.Deep.Slices
import Derived.Deep.Fields
import Derived.ChangeArms
import Derived.SizedLaws
namespace Go.Proofs.Ytjomkfiepmeplaa
open Go.ChangeShapes Go.WideShapes Go.ChangeAt Go.RowKit Go.Deep

def Light {H : Type} (t : TypeId) (d : DataW H) : Prop := ∀ n ∈ d.weights Try.prog t, n ≤ 140737488351232
theorem weights_all {H : Type} {e : TypeId} {l : List (DataW H)} {d : DataW H} (h : d ∈ l) {n : Nat} (hn : n ∈ d.weights Try.prog e) : n ∈ DataW.weightsAll Try.prog e l := by
  induction l with
  | nil => cases h
  | cons x r ih =>
    simp only [DataW.weightsAll, List.mem_append]
    rcases List.mem_cons.1 h with rfl | h
    · exact .inl hn
    · exact .inr (ih h)
theorem light_elem {H : Type} {t e : TypeId} {elems spare : List (DataW H)} (hu : Try.prog.underlying t = some (.slice e)) (h : Light t (.slice elems spare)) {d : DataW H} (hd : d ∈ elems) : Light e d := by
  intro n hn
  apply h n
  simp only [DataW.weights, hu, List.mem_cons, List.mem_append]
  exact .inr (.inl (weights_all hd hn))
theorem light_len {H : Type} {t e : TypeId} {elems spare : List (DataW H)} (hu : Try.prog.underlying t = some (.slice e)) (h : Light t (.slice elems spare)) : (elems.length + spare.length) * Try.prog.bytesOf e ≤ 140737488351232 := by
  apply h
  simp only [DataW.weights, hu, List.mem_cons, true_or]
theorem light_string {H : Type} {t : TypeId} {l : List UInt8} (h : Light (H := H) t (.lit (.string l))) : l.length ≤ 140737488351232 := h _ (by simp [DataW.weights])
theorem bytes9 : Try.prog.bytesOf 9 = 16 := by kernel_rfl
theorem bytes3 : Try.prog.bytesOf 3 = 8 := by kernel_rfl
theorem bytes47 : Try.prog.bytesOf 47 = 80 := by kernel_rfl
section
variable {H : Type} {enc : TypeId × Value → H} {w : World} {base : Nat} {spare : Nat → Bool} {held : Bool}
theorem row_of {w : World} {a : Addr} {xs : List Value} (h : ∀ k u, xs[k]? = some u → w.cell? (a.add k) = some u) : Row w w.heap.size (some a) xs := fun k u hu => by
  have hc := h k u hu
  have := World.block_lt_of_cell? w (a.add k) hc
  rw [add_block] at this
  exact ⟨a, rfl, this, hc⟩
theorem row_nil {w : World} {A : Option Addr} : Row w w.heap.size A [] := fun k u hu => by simp at hu

theorem open_texts {fuel : Nat} {cs : List Value} {x : DataW H × List MemPlace} (h : DataW.trod enc Try.prog w base spare held fuel 22 cs = some x) :
    ∃ (A : Option Addr) (c : Nat) (xs : List (List UInt8)), cs = [.slice A xs.length c] ∧ Row w w.heap.size A (strs xs) ∧ (Light 22 x.1 → xs.length ≤ 8796093021952 ∧ ∀ s ∈ xs, s.length ≤ 140737488351232) := by
  rcases open_strings Try.underlying22 Try.underlying9 cells9 h with ⟨rfl, rfl⟩ | ⟨a, len, cap, ss, rfl, _, hl, hm, hz, rfl, hcell, hws⟩
  · exact ⟨none, 0, [], rfl, row_nil, fun _ => ⟨by simp, fun s hs => by simp at hs⟩⟩
  · have hlen : len ≤ ss.length := by rw [hz]; split <;> omega
    have hxl : ((ss.take len).map ls).length = len := by rw [List.length_map, List.length_take]; omega
    refine ⟨some a, cap, (ss.take len).map ls, by rw [hxl], row_of fun k u hu => ?_, fun hL => ⟨?_, fun s hs => ?_⟩⟩
    · have hk : k < len := by
        rw [← hxl]
        have : k < (strs ((ss.take len).map ls)).length := (List.getElem?_eq_some_iff.1 hu).1
        simpa [strs] using this
      rw [hcell k (by omega)]
      have e := strs_at ((ss.take len).map ls) k (by omega)
      rw [e] at hu
      rw [← hu]
      have : ss.getD k ByteArray.empty = ss[k] := by rw [List.getD_eq_getElem?_getD, List.getElem?_eq_getElem (by omega)]; rfl
      rw [this]
      simp [mk_ls]
    · have := light_len Try.underlying22 hL
      rw [bytes9] at this
      simp only [ChangeShapes.strs, List.length_map, List.length_take] at this
      rw [hxl]
      omega
    · rw [List.mem_map] at hs
      obtain ⟨b, hb, rfl⟩ := hs
      have hd : (DataW.lit (.string b.data.toList) : DataW H) ∈ ChangeShapes.strs (ss.take len) := List.mem_map.2 ⟨b, hb, rfl⟩
      exact light_string (light_elem Try.underlying22 hL hd)
theorem open_nums {fuel : Nat} {cs : List Value} {x : DataW H × List MemPlace} (h : DataW.trod enc Try.prog w base spare held fuel 23 cs = some x) :
    ∃ (A : Option Addr) (c : Nat) (xs : List Int), cs = [.slice A xs.length c] ∧ Row w w.heap.size A (ints xs) ∧ (∀ n ∈ xs, -9223372036854775808 ≤ n ∧ n ≤ 9223372036854775807) ∧ (Light 23 x.1 → xs.length ≤ 17592186043904) := by
  rcases open_ints Try.underlying23 Try.underlying3 cells3 h with ⟨rfl, rfl⟩ | ⟨a, len, cap, zs, rfl, _, hl, hm, hz, rfl, hcell, hws⟩
  · exact ⟨none, 0, [], rfl, row_nil, fun s hs => by simp at hs, fun _ => by simp⟩
  · have hlen : len ≤ zs.length := by rw [hz]; split <;> omega
    have hxl : (zs.take len).length = len := by rw [List.length_take]; omega
    refine ⟨some a, cap, zs.take len, by rw [hxl], row_of fun k u hu => ?_, fun n hn => int_bounds (hws n (List.mem_of_mem_take hn)), fun hL => ?_⟩
    · have hk : k < len := by
        rw [← hxl]
        have : k < (ints (zs.take len)).length := (List.getElem?_eq_some_iff.1 hu).1
        simpa [ints] using this
      rw [hcell k (by omega)]
      have e := ints_at (zs.take len) k (by omega)
      rw [e] at hu
      rw [← hu]
      have : zs.getD k 0 = zs[k] := by rw [List.getD_eq_getElem?_getD, List.getElem?_eq_getElem (by omega)]; rfl
      rw [this]
      simp
    · have := light_len Try.underlying23 hL
      rw [bytes3] at this
      simp only [ChangeShapes.lits, List.length_map, List.length_take] at this
      rw [hxl]
      omega

theorem cells22 : Try.prog.cellsOf 22 = 1 := by kernel_rfl
theorem cells23 : Try.prog.cellsOf 23 = 1 := by kernel_rfl
theorem cells47 : Try.prog.cellsOf 47 = 5 := by kernel_rfl
/-- A Value's cells. -/
theorem open_val {fuel : Nat} {cs : List Value} {x : DataW H × List MemPlace} (h : DataW.trod enc Try.prog w base spare held fuel 47 cs = some x) :
    ∃ (t : Val) (T N : Option Addr) (cT cN : Nat), cs = [.int .i64 t.kind, .int .i64 t.n, .string (mk t.text), .slice T t.texts.length cT, .slice N t.nums.length cN] ∧ Row w w.heap.size T (strs t.texts) ∧ Row w w.heap.size N (ints t.nums) ∧
      (Light 47 x.1 → Sized2 t) := by
  obtain ⟨ys, n, _, rfl, hl, hlen, hf⟩ := DataW.trod_struct Try.underlying47 h
  rw [cells47] at hl
  match cs, hl with
  | [c0, c1, c2, c3, c4], _ =>
  match ys, hlen with
  | [y0, y1, y2, y3, y4], _ =>
    have e0 : DataW.trod enc Try.prog w base spare held n 3 [c0] = some y0 := by have := hf 0 _ rfl; simpa [cells3] using this
    have e1 : DataW.trod enc Try.prog w base spare held n 3 [c1] = some y1 := by have := hf 1 _ rfl; simpa [cells3] using this
    have e2 : DataW.trod enc Try.prog w base spare held n 9 [c2] = some y2 := by have := hf 2 _ rfl; simpa [cells9] using this
    have e3 : DataW.trod enc Try.prog w base spare held n 22 [c3] = some y3 := by have := hf 3 _ rfl; simpa [cells22] using this
    have e4 : DataW.trod enc Try.prog w base spare held n 23 [c4] = some y4 := by have := hf 4 _ rfl; simpa [cells23] using this
    obtain ⟨a, q0, rfl, wa⟩ := DataW.trod_int Try.underlying3 e0
    obtain ⟨b, q1, rfl, wb⟩ := DataW.trod_int Try.underlying3 e1
    obtain ⟨s, q2, rfl, ws⟩ := DataW.trod_string Try.underlying9 e2
    obtain ⟨T, cT, xs, q3, rT, lT⟩ := open_texts e3
    obtain ⟨N, cN, zs, q4, rN, _, lN⟩ := open_nums e4
    simp only [List.cons.injEq, and_true] at q0 q1 q2 q3 q4
    subst q0 q1 q2 q3 q4
    have b0 := int_bounds wa
    have b1 := int_bounds wb
    refine ⟨⟨a, b, ls s, xs, zs⟩, T, N, cT, cN, by rw [mk_ls], rT, rN, fun hL => ?_⟩
    have l3 : Light 22 y3.1 := fun n hn => hL n (by simp [DataW.weights, Try.underlying47, DataW.weightsEach, hn])
    have l4 : Light 23 y4.1 := fun n hn => hL n (by simp [DataW.weights, Try.underlying47, DataW.weightsEach, hn])
    have l2 : Light (H := H) 9 (.lit (.string (ls s))) := fun n hn => hL n (by simp [DataW.weights, Try.underlying47, DataW.weightsEach] at hn ⊢; simp [hn, ls])
    obtain ⟨t1, t2⟩ := lT l3
    have t3 := lN l4
    have t4 := light_string l2
    exact ⟨⟨b0.1, b0.2, by show b < _; omega, by show xs.length < _; omega, by show zs.length < _; omega⟩, by show (ls s).length < _; omega, fun s hs => by have := t2 s hs; omega⟩

theorem open_vals {fuel : Nat} {cs : List Value} {x : DataW H × List MemPlace} (h : DataW.trod enc Try.prog w base spare held fuel 42 cs = some x) :
    ∃ (A : Option Addr) (c : Nat) (l : List Val), cs = [.slice A l.length c] ∧ Vals w w.heap.size A l ∧ (Light 42 x.1 → l.length ≤ 1759218604390 ∧ ∀ t ∈ l, Sized2 t) := by
  rcases Deep.open_slice Try.underlying42 h with ⟨rfl, rfl⟩ | ⟨a, len, cap, m, n, D, Pl, rfl, _, hl, hm, hmm, rfl, hi⟩
  · exact ⟨none, 0, [], rfl, fun k t hk => by simp at hk, fun _ => ⟨by simp, fun t ht => by simp at ht⟩⟩
  · have hlm : len ≤ m := by rw [hmm]; split <;> omega
    have each : ∀ i, i < len → ∃ t : Val, At w w.heap.size (a.add (i * 5)) t ∧ (Light 47 (D i) → Sized2 t) := by
      intro i hil
      obtain ⟨cs', hc, ht⟩ := hi i (by omega)
      rw [cells47] at hc
      obtain ⟨_, hcl, hat⟩ := World.cells?_some hc
      obtain ⟨t, T, N, cT, cN, rfl, rT, rN, hL⟩ := open_val ht
      have c0 := hat 0 (by omega)
      have c1 := hat 1 (by omega)
      have c2 := hat 2 (by omega)
      have c3 := hat 3 (by omega)
      have c4 := hat 4 (by omega)
      have hP : (a.add (i * 5)).block < w.heap.size := World.block_lt_of_cell? w _ (show w.cell? (a.add (i * 5)) = some _ from c0)
      exact ⟨t, ⟨hP, T, cT, N, cN, c0, c1, c2, c3, c4, rT, rN⟩, hL⟩
    let l : List Val := (List.range len).attach.map fun i => (each i.1 (List.mem_range.1 i.2)).choose
    have hll : l.length = len := by simp [l]
    refine ⟨some a, cap, l, by rw [hll], fun k t hk => ?_, fun hL => ⟨?_, fun t ht => ?_⟩⟩
    · have hk' : k < len := by rw [← hll]; exact (List.getElem?_eq_some_iff.1 hk).1
      have e : t = (each k hk').choose := by
        have := (List.getElem?_eq_some_iff.1 hk).2
        rw [← this]
        simp [l]
      exact ⟨a, rfl, by rw [e]; exact (each k hk').choose_spec.1⟩
    · have := light_len Try.underlying42 hL
      rw [bytes47] at this
      simp only [List.length_map, List.length_range] at this
      rw [hll]
      omega
    · simp only [l, List.mem_map, List.mem_attach, true_and] at ht
      obtain ⟨⟨i, hi'⟩, rfl⟩ := ht
      have hil := List.mem_range.1 hi'
      exact (each i hil).choose_spec.2 (light_elem Try.underlying42 hL (List.mem_map.2 ⟨i, List.mem_range.2 hil, rfl⟩))
end
end Go.Proofs.Ytjomkfiepmeplaa
