/-
  What the rows of this seat share: the row's last step, integers' bounds, arguments opened: slices of strings, of ints, an act, a slice of acts.
-/
import Derived.Test.YtokoccffkogamaaRows
import Derived.Test.YtokoccffkogamaaOwn
import Derived.ProofKit
import Derived.OpenShut
import Derived.JoinedCond
import Derived.Carry
import Derived.SliceStrings
import Derived.ChangeSlices
import Derived.Deep.Slices
import Derived.Deep.Fields
import Derived.ChangeArms
import Derived.SizedLaws
namespace Go.Proofs.Ytokoccffkogamaa
open Go.ChangeShapes Go.WideShapes Go.ChangeAt Go.RowKit Go.Deep

/-- The row's last step: the one result reads as true, the arguments read as they did, and nothing that was there has changed. -/
theorem post_true {H : Type} {enc : TypeId × Value → H} {f : Func} {s : ChangeSpec} {W W' : World} {args : Array Value} {ds : List (DataW H)} {before pa : List MemPlace}
    (hW : DataW.Whole enc Try.prog f.params.toList s.vars false W args.toList ds [] before)
    (hres : DataW.TrodAll enc Try.prog W' W.heap.size (fun _ => false) false f.resultTypes.toList ((Value.bool true).resultList f.resultTypes.size) (s.fn H (ds ++ [])).results [])
    (hargs : DataW.TrodAll enc Try.prog W' 0 (fun b => decide (b < W.heap.size)) true f.params.toList args.toList (s.fn H (ds ++ [])).args pa)
    (hvars : DataW.TrodVars enc Try.prog W' (fun b => decide (b < W.heap.size)) s.vars (s.fn H (ds ++ [])).vars [])
    (hb : Below W.heap.size W W') : s.post enc Try.prog f false true false false W args (.bool true) W' :=
  ⟨ds, [], before, [], pa, [], hW, hres, hargs, hvars, hb.frame _, fun h => by cases h⟩

theorem own : ownKnob Try.prog.godebug = none := by kernel_rfl
theorem laidOut : laidOutB Try.prog = true := by kernel_rfl
theorem cells9 : Try.prog.cellsOf 9 = 1 := by kernel_rfl
theorem cells3 : Try.prog.cellsOf 3 = 1 := by kernel_rfl
theorem cells30 : Try.prog.cellsOf 30 = 1 := by kernel_rfl
theorem cells32 : Try.prog.cellsOf 32 = 6 := by kernel_rfl
theorem bytes9 : Try.prog.bytesOf 9 = 16 := by kernel_rfl
theorem bytes3 : Try.prog.bytesOf 3 = 8 := by kernel_rfl
theorem bytes32 : Try.prog.bytesOf 32 = 72 := by kernel_rfl
/-- An argument reads behind the call as it did before it. -/
theorem stays {H : Type} {enc : TypeId × Value → H} {t : TypeId} (hr : Try.prog.readableRec t = true) (hrow : t < Try.prog.types.size) {W W' : World} {v : Value} {d : DataW H} {ps : List MemPlace}
    (h : DataW.Trod enc Try.prog W 0 (fun _ => true) true t v d ps) (hb : Below W.heap.size W W') (hlt : ∀ x ∈ ps, x.block < W.heap.size) :
    DataW.Trod enc Try.prog W' 0 (fun b => decide (b < W.heap.size)) true t v d ps := Below.trod laidOut hr hrow h hb hlt
theorem int_bounds {a : Int} (h : (Lit.int .i64 a).wf = true) : -9223372036854775808 ≤ a ∧ a ≤ 9223372036854775807 := by
  have e1 : IntKind.i64.min = -9223372036854775808 := rfl
  have e2 : IntKind.i64.max = 9223372036854775807 := rfl
  simp [Lit.wf, e1, e2] at h
  exact h
def Light {H : Type} (t : TypeId) (d : DataW H) : Prop := ∀ n ∈ d.weights Try.prog t, n ≤ 140737488351232
theorem weights_all {H : Type} {e : TypeId} {l : List (DataW H)} {d : DataW H} (h : d ∈ l) {n : Nat} (hn : n ∈ d.weights Try.prog e) : n ∈ DataW.weightsAll Try.prog e l := by
  induction l with
  | nil => cases h
  | cons x r ih =>
    simp only [DataW.weightsAll, List.mem_append]
    rcases List.mem_cons.1 h with rfl | h
    · exact .inl hn
    · exact .inr (ih h)
theorem light_elem {H : Type} {t e : TypeId} {elems spare : List (DataW H)} (hu : Try.prog.underlying t = some (.slice e)) (h : Light t (.slice elems spare)) {d : DataW H} (hd : d ∈ elems) : Light e d := by
  intro n hn
  apply h n
  simp only [DataW.weights, hu, List.mem_cons, List.mem_append]
  exact .inr (.inl (weights_all hd hn))
theorem light_len {H : Type} {t e : TypeId} {elems spare : List (DataW H)} (hu : Try.prog.underlying t = some (.slice e)) (h : Light t (.slice elems spare)) : (elems.length + spare.length) * Try.prog.bytesOf e ≤ 140737488351232 := by
  apply h
  simp only [DataW.weights, hu, List.mem_cons, true_or]
theorem light_string {H : Type} {t : TypeId} {l : List UInt8} (h : Light (H := H) t (.lit (.string l))) : l.length ≤ 140737488351232 := h _ (by simp [DataW.weights])
def texts (xs : List (List UInt8)) : List Value := xs.map fun l => .string (mk l)
theorem texts_at (xs : List (List UInt8)) (k : Nat) (h : k < xs.length) : (texts xs)[k]? = some (.string (mk xs[k])) := by
  simp [texts, h]
theorem ints_at (xs : List Int) (k : Nat) (h : k < xs.length) : (ints xs)[k]? = some (.int .i64 xs[k]) := by
  simp [ints, h]
section
variable {H : Type} {enc : TypeId × Value → H} {w : World} {base : Nat} {spare : Nat → Bool} {held : Bool}
theorem row_of {w : World} {a : Addr} {xs : List Value} (h : ∀ k u, xs[k]? = some u → w.cell? (a.add k) = some u) : Row w w.heap.size (some a) xs := fun k u hu => by
  have hc := h k u hu
  have := World.block_lt_of_cell? w (a.add k) hc
  rw [add_block] at this
  exact ⟨a, rfl, this, hc⟩
theorem row_nil {w : World} {A : Option Addr} : Row w w.heap.size A [] := fun k u hu => by simp at hu
theorem open_texts {fuel : Nat} {cs : List Value} {x : DataW H × List MemPlace} (h : DataW.trod enc Try.prog w base spare held fuel 40 cs = some x) :
    ∃ (A : Option Addr) (c : Nat) (xs : List (List UInt8)), cs = [.slice A xs.length c] ∧ Row w w.heap.size A (texts xs) ∧ (Light 40 x.1 → xs.length ≤ 8796093021952 ∧ ∀ s ∈ xs, s.length ≤ 140737488351232) := by
  rcases open_strings Try.underlying40 Try.underlying9 cells9 h with ⟨rfl, rfl⟩ | ⟨a, len, cap, ss, rfl, _, hl, hm, hz, rfl, hcell, hws⟩
  · exact ⟨none, 0, [], rfl, row_nil, fun _ => ⟨by simp, fun s hs => by simp at hs⟩⟩
  · have hlen : len ≤ ss.length := by rw [hz]; split <;> omega
    have hxl : ((ss.take len).map ls).length = len := by rw [List.length_map, List.length_take]; omega
    refine ⟨some a, cap, (ss.take len).map ls, by rw [hxl], row_of fun k u hu => ?_, fun hL => ⟨?_, fun s hs => ?_⟩⟩
    · have hk : k < len := by
        rw [← hxl]
        have : k < (texts ((ss.take len).map ls)).length := (List.getElem?_eq_some_iff.1 hu).1
        simpa [texts] using this
      rw [hcell k (by omega)]
      have e := texts_at ((ss.take len).map ls) k (by omega)
      rw [e] at hu
      rw [← hu]
      have : ss.getD k ByteArray.empty = ss[k] := by rw [List.getD_eq_getElem?_getD, List.getElem?_eq_getElem (by omega)]; rfl
      rw [this]
      simp [mk_ls]
    · have := light_len Try.underlying40 hL
      rw [bytes9] at this
      simp only [ChangeShapes.strs, List.length_map, List.length_take] at this
      rw [hxl]
      omega
    · rw [List.mem_map] at hs
      obtain ⟨b, hb, rfl⟩ := hs
      have hd : (DataW.lit (.string b.data.toList) : DataW H) ∈ ChangeShapes.strs (ss.take len) := List.mem_map.2 ⟨b, hb, rfl⟩
      exact light_string (light_elem Try.underlying40 hL hd)
theorem open_keep {fuel : Nat} {cs : List Value} {x : DataW H × List MemPlace} (h : DataW.trod enc Try.prog w base spare held fuel 30 cs = some x) :
    ∃ (A : Option Addr) (c : Nat) (xs : List Int), cs = [.slice A xs.length c] ∧ Keep w w.heap.size A xs ∧ (Light 30 x.1 → xs.length ≤ 17592186043904) := by
  rcases open_ints Try.underlying30 Try.underlying3 cells3 h with ⟨rfl, rfl⟩ | ⟨a, len, cap, zs, rfl, _, hl, hm, hz, rfl, hcell, hws⟩
  · exact ⟨none, 0, [], rfl, ⟨row_nil, fun _ => rfl, fun h => absurd rfl h⟩, fun _ => by simp⟩
  · have hlen : len ≤ zs.length := by rw [hz]; split <;> omega
    have hxl : (zs.take len).length = len := by rw [List.length_take]; omega
    have hrow : Row w w.heap.size (some a) (ints (zs.take len)) := row_of fun k u hu => by
      have hk : k < len := by
        rw [← hxl]
        have : k < (ints (zs.take len)).length := (List.getElem?_eq_some_iff.1 hu).1
        simpa [ints] using this
      rw [hcell k (by omega)]
      have e := ints_at (zs.take len) k (by omega)
      rw [e] at hu
      rw [← hu]
      have : zs.getD k 0 = zs[k] := by rw [List.getD_eq_getElem?_getD, List.getElem?_eq_getElem (by omega)]; rfl
      rw [this]
      simp
    refine ⟨some a, cap, zs.take len, by rw [hxl], ⟨hrow, fun e => (by cases e), fun hne b hb => ?_⟩, fun hL => ?_⟩
    · cases hb
      have h0 : 0 < (zs.take len).length := List.length_pos_iff.2 hne
      obtain ⟨a', e1, e2, _⟩ := hrow 0 _ (ints_at (zs.take len) 0 h0)
      cases e1
      exact e2
    · have := light_len Try.underlying30 hL
      rw [bytes3] at this
      simp only [ChangeShapes.lits, List.length_map, List.length_take] at this
      rw [hxl]
      omega
/-- An act's cells. -/
theorem open_act {fuel : Nat} {cs : List Value} {x : DataW H × List MemPlace} (h : DataW.trod enc Try.prog w base spare held fuel 32 cs = some x) :
    ∃ (t : Ac) (A : Option Addr) (c : Nat), cs = [.int .i64 t.d, .int .i64 t.f, .int .i64 t.g, .int .i64 t.n, .string (mk t.s), .slice A t.keep.length c] ∧ Keep w w.heap.size A t.keep ∧ (Light 32 x.1 → t.Fits) := by
  obtain ⟨ys, n, _, rfl, hl, hlen, hf⟩ := DataW.trod_struct Try.underlying32 h
  rw [cells32] at hl
  match cs, hl with
  | [c0, c1, c2, c3, c4, c5], _ =>
  match ys, hlen with
  | [y0, y1, y2, y3, y4, y5], _ =>
    have e0 : DataW.trod enc Try.prog w base spare held n 3 [c0] = some y0 := by have := hf 0 _ rfl; simpa [cells3] using this
    have e1 : DataW.trod enc Try.prog w base spare held n 3 [c1] = some y1 := by have := hf 1 _ rfl; simpa [cells3] using this
    have e2 : DataW.trod enc Try.prog w base spare held n 3 [c2] = some y2 := by have := hf 2 _ rfl; simpa [cells3] using this
    have e3 : DataW.trod enc Try.prog w base spare held n 3 [c3] = some y3 := by have := hf 3 _ rfl; simpa [cells3] using this
    have e4 : DataW.trod enc Try.prog w base spare held n 9 [c4] = some y4 := by have := hf 4 _ rfl; simpa [cells9] using this
    have e5 : DataW.trod enc Try.prog w base spare held n 30 [c5] = some y5 := by have := hf 5 _ rfl; simpa [cells30] using this
    obtain ⟨a0, q0, rfl, w0⟩ := DataW.trod_int Try.underlying3 e0
    obtain ⟨a1, q1, rfl, w1⟩ := DataW.trod_int Try.underlying3 e1
    obtain ⟨a2, q2, rfl, w2⟩ := DataW.trod_int Try.underlying3 e2
    obtain ⟨a3, q3, rfl, w3⟩ := DataW.trod_int Try.underlying3 e3
    obtain ⟨s, q4, rfl, ws⟩ := DataW.trod_string Try.underlying9 e4
    obtain ⟨A, c, zs, q5, rN, lN⟩ := open_keep e5
    simp only [List.cons.injEq, and_true] at q0 q1 q2 q3 q4 q5
    subst q0 q1 q2 q3 q4 q5
    have b0 := int_bounds w0
    have b3 := int_bounds w3
    refine ⟨⟨a0, a1, a2, a3, ls s, zs⟩, A, c, by rw [mk_ls], rN, fun hL => ?_⟩
    have l5 : Light 30 y5.1 := fun n hn => hL n (by simp [DataW.weights, Try.underlying32, DataW.weightsEach, hn])
    have l4 : Light (H := H) 9 (.lit (.string (ls s))) := fun n hn => hL n (by simp [DataW.weights, Try.underlying32, DataW.weightsEach] at hn ⊢; simp [hn, ls])
    have t5 := lN l5
    have t4 := light_string l4
    exact ⟨⟨b0.1, by show a0 < _; omega⟩, by show a3 < _; omega, by show (ls s).length ≤ _; omega, by show zs.length ≤ _; omega⟩
theorem open_acts {fuel : Nat} {cs : List Value} {x : DataW H × List MemPlace} (h : DataW.trod enc Try.prog w base spare held fuel 22 cs = some x) :
    ∃ (A : Option Addr) (c : Nat) (l : List Ac), cs = [.slice A l.length c] ∧ Acts w w.heap.size A l ∧ (Light 22 x.1 → l.length < 4611686018427387904 ∧ ∀ t ∈ l, t.Fits) := by
  rcases Deep.open_slice Try.underlying22 h with ⟨rfl, rfl⟩ | ⟨a, len, cap, m, n, D, Pl, rfl, _, hl, hm, hmm, rfl, hi⟩
  · exact ⟨none, 0, [], rfl, fun k t hk => by simp at hk, fun _ => ⟨by simp, fun t ht => by simp at ht⟩⟩
  · have hlm : len ≤ m := by rw [hmm]; split <;> omega
    have each : ∀ i, i < len → ∃ t : Ac, At w w.heap.size (a.add (i * 6)) t ∧ (Light 32 (D i) → t.Fits) := by
      intro i hil
      obtain ⟨cs', hc, ht⟩ := hi i (by omega)
      rw [cells32] at hc
      obtain ⟨_, hcl, hat⟩ := World.cells?_some hc
      obtain ⟨t, A, c, rfl, rN, hL⟩ := open_act ht
      have c0 := hat 0 (by omega)
      have c1 := hat 1 (by omega)
      have c2 := hat 2 (by omega)
      have c3 := hat 3 (by omega)
      have c4 := hat 4 (by omega)
      have c5 := hat 5 (by omega)
      have hP : (a.add (i * 6)).block < w.heap.size := World.block_lt_of_cell? w _ (show w.cell? (a.add (i * 6)) = some _ from c0)
      exact ⟨t, ⟨hP, A, c, c0, c1, c2, c3, c4, c5, rN⟩, hL⟩
    let l : List Ac := (List.range len).attach.map fun i => (each i.1 (List.mem_range.1 i.2)).choose
    have hll : l.length = len := by simp [l]
    refine ⟨some a, cap, l, by rw [hll], fun k t hk => ?_, fun hL => ⟨?_, fun t ht => ?_⟩⟩
    · have hk' : k < len := by rw [← hll]; exact (List.getElem?_eq_some_iff.1 hk).1
      have e : t = (each k hk').choose := by
        have := (List.getElem?_eq_some_iff.1 hk).2
        rw [← this]
        simp [l]
      exact ⟨a, rfl, by rw [e]; exact (each k hk').choose_spec.1⟩
    · have := light_len Try.underlying22 hL
      rw [bytes32] at this
      simp only [List.length_map, List.length_range] at this
      rw [hll]
      omega
    · simp only [l, List.mem_map, List.mem_attach, true_and] at ht
      obtain ⟨⟨i, hi'⟩, rfl⟩ := ht
      have hil := List.mem_range.1 hi'
      exact (each i hil).choose_spec.2 (light_elem Try.underlying22 hL (List.mem_map.2 ⟨i, List.mem_range.2 hil, rfl⟩))
end
end Go.Proofs.Ytokoccffkogamaa
