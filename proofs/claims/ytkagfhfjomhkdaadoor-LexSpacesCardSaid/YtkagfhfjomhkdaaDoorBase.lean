/-
  What the cards of this seat share: what the listed variables give the walks, a start that fits, the row's last step, arguments opened.
-/
import Derived.Test.YtkagfhfjomhkdaaDoorCards
import Derived.Test.YtkagfhfjomhkdaaDoorTie
import Derived.Test.YtkagfhfjomhkdaaDoorSpaces
import Derived.ProofKit
import Derived.OpenShut
import Derived.JoinedCond
import Derived.Deep.DeepHandedRow
import Derived.Deep.DeepWitnessRowRef
import Derived.Lib.LaidTab
import Derived.Stop.LaidErr
import Derived.SizedLaws
import Derived.Carry
import Derived.SliceStrings
import Derived.ChangeSlices
import Derived.Deep.Slices
import Derived.Deep.Fields
import Derived.ChangeArms
namespace Go.Proofs.YtkagfhfjomhkdaaDoor
open Go.ChangeShapes Go.WideShapes Go.ChangeAt Go.RowKit Go.Deep

/-- The row's last step: the one result reads as true, the arguments read as they did, and nothing that was there has changed. -/
theorem post_true {H : Type} {enc : TypeId × Value → H} {f : Func} {s : ChangeSpec} {W W' : World} {args : Array Value} {ds : List (DataW H)} {before pa : List MemPlace}
    (hW : DataW.Whole enc Tryd.prog f.params.toList s.vars false W args.toList ds [] before)
    (hres : DataW.TrodAll enc Tryd.prog W' W.heap.size (fun _ => false) false f.resultTypes.toList ((Value.bool true).resultList f.resultTypes.size) (s.fn H (ds ++ [])).results [])
    (hargs : DataW.TrodAll enc Tryd.prog W' 0 (fun b => decide (b < W.heap.size)) true f.params.toList args.toList (s.fn H (ds ++ [])).args pa)
    (hvars : DataW.TrodVars enc Tryd.prog W' (fun b => decide (b < W.heap.size)) s.vars (s.fn H (ds ++ [])).vars [])
    (hb : Below W.heap.size W W') : s.post enc Tryd.prog f false true false false W args (.bool true) W' :=
  ⟨ds, [], before, [], pa, [], hW, hres, hargs, hvars, hb.frame _, fun h => by cases h⟩

theorem own : ownKnob Tryd.prog.godebug = none := by kernel_rfl
theorem laidOut : laidOutB Tryd.prog = true := by kernel_rfl
theorem stays {H : Type} {enc : TypeId × Value → H} {t : TypeId} (hr : Tryd.prog.readableRec t = true) (hrow : t < Tryd.prog.types.size) {W W' : World} {v : Value} {d : DataW H} {ps : List MemPlace}
    (h : DataW.Trod enc Tryd.prog W 0 (fun _ => true) true t v d ps) (hb : Below W.heap.size W W') (hlt : ∀ x ∈ ps, x.block < W.heap.size) :
    DataW.Trod enc Tryd.prog W' 0 (fun b => decide (b < W.heap.size)) true t v d ps := Below.trod laidOut hr hrow h hb hlt
theorem gTabType : (Tryd.prog.globals[3]?).map (·.type) = some 88 := by kernel_rfl
theorem gErrType : (Tryd.prog.globals[2]?).map (·.type) = some 41 := by kernel_rfl
theorem cells88 : Tryd.prog.cellsOf 88 = 20 := by kernel_rfl
theorem cells75 : Tryd.prog.cellsOf 75 = 1 := by kernel_rfl
theorem cells96 : Tryd.prog.cellsOf 96 = 1 := by kernel_rfl
theorem cells9 : Tryd.prog.cellsOf 9 = 1 := by kernel_rfl
theorem cells3 : Tryd.prog.cellsOf 3 = 1 := by kernel_rfl
theorem cells32 : Tryd.prog.cellsOf 32 = 4 := by kernel_rfl
theorem bytes9 : Tryd.prog.bytesOf 9 = 16 := by kernel_rfl
theorem bytes32 : Tryd.prog.bytesOf 32 = 40 := by kernel_rfl
theorem star : "*" ++ "errors.errorString" = "*errors.errorString" := by decide
theorem row94 (u : TypeId) (h : Tryd.prog.typeName? 3 u = some "*errors.errorString") : u = 94 :=
  typeName_ptr_named (nm := "errors.errorString") (by rw [star]; kernel_rfl) (by kernel_rfl) (by decide) u (by rw [star]; exact h)
/-- What the rows' list gives the walks. -/
theorem lies {W : World} (h : laidMetH Tryd.prog Rows.lexBackRow.laid W) : Lies W := by
  have h' : laidMet Tryd.prog Rows.lexBackRow.laid W := h
  refine ⟨Lib.tabIs_of_head gTab gTabType Tryd.underlying88 Tryd.underlying75 cells75 cells88 h'.tail.tail, ?_⟩
  obtain ⟨a, s, hv, -, -, -⟩ := laid_sentinel h'.tail.tail.tail gErr gErrType Tryd.underlying41 row94 Tryd.underlying94 Tryd.underlying96 rfl rfl Tryd.underlying9 cells96 cells9
  exact ⟨_, _, hv⟩
abbrev synS : ByteArray := { data := #[105, 110, 118, 97, 108, 105, 100, 32, 115, 121, 110, 116, 97, 120] }
abbrev rngS : ByteArray := { data := #[118, 97, 108, 117, 101, 32, 111, 117, 116, 32, 111, 102, 32, 114, 97, 110, 103, 101] }
/-- So many blocks has the settled world. -/
noncomputable def low : Nat := (World.holding Tryd.prog default ⟨#[], #[], []⟩).heap.size
def lits {H : Type} : DataW H → Array Value
  | .agg l => (l.map fun
    | .lit (.int k z) => Value.int k z
    | _ => .bool false).toArray
  | _ => #[]
/-- The settled world with two blocks more, each an errors.errorString; the two errors hold pointers to them, the three tables what their initialisers lay. -/
noncomputable def laidWorld (os : Os) : World :=
  let w0 := World.holding Tryd.prog os ⟨#[.cells #[.string synS] 96, .cells #[.string rngS] 96], #[], []⟩
  { w0 with heap := ((((w0.heap.modify 1 fun
      | .cells _ t frozen => .cells #[.iface 94 (.pointer (some ⟨low, 0, none⟩))] t frozen
      | o => o).modify 2 fun
      | .cells _ t frozen => .cells #[.iface 94 (.pointer (some ⟨low + 1, 0, none⟩))] t frozen
      | o => o).modify 3 fun
      | .cells _ t frozen => .cells (lits (H := Unit) Rows.laid_internal_strconv_uint64pow10) t frozen
      | o => o).modify 4 fun
      | .cells _ t frozen => .cells (lits (H := Unit) Rows.laid_math_bits_deBruijn32tab) t frozen
      | o => o).modify 5 fun
      | .cells _ t frozen => .cells (lits (H := Unit) Rows.laid_math_bits_deBruijn64tab) t frozen
      | o => o }
theorem laid_met (os : Os) (args : Array Value) : laidMet Tryd.prog Rows.lexBackRow.laid ((laidWorld os).forCall (fun _ _ => 0) ⟨#[], args, []⟩).memory :=
  laidMet_of_run' 8 (by kernel_rfl) (by kernel_rfl)
/-- No parameter wants a stand-in. -/
theorem noStand (t : TypeId) (h : t = 3 ∨ t = 9 ∨ t = 22) : Tryd.prog.wantsStandIn t = false := by
  rcases h with rfl | rfl | rfl <;> kernel_rfl
theorem int_bounds {a : Int} (h : (Lit.int .i64 a).wf = true) : -9223372036854775808 ≤ a ∧ a ≤ 9223372036854775807 := by
  have e1 : IntKind.i64.min = -9223372036854775808 := rfl
  have e2 : IntKind.i64.max = 9223372036854775807 := rfl
  simp [Lit.wf, e1, e2] at h
  exact h
def Light {H : Type} (t : TypeId) (d : DataW H) : Prop := ∀ n ∈ d.weights Tryd.prog t, n ≤ 140737488351232
theorem weights_all {H : Type} {e : TypeId} {l : List (DataW H)} {d : DataW H} (h : d ∈ l) {n : Nat} (hn : n ∈ d.weights Tryd.prog e) : n ∈ DataW.weightsAll Tryd.prog e l := by
  induction l with
  | nil => cases h
  | cons x r ih =>
    simp only [DataW.weightsAll, List.mem_append]
    rcases List.mem_cons.1 h with rfl | h
    · exact .inl hn
    · exact .inr (ih h)
theorem light_elem {H : Type} {t e : TypeId} {elems spare : List (DataW H)} (hu : Tryd.prog.underlying t = some (.slice e)) (h : Light t (.slice elems spare)) {d : DataW H} (hd : d ∈ elems) : Light e d := by
  intro n hn
  apply h n
  simp only [DataW.weights, hu, List.mem_cons, List.mem_append]
  exact .inr (.inl (weights_all hd hn))
theorem light_len {H : Type} {t e : TypeId} {elems spare : List (DataW H)} (hu : Tryd.prog.underlying t = some (.slice e)) (h : Light t (.slice elems spare)) : (elems.length + spare.length) * Tryd.prog.bytesOf e ≤ 140737488351232 := by
  apply h
  simp only [DataW.weights, hu, List.mem_cons, true_or]
theorem light_string {H : Type} {t : TypeId} {l : List UInt8} (h : Light (H := H) t (.lit (.string l))) : l.length ≤ 140737488351232 := h _ (by simp [DataW.weights])
section
variable {H : Type} {enc : TypeId × Value → H} {w : World} {base : Nat} {spare : Nat → Bool} {held : Bool}
/-- A token's cells. -/
theorem open_tok {fuel : Nat} {cs : List Value} {x : DataW H × List MemPlace} (h : DataW.trod enc Tryd.prog w base spare held fuel 32 cs = some x) :
    ∃ t : L7.Tk × Int, cs = cells4 t := by
  obtain ⟨ys, n, _, rfl, hl, hlen, hf⟩ := DataW.trod_struct Tryd.underlying32 h
  rw [cells32] at hl
  match cs, hl with
  | [c0, c1, c2, c3], _ =>
  match ys, hlen with
  | [y0, y1, y2, y3], _ =>
    have e0 : DataW.trod enc Tryd.prog w base spare held n 3 [c0] = some y0 := by have := hf 0 _ rfl; simpa [cells3] using this
    have e1 : DataW.trod enc Tryd.prog w base spare held n 9 [c1] = some y1 := by have := hf 1 _ rfl; simpa [cells9] using this
    have e2 : DataW.trod enc Tryd.prog w base spare held n 3 [c2] = some y2 := by have := hf 2 _ rfl; simpa [cells3] using this
    have e3 : DataW.trod enc Tryd.prog w base spare held n 3 [c3] = some y3 := by have := hf 3 _ rfl; simpa [cells3] using this
    obtain ⟨a0, q0, -, -⟩ := DataW.trod_int Tryd.underlying3 e0
    obtain ⟨s, q1, -, -⟩ := DataW.trod_string Tryd.underlying9 e1
    obtain ⟨a2, q2, -, -⟩ := DataW.trod_int Tryd.underlying3 e2
    obtain ⟨a3, q3, -, -⟩ := DataW.trod_int Tryd.underlying3 e3
    simp only [List.cons.injEq, and_true] at q0 q1 q2 q3
    subst q0 q1 q2 q3
    exact ⟨(⟨a0, ls s, a2⟩, a3), rfl⟩
theorem open_toks {fuel : Nat} {cs : List Value} {x : DataW H × List MemPlace} (h : DataW.trod enc Tryd.prog w base spare held fuel 22 cs = some x) :
    ∃ (A : Option Addr) (c : Nat) (l : List (L7.Tk × Int)), cs = [.slice A l.length c] ∧ ToksIn w w.heap.size A l ∧ l.length ≤ c ∧ (Light 22 x.1 → l.length ≤ 4611686018427387904) := by
  rcases Deep.open_slice Tryd.underlying22 h with ⟨rfl, rfl⟩ | ⟨a, len, cap, m, n, D, Pl, rfl, _, hl, hm, hmm, rfl, hi⟩
  · exact ⟨none, 0, [], rfl, fun k t hk => by simp at hk, Nat.le_refl _, fun _ => by simp⟩
  · have hlm : len ≤ m := by rw [hmm]; split <;> omega
    have each : ∀ i, i < len → ∃ t : L7.Tk × Int, (a.add (i * 4)).block < w.heap.size ∧ ∀ j u, (cells4 t)[j]? = some u → w.cell? (a.add (i * 4 + j)) = some u := by
      intro i hil
      obtain ⟨cs', hc, ht⟩ := hi i (by omega)
      rw [cells32] at hc
      obtain ⟨_, hcl, hat⟩ := World.cells?_some hc
      obtain ⟨t, rfl⟩ := open_tok ht
      have c0 := hat 0 (by omega)
      have hP : (a.add (i * 4)).block < w.heap.size := World.block_lt_of_cell? w _ (show w.cell? (a.add (i * 4)) = some _ from c0)
      refine ⟨t, hP, fun j u hu => ?_⟩
      have hj : j < 4 := (List.getElem?_eq_some_iff.1 hu).1
      rw [← add_add, hat j (by omega)]
      exact hu
    let l : List (L7.Tk × Int) := (List.range len).attach.map fun i => (each i.1 (List.mem_range.1 i.2)).choose
    have hll : l.length = len := by simp [l]
    refine ⟨some a, cap, l, by rw [hll], fun k t hk => ?_, by rw [hll]; exact hl, fun hL => ?_⟩
    · have hk' : k < len := by rw [← hll]; exact (List.getElem?_eq_some_iff.1 hk).1
      have e : t = (each k hk').choose := by
        have := (List.getElem?_eq_some_iff.1 hk).2
        rw [← this]
        simp [l]
      have hs := (each k hk').choose_spec
      rw [← e] at hs
      exact ⟨a, rfl, by have := hs.1; rwa [addr_block] at this, hs.2⟩
    · have := light_len Tryd.underlying22 hL
      rw [bytes32] at this
      simp only [List.length_map, List.length_range] at this
      rw [hll]
      omega
end
end Go.Proofs.YtkagfhfjomhkdaaDoor
