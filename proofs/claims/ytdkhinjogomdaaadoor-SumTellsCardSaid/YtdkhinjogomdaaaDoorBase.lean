/-
  What the rows of this seat share: what the listed variables give the walks, a start that fits, the row's last step, and the facts on parameters that the cards ask.
-/
import Derived.Test.YtdkhinjogomdaaaDoorCards
import Derived.Test.YtdkhinjogomdaaaDoorTie
import Derived.Test.YtdkhinjogomdaaaDoorLess
import Derived.ProofKit
import Derived.OpenShut
import Derived.Deep.DeepHandedRow
import Derived.Deep.DeepWitnessRowRef
import Derived.Lib.LaidTab
import Derived.Stop.LaidErr
import Derived.SizedLaws
import Derived.Carry
namespace Go.Proofs.YtdkhinjogomdaaaDoor
open Go.ChangeShapes Go.WideShapes Go.ChangeAt Go.RowKit

/-- The row's last step: the one result reads as true, the arguments read as they did, and nothing that was there has changed. -/
theorem post_true {H : Type} {enc : TypeId × Value → H} {f : Func} {s : ChangeSpec} {W W' : World} {args : Array Value} {ds : List (DataW H)} {before pa : List MemPlace}
    (hW : DataW.Whole enc Tryd.prog f.params.toList s.vars false W args.toList ds [] before)
    (hres : DataW.TrodAll enc Tryd.prog W' W.heap.size (fun _ => false) false f.resultTypes.toList ((Value.bool true).resultList f.resultTypes.size) (s.fn H (ds ++ [])).results [])
    (hargs : DataW.TrodAll enc Tryd.prog W' 0 (fun b => decide (b < W.heap.size)) true f.params.toList args.toList (s.fn H (ds ++ [])).args pa)
    (hvars : DataW.TrodVars enc Tryd.prog W' (fun b => decide (b < W.heap.size)) s.vars (s.fn H (ds ++ [])).vars [])
    (hb : Below W.heap.size W W') : s.post enc Tryd.prog f false true false false W args (.bool true) W' :=
  ⟨ds, [], before, [], pa, [], hW, hres, hargs, hvars, hb.frame _, fun h => by cases h⟩

theorem own : ownKnob Tryd.prog.godebug = none := by kernel_rfl
theorem laidOut : laidOutB Tryd.prog = true := by kernel_rfl
/-- An argument reads behind the call as it did before it. -/
theorem stays {H : Type} {enc : TypeId × Value → H} {t : TypeId} (hr : Tryd.prog.readableRec t = true) (hrow : t < Tryd.prog.types.size) {W W' : World} {v : Value} {d : DataW H} {ps : List MemPlace}
    (h : DataW.Trod enc Tryd.prog W 0 (fun _ => true) true t v d ps) (hb : Below W.heap.size W W') (hlt : ∀ x ∈ ps, x.block < W.heap.size) :
    DataW.Trod enc Tryd.prog W' 0 (fun b => decide (b < W.heap.size)) true t v d ps := Below.trod laidOut hr hrow h hb hlt
theorem g0 : Tryd.prog.globalNamed "retroact/sum.fourSteps" = some 0 := by kernel_rfl
theorem g1 : Tryd.prog.globalNamed "retroact/sum.roundConstants" = some 1 := by kernel_rfl
theorem g0Type : (Tryd.prog.globals[0]?).map (·.type) = some 43 := by kernel_rfl
theorem g1Type : (Tryd.prog.globals[1]?).map (·.type) = some 54 := by kernel_rfl
theorem cells43 : Tryd.prog.cellsOf 43 = 16 := by kernel_rfl
theorem cells54 : Tryd.prog.cellsOf 54 = 64 := by kernel_rfl
theorem cells27 : Tryd.prog.cellsOf 27 = 1 := by kernel_rfl
theorem cells5 : Tryd.prog.cellsOf 5 = 1 := by kernel_rfl
theorem cells23 : Tryd.prog.cellsOf 23 = 32 := by kernel_rfl

theorem cells33 : Tryd.prog.cellsOf 33 = 5 := by kernel_rfl
/-- No parameter wants a stand-in. -/
theorem noStand (t : TypeId) (h : t = 3 ∨ t = 9 ∨ t = 23 ∨ t = 27 ∨ t = 33) : Tryd.prog.wantsStandIn t = false := by
  rcases h with rfl | rfl | rfl | rfl | rfl <;> kernel_rfl
theorem getD_map (l : List Nat) (i : Nat) : (l.map fun n : Nat => (n : Int)).getD i 0 = ((l.getD i 0 : Nat) : Int) := by
  simp only [List.getD_eq_getElem?_getD, List.getElem?_map]
  cases l[i]? <;> rfl
/-- What the rows' list gives the walks. -/
theorem lies {W : World} (h : laidMetH Tryd.prog Rows.sumTellsRow.laid W) : Tabs W := by
  have h' : laidMet Tryd.prog Rows.sumTellsRow.laid W := h
  have t0 : Lib.TabIs Tryd.prog W "retroact/sum.fourSteps" .u32 (four.map fun n : Nat => (n : Int)) := Lib.tabIs_of_head g0 g0Type Tryd.underlying43 Tryd.underlying27 cells27 cells43 h'
  have t1 : Lib.TabIs Tryd.prog W "retroact/sum.roundConstants" .u32 (Sha.ks.map fun n : Nat => (n : Int)) := Lib.tabIs_of_head g1 g1Type Tryd.underlying54 Tryd.underlying27 cells27 cells54 h'.tail
  have c1 : ∀ i, i < 64 → W.cell? ⟨1, i, none⟩ = some (.int .u32 (Sha.ks.getD i 0 : Nat)) := fun i hi => by
    rw [t1.cell g1 i (by rw [List.length_map]; exact hi), getD_map]
  refine ⟨?_, fun i hi => ?_, c1⟩
  · have := World.block_lt_of_cell? _ _ (c1 0 (by omega))
    exact this
  · rw [t0.cell g0 i (by rw [List.length_map]; exact hi), getD_map]

def lits {H : Type} : DataW H → Array Value
  | .agg l => (l.map fun
    | .lit (.int k z) => Value.int k z
    | _ => .bool false).toArray
  | _ => #[]
/-- The settled world, the two tables holding what their initialisers lay. -/
noncomputable def laidWorld (os : Os) : World :=
  let w0 := World.holding Tryd.prog os ⟨#[], #[], []⟩
  { w0 with heap := (w0.heap.modify 0 fun
      | .cells _ t frozen => .cells (lits (H := Unit) Rows.laid_retroact_sum_fourSteps) t frozen
      | o => o).modify 1 fun
      | .cells _ t frozen => .cells (lits (H := Unit) Rows.laid_retroact_sum_roundConstants) t frozen
      | o => o }
theorem laid_met (os : Os) (args : Array Value) : laidMet Tryd.prog Rows.sumTellsRow.laid ((laidWorld os).forCall (fun _ _ => 0) ⟨#[], args, []⟩).memory :=
  laidMet_of_run' 8 (by kernel_rfl) (by kernel_rfl)

/-- An array of bytes that came in: its cells are a list's. -/
theorem open_bytes {H : Type} {enc : TypeId × Value → H} {r : Reach} {b0 : Nat} {t : TypeId} {n : Nat} {w : World} {base : Nat} {sp : Nat → Bool} {held : Bool} {v : Value} {d : DataW H} {ps : List MemPlace}
    (ht : Tryd.prog.underlying t = some (.array n 5)) (hc : Tryd.prog.cellsOf t = n) (hval : Value.okWide Tryd.prog w r b0 t v) (hd : DataW.Trod enc Tryd.prog w base sp held t v d ps) :
    ∃ l : List UInt8, v = .agg (dig l) ∧ l.length = n := by
  obtain ⟨cs, rfl, hsz⟩ : ∃ cs, v = .agg cs ∧ cs.size = n := by
    have h : ∃ cs, v = .agg cs ∧ cs.size = Tryd.prog.cellsOf t ∧ Row.okWide Tryd.prog w r b0 t cs := by
      simpa [Value.okWide, ht] using hval
    obtain ⟨cs, h1, h2, -⟩ := h
    exact ⟨cs, h1, by rw [h2, hc]⟩
  obtain ⟨fuel, hf⟩ := hd
  obtain ⟨xs, m, -, -, -, hl, hall⟩ := DataW.trod_array ht hf
  have hb : ∀ i (hi : i < n), ∃ b : UInt8, cs[i]? = some (.int .u8 (b.toNat : Nat)) := by
    intro i hi
    have h1 := hall i hi
    rw [cells5, Nat.mul_one, List.getElem?_eq_getElem (by omega)] at h1
    obtain ⟨z, hz, -, hwf⟩ := DataW.trod_int Tryd.underlying5 h1
    have h2 : cs[i]? = some (.int .u8 z) := by
      have := congrArg (·[0]?) hz
      simpa [Value.cells, List.getElem?_take, List.getElem?_drop] using this
    have e1 : IntKind.u8.min = 0 := rfl
    have e2 : IntKind.u8.max = 255 := rfl
    simp [Lit.wf, e1, e2] at hwf
    refine ⟨UInt8.ofNat z.toNat, ?_⟩
    rw [h2, Hex.toNat_of _ (by omega)]
    congr 2
    omega
  refine ⟨(List.range n).map fun i => match (cs[i]? : Option Value) with
    | some (Value.int _ z) => UInt8.ofNat z.toNat
    | _ => 0, ?_, by simp⟩
  congr 1
  apply Array.ext_getElem?
  intro i
  by_cases hi : i < n
  · obtain ⟨b, hb⟩ := hb i hi
    rw [hb]
    unfold dig
    simp [hi, hb]
  · rw [Array.getElem?_eq_none (by omega), Array.getElem?_eq_none (by rw [dig_size]; simp; omega)]
end Go.Proofs.YtdkhinjogomdaaaDoor
