/-
  What the card of this seat uses: what the listed variables give the walks, a start that fits, the row's last step, and the facts on parameters that the card asks.
-/
import Derived.Test.YtmcdbjkmkbdeiaaDoorCards
import Derived.Test.YtmcdbjkmkbdeiaaDoorTie
import Derived.Test.YtmcdbjkmkbdeiaaDoorS3Mem
import Derived.ProofKit
import Derived.OpenShut
import Derived.Deep.DeepHandedRow
import Derived.Deep.DeepWitnessRowRef
import Derived.Lib.LaidTab
import Derived.Stop.LaidErr
import Derived.SizedLaws
import Derived.Carry
namespace Go.Proofs.YtmcdbjkmkbdeiaaDoor
open Go.ChangeShapes Go.WideShapes Go.ChangeAt Go.RowKit

/-- The row's last step: the one result reads as true, the arguments read as they did, and nothing that was there has changed. -/
theorem post_true {H : Type} {enc : TypeId × Value → H} {f : Func} {s : ChangeSpec} {W W' : World} {args : Array Value} {ds : List (DataW H)} {before pa : List MemPlace}
    (hW : DataW.Whole enc Tryd.prog f.params.toList s.vars false W args.toList ds [] before)
    (hres : DataW.TrodAll enc Tryd.prog W' W.heap.size (fun _ => false) false f.resultTypes.toList ((Value.bool true).resultList f.resultTypes.size) (s.fn H (ds ++ [])).results [])
    (hargs : DataW.TrodAll enc Tryd.prog W' 0 (fun b => decide (b < W.heap.size)) true f.params.toList args.toList (s.fn H (ds ++ [])).args pa)
    (hvars : DataW.TrodVars enc Tryd.prog W' (fun b => decide (b < W.heap.size)) s.vars (s.fn H (ds ++ [])).vars [])
    (hb : Below W.heap.size W W') : s.post enc Tryd.prog f false true false false W args (.bool true) W' :=
  ⟨ds, [], before, [], pa, [], hW, hres, hargs, hvars, hb.frame _, fun h => by cases h⟩

theorem own : ownKnob Tryd.prog.godebug = none := by kernel_rfl
theorem laidOut : laidOutB Tryd.prog = true := by kernel_rfl
/-- An argument reads behind the call as it did before it. -/
theorem stays {H : Type} {enc : TypeId × Value → H} {t : TypeId} (hr : Tryd.prog.readableRec t = true) (hrow : t < Tryd.prog.types.size) {W W' : World} {v : Value} {d : DataW H} {ps : List MemPlace}
    (h : DataW.Trod enc Tryd.prog W 0 (fun _ => true) true t v d ps) (hb : Below W.heap.size W W') (hlt : ∀ x ∈ ps, x.block < W.heap.size) :
    DataW.Trod enc Tryd.prog W' 0 (fun b => decide (b < W.heap.size)) true t v d ps := Below.trod laidOut hr hrow h hb hlt
theorem g0 : Tryd.prog.globalNamed "retroact/sum.fourSteps" = some 0 := by kernel_rfl
theorem g1 : Tryd.prog.globalNamed "retroact/sum.roundConstants" = some 1 := by kernel_rfl
theorem g0Type : (Tryd.prog.globals[0]?).map (·.type) = some 57 := by kernel_rfl
theorem g1Type : (Tryd.prog.globals[1]?).map (·.type) = some 75 := by kernel_rfl
theorem cells16 : Tryd.prog.cellsOf 57 = 16 := by kernel_rfl
theorem cells64 : Tryd.prog.cellsOf 75 = 64 := by kernel_rfl
theorem cells32 : Tryd.prog.cellsOf 28 = 1 := by kernel_rfl
/-- No parameter wants a stand-in. -/
theorem noStand (t : TypeId) (h : t = 9) : Tryd.prog.wantsStandIn t = false := by
  subst h; kernel_rfl
theorem getD_map (l : List Nat) (i : Nat) : (l.map fun n : Nat => (n : Int)).getD i 0 = ((l.getD i 0 : Nat) : Int) := by
  simp only [List.getD_eq_getElem?_getD, List.getElem?_map]
  cases l[i]? <;> rfl
/-- What the row's list gives the walks. -/
theorem lies {W : World} (h : laidMetH Tryd.prog Rows.pressChecksRow.laid W) : S3.Tabs W := by
  have h' : laidMet Tryd.prog Rows.pressChecksRow.laid W := h
  have t0 : Lib.TabIs Tryd.prog W "retroact/sum.fourSteps" .u32 (S3.four.map fun n : Nat => (n : Int)) := Lib.tabIs_of_head g0 g0Type Tryd.underlying57 Tryd.underlying28 cells32 cells16 h'
  have t1 : Lib.TabIs Tryd.prog W "retroact/sum.roundConstants" .u32 (S3.Sha.ks.map fun n : Nat => (n : Int)) := Lib.tabIs_of_head g1 g1Type Tryd.underlying75 Tryd.underlying28 cells32 cells64 h'.tail
  have c1 : ∀ i, i < 64 → W.cell? ⟨1, i, none⟩ = some (.int .u32 (S3.Sha.ks.getD i 0 : Nat)) := fun i hi => by
    rw [t1.cell g1 i (by rw [List.length_map]; exact hi), getD_map]
  refine ⟨?_, fun i hi => ?_, c1⟩
  · have := World.block_lt_of_cell? _ _ (c1 0 (by omega))
    exact this
  · rw [t0.cell g0 i (by rw [List.length_map]; exact hi), getD_map]

def lits {H : Type} : DataW H → Array Value
  | .agg l => (l.map fun
    | .lit (.int k z) => Value.int k z
    | _ => .bool false).toArray
  | _ => #[]
/-- The settled world, the two tables holding what their initialisers lay. -/
noncomputable def laidWorld (os : Os) : World :=
  let w0 := World.holding Tryd.prog os ⟨#[], #[], []⟩
  { w0 with heap := (w0.heap.modify 0 fun
      | .cells _ t frozen => .cells (lits (H := Unit) Rows.laid_retroact_sum_fourSteps) t frozen
      | o => o).modify 1 fun
      | .cells _ t frozen => .cells (lits (H := Unit) Rows.laid_retroact_sum_roundConstants) t frozen
      | o => o }
theorem laid_met (os : Os) (args : Array Value) : laidMet Tryd.prog Rows.pressChecksRow.laid ((laidWorld os).forCall (fun _ _ => 0) ⟨#[], args, []⟩).memory :=
  laidMet_of_run' 8 (by kernel_rfl) (by kernel_rfl)
end Go.Proofs.YtmcdbjkmkbdeiaaDoor
