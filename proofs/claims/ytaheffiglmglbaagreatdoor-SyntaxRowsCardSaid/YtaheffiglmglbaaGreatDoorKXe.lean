import Derived.Test.YtaheffiglmglbaaGreatDoorCards
import Derived.Test.YtaheffiglmglbaaGreatDoorTie
import Derived.ProofKit
import Derived.OpenShut
import Derived.JoinedCond
import Derived.Deep.DeepHandedRow
import Derived.Deep.DeepWitnessRowRef
import Derived.Lib.LaidTab
import Derived.Stop.LaidErr
import Derived.SizedLaws
import Derived.Carry
import Derived.SliceStrings
import Derived.ChangeSlices
import Derived.Deep.Slices
import Derived.Deep.Fields
import Derived.ChangeArms
import Derived.Test.YtaheffiglmglbaaGreatDoorKLa
/- Base. -/
set_option maxHeartbeats 8000000
set_option maxRecDepth 20000
namespace Go.Proofs.YtaheffiglmglbaaGreatDoor
open Go.Proofs.Tryz
open Go.ChangeShapes Go.WideShapes Go.ChangeAt Go.RowKit Go.Deep
theorem Zjc {H:Type} {enc:TypeId × Value→H} {f:Func} {s:ChangeSpec} {W W':World} {args:Array Value} {ds:List (DataW H)} {before pa:List MemPlace}
  (hW:DataW.Whole enc prog f.params.toList s.vars false W args.toList ds [] before)
  (hres:DataW.TrodAll enc prog W' W.heap.size (fun _=>false) false f.resultTypes.toList ((Value.bool true).resultList f.resultTypes.size) (s.fn H (ds++[])).results [])
  (hargs:DataW.TrodAll enc prog W' 0 (fun b=>decide (b < W.heap.size)) true f.params.toList args.toList (s.fn H (ds++[])).args pa)
  (hvars:DataW.TrodVars enc prog W' (fun b=>decide (b < W.heap.size)) s.vars (s.fn H (ds++[])).vars [])
  (hb:Below W.heap.size W W'):s.post enc prog f false true false false W args (.bool true) W':=
 ⟨ds,[],before,[],pa,[],hW,hres,hargs,hvars,hb.frame _,fun h=>by cases h⟩
theorem own:ownKnob prog.godebug=none:=by kernel_rfl
theorem ZwE:laidOutB prog=true:=by kernel_rfl
theorem stays {H:Type} {enc:TypeId × Value→H} {t:TypeId} (hr:prog.readableRec t=true) (hrow:t < prog.types.size) {W W':World} {v:Value} {d:DataW H} {ps:List MemPlace}
  (h:DataW.Trod enc prog W 0 (fun _=>true) true t v d ps) (hb:Below W.heap.size W W') (hlt:∀x∈ps,x.block < W.heap.size) :
  DataW.Trod enc prog W' 0 (fun b=>decide (b < W.heap.size)) true t v d ps:=Below.trod ZwE hr hrow h hb hlt
theorem Zum:(prog.globals[3]?).map (·.type)=some 170:=by kernel_rfl
theorem Zun:(prog.globals[2]?).map (·.type)=some 67:=by kernel_rfl
theorem cells170:prog.cellsOf 170=20:=by kernel_rfl
theorem cells151:prog.cellsOf 151=1:=by kernel_rfl
theorem cells167:prog.cellsOf 167=1:=by kernel_rfl
theorem cells9:prog.cellsOf 9=1:=by kernel_rfl
theorem star : "*"++ "errors.errorString" = "*errors.errorString":=by decide
theorem row165 (u:TypeId) (h:prog.typeName? 3 u=some "*errors.errorString"):u=165:=
 typeName_ptr_named (nm:= "errors.errorString") (by rw [star];kernel_rfl) (by kernel_rfl) (by decide) u (by rw [star];exact h)
theorem lies {W:World} (h:laidMetH prog Rows.syntaxBackRow.laid W):Lies W:=by
 have h':laidMet prog Rows.syntaxBackRow.laid W:=h
 refine ⟨Lib.tabIs_of_head Zze Zum underlying170 underlying151 cells151 cells170 h'.tail.tail,?_⟩
 obtain ⟨a,s,hv,-,-,-⟩:=laid_sentinel h'.tail.tail.tail Zy6 Zun underlying67 row165 underlying165 underlying167 rfl rfl underlying9 cells167 cells9
 exact ⟨_,_,hv⟩
abbrev Zzg:ByteArray:={ data:=#[105,110,118,97,108,105,100,32,115,121,110,116,97,120] }
abbrev Zzh:ByteArray:={ data:=#[118,97,108,117,101,32,111,117,116,32,111,102,32,114,97,110,103,101] }
noncomputable def low:Nat:=(World.holding prog default ⟨#[],#[],[]⟩).heap.size
def lits {H:Type} : DataW H→Array Value
 | .agg l=>(l.map fun
  | .lit (.int k z)=>Value.int k z
  | _=>.bool false).toArray
 | _=>#[]
noncomputable def ZeU (os:Os):World:=
 let w0:=World.holding prog os ⟨#[.cells #[.string Zzg] 167,.cells #[.string Zzh] 167],#[],[]⟩
 { w0 with heap:=((((w0.heap.modify 1 fun
   | .cells _ t frozen=>.cells #[.iface 165 (.pointer (some ⟨low,0,none⟩))] t frozen
   | o=>o).modify 2 fun
   | .cells _ t frozen=>.cells #[.iface 165 (.pointer (some ⟨low + 1,0,none⟩))] t frozen
   | o=>o).modify 3 fun
   | .cells _ t frozen=>.cells (lits (H:=Unit) Rows.laid_internal_strconv_uint64pow10) t frozen
   | o=>o).modify 4 fun
   | .cells _ t frozen=>.cells (lits (H:=Unit) Rows.laid_math_bits_deBruijn32tab) t frozen
   | o=>o).modify 5 fun
   | .cells _ t frozen=>.cells (lits (H:=Unit) Rows.laid_math_bits_deBruijn64tab) t frozen
   | o=>o }
theorem Zld (os:Os) (args:Array Value):laidMet prog Rows.syntaxBackRow.laid ((ZeU os).forCall (fun _ _=>0) ⟨#[],args,[]⟩).memory:=
 laidMet_of_run' 8 (by kernel_rfl) (by kernel_rfl)
theorem ZnG (t:TypeId) (h:t=3∨t=9∨t=24):prog.wantsStandIn t=false:=by
 rcases h with rfl | rfl | rfl <;> kernel_rfl
end Go.Proofs.YtaheffiglmglbaaGreatDoor
