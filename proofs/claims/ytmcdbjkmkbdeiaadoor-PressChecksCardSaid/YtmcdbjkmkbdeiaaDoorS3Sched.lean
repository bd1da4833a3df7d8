/-
  The code's schedule.
-/
import Derived.Test.YtmcdbjkmkbdeiaaDoorS3W32
namespace Go.Proofs.YtmcdbjkmkbdeiaaDoor.S3
open Go.RowKit
theorem zz64_eq : #[Value.int IntKind.u32 0, Value.int IntKind.u32 0, Value.int IntKind.u32 0, Value.int IntKind.u32 0, Value.int IntKind.u32 0, Value.int IntKind.u32 0, Value.int IntKind.u32 0, Value.int IntKind.u32 0, Value.int IntKind.u32 0, Value.int IntKind.u32 0, Value.int IntKind.u32 0, Value.int IntKind.u32 0, Value.int IntKind.u32 0, Value.int IntKind.u32 0, Value.int IntKind.u32 0, Value.int IntKind.u32 0, Value.int IntKind.u32 0, Value.int IntKind.u32 0, Value.int IntKind.u32 0, Value.int IntKind.u32 0, Value.int IntKind.u32 0, Value.int IntKind.u32 0, Value.int IntKind.u32 0, Value.int IntKind.u32 0, Value.int IntKind.u32 0, Value.int IntKind.u32 0, Value.int IntKind.u32 0, Value.int IntKind.u32 0, Value.int IntKind.u32 0, Value.int IntKind.u32 0, Value.int IntKind.u32 0, Value.int IntKind.u32 0, Value.int IntKind.u32 0, Value.int IntKind.u32 0, Value.int IntKind.u32 0, Value.int IntKind.u32 0, Value.int IntKind.u32 0, Value.int IntKind.u32 0, Value.int IntKind.u32 0, Value.int IntKind.u32 0, Value.int IntKind.u32 0, Value.int IntKind.u32 0, Value.int IntKind.u32 0, Value.int IntKind.u32 0, Value.int IntKind.u32 0, Value.int IntKind.u32 0, Value.int IntKind.u32 0, Value.int IntKind.u32 0, Value.int IntKind.u32 0, Value.int IntKind.u32 0, Value.int IntKind.u32 0, Value.int IntKind.u32 0, Value.int IntKind.u32 0, Value.int IntKind.u32 0, Value.int IntKind.u32 0, Value.int IntKind.u32 0, Value.int IntKind.u32 0, Value.int IntKind.u32 0, Value.int IntKind.u32 0, Value.int IntKind.u32 0, Value.int IntKind.u32 0, Value.int IntKind.u32 0, Value.int IntKind.u32 0, Value.int IntKind.u32 0] = wdz [] 64 := rfl
theorem run_index_byte (s : ByteArray) (k : Nat) (hk : k < s.size) (w : World) : (Instr.index 9 (.string s) (.int .i64 (k : Int))).run Tryd.prog w = .ok (.int .u8 ((nat (ls s)).getD k 0 : Nat)) w := by
  rw [run_index_string w 9 s .i64 _ Tryd.underlying9, dif_pos ⟨by omega, by omega⟩]
  have e : ((k : Int)).toNat = k := by omega
  simp only [e]
  have h' : k < (ls s).length := hk
  rw [nat_at, List.getD_eq_getElem?_getD, List.getElem?_eq_getElem h']
  rfl
set_option maxHeartbeats 4000000 in
set_option maxRecDepth 100000 in
theorem schedule_any (s : ByteArray) (w : World) (hs : s.size = 64) :
    Calls Tryd.prog 32 #[.string s] w fun e w' => e = .returned (.agg (wd (Sha.sched (nat (ls s)) 48))) ∧ Below w.heap.size w w' := by
  have hs1 : (w.alloc (Obj.cells #[Value.int IntKind.u32 0, Value.int IntKind.u32 0, Value.int IntKind.u32 0, Value.int IntKind.u32 0, Value.int IntKind.u32 0, Value.int IntKind.u32 0, Value.int IntKind.u32 0, Value.int IntKind.u32 0, Value.int IntKind.u32 0, Value.int IntKind.u32 0, Value.int IntKind.u32 0, Value.int IntKind.u32 0, Value.int IntKind.u32 0, Value.int IntKind.u32 0, Value.int IntKind.u32 0, Value.int IntKind.u32 0, Value.int IntKind.u32 0, Value.int IntKind.u32 0, Value.int IntKind.u32 0, Value.int IntKind.u32 0, Value.int IntKind.u32 0, Value.int IntKind.u32 0, Value.int IntKind.u32 0, Value.int IntKind.u32 0, Value.int IntKind.u32 0, Value.int IntKind.u32 0, Value.int IntKind.u32 0, Value.int IntKind.u32 0, Value.int IntKind.u32 0, Value.int IntKind.u32 0, Value.int IntKind.u32 0, Value.int IntKind.u32 0, Value.int IntKind.u32 0, Value.int IntKind.u32 0, Value.int IntKind.u32 0, Value.int IntKind.u32 0, Value.int IntKind.u32 0, Value.int IntKind.u32 0, Value.int IntKind.u32 0, Value.int IntKind.u32 0, Value.int IntKind.u32 0, Value.int IntKind.u32 0, Value.int IntKind.u32 0, Value.int IntKind.u32 0, Value.int IntKind.u32 0, Value.int IntKind.u32 0, Value.int IntKind.u32 0, Value.int IntKind.u32 0, Value.int IntKind.u32 0, Value.int IntKind.u32 0, Value.int IntKind.u32 0, Value.int IntKind.u32 0, Value.int IntKind.u32 0, Value.int IntKind.u32 0, Value.int IntKind.u32 0, Value.int IntKind.u32 0, Value.int IntKind.u32 0, Value.int IntKind.u32 0, Value.int IntKind.u32 0, Value.int IntKind.u32 0, Value.int IntKind.u32 0, Value.int IntKind.u32 0, Value.int IntKind.u32 0, Value.int IntKind.u32 0] 75)).heap.size = w.heap.size + 1 := Array.size_push _
  have hI2 : Is ((w.alloc (Obj.cells #[Value.int IntKind.u32 0, Value.int IntKind.u32 0, Value.int IntKind.u32 0, Value.int IntKind.u32 0, Value.int IntKind.u32 0, Value.int IntKind.u32 0, Value.int IntKind.u32 0, Value.int IntKind.u32 0, Value.int IntKind.u32 0, Value.int IntKind.u32 0, Value.int IntKind.u32 0, Value.int IntKind.u32 0, Value.int IntKind.u32 0, Value.int IntKind.u32 0, Value.int IntKind.u32 0, Value.int IntKind.u32 0, Value.int IntKind.u32 0, Value.int IntKind.u32 0, Value.int IntKind.u32 0, Value.int IntKind.u32 0, Value.int IntKind.u32 0, Value.int IntKind.u32 0, Value.int IntKind.u32 0, Value.int IntKind.u32 0, Value.int IntKind.u32 0, Value.int IntKind.u32 0, Value.int IntKind.u32 0, Value.int IntKind.u32 0, Value.int IntKind.u32 0, Value.int IntKind.u32 0, Value.int IntKind.u32 0, Value.int IntKind.u32 0, Value.int IntKind.u32 0, Value.int IntKind.u32 0, Value.int IntKind.u32 0, Value.int IntKind.u32 0, Value.int IntKind.u32 0, Value.int IntKind.u32 0, Value.int IntKind.u32 0, Value.int IntKind.u32 0, Value.int IntKind.u32 0, Value.int IntKind.u32 0, Value.int IntKind.u32 0, Value.int IntKind.u32 0, Value.int IntKind.u32 0, Value.int IntKind.u32 0, Value.int IntKind.u32 0, Value.int IntKind.u32 0, Value.int IntKind.u32 0, Value.int IntKind.u32 0, Value.int IntKind.u32 0, Value.int IntKind.u32 0, Value.int IntKind.u32 0, Value.int IntKind.u32 0, Value.int IntKind.u32 0, Value.int IntKind.u32 0, Value.int IntKind.u32 0, Value.int IntKind.u32 0, Value.int IntKind.u32 0, Value.int IntKind.u32 0, Value.int IntKind.u32 0, Value.int IntKind.u32 0, Value.int IntKind.u32 0, Value.int IntKind.u32 0] 75)).alloc (Obj.cells #[Value.int IntKind.u32 0, Value.int IntKind.u32 0, Value.int IntKind.u32 0, Value.int IntKind.u32 0, Value.int IntKind.u32 0, Value.int IntKind.u32 0, Value.int IntKind.u32 0, Value.int IntKind.u32 0, Value.int IntKind.u32 0, Value.int IntKind.u32 0, Value.int IntKind.u32 0, Value.int IntKind.u32 0, Value.int IntKind.u32 0, Value.int IntKind.u32 0, Value.int IntKind.u32 0, Value.int IntKind.u32 0, Value.int IntKind.u32 0, Value.int IntKind.u32 0, Value.int IntKind.u32 0, Value.int IntKind.u32 0, Value.int IntKind.u32 0, Value.int IntKind.u32 0, Value.int IntKind.u32 0, Value.int IntKind.u32 0, Value.int IntKind.u32 0, Value.int IntKind.u32 0, Value.int IntKind.u32 0, Value.int IntKind.u32 0, Value.int IntKind.u32 0, Value.int IntKind.u32 0, Value.int IntKind.u32 0, Value.int IntKind.u32 0, Value.int IntKind.u32 0, Value.int IntKind.u32 0, Value.int IntKind.u32 0, Value.int IntKind.u32 0, Value.int IntKind.u32 0, Value.int IntKind.u32 0, Value.int IntKind.u32 0, Value.int IntKind.u32 0, Value.int IntKind.u32 0, Value.int IntKind.u32 0, Value.int IntKind.u32 0, Value.int IntKind.u32 0, Value.int IntKind.u32 0, Value.int IntKind.u32 0, Value.int IntKind.u32 0, Value.int IntKind.u32 0, Value.int IntKind.u32 0, Value.int IntKind.u32 0, Value.int IntKind.u32 0, Value.int IntKind.u32 0, Value.int IntKind.u32 0, Value.int IntKind.u32 0, Value.int IntKind.u32 0, Value.int IntKind.u32 0, Value.int IntKind.u32 0, Value.int IntKind.u32 0, Value.int IntKind.u32 0, Value.int IntKind.u32 0, Value.int IntKind.u32 0, Value.int IntKind.u32 0, Value.int IntKind.u32 0, Value.int IntKind.u32 0] 75)) w.heap.size 75 (wdz [] 64) := (Is.fresh w 75 _).alloc _
  have hI3 : Is ((w.alloc (Obj.cells #[Value.int IntKind.u32 0, Value.int IntKind.u32 0, Value.int IntKind.u32 0, Value.int IntKind.u32 0, Value.int IntKind.u32 0, Value.int IntKind.u32 0, Value.int IntKind.u32 0, Value.int IntKind.u32 0, Value.int IntKind.u32 0, Value.int IntKind.u32 0, Value.int IntKind.u32 0, Value.int IntKind.u32 0, Value.int IntKind.u32 0, Value.int IntKind.u32 0, Value.int IntKind.u32 0, Value.int IntKind.u32 0, Value.int IntKind.u32 0, Value.int IntKind.u32 0, Value.int IntKind.u32 0, Value.int IntKind.u32 0, Value.int IntKind.u32 0, Value.int IntKind.u32 0, Value.int IntKind.u32 0, Value.int IntKind.u32 0, Value.int IntKind.u32 0, Value.int IntKind.u32 0, Value.int IntKind.u32 0, Value.int IntKind.u32 0, Value.int IntKind.u32 0, Value.int IntKind.u32 0, Value.int IntKind.u32 0, Value.int IntKind.u32 0, Value.int IntKind.u32 0, Value.int IntKind.u32 0, Value.int IntKind.u32 0, Value.int IntKind.u32 0, Value.int IntKind.u32 0, Value.int IntKind.u32 0, Value.int IntKind.u32 0, Value.int IntKind.u32 0, Value.int IntKind.u32 0, Value.int IntKind.u32 0, Value.int IntKind.u32 0, Value.int IntKind.u32 0, Value.int IntKind.u32 0, Value.int IntKind.u32 0, Value.int IntKind.u32 0, Value.int IntKind.u32 0, Value.int IntKind.u32 0, Value.int IntKind.u32 0, Value.int IntKind.u32 0, Value.int IntKind.u32 0, Value.int IntKind.u32 0, Value.int IntKind.u32 0, Value.int IntKind.u32 0, Value.int IntKind.u32 0, Value.int IntKind.u32 0, Value.int IntKind.u32 0, Value.int IntKind.u32 0, Value.int IntKind.u32 0, Value.int IntKind.u32 0, Value.int IntKind.u32 0, Value.int IntKind.u32 0, Value.int IntKind.u32 0] 75)).alloc (Obj.cells #[Value.int IntKind.u32 0, Value.int IntKind.u32 0, Value.int IntKind.u32 0, Value.int IntKind.u32 0, Value.int IntKind.u32 0, Value.int IntKind.u32 0, Value.int IntKind.u32 0, Value.int IntKind.u32 0, Value.int IntKind.u32 0, Value.int IntKind.u32 0, Value.int IntKind.u32 0, Value.int IntKind.u32 0, Value.int IntKind.u32 0, Value.int IntKind.u32 0, Value.int IntKind.u32 0, Value.int IntKind.u32 0, Value.int IntKind.u32 0, Value.int IntKind.u32 0, Value.int IntKind.u32 0, Value.int IntKind.u32 0, Value.int IntKind.u32 0, Value.int IntKind.u32 0, Value.int IntKind.u32 0, Value.int IntKind.u32 0, Value.int IntKind.u32 0, Value.int IntKind.u32 0, Value.int IntKind.u32 0, Value.int IntKind.u32 0, Value.int IntKind.u32 0, Value.int IntKind.u32 0, Value.int IntKind.u32 0, Value.int IntKind.u32 0, Value.int IntKind.u32 0, Value.int IntKind.u32 0, Value.int IntKind.u32 0, Value.int IntKind.u32 0, Value.int IntKind.u32 0, Value.int IntKind.u32 0, Value.int IntKind.u32 0, Value.int IntKind.u32 0, Value.int IntKind.u32 0, Value.int IntKind.u32 0, Value.int IntKind.u32 0, Value.int IntKind.u32 0, Value.int IntKind.u32 0, Value.int IntKind.u32 0, Value.int IntKind.u32 0, Value.int IntKind.u32 0, Value.int IntKind.u32 0, Value.int IntKind.u32 0, Value.int IntKind.u32 0, Value.int IntKind.u32 0, Value.int IntKind.u32 0, Value.int IntKind.u32 0, Value.int IntKind.u32 0, Value.int IntKind.u32 0, Value.int IntKind.u32 0, Value.int IntKind.u32 0, Value.int IntKind.u32 0, Value.int IntKind.u32 0, Value.int IntKind.u32 0, Value.int IntKind.u32 0, Value.int IntKind.u32 0, Value.int IntKind.u32 0] 75)) (w.heap.size + 1) 75 (wdz [] 64) := by
    have := Is.fresh (w.alloc (Obj.cells #[Value.int IntKind.u32 0, Value.int IntKind.u32 0, Value.int IntKind.u32 0, Value.int IntKind.u32 0, Value.int IntKind.u32 0, Value.int IntKind.u32 0, Value.int IntKind.u32 0, Value.int IntKind.u32 0, Value.int IntKind.u32 0, Value.int IntKind.u32 0, Value.int IntKind.u32 0, Value.int IntKind.u32 0, Value.int IntKind.u32 0, Value.int IntKind.u32 0, Value.int IntKind.u32 0, Value.int IntKind.u32 0, Value.int IntKind.u32 0, Value.int IntKind.u32 0, Value.int IntKind.u32 0, Value.int IntKind.u32 0, Value.int IntKind.u32 0, Value.int IntKind.u32 0, Value.int IntKind.u32 0, Value.int IntKind.u32 0, Value.int IntKind.u32 0, Value.int IntKind.u32 0, Value.int IntKind.u32 0, Value.int IntKind.u32 0, Value.int IntKind.u32 0, Value.int IntKind.u32 0, Value.int IntKind.u32 0, Value.int IntKind.u32 0, Value.int IntKind.u32 0, Value.int IntKind.u32 0, Value.int IntKind.u32 0, Value.int IntKind.u32 0, Value.int IntKind.u32 0, Value.int IntKind.u32 0, Value.int IntKind.u32 0, Value.int IntKind.u32 0, Value.int IntKind.u32 0, Value.int IntKind.u32 0, Value.int IntKind.u32 0, Value.int IntKind.u32 0, Value.int IntKind.u32 0, Value.int IntKind.u32 0, Value.int IntKind.u32 0, Value.int IntKind.u32 0, Value.int IntKind.u32 0, Value.int IntKind.u32 0, Value.int IntKind.u32 0, Value.int IntKind.u32 0, Value.int IntKind.u32 0, Value.int IntKind.u32 0, Value.int IntKind.u32 0, Value.int IntKind.u32 0, Value.int IntKind.u32 0, Value.int IntKind.u32 0, Value.int IntKind.u32 0, Value.int IntKind.u32 0, Value.int IntKind.u32 0, Value.int IntKind.u32 0, Value.int IntKind.u32 0, Value.int IntKind.u32 0] 75)) 75 #[Value.int IntKind.u32 0, Value.int IntKind.u32 0, Value.int IntKind.u32 0, Value.int IntKind.u32 0, Value.int IntKind.u32 0, Value.int IntKind.u32 0, Value.int IntKind.u32 0, Value.int IntKind.u32 0, Value.int IntKind.u32 0, Value.int IntKind.u32 0, Value.int IntKind.u32 0, Value.int IntKind.u32 0, Value.int IntKind.u32 0, Value.int IntKind.u32 0, Value.int IntKind.u32 0, Value.int IntKind.u32 0, Value.int IntKind.u32 0, Value.int IntKind.u32 0, Value.int IntKind.u32 0, Value.int IntKind.u32 0, Value.int IntKind.u32 0, Value.int IntKind.u32 0, Value.int IntKind.u32 0, Value.int IntKind.u32 0, Value.int IntKind.u32 0, Value.int IntKind.u32 0, Value.int IntKind.u32 0, Value.int IntKind.u32 0, Value.int IntKind.u32 0, Value.int IntKind.u32 0, Value.int IntKind.u32 0, Value.int IntKind.u32 0, Value.int IntKind.u32 0, Value.int IntKind.u32 0, Value.int IntKind.u32 0, Value.int IntKind.u32 0, Value.int IntKind.u32 0, Value.int IntKind.u32 0, Value.int IntKind.u32 0, Value.int IntKind.u32 0, Value.int IntKind.u32 0, Value.int IntKind.u32 0, Value.int IntKind.u32 0, Value.int IntKind.u32 0, Value.int IntKind.u32 0, Value.int IntKind.u32 0, Value.int IntKind.u32 0, Value.int IntKind.u32 0, Value.int IntKind.u32 0, Value.int IntKind.u32 0, Value.int IntKind.u32 0, Value.int IntKind.u32 0, Value.int IntKind.u32 0, Value.int IntKind.u32 0, Value.int IntKind.u32 0, Value.int IntKind.u32 0, Value.int IntKind.u32 0, Value.int IntKind.u32 0, Value.int IntKind.u32 0, Value.int IntKind.u32 0, Value.int IntKind.u32 0, Value.int IntKind.u32 0, Value.int IntKind.u32 0, Value.int IntKind.u32 0]
    rwa [hs1] at this
  have hB : Below w.heap.size w ((w.alloc (Obj.cells #[Value.int IntKind.u32 0, Value.int IntKind.u32 0, Value.int IntKind.u32 0, Value.int IntKind.u32 0, Value.int IntKind.u32 0, Value.int IntKind.u32 0, Value.int IntKind.u32 0, Value.int IntKind.u32 0, Value.int IntKind.u32 0, Value.int IntKind.u32 0, Value.int IntKind.u32 0, Value.int IntKind.u32 0, Value.int IntKind.u32 0, Value.int IntKind.u32 0, Value.int IntKind.u32 0, Value.int IntKind.u32 0, Value.int IntKind.u32 0, Value.int IntKind.u32 0, Value.int IntKind.u32 0, Value.int IntKind.u32 0, Value.int IntKind.u32 0, Value.int IntKind.u32 0, Value.int IntKind.u32 0, Value.int IntKind.u32 0, Value.int IntKind.u32 0, Value.int IntKind.u32 0, Value.int IntKind.u32 0, Value.int IntKind.u32 0, Value.int IntKind.u32 0, Value.int IntKind.u32 0, Value.int IntKind.u32 0, Value.int IntKind.u32 0, Value.int IntKind.u32 0, Value.int IntKind.u32 0, Value.int IntKind.u32 0, Value.int IntKind.u32 0, Value.int IntKind.u32 0, Value.int IntKind.u32 0, Value.int IntKind.u32 0, Value.int IntKind.u32 0, Value.int IntKind.u32 0, Value.int IntKind.u32 0, Value.int IntKind.u32 0, Value.int IntKind.u32 0, Value.int IntKind.u32 0, Value.int IntKind.u32 0, Value.int IntKind.u32 0, Value.int IntKind.u32 0, Value.int IntKind.u32 0, Value.int IntKind.u32 0, Value.int IntKind.u32 0, Value.int IntKind.u32 0, Value.int IntKind.u32 0, Value.int IntKind.u32 0, Value.int IntKind.u32 0, Value.int IntKind.u32 0, Value.int IntKind.u32 0, Value.int IntKind.u32 0, Value.int IntKind.u32 0, Value.int IntKind.u32 0, Value.int IntKind.u32 0, Value.int IntKind.u32 0, Value.int IntKind.u32 0, Value.int IntKind.u32 0] 75)).alloc (Obj.cells #[Value.int IntKind.u32 0, Value.int IntKind.u32 0, Value.int IntKind.u32 0, Value.int IntKind.u32 0, Value.int IntKind.u32 0, Value.int IntKind.u32 0, Value.int IntKind.u32 0, Value.int IntKind.u32 0, Value.int IntKind.u32 0, Value.int IntKind.u32 0, Value.int IntKind.u32 0, Value.int IntKind.u32 0, Value.int IntKind.u32 0, Value.int IntKind.u32 0, Value.int IntKind.u32 0, Value.int IntKind.u32 0, Value.int IntKind.u32 0, Value.int IntKind.u32 0, Value.int IntKind.u32 0, Value.int IntKind.u32 0, Value.int IntKind.u32 0, Value.int IntKind.u32 0, Value.int IntKind.u32 0, Value.int IntKind.u32 0, Value.int IntKind.u32 0, Value.int IntKind.u32 0, Value.int IntKind.u32 0, Value.int IntKind.u32 0, Value.int IntKind.u32 0, Value.int IntKind.u32 0, Value.int IntKind.u32 0, Value.int IntKind.u32 0, Value.int IntKind.u32 0, Value.int IntKind.u32 0, Value.int IntKind.u32 0, Value.int IntKind.u32 0, Value.int IntKind.u32 0, Value.int IntKind.u32 0, Value.int IntKind.u32 0, Value.int IntKind.u32 0, Value.int IntKind.u32 0, Value.int IntKind.u32 0, Value.int IntKind.u32 0, Value.int IntKind.u32 0, Value.int IntKind.u32 0, Value.int IntKind.u32 0, Value.int IntKind.u32 0, Value.int IntKind.u32 0, Value.int IntKind.u32 0, Value.int IntKind.u32 0, Value.int IntKind.u32 0, Value.int IntKind.u32 0, Value.int IntKind.u32 0, Value.int IntKind.u32 0, Value.int IntKind.u32 0, Value.int IntKind.u32 0, Value.int IntKind.u32 0, Value.int IntKind.u32 0, Value.int IntKind.u32 0, Value.int IntKind.u32 0, Value.int IntKind.u32 0, Value.int IntKind.u32 0, Value.int IntKind.u32 0, Value.int IntKind.u32 0] 75)) := ((Below.refl _ _).alloc (Nat.le_refl _) _).alloc (by omega) _
  have hz : (Tryd.prog.info? 75).map (·.size) = some 64 := by kernel_rfl
  have H2 := Lib.hid hI2
  have H3 := Lib.hid hI3
  have HB := Lib.hid hB
  have HZ := Lib.hid hz
  have HS := Lib.hid hs
  clear hI2 hI3 hB hz hs
  go_enter Tryd.func32, Tryd.ntmps32
  go_wp2
  obtain ⟨W, hW⟩ : ∃ W, W = (w.alloc (Obj.cells #[Value.int IntKind.u32 0, Value.int IntKind.u32 0, Value.int IntKind.u32 0, Value.int IntKind.u32 0, Value.int IntKind.u32 0, Value.int IntKind.u32 0, Value.int IntKind.u32 0, Value.int IntKind.u32 0, Value.int IntKind.u32 0, Value.int IntKind.u32 0, Value.int IntKind.u32 0, Value.int IntKind.u32 0, Value.int IntKind.u32 0, Value.int IntKind.u32 0, Value.int IntKind.u32 0, Value.int IntKind.u32 0, Value.int IntKind.u32 0, Value.int IntKind.u32 0, Value.int IntKind.u32 0, Value.int IntKind.u32 0, Value.int IntKind.u32 0, Value.int IntKind.u32 0, Value.int IntKind.u32 0, Value.int IntKind.u32 0, Value.int IntKind.u32 0, Value.int IntKind.u32 0, Value.int IntKind.u32 0, Value.int IntKind.u32 0, Value.int IntKind.u32 0, Value.int IntKind.u32 0, Value.int IntKind.u32 0, Value.int IntKind.u32 0, Value.int IntKind.u32 0, Value.int IntKind.u32 0, Value.int IntKind.u32 0, Value.int IntKind.u32 0, Value.int IntKind.u32 0, Value.int IntKind.u32 0, Value.int IntKind.u32 0, Value.int IntKind.u32 0, Value.int IntKind.u32 0, Value.int IntKind.u32 0, Value.int IntKind.u32 0, Value.int IntKind.u32 0, Value.int IntKind.u32 0, Value.int IntKind.u32 0, Value.int IntKind.u32 0, Value.int IntKind.u32 0, Value.int IntKind.u32 0, Value.int IntKind.u32 0, Value.int IntKind.u32 0, Value.int IntKind.u32 0, Value.int IntKind.u32 0, Value.int IntKind.u32 0, Value.int IntKind.u32 0, Value.int IntKind.u32 0, Value.int IntKind.u32 0, Value.int IntKind.u32 0, Value.int IntKind.u32 0, Value.int IntKind.u32 0, Value.int IntKind.u32 0, Value.int IntKind.u32 0, Value.int IntKind.u32 0, Value.int IntKind.u32 0] 75)).alloc (Obj.cells #[Value.int IntKind.u32 0, Value.int IntKind.u32 0, Value.int IntKind.u32 0, Value.int IntKind.u32 0, Value.int IntKind.u32 0, Value.int IntKind.u32 0, Value.int IntKind.u32 0, Value.int IntKind.u32 0, Value.int IntKind.u32 0, Value.int IntKind.u32 0, Value.int IntKind.u32 0, Value.int IntKind.u32 0, Value.int IntKind.u32 0, Value.int IntKind.u32 0, Value.int IntKind.u32 0, Value.int IntKind.u32 0, Value.int IntKind.u32 0, Value.int IntKind.u32 0, Value.int IntKind.u32 0, Value.int IntKind.u32 0, Value.int IntKind.u32 0, Value.int IntKind.u32 0, Value.int IntKind.u32 0, Value.int IntKind.u32 0, Value.int IntKind.u32 0, Value.int IntKind.u32 0, Value.int IntKind.u32 0, Value.int IntKind.u32 0, Value.int IntKind.u32 0, Value.int IntKind.u32 0, Value.int IntKind.u32 0, Value.int IntKind.u32 0, Value.int IntKind.u32 0, Value.int IntKind.u32 0, Value.int IntKind.u32 0, Value.int IntKind.u32 0, Value.int IntKind.u32 0, Value.int IntKind.u32 0, Value.int IntKind.u32 0, Value.int IntKind.u32 0, Value.int IntKind.u32 0, Value.int IntKind.u32 0, Value.int IntKind.u32 0, Value.int IntKind.u32 0, Value.int IntKind.u32 0, Value.int IntKind.u32 0, Value.int IntKind.u32 0, Value.int IntKind.u32 0, Value.int IntKind.u32 0, Value.int IntKind.u32 0, Value.int IntKind.u32 0, Value.int IntKind.u32 0, Value.int IntKind.u32 0, Value.int IntKind.u32 0, Value.int IntKind.u32 0, Value.int IntKind.u32 0, Value.int IntKind.u32 0, Value.int IntKind.u32 0, Value.int IntKind.u32 0, Value.int IntKind.u32 0, Value.int IntKind.u32 0, Value.int IntKind.u32 0, Value.int IntKind.u32 0, Value.int IntKind.u32 0] 75) := ⟨_, rfl⟩
  rw [← hW] at H2 H3 HB ⊢
  obtain ⟨g, hg⟩ : ∃ g, g = w.heap.size + 1 := ⟨_, rfl⟩
  rw [← hg] at H3 ⊢
  have HG := Lib.hid hg
  clear hg hW hs1
  go_loopw [10] (fun i wr => ∃ k : Nat, k ≤ 16 ∧ i = .int .i64 k ∧ Is wr g 75 (wdz (Sha.first (nat (ls s)) k) 64) ∧ Is wr w.heap.size 75 (wdz [] 64) ∧ Below w.heap.size w wr) (fun i _ => 16 - (intOf i).toNat)
  case atStart => exact ⟨0, by omega, rfl, H3.out, H2.out, HB.out⟩
  case round =>
    obtain ⟨k, hk, rfl, hI3, hI2, hB⟩ := hrel
    have HI3 := Lib.hid hI3
    have HI2 := Lib.hid hI2
    have HB := Lib.hid hB
    clear hI3 hI2 hB
    by_cases hlt : k < 16
    · have i1 : decide ((k : Int) < 16) = true := by simp; omega
      have i2 : (k : Int) < 64 := by omega
      have i3 : (0 : Int) ≤ (k : Int) := by omega
      have n0 : 4 * k < s.size := by have := HS.out; omega
      have n1 : 4 * k + 1 < s.size := by have := HS.out; omega
      have n2 : 4 * k + 2 < s.size := by have := HS.out; omega
      have n3 : 4 * k + 3 < s.size := by have := HS.out; omega
      have X0 := run_index_byte s (4 * k) n0
      have X1 := run_index_byte s (4 * k + 1) n1
      have X2 := run_index_byte s (4 * k + 2) n2
      have X3 := run_index_byte s (4 * k + 3) n3
      obtain ⟨b0, hb0⟩ : ∃ b, b = (nat (ls s)).getD (4 * k) 0 := ⟨_, rfl⟩
      obtain ⟨b1, hb1⟩ : ∃ b, b = (nat (ls s)).getD (4 * k + 1) 0 := ⟨_, rfl⟩
      obtain ⟨b2, hb2⟩ : ∃ b, b = (nat (ls s)).getD (4 * k + 2) 0 := ⟨_, rfl⟩
      obtain ⟨b3, hb3⟩ : ∃ b, b = (nat (ls s)).getD (4 * k + 3) 0 := ⟨_, rfl⟩
      rw [← hb0, show ((4 * k : Nat) : Int) = 4 * (k : Int) by omega] at X0
      rw [← hb1, show ((4 * k + 1 : Nat) : Int) = 4 * (k : Int) + 1 by omega] at X1
      rw [← hb2, show ((4 * k + 2 : Nat) : Int) = 4 * (k : Int) + 2 by omega] at X2
      rw [← hb3, show ((4 * k + 3 : Nat) : Int) = 4 * (k : Int) + 3 by omega] at X3
      have l0 : b0 < 256 := by rw [hb0]; exact nat_lt _ _
      have l1 : b1 < 256 := by rw [hb1]; exact nat_lt _ _
      have l2 : b2 < 256 := by rw [hb2]; exact nat_lt _ _
      have l3 : b3 < 256 := by rw [hb3]; exact nat_lt _ _
      have E := word_or b0 b1 b2 b3 l0 l1 l2 l3
      have HE := Lib.hid E
      have HW : Hid (Sha.word (nat (ls s)) k = b0 * 16777216 + b1 * 65536 + b2 * 256 + b3) := Lib.hid (by unfold Sha.word; rw [hb0, hb1, hb2, hb3])
      clear hb0 hb1 hb2 hb3 E
      have z : (wdz (Sha.first (nat (ls s)) k) 64).size = 64 := wdz_size _ _ (by rw [first_len]; omega)
      obtain ⟨v1, c1⟩ : ∃ u, wr.cell? ⟨g, k, none⟩ = some u := ⟨_, (HI3.out.at_ k).trans (Array.getElem?_eq_getElem (by rw [z]; omega))⟩
      have f1 := HI3.out.open_ k
      clear z
      go_wp2
      go_region
      go_wp2
      go_roundw
      case rel =>
        refine ⟨k + 1, by omega, by go_num, ?_, ?_, ?_⟩
        · have h2 := HI3.out.put k (.int .u32 (Sha.word (nat (ls s)) k : Nat))
          have e1 := wdz_put (Sha.first (nat (ls s)) k) 64 (Sha.word (nat (ls s)) k) (by rw [first_len]; omega)
          rw [first_len] at e1
          rw [e1] at h2
          rw [first_snoc, HE.out, ← HW.out]
          exact h2
        · exact HI2.out.away (by show w.heap.size ≠ g; have := HG.out; omega) _
        · exact (HB.out.setCell (p := ⟨g, k, none⟩) (by show w.heap.size ≤ g; have := HG.out; omega) _).drew
      case measure => simp [intOf]; omega
    · have i1 : decide ((k : Int) < 16) = false := by simp; omega
      have HK : Hid (k = 16) := Lib.hid (by omega)
      rw [HK.out] at HI3
      obtain ⟨b, hb⟩ : ∃ b, b = nat (ls s) := ⟨_, rfl⟩
      have hbl : ∀ k, b.getD k 0 < 256 := fun k => by rw [hb]; exact nat_lt _ _
      have HBL := Lib.hid hbl
      rw [← hb] at HI3
      have HBE := Lib.hid hb
      clear hb hbl
      go_wp2
      go_loopw [5] (fun i wr => ∃ p : Nat, p ≤ 48 ∧ i = .int .i64 ((p : Int) + 16) ∧ Is wr g 75 (wdz (Sha.sched b p) 64) ∧ Is wr w.heap.size 75 (wdz [] 64) ∧ Below w.heap.size w wr) (fun i _ => 64 - (intOf i).toNat)
      case atStart => exact ⟨0, by omega, rfl, HI3.out, HI2.out, HB.out⟩
      case round =>
        obtain ⟨p, hp, rfl, hI3, hI2, hB⟩ := hrel
        have HI3 := Lib.hid hI3
        have HI2 := Lib.hid hI2
        have HB := Lib.hid hB
        clear hI3 hI2 hB
        by_cases hlt : p < 48
        · have i1 : decide ((p : Int) + 16 < 64) = true := by simp; omega
          have i2 : (p : Int) < 48 := by omega
          have i3 : (0 : Int) ≤ (p : Int) := by omega
          have sl : (Sha.sched b p).length = 16 + p := sched_len b p
          have z : (wdz (Sha.sched b p) 64).size = 64 := wdz_size _ _ (by rw [sl]; omega)
          have cells : ∀ m, m < 16 + p → wr.cell? ⟨g, m, none⟩ = some (.int .u32 ((Sha.sched b p).getD m 0 : Nat)) := fun m hm => by
            rw [HI3.out.at_ m, wdz_at _ _ m (by rw [sl]; exact hm), getD_in]
          obtain ⟨x, hx⟩ : ∃ x, x = (Sha.sched b p).getD (p + 1) 0 := ⟨_, rfl⟩
          obtain ⟨y, hy⟩ : ∃ x, x = (Sha.sched b p).getD (p + 14) 0 := ⟨_, rfl⟩
          obtain ⟨u, hu⟩ : ∃ x, x = (Sha.sched b p).getD (p + 9) 0 := ⟨_, rfl⟩
          obtain ⟨v, hv⟩ : ∃ x, x = (Sha.sched b p).getD p 0 := ⟨_, rfl⟩
          have c1 := cells (p + 1) (by omega)
          have c2 := cells (p + 14) (by omega)
          have c3 := cells (p + 9) (by omega)
          have c4 := cells p (by omega)
          rw [← hx] at c1
          rw [← hy] at c2
          rw [← hu] at c3
          rw [← hv] at c4
          obtain ⟨v0, c5⟩ : ∃ u, wr.cell? ⟨g, p + 16, none⟩ = some u := ⟨_, (HI3.out.at_ _).trans (Array.getElem?_eq_getElem (by rw [z]; omega))⟩
          have f1 := HI3.out.open_ (p + 16)
          have lx : x < 4294967296 := by rw [hx]; exact sched_lt b HBL.out p _
          have ly : y < 4294967296 := by rw [hy]; exact sched_lt b HBL.out p _
          have lu : u < 4294967296 := by rw [hu]; exact sched_lt b HBL.out p _
          have lv : v < 4294967296 := by rw [hv]; exact sched_lt b HBL.out p _
          obtain ⟨d0, hd0⟩ : ∃ d, d = Sha.rotr x 7 ^^^ Sha.rotr x 18 := ⟨_, rfl⟩
          obtain ⟨d1, hd1⟩ : ∃ d, d = Sha.rotr y 17 ^^^ Sha.rotr y 19 := ⟨_, rfl⟩
          obtain ⟨S0, hS0⟩ : ∃ d, d = d0 ^^^ (x / 8) := ⟨_, rfl⟩
          obtain ⟨S1, hS1⟩ : ∃ d, d = d1 ^^^ (y / 1024) := ⟨_, rfl⟩
          have ld0 : d0 < 4294967296 := by rw [hd0]; exact xor_lt32 _ _ (rotr_lt x 7 lx) (rotr_lt x 18 lx)
          have ld1 : d1 < 4294967296 := by rw [hd1]; exact xor_lt32 _ _ (rotr_lt y 17 ly) (rotr_lt y 19 ly)
          have e1 := u32_xor_nat (Sha.rotr x 7) (Sha.rotr x 18) (rotr_lt x 7 lx) (rotr_lt x 18 lx)
          have e2 := u32_xor_nat d0 (x / 8) ld0 (by omega)
          have e3 := u32_xor_nat (Sha.rotr y 17) (Sha.rotr y 19) (rotr_lt y 17 ly) (rotr_lt y 19 ly)
          have e4 := u32_xor_nat d1 (y / 1024) ld1 (by omega)
          rw [← hd0] at e1
          rw [← hS0, show ((x / 8 : Nat) : Int) = (x : Int) / 8 by omega] at e2
          rw [← hd1] at e3
          rw [← hS1, show ((y / 1024 : Nat) : Int) = (y : Int) / 1024 by omega] at e4
          have hmore : Sha.more (Sha.sched b p) = (v + S0 + u + S1) % 4294967296 := by
            unfold Sha.more
            rw [sl, show 16 + p - 16 = p by omega, show 16 + p - 15 = p + 1 by omega, show 16 + p - 7 = p + 9 by omega, show 16 + p - 2 = p + 14 by omega, ← hx, ← hy, ← hu, ← hv]
            have a0 : Sha.s0 x = S0 := by unfold Sha.s0; rw [hS0, hd0, Nat.shiftRight_eq_div_pow]
            have a1 : Sha.s1 y = S1 := by unfold Sha.s1; rw [hS1, hd1, Nat.shiftRight_eq_div_pow]
            rw [a0, a1]; rfl
          have lS0 : S0 < 4294967296 := by rw [hS0]; exact xor_lt32 _ _ ld0 (by omega)
          have lS1 : S1 < 4294967296 := by rw [hS1]; exact xor_lt32 _ _ ld1 (by omega)
          have HM := Lib.hid hmore
          have HSL := Lib.hid sl
          clear z cells hx hy hu hv sl hd0 hd1 hS0 hS1 hmore
          go_wp2
          go_quiet (fail)
          go_wp2_with (go_at_call 34; refine (right_any _ _ _ (by assumption) (by decide) (by decide)).mono ?_; rintro e w1 ⟨rfl, rfl⟩)
          go_region
          go_wp2
          go_roundw
          case rel =>
            refine ⟨p + 1, by omega, by go_num, ?_, ?_, ?_⟩
            · have h2 := HI3.out.put (p + 16) (.int .u32 (Sha.more (Sha.sched b p) : Nat))
              have e1 := wdz_put (Sha.sched b p) 64 (Sha.more (Sha.sched b p)) (by rw [HSL.out]; omega)
              rw [HSL.out, show 16 + p = p + 16 by omega] at e1
              rw [e1] at h2
              rw [Sha.sched, show ((S1 : Int) + u + S0 + v) % 4294967296 = ((Sha.more (Sha.sched b p) : Nat) : Int) by rw [HM.out]; omega]
              exact h2
            · exact HI2.out.away (by show w.heap.size ≠ g; have := HG.out; omega) _
            · exact (below_drew HB.out _).setCell (p := ⟨g, p + 16, none⟩) (by show w.heap.size ≤ g; have := HG.out; omega) _
          case measure => simp [intOf]; omega
        · have j1 : decide ((p : Int) + 16 < 64) = false := by simp; omega
          have HP : Hid (p = 48) := Lib.hid (by omega)
          have hd : wdz (Sha.sched b p) 64 = wd (Sha.sched b p) := wdz_full _ _ (by rw [sched_len, HP.out])
          have HD : Hid (Is wr g 75 (wd (Sha.sched b p))) := Lib.hid (by rw [← hd]; exact HI3.out)
          have hz2 : (Tryd.prog.info? 75).map (·.size) = some (wd (Sha.sched b p)).size := by rw [wd_size, sched_len, HP.out]; exact HZ.out
          have HZ2 := Lib.hid hz2
          have hz3 : (wdz [] 64).size = (wd (Sha.sched b p)).size := by rw [wd_size, sched_len, HP.out]; exact wdz_size [] 64 (Nat.zero_le _)
          have HZ3 := Lib.hid hz3
          clear hd hz2 hz3
          go_wp2_with first
            | (refine wpList_load_row rfl 75 _ rfl g rfl 75 (wd (Sha.sched b p)) (0, 0) _ HD.out Tryd.underlying75 rfl HZ2.out ?_)
            | (refine wpList_store_row rfl 75 _ _ rfl w.heap.size (wd (Sha.sched b p)) rfl rfl 75 (wdz [] 64) HI2.out HZ2.out HZ3.out (wd_one _) ?_)
          refine bodyPost_ret (v := .agg (wd (Sha.sched b p))) (results_cell_row rfl _ _ w.heap.size 75 (wd (Sha.sched b p)) (0, 0) _ rfl (HI2.out.row _) Tryd.underlying75 rfl HZ2.out) rfl ⟨by rw [HP.out, HBE.out], below_row HB.out (Nat.le_refl _) _⟩
end Go.Proofs.YtmcdbjkmkbdeiaaDoor.S3
