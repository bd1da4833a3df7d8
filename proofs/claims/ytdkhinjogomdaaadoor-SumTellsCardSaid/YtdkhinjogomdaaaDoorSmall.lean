/-
  The law's function small.
-/
import Derived.Test.YtdkhinjogomdaaaDoorShaA
import Derived.Test.YtdkhinjogomdaaaDoorCrc
import Derived.Test.YtdkhinjogomdaaaDoorEq
import Derived.Lib.QuietBelow
import Derived.BigQuiet
namespace Go.Proofs.YtdkhinjogomdaaaDoor
open Go.RowKit Go.Sort
abbrev sLow : ByteArray := { data := #[98, 97, 55, 56, 49, 54, 98, 102, 56, 102, 48, 49, 99, 102, 101, 97, 52, 49, 52, 49, 52, 48, 100, 101, 53, 100, 97, 101, 50, 50, 50, 51, 98, 48, 48, 51, 54, 49, 97, 51, 57, 54, 49, 55, 55, 97, 57, 99, 98, 52, 49, 48, 102, 102, 54, 49, 102, 50, 48, 48, 49, 53, 97, 100] }
abbrev sUp : ByteArray := { data := #[66, 65, 55, 56, 49, 54, 66, 70, 56, 70, 48, 49, 67, 70, 69, 65, 52, 49, 52, 49, 52, 48, 68, 69, 53, 68, 65, 69, 50, 50, 50, 51, 66, 48, 48, 51, 54, 49, 65, 51, 57, 54, 49, 55, 55, 65, 57, 67, 66, 52, 49, 48, 70, 70, 54, 49, 70, 50, 48, 48, 49, 53, 65, 68] }
abbrev sHex : ByteArray := { data := #[101, 51, 98, 48, 99, 52, 52, 50, 57, 56, 102, 99, 49, 99, 49, 52, 57, 97, 102, 98, 102, 52, 99, 56, 57, 57, 54, 102, 98, 57, 50, 52, 50, 55, 97, 101, 52, 49, 101, 52, 54, 52, 57, 98, 57, 51, 52, 99, 97, 52, 57, 53, 57, 57, 49, 98, 55, 56, 53, 50, 98, 56, 53, 53] }
def dAbc : List UInt8 := [186, 120, 22, 191, 143, 1, 207, 234, 65, 65, 64, 222, 93, 174, 34, 35, 176, 3, 97, 163, 150, 23, 122, 156, 180, 16, 255, 97, 242, 0, 21, 173]
def dNil : List UInt8 := [227, 176, 196, 66, 152, 252, 28, 20, 154, 251, 244, 200, 153, 111, 185, 36, 39, 174, 65, 228, 100, 155, 147, 76, 164, 149, 153, 27, 120, 82, 184, 85]
theorem rd_low : rd (ls sLow) = .tuple #[.agg (dig dAbc), .bool true] := by
  have : readF (ls sLow) = some dAbc := by decide +kernel
  rw [rd, this]; rfl
theorem rd_up : rd (ls sUp) = .tuple #[.agg (dig zeros32), .bool false] := by
  have : readF (ls sUp) = none := by decide +kernel
  rw [rd, this]; rfl
theorem sha_abc : shaB (ls { data := #[97, 98, 99] }) = dAbc := by
  show (Sha.sha [97, 98, 99]).map UInt8.ofNat = _
  rw [Sha.sha_one _ (by decide +kernel), Sha.sha_abc]; rfl
theorem sha_nil : shaB (ls { data := #[] }) = dNil := by
  show (Sha.sha []).map UInt8.ofNat = _
  rw [Sha.sha_one _ (by decide +kernel), Sha.sha_empty]; rfl
theorem crc_nine : (Math.crc (ls { data := #[49, 50, 51, 52, 53, 54, 55, 56, 57] })).toNat = 3808858755 := by decide +kernel
theorem crc_none : (Math.crc (ls { data := #[] })).toNat = 0 := by decide +kernel
theorem hex_nil : mk (Hex.hexL dNil) = sHex := by decide +kernel
theorem less_1 : Op.bytesLess dAbc dNil = true := by decide +kernel
theorem less_2 : Op.bytesLess dNil dAbc = false := by decide +kernel
/-- A whole array out of an old block, in a region that draws its order beside calls that lay blocks. -/
theorem quiet_row {P : Program} {ops : Array Oper} {Q : Act → Prop} {a : Act} {o : Oper} {rest : List Oper} {w : World} (hw : Region.wanted o (yielded ops a.tmps) = true)
    (ty : TypeId) (x : Operand) (ho : o.op = .load ty x) (g : Nat) (hx : a.eval x = .pointer (some ⟨g, 0, none⟩)) (c : Array Value) (d : TypeDesc) (hg : Is w g ty c)
    (hu : P.underlying ty = some d) (hd : (match d with | .struct _ | .array _ _ => true | _ => false) = true) (hi : (P.info? ty).map (·.size) = some c.size)
    (h : wpQuiet P ops (fun w' => ∃ p : Regrown, w' = grow (redrawn w p.d) p.os) Q rest (a.put o.dst (.agg c))) : wpQuiet P ops (fun w' => ∃ p : Regrown, w' = grow (redrawn w p.d) p.os) Q (o :: rest) a := by
  refine wpQuiet_step (fun K hK => ?_)
  rw [if_pos hw]
  refine ⟨.agg c, fun w' hw' => ?_, hK _ h⟩
  obtain ⟨p, rfl⟩ := hw'
  have hI : Is (grow (redrawn w p.d) p.os) g ty c := hg.below (below_regrown w p.d p.os) hg.lt
  unfold Oper.quietAt execOp
  simp only [ho, hx, Instr.loadAt, Instr.sureAddr, Sem.run_bind, Sem.run_pure, Result.andThen_ok, run_loadVar_row _ g ty ty c (0, 0) d hI hu hd hi]
  exact ⟨rfl, rfl⟩
theorem laid_new (w : World) (t : TypeId) (c c' : Array Value) :
    Below w.heap.size w ((w.alloc (.cells c t)).setRow w.heap.size c') ∧ Is ((w.alloc (.cells c t)).setRow w.heap.size c') w.heap.size t c' ∧ ((w.alloc (.cells c t)).setRow w.heap.size c').heap.size = w.heap.size + 1 :=
  ⟨below_row ((Below.refl _ _).alloc (Nat.le_refl _) _) (Nat.le_refl _) _, (Is.fresh w t c).row _, (Array.size_modify ..).trans (Array.size_push _)⟩
set_option maxHeartbeats 4000000 in
set_option maxRecDepth 100000 in
theorem small_any (w : World) (hw : Tabs w) : Calls Tryd.prog 8 #[] w fun e w' => e = .returned (.bool true) ∧ Below w.heap.size w w' := by
  have HT := Lib.hid hw
  obtain ⟨D, hD⟩ : ∃ D, D = dAbc := ⟨_, rfl⟩
  obtain ⟨E, hE⟩ : ∃ E, E = dNil := ⟨_, rfl⟩
  have hz : (Tryd.prog.info? 23).map (·.size) = some 32 := by kernel_rfl
  have LD : Hid (D.length = 32) := Lib.hid (by rw [hD]; rfl)
  have LE : Hid (E.length = 32) := Lib.hid (by rw [hE]; rfl)
  have R1 : Hid (∀ W, Calls Tryd.prog 9 #[.string { data := #[98, 97, 55, 56, 49, 54, 98, 102, 56, 102, 48, 49, 99, 102, 101, 97, 52, 49, 52, 49, 52, 48, 100, 101, 53, 100, 97, 101, 50, 50, 50, 51, 98, 48, 48, 51, 54, 49, 97, 51, 57, 54, 49, 55, 55, 97, 57, 99, 98, 52, 49, 48, 102, 102, 54, 49, 102, 50, 48, 48, 49, 53, 97, 100] }] W fun e w' => e = .returned (.tuple #[.agg (dig D), .bool true]) ∧ Below W.heap.size W w') := Lib.hid fun W => by
    have := read_any sLow W
    rw [rd_low, ← hD] at this
    exact this
  have R2 : Hid (∀ W, Calls Tryd.prog 9 #[.string { data := #[66, 65, 55, 56, 49, 54, 66, 70, 56, 70, 48, 49, 67, 70, 69, 65, 52, 49, 52, 49, 52, 48, 68, 69, 53, 68, 65, 69, 50, 50, 50, 51, 66, 48, 48, 51, 54, 49, 65, 51, 57, 54, 49, 55, 55, 65, 57, 67, 66, 52, 49, 48, 70, 70, 54, 49, 70, 50, 48, 48, 49, 53, 65, 68] }] W fun e w' => e = .returned (.tuple #[.agg (dig zeros32), .bool false]) ∧ Below W.heap.size W w') := Lib.hid fun W => by
    have := read_any sUp W
    rw [rd_up] at this
    exact this
  have S2 : Hid (∀ W, Tabs W → Calls Tryd.prog 13 #[.string { data := #[] }] W fun e w' => e = .returned (.agg (dig E)) ∧ Below W.heap.size W w') := Lib.hid fun W hW => by
    have := sha_any { data := #[] } W hW (by decide)
    rw [sha_nil, ← hE] at this
    exact this
  have ZD : Hid ((Tryd.prog.info? 23).map (·.size) = some (dig D).size) := Lib.hid (by rw [dig_size, LD.out]; exact hz)
  have ZE : Hid ((Tryd.prog.info? 23).map (·.size) = some (dig E).size) := Lib.hid (by rw [dig_size, LE.out]; exact hz)
  have ZZ0 : Hid ((Tryd.prog.info? 23).map (·.size) = some (dig zeros32).size) := Lib.hid (by rw [dig_size]; exact hz)
  have OD : Hid ((#[Value.int IntKind.u8 0, Value.int IntKind.u8 0, Value.int IntKind.u8 0, Value.int IntKind.u8 0, Value.int IntKind.u8 0, Value.int IntKind.u8 0, Value.int IntKind.u8 0, Value.int IntKind.u8 0, Value.int IntKind.u8 0, Value.int IntKind.u8 0, Value.int IntKind.u8 0, Value.int IntKind.u8 0, Value.int IntKind.u8 0, Value.int IntKind.u8 0, Value.int IntKind.u8 0, Value.int IntKind.u8 0, Value.int IntKind.u8 0, Value.int IntKind.u8 0, Value.int IntKind.u8 0, Value.int IntKind.u8 0, Value.int IntKind.u8 0, Value.int IntKind.u8 0, Value.int IntKind.u8 0, Value.int IntKind.u8 0, Value.int IntKind.u8 0, Value.int IntKind.u8 0, Value.int IntKind.u8 0, Value.int IntKind.u8 0, Value.int IntKind.u8 0, Value.int IntKind.u8 0, Value.int IntKind.u8 0, Value.int IntKind.u8 0] : Array Value).size = (dig D).size) := Lib.hid (by rw [dig_size, LD.out]; rfl)
  have OE : Hid ((#[Value.int IntKind.u8 0, Value.int IntKind.u8 0, Value.int IntKind.u8 0, Value.int IntKind.u8 0, Value.int IntKind.u8 0, Value.int IntKind.u8 0, Value.int IntKind.u8 0, Value.int IntKind.u8 0, Value.int IntKind.u8 0, Value.int IntKind.u8 0, Value.int IntKind.u8 0, Value.int IntKind.u8 0, Value.int IntKind.u8 0, Value.int IntKind.u8 0, Value.int IntKind.u8 0, Value.int IntKind.u8 0, Value.int IntKind.u8 0, Value.int IntKind.u8 0, Value.int IntKind.u8 0, Value.int IntKind.u8 0, Value.int IntKind.u8 0, Value.int IntKind.u8 0, Value.int IntKind.u8 0, Value.int IntKind.u8 0, Value.int IntKind.u8 0, Value.int IntKind.u8 0, Value.int IntKind.u8 0, Value.int IntKind.u8 0, Value.int IntKind.u8 0, Value.int IntKind.u8 0, Value.int IntKind.u8 0, Value.int IntKind.u8 0] : Array Value).size = (dig E).size) := Lib.hid (by rw [dig_size, LE.out]; rfl)
  have OZ : Hid ((#[Value.int IntKind.u8 0, Value.int IntKind.u8 0, Value.int IntKind.u8 0, Value.int IntKind.u8 0, Value.int IntKind.u8 0, Value.int IntKind.u8 0, Value.int IntKind.u8 0, Value.int IntKind.u8 0, Value.int IntKind.u8 0, Value.int IntKind.u8 0, Value.int IntKind.u8 0, Value.int IntKind.u8 0, Value.int IntKind.u8 0, Value.int IntKind.u8 0, Value.int IntKind.u8 0, Value.int IntKind.u8 0, Value.int IntKind.u8 0, Value.int IntKind.u8 0, Value.int IntKind.u8 0, Value.int IntKind.u8 0, Value.int IntKind.u8 0, Value.int IntKind.u8 0, Value.int IntKind.u8 0, Value.int IntKind.u8 0, Value.int IntKind.u8 0, Value.int IntKind.u8 0, Value.int IntKind.u8 0, Value.int IntKind.u8 0, Value.int IntKind.u8 0, Value.int IntKind.u8 0, Value.int IntKind.u8 0, Value.int IntKind.u8 0] : Array Value).size = (dig zeros32).size) := Lib.hid (by rw [dig_size]; rfl)
  have HD := Lib.hid hD
  have HE := Lib.hid hE
  clear hw hz hD hE
  go_enter Tryd.func8, Tryd.ntmps8
  go_wp2_with first
    | (go_at_call 9; first | (have hq := B1.out; clear hq; refine (R2.out _).mono ?_; rintro e w2 ⟨rfl, hb2⟩; have B2 := Lib.hid hb2; clear hb2) | (refine (R1.out _).mono ?_; rintro e w1 ⟨rfl, hb1⟩; have B1 := Lib.hid hb1; clear hb1))
    | (go_at_call 13; refine (S2.out _ T2.out).mono ?_; rintro e w3 ⟨rfl, hb3⟩; have B3 := Lib.hid hb3; clear hb3)
    | (refine wpList_store_row rfl 23 _ _ rfl w3.heap.size (dig E) rfl rfl 23 #[Value.int IntKind.u8 0, Value.int IntKind.u8 0, Value.int IntKind.u8 0, Value.int IntKind.u8 0, Value.int IntKind.u8 0, Value.int IntKind.u8 0, Value.int IntKind.u8 0, Value.int IntKind.u8 0, Value.int IntKind.u8 0, Value.int IntKind.u8 0, Value.int IntKind.u8 0, Value.int IntKind.u8 0, Value.int IntKind.u8 0, Value.int IntKind.u8 0, Value.int IntKind.u8 0, Value.int IntKind.u8 0, Value.int IntKind.u8 0, Value.int IntKind.u8 0, Value.int IntKind.u8 0, Value.int IntKind.u8 0, Value.int IntKind.u8 0, Value.int IntKind.u8 0, Value.int IntKind.u8 0, Value.int IntKind.u8 0, Value.int IntKind.u8 0, Value.int IntKind.u8 0, Value.int IntKind.u8 0, Value.int IntKind.u8 0, Value.int IntKind.u8 0, Value.int IntKind.u8 0, Value.int IntKind.u8 0, Value.int IntKind.u8 0] (Is.fresh w3 23 _) ZE.out OE.out (dig_one _) ?_)
    | (refine wpList_store_row rfl 23 _ _ rfl w2.heap.size (dig zeros32) rfl rfl 23 #[Value.int IntKind.u8 0, Value.int IntKind.u8 0, Value.int IntKind.u8 0, Value.int IntKind.u8 0, Value.int IntKind.u8 0, Value.int IntKind.u8 0, Value.int IntKind.u8 0, Value.int IntKind.u8 0, Value.int IntKind.u8 0, Value.int IntKind.u8 0, Value.int IntKind.u8 0, Value.int IntKind.u8 0, Value.int IntKind.u8 0, Value.int IntKind.u8 0, Value.int IntKind.u8 0, Value.int IntKind.u8 0, Value.int IntKind.u8 0, Value.int IntKind.u8 0, Value.int IntKind.u8 0, Value.int IntKind.u8 0, Value.int IntKind.u8 0, Value.int IntKind.u8 0, Value.int IntKind.u8 0, Value.int IntKind.u8 0, Value.int IntKind.u8 0, Value.int IntKind.u8 0, Value.int IntKind.u8 0, Value.int IntKind.u8 0, Value.int IntKind.u8 0, Value.int IntKind.u8 0, Value.int IntKind.u8 0, Value.int IntKind.u8 0] (Is.fresh w2 23 _) ZZ0.out OZ.out (dig_one _) ?_; have T2 : Hid (Tabs ((w2.alloc (Obj.cells #[Value.int IntKind.u8 0, Value.int IntKind.u8 0, Value.int IntKind.u8 0, Value.int IntKind.u8 0, Value.int IntKind.u8 0, Value.int IntKind.u8 0, Value.int IntKind.u8 0, Value.int IntKind.u8 0, Value.int IntKind.u8 0, Value.int IntKind.u8 0, Value.int IntKind.u8 0, Value.int IntKind.u8 0, Value.int IntKind.u8 0, Value.int IntKind.u8 0, Value.int IntKind.u8 0, Value.int IntKind.u8 0, Value.int IntKind.u8 0, Value.int IntKind.u8 0, Value.int IntKind.u8 0, Value.int IntKind.u8 0, Value.int IntKind.u8 0, Value.int IntKind.u8 0, Value.int IntKind.u8 0, Value.int IntKind.u8 0, Value.int IntKind.u8 0, Value.int IntKind.u8 0, Value.int IntKind.u8 0, Value.int IntKind.u8 0, Value.int IntKind.u8 0, Value.int IntKind.u8 0, Value.int IntKind.u8 0, Value.int IntKind.u8 0] 23)).setRow w2.heap.size (dig zeros32))) := Lib.hid (HT.out.below ((B1.out.trans ((laid_new w1 23 #[Value.int IntKind.u8 0, Value.int IntKind.u8 0, Value.int IntKind.u8 0, Value.int IntKind.u8 0, Value.int IntKind.u8 0, Value.int IntKind.u8 0, Value.int IntKind.u8 0, Value.int IntKind.u8 0, Value.int IntKind.u8 0, Value.int IntKind.u8 0, Value.int IntKind.u8 0, Value.int IntKind.u8 0, Value.int IntKind.u8 0, Value.int IntKind.u8 0, Value.int IntKind.u8 0, Value.int IntKind.u8 0, Value.int IntKind.u8 0, Value.int IntKind.u8 0, Value.int IntKind.u8 0, Value.int IntKind.u8 0, Value.int IntKind.u8 0, Value.int IntKind.u8 0, Value.int IntKind.u8 0, Value.int IntKind.u8 0, Value.int IntKind.u8 0, Value.int IntKind.u8 0, Value.int IntKind.u8 0, Value.int IntKind.u8 0, Value.int IntKind.u8 0, Value.int IntKind.u8 0, Value.int IntKind.u8 0, Value.int IntKind.u8 0] (dig D)).1.mono B1.out.size)).trans ((B2.out.trans ((laid_new w2 23 #[Value.int IntKind.u8 0, Value.int IntKind.u8 0, Value.int IntKind.u8 0, Value.int IntKind.u8 0, Value.int IntKind.u8 0, Value.int IntKind.u8 0, Value.int IntKind.u8 0, Value.int IntKind.u8 0, Value.int IntKind.u8 0, Value.int IntKind.u8 0, Value.int IntKind.u8 0, Value.int IntKind.u8 0, Value.int IntKind.u8 0, Value.int IntKind.u8 0, Value.int IntKind.u8 0, Value.int IntKind.u8 0, Value.int IntKind.u8 0, Value.int IntKind.u8 0, Value.int IntKind.u8 0, Value.int IntKind.u8 0, Value.int IntKind.u8 0, Value.int IntKind.u8 0, Value.int IntKind.u8 0, Value.int IntKind.u8 0, Value.int IntKind.u8 0, Value.int IntKind.u8 0, Value.int IntKind.u8 0, Value.int IntKind.u8 0, Value.int IntKind.u8 0, Value.int IntKind.u8 0, Value.int IntKind.u8 0, Value.int IntKind.u8 0] (dig zeros32)).1.mono B2.out.size)).mono (by rw [(laid_new w1 23 #[Value.int IntKind.u8 0, Value.int IntKind.u8 0, Value.int IntKind.u8 0, Value.int IntKind.u8 0, Value.int IntKind.u8 0, Value.int IntKind.u8 0, Value.int IntKind.u8 0, Value.int IntKind.u8 0, Value.int IntKind.u8 0, Value.int IntKind.u8 0, Value.int IntKind.u8 0, Value.int IntKind.u8 0, Value.int IntKind.u8 0, Value.int IntKind.u8 0, Value.int IntKind.u8 0, Value.int IntKind.u8 0, Value.int IntKind.u8 0, Value.int IntKind.u8 0, Value.int IntKind.u8 0, Value.int IntKind.u8 0, Value.int IntKind.u8 0, Value.int IntKind.u8 0, Value.int IntKind.u8 0, Value.int IntKind.u8 0, Value.int IntKind.u8 0, Value.int IntKind.u8 0, Value.int IntKind.u8 0, Value.int IntKind.u8 0, Value.int IntKind.u8 0, Value.int IntKind.u8 0, Value.int IntKind.u8 0, Value.int IntKind.u8 0] (dig D)).2.2]; have := B1.out.size; omega))) HT.out.1))
    | (refine wpList_store_row rfl 23 _ _ rfl w1.heap.size (dig D) rfl rfl 23 #[Value.int IntKind.u8 0, Value.int IntKind.u8 0, Value.int IntKind.u8 0, Value.int IntKind.u8 0, Value.int IntKind.u8 0, Value.int IntKind.u8 0, Value.int IntKind.u8 0, Value.int IntKind.u8 0, Value.int IntKind.u8 0, Value.int IntKind.u8 0, Value.int IntKind.u8 0, Value.int IntKind.u8 0, Value.int IntKind.u8 0, Value.int IntKind.u8 0, Value.int IntKind.u8 0, Value.int IntKind.u8 0, Value.int IntKind.u8 0, Value.int IntKind.u8 0, Value.int IntKind.u8 0, Value.int IntKind.u8 0, Value.int IntKind.u8 0, Value.int IntKind.u8 0, Value.int IntKind.u8 0, Value.int IntKind.u8 0, Value.int IntKind.u8 0, Value.int IntKind.u8 0, Value.int IntKind.u8 0, Value.int IntKind.u8 0, Value.int IntKind.u8 0, Value.int IntKind.u8 0, Value.int IntKind.u8 0, Value.int IntKind.u8 0] (Is.fresh w1 23 _) ZD.out OD.out (dig_one _) ?_)
  have L1 := laid_new w1 23 #[Value.int IntKind.u8 0, Value.int IntKind.u8 0, Value.int IntKind.u8 0, Value.int IntKind.u8 0, Value.int IntKind.u8 0, Value.int IntKind.u8 0, Value.int IntKind.u8 0, Value.int IntKind.u8 0, Value.int IntKind.u8 0, Value.int IntKind.u8 0, Value.int IntKind.u8 0, Value.int IntKind.u8 0, Value.int IntKind.u8 0, Value.int IntKind.u8 0, Value.int IntKind.u8 0, Value.int IntKind.u8 0, Value.int IntKind.u8 0, Value.int IntKind.u8 0, Value.int IntKind.u8 0, Value.int IntKind.u8 0, Value.int IntKind.u8 0, Value.int IntKind.u8 0, Value.int IntKind.u8 0, Value.int IntKind.u8 0, Value.int IntKind.u8 0, Value.int IntKind.u8 0, Value.int IntKind.u8 0, Value.int IntKind.u8 0, Value.int IntKind.u8 0, Value.int IntKind.u8 0, Value.int IntKind.u8 0, Value.int IntKind.u8 0] (dig D)
  have L2 := laid_new w2 23 #[Value.int IntKind.u8 0, Value.int IntKind.u8 0, Value.int IntKind.u8 0, Value.int IntKind.u8 0, Value.int IntKind.u8 0, Value.int IntKind.u8 0, Value.int IntKind.u8 0, Value.int IntKind.u8 0, Value.int IntKind.u8 0, Value.int IntKind.u8 0, Value.int IntKind.u8 0, Value.int IntKind.u8 0, Value.int IntKind.u8 0, Value.int IntKind.u8 0, Value.int IntKind.u8 0, Value.int IntKind.u8 0, Value.int IntKind.u8 0, Value.int IntKind.u8 0, Value.int IntKind.u8 0, Value.int IntKind.u8 0, Value.int IntKind.u8 0, Value.int IntKind.u8 0, Value.int IntKind.u8 0, Value.int IntKind.u8 0, Value.int IntKind.u8 0, Value.int IntKind.u8 0, Value.int IntKind.u8 0, Value.int IntKind.u8 0, Value.int IntKind.u8 0, Value.int IntKind.u8 0, Value.int IntKind.u8 0, Value.int IntKind.u8 0] (dig zeros32)
  have L3 := laid_new w3 23 #[Value.int IntKind.u8 0, Value.int IntKind.u8 0, Value.int IntKind.u8 0, Value.int IntKind.u8 0, Value.int IntKind.u8 0, Value.int IntKind.u8 0, Value.int IntKind.u8 0, Value.int IntKind.u8 0, Value.int IntKind.u8 0, Value.int IntKind.u8 0, Value.int IntKind.u8 0, Value.int IntKind.u8 0, Value.int IntKind.u8 0, Value.int IntKind.u8 0, Value.int IntKind.u8 0, Value.int IntKind.u8 0, Value.int IntKind.u8 0, Value.int IntKind.u8 0, Value.int IntKind.u8 0, Value.int IntKind.u8 0, Value.int IntKind.u8 0, Value.int IntKind.u8 0, Value.int IntKind.u8 0, Value.int IntKind.u8 0, Value.int IntKind.u8 0, Value.int IntKind.u8 0, Value.int IntKind.u8 0, Value.int IntKind.u8 0, Value.int IntKind.u8 0, Value.int IntKind.u8 0, Value.int IntKind.u8 0, Value.int IntKind.u8 0] (dig E)
  have b1 := B1.out
  have b2 := B2.out
  have b3 := B3.out
  rw [L1.2.2] at b2
  rw [L2.2.2] at b3
  have z1 := b1.size
  have z2 := b2.size
  have z3 := b3.size
  rw [L1.2.2] at z2
  rw [L2.2.2] at z3
  have q1 : Below (w1.heap.size + 1) ((w1.alloc (Obj.cells #[Value.int IntKind.u8 0, Value.int IntKind.u8 0, Value.int IntKind.u8 0, Value.int IntKind.u8 0, Value.int IntKind.u8 0, Value.int IntKind.u8 0, Value.int IntKind.u8 0, Value.int IntKind.u8 0, Value.int IntKind.u8 0, Value.int IntKind.u8 0, Value.int IntKind.u8 0, Value.int IntKind.u8 0, Value.int IntKind.u8 0, Value.int IntKind.u8 0, Value.int IntKind.u8 0, Value.int IntKind.u8 0, Value.int IntKind.u8 0, Value.int IntKind.u8 0, Value.int IntKind.u8 0, Value.int IntKind.u8 0, Value.int IntKind.u8 0, Value.int IntKind.u8 0, Value.int IntKind.u8 0, Value.int IntKind.u8 0, Value.int IntKind.u8 0, Value.int IntKind.u8 0, Value.int IntKind.u8 0, Value.int IntKind.u8 0, Value.int IntKind.u8 0, Value.int IntKind.u8 0, Value.int IntKind.u8 0, Value.int IntKind.u8 0] 23)).setRow w1.heap.size (dig D)) ((w3.alloc (Obj.cells #[Value.int IntKind.u8 0, Value.int IntKind.u8 0, Value.int IntKind.u8 0, Value.int IntKind.u8 0, Value.int IntKind.u8 0, Value.int IntKind.u8 0, Value.int IntKind.u8 0, Value.int IntKind.u8 0, Value.int IntKind.u8 0, Value.int IntKind.u8 0, Value.int IntKind.u8 0, Value.int IntKind.u8 0, Value.int IntKind.u8 0, Value.int IntKind.u8 0, Value.int IntKind.u8 0, Value.int IntKind.u8 0, Value.int IntKind.u8 0, Value.int IntKind.u8 0, Value.int IntKind.u8 0, Value.int IntKind.u8 0, Value.int IntKind.u8 0, Value.int IntKind.u8 0, Value.int IntKind.u8 0, Value.int IntKind.u8 0, Value.int IntKind.u8 0, Value.int IntKind.u8 0, Value.int IntKind.u8 0, Value.int IntKind.u8 0, Value.int IntKind.u8 0, Value.int IntKind.u8 0, Value.int IntKind.u8 0, Value.int IntKind.u8 0] 23)).setRow w3.heap.size (dig E)) :=
    (b2.trans (L2.1.mono (by omega))).trans ((b3.mono (by omega)).trans (L3.1.mono (by omega)))
  have hI1 : Is ((w3.alloc (Obj.cells #[Value.int IntKind.u8 0, Value.int IntKind.u8 0, Value.int IntKind.u8 0, Value.int IntKind.u8 0, Value.int IntKind.u8 0, Value.int IntKind.u8 0, Value.int IntKind.u8 0, Value.int IntKind.u8 0, Value.int IntKind.u8 0, Value.int IntKind.u8 0, Value.int IntKind.u8 0, Value.int IntKind.u8 0, Value.int IntKind.u8 0, Value.int IntKind.u8 0, Value.int IntKind.u8 0, Value.int IntKind.u8 0, Value.int IntKind.u8 0, Value.int IntKind.u8 0, Value.int IntKind.u8 0, Value.int IntKind.u8 0, Value.int IntKind.u8 0, Value.int IntKind.u8 0, Value.int IntKind.u8 0, Value.int IntKind.u8 0, Value.int IntKind.u8 0, Value.int IntKind.u8 0, Value.int IntKind.u8 0, Value.int IntKind.u8 0, Value.int IntKind.u8 0, Value.int IntKind.u8 0, Value.int IntKind.u8 0, Value.int IntKind.u8 0] 23)).setRow w3.heap.size (dig E)) w1.heap.size 23 (dig D) := L1.2.1.below q1 (by omega)
  have hI5 := L3.2.1
  have hBV : Below w.heap.size w ((w3.alloc (Obj.cells #[Value.int IntKind.u8 0, Value.int IntKind.u8 0, Value.int IntKind.u8 0, Value.int IntKind.u8 0, Value.int IntKind.u8 0, Value.int IntKind.u8 0, Value.int IntKind.u8 0, Value.int IntKind.u8 0, Value.int IntKind.u8 0, Value.int IntKind.u8 0, Value.int IntKind.u8 0, Value.int IntKind.u8 0, Value.int IntKind.u8 0, Value.int IntKind.u8 0, Value.int IntKind.u8 0, Value.int IntKind.u8 0, Value.int IntKind.u8 0, Value.int IntKind.u8 0, Value.int IntKind.u8 0, Value.int IntKind.u8 0, Value.int IntKind.u8 0, Value.int IntKind.u8 0, Value.int IntKind.u8 0, Value.int IntKind.u8 0, Value.int IntKind.u8 0, Value.int IntKind.u8 0, Value.int IntKind.u8 0, Value.int IntKind.u8 0, Value.int IntKind.u8 0, Value.int IntKind.u8 0, Value.int IntKind.u8 0, Value.int IntKind.u8 0] 23)).setRow w3.heap.size (dig E)) := (b1.trans (L1.1.mono (by omega))).trans (q1.mono (by omega))
  obtain ⟨V, hV⟩ : ∃ V, V = (w3.alloc (Obj.cells #[Value.int IntKind.u8 0, Value.int IntKind.u8 0, Value.int IntKind.u8 0, Value.int IntKind.u8 0, Value.int IntKind.u8 0, Value.int IntKind.u8 0, Value.int IntKind.u8 0, Value.int IntKind.u8 0, Value.int IntKind.u8 0, Value.int IntKind.u8 0, Value.int IntKind.u8 0, Value.int IntKind.u8 0, Value.int IntKind.u8 0, Value.int IntKind.u8 0, Value.int IntKind.u8 0, Value.int IntKind.u8 0, Value.int IntKind.u8 0, Value.int IntKind.u8 0, Value.int IntKind.u8 0, Value.int IntKind.u8 0, Value.int IntKind.u8 0, Value.int IntKind.u8 0, Value.int IntKind.u8 0, Value.int IntKind.u8 0, Value.int IntKind.u8 0, Value.int IntKind.u8 0, Value.int IntKind.u8 0, Value.int IntKind.u8 0, Value.int IntKind.u8 0, Value.int IntKind.u8 0, Value.int IntKind.u8 0, Value.int IntKind.u8 0] 23)).setRow w3.heap.size (dig E) := ⟨_, rfl⟩
  rw [← hV] at hI1 hI5 hBV ⊢
  obtain ⟨g1, hg1⟩ : ∃ g, g = w1.heap.size := ⟨_, rfl⟩
  obtain ⟨g3, hg3⟩ : ∃ g, g = w2.heap.size := ⟨_, rfl⟩
  obtain ⟨g5, hg5⟩ : ∃ g, g = w3.heap.size := ⟨_, rfl⟩
  rw [← hg1] at hI1 ⊢
  rw [← hg5] at hI5 ⊢
  rw [← hg3]
  have I1 := Lib.hid hI1
  have I5 := Lib.hid hI5
  have HB := Lib.hid hBV
  have HTV : Hid (∀ d os, Tabs (grow (redrawn V d) os)) := Lib.hid fun d os => (HT.out.below hBV HT.out.1).below ((below_regrown V d os).mono (by have := (HT.out.below hBV HT.out.1).1; exact this)) (Nat.le_refl 2)
  have hD := HD.out
  have hE := HE.out
  have cCrc9 : Hid (∀ d os, Calls Tryd.prog 11 #[.string { data := #[49, 50, 51, 52, 53, 54, 55, 56, 57] }] (grow (redrawn V d) os) fun e w'' => e = .returned (.int .u32 3808858755) ∧ ∃ p : Regrown, w'' = grow (redrawn V p.d) p.os) :=
    Lib.hid fun d os => Calls.regrown_of ((crc_any _ _ (HTV.out d os) (by decide)).mono fun e w' ⟨h1, h2⟩ => ⟨by rw [h1, crc_nine]; rfl, by rw [← h2]; exact Below.refl _ _⟩)
  have cCrc0 : Hid (∀ d os, Calls Tryd.prog 11 #[.string { data := #[] }] (grow (redrawn V d) os) fun e w'' => e = .returned (.int .u32 0) ∧ ∃ p : Regrown, w'' = grow (redrawn V p.d) p.os) :=
    Lib.hid fun d os => Calls.regrown_of ((crc_any _ _ (HTV.out d os) (by decide)).mono fun e w' ⟨h1, h2⟩ => ⟨by rw [h1, crc_none]; rfl, by rw [← h2]; exact Below.refl _ _⟩)
  have cSha : Hid (∀ d os, Calls Tryd.prog 13 #[.string { data := #[97, 98, 99] }] (grow (redrawn V d) os) fun e w'' => e = .returned (.agg (dig D)) ∧ ∃ p : Regrown, w'' = grow (redrawn V p.d) p.os) :=
    Lib.hid fun d os => Calls.regrown_of ((sha_any { data := #[97, 98, 99] } _ (HTV.out d os) (by decide)).mono fun e w' ⟨h1, h2⟩ => ⟨by rw [h1, sha_abc, hD], h2⟩)
  have cHex : Hid (∀ d os, Calls Tryd.prog 15 #[.agg (dig E)] (grow (redrawn V d) os) fun e w'' => e = .returned (.string { data := #[101, 51, 98, 48, 99, 52, 52, 50, 57, 56, 102, 99, 49, 99, 49, 52, 57, 97, 102, 98, 102, 52, 99, 56, 57, 57, 54, 102, 98, 57, 50, 52, 50, 55, 97, 101, 52, 49, 101, 52, 54, 52, 57, 98, 57, 51, 52, 99, 97, 52, 57, 53, 57, 57, 49, 98, 55, 56, 53, 50, 98, 56, 53, 53] }) ∧ ∃ p : Regrown, w'' = grow (redrawn V p.d) p.os) :=
    Lib.hid fun d os => Calls.regrown_of ((hex_any E _ LE.out).mono fun e w' ⟨h1, h2⟩ => ⟨by rw [h1, hE, hex_nil], h2⟩)
  have cL1 : Hid (∀ d os, Calls Tryd.prog 17 #[.agg (dig D), .agg (dig E)] (grow (redrawn V d) os) fun e w'' => e = .returned (.bool true) ∧ ∃ p : Regrown, w'' = grow (redrawn V p.d) p.os) :=
    Lib.hid fun d os => Calls.regrown_of ((less_any D E _ LD.out LE.out).mono fun e w' ⟨h1, h2⟩ => ⟨by rw [h1, hD, hE, less_1], h2⟩)
  have cL2 : Hid (∀ d os, Calls Tryd.prog 17 #[.agg (dig E), .agg (dig D)] (grow (redrawn V d) os) fun e w'' => e = .returned (.bool false) ∧ ∃ p : Regrown, w'' = grow (redrawn V p.d) p.os) :=
    Lib.hid fun d os => Calls.regrown_of ((less_any E D _ LE.out LD.out).mono fun e w' ⟨h1, h2⟩ => ⟨by rw [h1, hD, hE, less_2], h2⟩)
  have cL3 : Hid (∀ d os, Calls Tryd.prog 17 #[.agg (dig D), .agg (dig D)] (grow (redrawn V d) os) fun e w'' => e = .returned (.bool false) ∧ ∃ p : Regrown, w'' = grow (redrawn V p.d) p.os) :=
    Lib.hid fun d os => Calls.regrown_of ((less_any D D _ LD.out LD.out).mono fun e w' ⟨h1, h2⟩ => ⟨by rw [h1, Hex.less_irrefl], h2⟩)
  have EQ : ∀ w, (Op.equalIn 10000 23 (.agg (dig D)) (.agg (dig D))).run Tryd.prog w = .ok true w := fun w => by rw [eq_dig D D LD.out LD.out w]; simp
  clear hI1 hI5 hBV hD hE hg1 hg3 hg5 hV q1 z1 z2 z3 b1 b2 b3 L1 L2 L3 B1 B2 B3 T2 R1 R2 S2 OD OE OZ HT
  clear w1 w2 w3
  dsimp only [Act.put]
  refine wp_region_quiet_below (by kernel_rfl) (by kernel_rfl) ?_
  quiet_step (exact cCrc9.out _ _)
  repeat (first | (refine quiet_row rfl 23 _ rfl g1 rfl (dig D) _ I1.out Tryd.underlying23 rfl ZD.out ?_) | (refine quiet_row rfl 23 _ rfl g5 rfl (dig E) _ I5.out Tryd.underlying23 rfl ZE.out ?_) | quiet_step (fail))
  quiet_step (exact cCrc0.out _ _)
  repeat (first | (refine quiet_row rfl 23 _ rfl g1 rfl (dig D) _ I1.out Tryd.underlying23 rfl ZD.out ?_) | (refine quiet_row rfl 23 _ rfl g5 rfl (dig E) _ I5.out Tryd.underlying23 rfl ZE.out ?_) | quiet_step (fail))
  quiet_step (exact cSha.out _ _)
  repeat (first | (refine quiet_row rfl 23 _ rfl g1 rfl (dig D) _ I1.out Tryd.underlying23 rfl ZD.out ?_) | (refine quiet_row rfl 23 _ rfl g5 rfl (dig E) _ I5.out Tryd.underlying23 rfl ZE.out ?_) | quiet_step (fail))
  quiet_step (exact cHex.out _ _)
  repeat (first | (refine quiet_row rfl 23 _ rfl g1 rfl (dig D) _ I1.out Tryd.underlying23 rfl ZD.out ?_) | (refine quiet_row rfl 23 _ rfl g5 rfl (dig E) _ I5.out Tryd.underlying23 rfl ZE.out ?_) | quiet_step (fail))
  quiet_step (exact cL1.out _ _)
  repeat (first | (refine quiet_row rfl 23 _ rfl g1 rfl (dig D) _ I1.out Tryd.underlying23 rfl ZD.out ?_) | (refine quiet_row rfl 23 _ rfl g5 rfl (dig E) _ I5.out Tryd.underlying23 rfl ZE.out ?_) | quiet_step (fail))
  quiet_step (exact cL2.out _ _)
  repeat (first | (refine quiet_row rfl 23 _ rfl g1 rfl (dig D) _ I1.out Tryd.underlying23 rfl ZD.out ?_) | (refine quiet_row rfl 23 _ rfl g5 rfl (dig E) _ I5.out Tryd.underlying23 rfl ZE.out ?_) | quiet_step (fail))
  quiet_step (exact cL3.out _ _)
  repeat (first | (refine quiet_row rfl 23 _ rfl g1 rfl (dig D) _ I1.out Tryd.underlying23 rfl ZD.out ?_) | (refine quiet_row rfl 23 _ rfl g5 rfl (dig E) _ I5.out Tryd.underlying23 rfl ZE.out ?_) | quiet_step (fail))
  refine wpQuiet_nil ?_
  intro _ hw'
  obtain ⟨⟨dq, osq⟩, hw''⟩ := hw'
  subst hw''
  go_wp2
  go_ret
  exact ⟨rfl, HB.out.trans ((below_regrown V dq osq).mono HB.out.size)⟩
end Go.Proofs.YtdkhinjogomdaaaDoor
