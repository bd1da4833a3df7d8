/-
  SumTells: what the law's function does at whatever input.
-/
import Derived.Test.YtdkhinjogomdaaaDoorOrdH
import Derived.Test.YtdkhinjogomdaaaDoorRefS
import Derived.Test.YtdkhinjogomdaaaDoorReadR
import Derived.Test.YtdkhinjogomdaaaDoorHexR
import Derived.Test.YtdkhinjogomdaaaDoorRCrc
namespace Go.Proofs.YtdkhinjogomdaaaDoor
open Go.RowKit Go.Sort
theorem read_len (l : List UInt8) : ((readF l).getD zeros32).length = 32 := by
  cases h : readF l with
  | none => rfl
  | some e => exact (readF_some l e h).2
theorem outB_sha (l : List UInt8) : (shaB l).length = 32 := by unfold shaB Sha.sha; rw [← outB_out, outB_len]
set_option maxRecDepth 100000 in
theorem tells_long (s t : ByteArray) (a b : List UInt8) (w : World) (hw : Tabs w) (hs : 100000 < s.size) :
    Calls Tryd.prog 3 #[.string s, .string t, .agg (dig a), .agg (dig b)] w fun e w' => e = .returned (.bool true) ∧ Below w.heap.size w w' := by
  have hs1 : (w.alloc (Obj.cells (dig a) 23)).heap.size = w.heap.size + 1 := Array.size_push _
  have hB : Below w.heap.size w ((w.alloc (Obj.cells (dig a) 23)).alloc (Obj.cells (dig b) 23)) := ((Below.refl _ _).alloc (Nat.le_refl _) _).alloc (by omega) _
  have C := small_hid _ (hw.below hB hw.1)
  have HB := Lib.hid hB
  have d1 : decide ((100000 : Int) < (s.size : Int)) = true := by simp; omega
  clear hw hB hs1
  go_enter Tryd.func3, Tryd.ntmps3
  go_wp2_with (go_at_call 8; refine C.out.mono ?_; rintro e w1 ⟨rfl, hb⟩; have B1 := Lib.hid hb; clear hb)
  go_ret
  exact ⟨rfl, HB.out.trans (B1.out.mono HB.out.size)⟩
set_option maxHeartbeats 8000000 in
set_option maxRecDepth 100000 in
theorem tells_main (s t : ByteArray) (a b : List UInt8) (w : World) (hw : Tabs w) (ha : a.length = 32) (hb : b.length = 32) (hs : s.size ≤ 100000) :
    Calls Tryd.prog 3 #[.string s, .string t, .agg (dig a), .agg (dig b)] w fun e w' => e = .returned (.bool true) ∧ Below w.heap.size w w' := by
  have hz : (Tryd.prog.info? 23).map (·.size) = some 32 := by kernel_rfl
  obtain ⟨e, he⟩ : ∃ e, e = (readF (ls t)).getD zeros32 := ⟨_, rfl⟩
  obtain ⟨bo, hbo⟩ : ∃ b, b = (readF (ls t)).isSome := ⟨_, rfl⟩
  have hel : e.length = 32 := by rw [he]; exact read_len _
  have hrd : rd (ls t) = .tuple #[.agg (dig e), .bool bo] := by rw [rd, he, hbo]
  have R1 : Hid (∀ W, Calls Tryd.prog 9 #[.string t] W fun e' w' => e' = .returned (.tuple #[.agg (dig e), .bool bo]) ∧ Below W.heap.size W w') := Lib.hid fun W => by rw [← hrd]; exact read_any t W
  have R2 : Hid (∀ W, Calls Tryd.prog 10 #[.string t] W fun e' w' => e' = .returned (.tuple #[.agg (dig e), .bool bo]) ∧ Below W.heap.size W w') := Lib.hid fun W => by rw [← hrd]; exact rread_any t W
  have LA := Lib.hid ha
  have LB := Lib.hid hb
  have LE := Lib.hid hel
  have ZA : Hid ((Tryd.prog.info? 23).map (·.size) = some (dig a).size) := Lib.hid (by rw [dig_size, ha]; exact hz)
  have ZB : Hid ((Tryd.prog.info? 23).map (·.size) = some (dig b).size) := Lib.hid (by rw [dig_size, hb]; exact hz)
  have ZE : Hid ((Tryd.prog.info? 23).map (·.size) = some (dig e).size) := Lib.hid (by rw [dig_size, hel]; exact hz)
  have OE : Hid ((#[Value.int IntKind.u8 0, Value.int IntKind.u8 0, Value.int IntKind.u8 0, Value.int IntKind.u8 0, Value.int IntKind.u8 0, Value.int IntKind.u8 0, Value.int IntKind.u8 0, Value.int IntKind.u8 0, Value.int IntKind.u8 0, Value.int IntKind.u8 0, Value.int IntKind.u8 0, Value.int IntKind.u8 0, Value.int IntKind.u8 0, Value.int IntKind.u8 0, Value.int IntKind.u8 0, Value.int IntKind.u8 0, Value.int IntKind.u8 0, Value.int IntKind.u8 0, Value.int IntKind.u8 0, Value.int IntKind.u8 0, Value.int IntKind.u8 0, Value.int IntKind.u8 0, Value.int IntKind.u8 0, Value.int IntKind.u8 0, Value.int IntKind.u8 0, Value.int IntKind.u8 0, Value.int IntKind.u8 0, Value.int IntKind.u8 0, Value.int IntKind.u8 0, Value.int IntKind.u8 0, Value.int IntKind.u8 0, Value.int IntKind.u8 0] : Array Value).size = (dig e).size) := Lib.hid (by rw [dig_size, hel]; rfl)
  obtain ⟨sa, hsa⟩ : ∃ s, s = mk (Hex.hexL a) := ⟨_, rfl⟩
  obtain ⟨q, hq⟩ : ∃ q, q = Op.bytesLess a b := ⟨_, rfl⟩
  obtain ⟨P, hP⟩ : ∃ P, P = (Math.crc (ls s)).toNat := ⟨_, rfl⟩
  obtain ⟨H, hH⟩ : ∃ H, H = shaB (ls s) := ⟨_, rfl⟩
  have hHl : H.length = 32 := by rw [hH]; exact outB_sha _
  have EQH : ∀ w, (Op.equalIn 10000 23 (.agg (dig H)) (.agg (dig H))).run Tryd.prog w = .ok true w := fun w => by rw [eq_dig H H hHl hHl w]; simp
  have EQE : ∀ w, (Op.equalIn 10000 23 (.agg (dig e)) (.agg (dig e))).run Tryd.prog w = .ok true w := fun w => by rw [eq_dig e e hel hel w]; simp
  have HSA := Lib.hid hsa
  have HQ := Lib.hid hq
  have HP := Lib.hid hP
  have HH := Lib.hid hH
  have HS := Lib.hid hs
  have d1 : decide ((100000 : Int) < (s.size : Int)) = false := by simp; omega
  have hk1 : (w.alloc (Obj.cells (dig a) 23)).heap.size = w.heap.size + 1 := Array.size_push _
  have hI6 : Is ((w.alloc (Obj.cells (dig a) 23)).alloc (Obj.cells (dig b) 23)) w.heap.size 23 (dig a) := (Is.fresh w 23 _).alloc _
  have hI7 : Is ((w.alloc (Obj.cells (dig a) 23)).alloc (Obj.cells (dig b) 23)) (w.heap.size + 1) 23 (dig b) := by
    have := Is.fresh (w.alloc (Obj.cells (dig a) 23)) 23 (dig b)
    rwa [hk1] at this
  have hBV : Below w.heap.size w ((w.alloc (Obj.cells (dig a) 23)).alloc (Obj.cells (dig b) 23)) := ((Below.refl _ _).alloc (Nat.le_refl _) _).alloc (by omega) _
  have C := small_hid _ (hw.below hBV hw.1)
  obtain ⟨U, hU⟩ : ∃ U, U = (w.alloc (Obj.cells (dig a) 23)).alloc (Obj.cells (dig b) 23) := ⟨_, rfl⟩
  have hU2 := hU.symm
  rw [← hU] at hI6 hI7 hBV C
  have I6 := Lib.hid hI6
  have I7 := Lib.hid hI7
  have BV := Lib.hid hBV
  have HT := Lib.hid hw
  clear hw ha hb hs hz he hbo hel hrd hsa hq hP hH hHl hk1 hI6 hI7 hBV hU
  go_enter Tryd.func3, Tryd.ntmps3
  go_wp2_with first
    | (go_at_call 8; refine C.out.mono ?_; rintro e' w1 ⟨rfl, hb⟩; have B1 := Lib.hid hb; clear hb)
    | (go_at_call 9; refine (R1.out _).mono ?_; rintro e' w2 ⟨rfl, hb⟩; have B2 := Lib.hid hb; clear hb)
    | (go_at_call 10; refine (R2.out _).mono ?_; rintro e' w3 ⟨rfl, hb⟩; have B3 := Lib.hid hb; clear hb)
    | (refine wpList_store_row rfl 23 _ _ rfl w3.heap.size (dig e) rfl rfl 23 #[Value.int IntKind.u8 0, Value.int IntKind.u8 0, Value.int IntKind.u8 0, Value.int IntKind.u8 0, Value.int IntKind.u8 0, Value.int IntKind.u8 0, Value.int IntKind.u8 0, Value.int IntKind.u8 0, Value.int IntKind.u8 0, Value.int IntKind.u8 0, Value.int IntKind.u8 0, Value.int IntKind.u8 0, Value.int IntKind.u8 0, Value.int IntKind.u8 0, Value.int IntKind.u8 0, Value.int IntKind.u8 0, Value.int IntKind.u8 0, Value.int IntKind.u8 0, Value.int IntKind.u8 0, Value.int IntKind.u8 0, Value.int IntKind.u8 0, Value.int IntKind.u8 0, Value.int IntKind.u8 0, Value.int IntKind.u8 0, Value.int IntKind.u8 0, Value.int IntKind.u8 0, Value.int IntKind.u8 0, Value.int IntKind.u8 0, Value.int IntKind.u8 0, Value.int IntKind.u8 0, Value.int IntKind.u8 0, Value.int IntKind.u8 0] (Is.fresh w3 23 _) ZE.out OE.out (dig_one _) ?_)
    | (refine wpList_store_row rfl 23 _ _ rfl w2.heap.size (dig e) rfl rfl 23 #[Value.int IntKind.u8 0, Value.int IntKind.u8 0, Value.int IntKind.u8 0, Value.int IntKind.u8 0, Value.int IntKind.u8 0, Value.int IntKind.u8 0, Value.int IntKind.u8 0, Value.int IntKind.u8 0, Value.int IntKind.u8 0, Value.int IntKind.u8 0, Value.int IntKind.u8 0, Value.int IntKind.u8 0, Value.int IntKind.u8 0, Value.int IntKind.u8 0, Value.int IntKind.u8 0, Value.int IntKind.u8 0, Value.int IntKind.u8 0, Value.int IntKind.u8 0, Value.int IntKind.u8 0, Value.int IntKind.u8 0, Value.int IntKind.u8 0, Value.int IntKind.u8 0, Value.int IntKind.u8 0, Value.int IntKind.u8 0, Value.int IntKind.u8 0, Value.int IntKind.u8 0, Value.int IntKind.u8 0, Value.int IntKind.u8 0, Value.int IntKind.u8 0, Value.int IntKind.u8 0, Value.int IntKind.u8 0, Value.int IntKind.u8 0] (Is.fresh w2 23 _) ZE.out OE.out (dig_one _) ?_)
  have FU := order_world I6.out I7.out I7.out (B1.out.trans (B2.out.mono B1.out.size)) B3.out (dig e)
  generalize (w3.alloc (Obj.cells #[Value.int IntKind.u8 0, Value.int IntKind.u8 0, Value.int IntKind.u8 0, Value.int IntKind.u8 0, Value.int IntKind.u8 0, Value.int IntKind.u8 0, Value.int IntKind.u8 0, Value.int IntKind.u8 0, Value.int IntKind.u8 0, Value.int IntKind.u8 0, Value.int IntKind.u8 0, Value.int IntKind.u8 0, Value.int IntKind.u8 0, Value.int IntKind.u8 0, Value.int IntKind.u8 0, Value.int IntKind.u8 0, Value.int IntKind.u8 0, Value.int IntKind.u8 0, Value.int IntKind.u8 0, Value.int IntKind.u8 0, Value.int IntKind.u8 0, Value.int IntKind.u8 0, Value.int IntKind.u8 0, Value.int IntKind.u8 0, Value.int IntKind.u8 0, Value.int IntKind.u8 0, Value.int IntKind.u8 0, Value.int IntKind.u8 0, Value.int IntKind.u8 0, Value.int IntKind.u8 0, Value.int IntKind.u8 0, Value.int IntKind.u8 0] 23)).setRow w3.heap.size (dig e) = V at FU ⊢
  generalize w2.heap.size = g10 at FU ⊢
  generalize w3.heap.size = g12 at FU ⊢
  obtain ⟨fu1, fu2, -, fu4, fu5, fu6⟩ := FU
  obtain ⟨g6, hg6⟩ : ∃ g, g = w.heap.size := ⟨_, rfl⟩
  obtain ⟨g7, hg7⟩ : ∃ g, g = g6 + 1 := ⟨_, rfl⟩
  rw [← hg6] at fu1 fu2 ⊢
  rw [← hg7] at fu2 ⊢
  have I6 := Lib.hid fu1
  have I7 := Lib.hid fu2
  have I10 := Lib.hid fu4
  have I12 := Lib.hid fu5
  have HB : Hid (Below g6 w V) := Lib.hid (by rw [hg6]; exact BV.out.trans (fu6.mono BV.out.size))
  have GV : Hid (g6 ≤ V.heap.size) := Lib.hid (by have := fu1.lt; omega)
  have HTV : Hid (∀ d os, Tabs (grow (redrawn V d) os)) := Lib.hid fun d os => (HT.out.below HB.out (by rw [hg6]; exact HT.out.1)).below ((below_regrown V d os).mono (HT.out.below HB.out (by rw [hg6]; exact HT.out.1)).1) (Nat.le_refl 2)
  have cC : Hid (∀ d os, Calls Tryd.prog 11 #[.string s] (grow (redrawn V d) os) fun e w'' => e = .returned (.int .u32 (P : Nat)) ∧ ∃ p : Regrown, w'' = grow (redrawn V p.d) p.os) :=
    Lib.hid fun d os => Calls.regrown_of ((crc_any s _ (HTV.out d os) (by have := HS.out; omega)).mono fun e w' ⟨h1, h2⟩ => ⟨by rw [h1, HP.out], by rw [← h2]; exact Below.refl _ _⟩)
  have cR : Hid (∀ d os, Calls Tryd.prog 12 #[.string s] (grow (redrawn V d) os) fun e w'' => e = .returned (.int .u32 (P : Nat)) ∧ ∃ p : Regrown, w'' = grow (redrawn V p.d) p.os) :=
    Lib.hid fun d os => Calls.regrown_of ((rcrc_any s _ (by have := HS.out; omega)).mono fun e w' ⟨h1, h2⟩ => ⟨by rw [h1, HP.out], by rw [← h2]; exact Below.refl _ _⟩)
  have cS : Hid (∀ d os, Calls Tryd.prog 13 #[.string s] (grow (redrawn V d) os) fun e w'' => e = .returned (.agg (dig H)) ∧ ∃ p : Regrown, w'' = grow (redrawn V p.d) p.os) :=
    Lib.hid fun d os => Calls.regrown_of ((sha_any s _ (HTV.out d os) (by have := HS.out; omega)).mono fun e w' ⟨h1, h2⟩ => ⟨by rw [h1, HH.out], h2⟩)
  have cT : Hid (∀ d os, Calls Tryd.prog 14 #[.string s] (grow (redrawn V d) os) fun e w'' => e = .returned (.agg (dig H)) ∧ ∃ p : Regrown, w'' = grow (redrawn V p.d) p.os) :=
    Lib.hid fun d os => Calls.regrown_of ((rsha_any s _ (by have := HS.out; omega)).mono fun e w' ⟨h1, h2⟩ => ⟨by rw [h1, HH.out], h2⟩)
  have cX : Hid (∀ d os, Calls Tryd.prog 15 #[.agg (dig a)] (grow (redrawn V d) os) fun e w'' => e = .returned (.string sa) ∧ ∃ p : Regrown, w'' = grow (redrawn V p.d) p.os) :=
    Lib.hid fun d os => Calls.regrown_of ((hex_any a _ LA.out).mono fun e w' ⟨h1, h2⟩ => ⟨by rw [h1, HSA.out], h2⟩)
  have cY : Hid (∀ d os, Calls Tryd.prog 16 #[.agg (dig a)] (grow (redrawn V d) os) fun e w'' => e = .returned (.string sa) ∧ ∃ p : Regrown, w'' = grow (redrawn V p.d) p.os) :=
    Lib.hid fun d os => Calls.regrown_of ((rhex_any a _ LA.out).mono fun e w' ⟨h1, h2⟩ => ⟨by rw [h1, HSA.out], h2⟩)
  have cL : Hid (∀ d os, Calls Tryd.prog 17 #[.agg (dig a), .agg (dig b)] (grow (redrawn V d) os) fun e w'' => e = .returned (.bool q) ∧ ∃ p : Regrown, w'' = grow (redrawn V p.d) p.os) :=
    Lib.hid fun d os => Calls.regrown_of ((less_any a b _ LA.out LB.out).mono fun e w' ⟨h1, h2⟩ => ⟨by rw [h1, HQ.out], h2⟩)
  have cM : Hid (∀ d os, Calls Tryd.prog 18 #[.agg (dig a), .agg (dig b)] (grow (redrawn V d) os) fun e w'' => e = .returned (.bool q) ∧ ∃ p : Regrown, w'' = grow (redrawn V p.d) p.os) :=
    Lib.hid fun d os => Calls.regrown_of ((rless_any a b _ LA.out LB.out).mono fun e w' ⟨h1, h2⟩ => ⟨by rw [h1, HQ.out], h2⟩)
  have HG6 := Lib.hid hg6
  clear fu1 fu2 fu4 fu5 fu6 hg6 hg7 B1 B2 B3 R1 R2 C BV OE HT
  refine wp_region_quiet_below (by kernel_rfl) (by kernel_rfl) ?_
  repeat (first | (refine quiet_row rfl 23 _ rfl g6 rfl (dig a) _ I6.out Tryd.underlying23 rfl ZA.out ?_) | (refine quiet_row rfl 23 _ rfl g7 rfl (dig b) _ I7.out Tryd.underlying23 rfl ZB.out ?_) | (refine quiet_row rfl 23 _ rfl g10 rfl (dig e) _ I10.out Tryd.underlying23 rfl ZE.out ?_) | (refine quiet_row rfl 23 _ rfl g12 rfl (dig e) _ I12.out Tryd.underlying23 rfl ZE.out ?_) | quiet_step (fail))
  quiet_step (exact cC.out _ _)
  repeat (first | (refine quiet_row rfl 23 _ rfl g6 rfl (dig a) _ I6.out Tryd.underlying23 rfl ZA.out ?_) | (refine quiet_row rfl 23 _ rfl g7 rfl (dig b) _ I7.out Tryd.underlying23 rfl ZB.out ?_) | (refine quiet_row rfl 23 _ rfl g10 rfl (dig e) _ I10.out Tryd.underlying23 rfl ZE.out ?_) | (refine quiet_row rfl 23 _ rfl g12 rfl (dig e) _ I12.out Tryd.underlying23 rfl ZE.out ?_) | quiet_step (fail))
  quiet_step (exact cR.out _ _)
  repeat (first | (refine quiet_row rfl 23 _ rfl g6 rfl (dig a) _ I6.out Tryd.underlying23 rfl ZA.out ?_) | (refine quiet_row rfl 23 _ rfl g7 rfl (dig b) _ I7.out Tryd.underlying23 rfl ZB.out ?_) | (refine quiet_row rfl 23 _ rfl g10 rfl (dig e) _ I10.out Tryd.underlying23 rfl ZE.out ?_) | (refine quiet_row rfl 23 _ rfl g12 rfl (dig e) _ I12.out Tryd.underlying23 rfl ZE.out ?_) | quiet_step (fail))
  quiet_step (exact cS.out _ _)
  repeat (first | (refine quiet_row rfl 23 _ rfl g6 rfl (dig a) _ I6.out Tryd.underlying23 rfl ZA.out ?_) | (refine quiet_row rfl 23 _ rfl g7 rfl (dig b) _ I7.out Tryd.underlying23 rfl ZB.out ?_) | (refine quiet_row rfl 23 _ rfl g10 rfl (dig e) _ I10.out Tryd.underlying23 rfl ZE.out ?_) | (refine quiet_row rfl 23 _ rfl g12 rfl (dig e) _ I12.out Tryd.underlying23 rfl ZE.out ?_) | quiet_step (fail))
  quiet_step (exact cT.out _ _)
  repeat (first | (refine quiet_row rfl 23 _ rfl g6 rfl (dig a) _ I6.out Tryd.underlying23 rfl ZA.out ?_) | (refine quiet_row rfl 23 _ rfl g7 rfl (dig b) _ I7.out Tryd.underlying23 rfl ZB.out ?_) | (refine quiet_row rfl 23 _ rfl g10 rfl (dig e) _ I10.out Tryd.underlying23 rfl ZE.out ?_) | (refine quiet_row rfl 23 _ rfl g12 rfl (dig e) _ I12.out Tryd.underlying23 rfl ZE.out ?_) | quiet_step (fail))
  quiet_step (exact cX.out _ _)
  repeat (first | (refine quiet_row rfl 23 _ rfl g6 rfl (dig a) _ I6.out Tryd.underlying23 rfl ZA.out ?_) | (refine quiet_row rfl 23 _ rfl g7 rfl (dig b) _ I7.out Tryd.underlying23 rfl ZB.out ?_) | (refine quiet_row rfl 23 _ rfl g10 rfl (dig e) _ I10.out Tryd.underlying23 rfl ZE.out ?_) | (refine quiet_row rfl 23 _ rfl g12 rfl (dig e) _ I12.out Tryd.underlying23 rfl ZE.out ?_) | quiet_step (fail))
  quiet_step (exact cY.out _ _)
  repeat (first | (refine quiet_row rfl 23 _ rfl g6 rfl (dig a) _ I6.out Tryd.underlying23 rfl ZA.out ?_) | (refine quiet_row rfl 23 _ rfl g7 rfl (dig b) _ I7.out Tryd.underlying23 rfl ZB.out ?_) | (refine quiet_row rfl 23 _ rfl g10 rfl (dig e) _ I10.out Tryd.underlying23 rfl ZE.out ?_) | (refine quiet_row rfl 23 _ rfl g12 rfl (dig e) _ I12.out Tryd.underlying23 rfl ZE.out ?_) | quiet_step (fail))
  quiet_step (exact cL.out _ _)
  repeat (first | (refine quiet_row rfl 23 _ rfl g6 rfl (dig a) _ I6.out Tryd.underlying23 rfl ZA.out ?_) | (refine quiet_row rfl 23 _ rfl g7 rfl (dig b) _ I7.out Tryd.underlying23 rfl ZB.out ?_) | (refine quiet_row rfl 23 _ rfl g10 rfl (dig e) _ I10.out Tryd.underlying23 rfl ZE.out ?_) | (refine quiet_row rfl 23 _ rfl g12 rfl (dig e) _ I12.out Tryd.underlying23 rfl ZE.out ?_) | quiet_step (fail))
  quiet_step (exact cM.out _ _)
  repeat (first | (refine quiet_row rfl 23 _ rfl g6 rfl (dig a) _ I6.out Tryd.underlying23 rfl ZA.out ?_) | (refine quiet_row rfl 23 _ rfl g7 rfl (dig b) _ I7.out Tryd.underlying23 rfl ZB.out ?_) | (refine quiet_row rfl 23 _ rfl g10 rfl (dig e) _ I10.out Tryd.underlying23 rfl ZE.out ?_) | (refine quiet_row rfl 23 _ rfl g12 rfl (dig e) _ I12.out Tryd.underlying23 rfl ZE.out ?_) | quiet_step (fail))
  refine wpQuiet_nil ?_
  intro _ hw'
  obtain ⟨⟨dq, osq⟩, hw''⟩ := hw'
  subst hw''
  go_wp2
  go_ret
  refine ⟨rfl, ?_⟩
  rw [← HG6.out]
  exact HB.out.trans ((below_regrown V dq osq).mono GV.out)
theorem tells_any (s t : ByteArray) (a b : List UInt8) (w : World) (hw : Tabs w) (ha : a.length = 32) (hb : b.length = 32) :
    Calls Tryd.prog 3 #[.string s, .string t, .agg (dig a), .agg (dig b)] w fun e w' => e = .returned (.bool true) ∧ Below w.heap.size w w' := by
  by_cases h : 100000 < s.size
  · exact tells_long s t a b w hw h
  · exact tells_main s t a b w hw ha hb (by omega)
end Go.Proofs.YtdkhinjogomdaaaDoor
