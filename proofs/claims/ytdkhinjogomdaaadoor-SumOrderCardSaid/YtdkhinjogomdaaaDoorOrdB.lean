/-
  SumOrder, at a string that reads: what the law's function does.
-/
import Derived.Test.YtdkhinjogomdaaaDoorOrdH
namespace Go.Proofs.YtdkhinjogomdaaaDoor
open Go.RowKit Go.Sort

set_option maxHeartbeats 8000000 in
set_option maxRecDepth 100000 in
theorem order_yes_ft (a b c e : List UInt8) (s : ByteArray) (w : World) (hw : Tabs w) (ha : a.length = 32) (hb : b.length = 32) (hc : c.length = 32) (hel : e.length = 32) (hs : s = mk (Hex.hexL e))
    (h1 : Op.bytesLess a b = false) (h4 : Op.bytesLess b a = true) : Calls Tryd.prog 7 #[.agg (dig a), .agg (dig b), .agg (dig c), .string s] w fun e w' => e = .returned (.bool true) ∧ Below w.heap.size w w' := by
  have hz : (Tryd.prog.info? 23).map (·.size) = some 32 := by kernel_rfl
  have LA := Lib.hid ha
  have LB := Lib.hid hb
  have LC := Lib.hid hc
  have LE := Lib.hid hel
  have ZA : Hid ((Tryd.prog.info? 23).map (·.size) = some (dig a).size) := Lib.hid (by rw [dig_size, ha]; exact hz)
  have ZB : Hid ((Tryd.prog.info? 23).map (·.size) = some (dig b).size) := Lib.hid (by rw [dig_size, hb]; exact hz)
  have ZC : Hid ((Tryd.prog.info? 23).map (·.size) = some (dig c).size) := Lib.hid (by rw [dig_size, hc]; exact hz)
  have ZE : Hid ((Tryd.prog.info? 23).map (·.size) = some (dig e).size) := Lib.hid (by rw [dig_size, hel]; exact hz)
  have OA : Hid ((#[Value.int IntKind.u8 0, Value.int IntKind.u8 0, Value.int IntKind.u8 0, Value.int IntKind.u8 0, Value.int IntKind.u8 0, Value.int IntKind.u8 0, Value.int IntKind.u8 0, Value.int IntKind.u8 0, Value.int IntKind.u8 0, Value.int IntKind.u8 0, Value.int IntKind.u8 0, Value.int IntKind.u8 0, Value.int IntKind.u8 0, Value.int IntKind.u8 0, Value.int IntKind.u8 0, Value.int IntKind.u8 0, Value.int IntKind.u8 0, Value.int IntKind.u8 0, Value.int IntKind.u8 0, Value.int IntKind.u8 0, Value.int IntKind.u8 0, Value.int IntKind.u8 0, Value.int IntKind.u8 0, Value.int IntKind.u8 0, Value.int IntKind.u8 0, Value.int IntKind.u8 0, Value.int IntKind.u8 0, Value.int IntKind.u8 0, Value.int IntKind.u8 0, Value.int IntKind.u8 0, Value.int IntKind.u8 0, Value.int IntKind.u8 0] : Array Value).size = (dig a).size) := Lib.hid (by rw [dig_size, ha]; rfl)
  have OE : Hid ((#[Value.int IntKind.u8 0, Value.int IntKind.u8 0, Value.int IntKind.u8 0, Value.int IntKind.u8 0, Value.int IntKind.u8 0, Value.int IntKind.u8 0, Value.int IntKind.u8 0, Value.int IntKind.u8 0, Value.int IntKind.u8 0, Value.int IntKind.u8 0, Value.int IntKind.u8 0, Value.int IntKind.u8 0, Value.int IntKind.u8 0, Value.int IntKind.u8 0, Value.int IntKind.u8 0, Value.int IntKind.u8 0, Value.int IntKind.u8 0, Value.int IntKind.u8 0, Value.int IntKind.u8 0, Value.int IntKind.u8 0, Value.int IntKind.u8 0, Value.int IntKind.u8 0, Value.int IntKind.u8 0, Value.int IntKind.u8 0, Value.int IntKind.u8 0, Value.int IntKind.u8 0, Value.int IntKind.u8 0, Value.int IntKind.u8 0, Value.int IntKind.u8 0, Value.int IntKind.u8 0, Value.int IntKind.u8 0, Value.int IntKind.u8 0] : Array Value).size = (dig e).size) := Lib.hid (by rw [dig_size, hel]; rfl)
  obtain ⟨sa, hsa⟩ : ∃ s, s = mk (Hex.hexL a) := ⟨_, rfl⟩
  obtain ⟨sb, hsb⟩ : ∃ s, s = mk (Hex.hexL b) := ⟨_, rfl⟩
  have za : (sa.size : Int) = 64 := by rw [hsa, size_mk, Hex.hexL_length, ha]; rfl
  have RA : Hid (∀ W, Calls Tryd.prog 9 #[.string sa] W fun e w' => e = .returned (.tuple #[.agg (dig a), .bool true]) ∧ Below W.heap.size W w') := Lib.hid fun W => by
    have := read_any sa W
    rw [hsa, ls_mk, read_hex a ha, ← hsa] at this
    exact this
  have RS : Hid (∀ W, Calls Tryd.prog 9 #[.string s] W fun e' w' => e' = .returned (.tuple #[.agg (dig e), .bool true]) ∧ Below W.heap.size W w') := Lib.hid fun W => by
    have := read_any s W
    rw [hs, ls_mk, read_hex e hel, ← hs] at this
    exact this
  have EQA : ∀ w, (Op.equalIn 10000 23 (.agg (dig a)) (.agg (dig a))).run Tryd.prog w = .ok true w := fun w => by rw [eq_dig a a ha ha w]; simp
  have Hh1 := Lib.hid h1
  have Hh4 := Lib.hid h4
  have HSA := Lib.hid hsa
  have HSB := Lib.hid hsb
  have HSE := Lib.hid hs
  have T4 : Hid (Op.bytesLess (Hex.hexL a) (Hex.hexL b) = false) := Lib.hid (by rw [← h1]; exact Hex.hex_less a b (by rw [ha, hb]))
  have hk1 : (w.alloc (Obj.cells (dig a) 23)).heap.size = w.heap.size + 1 := Array.size_push _
  have hk2 : ((w.alloc (Obj.cells (dig a) 23)).alloc (Obj.cells (dig b) 23)).heap.size = w.heap.size + 2 := (Array.size_push _).trans (by rw [hk1])
  have hI4 : Is (((w.alloc (Obj.cells (dig a) 23)).alloc (Obj.cells (dig b) 23)).alloc (Obj.cells (dig c) 23)) w.heap.size 23 (dig a) := ((Is.fresh w 23 _).alloc _).alloc _
  have hI5 : Is (((w.alloc (Obj.cells (dig a) 23)).alloc (Obj.cells (dig b) 23)).alloc (Obj.cells (dig c) 23)) (w.heap.size + 1) 23 (dig b) := by
    have := Is.fresh (w.alloc (Obj.cells (dig a) 23)) 23 (dig b)
    rw [hk1] at this
    exact this.alloc _
  have hI6 : Is (((w.alloc (Obj.cells (dig a) 23)).alloc (Obj.cells (dig b) 23)).alloc (Obj.cells (dig c) 23)) (w.heap.size + 1 + 1) 23 (dig c) := by
    have := Is.fresh ((w.alloc (Obj.cells (dig a) 23)).alloc (Obj.cells (dig b) 23)) 23 (dig c)
    rwa [hk2] at this
  have hBV : Below w.heap.size w (((w.alloc (Obj.cells (dig a) 23)).alloc (Obj.cells (dig b) 23)).alloc (Obj.cells (dig c) 23)) := (((Below.refl _ _).alloc (Nat.le_refl _) _).alloc (by omega) _).alloc (by omega) _
  have C := small_hid _ (hw.below hBV hw.1)
  obtain ⟨V, hV⟩ : ∃ V, V = ((w.alloc (Obj.cells (dig a) 23)).alloc (Obj.cells (dig b) 23)).alloc (Obj.cells (dig c) 23) := ⟨_, rfl⟩
  have hV2 := hV.symm
  rw [← hV] at hI4 hI5 hI6 hBV C
  obtain ⟨g4, hg4⟩ : ∃ g, w.heap.size = g := ⟨_, rfl⟩
  obtain ⟨g5, hg5⟩ : ∃ g, g4 + 1 = g := ⟨_, rfl⟩
  obtain ⟨g6, hg6⟩ : ∃ g, g5 + 1 = g := ⟨_, rfl⟩
  rw [hg4] at hI4 hI5 hI6 hBV
  rw [hg5] at hI5 hI6
  rw [hg6] at hI6
  have I4 := Lib.hid hI4
  have I5 := Lib.hid hI5
  have I6 := Lib.hid hI6
  have BV := Lib.hid hBV
  have BB : Hid (Below V.heap.size V V) := Lib.hid (Below.refl _ _)
  rw [hg4]
  have GV : Hid (g4 ≤ V.heap.size) := Lib.hid (by have := hI4.lt; omega)
  clear hw ha hb hc hs hz hel h1 h4 hsa hsb hk1 hk2 hI4 hI5 hI6 hBV hV
  go_enter Tryd.func7, Tryd.ntmps7
  go_wp2_with first
    | (go_at_call 8; refine C.out.mono ?_; rintro e w1 ⟨rfl, hb⟩; have BB : Hid (Below V.heap.size V w1) := Lib.hid hb; clear hb)
    | (go_at_call 15; refine (hex_any _ _ (by first | exact LA.out | exact LB.out | exact LC.out | exact LE.out)).mono ?_; rintro e w2 ⟨rfl, hb⟩; (first | rw [← HSA.out] | rw [← HSB.out] | rw [← HSE.out]); first
      | (have hq := UU.out; clear hq; have BB : Hid (Below U.heap.size U w2) := Lib.hid (BB.out.trans (hb.mono BB.out.size)); clear hb)
      | (have BB : Hid (Below V.heap.size V w2) := Lib.hid (BB.out.trans (hb.mono BB.out.size)); clear hb))
    | (go_at_call_of 9 sa; refine (RA.out _).mono ?_; rintro e w3 ⟨rfl, hb⟩; have BB : Hid (Below V.heap.size V w3) := Lib.hid (BB.out.trans (hb.mono BB.out.size)); clear hb)
    | (go_at_call_of 9 s; refine (RS.out _).mono ?_; rintro e w4 ⟨rfl, hb⟩; have B4 := Lib.hid hb; clear hb)
    | (go_at_call 17; refine (less_any _ _ _ (by first | exact LA.out | exact LB.out | exact LC.out) (by first | exact LA.out | exact LB.out | exact LC.out)).mono ?_; rintro e w5 ⟨rfl, hb⟩; have BB : Hid (Below U.heap.size U w5) := Lib.hid (BB.out.trans (hb.mono BB.out.size)); clear hb; first | rw [Hh1.out] | rw [Hh4.out])
    | (refine wpList_load_want 23 _ rfl g4 rfl rfl (dig a) _ (I4.out.below BB.out I4.out.lt) Tryd.underlying23 rfl ZA.out ?_)
    | (refine wpList_load_want 23 _ rfl g5 rfl rfl (dig b) _ (I5.out.below BB.out I5.out.lt) Tryd.underlying23 rfl ZB.out ?_)
    | (refine wpList_load_want 23 _ rfl g6 rfl rfl (dig c) _ (I6.out.below BB.out I6.out.lt) Tryd.underlying23 rfl ZC.out ?_)
    | (refine wpList_load_want 23 _ rfl g10 rfl rfl (dig a) _ (I10.out.below BB.out I10.out.lt) Tryd.underlying23 rfl ZA.out ?_)
    | (refine wpList_load_want 23 _ rfl g12 rfl rfl (dig e) _ (I12.out.below BB.out I12.out.lt) Tryd.underlying23 rfl ZE.out ?_)
    | (refine wpList_store_row rfl 23 _ _ rfl w3.heap.size (dig a) rfl rfl 23 #[Value.int IntKind.u8 0, Value.int IntKind.u8 0, Value.int IntKind.u8 0, Value.int IntKind.u8 0, Value.int IntKind.u8 0, Value.int IntKind.u8 0, Value.int IntKind.u8 0, Value.int IntKind.u8 0, Value.int IntKind.u8 0, Value.int IntKind.u8 0, Value.int IntKind.u8 0, Value.int IntKind.u8 0, Value.int IntKind.u8 0, Value.int IntKind.u8 0, Value.int IntKind.u8 0, Value.int IntKind.u8 0, Value.int IntKind.u8 0, Value.int IntKind.u8 0, Value.int IntKind.u8 0, Value.int IntKind.u8 0, Value.int IntKind.u8 0, Value.int IntKind.u8 0, Value.int IntKind.u8 0, Value.int IntKind.u8 0, Value.int IntKind.u8 0, Value.int IntKind.u8 0, Value.int IntKind.u8 0, Value.int IntKind.u8 0, Value.int IntKind.u8 0, Value.int IntKind.u8 0, Value.int IntKind.u8 0, Value.int IntKind.u8 0] (Is.fresh w3 23 _) ZA.out OA.out (dig_one _) ?_)
    | (refine wpList_store_row rfl 23 _ _ rfl w4.heap.size (dig e) rfl rfl 23 #[Value.int IntKind.u8 0, Value.int IntKind.u8 0, Value.int IntKind.u8 0, Value.int IntKind.u8 0, Value.int IntKind.u8 0, Value.int IntKind.u8 0, Value.int IntKind.u8 0, Value.int IntKind.u8 0, Value.int IntKind.u8 0, Value.int IntKind.u8 0, Value.int IntKind.u8 0, Value.int IntKind.u8 0, Value.int IntKind.u8 0, Value.int IntKind.u8 0, Value.int IntKind.u8 0, Value.int IntKind.u8 0, Value.int IntKind.u8 0, Value.int IntKind.u8 0, Value.int IntKind.u8 0, Value.int IntKind.u8 0, Value.int IntKind.u8 0, Value.int IntKind.u8 0, Value.int IntKind.u8 0, Value.int IntKind.u8 0, Value.int IntKind.u8 0, Value.int IntKind.u8 0, Value.int IntKind.u8 0, Value.int IntKind.u8 0, Value.int IntKind.u8 0, Value.int IntKind.u8 0, Value.int IntKind.u8 0, Value.int IntKind.u8 0] (Is.fresh w4 23 _) ZE.out OE.out (dig_one _) ?_
       have FU := order_world I4.out I5.out I6.out BB.out B4.out (dig e)
       generalize (w4.alloc (Obj.cells #[Value.int IntKind.u8 0, Value.int IntKind.u8 0, Value.int IntKind.u8 0, Value.int IntKind.u8 0, Value.int IntKind.u8 0, Value.int IntKind.u8 0, Value.int IntKind.u8 0, Value.int IntKind.u8 0, Value.int IntKind.u8 0, Value.int IntKind.u8 0, Value.int IntKind.u8 0, Value.int IntKind.u8 0, Value.int IntKind.u8 0, Value.int IntKind.u8 0, Value.int IntKind.u8 0, Value.int IntKind.u8 0, Value.int IntKind.u8 0, Value.int IntKind.u8 0, Value.int IntKind.u8 0, Value.int IntKind.u8 0, Value.int IntKind.u8 0, Value.int IntKind.u8 0, Value.int IntKind.u8 0, Value.int IntKind.u8 0, Value.int IntKind.u8 0, Value.int IntKind.u8 0, Value.int IntKind.u8 0, Value.int IntKind.u8 0, Value.int IntKind.u8 0, Value.int IntKind.u8 0, Value.int IntKind.u8 0, Value.int IntKind.u8 0] 23)).setRow w4.heap.size (dig e) = U at FU ⊢
       generalize w3.heap.size = g10 at FU ⊢
       generalize w4.heap.size = g12 at FU ⊢
       obtain ⟨fu1, fu2, fu3, fu4, fu5, fu6⟩ := FU
       have I4 := Lib.hid fu1
       have I5 := Lib.hid fu2
       have I6 := Lib.hid fu3
       have I10 := Lib.hid fu4
       have I12 := Lib.hid fu5
       have UU := Lib.hid fu6
       have BB : Hid (Below U.heap.size U U) := Lib.hid (Below.refl _ _)
       clear fu1 fu2 fu3 fu4 fu5 fu6 B4)
  have J4 : Hid (Is w5 g4 23 (dig a)) := Lib.hid (I4.out.below BB.out I4.out.lt)
  have J5 : Hid (Is w5 g5 23 (dig b)) := Lib.hid (I5.out.below BB.out I5.out.lt)
  have BF : Hid (Below g4 w w5) := Lib.hid (by
    have h1 := UU.out
    have h2 := BB.out
    have h3 := BV.out
    have h4 := GV.out
    exact (h3.trans (h1.mono h4)).trans (h2.mono (by have := h1.size; omega)))
  have GF : Hid (g4 ≤ w5.heap.size) := Lib.hid (by have := BF.out.size; omega)
  have cL : Hid (∀ d os, Calls Tryd.prog 17 #[.agg (dig a), .agg (dig b)] (grow (redrawn w5 d) os) fun e w'' => e = .returned (.bool false) ∧ ∃ p : Regrown, w'' = grow (redrawn w5 p.d) p.os) :=
    Lib.hid fun d os => Calls.regrown_of ((less_any a b _ LA.out LB.out).mono fun e w' ⟨h1, h2⟩ => ⟨by rw [h1, Hh1.out], h2⟩)
  have cA : Hid (∀ d os, Calls Tryd.prog 15 #[.agg (dig a)] (grow (redrawn w5 d) os) fun e w'' => e = .returned (.string sa) ∧ ∃ p : Regrown, w'' = grow (redrawn w5 p.d) p.os) :=
    Lib.hid fun d os => Calls.regrown_of ((hex_any a _ LA.out).mono fun e w' ⟨h1, h2⟩ => ⟨by rw [h1, HSA.out], h2⟩)
  have cB : Hid (∀ d os, Calls Tryd.prog 15 #[.agg (dig b)] (grow (redrawn w5 d) os) fun e w'' => e = .returned (.string sb) ∧ ∃ p : Regrown, w'' = grow (redrawn w5 p.d) p.os) :=
    Lib.hid fun d os => Calls.regrown_of ((hex_any b _ LB.out).mono fun e w' ⟨h1, h2⟩ => ⟨by rw [h1, HSB.out], h2⟩)
  have LT : Op.bytesLess sa.toList sb.toList = false := by
    rw [HSA.out, HSB.out, ByteArray.toList_eq, ByteArray.toList_eq]
    exact T4.out
  clear RA RS EQA I4 I5 I6 I10 I12 UU BB C BV
  refine wp_region_quiet_below (by kernel_rfl) (by kernel_rfl) ?_
  repeat (first | (refine quiet_row rfl 23 _ rfl g4 rfl (dig a) _ J4.out Tryd.underlying23 rfl ZA.out ?_) | (refine quiet_row rfl 23 _ rfl g5 rfl (dig b) _ J5.out Tryd.underlying23 rfl ZB.out ?_) | quiet_step (fail))
  quiet_step (exact cL.out _ _)
  repeat (first | (refine quiet_row rfl 23 _ rfl g4 rfl (dig a) _ J4.out Tryd.underlying23 rfl ZA.out ?_) | (refine quiet_row rfl 23 _ rfl g5 rfl (dig b) _ J5.out Tryd.underlying23 rfl ZB.out ?_) | quiet_step (fail))
  quiet_step (exact cA.out _ _)
  repeat (first | (refine quiet_row rfl 23 _ rfl g4 rfl (dig a) _ J4.out Tryd.underlying23 rfl ZA.out ?_) | (refine quiet_row rfl 23 _ rfl g5 rfl (dig b) _ J5.out Tryd.underlying23 rfl ZB.out ?_) | quiet_step (fail))
  quiet_step (exact cB.out _ _)
  repeat (first | (refine quiet_row rfl 23 _ rfl g4 rfl (dig a) _ J4.out Tryd.underlying23 rfl ZA.out ?_) | (refine quiet_row rfl 23 _ rfl g5 rfl (dig b) _ J5.out Tryd.underlying23 rfl ZB.out ?_) | quiet_step (fail))
  refine wpQuiet_nil ?_
  intro _ hw'
  obtain ⟨⟨dq, osq⟩, hw''⟩ := hw'
  subst hw''
  go_wp2
  go_ret
  exact ⟨rfl, BF.out.trans ((below_regrown w5 dq osq).mono GF.out)⟩

set_option maxHeartbeats 8000000 in
set_option maxRecDepth 100000 in
theorem order_yes_ff (a c e : List UInt8) (s : ByteArray) (w : World) (hw : Tabs w) (ha : a.length = 32) (hc : c.length = 32) (hel : e.length = 32) (hs : s = mk (Hex.hexL e))
    (h1 : Op.bytesLess a a = false) : Calls Tryd.prog 7 #[.agg (dig a), .agg (dig a), .agg (dig c), .string s] w fun e w' => e = .returned (.bool true) ∧ Below w.heap.size w w' := by
  have hz : (Tryd.prog.info? 23).map (·.size) = some 32 := by kernel_rfl
  have LA := Lib.hid ha
  have LC := Lib.hid hc
  have LE := Lib.hid hel
  have ZA : Hid ((Tryd.prog.info? 23).map (·.size) = some (dig a).size) := Lib.hid (by rw [dig_size, ha]; exact hz)
  have ZC : Hid ((Tryd.prog.info? 23).map (·.size) = some (dig c).size) := Lib.hid (by rw [dig_size, hc]; exact hz)
  have ZE : Hid ((Tryd.prog.info? 23).map (·.size) = some (dig e).size) := Lib.hid (by rw [dig_size, hel]; exact hz)
  have OA : Hid ((#[Value.int IntKind.u8 0, Value.int IntKind.u8 0, Value.int IntKind.u8 0, Value.int IntKind.u8 0, Value.int IntKind.u8 0, Value.int IntKind.u8 0, Value.int IntKind.u8 0, Value.int IntKind.u8 0, Value.int IntKind.u8 0, Value.int IntKind.u8 0, Value.int IntKind.u8 0, Value.int IntKind.u8 0, Value.int IntKind.u8 0, Value.int IntKind.u8 0, Value.int IntKind.u8 0, Value.int IntKind.u8 0, Value.int IntKind.u8 0, Value.int IntKind.u8 0, Value.int IntKind.u8 0, Value.int IntKind.u8 0, Value.int IntKind.u8 0, Value.int IntKind.u8 0, Value.int IntKind.u8 0, Value.int IntKind.u8 0, Value.int IntKind.u8 0, Value.int IntKind.u8 0, Value.int IntKind.u8 0, Value.int IntKind.u8 0, Value.int IntKind.u8 0, Value.int IntKind.u8 0, Value.int IntKind.u8 0, Value.int IntKind.u8 0] : Array Value).size = (dig a).size) := Lib.hid (by rw [dig_size, ha]; rfl)
  have OE : Hid ((#[Value.int IntKind.u8 0, Value.int IntKind.u8 0, Value.int IntKind.u8 0, Value.int IntKind.u8 0, Value.int IntKind.u8 0, Value.int IntKind.u8 0, Value.int IntKind.u8 0, Value.int IntKind.u8 0, Value.int IntKind.u8 0, Value.int IntKind.u8 0, Value.int IntKind.u8 0, Value.int IntKind.u8 0, Value.int IntKind.u8 0, Value.int IntKind.u8 0, Value.int IntKind.u8 0, Value.int IntKind.u8 0, Value.int IntKind.u8 0, Value.int IntKind.u8 0, Value.int IntKind.u8 0, Value.int IntKind.u8 0, Value.int IntKind.u8 0, Value.int IntKind.u8 0, Value.int IntKind.u8 0, Value.int IntKind.u8 0, Value.int IntKind.u8 0, Value.int IntKind.u8 0, Value.int IntKind.u8 0, Value.int IntKind.u8 0, Value.int IntKind.u8 0, Value.int IntKind.u8 0, Value.int IntKind.u8 0, Value.int IntKind.u8 0] : Array Value).size = (dig e).size) := Lib.hid (by rw [dig_size, hel]; rfl)
  obtain ⟨sa, hsa⟩ : ∃ s, s = mk (Hex.hexL a) := ⟨_, rfl⟩
  have za : (sa.size : Int) = 64 := by rw [hsa, size_mk, Hex.hexL_length, ha]; rfl
  have RA : Hid (∀ W, Calls Tryd.prog 9 #[.string sa] W fun e w' => e = .returned (.tuple #[.agg (dig a), .bool true]) ∧ Below W.heap.size W w') := Lib.hid fun W => by
    have := read_any sa W
    rw [hsa, ls_mk, read_hex a ha, ← hsa] at this
    exact this
  have RS : Hid (∀ W, Calls Tryd.prog 9 #[.string s] W fun e' w' => e' = .returned (.tuple #[.agg (dig e), .bool true]) ∧ Below W.heap.size W w') := Lib.hid fun W => by
    have := read_any s W
    rw [hs, ls_mk, read_hex e hel, ← hs] at this
    exact this
  have EQA : ∀ w, (Op.equalIn 10000 23 (.agg (dig a)) (.agg (dig a))).run Tryd.prog w = .ok true w := fun w => by rw [eq_dig a a ha ha w]; simp
  have Hh1 := Lib.hid h1
  have HSA := Lib.hid hsa
  have HSE := Lib.hid hs
  have T4 : Hid (Op.bytesLess (Hex.hexL a) (Hex.hexL a) = false) := Lib.hid (by rw [← h1]; exact Hex.hex_less a a (by rw [ha]))
  have hk1 : (w.alloc (Obj.cells (dig a) 23)).heap.size = w.heap.size + 1 := Array.size_push _
  have hk2 : ((w.alloc (Obj.cells (dig a) 23)).alloc (Obj.cells (dig a) 23)).heap.size = w.heap.size + 2 := (Array.size_push _).trans (by rw [hk1])
  have hI4 : Is (((w.alloc (Obj.cells (dig a) 23)).alloc (Obj.cells (dig a) 23)).alloc (Obj.cells (dig c) 23)) w.heap.size 23 (dig a) := ((Is.fresh w 23 _).alloc _).alloc _
  have hI5 : Is (((w.alloc (Obj.cells (dig a) 23)).alloc (Obj.cells (dig a) 23)).alloc (Obj.cells (dig c) 23)) (w.heap.size + 1) 23 (dig a) := by
    have := Is.fresh (w.alloc (Obj.cells (dig a) 23)) 23 (dig a)
    rw [hk1] at this
    exact this.alloc _
  have hI6 : Is (((w.alloc (Obj.cells (dig a) 23)).alloc (Obj.cells (dig a) 23)).alloc (Obj.cells (dig c) 23)) (w.heap.size + 1 + 1) 23 (dig c) := by
    have := Is.fresh ((w.alloc (Obj.cells (dig a) 23)).alloc (Obj.cells (dig a) 23)) 23 (dig c)
    rwa [hk2] at this
  have hBV : Below w.heap.size w (((w.alloc (Obj.cells (dig a) 23)).alloc (Obj.cells (dig a) 23)).alloc (Obj.cells (dig c) 23)) := (((Below.refl _ _).alloc (Nat.le_refl _) _).alloc (by omega) _).alloc (by omega) _
  have C := small_hid _ (hw.below hBV hw.1)
  obtain ⟨V, hV⟩ : ∃ V, V = ((w.alloc (Obj.cells (dig a) 23)).alloc (Obj.cells (dig a) 23)).alloc (Obj.cells (dig c) 23) := ⟨_, rfl⟩
  have hV2 := hV.symm
  rw [← hV] at hI4 hI5 hI6 hBV C
  obtain ⟨g4, hg4⟩ : ∃ g, w.heap.size = g := ⟨_, rfl⟩
  obtain ⟨g5, hg5⟩ : ∃ g, g4 + 1 = g := ⟨_, rfl⟩
  obtain ⟨g6, hg6⟩ : ∃ g, g5 + 1 = g := ⟨_, rfl⟩
  rw [hg4] at hI4 hI5 hI6 hBV
  rw [hg5] at hI5 hI6
  rw [hg6] at hI6
  have I4 := Lib.hid hI4
  have I5 := Lib.hid hI5
  have I6 := Lib.hid hI6
  have BV := Lib.hid hBV
  have BB : Hid (Below V.heap.size V V) := Lib.hid (Below.refl _ _)
  rw [hg4]
  have GV : Hid (g4 ≤ V.heap.size) := Lib.hid (by have := hI4.lt; omega)
  clear hw ha hc hs hz hel h1 hsa hk1 hk2 hI4 hI5 hI6 hBV hV
  go_enter Tryd.func7, Tryd.ntmps7
  go_wp2_with first
    | (go_at_call 8; refine C.out.mono ?_; rintro e w1 ⟨rfl, hb⟩; have BB : Hid (Below V.heap.size V w1) := Lib.hid hb; clear hb)
    | (go_at_call 15; refine (hex_any _ _ (by first | exact LA.out | exact LC.out | exact LE.out)).mono ?_; rintro e w2 ⟨rfl, hb⟩; (first | rw [← HSA.out] | rw [← HSE.out]); first
      | (have hq := UU.out; clear hq; have BB : Hid (Below U.heap.size U w2) := Lib.hid (BB.out.trans (hb.mono BB.out.size)); clear hb)
      | (have BB : Hid (Below V.heap.size V w2) := Lib.hid (BB.out.trans (hb.mono BB.out.size)); clear hb))
    | (go_at_call_of 9 sa; refine (RA.out _).mono ?_; rintro e w3 ⟨rfl, hb⟩; have BB : Hid (Below V.heap.size V w3) := Lib.hid (BB.out.trans (hb.mono BB.out.size)); clear hb)
    | (go_at_call_of 9 s; refine (RS.out _).mono ?_; rintro e w4 ⟨rfl, hb⟩; have B4 := Lib.hid hb; clear hb)
    | (go_at_call 17; refine (less_any _ _ _ (by first | exact LA.out | exact LC.out) (by first | exact LA.out | exact LC.out)).mono ?_; rintro e w5 ⟨rfl, hb⟩; have BB : Hid (Below U.heap.size U w5) := Lib.hid (BB.out.trans (hb.mono BB.out.size)); clear hb; first | rw [Hh1.out])
    | (refine wpList_load_want 23 _ rfl g4 rfl rfl (dig a) _ (I4.out.below BB.out I4.out.lt) Tryd.underlying23 rfl ZA.out ?_)
    | (refine wpList_load_want 23 _ rfl g5 rfl rfl (dig a) _ (I5.out.below BB.out I5.out.lt) Tryd.underlying23 rfl ZA.out ?_)
    | (refine wpList_load_want 23 _ rfl g6 rfl rfl (dig c) _ (I6.out.below BB.out I6.out.lt) Tryd.underlying23 rfl ZC.out ?_)
    | (refine wpList_load_want 23 _ rfl g10 rfl rfl (dig a) _ (I10.out.below BB.out I10.out.lt) Tryd.underlying23 rfl ZA.out ?_)
    | (refine wpList_load_want 23 _ rfl g12 rfl rfl (dig e) _ (I12.out.below BB.out I12.out.lt) Tryd.underlying23 rfl ZE.out ?_)
    | (refine wpList_store_row rfl 23 _ _ rfl w3.heap.size (dig a) rfl rfl 23 #[Value.int IntKind.u8 0, Value.int IntKind.u8 0, Value.int IntKind.u8 0, Value.int IntKind.u8 0, Value.int IntKind.u8 0, Value.int IntKind.u8 0, Value.int IntKind.u8 0, Value.int IntKind.u8 0, Value.int IntKind.u8 0, Value.int IntKind.u8 0, Value.int IntKind.u8 0, Value.int IntKind.u8 0, Value.int IntKind.u8 0, Value.int IntKind.u8 0, Value.int IntKind.u8 0, Value.int IntKind.u8 0, Value.int IntKind.u8 0, Value.int IntKind.u8 0, Value.int IntKind.u8 0, Value.int IntKind.u8 0, Value.int IntKind.u8 0, Value.int IntKind.u8 0, Value.int IntKind.u8 0, Value.int IntKind.u8 0, Value.int IntKind.u8 0, Value.int IntKind.u8 0, Value.int IntKind.u8 0, Value.int IntKind.u8 0, Value.int IntKind.u8 0, Value.int IntKind.u8 0, Value.int IntKind.u8 0, Value.int IntKind.u8 0] (Is.fresh w3 23 _) ZA.out OA.out (dig_one _) ?_)
    | (refine wpList_store_row rfl 23 _ _ rfl w4.heap.size (dig e) rfl rfl 23 #[Value.int IntKind.u8 0, Value.int IntKind.u8 0, Value.int IntKind.u8 0, Value.int IntKind.u8 0, Value.int IntKind.u8 0, Value.int IntKind.u8 0, Value.int IntKind.u8 0, Value.int IntKind.u8 0, Value.int IntKind.u8 0, Value.int IntKind.u8 0, Value.int IntKind.u8 0, Value.int IntKind.u8 0, Value.int IntKind.u8 0, Value.int IntKind.u8 0, Value.int IntKind.u8 0, Value.int IntKind.u8 0, Value.int IntKind.u8 0, Value.int IntKind.u8 0, Value.int IntKind.u8 0, Value.int IntKind.u8 0, Value.int IntKind.u8 0, Value.int IntKind.u8 0, Value.int IntKind.u8 0, Value.int IntKind.u8 0, Value.int IntKind.u8 0, Value.int IntKind.u8 0, Value.int IntKind.u8 0, Value.int IntKind.u8 0, Value.int IntKind.u8 0, Value.int IntKind.u8 0, Value.int IntKind.u8 0, Value.int IntKind.u8 0] (Is.fresh w4 23 _) ZE.out OE.out (dig_one _) ?_
       have FU := order_world I4.out I5.out I6.out BB.out B4.out (dig e)
       generalize (w4.alloc (Obj.cells #[Value.int IntKind.u8 0, Value.int IntKind.u8 0, Value.int IntKind.u8 0, Value.int IntKind.u8 0, Value.int IntKind.u8 0, Value.int IntKind.u8 0, Value.int IntKind.u8 0, Value.int IntKind.u8 0, Value.int IntKind.u8 0, Value.int IntKind.u8 0, Value.int IntKind.u8 0, Value.int IntKind.u8 0, Value.int IntKind.u8 0, Value.int IntKind.u8 0, Value.int IntKind.u8 0, Value.int IntKind.u8 0, Value.int IntKind.u8 0, Value.int IntKind.u8 0, Value.int IntKind.u8 0, Value.int IntKind.u8 0, Value.int IntKind.u8 0, Value.int IntKind.u8 0, Value.int IntKind.u8 0, Value.int IntKind.u8 0, Value.int IntKind.u8 0, Value.int IntKind.u8 0, Value.int IntKind.u8 0, Value.int IntKind.u8 0, Value.int IntKind.u8 0, Value.int IntKind.u8 0, Value.int IntKind.u8 0, Value.int IntKind.u8 0] 23)).setRow w4.heap.size (dig e) = U at FU ⊢
       generalize w3.heap.size = g10 at FU ⊢
       generalize w4.heap.size = g12 at FU ⊢
       obtain ⟨fu1, fu2, fu3, fu4, fu5, fu6⟩ := FU
       have I4 := Lib.hid fu1
       have I5 := Lib.hid fu2
       have I6 := Lib.hid fu3
       have I10 := Lib.hid fu4
       have I12 := Lib.hid fu5
       have UU := Lib.hid fu6
       have BB : Hid (Below U.heap.size U U) := Lib.hid (Below.refl _ _)
       clear fu1 fu2 fu3 fu4 fu5 fu6 B4)
  have J4 : Hid (Is w5 g4 23 (dig a)) := Lib.hid (I4.out.below BB.out I4.out.lt)
  have J5 : Hid (Is w5 g5 23 (dig a)) := Lib.hid (I5.out.below BB.out I5.out.lt)
  have BF : Hid (Below g4 w w5) := Lib.hid (by
    have h1 := UU.out
    have h2 := BB.out
    have h3 := BV.out
    have h4 := GV.out
    exact (h3.trans (h1.mono h4)).trans (h2.mono (by have := h1.size; omega)))
  have GF : Hid (g4 ≤ w5.heap.size) := Lib.hid (by have := BF.out.size; omega)
  have cL : Hid (∀ d os, Calls Tryd.prog 17 #[.agg (dig a), .agg (dig a)] (grow (redrawn w5 d) os) fun e w'' => e = .returned (.bool false) ∧ ∃ p : Regrown, w'' = grow (redrawn w5 p.d) p.os) :=
    Lib.hid fun d os => Calls.regrown_of ((less_any a a _ LA.out LA.out).mono fun e w' ⟨h1, h2⟩ => ⟨by rw [h1, Hh1.out], h2⟩)
  have cA : Hid (∀ d os, Calls Tryd.prog 15 #[.agg (dig a)] (grow (redrawn w5 d) os) fun e w'' => e = .returned (.string sa) ∧ ∃ p : Regrown, w'' = grow (redrawn w5 p.d) p.os) :=
    Lib.hid fun d os => Calls.regrown_of ((hex_any a _ LA.out).mono fun e w' ⟨h1, h2⟩ => ⟨by rw [h1, HSA.out], h2⟩)
  have cB : Hid (∀ d os, Calls Tryd.prog 15 #[.agg (dig a)] (grow (redrawn w5 d) os) fun e w'' => e = .returned (.string sa) ∧ ∃ p : Regrown, w'' = grow (redrawn w5 p.d) p.os) :=
    Lib.hid fun d os => Calls.regrown_of ((hex_any a _ LA.out).mono fun e w' ⟨h1, h2⟩ => ⟨by rw [h1, HSA.out], h2⟩)
  have LT : Op.bytesLess sa.toList sa.toList = false := by
    rw [HSA.out, ByteArray.toList_eq]
    exact T4.out
  clear RA RS EQA I4 I5 I6 I10 I12 UU BB C BV
  refine wp_region_quiet_below (by kernel_rfl) (by kernel_rfl) ?_
  repeat (first | (refine quiet_row rfl 23 _ rfl g4 rfl (dig a) _ J4.out Tryd.underlying23 rfl ZA.out ?_) | (refine quiet_row rfl 23 _ rfl g5 rfl (dig a) _ J5.out Tryd.underlying23 rfl ZA.out ?_) | quiet_step (fail))
  quiet_step (exact cL.out _ _)
  repeat (first | (refine quiet_row rfl 23 _ rfl g4 rfl (dig a) _ J4.out Tryd.underlying23 rfl ZA.out ?_) | (refine quiet_row rfl 23 _ rfl g5 rfl (dig a) _ J5.out Tryd.underlying23 rfl ZA.out ?_) | quiet_step (fail))
  quiet_step (exact cA.out _ _)
  repeat (first | (refine quiet_row rfl 23 _ rfl g4 rfl (dig a) _ J4.out Tryd.underlying23 rfl ZA.out ?_) | (refine quiet_row rfl 23 _ rfl g5 rfl (dig a) _ J5.out Tryd.underlying23 rfl ZA.out ?_) | quiet_step (fail))
  quiet_step (exact cB.out _ _)
  repeat (first | (refine quiet_row rfl 23 _ rfl g4 rfl (dig a) _ J4.out Tryd.underlying23 rfl ZA.out ?_) | (refine quiet_row rfl 23 _ rfl g5 rfl (dig a) _ J5.out Tryd.underlying23 rfl ZA.out ?_) | quiet_step (fail))
  refine wpQuiet_nil ?_
  intro _ hw'
  obtain ⟨⟨dq, osq⟩, hw''⟩ := hw'
  subst hw''
  go_wp2
  go_ret
  exact ⟨rfl, BF.out.trans ((below_regrown w5 dq osq).mono GF.out)⟩
end Go.Proofs.YtdkhinjogomdaaaDoor
