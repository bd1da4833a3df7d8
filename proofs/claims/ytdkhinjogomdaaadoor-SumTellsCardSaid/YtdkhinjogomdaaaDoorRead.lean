/-
  The code's Read.
-/
import Derived.Test.YtdkhinjogomdaaaDoorHexA
import Derived.Test.YtdkhinjogomdaaaDoorDig
import Derived.Laws.ResultCell
namespace Go.Proofs.YtdkhinjogomdaaaDoor
open Go.RowKit
theorem res_cell2 {P : Program} {fn : Func} {p u : Tmp} {ty : TypeId} (h : fn.results = #[.cell p ty, .tmp u]) (tmps : Array Value) (w : World) (g : Nat) (c : Array Value) (d : TypeDesc)
    (hp : tmps.getD p undef = .pointer (some ⟨g, 0, none⟩)) (hg : Is w g ty c) (hu : P.underlying ty = some d) (hd : (match d with | .struct _ | .array _ _ => true | _ => false) = true)
    (hi : (P.info? ty).map (·.size) = some c.size) : (results fn tmps).run P w = .ok (.tuple #[.agg c, tmps.getD u undef]) w := by
  rw [results_cell_tmp h, hp]
  simp [asAddr, Result.andThen, run_loadVar_row w g ty ty c (0, 0) d hg hu hd hi]
/-- The byte that two digits give. -/
def pair (l : List UInt8) (j : Nat) : UInt8 := UInt8.ofNat (16 * Hex.un (l.getD (2 * j) 0) + Hex.un (l.getD (2 * j + 1) 0))
def pairs (l : List UInt8) (k : Nat) : List UInt8 := (List.range k).map (pair l)
theorem pairs_snoc (l : List UInt8) (k : Nat) : pairs l (k + 1) = pairs l k ++ [pair l k] := by
  unfold pairs; rw [List.range_succ, List.map_append]; rfl
theorem pairs_len (l : List UInt8) (k : Nat) : (pairs l k).length = k := by simp [pairs]
theorem unhex_all (n : Nat) (l : List UInt8) (hl : l.length = 2 * n) (h : ∀ i, i < 2 * n → Hex.un (l.getD i 0) < 16) : Hex.unhex l = some (pairs l n) := by
  induction n generalizing l with
  | zero =>
    obtain rfl := List.eq_nil_of_length_eq_zero (by omega : l.length = 0)
    rfl
  | succ n ih =>
    match l, hl with
    | a :: b :: r, hl =>
      have h0 := h 0 (by omega)
      have h1 := h 1 (by omega)
      simp only [List.getD_cons_zero, List.getD_cons_succ] at h0 h1
      have hr := ih r (by simp at hl; omega) (fun i hi => by
        have := h (i + 2) (by omega)
        simpa using this)
      rw [Hex.unhex, if_pos ⟨h0, h1⟩, hr]
      simp only [Option.map_some, Option.some.injEq]
      unfold pairs
      rw [List.range_succ_eq_map, List.map_cons, List.map_map]
      congr 1
theorem unhex_bad (l : List UInt8) (i : Nat) (hi : i < l.length) (h : ¬ Hex.un (l.getD i 0) < 16) : Hex.unhex l = none := by
  match l, i, hi with
  | [a], 0, _ => rfl
  | a :: b :: r, 0, _ =>
    rw [Hex.unhex, if_neg]
    simp only [List.getD_cons_zero] at h
    exact fun e => h e.1
  | a :: b :: r, 1, _ =>
    rw [Hex.unhex, if_neg]
    simp only [List.getD_cons_zero, List.getD_cons_succ] at h
    exact fun e => h e.2
  | a :: b :: r, i + 2, hi =>
    have := unhex_bad r i (by simp at hi; omega) (by simpa using h)
    rw [Hex.unhex, this]
    split <;> rfl
/-- What Read answers. -/
def readF (l : List UInt8) : Option (List UInt8) := if l.length = 64 then Hex.unhex l else none
def zeros32 : List UInt8 := List.replicate 32 0
theorem digz_nil : digz [] 32 = dig zeros32 := by unfold digz zeros32; rfl
theorem zz_eq : #[Value.int IntKind.u8 0, Value.int IntKind.u8 0, Value.int IntKind.u8 0, Value.int IntKind.u8 0, Value.int IntKind.u8 0, Value.int IntKind.u8 0, Value.int IntKind.u8 0, Value.int IntKind.u8 0, Value.int IntKind.u8 0, Value.int IntKind.u8 0, Value.int IntKind.u8 0, Value.int IntKind.u8 0, Value.int IntKind.u8 0, Value.int IntKind.u8 0, Value.int IntKind.u8 0, Value.int IntKind.u8 0, Value.int IntKind.u8 0, Value.int IntKind.u8 0, Value.int IntKind.u8 0, Value.int IntKind.u8 0, Value.int IntKind.u8 0, Value.int IntKind.u8 0, Value.int IntKind.u8 0, Value.int IntKind.u8 0, Value.int IntKind.u8 0, Value.int IntKind.u8 0, Value.int IntKind.u8 0, Value.int IntKind.u8 0, Value.int IntKind.u8 0, Value.int IntKind.u8 0, Value.int IntKind.u8 0, Value.int IntKind.u8 0] = dig zeros32 := rfl
theorem dig_one (l : List UInt8) : (dig l).all (·.oneCell') = true := by
  unfold dig
  simp
  intro x hx
  rfl
theorem zz_one : (#[Value.int IntKind.u8 0, Value.int IntKind.u8 0, Value.int IntKind.u8 0, Value.int IntKind.u8 0, Value.int IntKind.u8 0, Value.int IntKind.u8 0, Value.int IntKind.u8 0, Value.int IntKind.u8 0, Value.int IntKind.u8 0, Value.int IntKind.u8 0, Value.int IntKind.u8 0, Value.int IntKind.u8 0, Value.int IntKind.u8 0, Value.int IntKind.u8 0, Value.int IntKind.u8 0, Value.int IntKind.u8 0, Value.int IntKind.u8 0, Value.int IntKind.u8 0, Value.int IntKind.u8 0, Value.int IntKind.u8 0, Value.int IntKind.u8 0, Value.int IntKind.u8 0, Value.int IntKind.u8 0, Value.int IntKind.u8 0, Value.int IntKind.u8 0, Value.int IntKind.u8 0, Value.int IntKind.u8 0, Value.int IntKind.u8 0, Value.int IntKind.u8 0, Value.int IntKind.u8 0, Value.int IntKind.u8 0, Value.int IntKind.u8 0] : Array Value).all (·.oneCell') = true := by rw [zz_eq]; exact dig_one _
theorem zz_size : (dig zeros32).size = (#[Value.int IntKind.u8 0, Value.int IntKind.u8 0, Value.int IntKind.u8 0, Value.int IntKind.u8 0, Value.int IntKind.u8 0, Value.int IntKind.u8 0, Value.int IntKind.u8 0, Value.int IntKind.u8 0, Value.int IntKind.u8 0, Value.int IntKind.u8 0, Value.int IntKind.u8 0, Value.int IntKind.u8 0, Value.int IntKind.u8 0, Value.int IntKind.u8 0, Value.int IntKind.u8 0, Value.int IntKind.u8 0, Value.int IntKind.u8 0, Value.int IntKind.u8 0, Value.int IntKind.u8 0, Value.int IntKind.u8 0, Value.int IntKind.u8 0, Value.int IntKind.u8 0, Value.int IntKind.u8 0, Value.int IntKind.u8 0, Value.int IntKind.u8 0, Value.int IntKind.u8 0, Value.int IntKind.u8 0, Value.int IntKind.u8 0, Value.int IntKind.u8 0, Value.int IntKind.u8 0, Value.int IntKind.u8 0, Value.int IntKind.u8 0] : Array Value).size := by rw [zz_eq]
theorem read_bad (l : List UInt8) (i : Nat) (hi : i < l.length) (h : ¬ Hex.un (l.getD i 0) < 16) : readF l = none := by
  unfold readF
  split
  · exact unhex_bad l i hi h
  · rfl
theorem read_all (l : List UInt8) (hl : l.length = 64) (h : ∀ i, i < 64 → Hex.un (l.getD i 0) < 16) : readF l = some (pairs l 32) := by
  unfold readF
  rw [if_pos hl]
  exact unhex_all 32 l hl h
theorem getD_ls (s : ByteArray) (k : Nat) (h : k < s.size) : (ls s).getD k 0 = s[k] := by
  have h' : k < (ls s).length := h
  rw [List.getD_eq_getElem?_getD, List.getElem?_eq_getElem h']; rfl
theorem digit_any (c : UInt8) (w : World) : Calls Tryd.prog 19 #[.int .u8 (c.toNat : Nat)] w fun e w' => (∃ n b, e = .returned (.tuple #[.int .u8 n, .bool b])) ∧ w = w' := by
  by_cases h : Hex.un c < 16
  · exact (digit_yes c w h).mono fun e w' ⟨h1, h2⟩ => ⟨⟨_, _, h1⟩, h2⟩
  · exact (digit_no c w h).mono fun e w' ⟨h1, h2⟩ => ⟨⟨_, _, h1⟩, h2⟩
theorem or4 (H L : Nat) (hH : H < 16) (hL : L < 16) : bits .or .u8 ((H : Int) * 16) (L : Int) = ((16 * H + L : Nat) : Int) := by
  have := u8_or_nat (H * 16) L (by omega) (by omega)
  rw [show ((H * 16 : Nat) : Int) = (H : Int) * 16 by omega] at this
  rw [this]
  have h7 := Nat.two_pow_add_eq_or_of_lt (i := 4) (b := L) (by omega) H
  rw [show H * 16 = 2 ^ 4 * H by omega, ← h7]
/-- What a call of Read answers. -/
def rd (l : List UInt8) : Value := .tuple #[.agg (dig ((readF l).getD zeros32)), .bool (readF l).isSome]
set_option maxHeartbeats 2000000 in
set_option maxRecDepth 100000 in
theorem read_any (s : ByteArray) (w : World) :
    Calls Tryd.prog 9 #[.string s] w fun e w' => e = .returned (rd (ls s)) ∧ Below w.heap.size w w' := by
  have hs1 : (w.alloc (Obj.cells #[Value.int IntKind.u8 0, Value.int IntKind.u8 0, Value.int IntKind.u8 0, Value.int IntKind.u8 0, Value.int IntKind.u8 0, Value.int IntKind.u8 0, Value.int IntKind.u8 0, Value.int IntKind.u8 0, Value.int IntKind.u8 0, Value.int IntKind.u8 0, Value.int IntKind.u8 0, Value.int IntKind.u8 0, Value.int IntKind.u8 0, Value.int IntKind.u8 0, Value.int IntKind.u8 0, Value.int IntKind.u8 0, Value.int IntKind.u8 0, Value.int IntKind.u8 0, Value.int IntKind.u8 0, Value.int IntKind.u8 0, Value.int IntKind.u8 0, Value.int IntKind.u8 0, Value.int IntKind.u8 0, Value.int IntKind.u8 0, Value.int IntKind.u8 0, Value.int IntKind.u8 0, Value.int IntKind.u8 0, Value.int IntKind.u8 0, Value.int IntKind.u8 0, Value.int IntKind.u8 0, Value.int IntKind.u8 0, Value.int IntKind.u8 0] 23)).heap.size = w.heap.size + 1 := Array.size_push _
  have hI2 : Is ((w.alloc (Obj.cells #[Value.int IntKind.u8 0, Value.int IntKind.u8 0, Value.int IntKind.u8 0, Value.int IntKind.u8 0, Value.int IntKind.u8 0, Value.int IntKind.u8 0, Value.int IntKind.u8 0, Value.int IntKind.u8 0, Value.int IntKind.u8 0, Value.int IntKind.u8 0, Value.int IntKind.u8 0, Value.int IntKind.u8 0, Value.int IntKind.u8 0, Value.int IntKind.u8 0, Value.int IntKind.u8 0, Value.int IntKind.u8 0, Value.int IntKind.u8 0, Value.int IntKind.u8 0, Value.int IntKind.u8 0, Value.int IntKind.u8 0, Value.int IntKind.u8 0, Value.int IntKind.u8 0, Value.int IntKind.u8 0, Value.int IntKind.u8 0, Value.int IntKind.u8 0, Value.int IntKind.u8 0, Value.int IntKind.u8 0, Value.int IntKind.u8 0, Value.int IntKind.u8 0, Value.int IntKind.u8 0, Value.int IntKind.u8 0, Value.int IntKind.u8 0] 23)).alloc (Obj.cells #[Value.int IntKind.u8 0, Value.int IntKind.u8 0, Value.int IntKind.u8 0, Value.int IntKind.u8 0, Value.int IntKind.u8 0, Value.int IntKind.u8 0, Value.int IntKind.u8 0, Value.int IntKind.u8 0, Value.int IntKind.u8 0, Value.int IntKind.u8 0, Value.int IntKind.u8 0, Value.int IntKind.u8 0, Value.int IntKind.u8 0, Value.int IntKind.u8 0, Value.int IntKind.u8 0, Value.int IntKind.u8 0, Value.int IntKind.u8 0, Value.int IntKind.u8 0, Value.int IntKind.u8 0, Value.int IntKind.u8 0, Value.int IntKind.u8 0, Value.int IntKind.u8 0, Value.int IntKind.u8 0, Value.int IntKind.u8 0, Value.int IntKind.u8 0, Value.int IntKind.u8 0, Value.int IntKind.u8 0, Value.int IntKind.u8 0, Value.int IntKind.u8 0, Value.int IntKind.u8 0, Value.int IntKind.u8 0, Value.int IntKind.u8 0] 23)) w.heap.size 23 (dig zeros32) := (Is.fresh w 23 _).alloc _
  have hI4 : Is ((w.alloc (Obj.cells #[Value.int IntKind.u8 0, Value.int IntKind.u8 0, Value.int IntKind.u8 0, Value.int IntKind.u8 0, Value.int IntKind.u8 0, Value.int IntKind.u8 0, Value.int IntKind.u8 0, Value.int IntKind.u8 0, Value.int IntKind.u8 0, Value.int IntKind.u8 0, Value.int IntKind.u8 0, Value.int IntKind.u8 0, Value.int IntKind.u8 0, Value.int IntKind.u8 0, Value.int IntKind.u8 0, Value.int IntKind.u8 0, Value.int IntKind.u8 0, Value.int IntKind.u8 0, Value.int IntKind.u8 0, Value.int IntKind.u8 0, Value.int IntKind.u8 0, Value.int IntKind.u8 0, Value.int IntKind.u8 0, Value.int IntKind.u8 0, Value.int IntKind.u8 0, Value.int IntKind.u8 0, Value.int IntKind.u8 0, Value.int IntKind.u8 0, Value.int IntKind.u8 0, Value.int IntKind.u8 0, Value.int IntKind.u8 0, Value.int IntKind.u8 0] 23)).alloc (Obj.cells #[Value.int IntKind.u8 0, Value.int IntKind.u8 0, Value.int IntKind.u8 0, Value.int IntKind.u8 0, Value.int IntKind.u8 0, Value.int IntKind.u8 0, Value.int IntKind.u8 0, Value.int IntKind.u8 0, Value.int IntKind.u8 0, Value.int IntKind.u8 0, Value.int IntKind.u8 0, Value.int IntKind.u8 0, Value.int IntKind.u8 0, Value.int IntKind.u8 0, Value.int IntKind.u8 0, Value.int IntKind.u8 0, Value.int IntKind.u8 0, Value.int IntKind.u8 0, Value.int IntKind.u8 0, Value.int IntKind.u8 0, Value.int IntKind.u8 0, Value.int IntKind.u8 0, Value.int IntKind.u8 0, Value.int IntKind.u8 0, Value.int IntKind.u8 0, Value.int IntKind.u8 0, Value.int IntKind.u8 0, Value.int IntKind.u8 0, Value.int IntKind.u8 0, Value.int IntKind.u8 0, Value.int IntKind.u8 0, Value.int IntKind.u8 0] 23)) (w.heap.size + 1) 23 (digz [] 32) := by
    have := Is.fresh (w.alloc (Obj.cells #[Value.int IntKind.u8 0, Value.int IntKind.u8 0, Value.int IntKind.u8 0, Value.int IntKind.u8 0, Value.int IntKind.u8 0, Value.int IntKind.u8 0, Value.int IntKind.u8 0, Value.int IntKind.u8 0, Value.int IntKind.u8 0, Value.int IntKind.u8 0, Value.int IntKind.u8 0, Value.int IntKind.u8 0, Value.int IntKind.u8 0, Value.int IntKind.u8 0, Value.int IntKind.u8 0, Value.int IntKind.u8 0, Value.int IntKind.u8 0, Value.int IntKind.u8 0, Value.int IntKind.u8 0, Value.int IntKind.u8 0, Value.int IntKind.u8 0, Value.int IntKind.u8 0, Value.int IntKind.u8 0, Value.int IntKind.u8 0, Value.int IntKind.u8 0, Value.int IntKind.u8 0, Value.int IntKind.u8 0, Value.int IntKind.u8 0, Value.int IntKind.u8 0, Value.int IntKind.u8 0, Value.int IntKind.u8 0, Value.int IntKind.u8 0] 23)) 23 #[Value.int IntKind.u8 0, Value.int IntKind.u8 0, Value.int IntKind.u8 0, Value.int IntKind.u8 0, Value.int IntKind.u8 0, Value.int IntKind.u8 0, Value.int IntKind.u8 0, Value.int IntKind.u8 0, Value.int IntKind.u8 0, Value.int IntKind.u8 0, Value.int IntKind.u8 0, Value.int IntKind.u8 0, Value.int IntKind.u8 0, Value.int IntKind.u8 0, Value.int IntKind.u8 0, Value.int IntKind.u8 0, Value.int IntKind.u8 0, Value.int IntKind.u8 0, Value.int IntKind.u8 0, Value.int IntKind.u8 0, Value.int IntKind.u8 0, Value.int IntKind.u8 0, Value.int IntKind.u8 0, Value.int IntKind.u8 0, Value.int IntKind.u8 0, Value.int IntKind.u8 0, Value.int IntKind.u8 0, Value.int IntKind.u8 0, Value.int IntKind.u8 0, Value.int IntKind.u8 0, Value.int IntKind.u8 0, Value.int IntKind.u8 0]
    rwa [hs1] at this
  have hB : Below w.heap.size w ((w.alloc (Obj.cells #[Value.int IntKind.u8 0, Value.int IntKind.u8 0, Value.int IntKind.u8 0, Value.int IntKind.u8 0, Value.int IntKind.u8 0, Value.int IntKind.u8 0, Value.int IntKind.u8 0, Value.int IntKind.u8 0, Value.int IntKind.u8 0, Value.int IntKind.u8 0, Value.int IntKind.u8 0, Value.int IntKind.u8 0, Value.int IntKind.u8 0, Value.int IntKind.u8 0, Value.int IntKind.u8 0, Value.int IntKind.u8 0, Value.int IntKind.u8 0, Value.int IntKind.u8 0, Value.int IntKind.u8 0, Value.int IntKind.u8 0, Value.int IntKind.u8 0, Value.int IntKind.u8 0, Value.int IntKind.u8 0, Value.int IntKind.u8 0, Value.int IntKind.u8 0, Value.int IntKind.u8 0, Value.int IntKind.u8 0, Value.int IntKind.u8 0, Value.int IntKind.u8 0, Value.int IntKind.u8 0, Value.int IntKind.u8 0, Value.int IntKind.u8 0] 23)).alloc (Obj.cells #[Value.int IntKind.u8 0, Value.int IntKind.u8 0, Value.int IntKind.u8 0, Value.int IntKind.u8 0, Value.int IntKind.u8 0, Value.int IntKind.u8 0, Value.int IntKind.u8 0, Value.int IntKind.u8 0, Value.int IntKind.u8 0, Value.int IntKind.u8 0, Value.int IntKind.u8 0, Value.int IntKind.u8 0, Value.int IntKind.u8 0, Value.int IntKind.u8 0, Value.int IntKind.u8 0, Value.int IntKind.u8 0, Value.int IntKind.u8 0, Value.int IntKind.u8 0, Value.int IntKind.u8 0, Value.int IntKind.u8 0, Value.int IntKind.u8 0, Value.int IntKind.u8 0, Value.int IntKind.u8 0, Value.int IntKind.u8 0, Value.int IntKind.u8 0, Value.int IntKind.u8 0, Value.int IntKind.u8 0, Value.int IntKind.u8 0, Value.int IntKind.u8 0, Value.int IntKind.u8 0, Value.int IntKind.u8 0, Value.int IntKind.u8 0] 23)) := ((Below.refl _ _).alloc (Nat.le_refl _) _).alloc (by omega) _
  have hz : (Tryd.prog.info? 23).map (·.size) = some 32 := by kernel_rfl
  have H2 := Lib.hid hI2
  have H4 := Lib.hid hI4
  have HB := Lib.hid hB
  have HZ := Lib.hid hz
  clear hI2 hI4 hB hz
  by_cases h64 : s.size = 64
  · have HL := Lib.hid h64
    have t1 : (s.size : Int) = 64 := by omega
    clear h64
    go_enter Tryd.func9, Tryd.ntmps9
    go_wp2
    obtain ⟨W, hW⟩ : ∃ W, W = (w.alloc (Obj.cells #[Value.int IntKind.u8 0, Value.int IntKind.u8 0, Value.int IntKind.u8 0, Value.int IntKind.u8 0, Value.int IntKind.u8 0, Value.int IntKind.u8 0, Value.int IntKind.u8 0, Value.int IntKind.u8 0, Value.int IntKind.u8 0, Value.int IntKind.u8 0, Value.int IntKind.u8 0, Value.int IntKind.u8 0, Value.int IntKind.u8 0, Value.int IntKind.u8 0, Value.int IntKind.u8 0, Value.int IntKind.u8 0, Value.int IntKind.u8 0, Value.int IntKind.u8 0, Value.int IntKind.u8 0, Value.int IntKind.u8 0, Value.int IntKind.u8 0, Value.int IntKind.u8 0, Value.int IntKind.u8 0, Value.int IntKind.u8 0, Value.int IntKind.u8 0, Value.int IntKind.u8 0, Value.int IntKind.u8 0, Value.int IntKind.u8 0, Value.int IntKind.u8 0, Value.int IntKind.u8 0, Value.int IntKind.u8 0, Value.int IntKind.u8 0] 23)).alloc (Obj.cells #[Value.int IntKind.u8 0, Value.int IntKind.u8 0, Value.int IntKind.u8 0, Value.int IntKind.u8 0, Value.int IntKind.u8 0, Value.int IntKind.u8 0, Value.int IntKind.u8 0, Value.int IntKind.u8 0, Value.int IntKind.u8 0, Value.int IntKind.u8 0, Value.int IntKind.u8 0, Value.int IntKind.u8 0, Value.int IntKind.u8 0, Value.int IntKind.u8 0, Value.int IntKind.u8 0, Value.int IntKind.u8 0, Value.int IntKind.u8 0, Value.int IntKind.u8 0, Value.int IntKind.u8 0, Value.int IntKind.u8 0, Value.int IntKind.u8 0, Value.int IntKind.u8 0, Value.int IntKind.u8 0, Value.int IntKind.u8 0, Value.int IntKind.u8 0, Value.int IntKind.u8 0, Value.int IntKind.u8 0, Value.int IntKind.u8 0, Value.int IntKind.u8 0, Value.int IntKind.u8 0, Value.int IntKind.u8 0, Value.int IntKind.u8 0] 23) := ⟨_, rfl⟩
    rw [← hW] at H2 H4 HB ⊢
    obtain ⟨g, hg⟩ : ∃ g, g = w.heap.size + 1 := ⟨_, rfl⟩
    rw [← hg] at H4 ⊢
    have HG := Lib.hid hg
    clear hg hW hs1
    go_loopw [14] (fun i wr => ∃ k : Nat, k ≤ 32 ∧ i = .int .i64 k ∧ Is wr g 23 (digz (pairs (ls s) k) 32) ∧ Is wr w.heap.size 23 (dig zeros32) ∧ Below w.heap.size w wr ∧ ∀ i, i < 2 * k → Hex.un ((ls s).getD i 0) < 16) (fun i _ => 32 - (intOf i).toNat)
    case atStart => exact ⟨0, by omega, rfl, H4.out, H2.out, HB.out, fun i hi => by omega⟩
    case round =>
      obtain ⟨k, hk, rfl, hI4, hI2, hB, hall⟩ := hrel
      have HI4 := Lib.hid hI4
      have HI2 := Lib.hid hI2
      have HB := Lib.hid hB
      have HALL := Lib.hid hall
      clear hI4 hI2 hB hall
      by_cases hlt : k < 32
      · have i1 : decide ((k : Int) < 32) = true := by simp; omega
        have i2 : (k : Int) < 32 := by omega
        have i3 : (0 : Int) ≤ (k : Int) := by omega
        have n0 : 2 * k < s.size := by have := HL.out; omega
        have n1 : 2 * k + 1 < s.size := by have := HL.out; omega
        have m0 : (2 : Int) * (k : Int) < 64 := by omega
        have m1 : (2 : Int) * (k : Int) + 1 < 64 := by omega
        have m2 : (0 : Int) ≤ (2 : Int) * (k : Int) := by omega
        have m3 : (0 : Int) ≤ (2 : Int) * (k : Int) + 1 := by omega
        obtain ⟨b0, q0⟩ : ∃ b, s[2 * k] = b := ⟨_, rfl⟩
        obtain ⟨b1, q1⟩ : ∃ b, s[2 * k + 1] = b := ⟨_, rfl⟩
        have g0 : (ls s).getD (2 * k) 0 = b0 := (getD_ls s _ n0).trans q0
        have g1 : (ls s).getD (2 * k + 1) 0 = b1 := (getD_ls s _ n1).trans q1
        have G0 := Lib.hid g0
        have G1 := Lib.hid g1
        clear g0 g1
        by_cases hH : Hex.un b0 < 16
        · by_cases hL : Hex.un b1 < 16
          · obtain ⟨A, hA⟩ : ∃ A, A = Hex.un b0 := ⟨_, rfl⟩
            obtain ⟨B, hBB⟩ : ∃ B, B = Hex.un b1 := ⟨_, rfl⟩
            obtain ⟨V, hV⟩ : ∃ V, V = pair (ls s) k := ⟨_, rfl⟩
            have hV2 : V.toNat = 16 * A + B := by
              rw [hV]
              unfold pair
              rw [G0.out, G1.out, ← hA, ← hBB, Hex.toNat_of _ (by omega)]
            have E1 : bits .or .u8 ((A : Int) * 16) (B : Int) = (V.toNat : Int) := by rw [or4 A B (by omega) (by omega), hV2]
            have E2 : bits .or .u8 ((A : Int) * 16 % 256) (B : Int) = (V.toNat : Int) := by rw [Int.emod_eq_of_lt (by omega) (by omega)]; exact E1
            have a1 : A < 16 := by omega
            have b1 : B < 16 := by omega
            have z : (digz (pairs (ls s) k) 32).size = 32 := digz_size _ _ (by rw [pairs_len]; omega)
            obtain ⟨v1, c1⟩ : ∃ u, wr.cell? ⟨g, k, none⟩ = some u := ⟨_, (HI4.out.at_ k).trans (Array.getElem?_eq_getElem (by rw [z]; exact hlt))⟩
            have f1 := HI4.out.open_ k
            have HH := Lib.hid hH
            have HLL := Lib.hid hL
            have HV := Lib.hid hV
            have HA := Lib.hid hA
            have HBB := Lib.hid hBB
            clear hH hL hV hV2 hA hBB z
            go_wp2_with first
              | (go_at_call 19; refine (digit_yes _ _ (by first | exact HH.out | exact HLL.out)).mono ?_; rintro e w1 ⟨rfl, rfl⟩; first | rw [← HA.out] | rw [← HBB.out])
            go_roundw
            case rel =>
              refine ⟨k + 1, by omega, by go_num, ?_, ?_, ?_, ?_⟩
              · have h2 := HI4.out.put k (.int .u8 (V.toNat : Nat))
                have e1 := digz_put (pairs (ls s) k) 32 V (by rw [pairs_len]; exact hlt)
                rw [pairs_len] at e1
                rw [e1] at h2
                rw [pairs_snoc, ← HV.out]
                exact h2
              · exact HI2.out.away (by show w.heap.size ≠ g; have := HG.out; omega) _
              · exact HB.out.setCell (p := ⟨g, k, none⟩) (by show w.heap.size ≤ g; have := HG.out; omega) _
              · intro i hi
                by_cases h1 : i < 2 * k
                · exact HALL.out i h1
                · by_cases h2 : i = 2 * k
                  · rw [h2, G0.out]; exact HH.out
                  · rw [show i = 2 * k + 1 by omega, G1.out]; exact HLL.out
            case measure => simp [intOf]; omega
          · have hbad := read_bad (ls s) (2 * k + 1) n1 (by rw [G1.out]; exact hL)
            have HBAD := Lib.hid hbad
            have HH := Lib.hid hH
            have HLL := Lib.hid hL
            clear hH hL hbad
            go_wp2_with first
              | (go_at_call 19; refine (digit_yes _ _ (by exact HH.out)).mono ?_; rintro e w1 ⟨rfl, rfl⟩)
              | (go_at_call 19; refine (digit_no _ _ (by exact HLL.out)).mono ?_; rintro e w1 ⟨rfl, rfl⟩)
              | (refine wpList_store_row rfl 23 _ _ rfl w.heap.size #[Value.int IntKind.u8 0, Value.int IntKind.u8 0, Value.int IntKind.u8 0, Value.int IntKind.u8 0, Value.int IntKind.u8 0, Value.int IntKind.u8 0, Value.int IntKind.u8 0, Value.int IntKind.u8 0, Value.int IntKind.u8 0, Value.int IntKind.u8 0, Value.int IntKind.u8 0, Value.int IntKind.u8 0, Value.int IntKind.u8 0, Value.int IntKind.u8 0, Value.int IntKind.u8 0, Value.int IntKind.u8 0, Value.int IntKind.u8 0, Value.int IntKind.u8 0, Value.int IntKind.u8 0, Value.int IntKind.u8 0, Value.int IntKind.u8 0, Value.int IntKind.u8 0, Value.int IntKind.u8 0, Value.int IntKind.u8 0, Value.int IntKind.u8 0, Value.int IntKind.u8 0, Value.int IntKind.u8 0, Value.int IntKind.u8 0, Value.int IntKind.u8 0, Value.int IntKind.u8 0, Value.int IntKind.u8 0, Value.int IntKind.u8 0] rfl rfl 23 (dig zeros32) HI2.out HZ.out zz_size zz_one ?_)
            refine bodyPost_ret (v := _) (res_cell2 rfl _ _ w.heap.size #[Value.int IntKind.u8 0, Value.int IntKind.u8 0, Value.int IntKind.u8 0, Value.int IntKind.u8 0, Value.int IntKind.u8 0, Value.int IntKind.u8 0, Value.int IntKind.u8 0, Value.int IntKind.u8 0, Value.int IntKind.u8 0, Value.int IntKind.u8 0, Value.int IntKind.u8 0, Value.int IntKind.u8 0, Value.int IntKind.u8 0, Value.int IntKind.u8 0, Value.int IntKind.u8 0, Value.int IntKind.u8 0, Value.int IntKind.u8 0, Value.int IntKind.u8 0, Value.int IntKind.u8 0, Value.int IntKind.u8 0, Value.int IntKind.u8 0, Value.int IntKind.u8 0, Value.int IntKind.u8 0, Value.int IntKind.u8 0, Value.int IntKind.u8 0, Value.int IntKind.u8 0, Value.int IntKind.u8 0, Value.int IntKind.u8 0, Value.int IntKind.u8 0, Value.int IntKind.u8 0, Value.int IntKind.u8 0, Value.int IntKind.u8 0] _ rfl (HI2.out.row _) Tryd.underlying23 rfl HZ.out) rfl ⟨?_, below_row HB.out (Nat.le_refl _) _⟩
            rw [rd, HBAD.out]; rfl
        · have hbad := read_bad (ls s) (2 * k) n0 (by rw [G0.out]; exact hH)
          have HBAD := Lib.hid hbad
          have HH := Lib.hid hH
          clear hH hbad
          go_wp2_with first
            | (go_at_call 19; refine (digit_no _ _ (by exact HH.out)).mono ?_; rintro e w1 ⟨rfl, rfl⟩)
            | (go_at_call 19; refine (digit_any _ _).mono ?_; rintro e w1 ⟨⟨n, b, rfl⟩, rfl⟩)
            | (refine wpList_store_row rfl 23 _ _ rfl w.heap.size #[Value.int IntKind.u8 0, Value.int IntKind.u8 0, Value.int IntKind.u8 0, Value.int IntKind.u8 0, Value.int IntKind.u8 0, Value.int IntKind.u8 0, Value.int IntKind.u8 0, Value.int IntKind.u8 0, Value.int IntKind.u8 0, Value.int IntKind.u8 0, Value.int IntKind.u8 0, Value.int IntKind.u8 0, Value.int IntKind.u8 0, Value.int IntKind.u8 0, Value.int IntKind.u8 0, Value.int IntKind.u8 0, Value.int IntKind.u8 0, Value.int IntKind.u8 0, Value.int IntKind.u8 0, Value.int IntKind.u8 0, Value.int IntKind.u8 0, Value.int IntKind.u8 0, Value.int IntKind.u8 0, Value.int IntKind.u8 0, Value.int IntKind.u8 0, Value.int IntKind.u8 0, Value.int IntKind.u8 0, Value.int IntKind.u8 0, Value.int IntKind.u8 0, Value.int IntKind.u8 0, Value.int IntKind.u8 0, Value.int IntKind.u8 0] rfl rfl 23 (dig zeros32) HI2.out HZ.out zz_size zz_one ?_)
          refine bodyPost_ret (v := _) (res_cell2 rfl _ _ w.heap.size #[Value.int IntKind.u8 0, Value.int IntKind.u8 0, Value.int IntKind.u8 0, Value.int IntKind.u8 0, Value.int IntKind.u8 0, Value.int IntKind.u8 0, Value.int IntKind.u8 0, Value.int IntKind.u8 0, Value.int IntKind.u8 0, Value.int IntKind.u8 0, Value.int IntKind.u8 0, Value.int IntKind.u8 0, Value.int IntKind.u8 0, Value.int IntKind.u8 0, Value.int IntKind.u8 0, Value.int IntKind.u8 0, Value.int IntKind.u8 0, Value.int IntKind.u8 0, Value.int IntKind.u8 0, Value.int IntKind.u8 0, Value.int IntKind.u8 0, Value.int IntKind.u8 0, Value.int IntKind.u8 0, Value.int IntKind.u8 0, Value.int IntKind.u8 0, Value.int IntKind.u8 0, Value.int IntKind.u8 0, Value.int IntKind.u8 0, Value.int IntKind.u8 0, Value.int IntKind.u8 0, Value.int IntKind.u8 0, Value.int IntKind.u8 0] _ rfl (HI2.out.row _) Tryd.underlying23 rfl HZ.out) rfl ⟨?_, below_row HB.out (Nat.le_refl _) _⟩
          rw [rd, HBAD.out]; rfl
      · have i1 : decide ((k : Int) < 32) = false := by simp; omega
        obtain rfl : k = 32 := by omega
        have hok := read_all (ls s) HL.out HALL.out
        have HOK := Lib.hid hok
        have hd : digz (pairs (ls s) 32) 32 = dig (pairs (ls s) 32) := digz_full _ _ (pairs_len _ _)
        have HD : Hid (Is wr g 23 (dig (pairs (ls s) 32))) := Lib.hid (by rw [← hd]; exact HI4.out)
        have hz2 : (dig (pairs (ls s) 32)).size = 32 := by rw [dig_size, pairs_len]
        have HZ2 := Lib.hid hz2
        have ho : (dig (pairs (ls s) 32)).all (·.oneCell') = true := dig_one _
        have HO := Lib.hid ho
        clear hok hd hz2 ho
        go_wp2_with first
          | (refine wpList_load_row rfl 23 _ rfl g rfl 23 (dig (pairs (ls s) 32)) (0, 0) _ HD.out Tryd.underlying23 rfl (by rw [HZ2.out]; exact HZ.out) ?_)
          | (refine wpList_store_row rfl 23 _ _ rfl w.heap.size (dig (pairs (ls s) 32)) rfl rfl 23 (dig zeros32) HI2.out (by rw [HZ2.out]; exact HZ.out) (by rw [HZ2.out]; rfl) HO.out ?_)
        refine bodyPost_ret (v := _) (res_cell2 rfl _ _ w.heap.size (dig (pairs (ls s) 32)) _ rfl (HI2.out.row _) Tryd.underlying23 rfl (by rw [HZ2.out]; exact HZ.out)) rfl ⟨?_, below_row HB.out (Nat.le_refl _) _⟩
        rw [rd, HOK.out]; rfl
  · have hno : readF (ls s) = none := by unfold readF; rw [if_neg (by rw [ls_length]; exact h64)]
    have HNO := Lib.hid hno
    have t1 : ¬ (s.size : Int) = 64 := by omega
    have t2 : ((s.size : Int) == 64) = false := by simpa using t1
    have t3 : ((s.size : Int) != 64) = true := by simpa using t1
    clear hno
    go_enter Tryd.func9, Tryd.ntmps9
    go_wp2_with (refine wpList_store_row rfl 23 _ _ rfl w.heap.size #[Value.int IntKind.u8 0, Value.int IntKind.u8 0, Value.int IntKind.u8 0, Value.int IntKind.u8 0, Value.int IntKind.u8 0, Value.int IntKind.u8 0, Value.int IntKind.u8 0, Value.int IntKind.u8 0, Value.int IntKind.u8 0, Value.int IntKind.u8 0, Value.int IntKind.u8 0, Value.int IntKind.u8 0, Value.int IntKind.u8 0, Value.int IntKind.u8 0, Value.int IntKind.u8 0, Value.int IntKind.u8 0, Value.int IntKind.u8 0, Value.int IntKind.u8 0, Value.int IntKind.u8 0, Value.int IntKind.u8 0, Value.int IntKind.u8 0, Value.int IntKind.u8 0, Value.int IntKind.u8 0, Value.int IntKind.u8 0, Value.int IntKind.u8 0, Value.int IntKind.u8 0, Value.int IntKind.u8 0, Value.int IntKind.u8 0, Value.int IntKind.u8 0, Value.int IntKind.u8 0, Value.int IntKind.u8 0, Value.int IntKind.u8 0] rfl rfl 23 (dig zeros32) H2.out HZ.out zz_size zz_one ?_)
    refine bodyPost_ret (v := _) (res_cell2 rfl _ _ w.heap.size #[Value.int IntKind.u8 0, Value.int IntKind.u8 0, Value.int IntKind.u8 0, Value.int IntKind.u8 0, Value.int IntKind.u8 0, Value.int IntKind.u8 0, Value.int IntKind.u8 0, Value.int IntKind.u8 0, Value.int IntKind.u8 0, Value.int IntKind.u8 0, Value.int IntKind.u8 0, Value.int IntKind.u8 0, Value.int IntKind.u8 0, Value.int IntKind.u8 0, Value.int IntKind.u8 0, Value.int IntKind.u8 0, Value.int IntKind.u8 0, Value.int IntKind.u8 0, Value.int IntKind.u8 0, Value.int IntKind.u8 0, Value.int IntKind.u8 0, Value.int IntKind.u8 0, Value.int IntKind.u8 0, Value.int IntKind.u8 0, Value.int IntKind.u8 0, Value.int IntKind.u8 0, Value.int IntKind.u8 0, Value.int IntKind.u8 0, Value.int IntKind.u8 0, Value.int IntKind.u8 0, Value.int IntKind.u8 0, Value.int IntKind.u8 0] _ rfl (H2.out.row _) Tryd.underlying23 rfl HZ.out) rfl ⟨?_, below_row HB.out (Nat.le_refl _) _⟩
    rw [rd, HNO.out]; rfl
end Go.Proofs.YtdkhinjogomdaaaDoor
