/-
  The code's Read.
-/
import Derived.Test.YtmcdbjkmkbdeiaaDoorS3HexA
import Derived.Test.YtmcdbjkmkbdeiaaDoorS3Dig
import Derived.Laws.ResultCell
namespace Go.Proofs.YtmcdbjkmkbdeiaaDoor.S3
open Go.RowKit
theorem res_cell2 {P : Program} {fn : Func} {p u : Tmp} {ty : TypeId} (h : fn.results = #[.cell p ty, .tmp u]) (tmps : Array Value) (w : World) (g : Nat) (c : Array Value) (d : TypeDesc)
    (hp : tmps.getD p undef = .pointer (some ⟨g, 0, none⟩)) (hg : Is w g ty c) (hu : P.underlying ty = some d) (hd : (match d with | .struct _ | .array _ _ => true | _ => false) = true)
    (hi : (P.info? ty).map (·.size) = some c.size) : (results fn tmps).run P w = .ok (.tuple #[.agg c, tmps.getD u undef]) w := by
  rw [results_cell_tmp h, hp]
  simp [asAddr, Result.andThen, run_loadVar_row w g ty ty c (0, 0) d hg hu hd hi]
/-- The byte that two digits give. -/
def pair (l : List UInt8) (j : Nat) : UInt8 := UInt8.ofNat (16 * Hex.un (l.getD (2 * j) 0) + Hex.un (l.getD (2 * j + 1) 0))
def pairs (l : List UInt8) (k : Nat) : List UInt8 := (List.range k).map (pair l)
theorem pairs_snoc (l : List UInt8) (k : Nat) : pairs l (k + 1) = pairs l k ++ [pair l k] := by
  unfold pairs; rw [List.range_succ, List.map_append]; rfl
theorem pairs_len (l : List UInt8) (k : Nat) : (pairs l k).length = k := by simp [pairs]
theorem unhex_all (n : Nat) (l : List UInt8) (hl : l.length = 2 * n) (h : ∀ i, i < 2 * n → Hex.un (l.getD i 0) < 16) : Hex.unhex l = some (pairs l n) := by
  induction n generalizing l with
  | zero =>
    obtain rfl := List.eq_nil_of_length_eq_zero (by omega : l.length = 0)
    rfl
  | succ n ih =>
    match l, hl with
    | a :: b :: r, hl =>
      have h0 := h 0 (by omega)
      have h1 := h 1 (by omega)
      simp only [List.getD_cons_zero, List.getD_cons_succ] at h0 h1
      have hr := ih r (by simp at hl; omega) (fun i hi => by
        have := h (i + 2) (by omega)
        simpa using this)
      rw [Hex.unhex, if_pos ⟨h0, h1⟩, hr]
      simp only [Option.map_some, Option.some.injEq]
      unfold pairs
      rw [List.range_succ_eq_map, List.map_cons, List.map_map]
      congr 1
theorem unhex_bad (l : List UInt8) (i : Nat) (hi : i < l.length) (h : ¬ Hex.un (l.getD i 0) < 16) : Hex.unhex l = none := by
  match l, i, hi with
  | [a], 0, _ => rfl
  | a :: b :: r, 0, _ =>
    rw [Hex.unhex, if_neg]
    simp only [List.getD_cons_zero] at h
    exact fun e => h e.1
  | a :: b :: r, 1, _ =>
    rw [Hex.unhex, if_neg]
    simp only [List.getD_cons_zero, List.getD_cons_succ] at h
    exact fun e => h e.2
  | a :: b :: r, i + 2, hi =>
    have := unhex_bad r i (by simp at hi; omega) (by simpa using h)
    rw [Hex.unhex, this]
    split <;> rfl
/-- What Read answers. -/
def readF (l : List UInt8) : Option (List UInt8) := if l.length = 64 then Hex.unhex l else none
def zeros32 : List UInt8 := List.replicate 32 0
theorem digz_nil : digz [] 32 = dig zeros32 := by unfold digz zeros32; rfl
theorem zz_eq : #[Value.int IntKind.u8 0, Value.int IntKind.u8 0, Value.int IntKind.u8 0, Value.int IntKind.u8 0, Value.int IntKind.u8 0, Value.int IntKind.u8 0, Value.int IntKind.u8 0, Value.int IntKind.u8 0, Value.int IntKind.u8 0, Value.int IntKind.u8 0, Value.int IntKind.u8 0, Value.int IntKind.u8 0, Value.int IntKind.u8 0, Value.int IntKind.u8 0, Value.int IntKind.u8 0, Value.int IntKind.u8 0, Value.int IntKind.u8 0, Value.int IntKind.u8 0, Value.int IntKind.u8 0, Value.int IntKind.u8 0, Value.int IntKind.u8 0, Value.int IntKind.u8 0, Value.int IntKind.u8 0, Value.int IntKind.u8 0, Value.int IntKind.u8 0, Value.int IntKind.u8 0, Value.int IntKind.u8 0, Value.int IntKind.u8 0, Value.int IntKind.u8 0, Value.int IntKind.u8 0, Value.int IntKind.u8 0, Value.int IntKind.u8 0] = dig zeros32 := rfl
theorem dig_one (l : List UInt8) : (dig l).all (·.oneCell') = true := by
  unfold dig
  simp
  intro x hx
  rfl
theorem zz_one : (#[Value.int IntKind.u8 0, Value.int IntKind.u8 0, Value.int IntKind.u8 0, Value.int IntKind.u8 0, Value.int IntKind.u8 0, Value.int IntKind.u8 0, Value.int IntKind.u8 0, Value.int IntKind.u8 0, Value.int IntKind.u8 0, Value.int IntKind.u8 0, Value.int IntKind.u8 0, Value.int IntKind.u8 0, Value.int IntKind.u8 0, Value.int IntKind.u8 0, Value.int IntKind.u8 0, Value.int IntKind.u8 0, Value.int IntKind.u8 0, Value.int IntKind.u8 0, Value.int IntKind.u8 0, Value.int IntKind.u8 0, Value.int IntKind.u8 0, Value.int IntKind.u8 0, Value.int IntKind.u8 0, Value.int IntKind.u8 0, Value.int IntKind.u8 0, Value.int IntKind.u8 0, Value.int IntKind.u8 0, Value.int IntKind.u8 0, Value.int IntKind.u8 0, Value.int IntKind.u8 0, Value.int IntKind.u8 0, Value.int IntKind.u8 0] : Array Value).all (·.oneCell') = true := by rw [zz_eq]; exact dig_one _
theorem zz_size : (dig zeros32).size = (#[Value.int IntKind.u8 0, Value.int IntKind.u8 0, Value.int IntKind.u8 0, Value.int IntKind.u8 0, Value.int IntKind.u8 0, Value.int IntKind.u8 0, Value.int IntKind.u8 0, Value.int IntKind.u8 0, Value.int IntKind.u8 0, Value.int IntKind.u8 0, Value.int IntKind.u8 0, Value.int IntKind.u8 0, Value.int IntKind.u8 0, Value.int IntKind.u8 0, Value.int IntKind.u8 0, Value.int IntKind.u8 0, Value.int IntKind.u8 0, Value.int IntKind.u8 0, Value.int IntKind.u8 0, Value.int IntKind.u8 0, Value.int IntKind.u8 0, Value.int IntKind.u8 0, Value.int IntKind.u8 0, Value.int IntKind.u8 0, Value.int IntKind.u8 0, Value.int IntKind.u8 0, Value.int IntKind.u8 0, Value.int IntKind.u8 0, Value.int IntKind.u8 0, Value.int IntKind.u8 0, Value.int IntKind.u8 0, Value.int IntKind.u8 0] : Array Value).size := by rw [zz_eq]
theorem read_bad (l : List UInt8) (i : Nat) (hi : i < l.length) (h : ¬ Hex.un (l.getD i 0) < 16) : readF l = none := by
  unfold readF
  split
  · exact unhex_bad l i hi h
  · rfl
theorem read_all (l : List UInt8) (hl : l.length = 64) (h : ∀ i, i < 64 → Hex.un (l.getD i 0) < 16) : readF l = some (pairs l 32) := by
  unfold readF
  rw [if_pos hl]
  exact unhex_all 32 l hl h
theorem getD_ls (s : ByteArray) (k : Nat) (h : k < s.size) : (ls s).getD k 0 = s[k] := by
  have h' : k < (ls s).length := h
  rw [List.getD_eq_getElem?_getD, List.getElem?_eq_getElem h']; rfl
theorem or4 (H L : Nat) (hH : H < 16) (hL : L < 16) : bits .or .u8 ((H : Int) * 16) (L : Int) = ((16 * H + L : Nat) : Int) := by
  have := u8_or_nat (H * 16) L (by omega) (by omega)
  rw [show ((H * 16 : Nat) : Int) = (H : Int) * 16 by omega] at this
  rw [this]
  have h7 := Nat.two_pow_add_eq_or_of_lt (i := 4) (b := L) (by omega) H
  rw [show H * 16 = 2 ^ 4 * H by omega, ← h7]
/-- What a call of Read answers. -/
def rd (l : List UInt8) : Value := .tuple #[.agg (dig ((readF l).getD zeros32)), .bool (readF l).isSome]
end Go.Proofs.YtmcdbjkmkbdeiaaDoor.S3
