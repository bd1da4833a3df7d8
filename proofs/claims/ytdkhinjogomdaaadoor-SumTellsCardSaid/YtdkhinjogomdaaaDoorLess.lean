/-
  The two functions Less.
-/
import Derived.Test.YtdkhinjogomdaaaDoorMem
import Derived.Outline
import Derived.BigQuiet
namespace Go.Proofs.YtdkhinjogomdaaaDoor
open Go.RowKit
/-- A byte string's cells. -/
def dig (l : List UInt8) : Array Value := (l.map fun b => Value.int .u8 (b.toNat : Nat)).toArray
theorem dig_at (l : List UInt8) (k : Nat) (h : k < l.length) : (dig l)[k]? = some (.int .u8 (l[k].toNat : Nat)) := by
  unfold dig
  simp [h]
theorem dig_size (l : List UInt8) : (dig l).size = l.length := by simp [dig]
theorem less_step (x : UInt8) (a b : List UInt8) : Op.bytesLess (x :: a) (x :: b) = Op.bytesLess a b := by
  simp [Op.bytesLess]
theorem less_at (k : Nat) (a b : List UInt8) (ha : k < a.length) (hb : k < b.length) (ht : a.take k = b.take k) (hn : a[k].toNat ≠ b[k].toNat) : Op.bytesLess a b = decide (a[k].toNat < b[k].toNat) := by
  induction k generalizing a b with
  | zero =>
    match a, b, ha, hb with
    | x :: a, y :: b, _, _ =>
      simp only [List.getElem_cons_zero] at hn ⊢
      have hne : (x == y) = false := by simp; exact fun e => hn (by rw [e])
      simp [Op.bytesLess, hne, UInt8.lt_iff_toNat_lt]
  | succ k ih =>
    match a, b, ha, hb with
    | x :: a, y :: b, ha, hb =>
      simp only [List.take_succ_cons, List.cons.injEq] at ht
      obtain ⟨rfl, ht⟩ := ht
      simp only [List.getElem_cons_succ] at hn ⊢
      rw [less_step]
      exact ih a b (by simpa using ha) (by simpa using hb) ht hn

set_option maxRecDepth 20000 in
theorem less_any (a b : List UInt8) (w : World) (ha : a.length = 32) (hb : b.length = 32) :
    Calls Tryd.prog 17 #[.agg (dig a), .agg (dig b)] w fun e w' => e = .returned (.bool (Op.bytesLess a b)) ∧ Below w.heap.size w w' := by
  go_enter Tryd.func17, Tryd.ntmps17
  go_wp2
  have hI1 : Is ((w.alloc (Obj.cells (dig a) 23)).alloc (Obj.cells (dig b) 23)) w.heap.size 23 (dig a) := (Is.fresh w 23 (dig a)).alloc _
  have hI2 : Is ((w.alloc (Obj.cells (dig a) 23)).alloc (Obj.cells (dig b) 23)) (w.heap.size + 1) 23 (dig b) := by
    have := Is.fresh (w.alloc (Obj.cells (dig a) 23)) 23 (dig b)
    rwa [show (w.alloc (Obj.cells (dig a) 23)).heap.size = w.heap.size + 1 from Array.size_push _] at this
  have hB : Below w.heap.size w ((w.alloc (Obj.cells (dig a) 23)).alloc (Obj.cells (dig b) 23)) := ((Below.refl _ _).alloc (Nat.le_refl _) _).alloc (by show w.heap.size ≤ (w.heap.push _).size; rw [Array.size_push]; omega) _
  obtain ⟨W, hW⟩ : ∃ W, W = (w.alloc (Obj.cells (dig a) 23)).alloc (Obj.cells (dig b) 23) := ⟨_, rfl⟩
  rw [← hW] at hI1 hI2 hB ⊢
  obtain ⟨g, hg⟩ : ∃ g, g = w.heap.size := ⟨_, rfl⟩
  rw [← hg] at hI1 hI2 ⊢
  have H1 := Lib.hid hI1
  have H2 := Lib.hid hI2
  have HB := Lib.hid hB
  have HA := Lib.hid ha
  have HB2 := Lib.hid hb
  clear hI1 hI2 hB hW hg ha hb
  go_loopw [6] (fun i wr => ∃ k j : Nat, k ≤ 32 ∧ i = .int .i64 k ∧ a.take k = b.take k ∧ wr = W.drewN j) (fun i _ => 32 - (intOf i).toNat)
  case atStart => exact ⟨0, 0, by omega, rfl, rfl, rfl⟩
  case round =>
    obtain ⟨k, j, hk, rfl, ht, rfl⟩ := hrel
    have HT := Lib.hid ht
    clear ht
    by_cases hlt : k < 32
    · have hla : k < a.length := by rw [HA.out]; exact hlt
      have hlb : k < b.length := by rw [HB2.out]; exact hlt
      obtain ⟨x, hx⟩ : ∃ x, x = a[k].toNat := ⟨_, rfl⟩
      obtain ⟨y, hy⟩ : ∃ y, y = b[k].toNat := ⟨_, rfl⟩
      have c1 : (W.drewN j).cell? ⟨g, k, none⟩ = some (.int .u8 (x : Nat)) := by
        have := H1.out.at_ k
        rw [dig_at a k hla, ← hx] at this
        exact this
      have c2 : (W.drewN j).cell? ⟨g + 1, k, none⟩ = some (.int .u8 (y : Nat)) := by
        have := H2.out.at_ k
        rw [dig_at b k hlb, ← hy] at this
        exact this
      have c3 : W.cell? ⟨g, k, none⟩ = some (.int .u8 (x : Nat)) := c1
      have c4 : W.cell? ⟨g + 1, k, none⟩ = some (.int .u8 (y : Nat)) := c2
      have i1 : decide ((k : Int) < 32) = true := by simp; omega
      have i2 : (k : Int) < 32 := by omega
      have i3 : (0 : Int) ≤ (k : Int) := by omega
      by_cases he : x = y
      · have HE : Hid (a[k] = b[k]) := Lib.hid (UInt8.toNat_inj.1 (by rw [← hx, ← hy, he]))
        subst he
        clear hx hy
        go_wp2
        go_quiet (fail)
        go_wp2
        go_roundw
        case rel =>
          refine ⟨k + 1, _, by omega, by go_num, ?_, rfl⟩
          rw [List.take_succ_eq_append_getElem hla, List.take_succ_eq_append_getElem hlb, HT.out, HE.out]
        case measure => simp [intOf]; omega
      · have hL : Op.bytesLess a b = decide (x < y) := by
          have := less_at k a b hla hlb HT.out (by rw [← hx, ← hy]; exact he)
          rw [this, hx, hy]
        have HL := Lib.hid hL
        have n1 : ((x : Int) == (y : Int)) = false := by simp; omega
        have n2 : (x == y) = false := by simp; omega
        clear hL hx hy
        go_wp2
        go_quiet (fail)
        go_wp2
        go_quiet (fail)
        go_wp2
        go_ret
        exact ⟨by rw [HL.out]; first | rfl | simp, below_drew (below_drew (below_drew HB.out _) _) _⟩
    · have i1 : decide ((k : Int) < 32) = false := by simp; omega
      have hL : Op.bytesLess a b = false := by
        have h1 := HT.out
        rw [List.take_of_length_le (by rw [HA.out]; omega), List.take_of_length_le (by rw [HB2.out]; omega)] at h1
        rw [h1]
        exact Hex.less_irrefl b
      have HL := Lib.hid hL
      clear hL
      go_wp2
      go_ret
      exact ⟨by rw [HL.out]; rfl, below_drew HB.out _⟩

set_option maxRecDepth 20000 in
theorem rless_any (a b : List UInt8) (w : World) (ha : a.length = 32) (hb : b.length = 32) :
    Calls Tryd.prog 18 #[.agg (dig a), .agg (dig b)] w fun e w' => e = .returned (.bool (Op.bytesLess a b)) ∧ Below w.heap.size w w' := by
  go_enter Tryd.func18, Tryd.ntmps18
  go_wp2
  have hI1 : Is ((w.alloc (Obj.cells (dig a) 23)).alloc (Obj.cells (dig b) 23)) w.heap.size 23 (dig a) := (Is.fresh w 23 (dig a)).alloc _
  have hI2 : Is ((w.alloc (Obj.cells (dig a) 23)).alloc (Obj.cells (dig b) 23)) (w.heap.size + 1) 23 (dig b) := by
    have := Is.fresh (w.alloc (Obj.cells (dig a) 23)) 23 (dig b)
    rwa [show (w.alloc (Obj.cells (dig a) 23)).heap.size = w.heap.size + 1 from Array.size_push _] at this
  have hB : Below w.heap.size w ((w.alloc (Obj.cells (dig a) 23)).alloc (Obj.cells (dig b) 23)) := ((Below.refl _ _).alloc (Nat.le_refl _) _).alloc (by show w.heap.size ≤ (w.heap.push _).size; rw [Array.size_push]; omega) _
  obtain ⟨W, hW⟩ : ∃ W, W = (w.alloc (Obj.cells (dig a) 23)).alloc (Obj.cells (dig b) 23) := ⟨_, rfl⟩
  rw [← hW] at hI1 hI2 hB ⊢
  obtain ⟨g, hg⟩ : ∃ g, g = w.heap.size := ⟨_, rfl⟩
  rw [← hg] at hI1 hI2 ⊢
  have H1 := Lib.hid hI1
  have H2 := Lib.hid hI2
  have HB := Lib.hid hB
  have HA := Lib.hid ha
  have HB2 := Lib.hid hb
  clear hI1 hI2 hB hW hg ha hb
  go_loopw [5] (fun i wr => ∃ k j : Nat, k ≤ 32 ∧ i = .int .i64 k ∧ a.take k = b.take k ∧ wr = W.drewN j) (fun i _ => 32 - (intOf i).toNat)
  case atStart => exact ⟨0, 0, by omega, rfl, rfl, rfl⟩
  case round =>
    obtain ⟨k, j, hk, rfl, ht, rfl⟩ := hrel
    have HT := Lib.hid ht
    clear ht
    by_cases hlt : k < 32
    · have hla : k < a.length := by rw [HA.out]; exact hlt
      have hlb : k < b.length := by rw [HB2.out]; exact hlt
      obtain ⟨x, hx⟩ : ∃ x, x = a[k].toNat := ⟨_, rfl⟩
      obtain ⟨y, hy⟩ : ∃ y, y = b[k].toNat := ⟨_, rfl⟩
      have c1 : (W.drewN j).cell? ⟨g, k, none⟩ = some (.int .u8 (x : Nat)) := by
        have := H1.out.at_ k
        rw [dig_at a k hla, ← hx] at this
        exact this
      have c2 : (W.drewN j).cell? ⟨g + 1, k, none⟩ = some (.int .u8 (y : Nat)) := by
        have := H2.out.at_ k
        rw [dig_at b k hlb, ← hy] at this
        exact this
      have c3 : W.cell? ⟨g, k, none⟩ = some (.int .u8 (x : Nat)) := c1
      have c4 : W.cell? ⟨g + 1, k, none⟩ = some (.int .u8 (y : Nat)) := c2
      have i1 : decide ((k : Int) < 32) = true := by simp; omega
      have i2 : (k : Int) < 32 := by omega
      have i3 : (0 : Int) ≤ (k : Int) := by omega
      by_cases he : x = y
      · have HE : Hid (a[k] = b[k]) := Lib.hid (UInt8.toNat_inj.1 (by rw [← hx, ← hy, he]))
        subst he
        clear hx hy
        go_wp2
        go_quiet (fail)
        go_wp2
        go_roundw
        case rel =>
          refine ⟨k + 1, _, by omega, by go_num, ?_, rfl⟩
          rw [List.take_succ_eq_append_getElem hla, List.take_succ_eq_append_getElem hlb, HT.out, HE.out]
        case measure => simp [intOf]; omega
      · have hL : Op.bytesLess a b = decide (x < y) := by
          have := less_at k a b hla hlb HT.out (by rw [← hx, ← hy]; exact he)
          rw [this, hx, hy]
        have HL := Lib.hid hL
        have n1 : ((x : Int) == (y : Int)) = false := by simp; omega
        have n2 : (x == y) = false := by simp; omega
        clear hL hx hy
        go_wp2
        go_quiet (fail)
        go_wp2
        go_quiet (fail)
        go_wp2
        go_ret
        exact ⟨by rw [HL.out]; first | rfl | simp, below_drew (below_drew (below_drew HB.out _) _) _⟩
    · have i1 : decide ((k : Int) < 32) = false := by simp; omega
      have hL : Op.bytesLess a b = false := by
        have h1 := HT.out
        rw [List.take_of_length_le (by rw [HA.out]; omega), List.take_of_length_le (by rw [HB2.out]; omega)] at h1
        rw [h1]
        exact Hex.less_irrefl b
      have HL := Lib.hid hL
      clear hL
      go_wp2
      go_ret
      exact ⟨by rw [HL.out]; rfl, below_drew HB.out _⟩
end Go.Proofs.YtdkhinjogomdaaaDoor
