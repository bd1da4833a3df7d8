/-
  SumBurst: what the law's function does at whatever input.
-/
import Derived.Test.YtdkhinjogomdaaaDoorGoes
namespace Go.Proofs.YtdkhinjogomdaaaDoor
open Go.RowKit Go.Sort
/-- The five bytes of the change. -/
def mask (x i : Nat) : UInt8 := UInt8.ofNat (x / 256 ^ i % 256)
/-- The first k of the changed bytes. -/
def changed (f : List UInt8) (x k : Nat) : List UInt8 := (List.range k).map fun i => f.getD i 0 ^^^ mask x i
theorem changed_len (f : List UInt8) (x k : Nat) : (changed f x k).length = k := by simp [changed]
theorem changed_snoc (f : List UInt8) (x k : Nat) : changed f x (k + 1) = changed f x k ++ [f.getD k 0 ^^^ mask x k] := by
  unfold changed; rw [List.range_succ, List.map_append]; rfl
theorem u8_back (a b : UInt8) : a ^^^ (a ^^^ b) = b := by
  apply UInt8.toNat_inj.1
  rw [UInt8.toNat_xor, UInt8.toNat_xor, ← Nat.xor_assoc, Nat.xor_self, Nat.zero_xor]
theorem burst_crc (p q f : List UInt8) (hf : f.length = 5) (v : BitVec 32) (hv : v ≠ 0#32) (s : Nat) (hs : s ≤ 8) :
    Math.crc (p ++ f ++ q) ≠ Math.crc (p ++ changed f (v.toNat * 2 ^ s) 5 ++ q) := by
  intro h
  unfold Math.crc at h
  have h1 := Math.not_inj _ _ h
  rw [Math.feeds_append, Math.feeds_append, Math.feeds_append, Math.feeds_append] at h1
  have h2 := Math.feeds_inj _ _ _ h1
  match f, hf with
  | [a, b, c, d, e], _ =>
    have h3 := Math.feeds_xor (Math.feeds 0xffffffff#32 p) (Math.feeds 0xffffffff#32 p) [a, b, c, d, e] (changed [a, b, c, d, e] (v.toNat * 2 ^ s) 5) (by rw [changed_len]; rfl)
    rw [h2, BitVec.xor_self, BitVec.xor_self] at h3
    have e1 : changed [a, b, c, d, e] (v.toNat * 2 ^ s) 5 = [a ^^^ mask (v.toNat * 2 ^ s) 0, b ^^^ mask (v.toNat * 2 ^ s) 1, c ^^^ mask (v.toNat * 2 ^ s) 2, d ^^^ mask (v.toNat * 2 ^ s) 3, e ^^^ mask (v.toNat * 2 ^ s) 4] := rfl
    rw [e1] at h3
    simp only [List.zipWith_cons_cons, List.zipWith_nil_left, u8_back] at h3
    exact Math.burst v hv s hs _ _ _ _ _ (Math.burst_bytes v s 0 (by omega)) (Math.burst_bytes v s 1 (by omega)) (Math.burst_bytes v s 2 (by omega)) (Math.burst_bytes v s 3 (by omega)) (Math.burst_last v s hs) h3
theorem burst_1 (a b : ByteArray) (f : List UInt8) (y : Nat) (sh : Int) (w : World) (hw : Tabs w) (h : 1000 < a.size) :
    Calls Tryd.prog 4 #[.string a, .string b, .agg (dig f), .int .u32 y, .int .i64 sh] w fun e w' => e = .returned (.bool true) ∧ Below w.heap.size w w' := by
  have hB7 : Below w.heap.size w (w.alloc (Obj.cells (dig f) 33)) := (Below.refl _ _).alloc (Nat.le_refl _) _
  have hs7 : (w.alloc (Obj.cells (dig f) 33)).heap.size = w.heap.size + 1 := Array.size_push _
  have C := small_hid _ (hw.below hB7 hw.1)
  have B7 := Lib.hid hB7
  have S7 := Lib.hid hs7
  have d1 : decide ((1000 : Int) < (a.size : Int)) = true := by simp; omega
  clear hw hB7 hs7
  go_enter Tryd.func4, Tryd.ntmps4
  go_wp2_with (go_at_call 8; refine C.out.mono ?_; rintro e w1 ⟨rfl, hb⟩; have B1 := Lib.hid hb; clear hb)
  go_ret
  exact ⟨rfl, B7.out.trans (B1.out.mono (by rw [S7.out]; omega))⟩
theorem burst_2 (a b : ByteArray) (f : List UInt8) (y : Nat) (sh : Int) (w : World) (hw : Tabs w) (h1 : a.size ≤ 1000) (h : 1000 < b.size) :
    Calls Tryd.prog 4 #[.string a, .string b, .agg (dig f), .int .u32 y, .int .i64 sh] w fun e w' => e = .returned (.bool true) ∧ Below w.heap.size w w' := by
  have hB7 : Below w.heap.size w (w.alloc (Obj.cells (dig f) 33)) := (Below.refl _ _).alloc (Nat.le_refl _) _
  have hs7 : (w.alloc (Obj.cells (dig f) 33)).heap.size = w.heap.size + 1 := Array.size_push _
  have C := small_hid _ (hw.below hB7 hw.1)
  have B7 := Lib.hid hB7
  have S7 := Lib.hid hs7
  have d1 : decide ((1000 : Int) < (a.size : Int)) = false := by simp; omega
  have d2 : decide ((1000 : Int) < (b.size : Int)) = true := by simp; omega
  clear hw hB7 hs7
  go_enter Tryd.func4, Tryd.ntmps4
  go_wp2_with (go_at_call 8; refine C.out.mono ?_; rintro e w1 ⟨rfl, hb⟩; have B1 := Lib.hid hb; clear hb)
  go_ret
  exact ⟨rfl, B7.out.trans (B1.out.mono (by rw [S7.out]; omega))⟩
theorem burst_3 (a b : ByteArray) (f : List UInt8) (y : Nat) (sh : Int) (w : World) (hw : Tabs w) (h1 : a.size ≤ 1000) (h2 : b.size ≤ 1000) (h : y = 0) :
    Calls Tryd.prog 4 #[.string a, .string b, .agg (dig f), .int .u32 y, .int .i64 sh] w fun e w' => e = .returned (.bool true) ∧ Below w.heap.size w w' := by
  have hB7 : Below w.heap.size w (w.alloc (Obj.cells (dig f) 33)) := (Below.refl _ _).alloc (Nat.le_refl _) _
  have hs7 : (w.alloc (Obj.cells (dig f) 33)).heap.size = w.heap.size + 1 := Array.size_push _
  have C := small_hid _ (hw.below hB7 hw.1)
  have B7 := Lib.hid hB7
  have S7 := Lib.hid hs7
  have d1 : decide ((1000 : Int) < (a.size : Int)) = false := by simp; omega
  have d2 : decide ((1000 : Int) < (b.size : Int)) = false := by simp; omega
  subst h
  clear hw hB7 hs7
  go_enter Tryd.func4, Tryd.ntmps4
  go_wp2_with (go_at_call 8; refine C.out.mono ?_; rintro e w1 ⟨rfl, hb⟩; have B1 := Lib.hid hb; clear hb)
  go_ret
  exact ⟨rfl, B7.out.trans (B1.out.mono (by rw [S7.out]; omega))⟩
theorem burst_4 (a b : ByteArray) (f : List UInt8) (y : Nat) (sh : Int) (w : World) (hw : Tabs w) (h1 : a.size ≤ 1000) (h2 : b.size ≤ 1000) (h3 : y ≠ 0) (h : sh < 0) :
    Calls Tryd.prog 4 #[.string a, .string b, .agg (dig f), .int .u32 y, .int .i64 sh] w fun e w' => e = .returned (.bool true) ∧ Below w.heap.size w w' := by
  have hB7 : Below w.heap.size w (w.alloc (Obj.cells (dig f) 33)) := (Below.refl _ _).alloc (Nat.le_refl _) _
  have hs7 : (w.alloc (Obj.cells (dig f) 33)).heap.size = w.heap.size + 1 := Array.size_push _
  have C := small_hid _ (hw.below hB7 hw.1)
  have B7 := Lib.hid hB7
  have S7 := Lib.hid hs7
  have d1 : decide ((1000 : Int) < (a.size : Int)) = false := by simp; omega
  have d2 : decide ((1000 : Int) < (b.size : Int)) = false := by simp; omega
  have d3 : ((y : Int) == 0) = false := by simp; omega
  have d3' : ¬ (y : Int) = 0 := by omega
  have d4 : decide (sh < 0) = true := by simp; omega
  clear hw hB7 hs7
  go_enter Tryd.func4, Tryd.ntmps4
  go_wp2_with (go_at_call 8; refine C.out.mono ?_; rintro e w1 ⟨rfl, hb⟩; have B1 := Lib.hid hb; clear hb)
  go_ret
  exact ⟨rfl, B7.out.trans (B1.out.mono (by rw [S7.out]; omega))⟩
theorem burst_5 (a b : ByteArray) (f : List UInt8) (y : Nat) (sh : Int) (w : World) (hw : Tabs w) (h1 : a.size ≤ 1000) (h2 : b.size ≤ 1000) (h3 : y ≠ 0) (h4 : 0 ≤ sh) (h : 8 < sh) :
    Calls Tryd.prog 4 #[.string a, .string b, .agg (dig f), .int .u32 y, .int .i64 sh] w fun e w' => e = .returned (.bool true) ∧ Below w.heap.size w w' := by
  have hB7 : Below w.heap.size w (w.alloc (Obj.cells (dig f) 33)) := (Below.refl _ _).alloc (Nat.le_refl _) _
  have hs7 : (w.alloc (Obj.cells (dig f) 33)).heap.size = w.heap.size + 1 := Array.size_push _
  have C := small_hid _ (hw.below hB7 hw.1)
  have B7 := Lib.hid hB7
  have S7 := Lib.hid hs7
  have d1 : decide ((1000 : Int) < (a.size : Int)) = false := by simp; omega
  have d2 : decide ((1000 : Int) < (b.size : Int)) = false := by simp; omega
  have d3 : ((y : Int) == 0) = false := by simp; omega
  have d3' : ¬ (y : Int) = 0 := by omega
  have d4 : decide (sh < 0) = false := by simp; omega
  have d5 : decide (8 < sh) = true := by simp; omega
  clear hw hB7 hs7
  go_enter Tryd.func4, Tryd.ntmps4
  go_wp2_with (go_at_call 8; refine C.out.mono ?_; rintro e w1 ⟨rfl, hb⟩; have B1 := Lib.hid hb; clear hb)
  go_ret
  exact ⟨rfl, B7.out.trans (B1.out.mono (by rw [S7.out]; omega))⟩
set_option maxHeartbeats 4000000 in
set_option maxRecDepth 100000 in
theorem burst_main (a b : ByteArray) (f : List UInt8) (y sh : Nat) (w : World) (hw : Tabs w) (hf : f.length = 5) (hy : y < 4294967296) (ha : a.size ≤ 1000) (hb : b.size ≤ 1000) (hy0 : y ≠ 0) (hsh : sh ≤ 8) :
    Calls Tryd.prog 4 #[.string a, .string b, .agg (dig f), .int .u32 y, .int .i64 sh] w fun e w' => e = .returned (.bool true) ∧ Below w.heap.size w w' := by
  have hI7 : Is (w.alloc (Obj.cells (dig f) 33)) w.heap.size 33 (dig f) := Is.fresh w 33 _
  have hB7 : Below w.heap.size w (w.alloc (Obj.cells (dig f) 33)) := (Below.refl _ _).alloc (Nat.le_refl _) _
  have hs7 : (w.alloc (Obj.cells (dig f) 33)).heap.size = w.heap.size + 1 := Array.size_push _
  have C := small_hid _ (hw.below hB7 hw.1)
  have HT := Lib.hid hw
  have HF := Lib.hid hf
  have HA := Lib.hid ha
  have HBS := Lib.hid hb
  have HY := Lib.hid hy0
  have HS := Lib.hid hsh
  have I7 := Lib.hid hI7
  have B7 := Lib.hid hB7
  have S7 := Lib.hid hs7
  have d1 : decide ((1000 : Int) < (a.size : Int)) = false := by simp; omega
  have d2 : decide ((1000 : Int) < (b.size : Int)) = false := by simp; omega
  have d3 : ((y : Int) == 0) = false := by simp; omega
  have d3' : ¬ (y : Int) = 0 := by omega
  have d4 : decide ((sh : Int) < 0) = false := by simp
  have d5 : decide ((8 : Int) < (sh : Int)) = false := by simp; omega
  have d5' : decide (8 < sh) = false := by simp; omega
  have y1 : (y : Int) < 4294967296 := by omega
  have sh1 : sh < 64 := by omega
  obtain ⟨X, hX⟩ : ∃ X, X = y * 2 ^ sh := ⟨_, rfl⟩
  have hXb : X < 1099511627776 := by
    rw [hX]
    have h1 : 2 ^ sh ≤ 2 ^ 8 := Nat.pow_le_pow_right (by omega) hsh
    have h2 : y * 2 ^ sh ≤ 4294967295 * 2 ^ 8 := Nat.mul_le_mul (by omega) h1
    omega
  have x1 : (y : Int) * 2 ^ sh = (X : Int) := by rw [hX]; simp
  have x2 : (y : Int) * 2 ^ sh % 18446744073709551616 = (X : Int) := by rw [x1]; omega
  have x3 : (X : Int) % 18446744073709551616 = (X : Int) := by omega
  have HX := Lib.hid hX
  clear hw hf ha hb hy hy0 hsh hI7 hB7 hs7 hX
  go_enter Tryd.func4, Tryd.ntmps4
  go_wp2_with (go_at_call 8; refine C.out.mono ?_; rintro e w1 ⟨rfl, hb⟩; have B1 := Lib.hid hb; clear hb)
  have hK7 : Is (w1.alloc (Obj.cells #[Value.int IntKind.u8 0, Value.int IntKind.u8 0, Value.int IntKind.u8 0, Value.int IntKind.u8 0, Value.int IntKind.u8 0] 33)) w.heap.size 33 (dig f) := (I7.out.below B1.out (by rw [S7.out]; omega)).alloc _
  have hK13 : Is (w1.alloc (Obj.cells #[Value.int IntKind.u8 0, Value.int IntKind.u8 0, Value.int IntKind.u8 0, Value.int IntKind.u8 0, Value.int IntKind.u8 0] 33)) w1.heap.size 33 (digz [] 5) := Is.fresh w1 33 _
  have hBW : Below w.heap.size w (w1.alloc (Obj.cells #[Value.int IntKind.u8 0, Value.int IntKind.u8 0, Value.int IntKind.u8 0, Value.int IntKind.u8 0, Value.int IntKind.u8 0] 33)) := (B7.out.trans (B1.out.mono (by rw [S7.out]; omega))).alloc (by have := B1.out.size; rw [S7.out] at this; omega) _
  have hgl : w.heap.size + 1 ≤ w1.heap.size := by have := B1.out.size; rw [S7.out] at this; exact this
  obtain ⟨W, hW⟩ : ∃ W, W = w1.alloc (Obj.cells #[Value.int IntKind.u8 0, Value.int IntKind.u8 0, Value.int IntKind.u8 0, Value.int IntKind.u8 0, Value.int IntKind.u8 0] 33) := ⟨_, rfl⟩
  obtain ⟨g, hg⟩ : ∃ g, g = w1.heap.size := ⟨_, rfl⟩
  rw [← hW] at hK7 hK13 hBW ⊢
  rw [← hg] at hK13 hgl ⊢
  have K7 := Lib.hid hK7
  have K13 := Lib.hid hK13
  have HBW := Lib.hid hBW
  have HG := Lib.hid hgl
  clear hK7 hK13 hBW hgl hW hg B1 I7 B7 S7 C
  clear w1
  go_loopw [14] (fun i wr => ∃ k : Nat, k ≤ 5 ∧ i = .int .i64 k ∧ Is wr g 33 (digz (changed f X k) 5) ∧ Is wr w.heap.size 33 (dig f) ∧ Below w.heap.size w wr) (fun i _ => 5 - (intOf i).toNat)
  case atStart => exact ⟨0, by omega, rfl, K13.out, K7.out, HBW.out⟩
  case round =>
    obtain ⟨k, hk, rfl, hI, hI7, hB⟩ := hrel
    have HI := Lib.hid hI
    have HI7 := Lib.hid hI7
    have HB := Lib.hid hB
    by_cases hlt : k < 5
    · have i1 : decide ((k : Int) < 5) = true := by simp; omega
      have i2 : (k : Int) < 5 := by omega
      have i3 : (0 : Int) ≤ (k : Int) := by omega
      have i4 : (0 : Int) ≤ 8 * (k : Int) := by omega
      have i5 : ¬ 8 * (k : Int) < 0 := by omega
      have hlf : k < f.length := by rw [HF.out]; exact hlt
      obtain ⟨x, hx⟩ : ∃ x, x = (f[k]).toNat := ⟨_, rfl⟩
      have hxb : x < 256 := by rw [hx]; exact UInt8.toNat_lt _
      have c1 : wr.cell? ⟨w.heap.size, k, none⟩ = some (.int .u8 (x : Nat)) := by rw [hx]; exact (hI7.at_ k).trans (dig_at f k hlf)
      have hz : (digz (changed f X k) 5).size = 5 := digz_size _ _ (by rw [changed_len]; exact hk)
      obtain ⟨v0, c2⟩ : ∃ v, wr.cell? ⟨g, k, none⟩ = some v := ⟨_, (hI.at_ k).trans (Array.getElem?_eq_getElem (by rw [hz]; exact hlt))⟩
      have f2 := hI.open_ k
      have HXX := Lib.hid hx
      clear hI hI7 hB hx hz
      go_wp2
      go_region
      go_wp2
      go_roundw
      case rel =>
        have hv : bits .xor .u8 (x : Int) ((X : Int) / 2 ^ (8 * k) % 256) = ((f.getD k 0 ^^^ mask X k).toNat : Nat) := by
          have hm : (X : Int) / 2 ^ (8 * k) % 256 = ((mask X k).toNat : Nat) := by
            unfold mask
            rw [Hex.toNat_of _ (Nat.mod_lt _ (by decide)), show (256 : Nat) ^ k = 2 ^ (8 * k) by rw [Nat.pow_mul]]
            simp
          rw [hm, u8_xor_nat x _ hxb (UInt8.toNat_lt _), UInt8.toNat_xor, HXX.out, List.getD_eq_getElem?_getD, List.getElem?_eq_getElem hlf]
          rfl
        refine ⟨k + 1, by omega, by go_num, ?_, ?_, ?_⟩
        · have h2 := HI.out.put k (.int .u8 ((f.getD k 0 ^^^ mask X k).toNat : Nat))
          have e1 := digz_put (changed f X k) 5 (f.getD k 0 ^^^ mask X k) (by rw [changed_len]; exact hlt)
          rw [changed_len] at e1
          rw [e1] at h2
          rw [changed_snoc, hv]
          exact h2
        · exact HI7.out.away (by show w.heap.size ≠ g; have := HG.out; omega) _
        · exact (HB.out.setCell (p := ⟨g, k, none⟩) (by show w.heap.size ≤ g; have := HG.out; omega) _).drew
      case measure => simp [intOf]; omega
    · have i1 : decide ((k : Int) < 5) = false := by simp; omega
      have HK : Hid (k = 5) := Lib.hid (by omega)
      obtain ⟨so, hso⟩ : ∃ s, s = mk (changed f X 5) := ⟨_, rfl⟩
      obtain ⟨sf, hsf⟩ : ∃ s, s = mk f := ⟨_, rfl⟩
      have zo : so.size = 5 := by rw [hso, size_mk, changed_len]
      have zf : sf.size = 5 := by rw [hsf, size_mk, HF.out]
      have za := HA.out
      have zb := HBS.out
      obtain ⟨s1, hs1⟩ : ∃ s, a ++ sf = s := ⟨_, rfl⟩
      obtain ⟨s2, hs2⟩ : ∃ s, s1 ++ b = s := ⟨_, rfl⟩
      obtain ⟨s3, hs3⟩ : ∃ s, a ++ so = s := ⟨_, rfl⟩
      obtain ⟨s4, hs4⟩ : ∃ s, s3 ++ b = s := ⟨_, rfl⟩
      have z1 : s1.size ≤ 1005 := by rw [← hs1, ByteArray.size_append]; omega
      have z3 : s3.size ≤ 1005 := by rw [← hs3, ByteArray.size_append]; omega
      have z2 : s2.size ≤ 2005 := by rw [← hs2, ByteArray.size_append]; omega
      have z4 : s4.size ≤ 2005 := by rw [← hs4, ByteArray.size_append]; omega
      have m1 : ¬ 9223372036854775807 < a.size + 5 := by omega
      have m2 : ¬ 9223372036854775807 < s1.size + b.size := by omega
      have m3 : ¬ 9223372036854775807 < s3.size + b.size := by omega
      obtain ⟨P, hP⟩ : ∃ P, P = (Math.crc (ls s2)).toNat := ⟨_, rfl⟩
      obtain ⟨Q, hQ⟩ : ∃ P, P = (Math.crc (ls s4)).toNat := ⟨_, rfl⟩
      have hne : P ≠ Q := by
        rw [hP, hQ, ← hs2, ← hs1, ← hs4, ← hs3, ls_append, ls_append, ls_append, ls_append, hsf, hso, ls_mk, ls_mk]
        intro h
        have hvy : (BitVec.ofNat 32 y).toNat = y := by rw [BitVec.toNat_ofNat]; omega
        have := burst_crc (ls a) (ls b) f HF.out (BitVec.ofNat 32 y) (fun e => HY.out (by rw [← hvy, e]; rfl)) sh HS.out
        rw [hvy, ← HX.out] at this
        exact this (BitVec.toNat_inj.1 h)
      have n1 : ((P : Int) == (Q : Int)) = false := by simp; omega
      have n2 : ((P : Int) != (Q : Int)) = true := by simp; omega
      have n3 : ¬ (P : Int) = (Q : Int) := by omega
      have CV1 : ∀ d os, (convert 36 9 (.slice (some ⟨w.heap.size, 0, none⟩) 5 5)).run Tryd.prog (grow (redrawn wr d) os) = .ok (.string sf) (grow (redrawn wr d) os) := fun d os => by
        have h1 : Is (grow (redrawn wr d) os) w.heap.size 33 (dig f) := hI7.below (below_regrown wr d os) hI7.lt
        have := run_convert_bytes_back (P := Tryd.prog) (grow (redrawn wr d) os) 36 9 5 ⟨w.heap.size, 0, none⟩ 5 f Tryd.underlying36 Tryd.underlying5 Tryd.underlying9 (fun j hj => by
          have h2 := (h1.at_ j).trans (dig_at _ j hj)
          have e : (⟨w.heap.size, 0, none⟩ : Addr).add j = ⟨w.heap.size, j, none⟩ := by unfold Addr.add; split <;> simp_all
          rw [e]
          exact h2)
        rw [HF.out] at this
        rw [hsf]
        exact this
      have CV2 : ∀ d os, (convert 36 9 (.slice (some ⟨g, 0, none⟩) 5 5)).run Tryd.prog (grow (redrawn wr d) os) = .ok (.string so) (grow (redrawn wr d) os) := fun d os => by
        rw [HK.out, digz_full _ _ (changed_len f X 5)] at hI
        have h1 : Is (grow (redrawn wr d) os) g 33 (dig (changed f X 5)) := hI.below (below_regrown wr d os) hI.lt
        have := run_convert_bytes_back (P := Tryd.prog) (grow (redrawn wr d) os) 36 9 5 ⟨g, 0, none⟩ 5 (changed f X 5) Tryd.underlying36 Tryd.underlying5 Tryd.underlying9 (fun j hj => by
          have h2 := (h1.at_ j).trans (dig_at _ j hj)
          have e : (⟨g, 0, none⟩ : Addr).add j = ⟨g, j, none⟩ := by unfold Addr.add; split <;> simp_all
          rw [e]
          exact h2)
        rw [changed_len] at this
        rw [hso]
        exact this
      have TW : ∀ d os, Tabs (grow (redrawn wr d) os) := fun d os => (HT.out.below hB HT.out.1).below ((below_regrown wr d os).mono (HT.out.below hB HT.out.1).1) (Nat.le_refl 2)
      have cC : Hid (∀ d os, Calls Tryd.prog 11 #[.string s2] (grow (redrawn wr d) os) fun e w'' => e = .returned (.int .u32 (P : Nat)) ∧ ∃ p : Regrown, w'' = grow (redrawn wr p.d) p.os) :=
        Lib.hid fun d os => Calls.regrown_of ((crc_any s2 _ (TW d os) (by omega)).mono fun e w' ⟨h1, h2⟩ => ⟨by rw [h1, hP], by rw [← h2]; exact Below.refl _ _⟩)
      have cD : Hid (∀ d os, Calls Tryd.prog 11 #[.string s4] (grow (redrawn wr d) os) fun e w'' => e = .returned (.int .u32 (Q : Nat)) ∧ ∃ p : Regrown, w'' = grow (redrawn wr p.d) p.os) :=
        Lib.hid fun d os => Calls.regrown_of ((crc_any s4 _ (TW d os) (by omega)).mono fun e w' ⟨h1, h2⟩ => ⟨by rw [h1, hQ], by rw [← h2]; exact Below.refl _ _⟩)
      clear hI hI7 hB hso hsf hP hQ hne TW
      go_wp2
      refine wp_region_quiet_below (by kernel_rfl) (by kernel_rfl) ?_
      repeat (quiet_step (fail))
      quiet_step (exact cC.out _ _)
      repeat (quiet_step (fail))
      quiet_step (exact cD.out _ _)
      repeat (quiet_step (fail))
      refine wpQuiet_nil ?_
      intro _ hw'
      obtain ⟨⟨dq, osq⟩, hw''⟩ := hw'
      subst hw''
      go_wp2
      go_ret
      exact ⟨rfl, HB.out.trans ((below_regrown wr dq osq).mono HB.out.size)⟩
theorem burst_any (a b : ByteArray) (f : List UInt8) (z : Int) (sh : Int) (w : World) (hw : Tabs w) (hf : f.length = 5) (hz : (Lit.int .u32 z).wf = true) (_ : (Lit.int .i64 sh).wf = true) :
    Calls Tryd.prog 4 #[.string a, .string b, .agg (dig f), .int .u32 z, .int .i64 sh] w fun e w' => e = .returned (.bool true) ∧ Below w.heap.size w w' := by
  have e1 : IntKind.u32.min = 0 := rfl
  have e2 : IntKind.u32.max = 4294967295 := rfl
  simp [Lit.wf, e1, e2] at hz
  obtain ⟨y, rfl⟩ := Int.eq_ofNat_of_zero_le hz.1
  by_cases h1 : 1000 < a.size
  · exact burst_1 a b f y sh w hw h1
  · by_cases h2 : 1000 < b.size
    · exact burst_2 a b f y sh w hw (by omega) h2
    · by_cases h3 : y = 0
      · exact burst_3 a b f y sh w hw (by omega) (by omega) h3
      · by_cases h4 : sh < 0
        · exact burst_4 a b f y sh w hw (by omega) (by omega) h3 h4
        · by_cases h5 : 8 < sh
          · exact burst_5 a b f y sh w hw (by omega) (by omega) h3 (by omega) h5
          · obtain ⟨n, rfl⟩ := Int.eq_ofNat_of_zero_le (by omega : 0 ≤ sh)
            exact burst_main a b f y n w hw hf (by omega) (by omega) (by omega) h3 (by omega)
end Go.Proofs.YtdkhinjogomdaaaDoor
