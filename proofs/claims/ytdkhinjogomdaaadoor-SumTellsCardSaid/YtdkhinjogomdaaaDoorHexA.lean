/-
  The code's Hex.
-/
import Derived.Test.YtdkhinjogomdaaaDoorLess
namespace Go.Proofs.YtdkhinjogomdaaaDoor
open Go.RowKit
/-- The cells of a byte string, filled up with zeros. -/
def digz (l : List UInt8) (n : Nat) : Array Value := dig (l ++ List.replicate (n - l.length) 0)
theorem digz_size (l : List UInt8) (n : Nat) (h : l.length ≤ n) : (digz l n).size = n := by
  unfold digz; rw [dig_size, List.length_append, List.length_replicate]; omega
theorem digz_full (l : List UInt8) (n : Nat) (h : l.length = n) : digz l n = dig l := by
  unfold digz; rw [h, Nat.sub_self, List.replicate_zero, List.append_nil]
theorem digz_put (l : List UInt8) (n : Nat) (b : UInt8) (h : l.length < n) : (digz l n).setIfInBounds l.length (.int .u8 (b.toNat : Nat)) = digz (l ++ [b]) n := by
  unfold digz dig
  have e : List.replicate (n - l.length) (0 : UInt8) = 0 :: List.replicate (n - (l ++ [b]).length) 0 := by
    rw [← List.replicate_succ]; congr 1; simp; omega
  rw [e]
  apply Array.toList_inj.1
  rw [Array.toList_setIfInBounds]
  simp only [List.map_append, List.map_cons]
  rw [List.set_append, List.length_map, if_neg (by omega), Nat.sub_self, List.set_cons_zero]
  simp
theorem hexL_snoc (a : List UInt8) (k : Nat) (h : k < a.length) : Hex.hexL (a.take (k + 1)) = Hex.hexL (a.take k) ++ [Hex.hd (a[k].toNat / 16)] ++ [Hex.hd (a[k].toNat % 16)] := by
  unfold Hex.hexL
  have : a.take (k + 1) = a.take k ++ [a[k]] := List.take_succ_eq_append_getElem h
  rw [this, List.flatMap_append, List.append_assoc]
  rfl
theorem run_index_dig (a : List UInt8) (k : Nat) (hk : k < a.length) (ha : a.length = 32) (w : World) : (Instr.index 23 (.agg (dig a)) (.int .i64 (k : Int))).run Tryd.prog w = .ok (.int .u8 (a[k].toNat : Nat)) w := by
  have h := dig_at a k hk
  have i1 : k < 32 := by omega
  simp [Instr.index, run_underlying Tryd.underlying23, asIntOf, i1, go_sem, h]
theorem u8_and15 (x : Nat) (hx : x < 256) : bits .and .u8 (x : Int) 15 = ((x % 16 : Nat) : Int) := by
  have := u8_and_nat x 15 hx (by omega)
  rw [show ((15 : Nat) : Int) = 15 from rfl] at this
  rw [this, show (15 : Nat) = 2 ^ 4 - 1 from rfl, Nat.and_two_pow_sub_one_eq_mod]
def hexS : ByteArray := { data := #[48, 49, 50, 51, 52, 53, 54, 55, 56, 57, 97, 98, 99, 100, 101, 102] }
theorem hexS_at (i : Nat) (h : i < hexS.size) : hexS[i] = Hex.hd i := by
  have : ∀ j : Fin 16, hexS[j.val]'j.isLt = Hex.hd j.val := by decide +kernel
  exact this ⟨i, h⟩
theorem run_index_hex (q : Nat) (hq : q < 16) (w : World) : (Instr.index 9 (.string hexS) (.int .u8 (q : Int))).run Tryd.prog w = .ok (.int .u8 ((Hex.hd q).toNat : Nat)) w := by
  have hs : hexS.size = 16 := rfl
  rw [run_index_string w 9 hexS .u8 _ Tryd.underlying9, dif_pos ⟨by omega, by rw [hs]; omega⟩]
  have e : ((q : Int)).toNat = q := by omega
  simp only [e]
  rw [hexS_at q (by rw [hs]; omega)]
set_option maxHeartbeats 4000000 in
set_option maxRecDepth 100000 in
theorem hex_any (a : List UInt8) (w : World) (ha : a.length = 32) :
    Calls Tryd.prog 15 #[.agg (dig a)] w fun e w' => e = .returned (.string (mk (Hex.hexL a))) ∧ Below w.heap.size w w' := by
  have hs1 : (w.alloc (Obj.cells (dig a) 23)).heap.size = w.heap.size + 1 := Array.size_push _
  have hI1 : Is ((w.alloc (Obj.cells (dig a) 23)).alloc (Obj.cells #[Value.int IntKind.u8 0, Value.int IntKind.u8 0, Value.int IntKind.u8 0, Value.int IntKind.u8 0, Value.int IntKind.u8 0, Value.int IntKind.u8 0, Value.int IntKind.u8 0, Value.int IntKind.u8 0, Value.int IntKind.u8 0, Value.int IntKind.u8 0, Value.int IntKind.u8 0, Value.int IntKind.u8 0, Value.int IntKind.u8 0, Value.int IntKind.u8 0, Value.int IntKind.u8 0, Value.int IntKind.u8 0, Value.int IntKind.u8 0, Value.int IntKind.u8 0, Value.int IntKind.u8 0, Value.int IntKind.u8 0, Value.int IntKind.u8 0, Value.int IntKind.u8 0, Value.int IntKind.u8 0, Value.int IntKind.u8 0, Value.int IntKind.u8 0, Value.int IntKind.u8 0, Value.int IntKind.u8 0, Value.int IntKind.u8 0, Value.int IntKind.u8 0, Value.int IntKind.u8 0, Value.int IntKind.u8 0, Value.int IntKind.u8 0, Value.int IntKind.u8 0, Value.int IntKind.u8 0, Value.int IntKind.u8 0, Value.int IntKind.u8 0, Value.int IntKind.u8 0, Value.int IntKind.u8 0, Value.int IntKind.u8 0, Value.int IntKind.u8 0, Value.int IntKind.u8 0, Value.int IntKind.u8 0, Value.int IntKind.u8 0, Value.int IntKind.u8 0, Value.int IntKind.u8 0, Value.int IntKind.u8 0, Value.int IntKind.u8 0, Value.int IntKind.u8 0, Value.int IntKind.u8 0, Value.int IntKind.u8 0, Value.int IntKind.u8 0, Value.int IntKind.u8 0, Value.int IntKind.u8 0, Value.int IntKind.u8 0, Value.int IntKind.u8 0, Value.int IntKind.u8 0, Value.int IntKind.u8 0, Value.int IntKind.u8 0, Value.int IntKind.u8 0, Value.int IntKind.u8 0, Value.int IntKind.u8 0, Value.int IntKind.u8 0, Value.int IntKind.u8 0, Value.int IntKind.u8 0] 51)) w.heap.size 23 (dig a) := (Is.fresh w 23 (dig a)).alloc _
  have hI2 : Is ((w.alloc (Obj.cells (dig a) 23)).alloc (Obj.cells #[Value.int IntKind.u8 0, Value.int IntKind.u8 0, Value.int IntKind.u8 0, Value.int IntKind.u8 0, Value.int IntKind.u8 0, Value.int IntKind.u8 0, Value.int IntKind.u8 0, Value.int IntKind.u8 0, Value.int IntKind.u8 0, Value.int IntKind.u8 0, Value.int IntKind.u8 0, Value.int IntKind.u8 0, Value.int IntKind.u8 0, Value.int IntKind.u8 0, Value.int IntKind.u8 0, Value.int IntKind.u8 0, Value.int IntKind.u8 0, Value.int IntKind.u8 0, Value.int IntKind.u8 0, Value.int IntKind.u8 0, Value.int IntKind.u8 0, Value.int IntKind.u8 0, Value.int IntKind.u8 0, Value.int IntKind.u8 0, Value.int IntKind.u8 0, Value.int IntKind.u8 0, Value.int IntKind.u8 0, Value.int IntKind.u8 0, Value.int IntKind.u8 0, Value.int IntKind.u8 0, Value.int IntKind.u8 0, Value.int IntKind.u8 0, Value.int IntKind.u8 0, Value.int IntKind.u8 0, Value.int IntKind.u8 0, Value.int IntKind.u8 0, Value.int IntKind.u8 0, Value.int IntKind.u8 0, Value.int IntKind.u8 0, Value.int IntKind.u8 0, Value.int IntKind.u8 0, Value.int IntKind.u8 0, Value.int IntKind.u8 0, Value.int IntKind.u8 0, Value.int IntKind.u8 0, Value.int IntKind.u8 0, Value.int IntKind.u8 0, Value.int IntKind.u8 0, Value.int IntKind.u8 0, Value.int IntKind.u8 0, Value.int IntKind.u8 0, Value.int IntKind.u8 0, Value.int IntKind.u8 0, Value.int IntKind.u8 0, Value.int IntKind.u8 0, Value.int IntKind.u8 0, Value.int IntKind.u8 0, Value.int IntKind.u8 0, Value.int IntKind.u8 0, Value.int IntKind.u8 0, Value.int IntKind.u8 0, Value.int IntKind.u8 0, Value.int IntKind.u8 0, Value.int IntKind.u8 0] 51)) (w.heap.size + 1) 51 (digz [] 64) := by
    have := Is.fresh (w.alloc (Obj.cells (dig a) 23)) 51 #[Value.int IntKind.u8 0, Value.int IntKind.u8 0, Value.int IntKind.u8 0, Value.int IntKind.u8 0, Value.int IntKind.u8 0, Value.int IntKind.u8 0, Value.int IntKind.u8 0, Value.int IntKind.u8 0, Value.int IntKind.u8 0, Value.int IntKind.u8 0, Value.int IntKind.u8 0, Value.int IntKind.u8 0, Value.int IntKind.u8 0, Value.int IntKind.u8 0, Value.int IntKind.u8 0, Value.int IntKind.u8 0, Value.int IntKind.u8 0, Value.int IntKind.u8 0, Value.int IntKind.u8 0, Value.int IntKind.u8 0, Value.int IntKind.u8 0, Value.int IntKind.u8 0, Value.int IntKind.u8 0, Value.int IntKind.u8 0, Value.int IntKind.u8 0, Value.int IntKind.u8 0, Value.int IntKind.u8 0, Value.int IntKind.u8 0, Value.int IntKind.u8 0, Value.int IntKind.u8 0, Value.int IntKind.u8 0, Value.int IntKind.u8 0, Value.int IntKind.u8 0, Value.int IntKind.u8 0, Value.int IntKind.u8 0, Value.int IntKind.u8 0, Value.int IntKind.u8 0, Value.int IntKind.u8 0, Value.int IntKind.u8 0, Value.int IntKind.u8 0, Value.int IntKind.u8 0, Value.int IntKind.u8 0, Value.int IntKind.u8 0, Value.int IntKind.u8 0, Value.int IntKind.u8 0, Value.int IntKind.u8 0, Value.int IntKind.u8 0, Value.int IntKind.u8 0, Value.int IntKind.u8 0, Value.int IntKind.u8 0, Value.int IntKind.u8 0, Value.int IntKind.u8 0, Value.int IntKind.u8 0, Value.int IntKind.u8 0, Value.int IntKind.u8 0, Value.int IntKind.u8 0, Value.int IntKind.u8 0, Value.int IntKind.u8 0, Value.int IntKind.u8 0, Value.int IntKind.u8 0, Value.int IntKind.u8 0, Value.int IntKind.u8 0, Value.int IntKind.u8 0, Value.int IntKind.u8 0]
    rwa [hs1] at this
  have hB : Below w.heap.size w ((w.alloc (Obj.cells (dig a) 23)).alloc (Obj.cells #[Value.int IntKind.u8 0, Value.int IntKind.u8 0, Value.int IntKind.u8 0, Value.int IntKind.u8 0, Value.int IntKind.u8 0, Value.int IntKind.u8 0, Value.int IntKind.u8 0, Value.int IntKind.u8 0, Value.int IntKind.u8 0, Value.int IntKind.u8 0, Value.int IntKind.u8 0, Value.int IntKind.u8 0, Value.int IntKind.u8 0, Value.int IntKind.u8 0, Value.int IntKind.u8 0, Value.int IntKind.u8 0, Value.int IntKind.u8 0, Value.int IntKind.u8 0, Value.int IntKind.u8 0, Value.int IntKind.u8 0, Value.int IntKind.u8 0, Value.int IntKind.u8 0, Value.int IntKind.u8 0, Value.int IntKind.u8 0, Value.int IntKind.u8 0, Value.int IntKind.u8 0, Value.int IntKind.u8 0, Value.int IntKind.u8 0, Value.int IntKind.u8 0, Value.int IntKind.u8 0, Value.int IntKind.u8 0, Value.int IntKind.u8 0, Value.int IntKind.u8 0, Value.int IntKind.u8 0, Value.int IntKind.u8 0, Value.int IntKind.u8 0, Value.int IntKind.u8 0, Value.int IntKind.u8 0, Value.int IntKind.u8 0, Value.int IntKind.u8 0, Value.int IntKind.u8 0, Value.int IntKind.u8 0, Value.int IntKind.u8 0, Value.int IntKind.u8 0, Value.int IntKind.u8 0, Value.int IntKind.u8 0, Value.int IntKind.u8 0, Value.int IntKind.u8 0, Value.int IntKind.u8 0, Value.int IntKind.u8 0, Value.int IntKind.u8 0, Value.int IntKind.u8 0, Value.int IntKind.u8 0, Value.int IntKind.u8 0, Value.int IntKind.u8 0, Value.int IntKind.u8 0, Value.int IntKind.u8 0, Value.int IntKind.u8 0, Value.int IntKind.u8 0, Value.int IntKind.u8 0, Value.int IntKind.u8 0, Value.int IntKind.u8 0, Value.int IntKind.u8 0, Value.int IntKind.u8 0] 51)) := ((Below.refl _ _).alloc (Nat.le_refl _) _).alloc (by omega) _
  have hz : (Tryd.prog.info? 23).map (·.size) = some (dig a).size := by rw [dig_size, ha]; kernel_rfl
  have HZ := Lib.hid hz
  have H1 := Lib.hid hI1
  have H2 := Lib.hid hI2
  have HB := Lib.hid hB
  have HA := Lib.hid ha
  clear ha hI1 hI2 hB hz
  go_enter Tryd.func15, Tryd.ntmps15
  go_wp2_with (refine wpList_load_row rfl 23 _ rfl w.heap.size rfl 23 (dig a) (0, 0) _ H1.out Tryd.underlying23 rfl HZ.out ?_)
  obtain ⟨W, hW⟩ : ∃ W, W = (w.alloc (Obj.cells (dig a) 23)).alloc (Obj.cells #[Value.int IntKind.u8 0, Value.int IntKind.u8 0, Value.int IntKind.u8 0, Value.int IntKind.u8 0, Value.int IntKind.u8 0, Value.int IntKind.u8 0, Value.int IntKind.u8 0, Value.int IntKind.u8 0, Value.int IntKind.u8 0, Value.int IntKind.u8 0, Value.int IntKind.u8 0, Value.int IntKind.u8 0, Value.int IntKind.u8 0, Value.int IntKind.u8 0, Value.int IntKind.u8 0, Value.int IntKind.u8 0, Value.int IntKind.u8 0, Value.int IntKind.u8 0, Value.int IntKind.u8 0, Value.int IntKind.u8 0, Value.int IntKind.u8 0, Value.int IntKind.u8 0, Value.int IntKind.u8 0, Value.int IntKind.u8 0, Value.int IntKind.u8 0, Value.int IntKind.u8 0, Value.int IntKind.u8 0, Value.int IntKind.u8 0, Value.int IntKind.u8 0, Value.int IntKind.u8 0, Value.int IntKind.u8 0, Value.int IntKind.u8 0, Value.int IntKind.u8 0, Value.int IntKind.u8 0, Value.int IntKind.u8 0, Value.int IntKind.u8 0, Value.int IntKind.u8 0, Value.int IntKind.u8 0, Value.int IntKind.u8 0, Value.int IntKind.u8 0, Value.int IntKind.u8 0, Value.int IntKind.u8 0, Value.int IntKind.u8 0, Value.int IntKind.u8 0, Value.int IntKind.u8 0, Value.int IntKind.u8 0, Value.int IntKind.u8 0, Value.int IntKind.u8 0, Value.int IntKind.u8 0, Value.int IntKind.u8 0, Value.int IntKind.u8 0, Value.int IntKind.u8 0, Value.int IntKind.u8 0, Value.int IntKind.u8 0, Value.int IntKind.u8 0, Value.int IntKind.u8 0, Value.int IntKind.u8 0, Value.int IntKind.u8 0, Value.int IntKind.u8 0, Value.int IntKind.u8 0, Value.int IntKind.u8 0, Value.int IntKind.u8 0, Value.int IntKind.u8 0, Value.int IntKind.u8 0] 51) := ⟨_, rfl⟩
  rw [← hW] at H2 HB ⊢
  obtain ⟨g, hg⟩ : ∃ g, g = w.heap.size + 1 := ⟨_, rfl⟩
  rw [← hg] at H2 ⊢
  clear hs1 H1 HZ
  have HG := Lib.hid hg
  clear hg hW
  go_loopw [7] (fun i wr => ∃ k : Nat, k ≤ 32 ∧ i = .int .i64 k ∧ Is wr g 51 (digz (Hex.hexL (a.take k)) 64) ∧ Below w.heap.size w wr) (fun i _ => 32 - (intOf i).toNat)
  case atStart => exact ⟨0, by omega, rfl, H2.out, HB.out⟩
  case round =>
    obtain ⟨k, hk, rfl, hI, hB⟩ := hrel
    by_cases hlt : k < 32
    · have hla : k < a.length := by rw [HA.out]; exact hlt
      obtain ⟨x, hx⟩ : ∃ x, x = a[k].toNat := ⟨_, rfl⟩
      have hxb : x < 256 := by rw [hx]; exact a[k].toNat_lt
      have X0 := run_index_dig a k hla HA.out
      rw [← hx] at X0
      obtain ⟨q, hq⟩ : ∃ q, q = x / 16 := ⟨_, rfl⟩
      obtain ⟨r, hr⟩ : ∃ r, r = x % 16 := ⟨_, rfl⟩
      have q2 : q < 16 := by omega
      have r2 : r < 16 := by omega
      have q3 : (q : Int) < 16 := by omega
      have r3 : (r : Int) < 16 := by omega
      have X1 := run_index_hex q q2
      rw [show (q : Int) = (x : Int) / 16 by omega] at X1
      have X2 := run_index_hex r r2
      rw [show (r : Int) = (x : Int) % 16 by omega] at X2
      unfold hexS at X1 X2
      have HX := Lib.hid hx
      clear hx
      have i1 : decide ((k : Int) < 32) = true := by simp; omega
      have i2 : (k : Int) < 32 := by omega
      have i3 : (0 : Int) ≤ (k : Int) := by omega
      have HI := Lib.hid hI
      have HB := Lib.hid hB
      have p3 : (2 : Int) * (k : Int) < 64 := by omega
      have p4 : (2 : Int) * (k : Int) + 1 < 64 := by omega
      have p5 : (0 : Int) ≤ (2 : Int) * (k : Int) := by omega
      have p6 : (0 : Int) ≤ (2 : Int) * (k : Int) + 1 := by omega
      have z : (digz (Hex.hexL (a.take k)) 64).size = 64 := digz_size _ _ (by rw [Hex.hexL_length, List.length_take]; omega)
      have ex : ∀ m, m < 64 → ∃ u, wr.cell? ⟨g, m, none⟩ = some u := fun m hm => ⟨_, (HI.out.at_ m).trans (Array.getElem?_eq_getElem (by rw [z]; exact hm))⟩
      obtain ⟨v1, c1⟩ := ex (2 * k) (by omega)
      obtain ⟨v2, c2⟩ := ex (2 * k + 1) (by omega)
      have f1 := HI.out.open_ (2 * k)
      have f2 := HI.out.open_ (2 * k + 1)
      clear hI hB z ex
      go_wp2
      go_region
      go_wp2
      go_roundw
      case rel =>
        refine ⟨k + 1, by omega, by go_num, ?_, ?_⟩
        · have h1 := hexL_snoc a k hla
          rw [← HX.out] at h1
          rw [h1]
          have hl : (Hex.hexL (a.take k)).length = 2 * k := by rw [Hex.hexL_length, List.length_take, HA.out]; omega
          have e1 := digz_put (Hex.hexL (a.take k)) 64 (Hex.hd (x / 16)) (by omega)
          have e2 := digz_put (Hex.hexL (a.take k) ++ [Hex.hd (x / 16)]) 64 (Hex.hd (x % 16)) (by simp; omega)
          have hl2 : (Hex.hexL (a.take k) ++ [Hex.hd (x / 16)]).length = 2 * k + 1 := by simp [hl]
          rw [hl] at e1
          rw [hl2] at e2
          have h2 := (HI.out.put (2 * k) (.int .u8 ((Hex.hd (x / 16)).toNat : Nat))).put (2 * k + 1) (.int .u8 ((Hex.hd (x % 16)).toNat : Nat))
          rw [e1, e2] at h2
          exact h2
        · have hg : w.heap.size ≤ g := by rw [HG.out]; omega
          exact ((HB.out.setCell (p := ⟨g, 2 * k, none⟩) hg _).setCell (p := ⟨g, 2 * k + 1, none⟩) hg _).drew
      case measure => simp [intOf]; omega
    · have i1 : decide ((k : Int) < 32) = false := by simp; omega
      obtain rfl : k = 32 := by omega
      have HI := Lib.hid hI
      have HB := Lib.hid hB
      have CV := run_convert_bytes_back (P := Tryd.prog) wr 36 9 5 ⟨g, 0, none⟩ 64 (Hex.hexL a) Tryd.underlying36 Tryd.underlying5 Tryd.underlying9 (fun j hj => by
        have h1 := hI.at_ j
        rw [List.take_of_length_le (by rw [HA.out]; omega), digz_full _ _ (by rw [Hex.hexL_length, HA.out]), dig_at _ _ hj] at h1
        have e : (⟨g, 0, none⟩ : Addr).add j = ⟨g, j, none⟩ := by unfold Addr.add; split <;> simp_all
        rw [e]
        exact h1)
      rw [show (Hex.hexL a).length = 64 by rw [Hex.hexL_length, HA.out]] at CV
      clear hI hB
      go_wp2
      go_ret
      exact ⟨rfl, HB.out⟩
end Go.Proofs.YtdkhinjogomdaaaDoor
