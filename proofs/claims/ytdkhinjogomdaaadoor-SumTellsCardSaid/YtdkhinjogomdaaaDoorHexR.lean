/-
  The reference's Hex.
-/
import Derived.Test.YtdkhinjogomdaaaDoorOwn
import Derived.Deep.RegionLaw
namespace Go.Proofs.YtdkhinjogomdaaaDoor
open Go.RowKit
set_option maxHeartbeats 1000000 in
set_option maxRecDepth 100000 in
theorem rhex_any (a : List UInt8) (w : World) (ha : a.length = 32) :
    Calls Tryd.prog 16 #[.agg (dig a)] w fun e w' => e = .returned (.string (mk (Hex.hexL a))) ∧ Below w.heap.size w w' := by
  obtain ⟨i0, hi, hz0, hz1, hz2⟩ := info_parts info5
  have hs1 : (w.alloc (Obj.cells (dig a) 23)).heap.size = w.heap.size + 1 := Array.size_push _
  have hI1 : Is (w.alloc (Obj.cells (dig a) 23)) w.heap.size 23 (dig a) := Is.fresh w 23 (dig a)
  have hB : Below w.heap.size w (w.alloc (Obj.cells (dig a) 23)) := (Below.refl _ _).alloc (Nat.le_refl _) _
  have H1 := Lib.hid hI1
  have HB := Lib.hid hB
  have HA := Lib.hid ha
  clear ha hI1 hB
  go_enter Tryd.func16, Tryd.ntmps16
  go_wp2
  obtain ⟨W, hW⟩ : ∃ W, W = w.alloc (Obj.cells (dig a) 23) := ⟨_, rfl⟩
  rw [← hW] at H1 HB hs1 ⊢
  have HS := Lib.hid hs1
  clear hW hs1
  go_loopw [3, 4] (fun v i wr => ∃ k : Nat, k ≤ 32 ∧ i = .int .i64 k ∧ wr.ownsRow (w.heap.size + 1) 5 1 v (Hex.hexL (a.take k)).length (bytes (Hex.hexL (a.take k))) ∧ Is wr w.heap.size 23 (dig a) ∧ Below w.heap.size w wr ∧ w.heap.size + 1 ≤ wr.heap.size) (fun _ i _ => 32 - (intOf i).toNat)
  case atStart => exact ⟨0, by omega, rfl, World.ownsRow_nil _ _ _ _, H1.out, HB.out, by have := HS.out; omega⟩
  case round =>
    obtain ⟨k, hk, rfl, ho, hI, hB, hsz⟩ := hrel
    have HO := Lib.hid ho
    have HI := Lib.hid hI
    have HB := Lib.hid hB
    have HZ := Lib.hid hsz
    by_cases hlt : k < 32
    · have hla : k < a.length := by rw [HA.out]; exact hlt
      obtain ⟨x, hx⟩ : ∃ x, x = a[k].toNat := ⟨_, rfl⟩
      have hxb : x < 256 := by rw [hx]; exact a[k].toNat_lt
      have c1 : wr.cell? ⟨w.heap.size, k, none⟩ = some (.int .u8 (x : Nat)) := by rw [hx]; exact (hI.at_ k).trans (dig_at a k hla)
      have hl : (Hex.hexL (a.take k)).length = 2 * k := by rw [Hex.hexL_length, List.length_take, HA.out]; omega
      have X1 := run_index_hex (x / 16) (by omega)
      have X2 := run_index_hex (x % 16) (by omega)
      rw [show ((x / 16 : Nat) : Int) = (x : Int) / 16 by omega] at X1
      rw [show ((x % 16 : Nat) : Int) = (x : Int).tmod 16 by rw [Int.tmod_eq_emod_of_nonneg (by omega)]; omega] at X2
      unfold hexS at X1 X2
      have W1 : IntKind.u8.wrap ((x : Int) / 16) = (x : Int) / 16 := by rw [IntKind.wrap_u8]; omega
      have i1 : decide ((k : Int) < 32) = true := by simp; omega
      have i2 : (k : Int) < 32 := by omega
      have i3 : (0 : Int) ≤ (k : Int) := by omega
      have HX := Lib.hid hx
      have HL := Lib.hid hl
      clear hx hl ho hI hB hsz
      go_wp2
      obtain ⟨p, hp⟩ : ∃ p, p = (Hex.hd (x / 16)).toNat := ⟨_, rfl⟩
      obtain ⟨q, hq⟩ : ∃ q, q = (Hex.hd (x % 16)).toNat := ⟨_, rfl⟩
      rw [← hp] at X1
      rw [← hq] at X2
      have one1 : ∀ u ∈ [Value.int .u8 (p : Nat), Value.int .u8 (q : Nat)], u.oneCell' = true := by
        intro u hu
        simp at hu
        rcases hu with rfl | rfl <;> rfl
      have ONE := Lib.hid one1
      have HP := Lib.hid hp
      have HQ := Lib.hid hq
      have HO2 : Hid ((wr.drew.alloc (.cells #[.int .u8 (p : Nat), .int .u8 (q : Nat)] 5)).ownsRow (w.heap.size + 1) 5 1 u3 (Hex.hexL (a.take k)).length (bytes (Hex.hexL (a.take k)))) := Lib.hid (HO.out.drew.alloc _)
      have HN : Hid (∀ j x, [Value.int .u8 (p : Nat), Value.int .u8 (q : Nat)][j]? = some x → (wr.drew.alloc (.cells #[.int .u8 (p : Nat), .int .u8 (q : Nat)] 5)).cell? ((⟨wr.heap.size, 0, none⟩ : Addr).add j) = some x) := Lib.hid (new_two wr.drew _ _ 5)
      have FIN : Hid (∀ v n w4, w4.ownsRow (w.heap.size + 1) 5 1 v n (bytes (Hex.hexL (a.take k)) ++ [.int .u8 (p : Nat), .int .u8 (q : Nat)]) → (wr.alloc (.cells #[.int .u8 (p : Nat), .int .u8 (q : Nat)] 5)).drew.grownBy w4 u3.ownBlock →
          w4.ownsRow (w.heap.size + 1) 5 1 v (Hex.hexL (a.take (k + 1))).length (bytes (Hex.hexL (a.take (k + 1)))) ∧ Is w4 w.heap.size 23 (dig a) ∧ Below w.heap.size w w4 ∧ w.heap.size + 1 ≤ w4.heap.size) := by
        refine Lib.hid fun v n w4 hown hgr => ?_
        have h1 := hexL_snoc a k hla
        rw [← HX.out] at h1
        have hn : n = (Hex.hexL (a.take k)).length + 2 := by
          have := hown.1
          simp [bytes] at this
          omega
        refine ⟨?_, ?_, ?_, ?_⟩
        · rw [h1]
          exact own_cast hown (by rw [hn]; simp) (by rw [HP.out, HQ.out]; simp [bytes])
        · exact Is.past (w := wr.drew.alloc (.cells #[.int .u8 (p : Nat), .int .u8 (q : Nat)] 5)) (Is.alloc (w := wr.drew) HI.out _) HO2.out (by omega) hgr
        · exact Below.grown ((HB.out.drew).alloc (by have := HZ.out; show _ ≤ wr.heap.size; omega) _) hgr (by have := HZ.out; show _ ≤ (wr.heap.push _).size; rw [Array.size_push]; omega) (fun j hj => by have := (HO2.out.lt j hj).1; omega)
        · have := hgr.size
          have h2 : (wr.alloc (.cells #[.int .u8 (p : Nat), .int .u8 (q : Nat)] 5)).drew.heap.size = wr.heap.size + 1 := Array.size_push _
          have := HZ.out
          omega
      clear hp hq one1
      go_region_law (refine step_append_lies _ rfl (.tmp 9) (.tmp 20) 36 rfl (w.heap.size + 1) 5 i0 (.int .u8 0) 1 1 Tryd.underlying36 hi hz0 hz1 hz2 rfl (by decide) u3 (Hex.hexL (a.take k)).length (bytes (Hex.hexL (a.take k))) (by simp [Act.eval]) HO2.out ⟨wr.heap.size, 0, none⟩ 2 2 [.int .u8 (p : Nat), .int .u8 (q : Nat)] (by simp [Act.eval]) rfl HN.out ONE.out (by decide) (by rw [HL.out]; simp only [maxLen]; omega) (by rw [HL.out]; omega) (by have := HZ.out; show _ ≤ (wr.heap.push _).size; rw [Array.size_push]; omega) _ rfl ?_; intro g4 cap4 w4 hown4 hgr4 hat4 hlt4; have HOWN := Lib.hid hown4; have HGR := Lib.hid hgr4; clear hown4 hgr4 hat4 hlt4)
      all_goals go_wp2
      all_goals exact ⟨⟨k + 1, by omega, by go_num, FIN.out _ _ _ HOWN.out HGR.out⟩, by simp [intOf]; omega⟩
    · have i1 : decide ((k : Int) < 32) = false := by simp; omega
      obtain rfl : k = 32 := by omega
      rw [List.take_of_length_le (by rw [HA.out]; omega)] at ho
      have hcv := conv_own ho
      clear ho hI hB hsz
      go_wp2
      go_ret
      exact ⟨rfl, HB.out⟩
end Go.Proofs.YtdkhinjogomdaaaDoor
