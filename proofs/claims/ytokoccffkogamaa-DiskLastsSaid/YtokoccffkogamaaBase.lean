/-
  few and begins, as the laws call them.
-/
import Derived.Test.YtokoccffkogamaaSmall
namespace Go.Proofs.Ytokoccffkogamaa
open Go.RowKit
theorem extract_front (s : ByteArray) (k : Nat) : s.extract 0 k = mk ((ls s).take k) := by
  apply ls_inj
  show (s.extract 0 k).data.toList = (ls s).take k
  rw [ByteArray.data_extract, Array.toList_extract, List.extract_eq_take_drop]
  rfl
theorem begins_any (s t : List UInt8) (w : World) (h : t <+: s) : Calls Try.prog 28 #[.string (mk s), .string (mk t)] w fun e w' => e = .returned (.bool true) ∧ w' = w := by
  obtain ⟨u, rfl⟩ := h
  have e : (mk (t ++ u)).extract 0 (mk t).size = mk t := by
    rw [extract_front, ls_mk, size_mk, List.take_left]
  have i1 : (mk t).size ≤ (mk (t ++ u)).size := by rw [size_mk, size_mk, List.length_append]; omega
  have i2 : decide (((mk t).size : Int) ≤ ((mk (t ++ u)).size : Int)) = true := by simp; omega
  have i3 : decide ((mk t).size ≤ (mk (t ++ u)).size) = true := by simp; omega
  obtain ⟨x, hx⟩ : ∃ x, x = mk (t ++ u) := ⟨_, rfl⟩
  obtain ⟨y, hy⟩ : ∃ y, y = mk t := ⟨_, rfl⟩
  rw [← hx, ← hy] at e i1 i2 i3
  rw [← hx, ← hy]
  clear hx hy
  have i4 : (y.size : Int) ≤ (x.size : Int) := by omega
  go_enter Try.func28, Try.ntmps28
  go_wp2
  go_ret
  exact ⟨rfl, rfl⟩
def tot (l : List Ac) : Nat := (l.map fun a => a.s.length + a.keep.length).sum
theorem tot_snoc (l : List Ac) (k : Nat) (h : k < l.length) : tot (l.take (k + 1)) = tot (l.take k) + (l[k].s.length + l[k].keep.length) := by
  unfold tot
  rw [List.take_succ_eq_append_getElem h, List.map_append, List.sum_append]
  simp
theorem tot_le (l : List Ac) (h : ∀ a ∈ l, a.Fits) : tot l ≤ l.length * 158329674399744 := by
  induction l with
  | nil => simp [tot]
  | cons a r ih =>
    have h1 := h a (by simp)
    have h2 := ih (fun b hb => h b (by simp [hb]))
    have h3 := h1.s
    have h4 := h1.keep
    simp only [tot, List.map_cons, List.sum_cons, List.length_cons] at h2 ⊢
    omega
def fewD (l : List Ac) : Bool := decide (l.length ≤ 200) && decide (tot l ≤ 100000)
set_option maxRecDepth 40000 in
set_option maxHeartbeats 2000000 in
theorem few_any (A : Option Addr) (c : Nat) (l : List Ac) (w : World) (h : Acts w w.heap.size A l) (hf : ∀ a ∈ l, a.Fits) (hl : l.length < 4611686018427387904) :
    Calls Try.prog 11 #[.slice A l.length c] w fun e w' => e = .returned (.bool (fewD l)) ∧ Below w.heap.size w w' := by
  have HA := Lib.hid h
  have HF := Lib.hid hf
  clear h hf
  go_enter Try.func11, Try.ntmps11
  go_wp2
  go_loopw [3, 4] (fun n i wr => ∃ (k : Nat) (z : Int), k ≤ l.length ∧ i = .int .i64 (k : Int) ∧ n = .int .i64 z ∧ (l.length ≤ 200 → z = (tot (l.take k) : Nat)) ∧ Below w.heap.size w wr) (fun _ i _ => l.length - (intOf i).toNat)
  case atStart => exact ⟨0, 0, by omega, rfl, rfl, fun _ => by simp [tot], Below.refl _ _⟩
  case round =>
    obtain ⟨k, z, hk, rfl, rfl, hz, hb⟩ := hrel
    by_cases hlt : k < l.length
    · have i1 : decide ((k : Int) < (l.length : Int)) = true := by simp; omega
      have i2 : (k : Int) < (l.length : Int) := by omega
      have W1 : IntKind.i64.wrap ((k : Int) + 1) = (k : Int) + 1 := IntWalk.i64_in _ (by omega)
      obtain ⟨a, rfl, hat⟩ := HA.out k l[k] (by rw [List.getElem?_eq_getElem hlt])
      obtain ⟨hP, K, cK, g0, g1, g2, g3, g4, g5, gk⟩ := hat.below hb
      obtain ⟨t, ht⟩ : ∃ t, t = l[k] := ⟨_, rfl⟩
      rw [← ht] at g4 g5
      have s4 : (mk t.s).size = t.s.length := rfl
      have HZ : Hid (l.length ≤ 200 → wrap64 (wrap64 (z + (t.s.length : Int)) + (t.keep.length : Int)) = (tot (l.take (k + 1)) : Nat)) := Lib.hid (fun h200 => by
        have e := tot_snoc l k hlt
        rw [← ht] at e
        have e2 := hz h200
        have b1 := tot_le (l.take k) (fun b hb => HF.out b (List.mem_of_mem_take hb))
        have b2 := HF.out l[k] (List.getElem_mem _)
        rw [← ht] at b2
        have b3 := b2.s
        have b4 := b2.keep
        rw [List.length_take] at b1
        have b5 : tot (l.take k) ≤ 200 * 158329674399744 := by
          refine Nat.le_trans b1 (Nat.mul_le_mul_right _ (by omega))
        rw [IntWalk.wrap64_in (z + (t.s.length : Int)) (by omega), IntWalk.wrap64_in _ (by omega)]
        omega)
      have HB := Lib.hid hb
      clear hat g0 g1 g2 g3 gk ht hz hb hP
      go_wp2
      go_quiet (fail)
      go_wp2
      go_roundw
      case rel =>
        exact ⟨k + 1, _, by omega, by go_num, rfl, HZ.out, ⟨HB.out.os, HB.out.tape, HB.out.output, HB.out.size, HB.out.block⟩⟩
      case measure => simp [intOf]; omega
    · have i1 : decide ((k : Int) < (l.length : Int)) = false := by simp; omega
      have i2 : decide (k < l.length) = false := by simp; omega
      have hkl : k = l.length := by omega
      have hz' : Hid (l.length ≤ 200 → z = (tot l : Nat)) := Lib.hid (fun h => by have := hz h; rw [hkl, List.take_length] at this; exact this)
      have HB := Lib.hid hb
      clear hz hb hkl hk hlt
      by_cases h200 : l.length ≤ 200
      · have j1 : decide ((l.length : Int) ≤ 200) = true := by simp; omega
        have j2 : decide (l.length ≤ 200) = true := by simp; omega
        by_cases ht : tot l ≤ 100000
        · have hE : fewD l = true := by simp [fewD, h200, ht]
          have j3 : decide (z ≤ 100000) = true := by have := hz'.out h200; simp; omega
          have HE := Lib.hid hE
          clear hE
          go_wp2
          go_ret
          exact ⟨by rw [HE.out]; rfl, HB.out⟩
        · have hE : fewD l = false := by simp [fewD]; omega
          have j3 : decide (z ≤ 100000) = false := by have := hz'.out h200; simp; omega
          have HE := Lib.hid hE
          clear hE
          go_wp2
          go_ret
          exact ⟨by rw [HE.out]; rfl, HB.out⟩
      · have hE : fewD l = false := by simp [fewD]; omega
        have j1 : decide ((l.length : Int) ≤ 200) = false := by simp; omega
        have j2 : decide (l.length ≤ 200) = false := by simp; omega
        have HE := Lib.hid hE
        clear hE
        go_wp2
        go_ret
        exact ⟨by rw [HE.out]; rfl, HB.out⟩
end Go.Proofs.Ytokoccffkogamaa
