/-
  The walk of WalJoins.
-/
import Derived.Test.YtgamkahbebnnaaaDoorD5WTorn
namespace Go.Proofs.YtgamkahbebnnaaaDoor.D5
open Go.RowKit WalPlain
set_option maxRecDepth 40000
theorem tot_append (l m : List Bs) : tot (l ++ m) = tot l + tot m := by simp [tot]
theorem mk5_append (a b : Bs) : mk a ++ mk b = mk (a ++ b) := append_mk a b
theorem own_row {w : World} {B n cap : Nat} {A : Option Addr} {l : List Bs} (h : w.ownsRow B 9 1 (.slice A n cap) n (strs l)) : Row w w.heap.size A (strs l) := fun k u hk => by
  obtain ⟨a, a1, a2⟩ := own_at h k u hk
  exact ⟨a, a1, block_lt_of_cell (a := a.add k) a2 |> fun h => by rw [add_block] at h; exact h, a2⟩
theorem app_first {W w5 : World} {v' : Value} {o : Obj} (hgr : (W.alloc o).grownBy w5 (Value.slice (some ⟨W.heap.size, 0, none⟩) 0 0).ownBlock) (hbl : ∀ k, v'.ownBlock = some k → (Value.slice (some ⟨W.heap.size, 0, none⟩) 0 0).ownBlock = some k ∨ (W.alloc o).heap.size ≤ k) :
    Below W.heap.size W w5 ∧ ∀ k, v'.ownBlock = some k → W.heap.size ≤ k := by
  refine ⟨(Fr.below (F := fun k => k = W.heap.size) (((Fr.refl _ W).alloc _).trans (Fr.of_grown (F := fun k => k = W.heap.size) hgr (fun b e => by simp only [Value.ownBlock, Option.some.injEq] at e; exact e.symm)) (fun _ _ e => e)) (fun k e => by omega) (Nat.le_refl _)), fun k hk => ?_⟩
  rcases hbl k hk with h | h
  · simp only [Value.ownBlock, Option.some.injEq] at h; omega
  · simp only [World.alloc, Array.size_push] at h; omega
theorem app_next {W w5 w6 : World} {v v' : Value} (hb : Below W.heap.size W w5) (hv : ∀ k, v.ownBlock = some k → W.heap.size ≤ k) (hgr : w5.grownBy w6 v.ownBlock) (hbl : ∀ k, v'.ownBlock = some k → v.ownBlock = some k ∨ w5.heap.size ≤ k) :
    Below W.heap.size W w6 ∧ ∀ k, v'.ownBlock = some k → W.heap.size ≤ k := by
  refine ⟨hb.trans ((Fr.of_grown (F := fun k => v.ownBlock = some k) hgr (fun b e => e)).below hv hb.size), fun k hk => ?_⟩
  rcases hbl k hk with h | h
  · exact hv k h
  · exact Nat.le_trans hb.size h
theorem le_mem {l : List Bs} {s : Bs} {k : Nat} (h : k < l.length) (hs : s = l[k]) : s ∈ l := by rw [hs]; exact List.getElem_mem h
set_option maxHeartbeats 1000000 in
theorem joins_1 (A1 A2 : Option Addr) (cap1 cap2 : Nat) (l m : List Bs) (x : Bs) (w : World) (hT : S3.Tabs w) (hr1 : Row w w.heap.size A1 (strs l)) (hr2 : Row w w.heap.size A2 (strs m)) (hlen1 : l.length ≤ 140737488351232) (_hlen2 : m.length ≤ 140737488351232) (h20 : 20 < l.length) :
    Calls Tryd.prog 5 #[.slice A1 l.length cap1, .slice A2 m.length cap2, .string (mk x)] w fun e w' => e = .returned (.bool true) ∧ Below w.heap.size w w' := by
  have j1 : decide (20 < (l.length : Int)) = true := by simp; omega
  have j2 : decide (20 < l.length) = true := by simp; omega
  have HR1 := Lib.hid hr1
  have HR2 := Lib.hid hr2
  have S0 := Lib.hid (small_any w hT)
  clear hT hr1 hr2
  have hz0 : (mk x).size = x.length := rfl
  go_enter Tryd.func5, Tryd.ntmps5
  go_wp2_with (go_at_call 7; refine S0.out.mono ?_; rintro e w1 ⟨rfl, h1⟩; have B1 := Lib.hid h1; clear h1)
  go_loopw [8, 9] (fun v8 v9 wr => ∃ (k : Nat) (z : Int), v9 = .int .i64 (k : Int) ∧ k ≤ l.length ∧ k ≤ 30 ∧ v8 = .int .i64 z ∧ wr = w1) (fun _ v9 _ => 30 - (intOf v9).toNat)
  case atStart => exact ⟨0, _, rfl, Nat.zero_le _, by omega, rfl, rfl⟩
  case round =>
    obtain ⟨k, z, rfl, hk, h30, rfl, hwr⟩ := hrel
    subst hwr
    by_cases hlt : k < l.length ∧ k < 30
    · obtain ⟨hlt, hk3⟩ := hlt
      have i1 : decide ((k : Int) < (l.length : Int)) = true := by simp; omega
      have i2 : decide (k < l.length) = true := by simp; omega
      have i3 : decide ((k : Int) < 30) = true := by simp; omega
      have i4 : decide (k < 30) = true := by simp; omega
      obtain ⟨s, hs⟩ : ∃ s, s = l[k] := ⟨_, rfl⟩
      obtain ⟨a, hAa, ha, hc⟩ := HR1.out k _ (strs_at l k hlt)
      rw [← hs] at hc
      have hcr : wr.cell? (a.add k) = some (.string (mk s)) := (B1.out.cell (by rw [add_block]; exact ha)).trans hc
      have hz : (mk s).size = s.length := rfl
      have W2 : IntKind.i64.wrap ((k : Int) + 1) = (k : Int) + 1 := IntWalk.i64_in _ (by omega)
      subst hAa
      clear hs hc
      go_wp2
      go_roundw
      case rel => exact ⟨k + 1, _, by go_num, by omega, by omega, rfl, trivial⟩
      case measure => simp [intOf]; omega
    · have hd : decide ((k : Int) < (l.length : Int)) = false ∧ decide (k < l.length) = false ∨ (decide ((k : Int) < (l.length : Int)) = true ∧ decide (k < l.length) = true) ∧ decide ((k : Int) < 30) = false ∧ decide (k < 30) = false := by simp; omega
      clear hlt
      rcases hd with ⟨hd, hd1⟩ | ⟨⟨hd, hd1⟩, hd2, hd3⟩
      · clear hk h30
        obtain ⟨wo, hwo⟩ : ∃ wo, wo = wr := ⟨_, rfl⟩
        subst hwo
        go_wp2
        go_loopw [8, 10] (fun v8 v9 wr => ∃ (k : Nat) (z : Int), v9 = .int .i64 (k : Int) ∧ k ≤ m.length ∧ k ≤ 30 ∧ v8 = .int .i64 z ∧ wr = wo) (fun _ v9 _ => 30 - (intOf v9).toNat)
        case atStart => exact ⟨0, _, rfl, Nat.zero_le _, by omega, rfl, rfl⟩
        case round =>
          obtain ⟨k, z, rfl, hk, h30, rfl, hwr⟩ := hrel
          subst hwr
          by_cases hlt : k < m.length ∧ k < 30
          · obtain ⟨hlt, hk3⟩ := hlt
            have i1 : decide ((k : Int) < (m.length : Int)) = true := by simp; omega
            have i2 : decide (k < m.length) = true := by simp; omega
            have i3 : decide ((k : Int) < 30) = true := by simp; omega
            have i4 : decide (k < 30) = true := by simp; omega
            obtain ⟨s, hs⟩ : ∃ s, s = m[k] := ⟨_, rfl⟩
            obtain ⟨a, hAa, ha, hc⟩ := HR2.out k _ (strs_at m k hlt)
            rw [← hs] at hc
            have hcr : wr.cell? (a.add k) = some (.string (mk s)) := (B1.out.cell (by rw [add_block]; exact ha)).trans hc
            have hz : (mk s).size = s.length := rfl
            have W2 : IntKind.i64.wrap ((k : Int) + 1) = (k : Int) + 1 := IntWalk.i64_in _ (by omega)
            subst hAa
            clear hs hc
            go_wp2
            go_roundw
            case rel => exact ⟨k + 1, _, by go_num, by omega, by omega, rfl, trivial⟩
            case measure => simp [intOf]; omega
          · have hd : decide ((k : Int) < (m.length : Int)) = false ∧ decide (k < m.length) = false ∨ (decide ((k : Int) < (m.length : Int)) = true ∧ decide (k < m.length) = true) ∧ decide ((k : Int) < 30) = false ∧ decide (k < 30) = false := by simp; omega
            clear hlt
            rcases hd with ⟨hd, hd1⟩ | ⟨⟨hd, hd1⟩, hd2, hd3⟩
            · clear hk h30
              go_wp2
              go_ret
              exact ⟨rfl, B1.out⟩
            · clear hk h30
              go_wp2
              go_ret
              exact ⟨rfl, B1.out⟩
      · clear hk h30
        obtain ⟨wo, hwo⟩ : ∃ wo, wo = wr := ⟨_, rfl⟩
        subst hwo
        go_wp2
        go_loopw [8, 10] (fun v8 v9 wr => ∃ (k : Nat) (z : Int), v9 = .int .i64 (k : Int) ∧ k ≤ m.length ∧ k ≤ 30 ∧ v8 = .int .i64 z ∧ wr = wo) (fun _ v9 _ => 30 - (intOf v9).toNat)
        case atStart => exact ⟨0, _, rfl, Nat.zero_le _, by omega, rfl, rfl⟩
        case round =>
          obtain ⟨k, z, rfl, hk, h30, rfl, hwr⟩ := hrel
          subst hwr
          by_cases hlt : k < m.length ∧ k < 30
          · obtain ⟨hlt, hk3⟩ := hlt
            have i1 : decide ((k : Int) < (m.length : Int)) = true := by simp; omega
            have i2 : decide (k < m.length) = true := by simp; omega
            have i3 : decide ((k : Int) < 30) = true := by simp; omega
            have i4 : decide (k < 30) = true := by simp; omega
            obtain ⟨s, hs⟩ : ∃ s, s = m[k] := ⟨_, rfl⟩
            obtain ⟨a, hAa, ha, hc⟩ := HR2.out k _ (strs_at m k hlt)
            rw [← hs] at hc
            have hcr : wr.cell? (a.add k) = some (.string (mk s)) := (B1.out.cell (by rw [add_block]; exact ha)).trans hc
            have hz : (mk s).size = s.length := rfl
            have W2 : IntKind.i64.wrap ((k : Int) + 1) = (k : Int) + 1 := IntWalk.i64_in _ (by omega)
            subst hAa
            clear hs hc
            go_wp2
            go_roundw
            case rel => exact ⟨k + 1, _, by go_num, by omega, by omega, rfl, trivial⟩
            case measure => simp [intOf]; omega
          · have hd : decide ((k : Int) < (m.length : Int)) = false ∧ decide (k < m.length) = false ∨ (decide ((k : Int) < (m.length : Int)) = true ∧ decide (k < m.length) = true) ∧ decide ((k : Int) < 30) = false ∧ decide (k < 30) = false := by simp; omega
            clear hlt
            rcases hd with ⟨hd, hd1⟩ | ⟨⟨hd, hd1⟩, hd2, hd3⟩
            · clear hk h30
              go_wp2
              go_ret
              exact ⟨rfl, B1.out⟩
            · clear hk h30
              go_wp2
              go_ret
              exact ⟨rfl, B1.out⟩
set_option maxHeartbeats 1000000 in
theorem joins_2 (A1 A2 : Option Addr) (cap1 cap2 : Nat) (l m : List Bs) (x : Bs) (w : World) (hT : S3.Tabs w) (hr1 : Row w w.heap.size A1 (strs l)) (hr2 : Row w w.heap.size A2 (strs m)) (hlen1 : l.length ≤ 140737488351232) (hlen2 : m.length ≤ 140737488351232) (h20 : l.length ≤ 20) (g20 : 20 < m.length) :
    Calls Tryd.prog 5 #[.slice A1 l.length cap1, .slice A2 m.length cap2, .string (mk x)] w fun e w' => e = .returned (.bool true) ∧ Below w.heap.size w w' := by
  have j1 : decide (20 < (l.length : Int)) = false := by simp; omega
  have j2 : decide (20 < l.length) = false := by simp; omega
  have j3 : decide (20 < (m.length : Int)) = true := by simp; omega
  have j4 : decide (20 < m.length) = true := by simp; omega
  have HR1 := Lib.hid hr1
  have HR2 := Lib.hid hr2
  have S0 := Lib.hid (small_any w hT)
  clear hT hr1 hr2
  have hz0 : (mk x).size = x.length := rfl
  go_enter Tryd.func5, Tryd.ntmps5
  go_wp2_with (go_at_call 7; refine S0.out.mono ?_; rintro e w1 ⟨rfl, h1⟩; have B1 := Lib.hid h1; clear h1)
  go_loopw [8, 9] (fun v8 v9 wr => ∃ (k : Nat) (z : Int), v9 = .int .i64 (k : Int) ∧ k ≤ l.length ∧ k ≤ 30 ∧ v8 = .int .i64 z ∧ wr = w1) (fun _ v9 _ => 30 - (intOf v9).toNat)
  case atStart => exact ⟨0, _, rfl, Nat.zero_le _, by omega, rfl, rfl⟩
  case round =>
    obtain ⟨k, z, rfl, hk, h30, rfl, hwr⟩ := hrel
    subst hwr
    by_cases hlt : k < l.length ∧ k < 30
    · obtain ⟨hlt, hk3⟩ := hlt
      have i1 : decide ((k : Int) < (l.length : Int)) = true := by simp; omega
      have i2 : decide (k < l.length) = true := by simp; omega
      have i3 : decide ((k : Int) < 30) = true := by simp; omega
      have i4 : decide (k < 30) = true := by simp; omega
      obtain ⟨s, hs⟩ : ∃ s, s = l[k] := ⟨_, rfl⟩
      obtain ⟨a, hAa, ha, hc⟩ := HR1.out k _ (strs_at l k hlt)
      rw [← hs] at hc
      have hcr : wr.cell? (a.add k) = some (.string (mk s)) := (B1.out.cell (by rw [add_block]; exact ha)).trans hc
      have hz : (mk s).size = s.length := rfl
      have W2 : IntKind.i64.wrap ((k : Int) + 1) = (k : Int) + 1 := IntWalk.i64_in _ (by omega)
      subst hAa
      clear hs hc
      go_wp2
      go_roundw
      case rel => exact ⟨k + 1, _, by go_num, by omega, by omega, rfl, trivial⟩
      case measure => simp [intOf]; omega
    · have hd : decide ((k : Int) < (l.length : Int)) = false ∧ decide (k < l.length) = false ∨ (decide ((k : Int) < (l.length : Int)) = true ∧ decide (k < l.length) = true) ∧ decide ((k : Int) < 30) = false ∧ decide (k < 30) = false := by simp; omega
      clear hlt
      rcases hd with ⟨hd, hd1⟩ | ⟨⟨hd, hd1⟩, hd2, hd3⟩
      · clear hk h30
        obtain ⟨wo, hwo⟩ : ∃ wo, wo = wr := ⟨_, rfl⟩
        subst hwo
        go_wp2
        go_loopw [8, 10] (fun v8 v9 wr => ∃ (k : Nat) (z : Int), v9 = .int .i64 (k : Int) ∧ k ≤ m.length ∧ k ≤ 30 ∧ v8 = .int .i64 z ∧ wr = wo) (fun _ v9 _ => 30 - (intOf v9).toNat)
        case atStart => exact ⟨0, _, rfl, Nat.zero_le _, by omega, rfl, rfl⟩
        case round =>
          obtain ⟨k, z, rfl, hk, h30, rfl, hwr⟩ := hrel
          subst hwr
          by_cases hlt : k < m.length ∧ k < 30
          · obtain ⟨hlt, hk3⟩ := hlt
            have i1 : decide ((k : Int) < (m.length : Int)) = true := by simp; omega
            have i2 : decide (k < m.length) = true := by simp; omega
            have i3 : decide ((k : Int) < 30) = true := by simp; omega
            have i4 : decide (k < 30) = true := by simp; omega
            obtain ⟨s, hs⟩ : ∃ s, s = m[k] := ⟨_, rfl⟩
            obtain ⟨a, hAa, ha, hc⟩ := HR2.out k _ (strs_at m k hlt)
            rw [← hs] at hc
            have hcr : wr.cell? (a.add k) = some (.string (mk s)) := (B1.out.cell (by rw [add_block]; exact ha)).trans hc
            have hz : (mk s).size = s.length := rfl
            have W2 : IntKind.i64.wrap ((k : Int) + 1) = (k : Int) + 1 := IntWalk.i64_in _ (by omega)
            subst hAa
            clear hs hc
            go_wp2
            go_roundw
            case rel => exact ⟨k + 1, _, by go_num, by omega, by omega, rfl, trivial⟩
            case measure => simp [intOf]; omega
          · have hd : decide ((k : Int) < (m.length : Int)) = false ∧ decide (k < m.length) = false ∨ (decide ((k : Int) < (m.length : Int)) = true ∧ decide (k < m.length) = true) ∧ decide ((k : Int) < 30) = false ∧ decide (k < 30) = false := by simp; omega
            clear hlt
            rcases hd with ⟨hd, hd1⟩ | ⟨⟨hd, hd1⟩, hd2, hd3⟩
            · clear hk h30
              go_wp2
              go_ret
              exact ⟨rfl, B1.out⟩
            · clear hk h30
              go_wp2
              go_ret
              exact ⟨rfl, B1.out⟩
      · clear hk h30
        obtain ⟨wo, hwo⟩ : ∃ wo, wo = wr := ⟨_, rfl⟩
        subst hwo
        go_wp2
        go_loopw [8, 10] (fun v8 v9 wr => ∃ (k : Nat) (z : Int), v9 = .int .i64 (k : Int) ∧ k ≤ m.length ∧ k ≤ 30 ∧ v8 = .int .i64 z ∧ wr = wo) (fun _ v9 _ => 30 - (intOf v9).toNat)
        case atStart => exact ⟨0, _, rfl, Nat.zero_le _, by omega, rfl, rfl⟩
        case round =>
          obtain ⟨k, z, rfl, hk, h30, rfl, hwr⟩ := hrel
          subst hwr
          by_cases hlt : k < m.length ∧ k < 30
          · obtain ⟨hlt, hk3⟩ := hlt
            have i1 : decide ((k : Int) < (m.length : Int)) = true := by simp; omega
            have i2 : decide (k < m.length) = true := by simp; omega
            have i3 : decide ((k : Int) < 30) = true := by simp; omega
            have i4 : decide (k < 30) = true := by simp; omega
            obtain ⟨s, hs⟩ : ∃ s, s = m[k] := ⟨_, rfl⟩
            obtain ⟨a, hAa, ha, hc⟩ := HR2.out k _ (strs_at m k hlt)
            rw [← hs] at hc
            have hcr : wr.cell? (a.add k) = some (.string (mk s)) := (B1.out.cell (by rw [add_block]; exact ha)).trans hc
            have hz : (mk s).size = s.length := rfl
            have W2 : IntKind.i64.wrap ((k : Int) + 1) = (k : Int) + 1 := IntWalk.i64_in _ (by omega)
            subst hAa
            clear hs hc
            go_wp2
            go_roundw
            case rel => exact ⟨k + 1, _, by go_num, by omega, by omega, rfl, trivial⟩
            case measure => simp [intOf]; omega
          · have hd : decide ((k : Int) < (m.length : Int)) = false ∧ decide (k < m.length) = false ∨ (decide ((k : Int) < (m.length : Int)) = true ∧ decide (k < m.length) = true) ∧ decide ((k : Int) < 30) = false ∧ decide (k < 30) = false := by simp; omega
            clear hlt
            rcases hd with ⟨hd, hd1⟩ | ⟨⟨hd, hd1⟩, hd2, hd3⟩
            · clear hk h30
              go_wp2
              go_ret
              exact ⟨rfl, B1.out⟩
            · clear hk h30
              go_wp2
              go_ret
              exact ⟨rfl, B1.out⟩
end Go.Proofs.YtgamkahbebnnaaaDoor.D5
