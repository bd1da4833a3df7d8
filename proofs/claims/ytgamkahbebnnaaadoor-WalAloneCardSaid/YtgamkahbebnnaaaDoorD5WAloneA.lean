/-
  The walk of WalAlone.
-/
import Derived.Test.YtgamkahbebnnaaaDoorD5WJoinsA
namespace Go.Proofs.YtgamkahbebnnaaaDoor.D5
open Go.RowKit WalPlain
set_option maxRecDepth 40000
section
variable {W w : World} {A B Q : World → (Nat → Prop) → Prop} {b c c2 : Nat} {f f2 : Int} {D : Dk} {R R2 : List Bs}
theorem par_assoc (h : Par W w (Both A B) Q) : Par W w A (Both B Q) := by
  obtain ⟨F, G, ⟨F1, G1, h1, h2, h3, h4⟩, hq, d, lF, lG, hb⟩ := h
  refine ⟨F1, fun k => G1 k ∨ G k, h1, ⟨G1, G, h2, hq, fun k hk hg => d k ((h4 k).2 (.inr hk)) hg, fun _ => Iff.rfl⟩, fun k hk hg => ?_, fun k hk => lF k ((h4 k).2 (.inl hk)), fun k hk => ?_, hb⟩
  · rcases hg with hg | hg
    · exact h3 k hk hg
    · exact d k ((h4 k).2 (.inl hk)) hg
  · rcases hk with hk | hk
    · exact lF k ((h4 k).2 (.inr hk))
    · exact lG k hk
/-- Two logs on one disk: the other one's view. -/
theorem par_swap (h : Par W w (DL b c f D R) (LgP c2 b f2 R2)) : Par W w (DL b c2 f2 D R2) (LgP c b f R) := by
  obtain ⟨F, G, ⟨F1, G1, h1, h2, h3, h4⟩, hq, d, lF, lG, hb⟩ := h
  refine ⟨fun k => F1 k ∨ G k, G1, ⟨F1, G, h1, hq, fun k hk hg => d k ((h4 k).2 (.inl hk)) hg, fun _ => Iff.rfl⟩, h2, fun k hk hg => ?_, fun k hk => ?_, fun k hk => lF k ((h4 k).2 (.inr hk)), hb⟩
  · rcases hk with hk | hk
    · exact h3 k hk hg
    · exact d k ((h4 k).2 (.inr hg)) hk
  · rcases hk with hk | hk
    · exact lF k ((h4 k).2 (.inl hk))
    · exact lG k hk
theorem par_lg (h : Par W w (DL b c f D R) Non) : Par W w (HasP b D) (LgP c b f R) := (par_assoc h).drop (fun w G hh => both_left w G hh)
end
set_option maxHeartbeats 1000000 in
theorem alone_1 (A1 A2 : Option Addr) (cap1 cap2 : Nat) (l m : List Bs) (again : Bool) (w : World) (hT : S3.Tabs w) (hr1 : Row w w.heap.size A1 (strs l)) (hr2 : Row w w.heap.size A2 (strs m)) (hlen1 : l.length ≤ 140737488351232) (_hlen2 : m.length ≤ 140737488351232) (h20 : 20 < l.length) :
    Calls Tryd.prog 6 #[.slice A1 l.length cap1, .slice A2 m.length cap2, .bool again] w fun e w' => e = .returned (.bool true) ∧ Below w.heap.size w w' := by
  have j1 : decide (20 < (l.length : Int)) = true := by simp; omega
  have j2 : decide (20 < l.length) = true := by simp; omega
  have HR1 := Lib.hid hr1
  have HR2 := Lib.hid hr2
  have S0 := Lib.hid (small_any w hT)
  clear hT hr1 hr2
  go_enter Tryd.func6, Tryd.ntmps6
  go_wp2_with (go_at_call 7; refine S0.out.mono ?_; rintro e w1 ⟨rfl, h1⟩; have B1 := Lib.hid h1; clear h1)
  go_loopw [8, 9] (fun v8 v9 wr => ∃ (k : Nat) (z : Int), v9 = .int .i64 (k : Int) ∧ k ≤ l.length ∧ k ≤ 30 ∧ v8 = .int .i64 z ∧ wr = w1) (fun _ v9 _ => 30 - (intOf v9).toNat)
  case atStart => exact ⟨0, _, rfl, Nat.zero_le _, by omega, rfl, rfl⟩
  case round =>
    obtain ⟨k, z, rfl, hk, h30, rfl, hwr⟩ := hrel
    subst hwr
    by_cases hlt : k < l.length ∧ k < 30
    · obtain ⟨hlt, hk3⟩ := hlt
      have i1 : decide ((k : Int) < (l.length : Int)) = true := by simp; omega
      have i2 : decide (k < l.length) = true := by simp; omega
      have i3 : decide ((k : Int) < 30) = true := by simp; omega
      have i4 : decide (k < 30) = true := by simp; omega
      obtain ⟨s, hs⟩ : ∃ s, s = l[k] := ⟨_, rfl⟩
      obtain ⟨a, hAa, ha, hc⟩ := HR1.out k _ (strs_at l k hlt)
      rw [← hs] at hc
      have hcr : wr.cell? (a.add k) = some (.string (mk s)) := (B1.out.cell (by rw [add_block]; exact ha)).trans hc
      have hz : (mk s).size = s.length := rfl
      have W2 : IntKind.i64.wrap ((k : Int) + 1) = (k : Int) + 1 := IntWalk.i64_in _ (by omega)
      subst hAa
      clear hs hc
      go_wp2
      go_roundw
      case rel => exact ⟨k + 1, _, by go_num, by omega, by omega, rfl, trivial⟩
      case measure => simp [intOf]; omega
    · have hd : decide ((k : Int) < (l.length : Int)) = false ∧ decide (k < l.length) = false ∨ (decide ((k : Int) < (l.length : Int)) = true ∧ decide (k < l.length) = true) ∧ decide ((k : Int) < 30) = false ∧ decide (k < 30) = false := by simp; omega
      clear hlt
      rcases hd with ⟨hd, hd1⟩ | ⟨⟨hd, hd1⟩, hd2, hd3⟩
      · clear hk h30
        obtain ⟨wo, hwo⟩ : ∃ wo, wo = wr := ⟨_, rfl⟩
        subst hwo
        go_wp2
        go_loopw [8, 10] (fun v8 v9 wr => ∃ (k : Nat) (z : Int), v9 = .int .i64 (k : Int) ∧ k ≤ m.length ∧ k ≤ 30 ∧ v8 = .int .i64 z ∧ wr = wo) (fun _ v9 _ => 30 - (intOf v9).toNat)
        case atStart => exact ⟨0, _, rfl, Nat.zero_le _, by omega, rfl, rfl⟩
        case round =>
          obtain ⟨k, z, rfl, hk, h30, rfl, hwr⟩ := hrel
          subst hwr
          by_cases hlt : k < m.length ∧ k < 30
          · obtain ⟨hlt, hk3⟩ := hlt
            have i1 : decide ((k : Int) < (m.length : Int)) = true := by simp; omega
            have i2 : decide (k < m.length) = true := by simp; omega
            have i3 : decide ((k : Int) < 30) = true := by simp; omega
            have i4 : decide (k < 30) = true := by simp; omega
            obtain ⟨s, hs⟩ : ∃ s, s = m[k] := ⟨_, rfl⟩
            obtain ⟨a, hAa, ha, hc⟩ := HR2.out k _ (strs_at m k hlt)
            rw [← hs] at hc
            have hcr : wr.cell? (a.add k) = some (.string (mk s)) := (B1.out.cell (by rw [add_block]; exact ha)).trans hc
            have hz : (mk s).size = s.length := rfl
            have W2 : IntKind.i64.wrap ((k : Int) + 1) = (k : Int) + 1 := IntWalk.i64_in _ (by omega)
            subst hAa
            clear hs hc
            go_wp2
            go_roundw
            case rel => exact ⟨k + 1, _, by go_num, by omega, by omega, rfl, trivial⟩
            case measure => simp [intOf]; omega
          · have hd : decide ((k : Int) < (m.length : Int)) = false ∧ decide (k < m.length) = false ∨ (decide ((k : Int) < (m.length : Int)) = true ∧ decide (k < m.length) = true) ∧ decide ((k : Int) < 30) = false ∧ decide (k < 30) = false := by simp; omega
            clear hlt
            rcases hd with ⟨hd, hd1⟩ | ⟨⟨hd, hd1⟩, hd2, hd3⟩
            · clear hk h30
              go_wp2
              go_ret
              exact ⟨rfl, B1.out⟩
            · clear hk h30
              go_wp2
              go_ret
              exact ⟨rfl, B1.out⟩
      · clear hk h30
        obtain ⟨wo, hwo⟩ : ∃ wo, wo = wr := ⟨_, rfl⟩
        subst hwo
        go_wp2
        go_loopw [8, 10] (fun v8 v9 wr => ∃ (k : Nat) (z : Int), v9 = .int .i64 (k : Int) ∧ k ≤ m.length ∧ k ≤ 30 ∧ v8 = .int .i64 z ∧ wr = wo) (fun _ v9 _ => 30 - (intOf v9).toNat)
        case atStart => exact ⟨0, _, rfl, Nat.zero_le _, by omega, rfl, rfl⟩
        case round =>
          obtain ⟨k, z, rfl, hk, h30, rfl, hwr⟩ := hrel
          subst hwr
          by_cases hlt : k < m.length ∧ k < 30
          · obtain ⟨hlt, hk3⟩ := hlt
            have i1 : decide ((k : Int) < (m.length : Int)) = true := by simp; omega
            have i2 : decide (k < m.length) = true := by simp; omega
            have i3 : decide ((k : Int) < 30) = true := by simp; omega
            have i4 : decide (k < 30) = true := by simp; omega
            obtain ⟨s, hs⟩ : ∃ s, s = m[k] := ⟨_, rfl⟩
            obtain ⟨a, hAa, ha, hc⟩ := HR2.out k _ (strs_at m k hlt)
            rw [← hs] at hc
            have hcr : wr.cell? (a.add k) = some (.string (mk s)) := (B1.out.cell (by rw [add_block]; exact ha)).trans hc
            have hz : (mk s).size = s.length := rfl
            have W2 : IntKind.i64.wrap ((k : Int) + 1) = (k : Int) + 1 := IntWalk.i64_in _ (by omega)
            subst hAa
            clear hs hc
            go_wp2
            go_roundw
            case rel => exact ⟨k + 1, _, by go_num, by omega, by omega, rfl, trivial⟩
            case measure => simp [intOf]; omega
          · have hd : decide ((k : Int) < (m.length : Int)) = false ∧ decide (k < m.length) = false ∨ (decide ((k : Int) < (m.length : Int)) = true ∧ decide (k < m.length) = true) ∧ decide ((k : Int) < 30) = false ∧ decide (k < 30) = false := by simp; omega
            clear hlt
            rcases hd with ⟨hd, hd1⟩ | ⟨⟨hd, hd1⟩, hd2, hd3⟩
            · clear hk h30
              go_wp2
              go_ret
              exact ⟨rfl, B1.out⟩
            · clear hk h30
              go_wp2
              go_ret
              exact ⟨rfl, B1.out⟩
set_option maxHeartbeats 1000000 in
theorem alone_2 (A1 A2 : Option Addr) (cap1 cap2 : Nat) (l m : List Bs) (again : Bool) (w : World) (hT : S3.Tabs w) (hr1 : Row w w.heap.size A1 (strs l)) (hr2 : Row w w.heap.size A2 (strs m)) (hlen1 : l.length ≤ 140737488351232) (hlen2 : m.length ≤ 140737488351232) (h20 : l.length ≤ 20) (g20 : 20 < m.length) :
    Calls Tryd.prog 6 #[.slice A1 l.length cap1, .slice A2 m.length cap2, .bool again] w fun e w' => e = .returned (.bool true) ∧ Below w.heap.size w w' := by
  have j1 : decide (20 < (l.length : Int)) = false := by simp; omega
  have j2 : decide (20 < l.length) = false := by simp; omega
  have j3 : decide (20 < (m.length : Int)) = true := by simp; omega
  have j4 : decide (20 < m.length) = true := by simp; omega
  have HR1 := Lib.hid hr1
  have HR2 := Lib.hid hr2
  have S0 := Lib.hid (small_any w hT)
  clear hT hr1 hr2
  go_enter Tryd.func6, Tryd.ntmps6
  go_wp2_with (go_at_call 7; refine S0.out.mono ?_; rintro e w1 ⟨rfl, h1⟩; have B1 := Lib.hid h1; clear h1)
  go_loopw [8, 9] (fun v8 v9 wr => ∃ (k : Nat) (z : Int), v9 = .int .i64 (k : Int) ∧ k ≤ l.length ∧ k ≤ 30 ∧ v8 = .int .i64 z ∧ wr = w1) (fun _ v9 _ => 30 - (intOf v9).toNat)
  case atStart => exact ⟨0, _, rfl, Nat.zero_le _, by omega, rfl, rfl⟩
  case round =>
    obtain ⟨k, z, rfl, hk, h30, rfl, hwr⟩ := hrel
    subst hwr
    by_cases hlt : k < l.length ∧ k < 30
    · obtain ⟨hlt, hk3⟩ := hlt
      have i1 : decide ((k : Int) < (l.length : Int)) = true := by simp; omega
      have i2 : decide (k < l.length) = true := by simp; omega
      have i3 : decide ((k : Int) < 30) = true := by simp; omega
      have i4 : decide (k < 30) = true := by simp; omega
      obtain ⟨s, hs⟩ : ∃ s, s = l[k] := ⟨_, rfl⟩
      obtain ⟨a, hAa, ha, hc⟩ := HR1.out k _ (strs_at l k hlt)
      rw [← hs] at hc
      have hcr : wr.cell? (a.add k) = some (.string (mk s)) := (B1.out.cell (by rw [add_block]; exact ha)).trans hc
      have hz : (mk s).size = s.length := rfl
      have W2 : IntKind.i64.wrap ((k : Int) + 1) = (k : Int) + 1 := IntWalk.i64_in _ (by omega)
      subst hAa
      clear hs hc
      go_wp2
      go_roundw
      case rel => exact ⟨k + 1, _, by go_num, by omega, by omega, rfl, trivial⟩
      case measure => simp [intOf]; omega
    · have hd : decide ((k : Int) < (l.length : Int)) = false ∧ decide (k < l.length) = false ∨ (decide ((k : Int) < (l.length : Int)) = true ∧ decide (k < l.length) = true) ∧ decide ((k : Int) < 30) = false ∧ decide (k < 30) = false := by simp; omega
      clear hlt
      rcases hd with ⟨hd, hd1⟩ | ⟨⟨hd, hd1⟩, hd2, hd3⟩
      · clear hk h30
        obtain ⟨wo, hwo⟩ : ∃ wo, wo = wr := ⟨_, rfl⟩
        subst hwo
        go_wp2
        go_loopw [8, 10] (fun v8 v9 wr => ∃ (k : Nat) (z : Int), v9 = .int .i64 (k : Int) ∧ k ≤ m.length ∧ k ≤ 30 ∧ v8 = .int .i64 z ∧ wr = wo) (fun _ v9 _ => 30 - (intOf v9).toNat)
        case atStart => exact ⟨0, _, rfl, Nat.zero_le _, by omega, rfl, rfl⟩
        case round =>
          obtain ⟨k, z, rfl, hk, h30, rfl, hwr⟩ := hrel
          subst hwr
          by_cases hlt : k < m.length ∧ k < 30
          · obtain ⟨hlt, hk3⟩ := hlt
            have i1 : decide ((k : Int) < (m.length : Int)) = true := by simp; omega
            have i2 : decide (k < m.length) = true := by simp; omega
            have i3 : decide ((k : Int) < 30) = true := by simp; omega
            have i4 : decide (k < 30) = true := by simp; omega
            obtain ⟨s, hs⟩ : ∃ s, s = m[k] := ⟨_, rfl⟩
            obtain ⟨a, hAa, ha, hc⟩ := HR2.out k _ (strs_at m k hlt)
            rw [← hs] at hc
            have hcr : wr.cell? (a.add k) = some (.string (mk s)) := (B1.out.cell (by rw [add_block]; exact ha)).trans hc
            have hz : (mk s).size = s.length := rfl
            have W2 : IntKind.i64.wrap ((k : Int) + 1) = (k : Int) + 1 := IntWalk.i64_in _ (by omega)
            subst hAa
            clear hs hc
            go_wp2
            go_roundw
            case rel => exact ⟨k + 1, _, by go_num, by omega, by omega, rfl, trivial⟩
            case measure => simp [intOf]; omega
          · have hd : decide ((k : Int) < (m.length : Int)) = false ∧ decide (k < m.length) = false ∨ (decide ((k : Int) < (m.length : Int)) = true ∧ decide (k < m.length) = true) ∧ decide ((k : Int) < 30) = false ∧ decide (k < 30) = false := by simp; omega
            clear hlt
            rcases hd with ⟨hd, hd1⟩ | ⟨⟨hd, hd1⟩, hd2, hd3⟩
            · clear hk h30
              go_wp2
              go_ret
              exact ⟨rfl, B1.out⟩
            · clear hk h30
              go_wp2
              go_ret
              exact ⟨rfl, B1.out⟩
      · clear hk h30
        obtain ⟨wo, hwo⟩ : ∃ wo, wo = wr := ⟨_, rfl⟩
        subst hwo
        go_wp2
        go_loopw [8, 10] (fun v8 v9 wr => ∃ (k : Nat) (z : Int), v9 = .int .i64 (k : Int) ∧ k ≤ m.length ∧ k ≤ 30 ∧ v8 = .int .i64 z ∧ wr = wo) (fun _ v9 _ => 30 - (intOf v9).toNat)
        case atStart => exact ⟨0, _, rfl, Nat.zero_le _, by omega, rfl, rfl⟩
        case round =>
          obtain ⟨k, z, rfl, hk, h30, rfl, hwr⟩ := hrel
          subst hwr
          by_cases hlt : k < m.length ∧ k < 30
          · obtain ⟨hlt, hk3⟩ := hlt
            have i1 : decide ((k : Int) < (m.length : Int)) = true := by simp; omega
            have i2 : decide (k < m.length) = true := by simp; omega
            have i3 : decide ((k : Int) < 30) = true := by simp; omega
            have i4 : decide (k < 30) = true := by simp; omega
            obtain ⟨s, hs⟩ : ∃ s, s = m[k] := ⟨_, rfl⟩
            obtain ⟨a, hAa, ha, hc⟩ := HR2.out k _ (strs_at m k hlt)
            rw [← hs] at hc
            have hcr : wr.cell? (a.add k) = some (.string (mk s)) := (B1.out.cell (by rw [add_block]; exact ha)).trans hc
            have hz : (mk s).size = s.length := rfl
            have W2 : IntKind.i64.wrap ((k : Int) + 1) = (k : Int) + 1 := IntWalk.i64_in _ (by omega)
            subst hAa
            clear hs hc
            go_wp2
            go_roundw
            case rel => exact ⟨k + 1, _, by go_num, by omega, by omega, rfl, trivial⟩
            case measure => simp [intOf]; omega
          · have hd : decide ((k : Int) < (m.length : Int)) = false ∧ decide (k < m.length) = false ∨ (decide ((k : Int) < (m.length : Int)) = true ∧ decide (k < m.length) = true) ∧ decide ((k : Int) < 30) = false ∧ decide (k < 30) = false := by simp; omega
            clear hlt
            rcases hd with ⟨hd, hd1⟩ | ⟨⟨hd, hd1⟩, hd2, hd3⟩
            · clear hk h30
              go_wp2
              go_ret
              exact ⟨rfl, B1.out⟩
            · clear hk h30
              go_wp2
              go_ret
              exact ⟨rfl, B1.out⟩
end Go.Proofs.YtgamkahbebnnaaaDoor.D5
