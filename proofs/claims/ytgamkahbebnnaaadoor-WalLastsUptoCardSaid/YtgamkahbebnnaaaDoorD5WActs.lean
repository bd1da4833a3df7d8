/-
  WalLasts: acts in memory, the law's few.
-/
import Derived.Test.YtgamkahbebnnaaaDoorD5WTorn
import Derived.Deep.QuietTactic
import Derived.BigQuiet
namespace Go.Proofs.YtgamkahbebnnaaaDoor.D5
open Go.RowKit WalPlain
set_option maxRecDepth 40000
structure Wc where
  d : Int
  s : Bs
  l : List Bs
  n : Int
  keep : List Int
/-- The act at P, with its rows and kept lengths, in blocks below top. -/
def AtW (w : World) (top : Nat) (P : Addr) (t : Wc) : Prop := P.block < top ∧ ∃ A c B e, w.cell? P = some (.int .i64 t.d) ∧ w.cell? ⟨P.block, P.off + 1, none⟩ = some (.string (mk t.s)) ∧ w.cell? ⟨P.block, P.off + 2, none⟩ = some (.slice A t.l.length c) ∧
  w.cell? ⟨P.block, P.off + 3, none⟩ = some (.int .i64 t.n) ∧ w.cell? ⟨P.block, P.off + 4, none⟩ = some (.slice B t.keep.length e) ∧ Row w top A (strs t.l) ∧ (A = none → t.l.length = 0) ∧ Keep w top B t.keep
def ActsW (w : World) (top : Nat) (A : Option Addr) (l : List Wc) : Prop := ∀ k t, l[k]? = some t → ∃ a, A = some a ∧ AtW w top (a.add (k * 5)) t
theorem AtW.below {w w' : World} {top : Nat} {P : Addr} {t : Wc} (h : AtW w top P t) (hb : Below top w w') : AtW w' top P t := by
  obtain ⟨h0, A, c, B, e, h1, h2, h3, h4, h5, h6, h7, h8⟩ := h
  exact ⟨h0, A, c, B, e, (hb.cell (p := P) h0).trans h1, (hb.cell (p := ⟨P.block, P.off + 1, none⟩) h0).trans h2, (hb.cell (p := ⟨P.block, P.off + 2, none⟩) h0).trans h3,
    (hb.cell (p := ⟨P.block, P.off + 3, none⟩) h0).trans h4, (hb.cell (p := ⟨P.block, P.off + 4, none⟩) h0).trans h5, h6.below hb, h7, h8.below hb⟩
theorem ActsW.below {w w' : World} {top : Nat} {A : Option Addr} {l : List Wc} (h : ActsW w top A l) (hb : Below top w w') : ActsW w' top A l := fun k t hk => by
  obtain ⟨a, h1, h2⟩ := h k t hk
  exact ⟨a, h1, h2.below hb⟩
/-- What few counts of an act. -/
def Wc.wt (t : Wc) : Nat := t.s.length + t.l.length + tot t.l
def wts (l : List Wc) : Nat := (l.map Wc.wt).sum
theorem wts_snoc (l : List Wc) (k : Nat) (h : k < l.length) : wts (l.take (k + 1)) = wts (l.take k) + (l[k]).wt := by
  have e : l.take (k + 1) = l.take k ++ [l[k]] := (List.take_append_getElem h).symm
  unfold wts
  rw [e, List.map_append, List.sum_append]
  simp
theorem sum_take_le (xs : List Nat) (k : Nat) : (xs.take k).sum ≤ xs.sum := by
  have e : xs.sum = (xs.take k).sum + (xs.drop k).sum := by rw [← List.sum_append, List.take_append_drop]
  omega
theorem wts_take (l : List Wc) (k : Nat) : wts (l.take k) ≤ wts l := by
  unfold wts
  rw [List.map_take]
  exact sum_take_le _ _
theorem tot_take (l : List Bs) (k : Nat) : tot (l.take k) ≤ tot l := by
  unfold tot
  rw [List.map_take]
  exact sum_take_le _ _
/-- An act within the bounds of few. -/
structure Wc.Fine (t : Wc) : Prop where
  s : t.s.length ≤ 3000
  l : t.l.length ≤ 3000
  t : tot t.l ≤ 3000
def Fines (l : List Wc) : Prop := l.length ≤ 40 ∧ ∀ t ∈ l, t.Fine
theorem Fine.take {l : List Wc} {k : Nat} {t : Wc} (hlt : k < l.length) (ht : t = l[k]) (h : ∀ t ∈ l.take k, t.Fine) (hf : t.Fine) : ∀ t ∈ l.take (k + 1), t.Fine := by
  intro u hu
  rw [← List.take_append_getElem hlt] at hu
  rcases List.mem_append.1 hu with hu | hu
  · exact h u hu
  · simp only [List.mem_singleton] at hu
    rw [hu, ← ht]
    exact hf
set_option maxHeartbeats 4000000 in
theorem few_any (A : Option Addr) (c : Nat) (l : List Wc) (w : World) (h : ActsW w w.heap.size A l) (hb : wts l ≤ 1048576) (hl : l.length ≤ 1048576) :
    Calls Tryd.prog 9 #[.slice A l.length c] w fun e w' => ∃ r, e = .returned (.bool r) ∧ Hid (r = true → Fines l) ∧ ∃ j, w' = w.drewN j := by
  have HA := Lib.hid h
  have HB := Lib.hid hb
  clear h hb
  go_enter Tryd.func9, Tryd.ntmps9
  go_wp2
  go_loopw [3, 4] (fun n i wr => ∃ k z : Nat, i = .int .i64 (k : Int) ∧ n = .int .i64 (z : Int) ∧ k ≤ l.length ∧ k ≤ 50 ∧ Hid (z ≤ wts (l.take k)) ∧ Hid (z ≤ 3000 → ∀ t ∈ l.take k, t.Fine) ∧ Hid (∃ j, wr = w.drewN j)) (fun _ i _ => 50 - (intOf i).toNat)
  case atStart => exact ⟨0, 0, rfl, rfl, Nat.zero_le _, by omega, Lib.hid (Nat.zero_le _), Lib.hid (fun _ t ht => by simp at ht), Lib.hid ⟨0, rfl⟩⟩
  case round =>
    obtain ⟨k, z, rfl, rfl, hk, hk50, HZ, HG, HJ⟩ := hrel
    by_cases hlt : k < l.length ∧ k < 50
    · obtain ⟨hlt, h50⟩ := hlt
      have i1 : decide ((k : Int) < (l.length : Int)) = true := by simp; omega
      have i2 : decide (k < l.length) = true := by simp; omega
      have i3 : decide ((k : Int) < 50) = true := by simp; omega
      have i4 : decide (k < 50) = true := by simp; omega
      have i5 : (k : Int) < (l.length : Int) := by omega
      have W1 : IntKind.i64.wrap ((k : Int) + 1) = (k : Int) + 1 := IntWalk.i64_in _ (by omega)
      obtain ⟨t, ht⟩ : ∃ t, t = l[k] := ⟨_, rfl⟩
      have hzb : z + t.s.length + t.l.length + tot t.l ≤ 1048576 := by
        have h1 := wts_snoc l k hlt
        have h2 := wts_take l (k + 1)
        have h3 := HB.out
        have h4 := HZ.out
        rw [← ht] at h1
        unfold Wc.wt at h1
        omega
      obtain ⟨a, rfl, hat⟩ := HA.out k t (by rw [List.getElem?_eq_getElem hlt, ht])
      obtain ⟨hP, LA, cL, KA, cK, g0, g1, g2, g3, g4, rL, -, -⟩ := hat
      have GC : Hid (∀ j, (w.drewN j).cell? ⟨(a.add (k * 5)).block, (a.add (k * 5)).off + 1, none⟩ = some (.string (mk t.s)) ∧ (w.drewN j).cell? ⟨(a.add (k * 5)).block, (a.add (k * 5)).off + 2, none⟩ = some (.slice LA t.l.length cL) ∧ (w.drewN j).cell? ⟨(a.add (k * 5)).block, (a.add (k * 5)).off + 4, none⟩ = some (.slice KA t.keep.length cK)) := Lib.hid (fun j => ⟨g1, g2, g4⟩)
      have RL := Lib.hid rL
      have HT := Lib.hid ht
      have s1 : (mk t.s).size = t.s.length := rfl
      have W2 : IntKind.i64.wrap ((z : Int) + (t.s.length : Int)) = (z : Int) + (t.s.length : Int) := IntWalk.i64_in _ (by omega)
      have W3 : IntKind.i64.wrap ((z : Int) + (t.s.length : Int) + (t.l.length : Int)) = (z : Int) + (t.s.length : Int) + (t.l.length : Int) := IntWalk.i64_in _ (by omega)
      clear g0 g1 g2 g3 g4 rL ht hP
      have GW : Hid (∀ W, (∃ j, W = w.drewN j) → W.cell? ⟨(a.add (k * 5)).block, (a.add (k * 5)).off + 1, none⟩ = some (.string (mk t.s)) ∧ W.cell? ⟨(a.add (k * 5)).block, (a.add (k * 5)).off + 2, none⟩ = some (.slice LA t.l.length cL) ∧ W.cell? ⟨(a.add (k * 5)).block, (a.add (k * 5)).off + 4, none⟩ = some (.slice KA t.keep.length cK)) := Lib.hid (fun W hW => by
        obtain ⟨j0, hj0⟩ := hW
        rw [hj0]
        exact GC.out _)
      obtain ⟨c1, c2, c4⟩ := GW.out wr HJ.out
      go_wp2
      go_quiet (fail)
      go_wp2
      generalize hu : wr.drewN nq = u9
      have HJ9 : Hid (∃ j, u9 = w.drewN j) := Lib.hid (by
        obtain ⟨j0, hj0⟩ := HJ.out
        exact ⟨_, by rw [← hu, hj0]; exact World.drewN_drewN _ _ _⟩)
      clear hu c1 c2 c4
      obtain ⟨c1, c2, c4⟩ := GW.out u9 HJ9.out
      clear HJ GC c1
      obtain ⟨z1, hz1⟩ : ∃ z1, z1 = z + t.s.length + t.l.length := ⟨_, rfl⟩
      have e1 : (z : Int) + (t.s.length : Int) + (t.l.length : Int) = (z1 : Int) := by omega
      have hz1b : z1 + tot t.l ≤ 1048576 := by omega
      have HZ1 := Lib.hid hz1
      rw [e1]
      clear e1 hz1 hzb W2 W3 s1
      go_loopw [3, 5] (fun n v wi => ∃ j : Nat, v = .int .i64 (j : Int) ∧ n = .int .i64 ((z1 : Nat) + (tot (t.l.take j) : Nat) : Int) ∧ j ≤ t.l.length ∧ j ≤ 4000 ∧ wi = u9) (fun _ v _ => 4000 - (intOf v).toNat)
      case atStart => exact ⟨0, rfl, by simp [tot], Nat.zero_le _, by omega, rfl⟩
      case round =>
        obtain ⟨j, rfl, rfl, hj, hj4, hwr⟩ := hrel
        subst hwr
        have htj := tot_take t.l j
        by_cases hjl : j < t.l.length ∧ j < 4000
        · obtain ⟨hjl, hj40⟩ := hjl
          have k1 : decide ((j : Int) < (t.l.length : Int)) = true := by simp; omega
          have k2 : decide (j < t.l.length) = true := by simp; omega
          have k3 : decide ((j : Int) < 4000) = true := by simp; omega
          have k4 : decide (j < 4000) = true := by simp; omega
          have k5 : (j : Int) < (t.l.length : Int) := by omega
          obtain ⟨s, hs⟩ : ∃ s, s = t.l[j] := ⟨_, rfl⟩
          obtain ⟨b, rfl, hb, hc⟩ := RL.out j _ (strs_at t.l j hjl)
          rw [← hs] at hc
          have hcr : wr.cell? (b.add j) = some (.string (mk s)) := by obtain ⟨j0, hj0⟩ := HJ9.out; rw [hj0]; exact hc
          have hz : (mk s).size = s.length := rfl
          have hte := tot_snoc t.l j hjl
          have htk := tot_take t.l (j + 1)
          rw [← hs] at hte
          have HTT := Lib.hid hte
          have W4 : IntKind.i64.wrap ((z1 : Nat) + (tot (t.l.take j) : Nat) + (s.length : Int) : Int) = (z1 : Nat) + (tot (t.l.take j) : Nat) + (s.length : Int) := IntWalk.i64_in _ (by omega)
          have W5 : IntKind.i64.wrap ((j : Int) + 1) = (j : Int) + 1 := IntWalk.i64_in _ (by omega)
          clear hs hc hte htk hb
          go_wp2
          go_roundw
          case rel => exact ⟨j + 1, by go_num, by rw [HTT.out]; go_num, by omega, by omega, trivial⟩
          case measure => simp [intOf]; omega
        · obtain ⟨z2, hz2⟩ : ∃ z2, z2 = z1 + tot (t.l.take j) := ⟨_, rfl⟩
          have e1 : ((z1 : Nat) + (tot (t.l.take j) : Nat) : Int) = (z2 : Int) := by omega
          have HF : Hid (z2 ≤ 3000 → z ≤ 3000 ∧ t.Fine) := Lib.hid (fun h => by
            have h1 := HZ1.out
            have h2 : j = t.l.length := by omega
            rw [h2, List.take_length] at hz2
            exact ⟨by omega, by omega, by omega, by omega⟩)
          have HZ2 : Hid (z2 ≤ wts (l.take (k + 1))) := Lib.hid (by
            have h1 := wts_snoc l k hlt
            rw [← HT.out] at h1
            unfold Wc.wt at h1
            have h2 := HZ1.out
            have h3 := HZ.out
            omega)
          have hd : decide ((j : Int) < (t.l.length : Int)) = false ∧ decide (j < t.l.length) = false ∨ (decide ((j : Int) < (t.l.length : Int)) = true ∧ decide (j < t.l.length) = true) ∧ decide ((j : Int) < 4000) = false ∧ decide (j < 4000) = false := by simp; omega
          rw [e1]
          clear e1 hjl htj hz2 hz1b
          by_cases h8 : 8 < t.keep.length
          · have n1 : decide (8 < (t.keep.length : Int)) = true := by simp; omega
            have n2 : decide (8 < t.keep.length) = true := by simp; omega
            rcases hd with ⟨hd1, hd2⟩ | ⟨⟨hd1, hd2⟩, hd3, hd4⟩
            · go_wp2
              go_ret
              exact ⟨_, rfl, Lib.hid (fun h => by cases h), HJ9.out⟩
            · go_wp2
              go_ret
              exact ⟨_, rfl, Lib.hid (fun h => by cases h), HJ9.out⟩
          · have n1 : decide (8 < (t.keep.length : Int)) = false := by simp; omega
            have n2 : decide (8 < t.keep.length) = false := by simp; omega
            rcases hd with ⟨hd1, hd2⟩ | ⟨⟨hd1, hd2⟩, hd3, hd4⟩
            · go_wp2
              go_roundw
              case rel => exact ⟨k + 1, z2, by go_num, rfl, by omega, by omega, HZ2, Lib.hid (fun h => Fine.take hlt HT.out (HG.out (HF.out h).1) (HF.out h).2), HJ9⟩
              case measure => simp [intOf]; omega
            · go_wp2
              go_roundw
              case rel => exact ⟨k + 1, z2, by go_num, rfl, by omega, by omega, HZ2, Lib.hid (fun h => Fine.take hlt HT.out (HG.out (HF.out h).1) (HF.out h).2), HJ9⟩
              case measure => simp [intOf]; omega
    · have hd : decide ((k : Int) < (l.length : Int)) = false ∧ decide (k < l.length) = false ∨ (decide ((k : Int) < (l.length : Int)) = true ∧ decide (k < l.length) = true) ∧ decide ((k : Int) < 50) = false ∧ decide (k < 50) = false := by simp; omega
      have HE : Hid (l.length ≤ 40 → z ≤ 3000 → Fines l) := Lib.hid (fun h1 h2 => ⟨h1, by
        have := HG.out h2
        rwa [List.take_of_length_le (by omega)] at this⟩)
      clear hlt
      by_cases h40 : l.length ≤ 40
      · have n1 : decide ((l.length : Int) ≤ 40) = true := by simp; omega
        have n2 : decide (l.length ≤ 40) = true := by simp; omega
        by_cases h3 : z ≤ 3000
        · have n3 : decide ((z : Int) ≤ 3000) = true := by simp; omega
          have n4 : decide (z ≤ 3000) = true := by simp; omega
          have HX := Lib.hid (HE.out h40 h3)
          clear h40 h3
          rcases hd with ⟨hd1, hd2⟩ | ⟨⟨hd1, hd2⟩, hd3, hd4⟩
          · go_wp2
            go_ret
            exact ⟨_, rfl, Lib.hid (fun _ => HX.out), HJ.out⟩
          · go_wp2
            go_ret
            exact ⟨_, rfl, Lib.hid (fun _ => HX.out), HJ.out⟩
        · have n3 : decide ((z : Int) ≤ 3000) = false := by simp; omega
          have n4 : decide (z ≤ 3000) = false := by simp; omega
          rcases hd with ⟨hd1, hd2⟩ | ⟨⟨hd1, hd2⟩, hd3, hd4⟩
          · go_wp2
            go_ret
            exact ⟨_, rfl, Lib.hid (fun h => by simp at h), HJ.out⟩
          · go_wp2
            go_ret
            exact ⟨_, rfl, Lib.hid (fun h => by simp at h), HJ.out⟩
      · have n1 : decide ((l.length : Int) ≤ 40) = false := by simp; omega
        have n2 : decide (l.length ≤ 40) = false := by simp; omega
        rcases hd with ⟨hd1, hd2⟩ | ⟨⟨hd1, hd2⟩, hd3, hd4⟩
        · go_wp2
          go_ret
          exact ⟨_, rfl, Lib.hid (fun h => by simp at h), HJ.out⟩
        · go_wp2
          go_ret
          exact ⟨_, rfl, Lib.hid (fun h => by simp at h), HJ.out⟩
end Go.Proofs.YtgamkahbebnnaaaDoor.D5
