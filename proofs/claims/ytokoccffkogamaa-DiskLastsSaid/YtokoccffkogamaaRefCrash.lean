/-
  The reference's crash.
-/
import Derived.Test.YtokoccffkogamaaRefGet
namespace Go.Proofs.Ytokoccffkogamaa
open Go.RowKit
theorem part_ok {D : Dk} (h : D.Ok) (k : Nat → Int) (i : Nat) : (part D k i).Ok :=
  ⟨h.lost, by show 0 < _; omega, fun f hf => by
    have := h.len f hf
    unfold Dk.len at this ⊢
    simp only [part]
    split
    · simp only [List.length_append, List.length_take, List.length_nil]; omega
    · exact this⟩
/-- A round of the crash. -/
theorem Ref.round {F : Nat → Prop} {w : World} {r g cap kcap : Nat} {K : Option Addr} {ks : List Int} {D : Dk} {k : Nat → Int} {n : Nat} (h : Ref w r g cap K kcap ks F (part D k n)) (hn : n < 8) (ob : Obj) {s : ByteArray} (hs : s = mk ((D.fs n).1 ++ (D.fs n).2.take (k n).toNat)) (j : Nat) :
    Ref ((((w.alloc ob).setCell ⟨g, n * 2, none⟩ (.string s)).setCell ⟨g, n * 2 + 1, none⟩ (.string ⟨#[]⟩)).drewN j) r g cap K kcap ks F (part D k (n + 1)) ∧
    Fr (fun i => i = g) w ((((w.alloc ob).setCell ⟨g, n * 2, none⟩ (.string s)).setCell ⟨g, n * 2 + 1, none⟩ (.string ⟨#[]⟩)).drewN j) := by
  subst hs
  have hf : Fr (fun _ => False) w (w.alloc ob) := (Fr.refl (fun _ => False) w).alloc ob
  have h1 := h.kept_to hf (fun _ _ hh => hh)
  have e : (part D k n).fs n = D.fs n := by simp [part]
  have hl := h.ok.len n hn
  unfold Dk.len at hl
  rw [e] at hl
  have h2 := h1.file2 hn ((D.fs n).1 ++ (D.fs n).2.take (k n).toNat, []) (by simp only [List.length_append, List.length_take, List.length_nil]; omega)
  have e2 := part_step D k n
  rw [e] at e2
  rw [e2] at h2
  refine ⟨⟨h2.is, h2.row, h2.kept, h2.keep, h2.small, h2.mr, h2.mg, h2.mq, h2.lt, h2.ok⟩, ?_⟩
  exact ((((hf.mono (fun _ _ hh => absurd hh (fun x => x))).set (F := fun i => i = g) (b := g) rfl _ _).set (b := g) rfl _ _).drew j)
set_option maxRecDepth 40000 in
set_option maxHeartbeats 4000000 in
theorem rcrash_ref (r : Nat) (D : Dk) (F : Nat → Prop) (g cap : Nat) (K : Option Addr) (kcap : Nat) (ks : List Int) (A : Option Addr) (c : Nat) (xs : List Int) (w : World) (h : Ref w r g cap K kcap ks F D) (hr : RowAt w A (ints xs)) (hA : xs ≠ [] → ∀ a, A = some a → a.block ≠ r ∧ a.block ≠ g) :
    Calls Try.prog 43 #[.pointer (some ⟨r, 0, none⟩), .slice A xs.length c] w fun e w' => e = .returned (.tuple #[]) ∧ RStep r F w w' (D.fall (kf xs)) := by
  have c2 := h.c2
  cases hd : D.down
  · rw [hd] at c2
    have hE : D.fall (kf xs) = D.crash (kf xs) := by simp [Dk.fall, hd]
    rw [hE]
    have f2 := h.is.open_ 2
    have c3 := h.c3
    have f3 := h.is.open_ 3
    have hf : Fr (fun i => i = r) w ((w.setCell ⟨r, 2, none⟩ (.bool true)).setCell ⟨r, 3, none⟩ (.int .i64 0)) := ((Fr.refl (fun i => i = r) w).set (b := r) rfl _ _).set (b := r) rfl _ _
    have hB : Hid (Ref ((w.setCell ⟨r, 2, none⟩ (.bool true)).setCell ⟨r, 3, none⟩ (.int .i64 0)) r g cap K kcap ks F (part D (kf xs) 0)) := Lib.hid (by
      have hA1 : Ref (w.setCell ⟨r, 2, none⟩ (.bool true)) r g cap K kcap ks F { D with down := true } := h.turn (by simp [refCells]) (fun _ _ => rfl) (fun _ _ => rfl) ⟨h.ok.lost, h.ok.left, h.ok.len⟩
      exact hA1.turn (by simp [refCells, part]) (fun _ _ => by simp [part]) (fun _ _ => rfl) (part_ok h.ok _ 0))
    have hR : Hid (RowAt ((w.setCell ⟨r, 2, none⟩ (.bool true)).setCell ⟨r, 3, none⟩ (.int .i64 0)) A (ints xs)) := Lib.hid (hr.kept2 hf (fun hne a ha => (hA hne a ha).1))
    have hFr : Hid (Fr F w ((w.setCell ⟨r, 2, none⟩ (.bool true)).setCell ⟨r, 3, none⟩ (.int .i64 0))) := Lib.hid (hf.mono (fun i _ e => e ▸ h.mr))
    have HA := Lib.hid hA
    have HM := Lib.hid h.mg
    clear h hr hA hE hf hd
    go_enter Try.func43, Try.ntmps43
    go_wp2
    go_loopw [4] (fun i wr => ∃ n : Nat, n ≤ 8 ∧ i = .int .i64 (n : Int) ∧ Ref wr r g cap K kcap ks F (part D (kf xs) n) ∧ Fr F w wr ∧ RowAt wr A (ints xs)) (fun i _ => 8 - (intOf i).toNat)
    case atStart => exact ⟨0, by omega, rfl, hB.out, hFr.out, hR.out⟩
    case round =>
      obtain ⟨n, hn, rfl, h1, h2, h3⟩ := hrel
      by_cases hlt : n < 8
      · have i1 : decide ((n : Int) < 8) = true := by simp; omega
        have i2 : (n : Int) < 8 := by omega
        have e0 : (part D (kf xs) n).fs n = D.fs n := by simp [part]
        have c0 := h1.c0
        have c1 := h1.ca hlt
        have c2 := h1.cb hlt
        rw [e0] at c1 c2
        have g1 := h1.fo (n * 2)
        have g2 := h1.fo (n * 2 + 1)
        have hl := h1.ok.len n hlt
        unfold Dk.len at hl
        rw [e0] at hl
        have s1 : (mk (D.fs n).1).size = (D.fs n).1.length := rfl
        have s2 : (mk (D.fs n).2).size = (D.fs n).2.length := rfl
        have hsz : ∀ k, (mk (D.fs n).1).size + ((mk (D.fs n).2).extract 0 k).size ≤ 16777216 := fun k => by
          rw [extract_take, size_mk, size_mk, ls_mk, List.length_take]
          omega
        have q0 : ¬ 9223372036854775807 < (D.fs n).1.length := by omega
        have q1 : ¬ 9223372036854775807 < (D.fs n).1.length + (D.fs n).2.length := by omega
        have q2 : ∀ k, ¬ 9223372036854775807 < (D.fs n).1.length + min k (D.fs n).2.length := fun k => by omega
        have q3 : ∀ k, ¬ 9223372036854775807 < (D.fs n).1.length + min (D.fs n).2.length k := fun k => by omega
        have P2 : Hid (∀ w2, w2 = wr.alloc (.cells #[.string (mk (D.fs n).1), .string (mk (D.fs n).2)] 67) → w2.cell? ⟨r, 0, none⟩ = some (.slice (some ⟨g, 0, none⟩) 8 cap) ∧ w2.cell? ⟨wr.heap.size, 0, none⟩ = some (.string (mk (D.fs n).1)) ∧ w2.cell? ⟨wr.heap.size, 1, none⟩ = some (.string (mk (D.fs n).2)) ∧
            w2.cell? ⟨g, n * 2, none⟩ = some (.string (mk (D.fs n).1)) ∧ w2.cell? ⟨g, n * 2 + 1, none⟩ = some (.string (mk (D.fs n).2)) ∧ w2.frozen? ⟨g, n * 2, none⟩ = false ∧ w2.frozen? ⟨g, n * 2 + 1, none⟩ = false ∧
            (∀ s : ByteArray, s = mk ((D.fs n).1 ++ (D.fs n).2.take (kf xs n).toNat) → Ref (((w2.setCell ⟨g, n * 2, none⟩ (.string s)).setCell ⟨g, n * 2 + 1, none⟩ (.string ⟨#[]⟩)).drewN 1) r g cap K kcap ks F (part D (kf xs) (n + 1)) ∧ Fr F w (((w2.setCell ⟨g, n * 2, none⟩ (.string s)).setCell ⟨g, n * 2 + 1, none⟩ (.string ⟨#[]⟩)).drewN 1) ∧
              RowAt (((w2.setCell ⟨g, n * 2, none⟩ (.string s)).setCell ⟨g, n * 2 + 1, none⟩ (.string ⟨#[]⟩)).drewN 1) A (ints xs))) := Lib.hid (fun w2 hw2 => by
          have hf2 : Fr (fun _ => False) wr w2 := by rw [hw2]; exact (Fr.refl (fun _ => False) wr).alloc _
          have hk2 := h1.kept_to hf2 (fun _ _ hh => hh)
          have hn2 : Is w2 wr.heap.size 67 #[.string (mk (D.fs n).1), .string (mk (D.fs n).2)] := by rw [hw2]; exact Is.fresh wr 67 _
          have d1 := hk2.ca hlt
          have d2 := hk2.cb hlt
          rw [e0] at d1 d2
          refine ⟨hk2.c0, hn2.at_ 0, hn2.at_ 1, d1, d2, hk2.fo _, hk2.fo _, fun s hs => ?_⟩
          obtain ⟨q1, q2⟩ := h1.round hlt (.cells #[.string (mk (D.fs n).1), .string (mk (D.fs n).2)] 67) hs 1
          rw [hw2]
          exact ⟨q1, h2.trans q2 (fun i _ e => e ▸ HM.out), h3.kept2 q2 (fun hne a ha => (HA.out hne a ha).2)⟩)
        have hgl : g < wr.heap.size := h1.lt g HM.out
        have H3 := Lib.hid h3
        clear h1 h2
        by_cases hx : n < xs.length
        · have i3 : (n : Int) < (xs.length : Int) := by omega
          have i4 : decide ((n : Int) < (xs.length : Int)) = true := by simp; omega
          obtain ⟨a, hAa, ck⟩ := h3 n (.int .i64 xs[n]) (by simp [ints, hx])
          have ck2 : ∀ ob, (wr.alloc ob).cell? (a.add n) = some (.int .i64 xs[n]) := fun ob => by
            rw [World.cell?_alloc_lt _ _ _ (World.block_lt_of_cell? wr _ ck)]
            exact ck
          have hk : kf xs n = xs[n] := by simp [kf, hx]
          subst hAa
          obtain ⟨z, hz⟩ : ∃ z, z = xs[n] := ⟨_, rfl⟩
          rw [← hz] at ck ck2 hk
          have HK := Lib.hid hk
          clear hk hz h3
          by_cases z0 : z < 0
          · have y0 : (0 : Int) ≤ ((D.fs n).2.length : Int) := by omega
            go_wp2
            generalize hw2 : wr.alloc (.cells #[.string (mk (D.fs n).1), .string (mk (D.fs n).2)] 67) = w2
            obtain ⟨t0, t1, t2, t3, t4, t5, t6, t7⟩ := P2.out w2 hw2.symm
            have T7 := Lib.hid t7
            clear t7 c0 c1 c2 g1 g2 hw2
            go_still_tail 13, (by kernel_rfl)
            change wpList _ _ _ _ _ w2.drew
            go_wp2
            go_roundw
            case rel =>
              obtain ⟨k9, hk9⟩ : ∃ k9, k9 = (kf xs n).toNat := ⟨_, rfl⟩
              rw [← hk9] at T7
              refine ⟨n + 1, by omega, by go_num, (T7.out _ ?_).1, (T7.out _ ?_).2.1, (T7.out _ ?_).2.2⟩
              all_goals rw [show k9 = 0 by (have := HK.out; omega), List.take_zero, List.append_nil]
            case measure => simp [intOf]; omega
          · by_cases z1 : ((D.fs n).2.length : Int) < z
            · have y0 : (0 : Int) ≤ ((D.fs n).2.length : Int) := by omega
              go_wp2
              generalize hw2 : wr.alloc (.cells #[.string (mk (D.fs n).1), .string (mk (D.fs n).2)] 67) = w2
              obtain ⟨t0, t1, t2, t3, t4, t5, t6, t7⟩ := P2.out w2 hw2.symm
              have T7 := Lib.hid t7
              clear t7 c0 c1 c2 g1 g2 hw2
              go_still_tail 13, (by kernel_rfl)
              change wpList _ _ _ _ _ w2.drew
              go_wp2
              go_roundw
              case rel =>
                obtain ⟨k9, hk9⟩ : ∃ k9, k9 = (kf xs n).toNat := ⟨_, rfl⟩
                rw [← hk9] at T7
                refine ⟨n + 1, by omega, by go_num, (T7.out _ ?_).1, (T7.out _ ?_).2.1, (T7.out _ ?_).2.2⟩
                all_goals rw [extract_take, mk_append, ls_mk, List.take_of_length_le (Nat.le_refl _), List.take_of_length_le (by have := HK.out; omega)]
              case measure => simp [intOf]; omega
            · have z2 : ¬ z < 0 := z0
              have z3 : z ≤ ((D.fs n).2.length : Int) := by omega
              have z4 : 0 ≤ z := by omega
              have z5 : z.toNat ≤ (D.fs n).2.length := by omega
              have q4 : ¬ 9223372036854775807 < (D.fs n).1.length + z.toNat := by omega
              go_wp2
              generalize hw2 : wr.alloc (.cells #[.string (mk (D.fs n).1), .string (mk (D.fs n).2)] 67) = w2
              obtain ⟨t0, t1, t2, t3, t4, t5, t6, t7⟩ := P2.out w2 hw2.symm
              have T7 := Lib.hid t7
              clear t7 c0 c1 c2 g1 g2 hw2
              go_still_tail 13, (by kernel_rfl)
              change wpList _ _ _ _ _ w2.drew
              go_wp2
              go_roundw
              case rel =>
                obtain ⟨k9, hk9⟩ : ∃ k9, k9 = (kf xs n).toNat := ⟨_, rfl⟩
                rw [← hk9] at T7
                refine ⟨n + 1, by omega, by go_num, (T7.out _ ?_).1, (T7.out _ ?_).2.1, (T7.out _ ?_).2.2⟩
                all_goals rw [extract_take, mk_append, ls_mk, show z.toNat = k9 by rw [hk9, HK.out]]
              case measure => simp [intOf]; omega
        · have i3 : ¬ (n : Int) < (xs.length : Int) := by omega
          have i4 : decide ((n : Int) < (xs.length : Int)) = false := by simp; omega
          have i5 : decide (n < xs.length) = false := by simp; omega
          have y0 : (0 : Int) ≤ ((D.fs n).2.length : Int) := by omega
          have HK : Hid (kf xs n = 0) := Lib.hid (by simp [kf, List.getElem?_eq_none (show xs.length ≤ n by omega)])
          clear h3
          go_wp2
          generalize hw2 : wr.alloc (.cells #[.string (mk (D.fs n).1), .string (mk (D.fs n).2)] 67) = w2
          obtain ⟨t0, t1, t2, t3, t4, t5, t6, t7⟩ := P2.out w2 hw2.symm
          have T7 := Lib.hid t7
          clear t7 c0 c1 c2 g1 g2 hw2
          go_still_tail 13, (by kernel_rfl)
          change wpList _ _ _ _ _ w2.drew
          go_wp2
          go_roundw
          case rel =>
            obtain ⟨k9, hk9⟩ : ∃ k9, k9 = (kf xs n).toNat := ⟨_, rfl⟩
            rw [← hk9] at T7
            refine ⟨n + 1, by omega, by go_num, (T7.out _ ?_).1, (T7.out _ ?_).2.1, (T7.out _ ?_).2.2⟩
            all_goals rw [show k9 = 0 by (have := HK.out; omega), List.take_zero, List.append_nil]
          case measure => simp [intOf]; omega
      · have i1 : decide ((n : Int) < 8) = false := by simp; omega
        have hne : n = 8 := by omega
        have H1 : Hid (Ref wr r g cap K kcap ks F (part D (kf xs) 8)) := Lib.hid (by rw [← hne]; exact h1)
        have H2 := Lib.hid h2
        clear h1 h2 h3 hne
        go_wp2
        go_end0
        refine ⟨rfl, (RStep.same ⟨_, _, _, _, _, H1.out⟩ H2.out).congr ?_ rfl rfl rfl (fun _ _ => rfl)⟩
        intro f hf
        simp [part, Dk.crash, hf]
  · rw [hd] at c2
    have hE : D.fall (kf xs) = D := by simp [Dk.fall, hd]
    rw [hE]
    have HH := Lib.hid h
    clear h hr hE hA
    go_enter Try.func43, Try.ntmps43
    go_wp2
    exact bodyPost_ret (results_none rfl _ _ _) rfl ⟨rfl, RStep.refl ⟨_, _, _, _, _, HH.out⟩⟩
end Go.Proofs.Ytokoccffkogamaa
