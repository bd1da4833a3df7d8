/-
  A copy of a slice of bytes (Clone) and of the disk (Copy).
-/
import Derived.Test.YtokoccffkogamaaOps2
import Derived.Laws.Cover3
namespace Go.Proofs.Ytokoccffkogamaa
open Go.RowKit
theorem bytes_one (l : List UInt8) : ∀ u ∈ bytes l, u.oneCell' = true := by
  intro u hu
  simp only [bytes, List.mem_map] at hu
  obtain ⟨c, _, rfl⟩ := hu
  rfl
theorem eql_nil (a : Option Addr) (l c : Nat) (w : World) : (binOp .eql 51 (.slice a l c) (.slice none 0 0)).run Try.prog w = .ok (.bool a.isNone) w := by
  simp [binOp, run_equal_slice_nil w 51 5 a l c Try.underlying51]
theorem clone_any (v : Value) (n : Nat) (l : List UInt8) (w : World) (h : w.ownsRow 0 5 1 v n (bytes l)) (hn : n ≤ 16777216) :
    Calls Try.prog 34 #[v] w fun e w' => ∃ v', e = .returned v' ∧ w'.ownsRow w.heap.size 5 1 v' n (bytes l) ∧ Below w.heap.size w w' := by
  have hl : l.length = n := by have := h.1; rw [bytes_length] at this; omega
  rcases h.2 with ⟨rfl, rfl⟩ | ⟨g, cap, cur, rfl, h2, h3, h4, h5, h6, h7⟩
  · obtain rfl := List.eq_nil_of_length_eq_zero hl
    clear h
    have q := fun W => eql_nil none 0 0 W
    go_enter Try.func34, Try.ntmps34
    go_wp2
    go_ret
    exact ⟨_, rfl, World.ownsRow_nil _ _ _ _, Below.refl _ _⟩
  · have hB : Hid ((w.alloc (.cells #[] 5)).ownsRow w.heap.size 5 1 (.slice (some ⟨w.heap.size, 0, none⟩) 0 0) 0 []) := Lib.hid (World.ownsRow_lit (base := w.heap.size) (e := 5) (size := 1) w #[] 0 (Nat.le_refl _) (by simp [maxLen]) (by simp))
    have hN : Hid (∀ (j : Nat) (u : Value), (bytes l)[j]? = some u → (w.alloc (.cells #[] 5)).cell? ((⟨g, 0, none⟩ : Addr).add j) = some u) := Lib.hid (fun j u hu => by
      have hc := h.cells (g := g) rfl j u hu
      rw [World.cell?_alloc_lt _ _ _ (World.block_lt_of_cell? w _ hc)]
      exact hc)
    have hL : Hid ((bytes l).length = n * 1) := Lib.hid h.1
    have h1 := Lib.hid (bytes_one l)
    have hB0 := Lib.hid ((Below.refl w.heap.size w).alloc (Nat.le_refl _) (.cells #[] 5))
    obtain ⟨i0, hi, hz0, hz1, hz2⟩ := info_parts info5
    clear h h2 h3 h4 h5 h6 h7 hl
    have q := fun W => eql_nil (some ⟨g, 0, none⟩) n cap W
    go_enter Try.func34, Try.ntmps34
    go_wp2_with (first
      | (at_builtin; go_must (refine wpList_append_own _ rfl (.tmp 5) (.tmp 6) 51 rfl w.heap.size 5 i0 (.int .u8 0) 1 1 Try.underlying51 hi hz0 hz1 hz2 rfl (by decide) (.slice (some ⟨w.heap.size, 0, none⟩) 0 0) 0 [] rfl hB.out ⟨g, 0, none⟩ n cap (bytes l) rfl hL.out hN.out h1.out ?c3 ?c4 ?c5 ?_)))
    case c3 => simp only [maxLen]; omega
    case c4 => omega
    case c5 => simp
    intro v' w' hown hgr _
    have HO := Lib.hid hown
    have HG := Lib.hid hgr
    clear hown hgr
    go_wp2
    go_ret
    refine ⟨_, rfl, own_cast HO.out (by omega) (by simp), hB0.out.grown HG.out (by simp) ?_⟩
    intro j hj
    simp [Value.ownBlock] at hj
    omega
/-- The copy in block c after i files: u are its slices. -/
structure Copied (w : World) (c i : Nat) (v u : Nat → Value) (D : Dk) : Prop where
  is : Is w c 57 (cellsD u D)
  old : ∀ j, i ≤ j → j < 8 → u j = v j
  own : ∀ j, j < i → j < 8 → w.ownsRow (c + 1) 5 1 (u j) (D.len j) (bytes (D.all j))
  ne : ∀ j k, j < i → k < i → j ≠ k → ∀ x, (u j).ownBlock = some x → (u k).ownBlock ≠ some x
theorem Copied.next {w w' : World} {c i : Nat} {v u : Nat → Value} {D : Dk} (h : Copied w c i v u D) (hi : i < 8) {z : Value} (hb : Below w.heap.size w w') (ho : w'.ownsRow w.heap.size 5 1 z (D.len i) (bytes (D.all i))) :
    Copied (w'.setCell ⟨c, i * 2, none⟩ z) c (i + 1) v (upd u i z) D := by
  have hc := h.is.lt
  have hf : Fr (fun k => k = c) w' (w'.setCell ⟨c, i * 2, none⟩ z) := (Fr.refl (fun k => k = c) w').set (b := c) rfl _ _
  have hw : Fr (fun k => k = c) w (w'.setCell ⟨c, i * 2, none⟩ z) := Fr.trans (F := fun k => k = c) (Fr.of_below hb (Nat.le_refl _)) hf (fun _ _ e => e)
  refine ⟨?_, fun j h1 h2 => ?_, fun j h1 h2 => ?_, fun j k h1 h2 h3 x hx hx2 => ?_⟩
  · have e := cellsD_set_v u D hi z (D.fs i) rfl
    have e2 : D.set i (D.fs i) = D := by
      unfold Dk.set upd
      congr 1
      funext x
      split
      · next e => rw [e]
      · rfl
    rw [e2] at e
    rw [← e]
    exact (h.is.below hb hc).put _ _
  · rw [upd_other _ _ (by omega)]
    exact h.old j (by omega) h2
  · by_cases e : j = i
    · subst e
      rw [upd_same]
      refine World.ownsRow.mono (hf.own ho ?_) (by omega)
      rintro k hk rfl
      have := (ho.lt k hk).1
      omega
    · rw [upd_other _ _ e]
      refine hw.own (h.own j (by omega) h2) ?_
      rintro k hk rfl
      have := ((h.own j (by omega) h2).lt k hk).1
      omega
  · by_cases e : j = i
    · subst e
      rw [upd_same] at hx
      rw [upd_other _ _ (Ne.symm h3)] at hx2
      have a := (ho.lt x hx).1
      have b := ((h.own k (by omega) (by omega)).lt x hx2).2
      omega
    · rw [upd_other _ _ e] at hx
      by_cases e2 : k = i
      · subst e2
        rw [upd_same] at hx2
        have a := (ho.lt x hx2).1
        have b := ((h.own j (by omega) (by omega)).lt x hx).2
        omega
      · rw [upd_other _ _ e2] at hx2
        exact h.ne j k (by omega) (by omega) h3 x hx hx2
theorem info57 : (Try.prog.info? 57).map (·.size) = some 27 := by kernel_rfl
theorem cellsD_size (v : Nat → Value) (D : Dk) : (cellsD v D).size = 27 := rfl
theorem form_one {v : Value} {w : World} {base n : Nat} {e : TypeId} {xs : List Value} (h : w.ownsRow base e 1 v n xs) : v.oneCell' = true := by
  obtain ⟨A, cap, rfl, -⟩ := own_form h
  rfl
theorem Disk.one {w : World} {b : Nat} {v : Nat → Value} {F : Nat → Prop} {D : Dk} (h : Disk w b v F D) : (cellsD v D).all (·.oneCell') = true := by
  rw [Array.all_eq_true_iff_forall_mem]
  intro x hx
  simp only [cellsD, List.mem_toArray, List.mem_cons, List.not_mem_nil, or_false] at hx
  rcases hx with rfl | rfl | rfl | rfl | rfl | rfl | rfl | rfl | rfl | rfl | rfl | rfl | rfl | rfl | rfl | rfl | rfl | rfl | rfl | rfl | rfl | rfl | rfl | rfl | rfl | rfl | rfl
  all_goals first | rfl | exact form_one (h.own _ (by omega))
abbrev Z27 : Array Value := #[.slice none 0 0, .int .i64 0, .slice none 0 0, .int .i64 0, .slice none 0 0, .int .i64 0, .slice none 0 0, .int .i64 0, .slice none 0 0, .int .i64 0, .slice none 0 0, .int .i64 0, .slice none 0 0, .int .i64 0, .slice none 0 0, .int .i64 0,
  .bool false, .int .i64 0, .int .i64 0, .int .i64 0, .int .i64 0, .int .i64 0, .int .i64 0, .int .i64 0, .int .i64 0, .int .i64 0, .int .i64 0]
set_option maxRecDepth 40000 in
set_option maxHeartbeats 2000000 in
theorem copy_any (b : Nat) (D : Dk) (F : Nat → Prop) (w : World) (h : Has w b F D) :
    Calls Try.prog 14 #[.pointer (some ⟨b, 0, none⟩)] w fun e w' => e = .returned (.pointer (some ⟨w.heap.size, 0, none⟩)) ∧ Below w.heap.size w w' ∧ ∃ F', Has w' w.heap.size F' D ∧ ∀ k, F' k → w.heap.size ≤ k := by
  obtain ⟨v, h⟩ := h
  have HI : Hid (Is w b 57 (cellsD v D)) := Lib.hid h.is
  have H57 : Hid ((Try.prog.info? 57).map (·.size) = some (cellsD v D).size) := Lib.hid info57
  have HZ : Hid (Is (w.alloc (.cells Z27 57)) w.heap.size 57 Z27) := Lib.hid (Is.fresh w 57 Z27)
  have HO := Lib.hid h.one
  have HH := Lib.hid h
  have HB0 := Lib.hid (below_setRow ((Below.refl w.heap.size w).alloc (Nat.le_refl _) (.cells Z27 57)) (Nat.le_refl _) (cellsD v D))
  have HC : Hid (Copied ((w.alloc (.cells Z27 57)).setRow w.heap.size (cellsD v D)) w.heap.size 0 v v D) := Lib.hid ⟨setRow_heap _ _ _ _ 57 _ (Is.fresh w 57 Z27), fun _ _ _ => rfl, fun j hj => by omega, fun j k hj => by omega⟩
  clear h
  go_enter Try.func14, Try.ntmps14
  go_wp2_with (first
    | (refine wpList_load_row rfl 57 _ rfl b rfl 57 (cellsD v D) (0, 0) _ HI.out Try.underlying57 rfl H57.out ?_)
    | (refine wpList_store_row rfl 57 _ _ rfl w.heap.size (cellsD v D) rfl rfl 57 Z27 HZ.out H57.out rfl HO.out ?_))
  go_loopw [8] (fun i wr => ∃ (n : Nat) (u : Nat → Value), n ≤ 8 ∧ i = .int .i64 (n : Int) ∧ Copied wr w.heap.size n v u D ∧ Below w.heap.size w wr) (fun i _ => 8 - (intOf i).toNat)
  case atStart => exact ⟨0, v, by omega, rfl, HC.out, HB0.out⟩
  case round =>
    obtain ⟨n, u, hn, rfl, hC, hB⟩ := hrel
    by_cases hlt : n < 8
    · have i1 : decide ((n : Int) < 8) = true := by simp; omega
      have i2 : (n : Int) < 8 := by omega
      have hown : wr.ownsRow 0 5 1 (v n) (D.len n) (bytes (D.all n)) := (HH.out.kept (Fr.of_below (F := fun _ => False) hB (Nat.le_refl _)) (fun _ _ hh => hh)).own n hlt
      have c1 : wr.cell? ⟨w.heap.size, n * 2, none⟩ = some (u n) := (hC.is.at_ _).trans (cellsD_v u D hlt)
      rw [hC.old n (Nat.le_refl _) hlt] at c1
      obtain ⟨A, cap, e1, -⟩ := own_form hown
      rw [e1] at c1 hown
      have C := Lib.hid (clone_any _ _ _ wr hown (HH.out.ok.len n hlt))
      have H1 := Lib.hid hC
      have H2 := Lib.hid hB
      have E1 := Lib.hid e1
      clear hC hB hown e1
      go_wp2_with (first
        | (go_at_call 34; go_must (refine (C.out).mono ?_); rintro e w2 ⟨z, rfl, ho, hb⟩; have f1 : w2.frozen? ⟨w.heap.size, n * 2, none⟩ = false := (H1.out.is.below hb H1.out.is.lt).open_ _; have c2 : w2.cell? ⟨w.heap.size, n * 2, none⟩ = some (u n) := ((H1.out.is.below hb H1.out.is.lt).at_ _).trans (cellsD_v u D hlt); obtain ⟨A2, cap2, rfl, -⟩ := own_form ho; have HO2 := Lib.hid ho; have HB2 := Lib.hid hb; clear ho hb))
      go_roundw
      case rel =>
        refine ⟨n + 1, _, by omega, by go_num, H1.out.next hlt HB2.out HO2.out, ?_⟩
        have h9 : w.heap.size ≤ wr.heap.size := H2.out.size
        exact (H2.out.trans (HB2.out.mono h9)).setCell (p := ⟨w.heap.size, n * 2, none⟩) (Nat.le_refl _) _
      case measure => simp [intOf]; omega
    · have i1 : decide ((n : Int) < 8) = false := by simp; omega
      have hne : n = 8 := by omega
      have H1 : Hid (Copied wr w.heap.size 8 v u D) := Lib.hid (by rw [← hne]; exact hC)
      have H2 := Lib.hid hB
      clear hC hB hne
      go_wp2
      go_ret
      refine ⟨rfl, H2.out, fun k => w.heap.size ≤ k ∧ k < wr.heap.size, ⟨u, H1.out.is, fun f hf => World.ownsRow.mono (H1.out.own f hf hf) (Nat.zero_le _), ⟨Nat.le_refl _, H1.out.is.lt⟩, fun f hf k hk => ?_, fun f g hf hg hfg => H1.out.ne f g hf hg hfg, fun k hk => hk.2, HH.out.ok⟩, fun k hk => hk.1⟩
      have := (H1.out.own f hf hf).lt k hk
      exact ⟨by omega, this.2⟩
end Go.Proofs.Ytokoccffkogamaa
