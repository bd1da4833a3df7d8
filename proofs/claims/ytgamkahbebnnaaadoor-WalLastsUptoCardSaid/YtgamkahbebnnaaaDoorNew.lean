import Derived.Test.YtgamkahbebnnaaaDoorAdd
import Derived.Deep.OwnRows
import Derived.Laws.OwnMore
/-
  All places before an end are added to the search's memory.
-/
namespace Go.Proofs.YtgamkahbebnnaaaDoor
open Go.RowKit Go.Maps
set_option maxRecDepth 40000
def nxt (w : World) (r : Nat) : Nat := match w.cell? ⟨r, 1, none⟩ with | some v => (intOf v).toNat | none => 0
theorem Rec.nxt {w : World} {r m g : Nat} {s : ByteArray} {n : Nat} {D : DataW Unit} {bk : List Nat} (h : Rec w r m g s n D bk) : nxt w r = n := by
  have c1 : w.cell? ⟨r, 1, none⟩ = some (.int .i64 (n : Int)) := h.is.at_ 1
  unfold YtgamkahbebnnaaaDoor.nxt
  rw [c1]
  simp [intOf]
theorem Rec.step {w : World} {r m g : Nat} {s : ByteArray} {n : Nat} {D : DataW Unit} {bk bk0 : List Nat} (hI : Is w r 111 #[.string s, .int .i64 (n : Int), .map (some m), .slice (some ⟨g, 0, none⟩) bk0.length bk0.length])
    (hO : w.ownsMap Tryd.prog 100 (plainElem Tryd.prog 3) m (n + 1) D) (hG : Is w g 3 (ints bk)) (h0 : bk.length = bk0.length) (hL : bk0.length = min s.size 4096) (z : Int) (hz : z = ((n + 1 : Nat) : Int)) :
    Rec (w.setCell ⟨r, 1, none⟩ (.int .i64 z)) r m g s (n + 1) D bk := by
  subst hz
  have hrm : r ≠ m := map_apart hO hI
  have hrg : r ≠ g := Is.apart hI hG (by decide)
  refine ⟨?_, hO.setCell (Ne.symm hrm) _, Is.away hG (Ne.symm hrg) _, by rw [h0, hL]⟩
  have h := hI.put 1 (.int .i64 ((n + 1 : Nat) : Int))
  rw [h0]
  exact h
set_option maxRecDepth 40000 in
set_option maxHeartbeats 2000000 in
theorem until_any (w : World) (r m g : Nat) (s : ByteArray) (i e : Nat) (D : DataW Unit) (bk : List Nat) (hR : Rec w r m g s i D bk) (hC : Cand (ls s) i D bk) (hs : s.size ≤ 16777216) (hie : i ≤ e) (he : e ≤ s.size) :
    Calls Tryd.prog 62 #[.pointer (some ⟨r, 0, none⟩), .int .i64 (e : Int)] w fun x w' => x = .returned (.tuple #[]) ∧ ∃ (D' : DataW Unit) (bk' : List Nat), Rec w' r m g s e D' bk' ∧ Cand (ls s) e D' bk' ∧ Tri r m g w w' := by
  have HR0 := Lib.hid hR
  have HC0 := Lib.hid hC
  have HT0 := Lib.hid (Tri.refl r m g w)
  clear hR hC
  go_enter Tryd.func62, Tryd.ntmps62
  go_wp2
  go_loopw [] (fun wr => ∃ (n : Nat) (D : DataW Unit) (bk : List Nat), n ≤ e ∧ Hid (Rec wr r m g s n D bk) ∧ Hid (Cand (ls s) n D bk) ∧ Hid (Tri r m g w wr)) (fun wr => e - nxt wr r)
  case atStart => exact ⟨i, D, bk, hie, HR0, HC0, HT0⟩
  case round =>
    clear HR0 HC0 HT0 hie
    obtain ⟨n, D, bk, hn, HR, HC, HT⟩ := hrel
    have c0 : wr.cell? ⟨r, 0, none⟩ = some (.string s) := HR.out.is.at_ 0
    have c1 : wr.cell? ⟨r, 1, none⟩ = some (.int .i64 (n : Int)) := HR.out.is.at_ 1
    by_cases hlt : n < e
    · have i1 : decide ((n : Int) < (e : Int)) = true := by simp; omega
      have j1 : IntKind.i64.wrap ((n : Int) + 4) = (n : Int) + 4 := IntWalk.i64_in _ (by omega)
      have j2 : IntKind.i64.wrap ((n : Int) + 1) = (n : Int) + 1 := IntWalk.i64_in _ (by omega)
      by_cases h4 : n + 4 ≤ s.size
      · have i2 : decide ((n : Int) + 4 ≤ (s.size : Int)) = true := by simp; omega
        obtain ⟨hM, hB⟩ := HC.out (by rw [ls_length]; omega)
        have A : Hid (∀ j, Calls Tryd.prog 71 #[.pointer (some ⟨r, 0, none⟩), .int .i64 (n : Int)] (wr.drewN j) fun e w' => e = .returned (.tuple #[]) ∧ Added r m g s n bk (wr.drewN j) w') := Lib.hid (fun j => add_any (wr.drewN j) r m g s n D bk ⟨HR.out.is, HR.out.map, HR.out.row, HR.out.len⟩ hM hB hs h4)
        have HL := Lib.hid HR.out.len
        have HX := Lib.hid HR.out.nxt
        clear hM hB
        go_wp2
        go_quiet (fail)
        go_wp2_with (first
          | (go_at_call 71; refine (A.out _).mono ?_; rintro e1 w5 ⟨rfl, D5, bk5, h1, h2, h3, h4, h5, h6, h7⟩; have a1 : w5.cell? ⟨r, 1, none⟩ = some (.int .i64 (n : Int)) := h2.at_ 1; have f1 : w5.frozen? ⟨r, 1, none⟩ = false := h2.open_ 1; have H1 := Lib.hid h1; have H2 := Lib.hid h2; have H3 := Lib.hid h3; have H4 := Lib.hid h4; have H5 := Lib.hid h5; have H6 := Lib.hid h6; have H7 := Lib.hid h7; clear h1 h2 h3 h4 h5 h6 h7))
        go_roundw
        case rel =>
          exact ⟨n + 1, D5, bk5, by omega, Lib.hid (Rec.step H2.out H3.out H4.out H1.out HL.out _ (by omega)), Lib.hid (fun _ => ⟨H5.out, H6.out⟩), Lib.hid (((HT.out.drew _).trans H7.out).set (.inl rfl) 1 _)⟩
        case measure =>
          rw [HX.out, (Rec.step H2.out H3.out H4.out H1.out HL.out _ (by omega)).nxt]; omega
      · have i2 : decide ((n : Int) + 4 ≤ (s.size : Int)) = false := by simp; omega
        have f1 : wr.frozen? ⟨r, 1, none⟩ = false := HR.out.is.open_ 1
        have HX := Lib.hid HR.out.nxt
        have HS := Lib.hid (fun (j : Nat) (z : Int) (hz : z = ((n + 1 : Nat) : Int)) => Rec.step (w := wr.drewN j) (D := D) (bk := bk) HR.out.is (HR.out.map.mono (Nat.le_succ n)) HR.out.row rfl HR.out.len z hz)
        have HN : Hid (¬ n + 4 ≤ s.size) := Lib.hid h4
        go_wp2
        go_quiet (fail)
        go_wp2
        go_roundw
        case rel =>
          exact ⟨n + 1, D, bk, by omega, Lib.hid (HS.out _ _ (by omega)), Lib.hid (fun hh => by have := HN.out; rw [ls_length] at hh; omega), Lib.hid ((HT.out.drew _).set (.inl rfl) 1 _)⟩
        case measure =>
          rw [HX.out, (HS.out _ _ (by omega)).nxt]; omega
    · have i1 : decide ((n : Int) < (e : Int)) = false := by simp; omega
      have hne : n = e := by omega
      subst hne
      go_wp2
      go_end0
      exact ⟨rfl, D, bk, HR.out, HC.out, HT.out⟩
end Go.Proofs.YtgamkahbebnnaaaDoor
/-
  The search's memory, made new.
-/
namespace Go.Proofs.YtgamkahbebnnaaaDoor
open Go.RowKit Go.Maps
set_option maxRecDepth 40000
theorem info3 : (Tryd.prog.info? 3).map (fun i => (i.zero, i.size, i.bytes)) = some (some (.int .i64 0), 1, 8) := by kernel_rfl
theorem made_ints (L : Nat) : madeCells #[Value.int .i64 0] L = ints (List.replicate L 0) := by
  apply Array.toList_inj.1
  rw [toList_madeCells_one]
  simp [ints]
theorem rec_new (w : World) (s : ByteArray) (L : Nat) (hL : L = min s.size 4096) :
    Rec (((w.alloc (.map #[] 0)).alloc (.cells (madeCells #[Value.int .i64 0] L) 3)).alloc (.cells #[.string s, .int .i64 0, .map (some w.heap.size), .slice (some ⟨w.heap.size + 1, 0, none⟩) L L] 111)) (w.heap.size + 2) w.heap.size (w.heap.size + 1) s 0 (.map []) (List.replicate L 0) := by
  have e1 : (w.alloc (.map #[] 0)).heap.size = w.heap.size + 1 := Array.size_push _
  have e2 : ((w.alloc (.map #[] 0)).alloc (.cells (madeCells #[Value.int .i64 0] L) 3)).heap.size = w.heap.size + 2 := (Array.size_push _).trans (by rw [e1])
  refine ⟨?_, ((World.ownsMap_made w Tryd.prog 100 _).alloc _).alloc _, ?_, by rw [List.length_replicate, hL]⟩
  · have h := Is.fresh ((w.alloc (.map #[] 0)).alloc (.cells (madeCells #[Value.int .i64 0] L) 3)) 111 #[.string s, .int .i64 0, .map (some w.heap.size), .slice (some ⟨w.heap.size + 1, 0, none⟩) L L]
    rw [e2] at h
    rw [List.length_replicate]
    exact h
  · have h := (Is.fresh (w.alloc (.map #[] 0)) 3 (madeCells #[Value.int .i64 0] L)).alloc (.cells #[.string s, .int .i64 0, .map (some w.heap.size), .slice (some ⟨w.heap.size + 1, 0, none⟩) L L] 111)
    rw [e1] at h
    rw [← made_ints]
    exact h
set_option maxRecDepth 40000 in
set_option maxHeartbeats 2000000 in
theorem new_any (w : World) (s : ByteArray) (hs : s.size ≤ 16777216) :
    Calls Tryd.prog 58 #[.string s] w fun e w' => ∃ (r m g : Nat) (D : DataW Unit) (bk : List Nat), e = .returned (.pointer (some ⟨r, 0, none⟩)) ∧ Rec w' r m g s 0 D bk ∧ Cand (ls s) 0 D bk ∧
      w.heap.size ≤ r ∧ w.heap.size ≤ m ∧ w.heap.size ≤ g ∧ Below w.heap.size w w' := by
  have hmm := @run_makeMap Tryd.prog
  have hcand : ∀ L, Cand (ls s) 0 (.map []) (List.replicate L 0) := fun L _ => ⟨map_start _, fun p h => absurd h (Nat.not_lt_zero p)⟩
  have HC := Lib.hid hcand
  by_cases hb : s.size ≤ 4096
  · have hmk := run_make_row' (P := Tryd.prog) 23 3 (.int .i64 0) 8 Tryd.underlying23 info3 rfl .i64 .i64 s.size (by omega) (by omega)
    have HN := Lib.hid (rec_new w s s.size (by omega))
    clear hcand
    go_enter Tryd.func58, Tryd.ntmps58
    go_wp2
    go_ret
    exact ⟨_, _, _, _, _, rfl, HN.out, HC.out _, by omega, by omega, by omega, (((Below.refl _ _).alloc (Nat.le_refl _) _).alloc (by show w.heap.size ≤ (w.heap.push _).size; rw [Array.size_push]; omega) _).alloc (by show w.heap.size ≤ ((w.heap.push _).push _).size; rw [Array.size_push, Array.size_push]; omega) _⟩
  · have hmk := run_make_row' (P := Tryd.prog) 23 3 (.int .i64 0) 8 Tryd.underlying23 info3 rfl .i64 .i64 4096 (by omega) (by omega)
    rw [show ((4096 : Nat) : Int) = 4096 from rfl] at hmk
    have HN := Lib.hid (rec_new w s 4096 (by omega))
    clear hcand
    go_enter Tryd.func58, Tryd.ntmps58
    go_wp2
    go_ret
    exact ⟨_, _, _, _, _, rfl, HN.out, HC.out _, by omega, by omega, by omega, (((Below.refl _ _).alloc (Nat.le_refl _) _).alloc (by show w.heap.size ≤ (w.heap.push _).size; rw [Array.size_push]; omega) _).alloc (by show w.heap.size ≤ ((w.heap.push _).push _).size; rw [Array.size_push, Array.size_push]; omega) _⟩
end Go.Proofs.YtgamkahbebnnaaaDoor
