/-
  The search's memory, made new.
-/
import Derived.Test.YtmcdbjkmkbdeiaaDoorUntil
import Derived.Deep.OwnRows
import Derived.Laws.OwnMore
namespace Go.Proofs.YtmcdbjkmkbdeiaaDoor
open Go.RowKit Go.Maps
theorem info3 : (Tryd.prog.info? 3).map (fun i => (i.zero, i.size, i.bytes)) = some (some (.int .i64 0), 1, 8) := by kernel_rfl
theorem made_ints (L : Nat) : madeCells #[Value.int .i64 0] L = ints (List.replicate L 0) := by
  apply Array.toList_inj.1
  rw [toList_madeCells_one]
  simp [ints]
theorem rec_new (w : World) (s : ByteArray) (L : Nat) (hL : L = min s.size 4096) :
    Rec (((w.alloc (.map #[] 0)).alloc (.cells (madeCells #[Value.int .i64 0] L) 3)).alloc (.cells #[.string s, .int .i64 0, .map (some w.heap.size), .slice (some ⟨w.heap.size + 1, 0, none⟩) L L] 66)) (w.heap.size + 2) w.heap.size (w.heap.size + 1) s 0 (.map []) (List.replicate L 0) := by
  have e1 : (w.alloc (.map #[] 0)).heap.size = w.heap.size + 1 := Array.size_push _
  have e2 : ((w.alloc (.map #[] 0)).alloc (.cells (madeCells #[Value.int .i64 0] L) 3)).heap.size = w.heap.size + 2 := (Array.size_push _).trans (by rw [e1])
  refine ⟨?_, ((World.ownsMap_made w Tryd.prog 28 _).alloc _).alloc _, ?_, by rw [List.length_replicate, hL]⟩
  · have h := Is.fresh ((w.alloc (.map #[] 0)).alloc (.cells (madeCells #[Value.int .i64 0] L) 3)) 66 #[.string s, .int .i64 0, .map (some w.heap.size), .slice (some ⟨w.heap.size + 1, 0, none⟩) L L]
    rw [e2] at h
    rw [List.length_replicate]
    exact h
  · have h := (Is.fresh (w.alloc (.map #[] 0)) 3 (madeCells #[Value.int .i64 0] L)).alloc (.cells #[.string s, .int .i64 0, .map (some w.heap.size), .slice (some ⟨w.heap.size + 1, 0, none⟩) L L] 66)
    rw [e1] at h
    rw [← made_ints]
    exact h
set_option maxRecDepth 40000 in
set_option maxHeartbeats 2000000 in
theorem new_any (w : World) (s : ByteArray) (hs : s.size ≤ 16777216) :
    Calls Tryd.prog 13 #[.string s] w fun e w' => ∃ (r m g : Nat) (D : DataW Unit) (bk : List Nat), e = .returned (.pointer (some ⟨r, 0, none⟩)) ∧ Rec w' r m g s 0 D bk ∧ Cand (ls s) 0 D bk ∧
      w.heap.size ≤ r ∧ w.heap.size ≤ m ∧ w.heap.size ≤ g ∧ Below w.heap.size w w' := by
  have hmm := @run_makeMap Tryd.prog
  have hcand : ∀ L, Cand (ls s) 0 (.map []) (List.replicate L 0) := fun L _ => ⟨map_start _, fun p h => absurd h (Nat.not_lt_zero p)⟩
  have HC := Lib.hid hcand
  by_cases hb : s.size ≤ 4096
  · have hmk := run_make_row' (P := Tryd.prog) 64 3 (.int .i64 0) 8 Tryd.underlying64 info3 rfl .i64 .i64 s.size (by omega) (by omega)
    have HN := Lib.hid (rec_new w s s.size (by omega))
    clear hcand
    go_enter Tryd.func13, Tryd.ntmps13
    go_wp2
    go_ret
    exact ⟨_, _, _, _, _, rfl, HN.out, HC.out _, by omega, by omega, by omega, (((Below.refl _ _).alloc (Nat.le_refl _) _).alloc (by show w.heap.size ≤ (w.heap.push _).size; rw [Array.size_push]; omega) _).alloc (by show w.heap.size ≤ ((w.heap.push _).push _).size; rw [Array.size_push, Array.size_push]; omega) _⟩
  · have hmk := run_make_row' (P := Tryd.prog) 64 3 (.int .i64 0) 8 Tryd.underlying64 info3 rfl .i64 .i64 4096 (by omega) (by omega)
    rw [show ((4096 : Nat) : Int) = 4096 from rfl] at hmk
    have HN := Lib.hid (rec_new w s 4096 (by omega))
    clear hcand
    go_enter Tryd.func13, Tryd.ntmps13
    go_wp2
    go_ret
    exact ⟨_, _, _, _, _, rfl, HN.out, HC.out _, by omega, by omega, by omega, (((Below.refl _ _).alloc (Nat.le_refl _) _).alloc (by show w.heap.size ≤ (w.heap.push _).size; rw [Array.size_push]; omega) _).alloc (by show w.heap.size ≤ ((w.heap.push _).push _).size; rw [Array.size_push, Array.size_push]; omega) _⟩
end Go.Proofs.YtmcdbjkmkbdeiaaDoor
