/-
  The disk's crash, and the beginning of a call that a scheduled crash may strike (enter).
-/
import Derived.Test.YtgamkahbebnnaaaDoorD5File
namespace Go.Proofs.YtgamkahbebnnaaaDoor.D5
open Go.RowKit
theorem Has.congr {w : World} {b : Nat} {F : Nat → Prop} {D D' : Dk} (h : Has w b F D) (h1 : ∀ f, f < 8 → D.fs f = D'.fs f) (h2 : D.down = D'.down) (h3 : D.lost = D'.lost) (h4 : D.left = D'.left) (h5 : ∀ f, f < 8 → D.keep f = D'.keep f) : Has w b F D' := by
  obtain ⟨v, h⟩ := h
  exact ⟨v, h.congr h1 h2 h3 h4 h5⟩
theorem Step.congr {w w1 : World} {b : Nat} {F : Nat → Prop} {D D' : Dk} (h : Step b F w w1 D) (h1 : ∀ f, f < 8 → D.fs f = D'.fs f) (h2 : D.down = D'.down) (h3 : D.lost = D'.lost) (h4 : D.left = D'.left) (h5 : ∀ f, f < 8 → D.keep f = D'.keep f) : Step b F w w1 D' := by
  obtain ⟨F2, h, a, c⟩ := h
  exact ⟨F2, h.congr h1 h2 h3 h4 h5, a, c⟩
/-- The crash after i files. -/
def part (D : Dk) (k : Nat → Int) (i : Nat) : Dk := { D with down := true, left := 0, fs := fun j => if j < i then ((D.fs j).1 ++ (D.fs j).2.take (k j).toNat, []) else D.fs j }
theorem part_step (D : Dk) (k : Nat → Int) (i : Nat) : (part D k i).set i (((part D k i).fs i).1 ++ ((part D k i).fs i).2.take (k i).toNat, []) = part D k (i + 1) := by
  unfold part Dk.set upd
  simp only [Dk.mk.injEq, and_true, Nat.lt_irrefl, if_false]
  funext j
  by_cases e : j = i
  · subst e; simp
  · by_cases e2 : j < i
    · simp [e, e2, show j < i + 1 by omega]
    · simp [e, e2, show ¬ j < i + 1 by omega]
set_option maxRecDepth 20000 in
set_option maxHeartbeats 1000000 in
theorem crash_any (b : Nat) (D : Dk) (F : Nat → Prop) (k : Nat → Int) (w : World) (h : Has w b F D) :
    Calls Tryd.prog 41 #[.pointer (some ⟨b, 0, none⟩), .agg (eight k)] w fun e w' => e = .returned (.tuple #[]) ∧ Step b F w w' (D.crash k) := by
  obtain ⟨v, h⟩ := h
  have hb := h.is.lt
  obtain ⟨w1, hw1⟩ : ∃ w1, w1 = w.alloc (.cells (eight k) 61) := ⟨_, rfl⟩
  have hfa : Fr F w w1 := by rw [hw1]; exact (Fr.refl F w).alloc _
  have h1 : Disk w1 b v F D := by
    rw [hw1]
    exact h.kept ((Fr.refl (fun _ => False) w).alloc _) (fun _ _ hh => hh)
  have hbox : Is w1 w.heap.size 61 (eight k) := by rw [hw1]; exact Is.fresh w 61 _
  have hbn : ¬ F w.heap.size := fun hF => by have := h.lt _ hF; omega
  have c1 := h1.cdown
  have f1 := h1.is.open_ 16
  have c2 := h1.cleft
  have f2 := h1.is.open_ 18
  have hstart : Hid (Has ((w1.setCell ⟨b, 16, none⟩ (.bool true)).setCell ⟨b, 18, none⟩ (.int .i64 0)) b F (part D k 0) ∧ Fr F w1 ((w1.setCell ⟨b, 16, none⟩ (.bool true)).setCell ⟨b, 18, none⟩ (.int .i64 0)) ∧
      Is ((w1.setCell ⟨b, 16, none⟩ (.bool true)).setCell ⟨b, 18, none⟩ (.int .i64 0)) w.heap.size 61 (eight k)) := Lib.hid (by
    have hf : Fr F w1 ((w1.setCell ⟨b, 16, none⟩ (.bool true)).setCell ⟨b, 18, none⟩ (.int .i64 0)) := ((Fr.refl F w1).set h1.mem _ _).set h1.mem _ _
    have hA : Disk (w1.setCell ⟨b, 16, none⟩ (.bool true)) b v F { D with down := true } := h1.turn (by simp [cellsD]) (fun _ _ => rfl) ⟨h1.ok.lost, h1.ok.left, h1.ok.len⟩
    have hB : Disk ((w1.setCell ⟨b, 16, none⟩ (.bool true)).setCell ⟨b, 18, none⟩ (.int .i64 0)) b v F (part D k 0) := hA.turn (by simp [cellsD, part]) (fun _ _ => by simp [part, Dk.all]) ⟨h1.ok.lost, by show 0 < _; omega, fun f hf => by have := h1.ok.len f hf; simpa [part, Dk.len] using this⟩
    exact ⟨⟨v, hB⟩, hf, hf.is hbox hbn⟩)
  have HF := Lib.hid hfa
  have HN := Lib.hid hbn
  have HB := Lib.hid hb
  clear h h1 hfa hbn hb
  go_enter Tryd.func41, Tryd.ntmps41
  clear hbox
  subst hw1
  go_wp2
  go_loopw [11] (fun i wr => ∃ n : Nat, n ≤ 8 ∧ i = .int .i64 (n : Int) ∧ Step b F (w.alloc (.cells (eight k) 61)) wr (part D k n) ∧ Is wr w.heap.size 61 (eight k)) (fun i _ => 8 - (intOf i).toNat)
  case atStart =>
    obtain ⟨s1, s2, s3⟩ := hstart.out
    exact ⟨0, by omega, rfl, Step.same s1 s2, s3⟩
  case round =>
    obtain ⟨n, hn, rfl, hS, hI⟩ := hrel
    by_cases hlt : n < 8
    · have i1 : decide ((n : Int) < 8) = true := by simp; omega
      have i2 : (n : Int) < 8 := by omega
      obtain ⟨F', hH, hg, hfr⟩ := hS
      have c3 : wr.cell? ⟨w.heap.size, n, none⟩ = some (.int .i64 (k n)) := (hI.at_ n).trans (eight_at k hlt)
      have hnF : ¬ F' w.heap.size := fun hF => by
        rcases hg _ hF with h1 | h1
        · exact HN.out h1
        · simp at h1; omega
      have C := Lib.hid (fcrash_any b (part D k n) F' n (k n) (wr.drewN 1) (hH.drew 1) hlt)
      have HG := Lib.hid hg
      have HR := Lib.hid hfr
      have HI := Lib.hid hI
      have HNF := Lib.hid hnF
      clear hH hg hfr hI hnF
      go_wp2
      go_still_tail 8, (by kernel_rfl)
      change wpList _ _ _ _ _ wr.drew
      go_wp2_with (first | (go_at_call 52; go_must (refine (C.out).mono ?_); rintro e w2 ⟨rfl, hs⟩; have HS := Lib.hid hs; clear hs))
      go_roundw
      case rel =>
        have hs2 := HS.out
        rw [part_step] at hs2
        refine ⟨n + 1, by omega, by go_num, Step.trans (HR.out.drew 1) HG.out hs2, ?_⟩
        obtain ⟨_, _, _, h3⟩ := hs2
        exact h3.is (show Is (wr.drewN 1) _ _ _ from HI.out) HNF.out
      case measure => simp [intOf]; omega
    · have i1 : decide ((n : Int) < 8) = false := by simp; omega
      have hne : n = 8 := by omega
      have HS : Hid (Step b F (w.alloc (.cells (eight k) 61)) wr (part D k 8)) := Lib.hid (by rw [← hne]; exact hS)
      clear hS hne
      go_wp2
      go_end0
      refine ⟨rfl, (Step.trans HF.out (fun _ h => .inl h) HS.out).congr ?_ rfl rfl rfl (fun _ _ => rfl)⟩
      intro f hf
      simp [part, Dk.crash, hf]
end Go.Proofs.YtgamkahbebnnaaaDoor.D5
