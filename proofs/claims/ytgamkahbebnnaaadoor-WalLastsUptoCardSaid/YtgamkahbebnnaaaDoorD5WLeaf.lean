/-
  The log's small calls: spare, emptySpare, Flush, Append, All, Len.
-/
import Derived.Test.YtgamkahbebnnaaaDoorD5WMem
import Derived.Deep.RegionHeld3
import Derived.Deep.RegionWith
namespace Go.Proofs.YtgamkahbebnnaaaDoor.D5
open Go.RowKit WalPlain
set_option maxRecDepth 40000
theorem drewB (w : World) (n : Nat) : Below w.heap.size w (w.drewN n) := ⟨rfl, rfl, rfl, Nat.le_refl _, fun _ _ => rfl⟩
theorem spare_any (c b : Nat) (f : Int) (v : Value) (w : World) (h : Is w c 65 #[.pointer (some ⟨b, 0, none⟩), .int .i64 f, v]) (h0 : 0 ≤ f) (h7 : f < 7) :
    Calls Tryd.prog 37 #[.pointer (some ⟨c, 0, none⟩)] w fun e w' => e = .returned (.int .i64 (f + 1)) ∧ w' = w := by
  have c1 : w.cell? ⟨c, 1, none⟩ = some (.int .i64 f) := h.at_ 1
  have W1 : IntKind.i64.wrap (f + 1) = f + 1 := IntWalk.i64_in _ (by omega)
  clear h
  go_enter Tryd.func37, Tryd.ntmps37
  go_wp2
  go_ret
  exact ⟨rfl, rfl⟩
set_option maxHeartbeats 1000000 in
theorem emptySpare_any (c b : Nat) (f : Int) (F G : Nat → Prop) (D : Dk) (R : List Bs) (w : World) (hD : Has w b F D) (hL : LgH w c b f G R) (hd : ∀ k, F k → ¬ G k) (h0 : 0 ≤ f) (h7 : f < 7) :
    Calls Tryd.prog 31 #[.pointer (some ⟨c, 0, none⟩)] w fun e w' => e = .returned (.int .i64 ((cut2 D (f + 1)).1 : Nat)) ∧ StepW b c f F G w w' (cut2 D (f + 1)).2 R := by
  obtain ⟨v, hl⟩ := hL
  have c0 : w.cell? ⟨c, 0, none⟩ = some (.pointer (some ⟨b, 0, none⟩)) := hl.is.at_ 0
  have SP : Hid (∀ n, Calls Tryd.prog 37 #[.pointer (some ⟨c, 0, none⟩)] (w.drewN n) fun e w' => e = .returned (.int .i64 (f + 1)) ∧ w' = w.drewN n) := Lib.hid (fun n => spare_any c b f v (w.drewN n) hl.is h0 h7)
  have SZ : Hid (∀ n, Calls Tryd.prog 25 #[.pointer (some ⟨b, 0, none⟩), .int .i64 (f + 1)] (w.drewN n) fun e w' => e = .returned (.int .i64 (D.size (f + 1) : Nat)) ∧ w' = w.drewN n) := Lib.hid (fun n => size_any b D F (f + 1) (w.drewN n) (hD.drew n))
  have DR : Hid (∀ n, Has (w.drewN n) b F D ∧ LgH (w.drewN n) c b f G R) := Lib.hid (fun n => ⟨hD.drew n, LgH.drew ⟨v, hl⟩ n⟩)
  by_cases hz : 0 < D.size (f + 1)
  · have hE : cut2 D (f + 1) = D.cut (f + 1) 0 := by unfold cut2; rw [if_pos hz]
    have i1 : (((D.size (f + 1) : Nat) : Int) == 0) = false := by simp; omega
    have CT : Hid (∀ n, Calls Tryd.prog 30 #[.pointer (some ⟨b, 0, none⟩), .int .i64 (f + 1), .int .i64 0] (w.drewN n) fun e w' => e = .returned (.int .i64 ((cut2 D (f + 1)).1 : Nat)) ∧ Step b F (w.drewN n) w' (cut2 D (f + 1)).2) :=
      Lib.hid (fun n => by rw [hE]; exact cut_any b D F (f + 1) 0 (w.drewN n) (hD.drew n))
    have HD := Lib.hid hd
    clear hz hE hD hl hd
    go_enter Tryd.func31, Tryd.ntmps31
    go_wp2_with (first
      | (go_quiet (first
          | (go_at_call 37; exact Calls.quiet_of_same (SP.out _))
          | (go_at_call 25; exact Calls.quiet_of_same (SZ.out _)))))
    obtain ⟨w2, hw2⟩ : ∃ w2, w2 = w.drewN nq := ⟨_, rfl⟩
    have c2 : w2.cell? ⟨c, 0, none⟩ = some (.pointer (some ⟨b, 0, none⟩)) := by rw [hw2]; exact c0
    have SP2 : Hid (∀ n, Calls Tryd.prog 37 #[.pointer (some ⟨c, 0, none⟩)] (w2.drewN n) fun e w' => e = .returned (.int .i64 (f + 1)) ∧ w' = w2.drewN n) := Lib.hid (fun n => by rw [hw2, World.drewN_drewN]; exact SP.out _)
    have CT2 : Hid (∀ n, Calls Tryd.prog 30 #[.pointer (some ⟨b, 0, none⟩), .int .i64 (f + 1), .int .i64 0] (w2.drewN n) fun e w' => e = .returned (.int .i64 ((cut2 D (f + 1)).1 : Nat)) ∧ Step b F (w2.drewN n) w' (cut2 D (f + 1)).2) := Lib.hid (fun n => by rw [hw2, World.drewN_drewN]; exact CT.out _)
    have FR2 : Hid (Below w.heap.size w (w2.drewN 1) ∧ LgH (w2.drewN 1) c b f G R) := Lib.hid ⟨by rw [hw2]; exact ⟨rfl, rfl, rfl, Nat.le_refl _, fun _ _ => rfl⟩, by rw [hw2]; exact LgH.drew (DR.out _).2 1⟩
    rw [← hw2]
    clear hw2 SP CT DR SZ c0
    go_region_with (first
      | (go_at_call 37; refine (SP2.out 1).mono ?_; rintro e w3 ⟨rfl, rfl⟩)
      | (go_at_call 30; refine (CT2.out 1).mono ?_; rintro e w3 ⟨rfl, h3⟩; have S3 := Lib.hid h3; clear h3))
    all_goals
      go_wp2
      go_ret
      exact ⟨rfl, (StepW.of_disk FR2.out.2 HD.out S3.out).below FR2.out.1⟩
  · have hE : cut2 D (f + 1) = (0, D) := by unfold cut2; rw [if_neg hz]
    have i1 : (((D.size (f + 1) : Nat) : Int) == 0) = true := by simp; omega
    have HS : Hid (∀ n, StepW b c f F G w (w.drewN n) (cut2 D (f + 1)).2 R) := Lib.hid (fun n => by
      rw [hE]
      exact (StepW.refl (DR.out n).1 (DR.out n).2 hd).below (drewB w n))
    have HE : Hid ((cut2 D (f + 1)).1 = 0) := Lib.hid (by rw [hE])
    clear hz hE hD hl hd DR
    go_enter Tryd.func31, Tryd.ntmps31
    go_wp2_with (first
      | (go_quiet (first
          | (go_at_call 37; exact Calls.quiet_of_same (SP.out _))
          | (go_at_call 25; exact Calls.quiet_of_same (SZ.out _)))))
    go_ret
    exact ⟨by rw [HE.out]; rfl, HS.out _⟩
/-- Flush. -/
theorem wflush_any (c b : Nat) (f : Int) (F G : Nat → Prop) (D : Dk) (R : List Bs) (w : World) (hD : Has w b F D) (hL : LgH w c b f G R) (hd : ∀ k, F k → ¬ G k) :
    Calls Tryd.prog 12 #[.pointer (some ⟨c, 0, none⟩)] w fun e w' => e = .returned (.int .i64 ((D.flush f).1 : Nat)) ∧ StepW b c f F G w w' (D.flush f).2 R := by
  obtain ⟨v, hl⟩ := hL
  have c0 : w.cell? ⟨c, 0, none⟩ = some (.pointer (some ⟨b, 0, none⟩)) := hl.is.at_ 0
  have c1 : w.cell? ⟨c, 1, none⟩ = some (.int .i64 f) := hl.is.at_ 1
  have FL : Hid (∀ n, Calls Tryd.prog 32 #[.pointer (some ⟨b, 0, none⟩), .int .i64 f] (w.drewN n) fun e w' => e = .returned (.int .i64 ((D.flush f).1 : Nat)) ∧ Step b F (w.drewN n) w' (D.flush f).2) := Lib.hid (fun n => flush_any b D F f (w.drewN n) (hD.drew n))
  have FR2 : Hid (∀ n, LgH (w.drewN n) c b f G R) := Lib.hid (fun n => LgH.drew ⟨v, hl⟩ n)
  have HD := Lib.hid hd
  clear hD hl hd
  go_enter Tryd.func12, Tryd.ntmps12
  go_wp2
  go_region_with (go_at_call 32; refine (FL.out 1).mono ?_; rintro e w3 ⟨rfl, h3⟩; have S3 := Lib.hid h3; clear h3)
  all_goals
    go_wp2
    go_ret
    exact ⟨rfl, (StepW.of_disk (FR2.out _) HD.out S3.out).below (drewB w 1)⟩
end Go.Proofs.YtgamkahbebnnaaaDoor.D5
