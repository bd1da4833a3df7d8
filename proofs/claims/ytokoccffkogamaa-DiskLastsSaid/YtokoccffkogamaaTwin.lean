/-
  The law's own step on the reference: one act, one of eleven.
-/
import Derived.Test.YtokoccffkogamaaDo
import Derived.Test.YtokoccffkogamaaRefCut
import Derived.Test.YtokoccffkogamaaRefTurn
namespace Go.Proofs.Ytokoccffkogamaa
open Go.RowKit
set_option maxRecDepth 40000 in
set_option maxHeartbeats 4000000 in
theorem twin_any (b : Nat) (D : Dk) (F : Nat → Prop) (a : Ac) (A : Option Addr) (c : Nat) (w : World) (h : RHas w b F D) (ha : a.Fits) (hr : RowAt w A (ints a.keep)) (hA : a.keep ≠ [] → ∀ q, A = some q → ¬ F q.block) (hA0 : A = none → a.keep.length = 0) :
    Calls Try.prog 19 #[.pointer (some ⟨b, 0, none⟩), a.val A c] w fun e w' => e = .returned (.tuple #[.string (mk (doD a D).1.1), .int .i64 ((doD a D).1.2 : Nat)]) ∧ RStep b F w w' (doD a D).2 := by
  obtain ⟨ob, hob⟩ : ∃ ob : Obj, ob = .cells #[.int .i64 a.d, .int .i64 a.f, .int .i64 a.g, .int .i64 a.n, .string (mk a.s), .slice A a.keep.length c] 32 := ⟨_, rfl⟩
  have hfa : Fr F w (w.alloc ob) := (Fr.refl F w).alloc ob
  have h1 : RHas (w.alloc ob) b F D := h.kept ((Fr.refl (fun _ => False) w).alloc ob) (fun _ _ hh => hh)
  have hr1 := hr.alloc ob
  have hb : a.keep ≠ [] → ∀ q, A = some q → q.block ≠ b := fun hne q hq e => hA hne q hq (by
    obtain ⟨_, _, _, _, _, h9⟩ := h
    rw [e]
    exact h9.mr)
  have hsz : (mk a.s).size ≤ 140737488351232 := ha.s
  have HF := Lib.hid hfa
  have HH := Lib.hid h1
  have cases11 : a.d % 11 = 0 ∨ a.d % 11 = 1 ∨ a.d % 11 = 2 ∨ a.d % 11 = 3 ∨ a.d % 11 = 4 ∨ a.d % 11 = 5 ∨ a.d % 11 = 6 ∨ a.d % 11 = 7 ∨ a.d % 11 = 8 ∨ a.d % 11 = 9 ∨ a.d % 11 = 10 := by omega
  have P := fun W => pick_any a.d W
  rcases cases11 with hk | hk | hk | hk | hk | hk | hk | hk | hk | hk | hk
  · rw [hk] at P
    have hE : doD a D = (([], (D.app a.f a.s).1), (D.app a.f a.s).2) := by simp [doD, hk]
    rw [hE]
    have C := Lib.hid (rapp_any b D F a.f (mk a.s) _ h1 hsz)
    rw [hob] at C HF
    clear h h1 hr hr1 hA hA0 hb hE hob hfa ha hk HH
    unfold Ac.val
    go_enter Try.func19, Try.ntmps19
    go_wp2_with (first
      | (go_at_call 13; refine (P _).mono ?_; rintro e w1 ⟨rfl, rfl⟩)
      | (go_at_call 39; go_must (refine (C.out).mono ?_); rintro e w2 ⟨rfl, hs⟩; have HS := Lib.hid hs; clear hs))
    go_ret2
    exact ⟨rfl, RStep.trans HF.out (fun _ h => .inl h) HS.out⟩
  · rw [hk] at P
    have hE : doD a D = (([], (D.app a.f a.s).1), (D.app a.f a.s).2) := by simp [doD, hk]
    rw [hE]
    have C := Lib.hid (rapp_any b D F a.f (mk a.s) _ h1 hsz)
    rw [hob] at C HF
    clear h h1 hr hr1 hA hA0 hb hE hob hfa ha hk HH
    unfold Ac.val
    go_enter Try.func19, Try.ntmps19
    go_wp2_with (first
      | (go_at_call 13; refine (P _).mono ?_; rintro e w1 ⟨rfl, rfl⟩)
      | (go_at_call 39; go_must (refine (C.out).mono ?_); rintro e w2 ⟨rfl, hs⟩; have HS := Lib.hid hs; clear hs))
    go_ret2
    exact ⟨rfl, RStep.trans HF.out (fun _ h => .inl h) HS.out⟩
  · rw [hk] at P
    have hE : doD a D = (([], (D.flush a.f).1), (D.flush a.f).2) := by simp [doD, hk]
    rw [hE]
    have C := Lib.hid (rflush_any b D F a.f _ h1)
    rw [hob] at C HF
    clear h h1 hr hr1 hA hA0 hb hE hob hfa ha hk HH
    unfold Ac.val
    go_enter Try.func19, Try.ntmps19
    go_wp2_with (first
      | (go_at_call 13; refine (P _).mono ?_; rintro e w1 ⟨rfl, rfl⟩)
      | (go_at_call 40; go_must (refine (C.out).mono ?_); rintro e w2 ⟨rfl, hs⟩; have HS := Lib.hid hs; clear hs))
    go_ret2
    exact ⟨rfl, RStep.trans HF.out (fun _ h => .inl h) HS.out⟩
  · rw [hk] at P
    have hE : doD a D = (([], (D.cut a.f a.n).1), (D.cut a.f a.n).2) := by simp [doD, hk]
    rw [hE]
    have C := Lib.hid (rcut_any b D F a.f a.n _ h1 ha.n)
    rw [hob] at C HF
    clear h h1 hr hr1 hA hA0 hb hE hob hfa ha hk HH
    unfold Ac.val
    go_enter Try.func19, Try.ntmps19
    go_wp2_with (first
      | (go_at_call 13; refine (P _).mono ?_; rintro e w1 ⟨rfl, rfl⟩)
      | (go_at_call 41; go_must (refine (C.out).mono ?_); rintro e w2 ⟨rfl, hs⟩; have HS := Lib.hid hs; clear hs))
    go_ret2
    exact ⟨rfl, RStep.trans HF.out (fun _ h => .inl h) HS.out⟩
  · rw [hk] at P
    have hE : doD a D = (([], (D.turn a.f a.g).1), (D.turn a.f a.g).2) := by simp [doD, hk]
    rw [hE]
    have C := Lib.hid (rturn_any b D F a.f a.g _ h1)
    rw [hob] at C HF
    clear h h1 hr hr1 hA hA0 hb hE hob hfa ha hk HH
    unfold Ac.val
    go_enter Try.func19, Try.ntmps19
    go_wp2_with (first
      | (go_at_call 13; refine (P _).mono ?_; rintro e w1 ⟨rfl, rfl⟩)
      | (go_at_call 42; go_must (refine (C.out).mono ?_); rintro e w2 ⟨rfl, hs⟩; have HS := Lib.hid hs; clear hs))
    go_ret2
    exact ⟨rfl, RStep.trans HF.out (fun _ h => .inl h) HS.out⟩
  · rw [hk] at P
    have hE : doD a D = (([], 0), D.fall (kf a.keep)) := by simp [doD, hk]
    rw [hE]
    have C := Lib.hid (rfall_any b D F A c a.keep _ h1 hr1 hA)
    rw [hob] at C HF
    clear h h1 hr hr1 hA hA0 hb hE hob hfa ha hk HH
    unfold Ac.val
    go_enter Try.func19, Try.ntmps19
    go_wp2_with (first
      | (go_at_call 13; refine (P _).mono ?_; rintro e w1 ⟨rfl, rfl⟩)
      | (go_at_call 43; go_must (refine (C.out).mono ?_); rintro e w2 ⟨rfl, hs⟩; have HS := Lib.hid hs; clear hs))
    go_ret2
    exact ⟨rfl, RStep.trans HF.out (fun _ h => .inl h) HS.out⟩
  · rw [hk] at P
    have hE : doD a D = (([], 0), D.lose a.n) := by simp [doD, hk]
    rw [hE]
    have C := Lib.hid (rlose_any b D F a.n _ h1 ha.n)
    rw [hob] at C HF
    clear h h1 hr hr1 hA hA0 hb hE hob hfa ha hk HH
    unfold Ac.val
    go_enter Try.func19, Try.ntmps19
    go_wp2_with (first
      | (go_at_call 13; refine (P _).mono ?_; rintro e w1 ⟨rfl, rfl⟩)
      | (go_at_call 44; go_must (refine (C.out).mono ?_); rintro e w2 ⟨rfl, hs⟩; have HS := Lib.hid hs; clear hs))
    go_ret2
    exact ⟨rfl, RStep.trans HF.out (fun _ h => .inl h) HS.out⟩
  · rw [hk] at P
    have hE : doD a D = (([], 0), D.start) := by simp [doD, hk]
    rw [hE]
    have C := Lib.hid (rstart_any b D F _ h1)
    rw [hob] at C HF
    clear h h1 hr hr1 hA hA0 hb hE hob hfa ha hk HH
    unfold Ac.val
    go_enter Try.func19, Try.ntmps19
    go_wp2_with (first
      | (go_at_call 13; refine (P _).mono ?_; rintro e w1 ⟨rfl, rfl⟩)
      | (go_at_call 25; go_must (refine (C.out).mono ?_); rintro e w2 ⟨rfl, hs⟩; have HS := Lib.hid hs; clear hs))
    go_ret2
    exact ⟨rfl, RStep.trans HF.out (fun _ h => .inl h) HS.out⟩
  · rw [hk] at P
    have hE : doD a D = (D.read a.f, D) := by simp [doD, hk]
    rw [hE]
    have C := Lib.hid (rread_any b D F a.f _ h1)
    rw [hob] at C HF
    have HR := HH
    rw [hob] at HR
    clear h h1 hr hr1 hA hA0 hb hE hob hfa ha hk HH
    unfold Ac.val
    go_enter Try.func19, Try.ntmps19
    go_wp2_with (first
      | (go_at_call 13; refine (P _).mono ?_; rintro e w1 ⟨rfl, rfl⟩)
      | (go_at_call 27; go_must (refine (C.out).mono ?_); rintro e w2 ⟨rfl, hj⟩; have HJ := Lib.hid hj; clear hj))
    go_ret2
    exact ⟨rfl, RStep.trans HF.out (fun _ h => .inl h) (RStep.same (HR.out.drewE HJ.out).1 (HR.out.drewE HJ.out).2)⟩
  · rw [hk] at P
    have hE : doD a D = (([], 0), D) := by simp [doD, hk]
    rw [hE]
    rw [hob] at HF HH
    clear h h1 hr hr1 hA hA0 hb hE hob hfa ha hk
    unfold Ac.val
    go_enter Try.func19, Try.ntmps19
    go_wp2_with (first
      | (go_at_call 13; refine (P _).mono ?_; rintro e w1 ⟨rfl, rfl⟩))
    go_ret2
    exact ⟨rfl, RStep.same HH.out HF.out⟩
  · rw [hk] at P
    have hE : doD a D = (([], 0), D.arm a.n (kf a.keep)) := by simp [doD, hk]
    rw [hE]
    have C := Lib.hid (rarm_any b D F a.n A c a.keep _ h1 ha.n hr1 hb ha.keep hA0)
    rw [hob] at C HF
    clear h h1 hr hr1 hA hA0 hb hE hob hfa ha hk HH
    unfold Ac.val
    go_enter Try.func19, Try.ntmps19
    go_wp2_with (first
      | (go_at_call 13; refine (P _).mono ?_; rintro e w1 ⟨rfl, rfl⟩)
      | (go_at_call 45; go_must (refine (C.out).mono ?_); rintro e w2 ⟨rfl, hs⟩; have HS := Lib.hid hs; clear hs))
    go_ret2
    exact ⟨rfl, RStep.trans HF.out (fun _ h => .inl h) HS.out⟩
end Go.Proofs.Ytokoccffkogamaa
