/-
  The law's own step on the disk: one act, one of eleven.
-/
import Derived.Test.YtokoccffkogamaaTurn
namespace Go.Proofs.Ytokoccffkogamaa
open Go.RowKit
/-- An act: what it does, its numbers, its text, its kept lengths. -/
structure Ac where
  laid ::
  d : Int
  f : Int
  g : Int
  n : Int
  s : List UInt8
  keep : List Int
structure Ac.Fits (a : Ac) : Prop where
  d : -9223372036854775808 ≤ a.d ∧ a.d < 9223372036854775808
  n : a.n < 9223372036854775808
  s : a.s.length ≤ 140737488351232
  keep : a.keep.length ≤ 17592186043904
def Ac.val (a : Ac) (A : Option Addr) (c : Nat) : Value := .agg #[.int .i64 a.d, .int .i64 a.f, .int .i64 a.g, .int .i64 a.n, .string (mk a.s), .slice A a.keep.length c]
def doD (a : Ac) (D : Dk) : (List UInt8 × Nat) × Dk :=
  if a.d % 11 = 0 then (([], (D.app a.f a.s).1), (D.app a.f a.s).2) else if a.d % 11 = 1 then (([], (D.app a.f a.s).1), (D.app a.f a.s).2)
  else if a.d % 11 = 2 then (([], (D.flush a.f).1), (D.flush a.f).2) else if a.d % 11 = 3 then (([], (D.cut a.f a.n).1), (D.cut a.f a.n).2)
  else if a.d % 11 = 4 then (([], (D.turn a.f a.g).1), (D.turn a.f a.g).2) else if a.d % 11 = 5 then (([], 0), D.fall (kf a.keep))
  else if a.d % 11 = 6 then (([], 0), D.lose a.n) else if a.d % 11 = 7 then (([], 0), D.start) else if a.d % 11 = 8 then (D.read a.f, D)
  else if a.d % 11 = 10 then (([], 0), D.arm a.n (kf a.keep)) else (([], 0), D)
theorem tm (d : Int) : (0 ≤ d.tmod 11 ∧ d % 11 = d.tmod 11) ∨ (d.tmod 11 < 0 ∧ -11 < d.tmod 11 ∧ d % 11 = d.tmod 11 + 11) := by
  by_cases hd : 0 ≤ d
  · have := Int.tmod_eq_emod_of_nonneg (b := 11) hd
    omega
  · have e : (-d).tmod 11 = (-d) % 11 := Int.tmod_eq_emod_of_nonneg (by omega)
    rw [Int.neg_tmod] at e
    omega
theorem pick_any (d : Int) (w : World) : Calls Try.prog 13 #[.int .i64 d] w fun e w' => e = .returned (.int .i64 (d % 11)) ∧ w' = w := by
  have W2 : ¬ (11 : Int) = 0 := by omega
  have ht := tm d
  by_cases h : d.tmod 11 < 0
  · have W1 : IntKind.i64.wrap (d.tmod 11 + 11) = d.tmod 11 + 11 := IntWalk.i64_in _ (by omega)
    have e : d % 11 = d.tmod 11 + 11 := by omega
    rw [e]
    clear ht e
    go_enter Try.func13, Try.ntmps13
    go_wp2
    go_ret
    exact ⟨rfl, rfl⟩
  · have e : d % 11 = d.tmod 11 := by omega
    rw [e]
    clear ht e
    go_enter Try.func13, Try.ntmps13
    go_wp2
    go_ret
    exact ⟨rfl, rfl⟩
set_option maxRecDepth 40000 in
set_option maxHeartbeats 4000000 in
theorem do_any (b : Nat) (D : Dk) (F : Nat → Prop) (a : Ac) (A : Option Addr) (c : Nat) (w : World) (h : Has w b F D) (ha : a.Fits) (hr : RowAt w A (ints a.keep)) (hA : a.keep ≠ [] → ∀ q, A = some q → ¬ F q.block) (_hA0 : A = none → a.keep.length = 0) :
    Calls Try.prog 18 #[.pointer (some ⟨b, 0, none⟩), a.val A c] w fun e w' => e = .returned (.tuple #[.string (mk (doD a D).1.1), .int .i64 ((doD a D).1.2 : Nat)]) ∧ Step b F w w' (doD a D).2 := by
  obtain ⟨ob, hob⟩ : ∃ ob : Obj, ob = .cells #[.int .i64 a.d, .int .i64 a.f, .int .i64 a.g, .int .i64 a.n, .string (mk a.s), .slice A a.keep.length c] 32 := ⟨_, rfl⟩
  have hfa : Fr F w (w.alloc ob) := (Fr.refl F w).alloc ob
  have h1 : Has (w.alloc ob) b F D := h.kept ((Fr.refl (fun _ => False) w).alloc ob) (fun _ _ hh => hh)
  have hr1 := hr.alloc ob
  have hb : a.keep ≠ [] → ∀ q, A = some q → q.block ≠ b := fun hne q hq e => hA hne q hq (by
    obtain ⟨v, h9⟩ := h
    rw [e]
    exact h9.mem)
  have hsz : (mk a.s).size ≤ 140737488351232 := ha.s
  have HF := Lib.hid hfa
  have HH := Lib.hid h1
  have cases11 : a.d % 11 = 0 ∨ a.d % 11 = 1 ∨ a.d % 11 = 2 ∨ a.d % 11 = 3 ∨ a.d % 11 = 4 ∨ a.d % 11 = 5 ∨ a.d % 11 = 6 ∨ a.d % 11 = 7 ∨ a.d % 11 = 8 ∨ a.d % 11 = 9 ∨ a.d % 11 = 10 := by omega
  have P := fun W => pick_any a.d W
  rcases cases11 with hk | hk | hk | hk | hk | hk | hk | hk | hk | hk | hk
  · rw [hk] at P
    have hE : doD a D = (([], (D.app a.f a.s).1), (D.app a.f a.s).2) := by simp [doD, hk]
    rw [hE]
    have C := Lib.hid (app_any b D F a.f (mk a.s) _ h1)
    rw [hob] at C HF
    clear h h1 hr hr1 hA _hA0 hb hE hob hfa ha hk HH
    unfold Ac.val
    go_enter Try.func18, Try.ntmps18
    go_wp2_with (first
      | (go_at_call 13; refine (P _).mono ?_; rintro e w1 ⟨rfl, rfl⟩)
      | (go_at_call 15; go_must (refine (C.out).mono ?_); rintro e w2 ⟨rfl, hs⟩; have HS := Lib.hid hs; clear hs))
    go_ret2
    exact ⟨rfl, Step.trans HF.out (fun _ h => .inl h) HS.out⟩
  · rw [hk] at P
    have hE : doD a D = (([], (D.app a.f a.s).1), (D.app a.f a.s).2) := by simp [doD, hk]
    rw [hE]
    have C := Lib.hid (app_any b D F a.f (mk a.s) _ h1)
    rw [hob] at C HF
    clear h h1 hr hr1 hA _hA0 hb hE hob hfa ha hk HH
    unfold Ac.val
    go_enter Try.func18, Try.ntmps18
    go_wp2_with (first
      | (go_at_call 13; refine (P _).mono ?_; rintro e w1 ⟨rfl, rfl⟩)
      | (go_at_call 15; go_must (refine (C.out).mono ?_); rintro e w2 ⟨rfl, hs⟩; have HS := Lib.hid hs; clear hs))
    go_ret2
    exact ⟨rfl, Step.trans HF.out (fun _ h => .inl h) HS.out⟩
  · rw [hk] at P
    have hE : doD a D = (([], (D.flush a.f).1), (D.flush a.f).2) := by simp [doD, hk]
    rw [hE]
    have C := Lib.hid (flush_any b D F a.f _ h1)
    rw [hob] at C HF
    clear h h1 hr hr1 hA _hA0 hb hE hob hfa ha hk HH
    unfold Ac.val
    go_enter Try.func18, Try.ntmps18
    go_wp2_with (first
      | (go_at_call 13; refine (P _).mono ?_; rintro e w1 ⟨rfl, rfl⟩)
      | (go_at_call 30; go_must (refine (C.out).mono ?_); rintro e w2 ⟨rfl, hs⟩; have HS := Lib.hid hs; clear hs))
    go_ret2
    exact ⟨rfl, Step.trans HF.out (fun _ h => .inl h) HS.out⟩
  · rw [hk] at P
    have hE : doD a D = (([], (D.cut a.f a.n).1), (D.cut a.f a.n).2) := by simp [doD, hk]
    rw [hE]
    have C := Lib.hid (cut_any b D F a.f a.n _ h1)
    rw [hob] at C HF
    clear h h1 hr hr1 hA _hA0 hb hE hob hfa ha hk HH
    unfold Ac.val
    go_enter Try.func18, Try.ntmps18
    go_wp2_with (first
      | (go_at_call 13; refine (P _).mono ?_; rintro e w1 ⟨rfl, rfl⟩)
      | (go_at_call 31; go_must (refine (C.out).mono ?_); rintro e w2 ⟨rfl, hs⟩; have HS := Lib.hid hs; clear hs))
    go_ret2
    exact ⟨rfl, Step.trans HF.out (fun _ h => .inl h) HS.out⟩
  · rw [hk] at P
    have hE : doD a D = (([], (D.turn a.f a.g).1), (D.turn a.f a.g).2) := by simp [doD, hk]
    rw [hE]
    have C := Lib.hid (turn_any b D F a.f a.g _ h1)
    rw [hob] at C HF
    clear h h1 hr hr1 hA _hA0 hb hE hob hfa ha hk HH
    unfold Ac.val
    go_enter Try.func18, Try.ntmps18
    go_wp2_with (first
      | (go_at_call 13; refine (P _).mono ?_; rintro e w1 ⟨rfl, rfl⟩)
      | (go_at_call 32; go_must (refine (C.out).mono ?_); rintro e w2 ⟨rfl, hs⟩; have HS := Lib.hid hs; clear hs))
    go_ret2
    exact ⟨rfl, Step.trans HF.out (fun _ h => .inl h) HS.out⟩
  · rw [hk] at P
    have hE : doD a D = (([], 0), D.fall (kf a.keep)) := by simp [doD, hk]
    rw [hE]
    have C := Lib.hid (fall_any b D F A c a.keep _ h1 hr1)
    rw [hob] at C HF
    clear h h1 hr hr1 hA _hA0 hb hE hob hfa ha hk HH
    unfold Ac.val
    go_enter Try.func18, Try.ntmps18
    go_wp2_with (first
      | (go_at_call 13; refine (P _).mono ?_; rintro e w1 ⟨rfl, rfl⟩)
      | (go_at_call 16; go_must (refine (C.out).mono ?_); rintro e w2 ⟨rfl, hs⟩; have HS := Lib.hid hs; clear hs))
    go_ret2
    exact ⟨rfl, Step.trans HF.out (fun _ h => .inl h) HS.out⟩
  · rw [hk] at P
    have hE : doD a D = (([], 0), D.lose a.n) := by simp [doD, hk]
    rw [hE]
    have C := Lib.hid (lose_any b D F a.n _ h1 ha.n)
    rw [hob] at C HF
    clear h h1 hr hr1 hA _hA0 hb hE hob hfa ha hk HH
    unfold Ac.val
    go_enter Try.func18, Try.ntmps18
    go_wp2_with (first
      | (go_at_call 13; refine (P _).mono ?_; rintro e w1 ⟨rfl, rfl⟩)
      | (go_at_call 33; go_must (refine (C.out).mono ?_); rintro e w2 ⟨rfl, hs, hf2⟩; have HS := Lib.hid (Step.same hs hf2); clear hs hf2))
    go_ret2
    exact ⟨rfl, Step.trans HF.out (fun _ h => .inl h) HS.out⟩
  · rw [hk] at P
    have hE : doD a D = (([], 0), D.start) := by simp [doD, hk]
    rw [hE]
    have C := Lib.hid (start_any b D F _ h1)
    rw [hob] at C HF
    clear h h1 hr hr1 hA _hA0 hb hE hob hfa ha hk HH
    unfold Ac.val
    go_enter Try.func18, Try.ntmps18
    go_wp2_with (first
      | (go_at_call 13; refine (P _).mono ?_; rintro e w1 ⟨rfl, rfl⟩)
      | (go_at_call 24; go_must (refine (C.out).mono ?_); rintro e w2 ⟨rfl, hs, hf2⟩; have HS := Lib.hid (Step.same hs hf2); clear hs hf2))
    go_ret2
    exact ⟨rfl, Step.trans HF.out (fun _ h => .inl h) HS.out⟩
  · rw [hk] at P
    have hE : doD a D = (D.read a.f, D) := by simp [doD, hk]
    rw [hE]
    have C := Lib.hid (read_any b D F a.f _ h1)
    rw [hob] at C HF
    have HR := HH
    rw [hob] at HR
    clear h h1 hr hr1 hA _hA0 hb hE hob hfa ha hk HH
    unfold Ac.val
    go_enter Try.func18, Try.ntmps18
    go_wp2_with (first
      | (go_at_call 13; refine (P _).mono ?_; rintro e w1 ⟨rfl, rfl⟩)
      | (go_at_call 26; go_must (refine (C.out).mono ?_); rintro e w2 ⟨rfl, rfl⟩))
    go_ret2
    exact ⟨rfl, Step.same HR.out HF.out⟩
  · rw [hk] at P
    have hE : doD a D = (([], 0), D) := by simp [doD, hk]
    rw [hE]
    rw [hob] at HF HH
    clear h h1 hr hr1 hA _hA0 hb hE hob hfa ha hk
    unfold Ac.val
    go_enter Try.func18, Try.ntmps18
    go_wp2_with (first
      | (go_at_call 13; refine (P _).mono ?_; rintro e w1 ⟨rfl, rfl⟩))
    go_ret2
    exact ⟨rfl, Step.same HH.out HF.out⟩
  · rw [hk] at P
    have hE : doD a D = (([], 0), D.arm a.n (kf a.keep)) := by simp [doD, hk]
    rw [hE]
    have C := Lib.hid (arm_any b D F a.n A c a.keep _ h1 ha.n hr1 hb)
    rw [hob] at C HF
    clear h h1 hr hr1 hA _hA0 hb hE hob hfa ha hk HH
    unfold Ac.val
    go_enter Try.func18, Try.ntmps18
    go_wp2_with (first
      | (go_at_call 13; refine (P _).mono ?_; rintro e w1 ⟨rfl, rfl⟩)
      | (go_at_call 29; go_must (refine (C.out).mono ?_); rintro e w2 ⟨rfl, hs⟩; have HS := Lib.hid hs; clear hs))
    go_ret2
    exact ⟨rfl, Step.trans HF.out (fun _ h => .inl h) HS.out⟩
end Go.Proofs.Ytokoccffkogamaa
