/-
  DiskTells: the walk.
-/
import Derived.Test.YtokoccffkogamaaDown
import Derived.Test.YtokoccffkogamaaTwin
import Derived.Test.YtokoccffkogamaaRefCopy
namespace Go.Proofs.Ytokoccffkogamaa
open Go.RowKit
abbrev RHasP (r : Nat) (D : Dk) : World → (Nat → Prop) → Prop := fun w F => RHas w r F D
theorem stab_rhas (r : Nat) (D : Dk) : Stab (RHasP r D) := ⟨fun _ _ _ _ h hf hd => RHas.kept h hf hd, fun _ _ h => RHas.lt h⟩
def Both (P Q : World → (Nat → Prop) → Prop) : World → (Nat → Prop) → Prop := fun w F => ∃ F1 F2, P w F1 ∧ Q w F2 ∧ (∀ k, F1 k → ¬ F2 k) ∧ (∀ k, F1 k → F k) ∧ (∀ k, F2 k → F k) ∧ (∀ k, F k → F1 k ∨ F2 k)
theorem stab_both {P Q : World → (Nat → Prop) → Prop} (hP : Stab P) (hQ : Stab Q) : Stab (Both P Q) := by
  refine ⟨fun w w' F G h hf hd => ?_, fun w F h k hk => ?_⟩
  · obtain ⟨F1, F2, h1, h2, h3, h4, h5, h6⟩ := h
    exact ⟨F1, F2, hP.kept _ _ F1 G h1 hf (fun k hk => hd k (h4 k hk)), hQ.kept _ _ F2 G h2 hf (fun k hk => hd k (h5 k hk)), h3, h4, h5, h6⟩
  · obtain ⟨F1, F2, h1, h2, h3, h4, h5, h6⟩ := h
    rcases h6 k hk with h | h
    · exact hP.lt _ _ h1 k h
    · exact hQ.lt _ _ h2 k h
section
variable {W w : World} {b r : Nat} {D E : Dk} {P Q R : World → (Nat → Prop) → Prop}
theorem Par.drop (h : Par W w R (Both P Q)) : Par W w P Q := by
  obtain ⟨F, G, _, ⟨F1, F2, h1, h2, h3, h4, h5, h6⟩, _, _, g5, g6⟩ := h
  exact ⟨F1, F2, h1, h2, h3, fun k hk => g5 k (h4 k hk), fun k hk => g5 k (h5 k hk), g6⟩
theorem Par.drew (h : Par W w P Q) (hP : Stab P) (hQ : Stab Q) (n : Nat) : Par W (w.drewN n) P Q := by
  obtain ⟨F, G, h1, h2, h3, h4, h5, h6⟩ := h
  exact ⟨F, G, hP.kept _ _ F (fun _ => False) h1 ((Fr.refl _ w).drew n) (fun _ _ hh => hh), hQ.kept _ _ G (fun _ => False) h2 ((Fr.refl _ w).drew n) (fun _ _ hh => hh), h3, h4, h5, ⟨h6.os, h6.tape, h6.output, h6.size, h6.block⟩⟩
theorem Par.drewE {w' : World} (h : Par W w P Q) (hP : Stab P) (hQ : Stab Q) (e : ∃ j, w' = w.drewN j) : Par W w' P Q := by
  obtain ⟨j, rfl⟩ := e
  exact h.drew hP hQ j
theorem Par.kept {w' : World} (h : Par W w P Q) (hP : Stab P) (hQ : Stab Q) (hb : Below w.heap.size w w') : Par W w' P Q := by
  obtain ⟨F, G, h1, h2, h3, h4, h5, h6⟩ := h
  exact ⟨F, G, hP.kept _ _ F (fun _ => False) h1 (Fr.of_below hb (Nat.le_refl _)) (fun _ _ hh => hh), hQ.kept _ _ G (fun _ => False) h2 (Fr.of_below hb (Nat.le_refl _)) (fun _ _ hh => hh), h3, h4, h5, h6.trans (hb.mono h6.size)⟩
theorem par_rnew (h : Own W w b D) : Calls Try.prog 12 #[] w fun e w' => e = .returned (.pointer (some ⟨w.heap.size + 1, 0, none⟩)) ∧ Par W w' (HasP b D) (RHasP (w.heap.size + 1) Dk.new) := by
  obtain ⟨F, h1, h2, h3⟩ := h
  refine (rnew_any w).mono fun e w' hh => ⟨hh.1, ?_⟩
  obtain ⟨⟨G, g1, g2⟩, hb⟩ := hh.2
  exact ⟨F, G, h1.below hb (Nat.le_refl _), g1, fun k hf hg => by have := h1.lt k hf; have := g2 k hg; omega, h2, fun k hk => Nat.le_trans h3.size (g2 k hk), h3.trans (hb.mono h3.size)⟩
theorem par_do (h : Par W w (HasP b D) Q) (hQ : Stab Q) (a : Ac) (A : Option Addr) (c : Nat) (ha : a.Fits) (hk : Keep w W.heap.size A a.keep) :
    Calls Try.prog 18 #[.pointer (some ⟨b, 0, none⟩), .agg #[.int .i64 a.d, .int .i64 a.f, .int .i64 a.g, .int .i64 a.n, .string (mk a.s), .slice A a.keep.length c]] w fun e w' => e = .returned (.tuple #[.string (mk (doD a D).1.1), .int .i64 ((doD a D).1.2 : Nat)]) ∧ Par W w' (HasP b (doD a D).2) Q :=
  h.lift hQ fun F h1 h2 => do_any b D F a A c w h1 ha hk.row.at_ (fun hne q hq hF => by have := hk.lt hne q hq; have := h2 _ hF; omega) hk.nil
theorem par_twin (h : Par W w (RHasP r D) Q) (hQ : Stab Q) (a : Ac) (A : Option Addr) (c : Nat) (ha : a.Fits) (hk : Keep w W.heap.size A a.keep) :
    Calls Try.prog 19 #[.pointer (some ⟨r, 0, none⟩), .agg #[.int .i64 a.d, .int .i64 a.f, .int .i64 a.g, .int .i64 a.n, .string (mk a.s), .slice A a.keep.length c]] w fun e w' => e = .returned (.tuple #[.string (mk (doD a D).1.1), .int .i64 ((doD a D).1.2 : Nat)]) ∧ Par W w' (RHasP r (doD a D).2) Q :=
  h.lift hQ fun F h1 h2 => twin_any r D F a A c w h1 ha hk.row.at_ (fun hne q hq hF => by have := hk.lt hne q hq; have := h2 _ hF; omega) hk.nil
theorem par_rstart (h : Par W w (RHasP r D) Q) (hQ : Stab Q) : Calls Try.prog 25 #[.pointer (some ⟨r, 0, none⟩)] w fun e w' => e = .returned (.tuple #[]) ∧ Par W w' (RHasP r D.start) Q := h.lift hQ fun F h _ => rstart_any r D F w h
theorem par_rread (h : Par W w (RHasP r D) Q) (f : Int) : Calls Try.prog 27 #[.pointer (some ⟨r, 0, none⟩), .int .i64 f] w fun e w' => e = .returned (.tuple #[.string (mk (D.read f).1), .int .i64 ((D.read f).2 : Nat)]) ∧ ∃ j, w' = w.drewN j := by
  obtain ⟨F, G, h1, _⟩ := h
  exact rread_any r D F f w h1
theorem par_rsize (h : Par W w (RHasP r D) Q) (f : Int) : Calls Try.prog 23 #[.pointer (some ⟨r, 0, none⟩), .int .i64 f] w fun e w' => e = .returned (.int .i64 (D.size f : Nat)) ∧ ∃ j, w' = w.drewN j := by
  obtain ⟨F, G, h1, _⟩ := h
  exact rsize_any r D F f w h1
theorem par_rdown (h : Par W w (RHasP r D) Q) : Calls Try.prog 21 #[.pointer (some ⟨r, 0, none⟩)] w fun e w' => e = .returned (.bool D.down) ∧ w' = w := h.look fun F h => rdown_any r D F w h
theorem par_copy3 (h : Par W w (HasP b D) Q) (hQ : Stab Q) : Calls Try.prog 14 #[.pointer (some ⟨b, 0, none⟩)] w fun e w' => e = .returned (.pointer (some ⟨w.heap.size, 0, none⟩)) ∧ Par W w' (HasP b D) (Both (HasP w.heap.size D) Q) := by
  obtain ⟨F, G, h1, h2, h3, h4, h5, h6⟩ := h
  refine (copy_any b D F w h1).mono fun e w' hh => ⟨hh.1, ?_⟩
  obtain ⟨F', g1, g2⟩ := hh.2.2
  have hb := hh.2.1
  refine ⟨F, fun k => F' k ∨ G k, h1.below hb (Nat.le_refl _), ⟨F', G, g1, hQ.kept _ _ G (fun _ => False) h2 (Fr.of_below hb (Nat.le_refl _)) (fun _ _ hh => hh), fun k hf hg => by have := hQ.lt _ _ h2 k hg; have := g2 k hf; omega, fun _ h => .inl h, fun _ h => .inr h, fun _ h => h⟩, fun k hf hg => ?_, h4, fun k hk => ?_, h6.trans (hb.mono h6.size)⟩
  · rcases hg with hg | hg
    · have := h1.lt k hf; have := g2 k hg; omega
    · exact h3 k hf hg
  · rcases hk with hk | hk
    · exact Nat.le_trans h6.size (g2 k hk)
    · exact h5 k hk
theorem par_rcopy (h : Par W w (HasP b D) (RHasP r E)) : Calls Try.prog 17 #[.pointer (some ⟨r, 0, none⟩)] w fun e w' => ∃ r', e = .returned (.pointer (some ⟨r', 0, none⟩)) ∧ Par W w' (HasP b D) (RHasP r' E) := by
  obtain ⟨F, G, h1, h2, h3, h4, h5, h6⟩ := h
  refine (rcopy_any r E G w h2).mono fun e w' hh => ?_
  obtain ⟨r', e1, hb, F', g1, g2⟩ := hh
  exact ⟨r', e1, F, F', h1.below hb (Nat.le_refl _), g1, fun k hf hg => by have := h1.lt k hf; have := g2 k hg; omega, h4, fun k hk => Nat.le_trans h6.size (g2 k hk), h6.trans (hb.mono h6.size)⟩
end
section
variable {W w : World} {b r : Nat} {D E : Dk} {Q : World → (Nat → Prop) → Prop}
theorem par_dox (h : Par W w (HasP b D) Q) (hQ : Stab Q) (a : Ac) (A : Option Addr) (c : Nat) (ha : a.Fits) (hk : Keep w W.heap.size A a.keep) {x : (List UInt8 × Nat) × Dk} (hx : doD a D = x) :
    Calls Try.prog 18 #[.pointer (some ⟨b, 0, none⟩), .agg #[.int .i64 a.d, .int .i64 a.f, .int .i64 a.g, .int .i64 a.n, .string (mk a.s), .slice A a.keep.length c]] w fun e w' => e = .returned (.tuple #[.string (mk x.1.1), .int .i64 (x.1.2 : Nat)]) ∧ Par W w' (HasP b x.2) Q := by
  subst hx
  exact par_do h hQ a A c ha hk
theorem par_twinx (h : Par W w (RHasP r D) Q) (hQ : Stab Q) (a : Ac) (A : Option Addr) (c : Nat) (ha : a.Fits) (hk : Keep w W.heap.size A a.keep) {x : (List UInt8 × Nat) × Dk} (hx : doD a D = x) :
    Calls Try.prog 19 #[.pointer (some ⟨r, 0, none⟩), .agg #[.int .i64 a.d, .int .i64 a.f, .int .i64 a.g, .int .i64 a.n, .string (mk a.s), .slice A a.keep.length c]] w fun e w' => e = .returned (.tuple #[.string (mk x.1.1), .int .i64 (x.1.2 : Nat)]) ∧ Par W w' (RHasP r x.2) Q := by
  subst hx
  exact par_twin h hQ a A c ha hk
theorem par_app3 (h : Par W w (HasP b D) Q) (hQ : Stab Q) : Calls Try.prog 15 #[.pointer (some ⟨b, 0, none⟩), .int .i64 0, .string ⟨#[103, 111, 110, 101]⟩] w fun e w' => ∃ n : Nat, ∃ D', e = .returned (.int .i64 (n : Int)) ∧ Par W w' (HasP b D') Q :=
  (par_app h hQ 0 ⟨#[103, 111, 110, 101]⟩).mono fun _ _ hh => ⟨_, _, hh.1, hh.2⟩
end
set_option maxRecDepth 100000 in
set_option maxHeartbeats 8000000 in
theorem tells_walk (A : Option Addr) (c : Nat) (l : List Ac) (W : World) (h : Acts W W.heap.size A l) (hf : ∀ a ∈ l, a.Fits) (hl : l.length < 4611686018427387904) :
    Calls Try.prog 3 #[.slice A l.length c] W fun e w' => e = .returned (.bool true) ∧ Below W.heap.size W w' := by
  have HA0 : Hid (Acts W W.heap.size A l) := Lib.hid h
  have HF := Lib.hid hf
  have HFEW : Hid (∀ w, Below W.heap.size W w → Calls Try.prog 11 #[.slice A l.length c] w fun e w' => e = .returned (.bool (fewD l)) ∧ Below w.heap.size w w') := Lib.hid (fun w hb => few_any A c l w ((h.below hb).top hb.size) hf hl)
  clear h hf
  cases hfew : fewD l
  · rw [hfew] at HFEW
    go_enter Try.func3, Try.ntmps3
    go_wp2_with (first
      | (go_at_call 11; refine (HFEW.out _ H0.out.below).mono ?_; rintro e v3 ⟨rfl, h⟩; have H1 := Lib.hid (H0.out.kept h); clear h)
      | (go_at_call 10; have X := HB; clear X; refine (new_own W v1 HB.out).mono ?_; rintro e v2 ⟨rfl, h⟩; have H0 := Lib.hid h; clear h)
      | (go_at_call 9; refine (small_any _).mono ?_; rintro e v1 ⟨rfl, h⟩; have HB := Lib.hid h; clear h))
    go_ret
    exact ⟨rfl, H1.out.below⟩
  · rw [hfew] at HFEW
    go_enter Try.func3, Try.ntmps3
    go_wp2_with (first
      | (go_at_call 12; refine (par_rnew H1.out).mono ?_; rintro e v4 ⟨rfl, h⟩; have P0 := Lib.hid h; clear h)
      | (go_at_call 11; refine (HFEW.out _ H0.out.below).mono ?_; rintro e v3 ⟨rfl, h⟩; have H1 := Lib.hid (H0.out.kept h); clear h)
      | (go_at_call 10; have X := HB; clear X; refine (new_own W v1 HB.out).mono ?_; rintro e v2 ⟨rfl, h⟩; have H0 := Lib.hid h; clear h)
      | (go_at_call 9; refine (small_any _).mono ?_; rintro e v1 ⟨rfl, h⟩; have HB := Lib.hid h; clear h))
    go_loopw [4, 5, 6] (fun dv xv i wr => ∃ (k : Nat) (D : Dk) (b r : Nat), k ≤ l.length ∧ dv = .pointer (some ⟨b, 0, none⟩) ∧ xv = .pointer (some ⟨r, 0, none⟩) ∧ i = .int .i64 (k : Int) ∧ Par W wr (HasP b D) (RHasP r D)) (fun _ _ i _ => l.length - (intOf i).toNat)
    case atStart => exact ⟨0, Dk.new, _, _, by omega, rfl, rfl, rfl, P0.out⟩
    case round =>
      obtain ⟨k, D, b, r, hk, rfl, rfl, rfl, hP⟩ := hrel
      have P1 := Lib.hid hP
      have hb := hP.below
      clear hP
      by_cases hlt : k < l.length
      · have j1 : decide ((k : Int) < (l.length : Int)) = true := by simp; omega
        have j2 : (k : Int) < (l.length : Int) := by omega
        have W1 : IntKind.i64.wrap ((k : Int) + 1) = (k : Int) + 1 := IntWalk.i64_in _ (by omega)
        obtain ⟨t, ht⟩ : ∃ t, t = l[k] := ⟨_, rfl⟩
        have hat0 := HA0.out k t (by rw [List.getElem?_eq_getElem hlt, ht])
        obtain ⟨p, hAp, _⟩ := hat0
        subst hAp
        have HT : Hid (∀ w, Below W.heap.size W w → At w W.heap.size (p.add (k * 6)) t) := Lib.hid (fun w hb => by
          obtain ⟨p', e, hh⟩ := HA0.out k t (by rw [List.getElem?_eq_getElem hlt, ht])
          cases e
          exact hh.below hb)
        have HFT : Hid t.Fits := Lib.hid (HF.out t (by rw [ht]; exact List.getElem_mem _))
        obtain ⟨hPp, KA, cK, g0, g1, g2, g3, g4, g5, gk⟩ := HT.out _ hb
        have GA := Lib.hid gk
        clear ht gk hPp
        have PK := fun W => pick_any t.d W
        by_cases h9 : t.d % 11 = 9
        · rw [h9] at PK
          obtain ⟨x, hx⟩ : ∃ x, x = doD t D := ⟨_, rfl⟩
          have HX := Lib.hid hx.symm
          clear hx
          go_wp2_with (first
            | (go_at_call 19; have X := P8; clear X; refine (par_twinx P8.out.symm (stab_has _ _) t KB cB HFT.out GB.out HX.out).mono ?_; rintro e z2 ⟨rfl, h⟩; have P9 := Lib.hid h.symm; obtain ⟨-, KC, cC, g0, g1, g2, g3, g4, g5, gk⟩ := HT.out _ P9.out.below; have GC := Lib.hid gk; clear gk; clear h)
            | (go_at_call 18; have X := P6; clear X; refine (par_dox P6.out (stab_rhas _ _) t KD cD HFT.out GD.out HX.out).mono ?_; rintro e z1 ⟨rfl, h⟩; have P8 := Lib.hid h; obtain ⟨-, KB, cB, g0, g1, g2, g3, g4, g5, gk⟩ := HT.out _ P8.out.below; have GB := Lib.hid gk; clear gk; clear h)
            | (go_at_call 17; have X := P5; clear X; refine (par_rcopy P5.out).mono ?_; rintro e u4 ⟨r2, rfl, h⟩; have P6 := Lib.hid h; obtain ⟨-, KD, cD, g0, g1, g2, g3, g4, g5, gk⟩ := HT.out _ P6.out.below; have GD := Lib.hid gk; clear gk; clear h)
            | (go_at_call 16; have X := P3; clear X; refine (par_fall0 P3.out (stab_both (stab_has _ _) (stab_rhas _ _))).mono ?_; rintro e u3 ⟨rfl, h⟩; have P5 := Lib.hid h.drop; clear h)
            | (go_at_call 15; have X := P2; clear X; refine (par_app3 P2.out (stab_both (stab_has _ _) (stab_rhas _ _))).mono ?_; rintro e u2 ⟨n9, D9, rfl, h⟩; have P3 := Lib.hid h; clear h)
            | (go_at_call 14; refine (par_copy3 P1.out (stab_rhas _ _)).mono ?_; rintro e u1 ⟨rfl, h⟩; have P2 := Lib.hid h; clear h)
            | (go_at_call 13; refine (PK _).mono ?_; rintro e u0 ⟨rfl, rfl⟩))
          have QD := Lib.hid (fun j => par_down (P9.out.drew (stab_has _ _) (stab_rhas _ _) j))
          have QE := Lib.hid (fun j => par_rdown (P9.out.drew (stab_has _ _) (stab_rhas _ _) j).symm)
          have QS := Lib.hid (fun j => par_size (P9.out.drew (stab_has _ _) (stab_rhas _ _) j) t.f)
          have QT := Lib.hid (fun j => par_rsize (P9.out.drew (stab_has _ _) (stab_rhas _ _) j).symm t.f)
          go_quiet (first | (go_at_call 20; exact Calls.quiet_of_same (QD.out _)) | (go_at_call 21; exact Calls.quiet_of_same (QE.out _)) | (go_at_call 22; exact Calls.quiet_of_same (QS.out _)) | (go_at_call 23; exact Calls.quiet_of (QT.out _)))
          go_wp2
          go_roundw
          case rel => exact ⟨k + 1, x.2, _, _, by omega, rfl, rfl, by go_num, P9.out.drew (stab_has _ _) (stab_rhas _ _) _⟩
          case measure => simp [intOf]; omega
        · have e9 : (t.d % 11 == 9) = false := by simpa using h9
          obtain ⟨x, hx⟩ : ∃ x, x = doD t D := ⟨_, rfl⟩
          have HX := Lib.hid hx.symm
          clear hx
          go_wp2_with (first
            | (go_at_call 19; have X := P8; clear X; refine (par_twinx P8.out.symm (stab_has _ _) t KB cB HFT.out GB.out HX.out).mono ?_; rintro e z2 ⟨rfl, h⟩; have P9 := Lib.hid h.symm; obtain ⟨-, KC, cC, g0, g1, g2, g3, g4, g5, gk⟩ := HT.out _ P9.out.below; have GC := Lib.hid gk; clear gk; clear h)
            | (go_at_call 18; have X := P1; clear X; refine (par_dox P1.out (stab_rhas _ _) t KA cK HFT.out GA.out HX.out).mono ?_; rintro e z1 ⟨rfl, h⟩; have P8 := Lib.hid h; obtain ⟨-, KB, cB, g0, g1, g2, g3, g4, g5, gk⟩ := HT.out _ P8.out.below; have GB := Lib.hid gk; clear gk; clear h)
            | (go_at_call 13; refine (PK _).mono ?_; rintro e u0 ⟨rfl, rfl⟩))
          have QD := Lib.hid (fun j => par_down (P9.out.drew (stab_has _ _) (stab_rhas _ _) j))
          have QE := Lib.hid (fun j => par_rdown (P9.out.drew (stab_has _ _) (stab_rhas _ _) j).symm)
          have QS := Lib.hid (fun j => par_size (P9.out.drew (stab_has _ _) (stab_rhas _ _) j) t.f)
          have QT := Lib.hid (fun j => par_rsize (P9.out.drew (stab_has _ _) (stab_rhas _ _) j).symm t.f)
          go_quiet (first | (go_at_call 20; exact Calls.quiet_of_same (QD.out _)) | (go_at_call 21; exact Calls.quiet_of_same (QE.out _)) | (go_at_call 22; exact Calls.quiet_of_same (QS.out _)) | (go_at_call 23; exact Calls.quiet_of (QT.out _)))
          go_wp2
          go_roundw
          case rel => exact ⟨k + 1, x.2, _, _, by omega, rfl, rfl, by go_num, P9.out.drew (stab_has _ _) (stab_rhas _ _) _⟩
          case measure => simp [intOf]; omega
      · have j1 : decide ((k : Int) < (l.length : Int)) = false := by simp; omega
        have j2 : decide (k < l.length) = false := by simp; omega
        go_wp2_with (first
          | (go_at_call 25; have X := P2; clear X; refine (par_rstart P2.out.symm (stab_has _ _)).mono ?_; rintro e u2 ⟨rfl, h⟩; have P3 := Lib.hid h.symm; clear h)
          | (go_at_call 24; refine (par_start P1.out (stab_rhas _ _)).mono ?_; rintro e u1 ⟨rfl, h⟩; have P2 := Lib.hid h; clear h))
        obtain ⟨E, hE⟩ : ∃ E, E = D.start := ⟨_, rfl⟩
        have hup : E.down = false := by rw [hE]; rfl
        rw [← hE] at P3
        clear hE
        go_loopw [12] (fun i wz => ∃ q : Nat, q ≤ 8 ∧ i = .int .i64 (q : Int) ∧ Par W wz (HasP b E) (RHasP r E)) (fun i _ => 8 - (intOf i).toNat)
        case atStart => exact ⟨0, by omega, rfl, P3.out⟩
        case round =>
          obtain ⟨q, hq, rfl, hZ⟩ := hrel
          have Z0 := Lib.hid hZ
          clear hZ
          by_cases hq8 : q < 8
          · have m1 : decide ((q : Int) < 8) = true := by simp; omega
            have hr : E.read (q : Int) = (E.all q, 0) := by simp [Dk.read, hup, isF_nat hq8]
            obtain ⟨y, hy⟩ : ∃ y, y = mk (E.all q) := ⟨_, rfl⟩
            have R1 := par_read Z0.out (q : Int)
            have R2 := fun w' (h : Par W w' (HasP b E) (RHasP r E)) => par_rread h.symm (q : Int)
            rw [hr] at R1 R2
            simp only [← hy] at R1 R2
            have R1 := Lib.hid R1
            have R2 := Lib.hid R2
            clear hy hr
            go_wp2_with (first
              | (go_at_call 27; have X := Z1; clear X; refine (R2.out _ Z1.out).mono ?_; rintro e z2 ⟨rfl, hj⟩; have Z2 := Lib.hid (Z1.out.drewE (stab_has _ _) (stab_rhas _ _) hj); clear hj)
              | (go_at_call 26; refine (R1.out).mono ?_; rintro e z1 ⟨rfl, rfl⟩; have Z1 := Z0))
            go_roundw
            case rel => exact ⟨q + 1, by omega, by go_num, Z2.out⟩
            case measure => simp [intOf]; omega
          · have m1 : decide ((q : Int) < 8) = false := by simp; omega
            have m2 : decide (q < 8) = false := by simp; omega
            go_wp2
            go_ret
            exact ⟨rfl, Z0.out.below⟩
end Go.Proofs.Ytokoccffkogamaa
