/-
  DiskDown: the walk.
-/
import Derived.Test.YtokoccffkogamaaPar
namespace Go.Proofs.Ytokoccffkogamaa
open Go.RowKit
theorem Keep.top {w : World} {t1 t2 : Nat} {A : Option Addr} {ks : List Int} (h : Keep w t1 A ks) (ht : t1 ≤ t2) : Keep w t2 A ks :=
  ⟨fun k u hu => by
    obtain ⟨a, h1, h2, h3⟩ := h.row k u hu
    exact ⟨a, h1, Nat.lt_of_lt_of_le h2 ht, h3⟩, h.nil, fun hne a ha => Nat.lt_of_lt_of_le (h.lt hne a ha) ht⟩
theorem At.top {w : World} {t1 t2 : Nat} {P : Addr} {a : Ac} (h : At w t1 P a) (ht : t1 ≤ t2) : At w t2 P a := by
  obtain ⟨h0, A, c, h1, h2, h3, h4, h5, h6, h7⟩ := h
  exact ⟨Nat.lt_of_lt_of_le h0 ht, A, c, h1, h2, h3, h4, h5, h6, h7.top ht⟩
theorem Acts.top {w : World} {t1 t2 : Nat} {A : Option Addr} {l : List Ac} (h : Acts w t1 A l) (ht : t1 ≤ t2) : Acts w t2 A l := fun k t hk => by
  obtain ⟨a, h1, h2⟩ := h k t hk
  exact ⟨a, h1, h2.top ht⟩
/-- The act's whole value is loaded. -/
theorem do_at {W w : World} {b : Nat} {D : Dk} (h : Own W w b D) (a : Ac) (A : Option Addr) (c : Nat) (ha : a.Fits) (hk : Keep w W.heap.size A a.keep) :
    Calls Try.prog 18 #[.pointer (some ⟨b, 0, none⟩), .agg #[.int .i64 a.d, .int .i64 a.f, .int .i64 a.g, .int .i64 a.n, .string (mk a.s), .slice A a.keep.length c]] w fun e w' => e = .returned (.tuple #[.string (mk (doD a D).1.1), .int .i64 ((doD a D).1.2 : Nat)]) ∧ Own W w' b (doD a D).2 := do_own h a A c ha hk
namespace Dk
structure Up (D : Dk) : Prop where
  down : D.down = false
  left : D.left = 0
theorem Up.enter {D : Dk} (h : D.Up) : D.enter = (0, D) := by simp [Dk.enter, h.down, h.left]
theorem Up.app_bad {D : Dk} (h : D.Up) {f : Int} (hf : isF f = false) (s : List UInt8) : D.app f s = (1, D) := by
  have e : D.add f s = (1, D) := by simp [Dk.add, h.down, hf]
  simp [Dk.app, e, h.enter]
theorem Up.flush_bad {D : Dk} (h : D.Up) {f : Int} (hf : isF f = false) : D.flush f = (1, D) := by simp [Dk.flush, h.enter, Dk.flushed, hf]
theorem Up.cut_bad {D : Dk} (h : D.Up) {f : Int} (hf : isF f = false) (n : Int) : D.cut f n = (1, D) := by simp [Dk.cut, h.enter, Dk.cutted, hf]
theorem Up.turn_bad {D : Dk} (h : D.Up) {f : Int} (hf : isF f = false) (g : Int) : D.turn f g = (1, D) := by simp [Dk.turn, h.enter, Dk.turned, hf]
theorem Up.turn_bad2 {D : Dk} (h : D.Up) {f : Int} (hf : isF f = false) (g : Int) : D.turn g f = (1, D) := by simp [Dk.turn, h.enter, Dk.turned, hf]
theorem app_down {D : Dk} (h : D.down = true) (f : Int) (s : List UInt8) : D.app f s = (12, D) := by simp [Dk.app, Dk.add, Dk.enter, h]
theorem flush_down {D : Dk} (h : D.down = true) (f : Int) : D.flush f = (12, D) := by simp [Dk.flush, Dk.enter, h]
theorem cut_down {D : Dk} (h : D.down = true) (f n : Int) : D.cut f n = (12, D) := by simp [Dk.cut, Dk.enter, h]
theorem turn_down {D : Dk} (h : D.down = true) (f g : Int) : D.turn f g = (12, D) := by simp [Dk.turn, Dk.enter, h]
theorem fall_down {D : Dk} (h : D.down = true) (k : Nat → Int) : D.fall k = D := by simp [Dk.fall, h]
theorem read_down {D : Dk} (h : D.down = true) (f : Int) : D.read f = ([], 12) := by simp [Dk.read, h]
end Dk
section
variable {W w : World} {b : Nat} {D : Dk} {Q : World → (Nat → Prop) → Prop}
theorem bad_app (h : Own W w b D) (hu : D.Up) {f : Int} (hf : isF f = false) (s : ByteArray) : Calls Try.prog 15 #[.pointer (some ⟨b, 0, none⟩), .int .i64 f, .string s] w fun e w' => e = .returned (.int .i64 1) ∧ Own W w' b D := by
  have := app_own h f s
  rw [hu.app_bad hf] at this
  exact this
theorem bad_flush (h : Own W w b D) (hu : D.Up) {f : Int} (hf : isF f = false) : Calls Try.prog 30 #[.pointer (some ⟨b, 0, none⟩), .int .i64 f] w fun e w' => e = .returned (.int .i64 1) ∧ Own W w' b D := by
  have := flush_own h f
  rw [hu.flush_bad hf] at this
  exact this
theorem bad_cut (h : Own W w b D) (hu : D.Up) {f : Int} (hf : isF f = false) : Calls Try.prog 31 #[.pointer (some ⟨b, 0, none⟩), .int .i64 f, .int .i64 0] w fun e w' => e = .returned (.int .i64 1) ∧ Own W w' b D := by
  have := cut_own h f 0
  rw [hu.cut_bad hf] at this
  exact this
theorem bad_turn (h : Own W w b D) (hu : D.Up) {f : Int} (hf : isF f = false) : Calls Try.prog 32 #[.pointer (some ⟨b, 0, none⟩), .int .i64 f, .int .i64 1] w fun e w' => e = .returned (.int .i64 1) ∧ Own W w' b D := by
  have := turn_own h f 1
  rw [hu.turn_bad hf] at this
  exact this
theorem bad_turn2 (h : Own W w b D) (hu : D.Up) {f : Int} (hf : isF f = false) : Calls Try.prog 32 #[.pointer (some ⟨b, 0, none⟩), .int .i64 1, .int .i64 f] w fun e w' => e = .returned (.int .i64 1) ∧ Own W w' b D := by
  have := turn_own h 1 f
  rw [hu.turn_bad2 hf] at this
  exact this
theorem bad_size (h : Own W w b D) {f : Int} (hf : isF f = false) : Calls Try.prog 22 #[.pointer (some ⟨b, 0, none⟩), .int .i64 f] w fun e w' => e = .returned (.int .i64 0) ∧ w' = w := by
  have := size_own h f
  rw [show D.size f = 0 by simp [Dk.size, hf]] at this
  exact this
theorem dn_app (h : Par W w (HasP b D) Q) (hQ : Stab Q) (hd : D.down = true) (f : Int) (s : ByteArray) : Calls Try.prog 15 #[.pointer (some ⟨b, 0, none⟩), .int .i64 f, .string s] w fun e w' => e = .returned (.int .i64 12) ∧ Par W w' (HasP b D) Q := by
  have := par_app h hQ f s
  rw [Dk.app_down hd] at this
  exact this
theorem dn_flush (h : Par W w (HasP b D) Q) (hQ : Stab Q) (hd : D.down = true) (f : Int) : Calls Try.prog 30 #[.pointer (some ⟨b, 0, none⟩), .int .i64 f] w fun e w' => e = .returned (.int .i64 12) ∧ Par W w' (HasP b D) Q := by
  have := par_flush h hQ f
  rw [Dk.flush_down hd] at this
  exact this
theorem dn_cut (h : Par W w (HasP b D) Q) (hQ : Stab Q) (hd : D.down = true) (f n : Int) : Calls Try.prog 31 #[.pointer (some ⟨b, 0, none⟩), .int .i64 f, .int .i64 n] w fun e w' => e = .returned (.int .i64 12) ∧ Par W w' (HasP b D) Q := by
  have := par_cut h hQ f n
  rw [Dk.cut_down hd] at this
  exact this
theorem dn_turn (h : Par W w (HasP b D) Q) (hQ : Stab Q) (hd : D.down = true) (f g : Int) : Calls Try.prog 32 #[.pointer (some ⟨b, 0, none⟩), .int .i64 f, .int .i64 g] w fun e w' => e = .returned (.int .i64 12) ∧ Par W w' (HasP b D) Q := by
  have := par_turn h hQ f g
  rw [Dk.turn_down hd] at this
  exact this
theorem dn_fall (h : Par W w (HasP b D) Q) (hP : Stab Q) (hd : D.down = true) : Calls Try.prog 16 #[.pointer (some ⟨b, 0, none⟩), .slice (some ⟨w.heap.size, 0, none⟩) 2 2] (w.alloc (.cells #[.int .i64 1, .int .i64 1] 3)) fun e w' => e = .returned (.tuple #[]) ∧ Par W w' (HasP b D) Q := by
  have := par_fall (h.alloc (stab_has b D) hP (.cells #[.int .i64 1, .int .i64 1] 3)) hP (some ⟨w.heap.size, 0, none⟩) 2 [1, 1] (row_lit w [1, 1])
  rw [Dk.fall_down hd] at this
  exact this
theorem dn_read (h : Par W w (HasP b D) Q) (hd : D.down = true) (f : Int) : Calls Try.prog 26 #[.pointer (some ⟨b, 0, none⟩), .int .i64 f] w fun e w' => e = .returned (.tuple #[.string ⟨#[]⟩, .int .i64 12]) ∧ w' = w := by
  have := par_read h f
  rw [Dk.read_down hd] at this
  exact this
theorem dn_down (h : Par W w (HasP b D) Q) (hd : D.down = true) : Calls Try.prog 20 #[.pointer (some ⟨b, 0, none⟩)] w fun e w' => e = .returned (.bool true) ∧ w' = w := by
  have := par_down h
  rw [hd] at this
  exact this
theorem up_down (h : Par W w (HasP b D) Q) (hd : D.down = false) : Calls Try.prog 20 #[.pointer (some ⟨b, 0, none⟩)] w fun e w' => e = .returned (.bool false) ∧ w' = w := by
  have := par_down h
  rw [hd] at this
  exact this
end
set_option maxRecDepth 100000 in
set_option maxHeartbeats 8000000 in
theorem down_walk (A : Option Addr) (c : Nat) (l : List Ac) (a : Ac) (K : Option Addr) (kc : Nat) (W : World) (h : Acts W W.heap.size A l) (hf : ∀ a ∈ l, a.Fits) (hl : l.length < 4611686018427387904) :
    Calls Try.prog 5 #[.slice A l.length c, .agg #[.int .i64 a.d, .int .i64 a.f, .int .i64 a.g, .int .i64 a.n, .string (mk a.s), .slice K a.keep.length kc]] W fun e w' => e = .returned (.bool true) ∧ Below W.heap.size W w' := by
  obtain ⟨w0, hw0⟩ : ∃ w0, w0 = W.alloc (.cells #[.int .i64 a.d, .int .i64 a.f, .int .i64 a.g, .int .i64 a.n, .string (mk a.s), .slice K a.keep.length kc] 32) := ⟨_, rfl⟩
  have hb0 : Below W.heap.size W w0 := by rw [hw0]; exact (Below.refl _ _).alloc (Nat.le_refl _) _
  have hs0 : w0.heap.size = W.heap.size + 1 := by rw [hw0]; simp
  have hI : Is w0 W.heap.size 32 #[.int .i64 a.d, .int .i64 a.f, .int .i64 a.g, .int .i64 a.n, .string (mk a.s), .slice K a.keep.length kc] := by rw [hw0]; exact Is.fresh W 32 _
  have CF : Hid (∀ w, Below w0.heap.size w0 w → w.cell? ⟨W.heap.size, 1, none⟩ = some (.int .i64 a.f) ∧ w.cell? ⟨W.heap.size, 2, none⟩ = some (.int .i64 a.g) ∧ w.cell? ⟨W.heap.size, 3, none⟩ = some (.int .i64 a.n) ∧ w.cell? ⟨W.heap.size, 4, none⟩ = some (.string (mk a.s))) := Lib.hid (fun w hb => by
    have hi := hI.below hb (by omega)
    exact ⟨hi.at_ 1, hi.at_ 2, hi.at_ 3, hi.at_ 4⟩)
  have HA0 : Hid (Acts w0 w0.heap.size A l) := Lib.hid ((h.below hb0).top (by omega))
  have HF := Lib.hid hf
  have HS0 : Hid (Calls Try.prog 9 #[] (W.alloc (.cells #[.int .i64 a.d, .int .i64 a.f, .int .i64 a.g, .int .i64 a.n, .string (mk a.s), .slice K a.keep.length kc] 32)) fun e w' => e = .returned (.bool true) ∧ Below w0.heap.size w0 w') := Lib.hid (by
    have := small_any w0
    rw [← hw0]
    exact this)
  have HB0 : Hid (∀ w, Below w0.heap.size w0 w → Below W.heap.size W w) := Lib.hid (fun w hb => hb0.trans (hb.mono (by omega)))
  have HFEW : Hid (∀ w, Below w0.heap.size w0 w → Calls Try.prog 11 #[.slice A l.length c] w fun e w' => e = .returned (.bool (fewD l)) ∧ Below w.heap.size w w') := Lib.hid (fun w hb => few_any A c l w ((HA0.out.below hb).top hb.size) hf hl)
  have s1 : (mk a.s).size = a.s.length := rfl
  clear h hf hb0 hs0 hI hw0
  cases hfew : fewD l
  · rw [hfew] at HFEW
    go_enter Try.func5, Try.ntmps5
    go_wp2_with (first
      | (go_at_call 11; refine (HFEW.out _ H0.out.below).mono ?_; rintro e v3 ⟨rfl, h⟩; have H1 := Lib.hid (H0.out.kept h); clear h)
      | (go_at_call 10; have X := HB; clear X; refine (new_own w0 v1 HB.out).mono ?_; rintro e v2 ⟨rfl, h⟩; have H0 := Lib.hid h; clear h)
      | (go_at_call 9; refine (HS0.out).mono ?_; rintro e v1 ⟨rfl, h⟩; have HB := Lib.hid h; clear h))
    go_ret
    exact ⟨rfl, HB0.out _ H1.out.below⟩
  · rw [hfew] at HFEW
    by_cases hs : a.s.length ≤ 100000
    · have i1 : decide ((100000 : Int) < (a.s.length : Int)) = false := by simp; omega
      have i1' : decide (100000 < a.s.length) = false := by simp; omega
      go_enter Try.func5, Try.ntmps5
      go_wp2_with (first
        | (go_at_call 11; refine (HFEW.out _ H0.out.below).mono ?_; rintro e v3 ⟨rfl, h⟩; have H1 := Lib.hid (H0.out.kept h); obtain ⟨y1, y2, y3, y4⟩ := CF.out _ H1.out.below; clear h)
        | (go_at_call 10; have X := HB; clear X; refine (new_own w0 v1 HB.out).mono ?_; rintro e v2 ⟨rfl, h⟩; have H0 := Lib.hid h; clear h)
        | (go_at_call 9; refine (HS0.out).mono ?_; rintro e v1 ⟨rfl, h⟩; have HB := Lib.hid h; clear h))
      clear y1 y2 y3 y4
      go_loopw [7] (fun i wr => ∃ (k : Nat) (D : Dk), k ≤ l.length ∧ i = .int .i64 (k : Int) ∧ Own w0 wr v1.heap.size D) (fun i _ => l.length - (intOf i).toNat)
      case atStart => exact ⟨0, Dk.new, by omega, rfl, H1.out⟩
      case round =>
        obtain ⟨k, D, hk, rfl, hO⟩ := hrel
        have HO := Lib.hid hO
        have hb := hO.below
        clear hO
        by_cases hlt : k < l.length
        · have j1 : decide ((k : Int) < (l.length : Int)) = true := by simp; omega
          have j2 : (k : Int) < (l.length : Int) := by omega
          have W1 : IntKind.i64.wrap ((k : Int) + 1) = (k : Int) + 1 := IntWalk.i64_in _ (by omega)
          obtain ⟨t, ht⟩ : ∃ t, t = l[k] := ⟨_, rfl⟩
          obtain ⟨p, rfl, hat⟩ := HA0.out k t (by rw [List.getElem?_eq_getElem hlt, ht])
          obtain ⟨hP, KA, cK, g0, g1, g2, g3, g4, g5, gk⟩ := hat.below hb
          have C := Lib.hid (do_at HO.out t KA cK (HF.out t (by rw [ht]; exact List.getElem_mem _)) gk)
          clear hat gk ht hb hP
          go_wp2_with (first
            | (go_at_call 18; go_must (refine (C.out).mono ?_); rintro e u1 ⟨rfl, h⟩; have H9 := Lib.hid h; clear h))
          go_roundw
          case rel => exact ⟨k + 1, _, by omega, by go_num, H9.out⟩
          case measure => simp [intOf]; omega
        · have j1 : decide ((k : Int) < (l.length : Int)) = false := by simp; omega
          have j2 : decide (k < l.length) = false := by simp; omega
          obtain ⟨y1, y2, y3, y4⟩ := CF.out _ hb
          have hup : ((D.arm 0 (kf [])).start).Up := ⟨rfl, rfl⟩
          obtain ⟨D2, hD2⟩ : ∃ D2, D2 = (D.arm 0 (kf [])).start := ⟨_, rfl⟩
          rw [← hD2] at hup
          have hdn : (D2.fall (kf [])).down = true := by simp [Dk.fall, hup.down, Dk.crash]
          obtain ⟨E, hE⟩ : ∃ E, E = D2.fall (kf []) := ⟨_, rfl⟩
          rw [← hE] at hdn
          have HUP := Lib.hid hup
          have HDN := Lib.hid hdn
          have HQ1 : Hid (∀ w, Own w0 w v1.heap.size (D.arm 0 (kf [])) → Calls Try.prog 24 #[.pointer (some ⟨v1.heap.size, 0, none⟩)] w fun e w' => e = .returned (.tuple #[]) ∧ Own w0 w' v1.heap.size D2) := Lib.hid (fun w h => by rw [hD2]; exact start_own h)
          have HQ2 : Hid (∀ w, Own w0 w v1.heap.size D2 → Calls Try.prog 16 #[.pointer (some ⟨v1.heap.size, 0, none⟩), .slice none 0 0] w fun e w' => e = .returned (.tuple #[]) ∧ Own w0 w' v1.heap.size E) := Lib.hid (fun w h => by rw [hE]; exact fall0_own h)
          clear hup hdn hD2 hE hb
          cases hf : isF a.f
          · rcases (isF_not a.f).1 hf with h9 | h9
            · have m1 : decide (a.f < 0) = true := by simp; omega
              go_wp2_with (first
                | (go_at_call 24; have X := P9; clear X; refine (par_start P9.out (stab_has _ _)).mono ?_; rintro e u19 ⟨rfl, h⟩; have P10 := Lib.hid h; obtain ⟨y1, y2, y3, y4⟩ := CF.out _ P10.out.below; clear h)
                | (go_at_call 20; have X := P8; clear X; refine (dn_down P8.out HDN.out).mono ?_; rintro e u18 ⟨rfl, hq⟩; have P9 := Lib.hid (hq ▸ P8.out); obtain ⟨y1, y2, y3, y4⟩ := CF.out _ P9.out.below; clear hq)
                | (go_at_call 32; have X := P7; clear X; refine (dn_turn P7.out (stab_has _ _) HDN.out a.f a.g).mono ?_; rintro e u17 ⟨rfl, h⟩; have P8 := Lib.hid h; obtain ⟨y1, y2, y3, y4⟩ := CF.out _ P8.out.below; clear h)
                | (go_at_call 31; have X := P6; clear X; refine (dn_cut P6.out (stab_has _ _) HDN.out a.f a.n).mono ?_; rintro e u16 ⟨rfl, h⟩; have P7 := Lib.hid h; obtain ⟨y1, y2, y3, y4⟩ := CF.out _ P7.out.below; clear h)
                | (go_at_call 30; have X := P5; clear X; refine (dn_flush P5.out (stab_has _ _) HDN.out a.f).mono ?_; rintro e u15 ⟨rfl, h⟩; have P6 := Lib.hid h; obtain ⟨y1, y2, y3, y4⟩ := CF.out _ P6.out.below; clear h)
                | (go_at_call 15; have X := P4; clear X; refine (dn_app P4.out (stab_has _ _) HDN.out a.f (mk a.s)).mono ?_; rintro e u14 ⟨rfl, h⟩; have P5 := Lib.hid h; obtain ⟨y1, y2, y3, y4⟩ := CF.out _ P5.out.below; clear h)
                | (go_at_call 16; have X := P3; clear X; refine (dn_fall P3.out (stab_has _ _) HDN.out).mono ?_; rintro e u13 ⟨rfl, h⟩; have P4 := Lib.hid h; obtain ⟨y1, y2, y3, y4⟩ := CF.out _ P4.out.below; clear h)
                | (go_at_call 26; have X := P2; clear X; refine (dn_read P2.out HDN.out a.f).mono ?_; rintro e u12 ⟨rfl, hq⟩; have P3 := Lib.hid (hq ▸ P2.out); obtain ⟨y1, y2, y3, y4⟩ := CF.out _ P3.out.below; clear hq)
                | (go_at_call 24; have X := P1; clear X; refine (par_start P1.out.symm (stab_has _ _)).mono ?_; rintro e u11 ⟨rfl, h⟩; have P2 := Lib.hid h.symm; obtain ⟨y1, y2, y3, y4⟩ := CF.out _ P2.out.below; clear h)
                | (go_at_call 14; have X := A9; clear X; refine (two_copy A9.out).mono ?_; rintro e u10 ⟨rfl, h⟩; have P1 := Lib.hid h; obtain ⟨y1, y2, y3, y4⟩ := CF.out _ P1.out.below; clear h)
                | (go_at_call 16; have X := A8; clear X; refine (HQ2.out _ A8.out).mono ?_; rintro e u9 ⟨rfl, h⟩; have A9 := Lib.hid h; obtain ⟨y1, y2, y3, y4⟩ := CF.out _ A9.out.below; clear h)
                | (go_at_call 22; have X := A7; clear X; refine (bad_size A7.out hf).mono ?_; rintro e u8 ⟨rfl, hq⟩; have A8 := Lib.hid (hq ▸ A7.out); obtain ⟨y1, y2, y3, y4⟩ := CF.out _ A8.out.below; clear hq)
                | (go_at_call 32; have X := A6; clear X; refine (bad_turn2 A6.out HUP.out hf).mono ?_; rintro e u7 ⟨rfl, h⟩; have A7 := Lib.hid h; obtain ⟨y1, y2, y3, y4⟩ := CF.out _ A7.out.below; clear h)
                | (go_at_call 32; have X := A5; clear X; refine (bad_turn A5.out HUP.out hf).mono ?_; rintro e u6 ⟨rfl, h⟩; have A6 := Lib.hid h; obtain ⟨y1, y2, y3, y4⟩ := CF.out _ A6.out.below; clear h)
                | (go_at_call 31; have X := A4; clear X; refine (bad_cut A4.out HUP.out hf).mono ?_; rintro e u5 ⟨rfl, h⟩; have A5 := Lib.hid h; obtain ⟨y1, y2, y3, y4⟩ := CF.out _ A5.out.below; clear h)
                | (go_at_call 30; have X := A3; clear X; refine (bad_flush A3.out HUP.out hf).mono ?_; rintro e u4 ⟨rfl, h⟩; have A4 := Lib.hid h; obtain ⟨y1, y2, y3, y4⟩ := CF.out _ A4.out.below; clear h)
                | (go_at_call 15; have X := A2; clear X; refine (bad_app A2.out HUP.out hf (mk a.s)).mono ?_; rintro e u3 ⟨rfl, h⟩; have A3 := Lib.hid h; obtain ⟨y1, y2, y3, y4⟩ := CF.out _ A3.out.below; clear h)
                | (go_at_call 24; have X := A1; clear X; refine (HQ1.out _ A1.out).mono ?_; rintro e u2 ⟨rfl, h⟩; have A2 := Lib.hid h; obtain ⟨y1, y2, y3, y4⟩ := CF.out _ A2.out.below; clear h)
                | (go_at_call 29; have X := HO; clear X; refine (arm0_own HO.out 0 (by decide)).mono ?_; rintro e u1 ⟨rfl, h⟩; have A1 := Lib.hid h; obtain ⟨y1, y2, y3, y4⟩ := CF.out _ A1.out.below; clear h))
              clear y1 y2 y3 y4
              go_loopw [11] (fun i wz => ∃ k : Nat, k ≤ 8 ∧ i = .int .i64 (k : Int) ∧ Par w0 wz (HasP v1.heap.size E.start) (HasP u9.heap.size E.start)) (fun i _ => 8 - (intOf i).toNat)
              case atStart => exact ⟨0, by omega, rfl, P10.out⟩
              case round =>
                obtain ⟨q, hq, rfl, hZ⟩ := hrel
                have Z0 := Lib.hid hZ
                clear hZ
                by_cases hq8 : q < 8
                · have m1 : decide ((q : Int) < 8) = true := by simp; omega
                  obtain ⟨x, hx⟩ : ∃ x, x = mk (E.start.read (q : Int)).1 := ⟨_, rfl⟩
                  have R1 := par_read Z0.out (q : Int)
                  have R2 := par_read Z0.out.symm (q : Int)
                  rw [← hx] at R1 R2
                  have R1 := Lib.hid R1
                  have R2 := Lib.hid R2
                  clear hx
                  go_wp2_with (first
                    | (go_at_call 26; have X := Z1; clear X; refine (R2.out).mono ?_; rintro e z2 ⟨rfl, hq⟩; have Z2 := Lib.hid (hq ▸ Z1.out); clear hq)
                    | (go_at_call 26; refine (R1.out).mono ?_; rintro e z1 ⟨rfl, rfl⟩; have Z1 := Z0))
                  go_roundw
                  case rel => exact ⟨q + 1, by omega, by go_num, Z2.out⟩
                  case measure => simp [intOf]; omega
                · have m1 : decide ((q : Int) < 8) = false := by simp; omega
                  have m2 : decide (q < 8) = false := by simp; omega
                  go_wp2_with (first
                    | (go_at_call 20; refine (up_down Z0.out rfl).mono ?_; rintro e z1 ⟨rfl, hq⟩; have Z1 := Lib.hid (hq ▸ Z0.out); clear hq))
                  go_ret
                  exact ⟨rfl, HB0.out _ Z1.out.below⟩
            · have m1 : decide (a.f < 0) = false := by simp; omega
              have m2 : decide (7 < a.f) = true := by simp; omega
              go_wp2_with (first
                | (go_at_call 24; have X := P9; clear X; refine (par_start P9.out (stab_has _ _)).mono ?_; rintro e u19 ⟨rfl, h⟩; have P10 := Lib.hid h; obtain ⟨y1, y2, y3, y4⟩ := CF.out _ P10.out.below; clear h)
                | (go_at_call 20; have X := P8; clear X; refine (dn_down P8.out HDN.out).mono ?_; rintro e u18 ⟨rfl, hq⟩; have P9 := Lib.hid (hq ▸ P8.out); obtain ⟨y1, y2, y3, y4⟩ := CF.out _ P9.out.below; clear hq)
                | (go_at_call 32; have X := P7; clear X; refine (dn_turn P7.out (stab_has _ _) HDN.out a.f a.g).mono ?_; rintro e u17 ⟨rfl, h⟩; have P8 := Lib.hid h; obtain ⟨y1, y2, y3, y4⟩ := CF.out _ P8.out.below; clear h)
                | (go_at_call 31; have X := P6; clear X; refine (dn_cut P6.out (stab_has _ _) HDN.out a.f a.n).mono ?_; rintro e u16 ⟨rfl, h⟩; have P7 := Lib.hid h; obtain ⟨y1, y2, y3, y4⟩ := CF.out _ P7.out.below; clear h)
                | (go_at_call 30; have X := P5; clear X; refine (dn_flush P5.out (stab_has _ _) HDN.out a.f).mono ?_; rintro e u15 ⟨rfl, h⟩; have P6 := Lib.hid h; obtain ⟨y1, y2, y3, y4⟩ := CF.out _ P6.out.below; clear h)
                | (go_at_call 15; have X := P4; clear X; refine (dn_app P4.out (stab_has _ _) HDN.out a.f (mk a.s)).mono ?_; rintro e u14 ⟨rfl, h⟩; have P5 := Lib.hid h; obtain ⟨y1, y2, y3, y4⟩ := CF.out _ P5.out.below; clear h)
                | (go_at_call 16; have X := P3; clear X; refine (dn_fall P3.out (stab_has _ _) HDN.out).mono ?_; rintro e u13 ⟨rfl, h⟩; have P4 := Lib.hid h; obtain ⟨y1, y2, y3, y4⟩ := CF.out _ P4.out.below; clear h)
                | (go_at_call 26; have X := P2; clear X; refine (dn_read P2.out HDN.out a.f).mono ?_; rintro e u12 ⟨rfl, hq⟩; have P3 := Lib.hid (hq ▸ P2.out); obtain ⟨y1, y2, y3, y4⟩ := CF.out _ P3.out.below; clear hq)
                | (go_at_call 24; have X := P1; clear X; refine (par_start P1.out.symm (stab_has _ _)).mono ?_; rintro e u11 ⟨rfl, h⟩; have P2 := Lib.hid h.symm; obtain ⟨y1, y2, y3, y4⟩ := CF.out _ P2.out.below; clear h)
                | (go_at_call 14; have X := A9; clear X; refine (two_copy A9.out).mono ?_; rintro e u10 ⟨rfl, h⟩; have P1 := Lib.hid h; obtain ⟨y1, y2, y3, y4⟩ := CF.out _ P1.out.below; clear h)
                | (go_at_call 16; have X := A8; clear X; refine (HQ2.out _ A8.out).mono ?_; rintro e u9 ⟨rfl, h⟩; have A9 := Lib.hid h; obtain ⟨y1, y2, y3, y4⟩ := CF.out _ A9.out.below; clear h)
                | (go_at_call 22; have X := A7; clear X; refine (bad_size A7.out hf).mono ?_; rintro e u8 ⟨rfl, hq⟩; have A8 := Lib.hid (hq ▸ A7.out); obtain ⟨y1, y2, y3, y4⟩ := CF.out _ A8.out.below; clear hq)
                | (go_at_call 32; have X := A6; clear X; refine (bad_turn2 A6.out HUP.out hf).mono ?_; rintro e u7 ⟨rfl, h⟩; have A7 := Lib.hid h; obtain ⟨y1, y2, y3, y4⟩ := CF.out _ A7.out.below; clear h)
                | (go_at_call 32; have X := A5; clear X; refine (bad_turn A5.out HUP.out hf).mono ?_; rintro e u6 ⟨rfl, h⟩; have A6 := Lib.hid h; obtain ⟨y1, y2, y3, y4⟩ := CF.out _ A6.out.below; clear h)
                | (go_at_call 31; have X := A4; clear X; refine (bad_cut A4.out HUP.out hf).mono ?_; rintro e u5 ⟨rfl, h⟩; have A5 := Lib.hid h; obtain ⟨y1, y2, y3, y4⟩ := CF.out _ A5.out.below; clear h)
                | (go_at_call 30; have X := A3; clear X; refine (bad_flush A3.out HUP.out hf).mono ?_; rintro e u4 ⟨rfl, h⟩; have A4 := Lib.hid h; obtain ⟨y1, y2, y3, y4⟩ := CF.out _ A4.out.below; clear h)
                | (go_at_call 15; have X := A2; clear X; refine (bad_app A2.out HUP.out hf (mk a.s)).mono ?_; rintro e u3 ⟨rfl, h⟩; have A3 := Lib.hid h; obtain ⟨y1, y2, y3, y4⟩ := CF.out _ A3.out.below; clear h)
                | (go_at_call 24; have X := A1; clear X; refine (HQ1.out _ A1.out).mono ?_; rintro e u2 ⟨rfl, h⟩; have A2 := Lib.hid h; obtain ⟨y1, y2, y3, y4⟩ := CF.out _ A2.out.below; clear h)
                | (go_at_call 29; have X := HO; clear X; refine (arm0_own HO.out 0 (by decide)).mono ?_; rintro e u1 ⟨rfl, h⟩; have A1 := Lib.hid h; obtain ⟨y1, y2, y3, y4⟩ := CF.out _ A1.out.below; clear h))
              clear y1 y2 y3 y4
              go_loopw [11] (fun i wz => ∃ k : Nat, k ≤ 8 ∧ i = .int .i64 (k : Int) ∧ Par w0 wz (HasP v1.heap.size E.start) (HasP u9.heap.size E.start)) (fun i _ => 8 - (intOf i).toNat)
              case atStart => exact ⟨0, by omega, rfl, P10.out⟩
              case round =>
                obtain ⟨q, hq, rfl, hZ⟩ := hrel
                have Z0 := Lib.hid hZ
                clear hZ
                by_cases hq8 : q < 8
                · have m1 : decide ((q : Int) < 8) = true := by simp; omega
                  obtain ⟨x, hx⟩ : ∃ x, x = mk (E.start.read (q : Int)).1 := ⟨_, rfl⟩
                  have R1 := par_read Z0.out (q : Int)
                  have R2 := par_read Z0.out.symm (q : Int)
                  rw [← hx] at R1 R2
                  have R1 := Lib.hid R1
                  have R2 := Lib.hid R2
                  clear hx
                  go_wp2_with (first
                    | (go_at_call 26; have X := Z1; clear X; refine (R2.out).mono ?_; rintro e z2 ⟨rfl, hq⟩; have Z2 := Lib.hid (hq ▸ Z1.out); clear hq)
                    | (go_at_call 26; refine (R1.out).mono ?_; rintro e z1 ⟨rfl, rfl⟩; have Z1 := Z0))
                  go_roundw
                  case rel => exact ⟨q + 1, by omega, by go_num, Z2.out⟩
                  case measure => simp [intOf]; omega
                · have m1 : decide ((q : Int) < 8) = false := by simp; omega
                  have m2 : decide (q < 8) = false := by simp; omega
                  go_wp2_with (first
                    | (go_at_call 20; refine (up_down Z0.out rfl).mono ?_; rintro e z1 ⟨rfl, hq⟩; have Z1 := Lib.hid (hq ▸ Z0.out); clear hq))
                  go_ret
                  exact ⟨rfl, HB0.out _ Z1.out.below⟩
          · have h9 := (isF_iff a.f).1 hf
            have m1 : decide (a.f < 0) = false := by simp; omega
            have m2 : decide (7 < a.f) = false := by simp; omega
            go_wp2_with (first
              | (go_at_call 24; have X := P9; clear X; refine (par_start P9.out (stab_has _ _)).mono ?_; rintro e u19 ⟨rfl, h⟩; have P10 := Lib.hid h; obtain ⟨y1, y2, y3, y4⟩ := CF.out _ P10.out.below; clear h)
              | (go_at_call 20; have X := P8; clear X; refine (dn_down P8.out HDN.out).mono ?_; rintro e u18 ⟨rfl, hq⟩; have P9 := Lib.hid (hq ▸ P8.out); obtain ⟨y1, y2, y3, y4⟩ := CF.out _ P9.out.below; clear hq)
              | (go_at_call 32; have X := P7; clear X; refine (dn_turn P7.out (stab_has _ _) HDN.out a.f a.g).mono ?_; rintro e u17 ⟨rfl, h⟩; have P8 := Lib.hid h; obtain ⟨y1, y2, y3, y4⟩ := CF.out _ P8.out.below; clear h)
              | (go_at_call 31; have X := P6; clear X; refine (dn_cut P6.out (stab_has _ _) HDN.out a.f a.n).mono ?_; rintro e u16 ⟨rfl, h⟩; have P7 := Lib.hid h; obtain ⟨y1, y2, y3, y4⟩ := CF.out _ P7.out.below; clear h)
              | (go_at_call 30; have X := P5; clear X; refine (dn_flush P5.out (stab_has _ _) HDN.out a.f).mono ?_; rintro e u15 ⟨rfl, h⟩; have P6 := Lib.hid h; obtain ⟨y1, y2, y3, y4⟩ := CF.out _ P6.out.below; clear h)
              | (go_at_call 15; have X := P4; clear X; refine (dn_app P4.out (stab_has _ _) HDN.out a.f (mk a.s)).mono ?_; rintro e u14 ⟨rfl, h⟩; have P5 := Lib.hid h; obtain ⟨y1, y2, y3, y4⟩ := CF.out _ P5.out.below; clear h)
              | (go_at_call 16; have X := P3; clear X; refine (dn_fall P3.out (stab_has _ _) HDN.out).mono ?_; rintro e u13 ⟨rfl, h⟩; have P4 := Lib.hid h; obtain ⟨y1, y2, y3, y4⟩ := CF.out _ P4.out.below; clear h)
              | (go_at_call 26; have X := P2; clear X; refine (dn_read P2.out HDN.out a.f).mono ?_; rintro e u12 ⟨rfl, hq⟩; have P3 := Lib.hid (hq ▸ P2.out); obtain ⟨y1, y2, y3, y4⟩ := CF.out _ P3.out.below; clear hq)
              | (go_at_call 24; have X := P1; clear X; refine (par_start P1.out.symm (stab_has _ _)).mono ?_; rintro e u11 ⟨rfl, h⟩; have P2 := Lib.hid h.symm; obtain ⟨y1, y2, y3, y4⟩ := CF.out _ P2.out.below; clear h)
              | (go_at_call 14; have X := A9; clear X; refine (two_copy A9.out).mono ?_; rintro e u10 ⟨rfl, h⟩; have P1 := Lib.hid h; obtain ⟨y1, y2, y3, y4⟩ := CF.out _ P1.out.below; clear h)
              | (go_at_call 16; have X := A2; clear X; refine (HQ2.out _ A2.out).mono ?_; rintro e u9 ⟨rfl, h⟩; have A9 := Lib.hid h; obtain ⟨y1, y2, y3, y4⟩ := CF.out _ A9.out.below; clear h)
              | (go_at_call 24; have X := A1; clear X; refine (HQ1.out _ A1.out).mono ?_; rintro e u2 ⟨rfl, h⟩; have A2 := Lib.hid h; obtain ⟨y1, y2, y3, y4⟩ := CF.out _ A2.out.below; clear h)
              | (go_at_call 29; have X := HO; clear X; refine (arm0_own HO.out 0 (by decide)).mono ?_; rintro e u1 ⟨rfl, h⟩; have A1 := Lib.hid h; obtain ⟨y1, y2, y3, y4⟩ := CF.out _ A1.out.below; clear h))
            clear y1 y2 y3 y4
            go_loopw [11] (fun i wz => ∃ k : Nat, k ≤ 8 ∧ i = .int .i64 (k : Int) ∧ Par w0 wz (HasP v1.heap.size E.start) (HasP u9.heap.size E.start)) (fun i _ => 8 - (intOf i).toNat)
            case atStart => exact ⟨0, by omega, rfl, P10.out⟩
            case round =>
              obtain ⟨q, hq, rfl, hZ⟩ := hrel
              have Z0 := Lib.hid hZ
              clear hZ
              by_cases hq8 : q < 8
              · have m1 : decide ((q : Int) < 8) = true := by simp; omega
                obtain ⟨x, hx⟩ : ∃ x, x = mk (E.start.read (q : Int)).1 := ⟨_, rfl⟩
                have R1 := par_read Z0.out (q : Int)
                have R2 := par_read Z0.out.symm (q : Int)
                rw [← hx] at R1 R2
                have R1 := Lib.hid R1
                have R2 := Lib.hid R2
                clear hx
                go_wp2_with (first
                  | (go_at_call 26; have X := Z1; clear X; refine (R2.out).mono ?_; rintro e z2 ⟨rfl, hq⟩; have Z2 := Lib.hid (hq ▸ Z1.out); clear hq)
                  | (go_at_call 26; refine (R1.out).mono ?_; rintro e z1 ⟨rfl, rfl⟩; have Z1 := Z0))
                go_roundw
                case rel => exact ⟨q + 1, by omega, by go_num, Z2.out⟩
                case measure => simp [intOf]; omega
              · have m1 : decide ((q : Int) < 8) = false := by simp; omega
                have m2 : decide (q < 8) = false := by simp; omega
                go_wp2_with (first
                  | (go_at_call 20; refine (up_down Z0.out rfl).mono ?_; rintro e z1 ⟨rfl, hq⟩; have Z1 := Lib.hid (hq ▸ Z0.out); clear hq))
                go_ret
                exact ⟨rfl, HB0.out _ Z1.out.below⟩
    · have i1 : decide ((100000 : Int) < (a.s.length : Int)) = true := by simp; omega
      have i1' : decide (100000 < a.s.length) = true := by simp; omega
      go_enter Try.func5, Try.ntmps5
      go_wp2_with (first
        | (go_at_call 11; refine (HFEW.out _ H0.out.below).mono ?_; rintro e v3 ⟨rfl, h⟩; have H1 := Lib.hid (H0.out.kept h); obtain ⟨y1, y2, y3, y4⟩ := CF.out _ H1.out.below; clear h)
        | (go_at_call 10; have X := HB; clear X; refine (new_own w0 v1 HB.out).mono ?_; rintro e v2 ⟨rfl, h⟩; have H0 := Lib.hid h; clear h)
        | (go_at_call 9; refine (HS0.out).mono ?_; rintro e v1 ⟨rfl, h⟩; have HB := Lib.hid h; clear h))
      go_ret
      exact ⟨rfl, HB0.out _ H1.out.below⟩
end Go.Proofs.Ytokoccffkogamaa
