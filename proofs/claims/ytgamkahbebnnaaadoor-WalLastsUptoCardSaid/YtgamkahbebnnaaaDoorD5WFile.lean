/-
  The law's helpers file and rows.
-/
import Derived.Test.YtgamkahbebnnaaaDoorD5WSmall
namespace Go.Proofs.YtgamkahbebnnaaaDoor.D5
open Go.RowKit WalPlain
set_option maxRecDepth 40000
theorem sl_own {W w : World} {P Q : World → (Nat → Prop) → Prop} {A : Option Addr} {cap : Nat} {l : List Bs} (h : Par W w P (Both Q (SlP (.slice A l.length cap) l))) : w.ownsRow W.heap.size 9 1 (.slice A l.length cap) l.length (strs l) := by
  obtain ⟨F, G, h1, ⟨G1, G2, g1, g2, g3, g4⟩, k1, k2, k3, k4⟩ := h
  exact own_base g2.1 (fun k hk => k3 k ((g4 k).2 (.inr (g2.2.1 k hk))))
theorem own_later {w W : World} {B cap n : Nat} {A : Option Addr} {l : List Bs} (h : w.ownsRow B 9 1 (.slice A n cap) n (strs l)) (hb : Below w.heap.size w W) : RowAt W A (strs l) :=
  own_at ((Fr.of_below (F := fun _ => False) hb (Nat.le_refl _)).own h (fun _ _ h => h))
theorem own_cap {w : World} {B cap n : Nat} {A : Option Addr} {l : List Bs} (h : w.ownsRow B 9 1 (.slice A n cap) n (strs l)) : n ≤ cap := by
  rcases h.2 with ⟨e, hz⟩ | ⟨g, c, cur, e, h3, h4, h5, h6⟩
  · omega
  · injection e with _ _ e3; omega
theorem Row.up {w W : World} {top : Nat} {A : Option Addr} {us : List Value} (h : Row w top A us) (hb : Below top w W) (hz : top ≤ W.heap.size) : Row W W.heap.size A us := fun k u hk => by
  obtain ⟨a, h1, h2, h3⟩ := h.below hb k u hk
  exact ⟨a, h1, Nat.lt_of_lt_of_le h2 hz, h3⟩
set_option maxHeartbeats 400000 in
theorem file_any (A : Option Addr) (cap : Nat) (l : List Bs) (w : World) (hT : S3.Tabs w) (hr : Row w w.heap.size A (strs l)) (hl : ∀ s ∈ l, small20 s) (hb : (flat rec6 l).length ≤ 16777216) (hlen : l.length ≤ 1000000) :
    Calls Tryd.prog 20 #[.slice A l.length cap] w fun e w' => e = .returned (.tuple #[.string (mk (flat rec6 l)), .bool true]) ∧ Below w.heap.size w w' := by
  have HT := Lib.hid hT
  have HR := Lib.hid hr
  have HL := Lib.hid hl
  have HB := Lib.hid hb
  clear hT hr hl hb
  go_enter Tryd.func20, Tryd.ntmps20
  go_wp2_with (first
    | (go_at_call 10; go_must (refine (st_open_new H1.out stab_non HT.out 0 (by decide) (by decide)).mono ?_); rintro e v2 ⟨c2, D2, rfl, h1, -, h2⟩; have C2 := Lib.hid h1; have H2 := Lib.hid h2; clear h1 h2)
    | (go_at_call 8; go_must (refine (st_new w _ (Below.refl _ _)).mono ?_); rintro e v1 ⟨b, rfl, h⟩; have H1 := Lib.hid h; clear h))
  go_loopw [7] (fun v7 wr => ∃ k : Nat, v7 = .int .i64 (k : Int) ∧ k ≤ l.length ∧ Hid (∃ D, Cl D 0 [] (flat rec6 (l.take k)) ∧ Par w wr (DL b c2 0 D (l.take k)) Non)) (fun v7 _ => l.length - (intOf v7).toNat)
  case atStart => exact ⟨0, rfl, Nat.zero_le _, Lib.hid ⟨D2, C2.out, H2.out⟩⟩
  case round =>
    clear H1 H2 C2
    obtain ⟨k, rfl, hk, HK⟩ := hrel
    by_cases hlt : k < l.length
    · have i1 : decide ((k : Int) < (l.length : Int)) = true := by simp; omega
      have i2 : decide (k < l.length) = true := by simp; omega
      have W1 : IntKind.i64.wrap ((k : Int) + 1) = (k : Int) + 1 := IntWalk.i64_in _ (by omega)
      obtain ⟨s, hs⟩ : ∃ s, s = l[k] := ⟨_, rfl⟩
      obtain ⟨a, rfl, ha, hc⟩ := HR.out k _ (strs_at l k hlt)
      rw [← hs] at hc
      obtain ⟨D, hD, hP⟩ := HK.out
      have hcr : wr.cell? (a.add k) = some (.string (mk s)) := (hP.below.cell (by rw [add_block]; exact ha)).trans hc
      have hsm := HL.out s (by rw [hs]; exact List.getElem_mem hlt)
      have e1 : flat rec6 (l.take (k + 1)) = flat rec6 (l.take k) ++ rec6 s := by
        rw [hs, ← List.take_append_getElem hlt, flat_snoc]
      have e2 : l.take (k + 1) = l.take k ++ [s] := by rw [hs, ← List.take_append_getElem hlt]
      have hpre : (flat rec6 (l.take (k + 1))).length ≤ 16777216 := Nat.le_trans (flat_mono rec6 (List.take_prefix _ _)).length_le HB.out
      have AP : Hid (Calls Tryd.prog 11 #[.pointer (some ⟨c2, 0, none⟩), .string (mk s)] wr fun e w' => e = .returned (.int .i64 0) ∧ ∃ D, Cl D 0 [] (flat rec6 (l.take (k + 1))) ∧ Par w w' (DL b c2 0 D (l.take (k + 1))) Non) := Lib.hid (by
        refine (st_append (f := 0) hP stab_non hD HT.out (by decide) (by decide) s hsm (by rw [List.length_take]; omega) (by rw [e1, List.length_append] at hpre; simp only [List.length_nil]; omega)).mono fun e w' ⟨D', g1, g2, _, g3⟩ => ⟨g1, D', ?_, ?_⟩
        · rw [e1]; exact g2
        · rw [e2]; exact g3)
      clear hs hc hD hP hsm e1 e2 hpre HK
      go_wp2_with (go_at_call 11; refine AP.out.mono ?_; rintro e w3 ⟨rfl, h3⟩; have H3 := Lib.hid h3; clear h3)
      go_roundw
      case rel => exact ⟨k + 1, by go_num, by omega, H3⟩
      case measure => simp [intOf]; omega
    · obtain rfl : k = l.length := by omega
      have i1 : decide ((l.length : Int) < (l.length : Int)) = false := by simp
      have i2 : decide (l.length < l.length) = false := by simp
      have HK2 := HK.out
      rw [List.take_length] at HK2
      obtain ⟨D, hD, hP⟩ := HK2
      have RD : Hid (Calls Tryd.prog 26 #[.pointer (some ⟨b, 0, none⟩), .int .i64 0] wr fun e w' => e = .returned (.tuple #[.string (mk (flat rec6 l)), .int .i64 0]) ∧ wr = w') := Lib.hid (by
        have := dl_read hP 0
        rw [hD.calm.read (by decide) (by decide)] at this
        have e : D.all (0 : Int).toNat = flat rec6 l := by show (D.fs 0).1 ++ (D.fs 0).2 = _; rw [hD.fs]; rfl
        rw [e] at this
        exact this.mono fun e w' hh => ⟨hh.1, hh.2.symm⟩)
      have HP := Lib.hid hP.below
      clear hD hP HK
      go_wp2_with (go_at_call 26; refine RD.out.mono ?_; rintro e w3 ⟨rfl, rfl⟩)
      go_ret2
      exact ⟨rfl, HP.out⟩
set_option maxHeartbeats 400000 in
theorem rows_any (x : Bs) (now : List Bs) (w : World) (hT : S3.Tabs w) (hx : x.length ≤ 16777216) (hv : Valid small20 rec6 x now) :
    Calls Tryd.prog 21 #[.string (mk x)] w fun e w' => ∃ A cap, e = .returned (.tuple #[.slice A now.length cap, .bool true]) ∧ w'.ownsRow w.heap.size 9 1 (.slice A now.length cap) now.length (strs now) ∧ Below w.heap.size w w' := by
  have HT := Lib.hid hT
  have hn : now.length ≤ 16777216 := by
    have := flat_count now
    have := hv.part.length_le
    omega
  have HV := Lib.hid hv
  have AP : Hid (∀ b W, Par w W (HasP b Dk.new) Non → Calls Tryd.prog 24 #[.pointer (some ⟨b, 0, none⟩), .int .i64 0, .string (mk x)] W fun e w' => e = .returned (.int .i64 0) ∧ ∃ D, Cl D 0 [] x ∧ Par w w' (HasP b D) Non) := Lib.hid (fun b W h => by
    have e1 := calm_new.app (show (0 : Int) ≤ 0 by decide) (by decide) (s := x) (by show 0 + x.length ≤ _; omega)
    refine (par_app h stab_non 0 (mk x)).mono fun e w' ⟨g1, g2⟩ => ?_
    have e2 : ls (mk x) = x := rfl
    rw [e2, e1] at g1 g2
    exact ⟨g1, _, ⟨calm_new.set _ _, by simp [Dk.set, upd, Dk.new]⟩, g2⟩)
  have OP : Hid (∀ b D W, Cl D 0 [] x → Par w W (HasP b D) Non → Calls Tryd.prog 10 #[.pointer (some ⟨b, 0, none⟩), .int .i64 0] W fun e w' => ∃ c D', e = .returned (.tuple #[.pointer (some ⟨c, 0, none⟩), .int .i64 0]) ∧ Par w w' (DL b c 0 D' now) Non) := Lib.hid (fun b D W hc h =>
    (st_open (f := 0) h stab_non hc.calm hT (by decide) (by decide) now (by show Valid small20 rec6 ((D.fs 0).1 ++ (D.fs 0).2) now; rw [hc.fs]; exact hv)).mono fun e w' ⟨c, D', g1, _, _, g2⟩ => ⟨c, D', g1, g2⟩)
  clear hT hv hx
  go_enter Tryd.func21, Tryd.ntmps21
  go_wp2_with (first
    | (go_at_call 13; go_must (refine (dl_all H3.out stab_non hn).mono ?_); rintro e v4 ⟨A4, c4, rfl, h⟩; have H4 := Lib.hid h; clear h)
    | (go_at_call 10; go_must (refine (OP.out _ _ _ C2.out H2.out).mono ?_); rintro e v3 ⟨c3, D3, rfl, h⟩; have H3 := Lib.hid h; clear h)
    | (go_at_call 24; go_must (refine (AP.out _ _ H1.out).mono ?_); rintro e v2 ⟨rfl, D2, h1, h2⟩; have C2 := Lib.hid h1; have H2 := Lib.hid h2; clear h1 h2)
    | (go_at_call 8; go_must (refine (st_new w _ (Below.refl _ _)).mono ?_); rintro e v1 ⟨b, rfl, h⟩; have H1 := Lib.hid h; clear h))
  go_ret2
  exact ⟨_, _, rfl, sl_own H4.out, H4.out.below⟩
end Go.Proofs.YtgamkahbebnnaaaDoor.D5
