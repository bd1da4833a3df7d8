/-
  The reference's block.
-/
import Derived.Test.YtdkhinjogomdaaaDoorRefP
import Derived.Deep.RegionHeld3
namespace Go.Proofs.YtdkhinjogomdaaaDoor
open Go.RowKit
/-- Eight words, or so, wherever they lie. -/
def WordsAt (w : World) (g : Nat) (l : List Nat) : Prop := ∀ j, j < l.length → w.cell? ⟨g, j, none⟩ = some (.int .u32 (l.getD j 0 : Nat))
theorem own_cells {w : World} {base g n cap : Nat} {l : List Nat} (h : w.ownsRow base 27 1 (.slice (some ⟨g, 0, none⟩) n cap) n (words l)) : WordsAt w g l := fun j hj => by
  have := h.cells (g := g) rfl j (.int .u32 (l.getD j 0 : Nat)) (by rw [words_at l j hj, getD_in l j hj])
  have e : (⟨g, 0, none⟩ : Addr).add j = ⟨g, j, none⟩ := by unfold Addr.add; split <;> simp_all
  rwa [e] at this
theorem own_empty (w : World) (t : TypeId) : (w.alloc (.cells #[] t)).ownsRow w.heap.size t 1 (.slice (some ⟨w.heap.size, 0, none⟩) 0 0) 0 [] := ⟨rfl, .inr ⟨w.heap.size, 0, #[], rfl, Nat.le_refl _, heap_alloc_new _ _, Nat.le_refl _, Nat.zero_le _, rfl, rfl⟩⟩
theorem news_words {W : World} {g : Nat} {l : List Nat} (h : WordsAt W g l) : ∀ j u, (words l)[j]? = some u → W.cell? ((⟨g, 0, none⟩ : Addr).add j) = some u := fun j u hj => by
  have hjl : j < l.length := by
    by_cases h : j < l.length
    · exact h
    · rw [List.getElem?_eq_none (by rw [words_len]; omega)] at hj; cases hj
  rw [words_at l j hjl] at hj
  have e : (⟨g, 0, none⟩ : Addr).add j = ⟨g, j, none⟩ := by unfold Addr.add; split <;> simp_all
  rw [e, h j hjl, ← hj, getD_in l j hjl]
theorem WordsAt.below {w w' : World} {g B : Nat} {l : List Nat} (h : WordsAt w g l) (hb : Below B w w') (hg : g < B) : WordsAt w' g l := fun j hj => (hb.cell hg).trans (h j hj)
theorem own_eight {W : World} {B : Nat} {l : List Nat} {c : Array Value} (hl : l.length = 8) (hc : c = (words l).toArray) (hB : B ≤ W.heap.size) : (W.alloc (.cells c 27)).ownsRow B 27 1 (.slice (some ⟨W.heap.size, 0, none⟩) 8 8) 8 (words l) :=
  ⟨by rw [words_len, hl], .inr ⟨W.heap.size, 8, c, rfl, hB, heap_alloc_new _ _, Nat.le_refl _, by decide, by rw [hc]; simp [words_len, hl], by rw [hc]; show (words l).take (8 * 1) = words l; exact List.take_of_length_le (by rw [words_len, hl]; decide)⟩⟩
theorem turn_quiet (V : World) (x n m k : Nat) (hx : x < 4294967296) (hn : 0 < n) (h32 : n < 32) :
    Calls Tryd.prog 29 #[.int .u32 x, .int .i64 n] (V.drewN (m + k)) fun e w'' => e = .returned (.int .u32 (Sha.rotr x n : Nat)) ∧ ∃ j, w'' = V.drewN (m + j) :=
  (turn_any x n _ hx hn h32).mono fun e w' ⟨h1, j, h2⟩ => ⟨h1, k + j, by rw [h2, World.drewN_drewN, Nat.add_assoc]⟩
set_option maxHeartbeats 16000000 in
set_option maxRecDepth 100000 in
theorem rblock_any (gh ch gb off cb : Nat) (h0 h1 h2 h3 h4 h5 h6 h7 : Nat) (b : List Nat) (w : World) (hl : b.length = 64) (hb : ∀ k, b.getD k 0 < 256) (hw : BytesAt w gb off b) (hgb : gb < w.heap.size) (hh : WordsAt w gh [h0, h1, h2, h3, h4, h5, h6, h7]) (hgh : gh < w.heap.size)
    (l0 : h0 < 4294967296) (l1 : h1 < 4294967296) (l2 : h2 < 4294967296) (l3 : h3 < 4294967296) (l4 : h4 < 4294967296) (l5 : h5 < 4294967296) (l6 : h6 < 4294967296) (l7 : h7 < 4294967296) :
    Calls Tryd.prog 25 #[.slice (some ⟨gh, 0, none⟩) 8 ch, .slice (some ⟨gb, off, none⟩) 64 cb] w fun e w' => ∃ g cap, e = .returned (.slice (some ⟨g, 0, none⟩) 8 cap) ∧ WordsAt w' g (Sha.block [h0, h1, h2, h3, h4, h5, h6, h7] b) ∧ w.heap.size ≤ g ∧ g < w'.heap.size ∧ Below w.heap.size w w' := by
  obtain ⟨i0, hi, hz0, hz1, hz2⟩ := info_parts info27
  obtain ⟨S, hS⟩ : ∃ S, S = Sha.sched b 48 := ⟨_, rfl⟩
  have SB : Hid (∀ k, S.getD k 0 < 4294967296) := Lib.hid fun k => by rw [hS]; exact sched_lt b hb 48 k
  have SL : Hid (S.length = 64) := Lib.hid (by rw [hS, sched_len])
  have C := Lib.hid (words_any gb off cb b w hl hb hw hgb)
  rw [← hS] at C
  have HS := Lib.hid hS
  have HH := Lib.hid hh
  have HGH := Lib.hid hgh
  have L : Hid (h0 < 4294967296 ∧ h1 < 4294967296 ∧ h2 < 4294967296 ∧ h3 < 4294967296 ∧ h4 < 4294967296 ∧ h5 < 4294967296 ∧ h6 < 4294967296 ∧ h7 < 4294967296) := Lib.hid ⟨l0, l1, l2, l3, l4, l5, l6, l7⟩
  clear hS hh hgh l0 l1 l2 l3 l4 l5 l6 l7 hl hb hw hgb
  go_enter Tryd.func25, Tryd.ntmps25
  go_wp2_with (go_at_call 27; refine C.out.mono ?_; rintro e w1 ⟨v5, rfl, ho5, hb1⟩)
  obtain ⟨g5, cap5, rfl, hg5, hg5l⟩ := ho5.form (by omega)
  have O5 := Lib.hid (own_cells ho5)
  have B1 := Lib.hid hb1
  have G5 := Lib.hid hg5l
  clear ho5 hb1 hg5 hg5l C
  go_wp2_with first
    | (go_at_call 28; refine (adds_any _).mono ?_; rintro e w2 ⟨rfl, hw2⟩
       have HE2 := Lib.hid (own_empty w2 27)
       have hs2 : w2.heap.size = w1.heap.size + 1 := by rw [hw2]; exact Array.size_push _
       have hb2 : Below w1.heap.size w1 w2 := by rw [hw2]; exact (Below.refl _ _).alloc (Nat.le_refl _) _
       have hk : WordsAt w2 w1.heap.size Sha.ks := fun j hj => by rw [hw2, (Is.fresh w1 27 (wd Sha.ks)).at_ j, wd_at _ j hj, getD_in _ j hj]
       have HS2 := Lib.hid hs2
       have B2 := Lib.hid hb2
       have KK := Lib.hid hk
       have HNEW := Lib.hid (news_words (((HH.out.below B1.out HGH.out).below B2.out (by have := B1.out.size; have := HGH.out; omega)).below ((Below.refl w2.heap.size w2).alloc (Nat.le_refl _) (.cells #[] 27)) (by have := B1.out.size; have := HGH.out; omega)))
       clear hw2 hs2 hb2 hk)
    | (at_builtin; refine wpList_append_own _ rfl (.tmp 18) (.tmp 19) 48 rfl w2.heap.size 27 i0 (.int .u32 0) 1 4 Tryd.underlying48 hi hz0 hz1 hz2 rfl (by decide) (.slice (some ⟨w2.heap.size, 0, none⟩) 0 0) 0 [] rfl HE2.out ⟨gh, 0, none⟩ 8 ch (words [h0, h1, h2, h3, h4, h5, h6, h7]) rfl rfl HNEW.out ?c1 ?c3 ?c4 ?c5 ?_)
  case c1 => intro u hu; simp only [words, List.mem_map] at hu; obtain ⟨b, -, rfl⟩ := hu; rfl
  case c3 => simp only [maxLen]; omega
  case c4 => omega
  case c5 => show _ ≤ (w2.heap.push _).size; rw [Array.size_push]; omega
  intro v4 w4 hown4 hgr4 _
  have B4 := Lib.hid (Below.grown ((Below.refl w2.heap.size w2).alloc (Nat.le_refl _) (.cells #[] 27)) hgr4 (by show _ ≤ (w2.heap.push _).size; rw [Array.size_push]; omega) (fun j hj => (HE2.out.lt j hj).1))
  have O4 : Hid (w4.ownsRow w2.heap.size 27 1 v4 8 (words [h0, h1, h2, h3, h4, h5, h6, h7])) := Lib.hid hown4
  have SW : Hid (WordsAt w4 g5 S) := Lib.hid ((O5.out.below B2.out G5.out).below B4.out (by have := HS2.out; have := G5.out; omega))
  have KW : Hid (WordsAt w4 w1.heap.size Sha.ks) := Lib.hid (KK.out.below B4.out (by have := HS2.out; omega))
  have HW : Hid (WordsAt w4 gh [h0, h1, h2, h3, h4, h5, h6, h7]) := Lib.hid (((HH.out.below B1.out HGH.out).below B2.out (by have := B1.out.size; have := HGH.out; omega)).below B4.out (by have := HS2.out; have := B1.out.size; have := HGH.out; omega))
  have BW : Hid (Below w.heap.size w w4) := Lib.hid ((B1.out.trans (B2.out.mono B1.out.size)).trans (B4.out.mono (by have := HS2.out; have := B1.out.size; omega)))
  have GB : Hid (w.heap.size ≤ w2.heap.size) := Lib.hid (by have := HS2.out; have := B1.out.size; omega)
  have GHB : Hid (gh < w2.heap.size) := Lib.hid (by have := HS2.out; have := B1.out.size; have := HGH.out; omega)
  have G5B : Hid (g5 < w2.heap.size) := Lib.hid (by have := HS2.out; have := G5.out; omega)
  have GKB : Hid (w1.heap.size < w2.heap.size) := Lib.hid (by have := HS2.out; omega)
  obtain ⟨gk, hgk⟩ : ∃ g, g = w1.heap.size := ⟨_, rfl⟩
  obtain ⟨B, hB⟩ : ∃ g, g = w2.heap.size := ⟨_, rfl⟩
  rw [← hgk] at KW GKB ⊢
  rw [← hB] at O4 GB GHB G5B GKB ⊢
  clear hown4 hgr4 HE2 HNEW HH B1 B2 B4 KK HS2 O5 G5 hgk hB
  clear w1 w2
  go_wp2
  go_loopw [7, 8] (fun vv i wr => ∃ k a b' c d e f p q : Nat, k ≤ 64 ∧ i = .int .i64 k ∧ wr.ownsRow B 27 1 vv 8 (words [a, b', c, d, e, f, p, q]) ∧ Hid (Sha.rounds S [h0, h1, h2, h3, h4, h5, h6, h7] k = [a, b', c, d, e, f, p, q]) ∧ Below B w4 wr ∧ Hid (a < 4294967296 ∧ b' < 4294967296 ∧ c < 4294967296 ∧ d < 4294967296 ∧ e < 4294967296 ∧ f < 4294967296 ∧ p < 4294967296 ∧ q < 4294967296)) (fun _ i _ => 64 - (intOf i).toNat)
  case atStart => exact ⟨0, h0, h1, h2, h3, h4, h5, h6, h7, by omega, rfl, O4.out, Lib.hid rfl, Below.refl _ _, L⟩
  case round =>
    obtain ⟨k, a, b', c, d, e, f, p, q, hk, rfl, ho, HR, hB, HLT⟩ := hrel
    obtain ⟨gv, capv, rfl, hgv, hgvl⟩ := ho.form (by omega)
    have cv := own_cells ho
    have c0 : wr.cell? ⟨gv, 0, none⟩ = some (.int .u32 (a : Nat)) := cv 0 (show (0 : Nat) < 8 by omega)
    have c1 : wr.cell? ⟨gv, 1, none⟩ = some (.int .u32 (b' : Nat)) := cv 1 (show (1 : Nat) < 8 by omega)
    have c2 : wr.cell? ⟨gv, 2, none⟩ = some (.int .u32 (c : Nat)) := cv 2 (show (2 : Nat) < 8 by omega)
    have c3 : wr.cell? ⟨gv, 3, none⟩ = some (.int .u32 (d : Nat)) := cv 3 (show (3 : Nat) < 8 by omega)
    have c4 : wr.cell? ⟨gv, 4, none⟩ = some (.int .u32 (e : Nat)) := cv 4 (show (4 : Nat) < 8 by omega)
    have c5 : wr.cell? ⟨gv, 5, none⟩ = some (.int .u32 (f : Nat)) := cv 5 (show (5 : Nat) < 8 by omega)
    have c6 : wr.cell? ⟨gv, 6, none⟩ = some (.int .u32 (p : Nat)) := cv 6 (show (6 : Nat) < 8 by omega)
    have c7 : wr.cell? ⟨gv, 7, none⟩ = some (.int .u32 (q : Nat)) := cv 7 (show (7 : Nat) < 8 by omega)
    obtain ⟨la, lb, lc, ld, le, lf, lp, lq⟩ := HLT.out
    have HGV := Lib.hid hgv
    have HGVL := Lib.hid hgvl
    have HB := Lib.hid hB
    have HO := Lib.hid ho
    by_cases hlt : k < 64
    · have i1 : decide ((k : Int) < 64) = true := by simp; omega
      have i2 : (k : Int) < 64 := by omega
      have i3 : (0 : Int) ≤ (k : Int) := by omega
      obtain ⟨A1, hA1⟩ : ∃ x, x = e &&& f := ⟨_, rfl⟩
      obtain ⟨NE, hNE⟩ : ∃ x, x = 4294967295 - e := ⟨_, rfl⟩
      obtain ⟨A2, hA2⟩ : ∃ x, x = NE &&& p := ⟨_, rfl⟩
      obtain ⟨CH, hCH⟩ : ∃ x, x = A1 ^^^ A2 := ⟨_, rfl⟩
      obtain ⟨B1, hB1⟩ : ∃ x, x = a &&& b' := ⟨_, rfl⟩
      obtain ⟨B2, hB2⟩ : ∃ x, x = a &&& c := ⟨_, rfl⟩
      obtain ⟨B3, hB3⟩ : ∃ x, x = B1 ^^^ B2 := ⟨_, rfl⟩
      obtain ⟨B4, hB4⟩ : ∃ x, x = b' &&& c := ⟨_, rfl⟩
      obtain ⟨MJ, hMJ⟩ : ∃ x, x = B3 ^^^ B4 := ⟨_, rfl⟩
      obtain ⟨D1, hD1⟩ : ∃ x, x = Sha.rotr e 6 ^^^ Sha.rotr e 11 := ⟨_, rfl⟩
      obtain ⟨D2, hD2⟩ : ∃ x, x = Sha.rotr a 2 ^^^ Sha.rotr a 13 := ⟨_, rfl⟩
      obtain ⟨M1, hM1⟩ : ∃ x, x = D1 ^^^ Sha.rotr e 25 := ⟨_, rfl⟩
      obtain ⟨M2, hM2⟩ : ∃ x, x = D2 ^^^ Sha.rotr a 22 := ⟨_, rfl⟩
      obtain ⟨K, hK⟩ : ∃ x, x = Sha.ks.getD k 0 := ⟨_, rfl⟩
      obtain ⟨X, hX⟩ : ∃ x, x = S.getD k 0 := ⟨_, rfl⟩
      have lNE : NE < 4294967296 := by omega
      have lA1 : A1 < 4294967296 := by rw [hA1]; exact and_lt32 _ _ le
      have lA2 : A2 < 4294967296 := by rw [hA2]; exact and_lt32 _ _ lNE
      have lB1 : B1 < 4294967296 := by rw [hB1]; exact and_lt32 _ _ la
      have lB2 : B2 < 4294967296 := by rw [hB2]; exact and_lt32 _ _ la
      have lB3 : B3 < 4294967296 := by rw [hB3]; exact xor_lt32 _ _ lB1 lB2
      have lB4 : B4 < 4294967296 := by rw [hB4]; exact and_lt32 _ _ lb
      have lCH : CH < 4294967296 := by rw [hCH]; exact xor_lt32 _ _ lA1 lA2
      have lMJ : MJ < 4294967296 := by rw [hMJ]; exact xor_lt32 _ _ lB3 lB4
      have lD1 : D1 < 4294967296 := by rw [hD1]; exact xor_lt32 _ _ (rotr_lt e 6 le) (rotr_lt e 11 le)
      have lD2 : D2 < 4294967296 := by rw [hD2]; exact xor_lt32 _ _ (rotr_lt a 2 la) (rotr_lt a 13 la)
      have lM1 : M1 < 4294967296 := by rw [hM1]; exact xor_lt32 _ _ lD1 (rotr_lt e 25 le)
      have lM2 : M2 < 4294967296 := by rw [hM2]; exact xor_lt32 _ _ lD2 (rotr_lt a 22 la)
      have lK : K < 4294967296 := by rw [hK]; exact ks_lt k
      have lX : X < 4294967296 := by rw [hX]; exact SB.out k
      have E1 : bits .and .u32 (e : Int) (f : Int) = (A1 : Int) := by rw [u32_and_nat e f le lf, hA1]
      have E2 : bits .xor .u32 IntKind.u32.max (e : Int) = (NE : Int) := by rw [hNE]; exact not_u32 e le
      have E3 : bits .and .u32 (NE : Int) (p : Int) = (A2 : Int) := by rw [u32_and_nat NE p lNE lp, hA2]
      have E4 : bits .xor .u32 (A1 : Int) (A2 : Int) = (CH : Int) := by rw [u32_xor_nat A1 A2 lA1 lA2, hCH]
      have E5 : bits .and .u32 (a : Int) (b' : Int) = (B1 : Int) := by rw [u32_and_nat a b' la lb, hB1]
      have E6 : bits .and .u32 (a : Int) (c : Int) = (B2 : Int) := by rw [u32_and_nat a c la lc, hB2]
      have E7 : bits .xor .u32 (B1 : Int) (B2 : Int) = (B3 : Int) := by rw [u32_xor_nat B1 B2 lB1 lB2, hB3]
      have E8 : bits .and .u32 (b' : Int) (c : Int) = (B4 : Int) := by rw [u32_and_nat b' c lb lc, hB4]
      have E9 : bits .xor .u32 (B3 : Int) (B4 : Int) = (MJ : Int) := by rw [u32_xor_nat B3 B4 lB3 lB4, hMJ]
      have F1 : bits .xor .u32 (Sha.rotr e 6 : Int) (Sha.rotr e 11 : Int) = (D1 : Int) := by rw [u32_xor_nat _ _ (rotr_lt e 6 le) (rotr_lt e 11 le), hD1]
      have F2 : bits .xor .u32 (D1 : Int) (Sha.rotr e 25 : Int) = (M1 : Int) := by rw [u32_xor_nat _ _ lD1 (rotr_lt e 25 le), hM1]
      have F3 : bits .xor .u32 (Sha.rotr a 2 : Int) (Sha.rotr a 13 : Int) = (D2 : Int) := by rw [u32_xor_nat _ _ (rotr_lt a 2 la) (rotr_lt a 13 la), hD2]
      have F4 : bits .xor .u32 (D2 : Int) (Sha.rotr a 22 : Int) = (M2 : Int) := by rw [u32_xor_nat _ _ lD2 (rotr_lt a 22 la), hM2]
      have k1 : wr.cell? ⟨gk, k, none⟩ = some (.int .u32 (K : Nat)) := by rw [hK]; exact (KW.out.below hB GKB.out) k hlt
      have k2 : wr.cell? ⟨g5, k, none⟩ = some (.int .u32 (X : Nat)) := by rw [hX]; exact (SW.out.below hB G5B.out) k (by rw [SL.out]; exact hlt)
      have hch : Sha.ch e f p = CH := by unfold Sha.ch; rw [hCH, hA1, hA2, hNE]; rfl
      have hmj : Sha.mj a b' c = MJ := by unfold Sha.mj; rw [hMJ, hB3, hB1, hB2, hB4]
      have hb1 : Sha.b1 e = M1 := by unfold Sha.b1; rw [hM1, hD1]
      have hb0 : Sha.b0 a = M2 := by unfold Sha.b0; rw [hM2, hD2]
      have hnext : Sha.rounds S [h0, h1, h2, h3, h4, h5, h6, h7] (k + 1) = [((q + M1 + CH + K + X) % 4294967296 + M2 + MJ) % 4294967296, a, b', c, (d + (q + M1 + CH + K + X) % 4294967296) % 4294967296, e, f, p] := by
        rw [Sha.rounds, HR.out, round_eq, hch, hmj, ← hK, ← hX, hb1, hb0]
      have HN := Lib.hid hnext
      have SK : Hid (∀ W', Below (gv + 1) wr W' → (fun w' : World => w'.cell? ⟨gv, 0, none⟩ = some (.int .u32 (a : Nat)) ∧ w'.cell? ⟨gv, 1, none⟩ = some (.int .u32 (b' : Nat)) ∧ w'.cell? ⟨gv, 2, none⟩ = some (.int .u32 (c : Nat)) ∧ w'.cell? ⟨gv, 3, none⟩ = some (.int .u32 (d : Nat)) ∧ w'.cell? ⟨gv, 4, none⟩ = some (.int .u32 (e : Nat)) ∧ w'.cell? ⟨gv, 5, none⟩ = some (.int .u32 (f : Nat)) ∧ w'.cell? ⟨gv, 6, none⟩ = some (.int .u32 (p : Nat)) ∧ w'.cell? ⟨gv, 7, none⟩ = some (.int .u32 (q : Nat))) W') := Lib.hid fun W' h => ⟨(h.cell (Nat.lt_succ_self gv)).trans c0, (h.cell (Nat.lt_succ_self gv)).trans c1, (h.cell (Nat.lt_succ_self gv)).trans c2, (h.cell (Nat.lt_succ_self gv)).trans c3, (h.cell (Nat.lt_succ_self gv)).trans c4, (h.cell (Nat.lt_succ_self gv)).trans c5, (h.cell (Nat.lt_succ_self gv)).trans c6, (h.cell (Nat.lt_succ_self gv)).trans c7⟩
      clear hA1 hNE hA2 hCH hB1 hB2 hB3 hB4 hMJ hD1 hD2 hM1 hM2 hK hX hch hmj hb0 hb1 hnext cv ho hB hgv hgvl
      go_wp2
      go_quiet (first | (go_at_call 29; exact Calls.quiet_of (turn_any _ _ _ (by assumption) (by decide) (by decide))) | (go_at_call 29; exact turn_quiet _ _ _ _ _ (by assumption) (by decide) (by decide)))
      go_wp2
      go_quiet (fail)
      go_wp2
      go_quiet (fail)
      go_wp2
      go_quiet (first | (go_at_call 29; exact Calls.quiet_of (turn_any _ _ _ (by assumption) (by decide) (by decide))) | (go_at_call 29; exact turn_quiet _ _ _ _ _ (by assumption) (by decide) (by decide)))
      go_wp2
      go_quiet (fail)
      go_wp2
      generalize hV : World.drewN _ _ = V
      have hwV : Below (gv + 1) wr V := by rw [← hV]; repeat (first | exact Below.refl _ _ | refine below_drew ?_ _)
      have hBV : Below B w4 V := by rw [← hV]; repeat (first | exact HB.out | refine below_drew ?_ _)
      have HBV := Lib.hid hBV
      have GBV : Hid (B ≤ V.heap.size) := Lib.hid (by have := HGV.out; have := HGVL.out; have := hwV.size; omega)
      have GV1 : Hid (gv + 1 ≤ V.heap.size) := Lib.hid (by have := hwV.size; have := HGVL.out; omega)
      have SV : Hid (∀ W', Below (gv + 1) V W' → (fun w' : World => w'.cell? ⟨gv, 0, none⟩ = some (.int .u32 (a : Nat)) ∧ w'.cell? ⟨gv, 1, none⟩ = some (.int .u32 (b' : Nat)) ∧ w'.cell? ⟨gv, 2, none⟩ = some (.int .u32 (c : Nat)) ∧ w'.cell? ⟨gv, 3, none⟩ = some (.int .u32 (d : Nat)) ∧ w'.cell? ⟨gv, 4, none⟩ = some (.int .u32 (e : Nat)) ∧ w'.cell? ⟨gv, 5, none⟩ = some (.int .u32 (f : Nat)) ∧ w'.cell? ⟨gv, 6, none⟩ = some (.int .u32 (p : Nat)) ∧ w'.cell? ⟨gv, 7, none⟩ = some (.int .u32 (q : Nat))) W') := Lib.hid fun W' h => SK.out W' (hwV.trans h)
      clear hV hwV hBV c0 c1 c2 c3 c4 c5 c6 c7 k1 k2 E1 E2 E3 E4 E5 E6 E7 E8 E9 F1 F2 F3 F4 HO SK
      obtain ⟨c0, c1, c2, c3, c4, c5, c6, c7⟩ := SV.out V (Below.refl _ _)
      go_region_held3 (fun w' : World => w'.cell? ⟨gv, 0, none⟩ = some (.int .u32 (a : Nat)) ∧ w'.cell? ⟨gv, 1, none⟩ = some (.int .u32 (b' : Nat)) ∧ w'.cell? ⟨gv, 2, none⟩ = some (.int .u32 (c : Nat)) ∧ w'.cell? ⟨gv, 3, none⟩ = some (.int .u32 (d : Nat)) ∧ w'.cell? ⟨gv, 4, none⟩ = some (.int .u32 (e : Nat)) ∧ w'.cell? ⟨gv, 5, none⟩ = some (.int .u32 (f : Nat)) ∧ w'.cell? ⟨gv, 6, none⟩ = some (.int .u32 (p : Nat)) ∧ w'.cell? ⟨gv, 7, none⟩ = some (.int .u32 (q : Nat))) (first | exact SV.out _ (Below.refl _ _).drew | exact SV.out _ ((Below.refl _ _).drew.alloc GV1.out _) | exact SV.out _ (((Below.refl _ _).alloc GV1.out _).drew)) (first | fail)
      all_goals go_wp2
      have e1 : ((((q : Int) + M1 + CH + K + X) % 4294967296 + M2) % 4294967296 + MJ) % 4294967296 = ((((q + M1 + CH + K + X) % 4294967296 + M2 + MJ) % 4294967296 : Nat) : Int) := by omega
      have e2 : ((d : Int) + ((q : Int) + M1 + CH + K + X) % 4294967296) % 4294967296 = (((d + (q + M1 + CH + K + X) % 4294967296) % 4294967296 : Nat) : Int) := by omega
      rw [e1, e2]
      refine ⟨⟨k + 1, ((q + M1 + CH + K + X) % 4294967296 + M2 + MJ) % 4294967296, a, b', c, (d + (q + M1 + CH + K + X) % 4294967296) % 4294967296, e, f, p, by omega, by go_num, (own_eight rfl rfl GBV.out).drew, HN, (HBV.out.alloc GBV.out _).drew, Lib.hid ⟨by omega, la, lb, lc, by omega, le, lf, lp⟩⟩, by simp [intOf]; omega⟩
    · have i1 : decide ((k : Int) < 64) = false := by simp; omega
      have HK : Hid (k = 64) := Lib.hid (by omega)
      rcases ho.2 with ⟨hno, -⟩ | ⟨g', cap', cur, hveq, hge, hcell, hn8, hcap, hsz, htake⟩
      · cases hno
      · cases hveq
        have hIc : Is wr gv 27 cur := hcell
        have IC := Lib.hid hIc
        have hcs : 8 ≤ cur.size := by rw [hsz]; omega
        have hcur : ∀ j, j < 8 → cur[j]? = some (.int .u32 (([a, b', c, d, e, f, p, q] : List Nat).getD j 0 : Nat)) := fun j hj => (hIc.at_ j).symm.trans (cv j hj)
        have HCS := Lib.hid hcs
        have HCUR := Lib.hid hcur
        have hhw := HW.out.below hB GHB.out
        have HHW := Lib.hid hhw
        obtain ⟨hl0, hl1, hl2, hl3, hl4, hl5, hl6, hl7⟩ := L.out
        have BSUM : Hid (∀ j, j < 8 → (Sha.block [h0, h1, h2, h3, h4, h5, h6, h7] b).getD j 0 = (([a, b', c, d, e, f, p, q] : List Nat).getD j 0 + ([h0, h1, h2, h3, h4, h5, h6, h7] : List Nat).getD j 0) % 4294967296) := Lib.hid fun j hj => by
          have e : Sha.block [h0, h1, h2, h3, h4, h5, h6, h7] b = [(a + h0) % 4294967296, (b' + h1) % 4294967296, (c + h2) % 4294967296, (d + h3) % 4294967296, (e + h4) % 4294967296, (f + h5) % 4294967296, (p + h6) % 4294967296, (q + h7) % 4294967296] := by
            unfold Sha.block
            rw [← HS.out, ← HK.out, HR.out]
            rfl
          rw [e]
          rcases (by omega : j = 0 ∨ j = 1 ∨ j = 2 ∨ j = 3 ∨ j = 4 ∨ j = 5 ∨ j = 6 ∨ j = 7) with rfl | rfl | rfl | rfl | rfl | rfl | rfl | rfl <;> rfl
        have VB : Hid (∀ j, j < 8 → ([a, b', c, d, e, f, p, q] : List Nat).getD j 0 < 4294967296) := Lib.hid fun j hj => by
          rcases (by omega : j = 0 ∨ j = 1 ∨ j = 2 ∨ j = 3 ∨ j = 4 ∨ j = 5 ∨ j = 6 ∨ j = 7) with rfl | rfl | rfl | rfl | rfl | rfl | rfl | rfl <;> assumption
        have HB8 : Hid (∀ j, j < 8 → ([h0, h1, h2, h3, h4, h5, h6, h7] : List Nat).getD j 0 < 4294967296) := Lib.hid fun j hj => by
          rcases (by omega : j = 0 ∨ j = 1 ∨ j = 2 ∨ j = 3 ∨ j = 4 ∨ j = 5 ∨ j = 6 ∨ j = 7) with rfl | rfl | rfl | rfl | rfl | rfl | rfl | rfl <;> assumption
        clear ho hIc hcell hcs hcur hhw hsz htake hn8 hcap hge cv c0 c1 c2 c3 c4 c5 c6 c7 hl0 hl1 hl2 hl3 hl4 hl5 hl6 hl7 hB hgv hgvl
        go_wp2
        go_loopw [14] (fun i wx => ∃ j : Nat, ∃ cc : Array Value, j ≤ 8 ∧ i = .int .i64 j ∧ Is wx gv 27 cc ∧ 8 ≤ cc.size ∧ (∀ m, m < 8 → cc[m]? = some (.int .u32 ((if m < j then (Sha.block [h0, h1, h2, h3, h4, h5, h6, h7] b).getD m 0 else ([a, b', c, d, e, f, p, q] : List Nat).getD m 0 : Nat)))) ∧ Below B w4 wx ∧ gv < wx.heap.size) (fun i _ => 8 - (intOf i).toNat)
        case atStart => exact ⟨0, cur, by omega, rfl, IC.out, HCS.out, fun m hm => by rw [if_neg (by omega)]; exact HCUR.out m hm, HB.out, HGVL.out⟩
        case round =>
          obtain ⟨j, cc, hj, rfl, hI, hcs, hcc, hB, hgl⟩ := hrel
          have HI := Lib.hid hI
          have HCC := Lib.hid hcc
          have HCSS := Lib.hid hcs
          have HB := Lib.hid hB
          have HGL := Lib.hid hgl
          by_cases hlt : j < 8
          · have j1 : decide ((j : Int) < 8) = true := by simp; omega
            have j2 : (j : Int) < 8 := by omega
            have j3 : (0 : Int) ≤ (j : Int) := by omega
            obtain ⟨x, hx⟩ : ∃ x, x = ([a, b', c, d, e, f, p, q] : List Nat).getD j 0 := ⟨_, rfl⟩
            obtain ⟨y, hy⟩ : ∃ y, y = ([h0, h1, h2, h3, h4, h5, h6, h7] : List Nat).getD j 0 := ⟨_, rfl⟩
            have c1 : wr.cell? ⟨gv, j, none⟩ = some (.int .u32 (x : Nat)) := by rw [hI.at_ j, hcc j hlt, if_neg (by omega), hx]
            have c2 : wr.cell? ⟨gh, j, none⟩ = some (.int .u32 (y : Nat)) := by rw [hy]; exact (HW.out.below hB GHB.out) j hlt
            have f1 := hI.open_ j
            have lx : x < 4294967296 := by rw [hx]; exact VB.out j hlt
            have ly : y < 4294967296 := by rw [hy]; exact HB8.out j hlt
            have HXY : Hid ((Sha.block [h0, h1, h2, h3, h4, h5, h6, h7] b).getD j 0 = (x + y) % 4294967296) := Lib.hid (by rw [BSUM.out j hlt, hx, hy])
            clear hx hy hI hcs hcc hB hgl
            go_wp2
            go_region
            go_wp2
            have hv : ((x : Int) + (y : Int)) % 4294967296 = (((Sha.block [h0, h1, h2, h3, h4, h5, h6, h7] b).getD j 0 : Nat) : Int) := by rw [HXY.out]; omega
            rw [hv]
            refine ⟨⟨j + 1, cc.setIfInBounds j (.int .u32 ((Sha.block [h0, h1, h2, h3, h4, h5, h6, h7] b).getD j 0 : Nat)), by omega, by go_num, HI.out.put j _, by rw [Array.size_setIfInBounds]; exact HCSS.out, fun m hm => ?_, (HB.out.setCell (p := ⟨gv, j, none⟩) HGV.out _).drew, ?_⟩, by simp [intOf]; omega⟩
            · rw [Array.getElem?_setIfInBounds]
              by_cases hmj : j = m
              · subst hmj
                rw [if_pos rfl, if_pos (by have := HCSS.out; omega), if_pos (by omega)]
              · rw [if_neg hmj, HCC.out m hm]
                by_cases h1 : m < j
                · rw [if_pos h1, if_pos (by omega)]
                · rw [if_neg h1, if_neg (by omega)]
            · show gv < (wr.setCell _ _).heap.size
              rw [show (wr.setCell ⟨gv, j, none⟩ (.int .u32 ((Sha.block [h0, h1, h2, h3, h4, h5, h6, h7] b).getD j 0 : Nat))).heap.size = wr.heap.size from Array.size_modify ..]
              exact HGL.out
          · have j1 : decide ((j : Int) < 8) = false := by simp; omega
            have HJ : Hid (j = 8) := Lib.hid (by omega)
            clear hI hcs hcc hB hgl
            go_wp2
            go_ret
            refine ⟨gv, capv, rfl, fun m hm => ?_, by have := GB.out; have := HGV.out; omega, HGL.out, BW.out.trans (HB.out.mono GB.out)⟩
            have hm8 : m < 8 := by rw [block_len _ _ rfl] at hm; exact hm
            rw [HI.out.at_ m, HCC.out m hm8, if_pos (by rw [HJ.out]; exact hm8)]
end Go.Proofs.YtdkhinjogomdaaaDoor
