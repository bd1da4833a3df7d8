/-
  The log's Append.
-/
import Derived.Test.YtgamkahbebnnaaaDoorD5WLeaf
namespace Go.Proofs.YtgamkahbebnnaaaDoor.D5
open Go.RowKit WalPlain
set_option maxRecDepth 40000
theorem tabs_drew {w : World} (h : S3.Tabs w) (n : Nat) : S3.Tabs (w.drewN n) := h.below (drewB w n) h.1
theorem Lg.c0 {w : World} {c b : Nat} {f : Int} {v : Value} {G : Nat → Prop} {R : List Bs} (h : Lg w c b f v G R) : w.cell? ⟨c, 0, none⟩ = some (.pointer (some ⟨b, 0, none⟩)) := h.is.at_ 0
theorem Lg.c1 {w : World} {c b : Nat} {f : Int} {v : Value} {G : Nat → Prop} {R : List Bs} (h : Lg w c b f v G R) : w.cell? ⟨c, 1, none⟩ = some (.int .i64 f) := h.is.at_ 1
theorem Lg.c2 {w : World} {c b : Nat} {f : Int} {v : Value} {G : Nat → Prop} {R : List Bs} (h : Lg w c b f v G R) : w.cell? ⟨c, 2, none⟩ = some v := h.is.at_ 2
/-- The log's rows turn: a new slice u, of blocks that were the log's or are new. -/
theorem Lg.rows {w w2 : World} {c b : Nat} {f : Int} {v u : Value} {G : Nat → Prop} {R N : List Bs} (h : Lg w c b f v G R) (ho : w2.ownsRow 0 9 1 u N.length (strs N)) (hu : ∀ k, u.ownBlock = some k → G k ∨ w.heap.size ≤ k)
    (hI : Is w2 c 65 #[.pointer (some ⟨b, 0, none⟩), .int .i64 f, v]) (hz : w.heap.size ≤ w2.heap.size) :
    LgH (w2.setCell ⟨c, 2, none⟩ u) c b f (fun k => G k ∨ (w.heap.size ≤ k ∧ k < w2.heap.size)) N := by
  refine ⟨u, ⟨hI.put 2 u, ?_, .inl h.mem, fun k hk => ?_, fun k hk => ?_⟩⟩
  · refine ((Fr.refl (fun k => k = c) w2).set (b := c) rfl 2 u).own ho ?_
    rintro k hk rfl
    exact Is.row_apart ho hI (by decide) hk
  · rcases hu k hk with h1 | h1
    · exact .inl h1
    · exact .inr ⟨h1, (ho.lt k hk).2⟩
  · have : (w2.setCell ⟨c, 2, none⟩ u).heap.size = w2.heap.size := by simp [World.setCell]
    rw [this]
    rcases hk with h1 | h1
    · exact Nat.lt_of_lt_of_le (h.lt k h1) hz
    · exact h1.2
/-- A call turns the disk; then the log's rows turn. -/
theorem StepW.then_rows {F G : Nat → Prop} {w3 w4 : World} {c b : Nat} {f : Int} {v : Value} {R : List Bs} {E : Dk} (hL : Lg w3 c b f v G R) (hd : ∀ k, F k → ¬ G k) (h4 : Step b F w3 w4 E) :
    Lg w4 c b f v G R ∧ ∀ w6 N, LgH w6 c b f (fun k => G k ∨ (w4.heap.size ≤ k ∧ k < w6.heap.size)) N → Fr G w4 w6 → StepW b c f F G w3 w6 E N := by
  obtain ⟨F4, h1, h2, h3⟩ := h4
  refine ⟨hL.kept h3 (fun k hg hf => hd k hf hg), fun w6 N hl hf => ?_⟩
  have hdis : ∀ k, F4 k → ¬ G k := fun k hk hg => by
    rcases h2 k hk with h | h
    · exact hd k h hg
    · have := hL.lt k hg; omega
  refine ⟨F4, _, h1.kept hf hdis, hl, fun k hk hg => ?_, h2, fun k hk => ?_, (h3.mono (G := fun k => F k ∨ G k) (fun _ _ h => .inl h)).trans hf (fun _ _ h => .inr h)⟩
  · rcases hg with h | h
    · exact hdis k hk h
    · have := h1.lt k hk; omega
  · rcases hk with h | h
    · exact .inl h
    · exact .inr (Nat.le_trans h3.size h.1)
/-- What lies in memory when a payload has been appended to the rows. -/
theorem Lg.appended {w4 w5 : World} {c b : Nat} {f : Int} {v v' : Value} {G : Nat → Prop} {R : List Bs} (h : Lg w4 c b f v G R) (s : Bs) (o : Obj) (ho : w5.ownsRow 0 9 1 v' (R.length + 1) (strs R ++ strs [s])) (hg : (w4.alloc o).grownBy w5 v.ownBlock)
    (hb : ∀ k, v'.ownBlock = some k → v.ownBlock = some k ∨ (w4.alloc o).heap.size ≤ k) :
    w5.cell? ⟨c, 2, none⟩ = some v ∧ w5.frozen? ⟨c, 2, none⟩ = false ∧ LgH (w5.setCell ⟨c, 2, none⟩ v') c b f (fun k => G k ∨ (w4.heap.size ≤ k ∧ k < (w5.setCell ⟨c, 2, none⟩ v').heap.size)) (R ++ [s]) ∧ Fr G w4 (w5.setCell ⟨c, 2, none⟩ v') := by
  have hfr : Fr (fun k => v.ownBlock = some k) w4 w5 := ((Fr.refl _ w4).alloc o).trans (Fr.of_grown (F := fun k => v.ownBlock = some k) hg (fun _ e => e)) (fun _ _ e => e)
  have hI : Is w5 c 65 #[.pointer (some ⟨b, 0, none⟩), .int .i64 f, v] := hfr.is h.is (fun hk => Is.row_apart h.own h.is (by decide) hk)
  refine ⟨hI.at_ 2, hI.open_ 2, ?_, (hfr.mono (fun k _ hk => h.row k hk)).set (b := c) h.mem 2 v'⟩
  have hz : (w5.setCell ⟨c, 2, none⟩ v').heap.size = w5.heap.size := by simp [World.setCell]
  rw [hz]
  refine h.rows (w2 := w5) (N := R ++ [s]) (own_cast ho (by simp) (strs_append R [s]).symm) (fun k hk => ?_) hI hfr.size
  rcases hb k hk with h1 | h1
  · exact .inl (h.row k h1)
  · exact .inr (Nat.le_trans (by simp) h1)
theorem strs_lit (w : World) (s : Bs) : RowAt (w.alloc (.cells #[.string (mk s)] 9)) (some ⟨w.heap.size, 0, none⟩) (strs [s]) := fun k u hk => by
  refine ⟨_, rfl, ?_⟩
  rw [Addr.add_mid, cell_of_row _ _ _ _ _ _ (heap_alloc_new w _), Nat.zero_add]
  cases k with
  | zero => simpa [strs] using hk
  | succ k => simp [strs] at hk
set_option maxHeartbeats 2000000 in
theorem wappend_any (c b : Nat) (f : Int) (F G : Nat → Prop) (D : Dk) (R : List Bs) (s : Bs) (w : World) (hD : Has w b F D) (hL : LgH w c b f G R) (hd : ∀ k, F k → ¬ G k) (hT : S3.Tabs w) (hs : small20 s) (hR : R.length < 16777216) :
    Calls Tryd.prog 11 #[.pointer (some ⟨c, 0, none⟩), .string (mk s)] w fun e w' => e = .returned (.int .i64 ((D.app f (rec6 s)).1 : Nat)) ∧ StepW b c f F G w w' (D.app f (rec6 s)).2 (if (D.app f (rec6 s)).1 = 0 then R ++ [s] else R) := by
  obtain ⟨v, hl⟩ := hL
  obtain ⟨q, hq⟩ : ∃ q, q = (D.app f (rec6 s)).1 := ⟨_, rfl⟩
  obtain ⟨E, hE⟩ : ∃ E, E = (D.app f (rec6 s)).2 := ⟨_, rfl⟩
  have IP : Hid (∀ W, Calls Tryd.prog 33 #[.string (mk s)] W fun e w' => e = .returned (.bool true) ∧ W = w') := Lib.hid (fun W => by
    have := isPayload_any (mk s) W
    rw [decide_eq_true (show (mk s).size ≤ 1048576 from hs)] at this
    exact this.mono fun e w' hh => ⟨hh.1, hh.2.symm⟩)
  have RC : Hid (∀ W, S3.Tabs W → Calls Tryd.prog 34 #[.string (mk s)] W fun e w' => e = .returned (.string (mk (rec6 s))) ∧ Below W.heap.size W w') := Lib.hid (fun W h => record_any s W h hs)
  have AP : Hid (∀ W, Has W b F D → Calls Tryd.prog 24 #[.pointer (some ⟨b, 0, none⟩), .int .i64 f, .string (mk (rec6 s))] W fun e w' => e = .returned (.int .i64 (q : Nat)) ∧ Step b F W w' E) := Lib.hid (fun W h => by rw [hq, hE]; exact app_any b D F f (mk (rec6 s)) W h)
  rw [← hq, ← hE]
  obtain ⟨N, hN⟩ : ∃ N, N = if q = 0 then R ++ [s] else R := ⟨_, rfl⟩
  rw [← hN]
  have HN := Lib.hid hN
  have c0 := hl.c0
  have c1 := hl.c1
  have HL := Lib.hid hl
  have HL1 := Lib.hid (hl.kept ((Fr.refl (fun _ => False) w).drew 1) (fun _ _ h => h))
  obtain ⟨i0, hi, hz0, hz1, hz2⟩ := info_parts info9
  have HD := Lib.hid (hD.drew 1)
  have HT := Lib.hid (tabs_drew hT 1)
  have Hd := Lib.hid hd
  clear hq hE hl hD hT hd hN
  go_enter Tryd.func11, Tryd.ntmps11
  go_wp2_with (go_at_call 33; refine (IP.out _).mono ?_; rintro e w1 ⟨rfl, rfl⟩)
  go_region_with (first
    | (go_at_call 34; refine (RC.out _ HT.out).mono ?_; rintro e w3 ⟨rfl, h3⟩; have c03 : w3.cell? ⟨c, 0, none⟩ = some (.pointer (some ⟨b, 0, none⟩)) := (h3.cell (by exact HL.out.lt c HL.out.mem)).trans c0; have c13 : w3.cell? ⟨c, 1, none⟩ = some (.int .i64 f) := (h3.cell (by exact HL.out.lt c HL.out.mem)).trans c1; have B3 := Lib.hid h3; clear h3)
    | (go_at_call 24; go_must (refine (AP.out w3 (HD.out.kept (Fr.of_below (F := fun _ => False) B3.out (Nat.le_refl _)) (fun _ _ h => h))).mono ?_); rintro e w4 ⟨rfl, h4⟩; have S4 := Lib.hid h4; clear h4))
  all_goals
    obtain ⟨L4, S6⟩ := StepW.then_rows (HL1.out.kept (Fr.of_below (F := fun _ => False) B3.out (Nat.le_refl _)) (fun _ _ h => h)) Hd.out S4.out
    have c4 := L4.c2
    have B4 : Hid (Below w.heap.size w w3) := Lib.hid ((drewB w 1).trans (B3.out.mono (Nat.le_refl _)))
    have S5 := Lib.hid S6
    have L5 := Lib.hid L4
    clear S6 L4
    by_cases h0 : q = 0
    · have i1 : ((q : Int) == 0) = true := by simp; omega
      have HN2 : Hid (N = R ++ [s]) := Lib.hid (by rw [HN.out, if_pos h0])
      have HQ := Lib.hid h0
      clear h0 HN
      go_wp2_with (refine wpList_append_row rfl (.tmp 27) (.tmp 29) 32 rfl 9 i0 _ 1 16 Tryd.underlying32 hi hz0 hz1 hz2 rfl (by decide) v R.length (strs R) rfl (L5.out.own.alloc _) (some ⟨w4.heap.size, 0, none⟩) 1 1 (strs [s]) rfl rfl (strs_lit w4 s) (fun e => by cases e) (strs_one _) (by simp only [maxLen]; omega) (by omega) ?_; intro v' w5 hown hgr hbl; obtain ⟨a1, a2, a3, a4⟩ := L5.out.appended s _ hown hgr hbl; have A3 := Lib.hid (S5.out _ _ a3 a4); obtain ⟨A', cap', rfl, -⟩ := own_form hown; clear a3 a4 hown hgr hbl)
      go_ret
      exact ⟨by rw [HQ.out]; rfl, by rw [HN2.out]; exact A3.out.below B4.out⟩
    · have i1 : ((q : Int) == 0) = false := by simp; omega
      have HN2 : Hid (N = R) := Lib.hid (by rw [HN.out, if_neg h0])
      clear h0 HN
      go_wp2
      go_ret
      exact ⟨rfl, by rw [HN2.out]; exact (StepW.of_disk ⟨v, HL1.out.kept (Fr.of_below (F := fun _ => False) B3.out (Nat.le_refl _)) (fun _ _ h => h)⟩ Hd.out S4.out).below B4.out⟩
end Go.Proofs.YtgamkahbebnnaaaDoor.D5
