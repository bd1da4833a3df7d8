/-
  The log's Rewrite.
-/
import Derived.Test.YtgamkahbebnnaaaDoorD5WCut
import Derived.Test.YtgamkahbebnnaaaDoorOut
namespace Go.Proofs.YtgamkahbebnnaaaDoor.D5
open Go.RowKit WalPlain
set_option maxRecDepth 40000
section
variable {b c : Nat} {f : Int} {F G : Nat → Prop} {w W : World} {X X' : Dk} {R : List Bs}
theorem StepW.next {F' G' : Nat → Prop} {R' : List Bs} {w' : World} (hF : ∀ k, F' k → F k ∨ w.heap.size ≤ k) (hG : ∀ k, G' k → G k ∨ w.heap.size ≤ k) (hf : Fr (fun k => F k ∨ G k) w W) (h : StepW b c f F' G' W w' X' R') : StepW b c f F G w w' X' R' := by
  obtain ⟨F2, G2, g1, g2, g3, g4, g5, g6⟩ := h
  refine ⟨F2, G2, g1, g2, g3, fun k hk => ?_, fun k hk => ?_, hf.trans g6 (fun i hi h => ?_)⟩
  · rcases g4 k hk with h | h
    · exact hF k h
    · exact .inr (Nat.le_trans hf.size h)
  · rcases g5 k hk with h | h
    · exact hG k h
    · exact .inr (Nat.le_trans hf.size h)
  · rcases h with h | h
    · rcases hF i h with h | h
      · exact .inl h
      · omega
    · rcases hG i h with h | h
      · exact .inr h
      · omega
theorem StepW.lift (S : StepW b c f F G w W X R) (n : Nat) {fn : FuncId} {args : Array Value} {v : Ending} (call : ∀ F', Has (W.drewN n) b F' X → Calls Tryd.prog fn args (W.drewN n) fun e w' => e = v ∧ Step b F' (W.drewN n) w' X') :
    Calls Tryd.prog fn args (W.drewN n) fun e w' => e = v ∧ StepW b c f F G w w' X' R := by
  obtain ⟨F5, G5, h1, h2, h3, h4, h5, h6⟩ := S
  exact (call F5 (h1.drew n)).mono fun e w' hh => ⟨hh.1, StepW.next h4 h5 (h6.drew n) (StepW.of_disk (h2.drew n) h3 hh.2)⟩
theorem StepW.lift0 (S : StepW b c f F G w W X R) {fn : FuncId} {args : Array Value} {v : Ending} (call : ∀ F', Has W b F' X → Calls Tryd.prog fn args W fun e w' => e = v ∧ Step b F' W w' X') :
    Calls Tryd.prog fn args W fun e w' => e = v ∧ StepW b c f F G w w' X' R := by
  obtain ⟨F5, G5, h1, h2, h3, h4, h5, h6⟩ := S
  exact (call F5 h1).mono fun e w' hh => ⟨hh.1, StepW.next h4 h5 h6 (StepW.of_disk h2 h3 hh.2)⟩
theorem StepW.spare0 (S : StepW b c f F G w W X R) (h0 : 0 ≤ f) (h7 : f < 7) : Calls Tryd.prog 37 #[.pointer (some ⟨c, 0, none⟩)] W fun e w' => e = .returned (.int .i64 (f + 1)) ∧ w' = W := by
  obtain ⟨F5, G5, h1, ⟨v, h2⟩, h3⟩ := S
  exact spare_any c b f v W h2.is h0 h7
theorem StepW.c01 (S : StepW b c f F G w W X R) : W.cell? ⟨c, 0, none⟩ = some (.pointer (some ⟨b, 0, none⟩)) ∧ W.cell? ⟨c, 1, none⟩ = some (.int .i64 f) := by
  obtain ⟨F5, G5, h1, ⟨v, h2⟩, h3⟩ := S
  exact ⟨h2.c0, h2.c1⟩
theorem StepW.spare (S : StepW b c f F G w W X R) (h0 : 0 ≤ f) (h7 : f < 7) (n : Nat) : Calls Tryd.prog 37 #[.pointer (some ⟨c, 0, none⟩)] (W.drewN n) fun e w' => e = .returned (.int .i64 (f + 1)) ∧ w' = W.drewN n := by
  obtain ⟨F5, G5, h1, ⟨v, h2⟩, h3⟩ := S
  exact spare_any c b f v (W.drewN n) h2.is h0 h7
theorem StepW.drew (S : StepW b c f F G w W X R) (n : Nat) : StepW b c f F G w (W.drewN n) X R := by
  obtain ⟨F5, G5, h1, h2, h3, h4, h5, h6⟩ := S
  exact ⟨F5, G5, h1.drew n, h2.drew n, h3, h4, h5, h6.drew n⟩
end
/-- A builder stays where its blocks stand. -/
theorem builder_fr {B b : Nat} {bs : List Value} {w w' : World} (h : Lib.IsBuilderF 76 5 B b bs w) (hk : ∀ k, B ≤ k → k < w.heap.size → w'.heap[k]? = w.heap[k]?) : Lib.IsBuilderF 76 5 B b bs w' := by
  have one : ∀ p, Lib.BuilderAtF 76 5 B b p bs w → Lib.BuilderAtF 76 5 B b p bs w' := by
    intro p h
    obtain ⟨hB, v, hb, hown, hne⟩ := h
    have lt : ∀ {k : Nat} {o : Obj}, w.heap[k]? = some o → k < w.heap.size := fun e => (Array.getElem?_eq_some_iff.1 e).1
    refine ⟨hB, v, (hk b hB (lt hb)).trans hb, ⟨hown.1, ?_⟩, hne⟩
    rcases hown.2 with hn | ⟨g, cap, cur, fz, hv, hbg, hg, rest⟩
    · exact .inl hn
    · exact .inr ⟨g, cap, cur, fz, hv, hbg, (hk g hbg (lt hg)).trans hg, rest⟩
  exact h.elim (fun x => .inl (one _ x)) (fun x => .inr (one _ x))
theorem Row.fr {w W : World} {A : Option Addr} {us : List Value} {F : Nat → Prop} (h : Row w w.heap.size A us) (hf : Fr F w W) (hA : us ≠ [] → ∀ a, A = some a → ¬ F a.block) : RowAt W A us := fun k u hu => by
  have hne : us ≠ [] := fun e => by rw [e] at hu; simp at hu
  exact RowAt.kept (Row.at_ h) hf (hA hne) k u hu
theorem rewD_1 {D : Dk} {f : Int} {B : Bs} (h : (cut2 D (f + 1)).1 ≠ 0) : rewD D f B = cut2 D (f + 1) := by
  unfold rewD andD; simp [h]
theorem rewD_2 {D : Dk} {f : Int} {B : Bs} (h : (cut2 D (f + 1)).1 = 0) (h2 : ((cut2 D (f + 1)).2.app (f + 1) B).1 ≠ 0) : rewD D f B = (cut2 D (f + 1)).2.app (f + 1) B := by
  unfold rewD andD; simp [h, h2]
theorem rewD_3 {D : Dk} {f : Int} {B : Bs} (h : (cut2 D (f + 1)).1 = 0) (h2 : ((cut2 D (f + 1)).2.app (f + 1) B).1 = 0) (h3 : (((cut2 D (f + 1)).2.app (f + 1) B).2.flush (f + 1)).1 ≠ 0) :
    rewD D f B = ((cut2 D (f + 1)).2.app (f + 1) B).2.flush (f + 1) := by
  unfold rewD andD; simp [h, h2, h3]
theorem rewD_4 {D : Dk} {f : Int} {B : Bs} (h : (cut2 D (f + 1)).1 = 0) (h2 : ((cut2 D (f + 1)).2.app (f + 1) B).1 = 0) (h3 : (((cut2 D (f + 1)).2.app (f + 1) B).2.flush (f + 1)).1 = 0) :
    rewD D f B = (((cut2 D (f + 1)).2.app (f + 1) B).2.flush (f + 1)).2.turn f (f + 1) := by
  unfold rewD andD; simp [h, h2, h3]
/-- The log's rows turn to a new slice. -/
theorem StepW.new_rows {b c : Nat} {f : Int} {F G : Nat → Prop} {w w7 w8 : World} {X : Dk} {R N : List Bs} {u : Value} (S : StepW b c f F G w w7 X R) (ho : w8.ownsRow w7.heap.size 9 1 u N.length (strs N)) (hb : Below w7.heap.size w7 w8) :
    (∃ old, w8.cell? ⟨c, 2, none⟩ = some old) ∧ w8.frozen? ⟨c, 2, none⟩ = false ∧ StepW b c f F G w (w8.setCell ⟨c, 2, none⟩ u) X N := by
  obtain ⟨F5, G5, h1, ⟨v, h2⟩, h3, h4, h5, h6⟩ := S
  have hw : Fr (fun _ => False) w7 w8 := Fr.of_below hb (Nat.le_refl _)
  have hI := hw.is h2.is (fun h => h)
  have hl := h2.rows (w2 := w8) (own_zero ho) (fun k hk => .inr (ho.lt k hk).1) hI hb.size
  have hs : Fr (fun k => k = c) w8 (w8.setCell ⟨c, 2, none⟩ u) := (Fr.refl (fun k => k = c) w8).set (b := c) rfl 2 u
  refine ⟨⟨v, hI.at_ 2⟩, hI.open_ 2, F5, _, (h1.kept hw (fun _ _ h => h)).kept hs ?_, hl, fun k hk hg => ?_, h4, fun k hk => ?_, (h6.trans hw (fun _ _ h => h.elim)).trans hs (fun i hi h => ?_)⟩
  · rintro k hk rfl
    exact h3 k hk h2.mem
  · rcases hg with h | h
    · exact h3 k hk h
    · have := h1.lt k hk; omega
  · rcases hk with h | h
    · exact h5 k h
    · exact .inr (Nat.le_trans h6.size h.1)
  · rcases h5 c h2.mem with h' | h'
    · rw [h]; exact .inr h'
    · omega
set_option maxHeartbeats 4000000 in
theorem rewrite_any (c b : Nat) (f : Int) (F G : Nat → Prop) (D : Dk) (R N : List Bs) (A : Option Addr) (cap : Nat) (w : World) (hD : Has w b F D) (hL : LgH w c b f G R) (hd : ∀ k, F k → ¬ G k) (hT : S3.Tabs w) (h0 : 0 ≤ f) (h7 : f < 7)
    (hr : Row w w.heap.size A (strs N)) (hA : A = none → N.length = 0) (hN : ∀ s ∈ N, small20 s) (hb : (flat rec6 N).length ≤ 16777216) (hlen : N.length ≤ 16777216) (hrow : strs N ≠ [] → ∀ a, A = some a → ¬ (F a.block ∨ G a.block)) :
    Calls Tryd.prog 14 #[.pointer (some ⟨c, 0, none⟩), .slice A N.length cap] w fun e w' => e = .returned (.int .i64 ((rewD D f (flat rec6 N)).1 : Nat)) ∧ StepW b c f F G w w' (rewD D f (flat rec6 N)).2 (if (rewD D f (flat rec6 N)).1 = 0 then N else R) := by
  have HD := Lib.hid hD
  have HL := Lib.hid hL
  have HR := Lib.hid hr
  have Hd := Lib.hid hd
  have HN := Lib.hid hN
  have HT := Lib.hid hT
  have HB := Lib.hid hb
  have HW := Lib.hid hrow
  have B0 : Hid (Lib.IsBuilderF 76 5 w.heap.size w.heap.size (Lib.byteCells []) (w.alloc (.cells #[.pointer none, .slice none 0 0] 76))) := Lib.hid (Lib.IsBuilderF.of (Lib.fresh_isBuilder 76 5 w))
  have HB0 : Hid (Below w.heap.size w (w.alloc (.cells #[.pointer none, .slice none 0 0] 76))) := Lib.hid ((Below.refl _ _).alloc (Nat.le_refl _) _)
  obtain ⟨X, hX⟩ : ∃ X, X = rewD D f (flat rec6 N) := ⟨_, rfl⟩
  obtain ⟨M, hM⟩ : ∃ M, M = if X.1 = 0 then N else R := ⟨_, rfl⟩
  rw [← hX, ← hM]
  have HX := Lib.hid hX
  have HM := Lib.hid hM
  clear hD hL hr hd hN hT hb hrow hX hM
  go_enter Tryd.func14, Tryd.ntmps14
  go_wp2
  go_loopw [14] (fun v14 wr => ∃ k : Nat, v14 = .int .i64 (k : Int) ∧ k ≤ N.length ∧ Hid (Lib.IsBuilderF 76 5 w.heap.size w.heap.size (Lib.byteCells (flat rec6 (N.take k))) wr) ∧ Hid (Below w.heap.size w wr)) (fun v14 _ => N.length - (intOf v14).toNat)
  case atStart => exact ⟨0, rfl, Nat.zero_le _, B0, HB0⟩
  case round =>
    clear B0 HB0
    obtain ⟨k, rfl, hk, HI, HB1⟩ := hrel
    by_cases hlt : k < N.length
    · have i1 : decide ((k : Int) < (N.length : Int)) = true := by simp; omega
      obtain ⟨s, hs⟩ : ∃ s, s = N[k] := ⟨_, rfl⟩
      obtain ⟨a, rfl, ha, hc⟩ := HR.out k _ (strs_at N k hlt)
      rw [← hs] at hc
      have hcr : wr.cell? (a.add k) = some (.string (mk s)) := (HB1.out.cell (by rw [add_block]; exact ha)).trans hc
      have hsm := HN.out s (by rw [hs]; exact List.getElem_mem hlt)
      have e1 : flat rec6 (N.take (k + 1)) = flat rec6 (N.take k) ++ rec6 s := by
        rw [hs, ← List.take_append_getElem hlt, flat_snoc]
      have hpre : (flat rec6 (N.take (k + 1))).length ≤ 16777216 := Nat.le_trans (flat_mono rec6 (List.take_prefix _ _)).length_le HB.out
      have IP : Hid (∀ W, Calls Tryd.prog 33 #[.string (mk s)] W fun e w' => e = .returned (.bool true) ∧ W = w') := Lib.hid (fun W => by
        have := isPayload_any (mk s) W
        rw [decide_eq_true (show (mk s).size ≤ 1048576 from hsm)] at this
        exact this.mono fun e w' hh => ⟨hh.1, hh.2.symm⟩)
      have RC : Hid (Calls Tryd.prog 34 #[.string (mk s)] wr fun e w' => e = .returned (.string (mk (rec6 s))) ∧ Below wr.heap.size wr w') := Lib.hid (record_any s wr (HT.out.below HB1.out HT.out.1) hsm)
      have WS : Hid (∀ W, Below wr.heap.size wr W → Calls Tryd.prog 36 #[.pointer (some ⟨w.heap.size, 0, none⟩), .string (mk (rec6 s))] W fun e w' => e = .returned (.tuple #[.int .i64 (mk (rec6 s)).size, .nilIface]) ∧ Lib.IsBuilderF 76 5 w.heap.size w.heap.size (Lib.byteCells (flat rec6 (N.take (k + 1)))) w' ∧ Below w.heap.size w w') := Lib.hid (fun W hW => by
        have hI := builder_below HI.out hW
        refine (Tryd.WriteString_k w.heap.size w.heap.size _ (mk (rec6 s)) W hI ?_ (Nat.le_trans HB1.out.size hW.size)).mono fun e w' hh => ⟨hh.1, .inr ?_, (HB1.out.trans (hW.mono HB1.out.size)).trans hh.2.2.1⟩
        · rw [Lib.byteCells_length]
          rw [e1, List.length_append] at hpre
          have : (mk (rec6 s)).size = (rec6 s).length := rfl
          omega
        · have := hh.2.1
          rw [cells_append] at this
          rw [e1]
          exact this)
      have hsz : (mk (rec6 s)).size ≤ 16777216 := by
        have : (mk (rec6 s)).size = (rec6 s).length := rfl
        rw [e1, List.length_append] at hpre; omega
      clear e1 hpre hs hc hsm
      go_wp2_with (first
        | (go_at_call 33; refine (IP.out _).mono ?_; rintro e w1 ⟨rfl, rfl⟩)
        | (go_at_call 34; refine (RC.out).mono ?_; rintro e w2 ⟨rfl, h2⟩; have B2 := Lib.hid h2; clear h2)
        | (go_at_call 36; refine (WS.out _ B2.out).mono ?_; rintro e w3 ⟨rfl, h3, h4⟩; have I3 := Lib.hid h3; have B3 := Lib.hid h4; clear h3 h4))
      go_roundw
      case rel => exact ⟨k + 1, by go_num, by omega, I3, B3⟩
      case measure => simp [intOf]; omega
    · obtain rfl : k = N.length := by omega
      have I : Hid (Lib.IsBuilderF 76 5 w.heap.size w.heap.size (Lib.byteCells (flat rec6 N)) wr) := Lib.hid (by have := HI.out; rw [List.take_length] at this; exact this)
      have S0 : Hid (StepW b c f F G w wr D R) := Lib.hid
        ⟨F, G, HD.out.kept (Fr.of_below (F := fun _ => False) HB1.out (Nat.le_refl _)) (fun _ _ h => h), HL.out.kept (Fr.of_below (F := fun _ => False) HB1.out (Nat.le_refl _)) (fun _ _ h => h), Hd.out, fun _ h => .inl h, fun _ h => .inl h, Fr.of_below HB1.out (Nat.le_refl _)⟩
      clear HI hlt hk
      by_cases q1 : (cut2 D (f + 1)).1 = 0
      · obtain ⟨D1, hD1⟩ : ∃ D1, D1 = (cut2 D (f + 1)).2 := ⟨_, rfl⟩
        obtain ⟨E2, hE2⟩ : ∃ E2, E2 = D1.app (f + 1) (flat rec6 N) := ⟨_, rfl⟩
        obtain ⟨E3, hE3⟩ : ∃ E3, E3 = E2.2.flush (f + 1) := ⟨_, rfl⟩
        obtain ⟨E4, hE4⟩ : ∃ E4, E4 = E3.2.turn f (f + 1) := ⟨_, rfl⟩
        have X2 : Hid (E2.1 ≠ 0 → X = E2) := Lib.hid (fun h => by rw [HX.out, hE2, hD1]; exact rewD_2 q1 (by rw [← hD1, ← hE2]; exact h))
        have X3 : Hid (E2.1 = 0 → E3.1 ≠ 0 → X = E3) := Lib.hid (fun g h => by rw [HX.out, hE3, hE2, hD1]; exact rewD_3 q1 (by rw [← hD1, ← hE2]; exact g) (by rw [← hD1, ← hE2, ← hE3]; exact h))
        have X4 : Hid (E2.1 = 0 → E3.1 = 0 → X = E4) := Lib.hid (fun g h => by rw [HX.out, hE4, hE3, hE2, hD1]; exact rewD_4 q1 (by rw [← hD1, ← hE2]; exact g) (by rw [← hD1, ← hE2, ← hE3]; exact h))
        have K : Hid (Calls Tryd.prog 31 #[.pointer (some ⟨c, 0, none⟩)] wr fun e w' => e = .returned (.int .i64 0) ∧ StepW b c f F G w w' D1 R ∧ (∀ W, Below w.heap.size w' W → StepW b c f F G w W D1 R) ∧ Lib.IsBuilderF 76 5 w.heap.size w.heap.size (Lib.byteCells (flat rec6 N)) w' ∧ w.heap.size ≤ w'.heap.size) := Lib.hid (by
          have g1 := HD.out.kept (Fr.of_below (F := fun _ => False) HB1.out (Nat.le_refl _)) (fun _ _ h => h)
          have g2 := HL.out.kept (Fr.of_below (F := fun _ => False) HB1.out (Nat.le_refl _)) (fun _ _ h => h)
          refine (emptySpare_sz c b f F G D R wr g1 g2 h0 h7 q1).mono fun e w' hh => ⟨hh.1, ?_⟩
          obtain ⟨k1, k2, k3⟩ := hh.2
          rw [← hD1] at k1
          have hlt := HD.out.lt
          have hgt := HL.out.lt
          have hz : w.heap.size ≤ w'.heap.size := by rw [k3]; exact HB1.out.size
          have hfr : Fr (fun k => F k ∨ G k) w w' := (Fr.of_below (F := fun k => F k ∨ G k) HB1.out (Nat.le_refl _)).trans k2 (fun _ _ h => .inl h)
          have hl : LgH w' c b f G R := g2.kept k2 (fun k hg hf => Hd.out k hf hg)
          refine ⟨⟨F, G, k1, hl, Hd.out, fun _ h => .inl h, fun _ h => .inl h, hfr⟩, fun W hW => ?_, builder_fr I.out (fun k a1 a2 => k2.block k a2 (fun hf => by have := hlt k hf; omega)), hz⟩
          have hw : Fr (fun k => w.heap.size ≤ k) w' W := ⟨hW.os, hW.tape, hW.output, hW.size, fun i _ h => hW.block i (by omega)⟩
          exact ⟨F, G, k1.kept hw (fun k hk h => by have := hlt k hk; omega), hl.kept hw (fun k hk h => by have := hgt k hk; omega), Hd.out, fun _ h => .inl h, fun _ h => .inl h, hfr.trans (hw.mono (G := fun k => w.heap.size ≤ k) (fun _ _ h => h)) (fun i hi h => by omega)⟩)
        have SK : Hid (∀ W, w.heap.size ≤ W.heap.size → Lib.IsBuilderF 76 5 w.heap.size w.heap.size (Lib.byteCells (flat rec6 N)) W → Calls Tryd.prog 38 #[.pointer (some ⟨w.heap.size, 0, none⟩)] W fun e w' => e = .returned (.string (mk (flat rec6 N))) ∧ Below w.heap.size W w') := Lib.hid (fun W hz hI => (Tryd.String_k w.heap.size w.heap.size (flat rec6 N) W hI hz).mono fun e w' hh => ⟨hh.1, hh.2.2.1⟩)
        have A2 : Hid (∀ F' W, Has W b F' D1 → Calls Tryd.prog 24 #[.pointer (some ⟨b, 0, none⟩), .int .i64 (f + 1), .string (mk (flat rec6 N))] W fun e w' => e = .returned (.int .i64 (E2.1 : Nat)) ∧ Step b F' W w' E2.2) := Lib.hid (fun F' W h => by rw [hE2]; exact app_any b D1 F' (f + 1) (mk (flat rec6 N)) W h)
        have A3 : Hid (∀ F' W, Has W b F' E2.2 → Calls Tryd.prog 32 #[.pointer (some ⟨b, 0, none⟩), .int .i64 (f + 1)] W fun e w' => e = .returned (.int .i64 (E3.1 : Nat)) ∧ Step b F' W w' E3.2) := Lib.hid (fun F' W h => by rw [hE3]; exact flush_any b E2.2 F' (f + 1) W h)
        have A4 : Hid (∀ F' W, Has W b F' E3.2 → Calls Tryd.prog 39 #[.pointer (some ⟨b, 0, none⟩), .int .i64 f, .int .i64 (f + 1)] W fun e w' => e = .returned (.int .i64 (E4.1 : Nat)) ∧ Step b F' W w' E4.2) := Lib.hid (fun F' W h => by rw [hE4]; exact turn_any b E3.2 F' f (f + 1) W h)
        clear hD1 hE2 hE3 hE4 q1 HX I S0
        go_wp2_with (go_at_call 31; refine K.out.mono ?_; rintro e w1 ⟨rfl, h1, h2, h3, h4⟩; have S1 := Lib.hid h1; have S1B := Lib.hid h2; have I1 := Lib.hid h3; have Z1 := Lib.hid h4; have c01 := h1.c01.1; clear h1 h2 h3 h4)
        go_region_with (first
          | (go_at_call 37; go_must (first | refine SPS.out.mono ?_ | refine (S1.out.spare h0 h7 1).mono ?_); rintro e wx ⟨rfl, rfl⟩)
          | (go_at_call 38; go_must (refine (SK.out (w1.drewN 1) Z1.out ?_).mono ?_); exact builder_fr I1.out (fun _ _ _ => rfl); rintro e wS ⟨rfl, h2⟩; have SS := Lib.hid (S1B.out wS ((drewB w1 1).mono Z1.out |>.trans h2)); have c0S := SS.out.c01.1; have SPS := Lib.hid (SS.out.spare0 h0 h7); clear h2)
          | (go_at_call 24; go_must (refine (SS.out.lift0 (fun F' h => A2.out F' wS h)).mono ?_); rintro e w5 ⟨rfl, h5⟩; have S5 := Lib.hid h5; clear h5))
        all_goals
          have c05 := S5.out.c01.1
          have P5 := Lib.hid (S5.out.spare h0 h7 1)
          have F5 := Lib.hid (S5.out.lift 1 (fun F' h => A3.out F' _ h))
          clear K SK S1 S1B SS SPS c0S c01 I1 Z1
          by_cases q2 : E2.1 = 0
          · have i2 : ((E2.1 : Int) == 0) = true := by simp; omega
            have Q2 := Lib.hid q2
            clear q2
            go_wp2
            refine wp_region_still_tail 6 (by kernel_rfl) (by kernel_rfl) ?_
            simp only [List.take_succ_cons, List.take_zero, List.drop_succ_cons, List.drop_zero]
            repeat still_step
            still_call P5.out
            repeat still_step
            refine wpStill_nil ?_
            change wpList _ _ _ _ _ w5.drew
            by_cases q3 : E3.1 = 0
            · have i3 : ((E3.1 : Int) == 0) = true := by simp; omega
              have Q3 := Lib.hid q3
              clear q3
              go_wp2_with (go_at_call 32; go_must (refine F5.out.mono ?_); rintro e w6 ⟨rfl, h6⟩; have S6 := Lib.hid h6; have c06 := h6.c01.1; have c16 := h6.c01.2; have P6 := Lib.hid (h6.spare h0 h7 1); have F6 := Lib.hid (h6.lift 1 (fun F' h => A4.out F' _ h)); clear h6)
              refine wp_region_still_tail 10 (by kernel_rfl) (by kernel_rfl) ?_
              simp only [List.take_succ_cons, List.take_zero, List.drop_succ_cons, List.drop_zero]
              repeat still_step
              still_call P6.out
              repeat still_step
              refine wpStill_nil ?_
              change wpList _ _ _ _ _ w6.drew
              have hx := X4.out Q2.out Q3.out
              by_cases q4 : E4.1 = 0
              · have i4 : ((E4.1 : Int) == 0) = true := by simp; omega
                have HF : Hid (X.1 = 0 ∧ M = N ∧ X.2 = E4.2) := Lib.hid ⟨by rw [hx]; exact q4, by rw [HM.out, hx, if_pos q4], by rw [hx]⟩
                clear q4 hx
                go_wp2_with (first
                  | (go_at_call 39; go_must (refine F6.out.mono ?_); rintro e w7 ⟨rfl, h7'⟩; have S7 := Lib.hid h7'; have CL := Lib.hid (clone_any A cap N w7 (HR.out.fr h7'.choose_spec.choose_spec.2.2.2.2.2 HW.out) hA hlen); clear h7')
                  | (go_at_call 35; go_must (refine CL.out.mono ?_); rintro e w8 ⟨⟨u, rfl, h8⟩, h9⟩; obtain ⟨⟨old, a1⟩, a2, a3⟩ := S7.out.new_rows h8 h9; have S8 := Lib.hid a3; obtain ⟨A', cap', rfl, -⟩ := own_form h8; clear a3 h8 h9))
                go_ret
                exact ⟨by rw [HF.out.1]; rfl, by rw [HF.out.2.1, HF.out.2.2]; exact S8.out⟩
              · have i4 : ((E4.1 : Int) == 0) = false := by simp; omega
                have HF : Hid (X.1 = E4.1 ∧ M = R ∧ X.2 = E4.2) := Lib.hid ⟨by rw [hx], by rw [HM.out, hx, if_neg q4], by rw [hx]⟩
                clear q4 hx
                go_wp2_with (go_at_call 39; go_must (refine F6.out.mono ?_); rintro e w7 ⟨rfl, h7'⟩; have S7 := Lib.hid h7'; clear h7')
                go_ret
                exact ⟨by rw [HF.out.1]; rfl, by rw [HF.out.2.1, HF.out.2.2]; exact S7.out⟩
            · have i3 : ((E3.1 : Int) == 0) = false := by simp; omega
              have hx := X3.out Q2.out q3
              have HF : Hid (X.1 = E3.1 ∧ M = R ∧ X.2 = E3.2) := Lib.hid ⟨by rw [hx], by rw [HM.out, hx, if_neg q3], by rw [hx]⟩
              clear q3 hx
              go_wp2_with (go_at_call 32; go_must (refine F5.out.mono ?_); rintro e w6 ⟨rfl, h6⟩; have S6 := Lib.hid h6; clear h6)
              go_ret
              exact ⟨by rw [HF.out.1]; rfl, by rw [HF.out.2.1, HF.out.2.2]; exact S6.out⟩
          · have i2 : ((E2.1 : Int) == 0) = false := by simp; omega
            have hx := X2.out q2
            have HF : Hid (X.1 = E2.1 ∧ M = R ∧ X.2 = E2.2) := Lib.hid ⟨by rw [hx], by rw [HM.out, hx, if_neg q2], by rw [hx]⟩
            clear q2 hx
            go_wp2
            go_ret
            exact ⟨by rw [HF.out.1]; rfl, by rw [HF.out.2.1, HF.out.2.2]; exact S5.out⟩
      · have hx := HX.out
        rw [rewD_1 q1] at hx
        have hq : X.1 ≠ 0 := by rw [hx]; exact q1
        have i1 : ((X.1 : Int) == 0) = false := by simp; omega
        have K : Hid (Calls Tryd.prog 31 #[.pointer (some ⟨c, 0, none⟩)] wr fun e w' => e = .returned (.int .i64 (X.1 : Nat)) ∧ StepW b c f F G w w' X.2 M) := Lib.hid (by
          rw [HM.out, if_neg hq, hx]
          obtain ⟨F5, G5, h1, h2, h3, h4, h5, h6⟩ := S0.out
          exact (emptySpare_any c b f F5 G5 D R wr h1 h2 h3 h0 h7).mono fun e w' hh => ⟨hh.1, StepW.next h4 h5 h6 hh.2⟩)
        clear hx hq q1
        go_wp2_with (go_at_call 31; refine K.out.mono ?_; rintro e w1 ⟨rfl, h1⟩; have S1 := Lib.hid h1; clear h1)
        go_ret
        exact ⟨rfl, S1.out⟩
end Go.Proofs.YtgamkahbebnnaaaDoor.D5
