/-
  What the cards of this seat share: what the listed variable gives the walks, a start that fits, the row's last step, arguments opened.
-/
import Derived.Test.YtgamkahbebnnaaaDoorCards
import Derived.Test.YtgamkahbebnnaaaDoorTie
import Derived.Test.YtgamkahbebnnaaaDoorD5WActs
import Derived.ProofKit
import Derived.OpenShut
import Derived.JoinedCond
import Derived.Deep.DeepHandedRow
import Derived.Deep.DeepWitnessRowRef
import Derived.Lib.LaidTab
import Derived.Stop.LaidErr
import Derived.SizedLaws
import Derived.Carry
import Derived.SliceStrings
import Derived.ChangeSlices
import Derived.Deep.Slices
import Derived.Deep.Fields
import Derived.ChangeArms
namespace Go.Proofs.YtgamkahbebnnaaaDoor.D5
open Go.ChangeShapes Go.WideShapes Go.ChangeAt Go.RowKit Go.Deep

/-- The row's last step: the one result reads as true, the arguments read as they did, and nothing that was there has changed. -/
theorem post_true {H : Type} {enc : TypeId × Value → H} {f : Func} {s : ChangeSpec} {W W' : World} {args : Array Value} {ds : List (DataW H)} {before pa : List MemPlace}
    (hW : DataW.Whole enc Tryd.prog f.params.toList s.vars false W args.toList ds [] before)
    (hres : DataW.TrodAll enc Tryd.prog W' W.heap.size (fun _ => false) false f.resultTypes.toList ((Value.bool true).resultList f.resultTypes.size) (s.fn H (ds ++ [])).results [])
    (hargs : DataW.TrodAll enc Tryd.prog W' 0 (fun b => decide (b < W.heap.size)) true f.params.toList args.toList (s.fn H (ds ++ [])).args pa)
    (hvars : DataW.TrodVars enc Tryd.prog W' (fun b => decide (b < W.heap.size)) s.vars (s.fn H (ds ++ [])).vars [])
    (hb : Below W.heap.size W W') : s.post enc Tryd.prog f false true false false W args (.bool true) W' :=
  ⟨ds, [], before, [], pa, [], hW, hres, hargs, hvars, hb.frame _, fun h => by cases h⟩
theorem own : ownKnob Tryd.prog.godebug = none := by kernel_rfl
theorem laidOut : laidOutB Tryd.prog = true := by kernel_rfl
theorem stays {H : Type} {enc : TypeId × Value → H} {t : TypeId} (hr : Tryd.prog.readableRec t = true) (hrow : t < Tryd.prog.types.size) {W W' : World} {v : Value} {d : DataW H} {ps : List MemPlace}
    (h : DataW.Trod enc Tryd.prog W 0 (fun _ => true) true t v d ps) (hb : Below W.heap.size W W') (hlt : ∀ x ∈ ps, x.block < W.heap.size) :
    DataW.Trod enc Tryd.prog W' 0 (fun b => decide (b < W.heap.size)) true t v d ps := Below.trod laidOut hr hrow h hb hlt
theorem g0 : Tryd.prog.globalNamed "retroact/sum.fourSteps" = some 0 := by kernel_rfl
theorem g0Type : (Tryd.prog.globals[0]?).map (·.type) = some 116 := by kernel_rfl
theorem cells116 : Tryd.prog.cellsOf 116 = 16 := by kernel_rfl
theorem cells100 : Tryd.prog.cellsOf 100 = 1 := by kernel_rfl
theorem cells9 : Tryd.prog.cellsOf 9 = 1 := by kernel_rfl
theorem cells3 : Tryd.prog.cellsOf 3 = 1 := by kernel_rfl
theorem cells32 : Tryd.prog.cellsOf 32 = 1 := by kernel_rfl
theorem cells23 : Tryd.prog.cellsOf 23 = 1 := by kernel_rfl
theorem cells34 : Tryd.prog.cellsOf 34 = 5 := by kernel_rfl
theorem bytes9 : Tryd.prog.bytesOf 9 = 16 := by kernel_rfl
theorem bytes3 : Tryd.prog.bytesOf 3 = 8 := by kernel_rfl
/-- No parameter wants a stand-in. -/
theorem noStand (t : TypeId) (h : t = 3 ∨ t = 4 ∨ t = 9 ∨ t = 22 ∨ t = 23 ∨ t = 32) : Tryd.prog.wantsStandIn t = false := by
  rcases h with rfl | rfl | rfl | rfl | rfl | rfl <;> kernel_rfl
theorem getD_map (l : List Nat) (i : Nat) : (l.map fun n : Nat => (n : Int)).getD i 0 = ((l.getD i 0 : Nat) : Int) := by
  simp only [List.getD_eq_getElem?_getD, List.getElem?_map]
  cases l[i]? <;> rfl
/-- What the row's list gives the walks. -/
theorem lies {W : World} (h : laidMetH Tryd.prog Rows.walTornRow.laid W) : S3.Tabs W := by
  have h' : laidMet Tryd.prog Rows.walTornRow.laid W := h
  have t0 : Lib.TabIs Tryd.prog W "retroact/sum.fourSteps" .u32 (S3.four.map fun n : Nat => (n : Int)) := Lib.tabIs_of_head g0 g0Type Tryd.underlying116 Tryd.underlying100 cells100 cells116 h'
  have c0 : ∀ i, i < 16 → W.cell? ⟨0, i, none⟩ = some (.int .u32 (S3.four.getD i 0 : Nat)) := fun i hi => by
    rw [t0.cell g0 i (by rw [List.length_map]; exact hi), getD_map]
  refine ⟨?_, c0, trivial⟩
  have := World.block_lt_of_cell? _ _ (c0 0 (by omega))
  exact this
def lits {H : Type} : DataW H → Array Value
  | .agg l => (l.map fun
    | .lit (.int k z) => Value.int k z
    | _ => .bool false).toArray
  | _ => #[]
/-- The settled world, the table holding what its initialiser lays. -/
noncomputable def laidWorld (os : Os) : World :=
  let w0 := World.holding Tryd.prog os ⟨#[], #[], []⟩
  { w0 with heap := w0.heap.modify 0 fun
      | .cells _ t frozen => .cells (lits (H := Unit) Rows.laid_retroact_sum_fourSteps) t frozen
      | o => o }
theorem laid_met (os : Os) (args : Array Value) : laidMet Tryd.prog Rows.walTornRow.laid ((laidWorld os).forCall (fun _ _ => 0) ⟨#[], args, []⟩).memory :=
  laidMet_of_run' 8 (by kernel_rfl) (by kernel_rfl)
theorem int_bounds {a : Int} (h : (Lit.int .i64 a).wf = true) : -9223372036854775808 ≤ a ∧ a ≤ 9223372036854775807 := by
  have e1 : IntKind.i64.min = -9223372036854775808 := rfl
  have e2 : IntKind.i64.max = 9223372036854775807 := rfl
  simp [Lit.wf, e1, e2] at h
  exact h
def Light {H : Type} (t : TypeId) (d : DataW H) : Prop := ∀ n ∈ d.weights Tryd.prog t, n ≤ 140737488351232
theorem weights_all {H : Type} {e : TypeId} {l : List (DataW H)} {d : DataW H} (h : d ∈ l) {n : Nat} (hn : n ∈ d.weights Tryd.prog e) : n ∈ DataW.weightsAll Tryd.prog e l := by
  induction l with
  | nil => cases h
  | cons x r ih =>
    simp only [DataW.weightsAll, List.mem_append]
    rcases List.mem_cons.1 h with rfl | h
    · exact .inl hn
    · exact .inr (ih h)
theorem light_elem {H : Type} {t e : TypeId} {elems spare : List (DataW H)} (hu : Tryd.prog.underlying t = some (.slice e)) (h : Light t (.slice elems spare)) {d : DataW H} (hd : d ∈ elems) : Light e d := by
  intro n hn
  apply h n
  simp only [DataW.weights, hu, List.mem_cons, List.mem_append]
  exact .inr (.inl (weights_all hd hn))
theorem light_len {H : Type} {t e : TypeId} {elems spare : List (DataW H)} (hu : Tryd.prog.underlying t = some (.slice e)) (h : Light t (.slice elems spare)) : (elems.length + spare.length) * Tryd.prog.bytesOf e ≤ 140737488351232 := by
  apply h
  simp only [DataW.weights, hu, List.mem_cons, true_or]
theorem light_string {H : Type} {t : TypeId} {l : List UInt8} (h : Light (H := H) t (.lit (.string l))) : l.length ≤ 140737488351232 := h _ (by simp [DataW.weights])
theorem bulk_mem {H : Type} {d : DataW H} {l : List (DataW H)} (h : d ∈ l) : Rows.uptoBulk d ≤ Rows.uptoBulkAll l := by
  induction l with
  | nil => cases h
  | cons x r ih =>
    simp only [Rows.uptoBulkAll]
    rcases List.mem_cons.1 h with rfl | h
    · omega
    · have := ih h; omega
theorem bulk_texts {H : Type} (xs : List (List UInt8)) : Rows.uptoBulkAll (xs.map fun l => (.lit (.string l) : DataW H)) = tot xs + xs.length := by
  induction xs with
  | nil => simp [Rows.uptoBulkAll, tot]
  | cons x xs ih =>
    simp only [tot] at ih
    simp only [List.map_cons, Rows.uptoBulkAll, Rows.uptoBulk, ih, tot, List.sum_cons, List.length_cons]
    omega
theorem ints_at (xs : List Int) (k : Nat) (h : k < xs.length) : (ints xs)[k]? = some (.int .i64 xs[k]) := by
  simp [ints, h]
section
variable {H : Type} {enc : TypeId × Value → H} {w : World} {base : Nat} {spare : Nat → Bool} {held : Bool}
theorem row_of {w : World} {a : Addr} {xs : List Value} (h : ∀ k u, xs[k]? = some u → w.cell? (a.add k) = some u) : Row w w.heap.size (some a) xs := fun k u hu => by
  have hc := h k u hu
  have := World.block_lt_of_cell? w (a.add k) hc
  rw [add_block] at this
  exact ⟨a, rfl, this, hc⟩
theorem row_nil {w : World} {A : Option Addr} : Row w w.heap.size A [] := fun k u hu => by simp at hu
theorem open_texts {fuel : Nat} {cs : List Value} {x : DataW H × List MemPlace} (h : DataW.trod enc Tryd.prog w base spare held fuel 32 cs = some x) :
    ∃ (A : Option Addr) (c : Nat) (xs : List (List UInt8)), cs = [.slice A xs.length c] ∧ Row w w.heap.size A (strs xs) ∧ (A = none → xs.length = 0) ∧ xs.length ≤ c ∧ tot xs + xs.length ≤ Rows.uptoBulk x.1 ∧
      (Light 32 x.1 → xs.length ≤ 8796093021952 ∧ ∀ s ∈ xs, s.length ≤ 140737488351232) := by
  rcases open_strings Tryd.underlying32 Tryd.underlying9 cells9 h with ⟨rfl, rfl⟩ | ⟨a, len, cap, ss, rfl, _, hl, hm, hz, rfl, hcell, hws⟩
  · exact ⟨none, 0, [], rfl, row_nil, fun _ => rfl, Nat.le_refl _, by simp [tot], fun _ => ⟨by simp, fun s hs => by simp at hs⟩⟩
  · have hlen : len ≤ ss.length := by rw [hz]; split <;> omega
    have hxl : ((ss.take len).map ls).length = len := by rw [List.length_map, List.length_take]; omega
    refine ⟨some a, cap, (ss.take len).map ls, by rw [hxl], row_of fun k u hu => ?_, fun e => (by cases e), by rw [hxl]; exact hl, ?_, fun hL => ⟨?_, fun s hs => ?_⟩⟩
    · have hk : k < len := by
        rw [← hxl]
        have : k < (strs ((ss.take len).map ls)).length := (List.getElem?_eq_some_iff.1 hu).1
        simpa [strs] using this
      rw [hcell k (by omega)]
      have e := strs_at ((ss.take len).map ls) k (by omega)
      rw [e] at hu
      rw [← hu]
      have : ss.getD k ByteArray.empty = ss[k] := by rw [List.getD_eq_getElem?_getD, List.getElem?_eq_getElem (by omega)]; rfl
      rw [this]
      simp [mk_ls]
    · simp only [Rows.uptoBulk]
      have e2 : (ChangeShapes.strs (ss.take len) : List (DataW H)) = ((ss.take len).map ls).map fun l => (.lit (.string l) : DataW H) := by
        simp only [ChangeShapes.strs, List.map_map]
        rfl
      rw [e2, bulk_texts]
      omega
    · have := light_len Tryd.underlying32 hL
      rw [bytes9] at this
      simp only [ChangeShapes.strs, List.length_map, List.length_take] at this
      rw [hxl]
      omega
    · rw [List.mem_map] at hs
      obtain ⟨b, hb, rfl⟩ := hs
      have hd : (DataW.lit (.string b.data.toList) : DataW H) ∈ ChangeShapes.strs (ss.take len) := List.mem_map.2 ⟨b, hb, rfl⟩
      exact light_string (light_elem Tryd.underlying32 hL hd)
theorem open_keep {fuel : Nat} {cs : List Value} {x : DataW H × List MemPlace} (h : DataW.trod enc Tryd.prog w base spare held fuel 23 cs = some x) :
    ∃ (A : Option Addr) (c : Nat) (xs : List Int), cs = [.slice A xs.length c] ∧ Keep w w.heap.size A xs := by
  rcases open_ints Tryd.underlying23 Tryd.underlying3 cells3 h with ⟨rfl, rfl⟩ | ⟨a, len, cap, zs, rfl, _, hl, hm, hz, rfl, hcell, hws⟩
  · exact ⟨none, 0, [], rfl, row_nil, fun _ => rfl, fun h => absurd rfl h⟩
  · have hlen : len ≤ zs.length := by rw [hz]; split <;> omega
    have hxl : (zs.take len).length = len := by rw [List.length_take]; omega
    have hrow : Row w w.heap.size (some a) (ints (zs.take len)) := row_of fun k u hu => by
      have hk : k < len := by
        rw [← hxl]
        have : k < (ints (zs.take len)).length := (List.getElem?_eq_some_iff.1 hu).1
        simpa [ints] using this
      rw [hcell k (by omega)]
      have e := ints_at (zs.take len) k (by omega)
      rw [e] at hu
      rw [← hu]
      have : zs.getD k 0 = zs[k] := by rw [List.getD_eq_getElem?_getD, List.getElem?_eq_getElem (by omega)]; rfl
      rw [this]
      simp
    refine ⟨some a, cap, zs.take len, by rw [hxl], hrow, fun e => (by cases e), fun hne b hb => ?_⟩
    cases hb
    have h0 : 0 < (zs.take len).length := List.length_pos_iff.2 hne
    obtain ⟨a', e1, e2, _⟩ := hrow 0 _ (ints_at (zs.take len) 0 h0)
    cases e1
    exact e2
def Nb (n : Int) : Prop := n < 9223372036854775808
theorem nb_of {n : Int} (h : n ≤ 9223372036854775807) : Nb n := by unfold Nb; omega
set_option maxRecDepth 20000 in
/-- An act's cells. -/
theorem open_act {fuel : Nat} {cs : List Value} {x : DataW H × List MemPlace} (h : DataW.trod enc Tryd.prog w base spare held fuel 34 cs = some x) :
    ∃ (t : Wc) (A : Option Addr) (c : Nat) (B : Option Addr) (e : Nat), cs = [.int .i64 t.d, .string (mk t.s), .slice A t.l.length c, .int .i64 t.n, .slice B t.keep.length e] ∧ Row w w.heap.size A (strs t.l) ∧ (A = none → t.l.length = 0) ∧ Keep w w.heap.size B t.keep ∧ Nb t.n ∧ t.wt ≤ Rows.uptoBulk x.1 := by
  obtain ⟨ys, n, _, rfl, hl, hlen, hf⟩ := DataW.trod_struct Tryd.underlying34 h
  rw [cells34] at hl
  match cs, hl with
  | [c0, c1, c2, c3, c4], _ =>
  match ys, hlen with
  | [y0, y1, y2, y3, y4], _ =>
    have e0 : DataW.trod enc Tryd.prog w base spare held n 3 [c0] = some y0 := by have := hf 0 _ rfl; simpa [cells3] using this
    have e1 : DataW.trod enc Tryd.prog w base spare held n 9 [c1] = some y1 := by have := hf 1 _ rfl; simpa [cells9] using this
    have e2 : DataW.trod enc Tryd.prog w base spare held n 32 [c2] = some y2 := by have := hf 2 _ rfl; simpa [cells32] using this
    have e3 : DataW.trod enc Tryd.prog w base spare held n 3 [c3] = some y3 := by have := hf 3 _ rfl; simpa [cells3] using this
    have e4 : DataW.trod enc Tryd.prog w base spare held n 23 [c4] = some y4 := by have := hf 4 _ rfl; simpa [cells23] using this
    obtain ⟨a0, q0, rfl, w0⟩ := DataW.trod_int Tryd.underlying3 e0
    obtain ⟨s, q1, rfl, ws⟩ := DataW.trod_string Tryd.underlying9 e1
    obtain ⟨A, c, xs, q2, rL, nL, -, bL, -⟩ := open_texts e2
    obtain ⟨a3, q3, rfl, w3⟩ := DataW.trod_int Tryd.underlying3 e3
    obtain ⟨B, e, zs, q4, rK⟩ := open_keep e4
    simp only [List.cons.injEq, and_true] at q0 q1 q2 q3 q4
    subst q0 q1 q2 q3 q4
    have b3 := int_bounds w3
    refine ⟨⟨a0, ls s, xs, a3, zs⟩, A, c, B, e, by rw [mk_ls], rL, nL, rK, nb_of b3.2, ?_⟩
    unfold Wc.wt
    simp only [Rows.uptoBulk, Rows.uptoBulkAll, List.map_cons, List.map_nil]
    have : (ls s).length = s.data.toList.length := rfl
    omega
theorem bulk_map {α : Type} (is : List α) (D : α → DataW H) (t : α → Wc) (h : ∀ i ∈ is, (t i).wt ≤ Rows.uptoBulk (D i)) : wts (is.map t) ≤ Rows.uptoBulkAll (is.map D) := by
  induction is with
  | nil => simp [wts]
  | cons i is ih =>
    have h1 := h i (by simp)
    have h2 := ih (fun j hj => h j (by simp [hj]))
    simp only [wts, List.map_cons, List.sum_cons, Rows.uptoBulkAll] at h2 ⊢
    omega
theorem bulk_len (l : List (DataW H)) : l.length ≤ Rows.uptoBulkAll l := by
  induction l with
  | nil => simp
  | cons x r ih =>
    have : 1 ≤ Rows.uptoBulk x := by
      cases x with
      | lit l => cases l <;> simp [Rows.uptoBulk]
      | _ => simp [Rows.uptoBulk]
    simp only [List.length_cons, Rows.uptoBulkAll]
    omega
theorem open_acts {fuel : Nat} {cs : List Value} {x : DataW H × List MemPlace} (h : DataW.trod enc Tryd.prog w base spare held fuel 22 cs = some x) :
    ∃ (A : Option Addr) (c : Nat) (l : List Wc), cs = [.slice A l.length c] ∧ ActsW w w.heap.size A l ∧ wts l ≤ Rows.uptoBulk x.1 ∧ l.length ≤ Rows.uptoBulk x.1 ∧ ∀ t ∈ l, Nb t.n := by
  rcases Deep.open_slice Tryd.underlying22 h with ⟨rfl, rfl⟩ | ⟨a, len, cap, m, n, D, Pl, rfl, _, hl, hm, hmm, rfl, hi⟩
  · exact ⟨none, 0, [], rfl, fun k t hk => by simp at hk, by simp [wts], by simp, fun t ht => by simp at ht⟩
  · have hlm : len ≤ m := by rw [hmm]; split <;> omega
    have each : ∀ i, i < len → ∃ t : Wc, AtW w w.heap.size (a.add (i * 5)) t ∧ Nb t.n ∧ t.wt ≤ Rows.uptoBulk (D i) := by
      intro i hil
      obtain ⟨cs', hc, ht⟩ := hi i (by omega)
      rw [cells34] at hc
      obtain ⟨_, hcl, hat⟩ := World.cells?_some hc
      obtain ⟨t, A, c, B, e, rfl, rL, nL, rK, hn, hw⟩ := open_act ht
      have c0 := hat 0 (by omega)
      have c1 := hat 1 (by omega)
      have c2 := hat 2 (by omega)
      have c3 := hat 3 (by omega)
      have c4 := hat 4 (by omega)
      have hP : (a.add (i * 5)).block < w.heap.size := World.block_lt_of_cell? w _ (show w.cell? (a.add (i * 5)) = some _ from c0)
      exact ⟨t, ⟨hP, A, c, B, e, c0, c1, c2, c3, c4, rL, nL, rK⟩, hn, hw⟩
    let f : { i // i ∈ List.range len } → Wc := fun i => (each i.1 (List.mem_range.1 i.2)).choose
    let l : List Wc := (List.range len).attach.map f
    have hll : l.length = len := by simp [l]
    have hwt : wts l ≤ Rows.uptoBulkAll ((List.range len).map D) := by
      have h1 := bulk_map (List.range len).attach (fun i => D i.1) f (fun i _ => (each i.1 (List.mem_range.1 i.2)).choose_spec.2.2)
      have h2 : (List.range len).attach.map (fun i => D i.1) = (List.range len).map D := by
        show List.map (D ∘ Subtype.val) (List.range len).attach = _
        rw [← List.map_map, List.attach_map_subtype_val]
      rw [h2] at h1
      exact h1
    have hln := bulk_len ((List.range len).map D)
    rw [List.length_map, List.length_range] at hln
    refine ⟨some a, cap, l, by rw [hll], fun k t hk => ?_, ?_, ?_, fun t ht => ?_⟩
    · have hk' : k < len := by rw [← hll]; exact (List.getElem?_eq_some_iff.1 hk).1
      have e : t = (each k hk').choose := by
        have := (List.getElem?_eq_some_iff.1 hk).2
        rw [← this]
        simp [l, f]
      exact ⟨a, rfl, by rw [e]; exact (each k hk').choose_spec.1⟩
    · simp only [Rows.uptoBulk]; omega
    · rw [hll]; simp only [Rows.uptoBulk]; omega
    · simp only [l, f, List.mem_map, List.mem_attach, true_and] at ht
      obtain ⟨⟨i, hi'⟩, rfl⟩ := ht
      exact (each i (List.mem_range.1 hi')).choose_spec.2.1
end
end Go.Proofs.YtgamkahbebnnaaaDoor.D5
