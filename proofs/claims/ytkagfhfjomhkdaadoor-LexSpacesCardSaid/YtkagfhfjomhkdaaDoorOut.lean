/-
  The string builder of this seat, its text as a list of bytes; quoted of lex.
-/
import Derived.Test.YtkagfhfjomhkdaaDoorLeaf4
import Derived.Test.YtkagfhfjomhkdaaDoorBuild
namespace Go.Proofs.YtkagfhfjomhkdaaDoor
open Go.RowKit L7
/-- Block b is a builder that holds the text l; all that it owns lies from block B on. -/
def Bd (B b : Nat) (l : Bs) (w : World) : Prop := Lib.IsBuilderF 38 5 B b (Lib.byteCells l) w
theorem builder_stays {B b : Nat} {bs : List Value} {w w' : World} (h : Lib.IsBuilderF 38 5 B b bs w) (hk : ∀ (k : Nat) (c : Array Value) (t : TypeId) (fz : Nat × Nat), w.heap[k]? = some (Obj.cells c t fz) → t = 38 ∨ t = 5 → w'.heap[k]? = w.heap[k]?) : Lib.IsBuilderF 38 5 B b bs w' := by
  have one : ∀ p, Lib.BuilderAtF 38 5 B b p bs w → Lib.BuilderAtF 38 5 B b p bs w' := by
    intro p h
    obtain ⟨hB, v, hb, hown, hne⟩ := h
    refine ⟨hB, v, (hk b _ _ _ hb (.inl rfl)).trans hb, ⟨hown.1, ?_⟩, hne⟩
    rcases hown.2 with hn | ⟨g, cap, cur, fz, hv, hbg, hg, rest⟩
    · exact .inl hn
    · exact .inr ⟨g, cap, cur, fz, hv, hbg, (hk g _ _ _ hg (.inr rfl)).trans hg, rest⟩
  exact h.elim (fun x => .inl (one _ x)) (fun x => .inr (one _ x))
theorem Bd.below {B b : Nat} {l : Bs} {w w' : World} (h : Bd B b l w) (hk : Below w.heap.size w w') : Bd B b l w' :=
  builder_stays h fun k _ _ _ e _ => hk.block k (Array.getElem?_eq_some_iff.1 e).1
theorem Bd.alloc {B b : Nat} {l : Bs} {w : World} (h : Bd B b l w) (o : Obj) : Bd B b l (w.alloc o) := h.below ((Below.refl _ _).alloc (Nat.le_refl _) o)
theorem Bd.set {B b g i : Nat} {l : Bs} {w : World} {c : Array Value} {t : TypeId} (h : Bd B b l w) (hg : Is w g t c) (ht : t ≠ 38) (ht5 : t ≠ 5) (u : Value) : Bd B b l (w.setCell ⟨g, i, none⟩ u) :=
  builder_stays h fun k x t' fz e ht' => Below.heap_setCell w ⟨g, i, none⟩ u k (by
    rintro rfl
    have hg' : w.heap[k]? = _ := hg
    rw [hg'] at e
    injection e with e
    injection e with _ e _
    subst e
    rcases ht' with h | h <;> contradiction)
theorem Bd.fresh (w : World) : Bd w.heap.size w.heap.size [] (w.alloc (.cells #[.pointer none, .slice none 0 0] 38)) := Lib.IsBuilderF.of (Lib.fresh_isBuilder 38 5 w)
theorem wb_any {B b : Nat} {l : Bs} {w : World} (h : Bd B b l w) (c : UInt8) (hl : l.length ≤ 100000000) (hB : B ≤ w.heap.size) :
    Calls Tryd.prog 12 #[.pointer (some ⟨b, 0, none⟩), .int .u8 (c.toNat : Int)] w fun e w' => e = .returned .nilIface ∧ Bd B b (l ++ [c]) w' ∧ Below B w w' :=
  (Tryd.WriteByte_k B b _ c.toNat w h (by rw [Lib.byteCells_length]; omega) hB).mono fun e w' k => ⟨k.1, by
    have := k.2.1
    unfold Bd
    rw [Lib.byteCells_append]
    exact .inr this, k.2.2.1⟩
theorem wb_num {B b : Nat} {l : Bs} {w : World} (h : Bd B b l w) (c : UInt8) (n : Int) (hn : (c.toNat : Int) = n) (hl : l.length ≤ 100000000) (hB : B ≤ w.heap.size) :
    Calls Tryd.prog 12 #[.pointer (some ⟨b, 0, none⟩), .int .u8 n] w fun e w' => e = .returned .nilIface ∧ Bd B b (l ++ [c]) w' ∧ Below B w w' := by
  rw [← hn]; exact wb_any h c hl hB
theorem ws_any {B b : Nat} {l : Bs} {w : World} (h : Bd B b l w) (x : ByteArray) (hl : l.length + x.size ≤ 100000000) (hB : B ≤ w.heap.size) :
    Calls Tryd.prog 13 #[.pointer (some ⟨b, 0, none⟩), .string x] w fun e w' => e = .returned (.tuple #[.int .i64 x.size, .nilIface]) ∧ Bd B b (l ++ ls x) w' ∧ Below B w w' :=
  (Tryd.WriteString_k B b _ x w h (by rw [Lib.byteCells_length]; omega) hB).mono fun e w' k => ⟨k.1, by
    have := k.2.1
    unfold Bd
    rw [Lib.byteCells_append]
    exact .inr this, k.2.2.1⟩
theorem str_any {B b : Nat} {l : Bs} {w : World} (h : Bd B b l w) (hB : B ≤ w.heap.size) :
    Calls Tryd.prog 15 #[.pointer (some ⟨b, 0, none⟩)] w fun e w' => e = .returned (.string (mk l)) ∧ Bd B b l w' ∧ Below B w w' :=
  (Tryd.String_k B b l w h hB).mono fun _ _ k => ⟨k.1, k.2.1, k.2.2.1⟩
theorem len_any {B b : Nat} {l : Bs} {w : World} (h : Bd B b l w) :
    Calls Tryd.prog 35 #[.pointer (some ⟨b, 0, none⟩)] w fun e w' => e = .returned (.int .i64 (l.length : Nat)) ∧ w = w' :=
  (Tryd.Len_k B b _ w h).mono fun _ _ k => ⟨by rw [k.1, Lib.byteCells_length], k.2.symm⟩
theorem str_ret {a b : ByteArray} (h : a = b) : Ending.returned (.string a) = Ending.returned (.string b) := by rw [h]
theorem index_q (c : UInt8) : (qbyte c = [c] ∧ Lib.indexByte [10, 9, 34, 92] c = -1) ∨
    (c = 10 ∧ Lib.indexByte [10, 9, 34, 92] c = 0 ∧ qbyte c = [92, 110]) ∨ (c = 9 ∧ Lib.indexByte [10, 9, 34, 92] c = 1 ∧ qbyte c = [92, 116]) ∨
    (c = 34 ∧ Lib.indexByte [10, 9, 34, 92] c = 2 ∧ qbyte c = [92, 34]) ∨ (c = 92 ∧ Lib.indexByte [10, 9, 34, 92] c = 3 ∧ qbyte c = [92, 92]) := by
  by_cases a : c = 10
  · subst a; exact .inr (.inl ⟨rfl, by decide, rfl⟩)
  by_cases b : c = 9
  · subst b; exact .inr (.inr (.inl ⟨rfl, by decide, rfl⟩))
  by_cases d : c = 34
  · subst d; exact .inr (.inr (.inr (.inl ⟨rfl, by decide, rfl⟩)))
  by_cases f : c = 92
  · subst f; exact .inr (.inr (.inr (.inr ⟨rfl, by decide, rfl⟩)))
  refine .inl ⟨by simp [qbyte, a, b, d, f], ?_⟩
  have a' := Ne.symm a
  have b' := Ne.symm b
  have d' := Ne.symm d
  have f' := Ne.symm f
  simp [Lib.indexByte, a', b', d', f']
theorem qbody_snoc (l : Bs) (c : UInt8) : qbody (l ++ [c]) = qbody l ++ qbyte c := by simp [qbody]
theorem qbyte_le (c : UInt8) : (qbyte c).length ≤ 2 := by
  unfold qbyte; split
  · decide
  · split
    · decide
    · split
      · decide
      · split
        · decide
        · exact Nat.le_succ 1
theorem qbody_le (l : Bs) : (qbody l).length ≤ 2 * l.length := by
  induction l with
  | nil => decide
  | cons a l ih =>
    have := qbyte_le a
    have e : qbody (a :: l) = qbyte a ++ qbody l := rfl
    rw [e, List.length_append, List.length_cons]; omega
theorem take_snoc (s : ByteArray) (k : Nat) (h : k < s.size) : (ls s).take (k + 1) = (ls s).take k ++ [s[k]] := by
  rw [List.take_succ_eq_append_getElem (show k < (ls s).length from h)]; rfl
set_option maxHeartbeats 1000000 in
theorem quoted_any (s : ByteArray) (w : World) (hs : s.size ≤ 10000000) :
    Calls Tryd.prog 27 #[.string s] w fun e w' => e = .returned (.string (mk (34 :: (qbody (ls s) ++ [34])))) ∧ Below w.heap.size w w' := by
  have F := Lib.hid (Bd.fresh w)
  have B0 := Lib.hid ((Below.refl w.heap.size w).alloc (Nat.le_refl _) (.cells #[.pointer none, .slice none 0 0] 38))
  go_enter Tryd.func27, Tryd.ntmps27
  go_wp2_with (go_at_call 12; (with_reducible refine (wb_num F.out 34 34 rfl (by decide) (by simp)).mono ?_); rintro e w1 ⟨rfl, h1, h2⟩; have F1 : Hid (Bd w.heap.size w.heap.size (34 :: qbody ((ls s).take 0)) w1) := Lib.hid h1; have B1 := Lib.hid (B0.out.trans h2); clear h1 h2)
  go_loopw [9] (fun i wr => ∃ k : Nat, k ≤ s.size ∧ i = .int .i64 k ∧ Hid (Bd w.heap.size w.heap.size (34 :: qbody ((ls s).take k)) wr) ∧ Hid (Below w.heap.size w wr)) (fun i _ => s.size - (intOf i).toNat)
  case atStart => exact ⟨0, Nat.zero_le _, rfl, F1, B1⟩
  case round =>
    clear F F1 B0 B1
    obtain ⟨k, hk, rfl, F1, B1⟩ := hrel
    have hsz := B1.out.size
    by_cases hlt : k < s.size
    · have C := indexByte_any ⟨#[10, 9, 34, 92]⟩ s[k] wr
      have hln : (34 :: qbody ((ls s).take k)).length ≤ 30000000 := by
        have h1 := qbody_le ((ls s).take k)
        have h2 : ((ls s).take k).length ≤ s.size := by rw [List.length_take, ls_length]; omega
        simp only [List.length_cons]; omega
      rw [show ls (⟨#[10, 9, 34, 92]⟩ : ByteArray) = [10, 9, 34, 92] from rfl] at C
      have HT := take_snoc s k hlt
      obtain ⟨acc, ha⟩ : ∃ acc, acc = 34 :: qbody ((ls s).take k) := ⟨_, rfl⟩
      have HN : Hid (34 :: qbody ((ls s).take (k + 1)) = acc ++ qbyte s[k]) := Lib.hid (by rw [HT, qbody_snoc, ha]; rfl)
      rw [← ha] at F1 hln
      clear HT ha
      rcases index_q s[k] with ⟨hq, hi⟩ | ⟨hc, hi, hq⟩ | ⟨hc, hi, hq⟩ | ⟨hc, hi, hq⟩ | ⟨hc, hi, hq⟩
      · rw [hi] at C
        rw [hq] at HN
        clear hi hq
        go_wp2_with (first
          | (go_at_call 38; refine C.mono ?_; rintro e w' ⟨rfl, rfl⟩)
          | (go_at_call 12; (with_reducible refine (wb_any F1.out _ (by omega) hsz).mono ?_); rintro e w2 ⟨rfl, h1, h2⟩; have F2 := Lib.hid h1; have B2 := Lib.hid (B1.out.trans h2); clear h1 h2))
        go_roundw
        case rel => exact ⟨k + 1, by omega, by go_num, by rw [HN.out]; exact F2, B2⟩
        case measure => simp [intOf]; omega
      · rw [hi] at C
        rw [hq] at HN
        clear hi hq hc
        go_wp2_with (first
          | (go_at_call 38; refine C.mono ?_; rintro e w' ⟨rfl, rfl⟩)
          | (go_at_call 12; have F2' := F2; (with_reducible refine (wb_any F2.out _ (by simp; omega) hsz2).mono ?_); rintro e w3 ⟨rfl, h1, h2⟩; have F3 : Hid (Bd w.heap.size w.heap.size ((acc ++ [92]) ++ [110]) w3) := Lib.hid h1; have B3 := Lib.hid (B2.out.trans h2); clear h1 h2)
          | (go_at_call 12; (with_reducible refine (wb_num F1.out 92 92 rfl (by omega) hsz).mono ?_); rintro e w2 ⟨rfl, h1, h2⟩; have F2 := Lib.hid h1; have B2 := Lib.hid (B1.out.trans h2); have hsz2 := Nat.le_trans hsz h2.size; clear h1 h2))
        go_roundw
        case rel => exact ⟨k + 1, by omega, by go_num, by rw [HN.out]; have := F3.out; rw [List.append_assoc] at this; exact Lib.hid this, B3⟩
        case measure => simp [intOf]; omega
      · rw [hi] at C
        rw [hq] at HN
        clear hi hq hc
        go_wp2_with (first
          | (go_at_call 38; refine C.mono ?_; rintro e w' ⟨rfl, rfl⟩)
          | (go_at_call 12; have F2' := F2; (with_reducible refine (wb_any F2.out _ (by simp; omega) hsz2).mono ?_); rintro e w3 ⟨rfl, h1, h2⟩; have F3 : Hid (Bd w.heap.size w.heap.size ((acc ++ [92]) ++ [116]) w3) := Lib.hid h1; have B3 := Lib.hid (B2.out.trans h2); clear h1 h2)
          | (go_at_call 12; (with_reducible refine (wb_num F1.out 92 92 rfl (by omega) hsz).mono ?_); rintro e w2 ⟨rfl, h1, h2⟩; have F2 := Lib.hid h1; have B2 := Lib.hid (B1.out.trans h2); have hsz2 := Nat.le_trans hsz h2.size; clear h1 h2))
        go_roundw
        case rel => exact ⟨k + 1, by omega, by go_num, by rw [HN.out]; have := F3.out; rw [List.append_assoc] at this; exact Lib.hid this, B3⟩
        case measure => simp [intOf]; omega
      · rw [hi] at C
        rw [hq] at HN
        clear hi hq hc
        go_wp2_with (first
          | (go_at_call 38; refine C.mono ?_; rintro e w' ⟨rfl, rfl⟩)
          | (go_at_call 12; have F2' := F2; (with_reducible refine (wb_any F2.out _ (by simp; omega) hsz2).mono ?_); rintro e w3 ⟨rfl, h1, h2⟩; have F3 : Hid (Bd w.heap.size w.heap.size ((acc ++ [92]) ++ [34]) w3) := Lib.hid h1; have B3 := Lib.hid (B2.out.trans h2); clear h1 h2)
          | (go_at_call 12; (with_reducible refine (wb_num F1.out 92 92 rfl (by omega) hsz).mono ?_); rintro e w2 ⟨rfl, h1, h2⟩; have F2 := Lib.hid h1; have B2 := Lib.hid (B1.out.trans h2); have hsz2 := Nat.le_trans hsz h2.size; clear h1 h2))
        go_roundw
        case rel => exact ⟨k + 1, by omega, by go_num, by rw [HN.out]; have := F3.out; rw [List.append_assoc] at this; exact Lib.hid this, B3⟩
        case measure => simp [intOf]; omega
      · rw [hi] at C
        rw [hq] at HN
        clear hi hq hc
        go_wp2_with (first
          | (go_at_call 38; refine C.mono ?_; rintro e w' ⟨rfl, rfl⟩)
          | (go_at_call 12; have F2' := F2; (with_reducible refine (wb_any F2.out _ (by simp; omega) hsz2).mono ?_); rintro e w3 ⟨rfl, h1, h2⟩; have F3 : Hid (Bd w.heap.size w.heap.size ((acc ++ [92]) ++ [92]) w3) := Lib.hid h1; have B3 := Lib.hid (B2.out.trans h2); clear h1 h2)
          | (go_at_call 12; (with_reducible refine (wb_num F1.out 92 92 rfl (by omega) hsz).mono ?_); rintro e w2 ⟨rfl, h1, h2⟩; have F2 := Lib.hid h1; have B2 := Lib.hid (B1.out.trans h2); have hsz2 := Nat.le_trans hsz h2.size; clear h1 h2))
        go_roundw
        case rel => exact ⟨k + 1, by omega, by go_num, by rw [HN.out]; have := F3.out; rw [List.append_assoc] at this; exact Lib.hid this, B3⟩
        case measure => simp [intOf]; omega
    · have hk2 : k = s.size := by omega
      have HA : Hid ((34 :: qbody ((ls s).take k)) ++ [34] = 34 :: (qbody (ls s) ++ [34])) := Lib.hid (by rw [hk2, List.take_of_length_le (by rw [ls_length]; omega)]; rfl)
      have hln : (34 :: qbody ((ls s).take k)).length ≤ 30000000 := by
        have h1 := qbody_le ((ls s).take k)
        have h2 : ((ls s).take k).length ≤ s.size := by rw [List.length_take, ls_length]; omega
        simp only [List.length_cons]; omega
      obtain ⟨acc, ha⟩ : ∃ acc, acc = 34 :: qbody ((ls s).take k) := ⟨_, rfl⟩
      rw [← ha] at F1 hln HA
      clear ha hk2
      go_wp2_with (first
        | (go_at_call 12; (with_reducible refine (wb_num F1.out 34 34 rfl (by omega) hsz).mono ?_); rintro e w2 ⟨rfl, h1, h2⟩; have F2 := Lib.hid h1; have B2 := Lib.hid (B1.out.trans h2); have hsz2 := Nat.le_trans hsz h2.size; clear h1 h2)
        | (go_at_call 15; (with_reducible refine (str_any F2.out hsz2).mono ?_); rintro e w3 ⟨rfl, -, h2⟩; have B3 := Lib.hid (B2.out.trans h2); clear h2))
      go_ret
      exact ⟨str_ret (by rw [HA.out]), B3.out⟩
end Go.Proofs.YtkagfhfjomhkdaaDoor
