/-
  The contracts of Parse and Text of package num.
-/
import Derived.Test.YtkagfhfjomhkdaaDoorProg
import Derived.Test.YtkagfhfjomhkdaaDoorDec
import Derived.Test.YtkagfhfjomhkdaaDoorShelf
import Derived.Test.YtkagfhfjomhkdaaDoorCanon
import Derived.WalkKit
import Derived.WalkSpells
import Derived.Lib.SmallJoins
import Derived.Lib.AppendIntMem
import Derived.Lib.AtoiErrMem
namespace Go.Proofs.YtkagfhfjomhkdaaDoor
open Go.RowKit

/-- What the calls ask of the world: the table that Itoa reads, and the error that Atoi copies. -/
structure Lies (w : World) : Prop where
  tab : Lib.TabIs Tryd.prog w "internal/strconv.uint64pow10" .u64 Lib.pow10Tab
  err : ∃ tp p, w.var? Tryd.prog "strconv.ErrRange" = some #[.iface tp p]

theorem gTab : Tryd.prog.globalNamed "internal/strconv.uint64pow10" = some 3 := by kernel_rfl
theorem gErr : Tryd.prog.globalNamed "strconv.ErrRange" = some 2 := by kernel_rfl
theorem Lies.on {w w' : World} (h : Lies w) (hb : Below w.heap.size w w') : Lies w' :=
  ⟨Joins.tab_stays gTab h.tab hb (Nat.le_refl _), by
    obtain ⟨tp, p, e⟩ := h.err
    exact ⟨tp, p, Joins.var_stays gErr e hb (Nat.le_refl _)⟩⟩

theorem text_any (n : Int) (h0 : -9223372036854775808 ≤ n) (h1 : n ≤ 9223372036854775807) (w : World) (hw : Lies w) :
    Calls Tryd.prog 26 #[.int .i64 n] w fun e w' => e = .returned (.string ⟨(Lib.itoa n).toArray⟩) ∧ Below w.heap.size w w' := by
  have htab := hw.tab
  go_enter Tryd.func26, Tryd.ntmps26
  go_wp2_with (go_at_call 37; refine (Tryd.strconv_Itoa n h0 h1 _ htab).mono ?_; rintro e w' ⟨rfl, hg⟩)
  go_ret
  obtain ⟨k, os, rfl⟩ := hg
  exact ⟨rfl, Lib.below_grow _ _ (Nat.le_refl _) _ _⟩

theorem atoi_below {w w1 w2 : World} (hb : Below w.heap.size w w1) (h : w2 = w1 ∨ ∃ t, w2 = Lib.bytesWorld w1 5 t) : Below w.heap.size w w2 := by
  rcases h with rfl | ⟨t, rfl⟩
  · exact hb
  · exact hb.trans ((Lib.bytesWorld_below _ _ _).mono hb.size)
set_option maxHeartbeats 400000 in
theorem parse_any (s : ByteArray) (low high : Int) (h0 : -9223372036854775808 ≤ low) (h1 : high ≤ 9223372036854775807) (hs : s.size ≤ 281474976710656) (w : World) (hw : Lies w) :
    Calls Tryd.prog 33 #[.string s, .int .i64 low, .int .i64 high] w fun e w' => e = .returned (.tuple #[.int .i64 (parseF s.data.toList low high).1, .bool (parseF s.data.toList low high).2]) ∧ Below w.heap.size w w' := by
  have hcan := canon_any s w (by omega)
  cases hc : canonB s.data.toList with
  | false =>
    rw [show parseF s.data.toList low high = (0, false) from if_neg (fun k => by rw [hc] at k; cases k.1)]
    rw [hc] at hcan
    clear hc
    go_enter Tryd.func33, Tryd.ntmps33
    go_wp2_with (go_at_call 40; refine hcan.mono ?_; rintro e w' ⟨rfl, hb⟩)
    go_ret2
    exact ⟨rfl, hb⟩
  | true =>
    have hat := canon_atoi s.data.toList hc
    rw [hc] at hcan
    by_cases hr : -9223372036854775808 ≤ canV s.data.toList ∧ canV s.data.toList ≤ 9223372036854775807
    · rw [if_pos hr] at hat
      have hok := fun W => Tryd.strconv_Atoi_ok s (by omega) _ hat W
      by_cases hin : low ≤ canV s.data.toList ∧ canV s.data.toList ≤ high
      · rw [show parseF s.data.toList low high = (canV s.data.toList, true) from if_pos ⟨hc, hin.1, hin.2⟩]
        obtain ⟨h2, h3⟩ := hin
        generalize canV s.data.toList = v at hok h2 h3 hr hat
        clear hc hr hat
        go_enter Tryd.func33, Tryd.ntmps33
        go_wp2_with (go_at_call 40; refine hcan.mono ?_; rintro e w1 ⟨rfl, hb⟩)
        refine (hok _).mono ?_
        rintro e w2 ⟨rfl, hw2⟩
        have hb2 := atoi_below hb hw2
        clear hw2
        go_wp2
        go_ret2
        exact ⟨rfl, hb2⟩
      · rw [show parseF s.data.toList low high = (0, false) from if_neg (fun k => hin ⟨k.2.1, k.2.2⟩)]
        generalize canV s.data.toList = v at hok hin hr hat
        clear hc hr hat
        by_cases h2 : v < low
        · clear hin
          go_enter Tryd.func33, Tryd.ntmps33
          go_wp2_with (go_at_call 40; refine hcan.mono ?_; rintro e w1 ⟨rfl, hb⟩)
          refine (hok _).mono ?_
          rintro e w2 ⟨rfl, hw2⟩
          have hb2 := atoi_below hb hw2
          clear hw2
          go_wp2
          go_ret2
          exact ⟨rfl, hb2⟩
        · have h2' : low ≤ v := by omega
          have h3 : high < v := by omega
          clear hin h2
          go_enter Tryd.func33, Tryd.ntmps33
          go_wp2_with (go_at_call 40; refine hcan.mono ?_; rintro e w1 ⟨rfl, hb⟩)
          refine (hok _).mono ?_
          rintro e w2 ⟨rfl, hw2⟩
          have hb2 := atoi_below hb hw2
          clear hw2
          go_wp2
          go_ret2
          exact ⟨rfl, hb2⟩
    · rw [if_neg hr] at hat
      rw [show parseF s.data.toList low high = (0, false) from if_neg (fun k => hr ⟨by omega, by omega⟩)]
      obtain ⟨tp, p, hv⟩ := hw.err
      have hrange := fun (W : World) (h : W.var? Tryd.prog "strconv.ErrRange" = some #[.iface tp p]) => Tryd.strconv_Atoi_range_var s hs hat tp p W h
      clear hc hr hat
      go_enter Tryd.func33, Tryd.ntmps33
      go_wp2_with (go_at_call 40; refine hcan.mono ?_; rintro e w1 ⟨rfl, hb⟩)
      refine (hrange _ (Joins.var_stays gErr hv hb (Nat.le_refl _))).mono ?_
      rintro e w2 ⟨N, rfl, -, -, hb2⟩
      have hb3 := hb.trans (hb2.mono hb.size)
      clear hb2
      go_wp2
      go_ret2
      exact ⟨rfl, hb3⟩
end Go.Proofs.YtkagfhfjomhkdaaDoor
