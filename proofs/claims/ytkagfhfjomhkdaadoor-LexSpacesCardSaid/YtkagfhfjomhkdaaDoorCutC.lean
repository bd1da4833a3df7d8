/-
  cutText of lex: a string literal off the beginning of a string.
-/
import Derived.Test.YtkagfhfjomhkdaaDoorCutB
import Derived.Test.YtkagfhfjomhkdaaDoorOut
namespace Go.Proofs.YtkagfhfjomhkdaaDoor
open Go.RowKit L7
theorem elem_le (l : Bs) : (elem l).2 ≤ 2 := by
  unfold elem
  split
  · exact Nat.zero_le 2
  · split
    · exact Nat.zero_le 2
    · split
      · exact Nat.le_succ 1
      · split
        · exact Nat.zero_le 2
        · split
          · exact Nat.zero_le 2
          · exact Nat.le_refl 2
set_option maxRecDepth 20000 in
set_option maxHeartbeats 1000000 in
theorem cutText_any (s : ByteArray) (r : Bs) (hl : ls s = 34 :: r) (w : World) (hs : s.size ≤ 1000000) :
    Calls Tryd.prog 21 #[.string s] w fun e w' => e = .returned (cutV (tokLit (lit r)) s.size) ∧ Below w.heap.size w w' := by
  have hz : s.size = r.length + 1 := by rw [← ls_length, hl]; rfl
  have h0 : 1 ≤ s.size := by omega
  have hd1 : (ls s).drop 1 = r := by rw [hl]; rfl
  obtain ⟨v, hv⟩ : ∃ v, v = cutV (tokLit (lit r)) s.size := ⟨_, rfl⟩
  rw [← hv]
  have HV := Lib.hid hv
  have EL : Hid (∀ p W, Calls Tryd.prog 34 #[.string (s.extract p s.size)] W fun e w' => e = .returned (.tuple #[.int .u8 ((elem ((ls s).drop p)).1.toNat : Int), .int .i64 ((elem ((ls s).drop p)).2 : Nat)]) ∧ W = w') := Lib.hid (fun p W => by
    have := element_any (s.extract p s.size) W
    rw [extract_drop, ls_mk] at this
    rw [extract_drop]
    exact this)
  obtain ⟨c0, n0, HX0⟩ : ∃ c n, Hid (elem ((ls s).drop 1) = (c, n)) := ⟨_, _, Lib.hid rfl⟩
  have E0 : Hid (∀ W, Calls Tryd.prog 34 #[.string (s.extract 1 s.size)] W fun e w' => e = .returned (.tuple #[.int .u8 (c0.toNat : Int), .int .i64 (n0 : Nat)]) ∧ W = w') := Lib.hid (fun W => by
    have := EL.out 1 W
    rw [HX0.out] at this
    exact this)
  have HL : Hid (lit r = (lit ((ls s).drop 1)).map fun x => ([] ++ x.1, x.2)) := Lib.hid (by rw [hd1]; cases lit r <;> simp)
  have F0 : Hid (Bd (w.heap.size + 1) (w.heap.size + 1) [] ((w.alloc (.cells #[.int .i64 0, .string ⟨#[]⟩, .int .i64 0, .int .i64 0] 32)).alloc (.cells #[.pointer none, .slice none 0 0] 38))) := Lib.hid (by
    have := Bd.fresh (w.alloc (.cells #[.int .i64 0, .string ⟨#[]⟩, .int .i64 0, .int .i64 0] 32))
    simpa using this)
  have J0 : Hid (Is ((w.alloc (.cells #[.int .i64 0, .string ⟨#[]⟩, .int .i64 0, .int .i64 0] 32)).alloc (.cells #[.pointer none, .slice none 0 0] 38)) w.heap.size 32 #[.int .i64 0, .string ⟨#[]⟩, .int .i64 0, .int .i64 0]) := Lib.hid ((Is.fresh w 32 _).alloc _)
  have B0 : Hid (Below w.heap.size w ((w.alloc (.cells #[.int .i64 0, .string ⟨#[]⟩, .int .i64 0, .int .i64 0] 32)).alloc (.cells #[.pointer none, .slice none 0 0] 38))) := Lib.hid (((Below.refl _ _).alloc (Nat.le_refl _) _).alloc (by simp) _)
  have Z0 : Hid (w.heap.size + 2 ≤ ((w.alloc (.cells #[.int .i64 0, .string ⟨#[]⟩, .int .i64 0, .int .i64 0] 32)).alloc (.cells #[.pointer none, .slice none 0 0] 38)).heap.size) := Lib.hid (by simp)
  have HZ := Lib.hid hz
  have HQ := Lib.hid hl
  clear hv hl hd1 hz
  obtain ⟨b0, hb0⟩ : ∃ b0, b0 = w.heap.size := ⟨_, rfl⟩
  go_enter Tryd.func21, Tryd.ntmps21
  go_wp2_with (go_at_call 34; (with_reducible refine (E0.out _).mono ?_); rintro e w' ⟨rfl, rfl⟩)
  go_loopw [6, 7, 8] (fun v6 v7 v8 wr => ∃ (p : Nat) (acc : Bs) (c : UInt8) (n : Nat), 1 ≤ p ∧ p ≤ s.size ∧ acc.length < p ∧ v6 = .int .i64 p ∧ v7 = .int .u8 (c.toNat : Int) ∧ v8 = .int .i64 (n : Nat) ∧ Hid (elem ((ls s).drop p) = (c, n)) ∧
    Hid (lit r = (lit ((ls s).drop p)).map fun x => (acc ++ x.1, x.2)) ∧ Hid (Bd (w.heap.size + 1) (w.heap.size + 1) acc wr) ∧ Hid (Is wr w.heap.size 32 #[.int .i64 0, .string ⟨#[]⟩, .int .i64 0, .int .i64 0]) ∧ Hid (Below w.heap.size w wr) ∧ w.heap.size + 2 ≤ wr.heap.size) (fun v6 _ _ _ => s.size - (intOf v6).toNat)
  case atStart => exact ⟨1, [], c0, n0, Nat.le_refl _, h0, Nat.zero_lt_one, rfl, rfl, rfl, HX0, HL, F0, J0, B0, Z0.out⟩
  case round =>
    clear HX0 HL F0 J0 B0 Z0 E0
    obtain ⟨p, acc, c, n, hp1, hps, hap, rfl, rfl, rfl, HX, HL, F, J, B, hsz⟩ := hrel
    have hB1 : w.heap.size + 1 ≤ wr.heap.size := by omega
    by_cases hn : 0 < n
    · obtain ⟨m, hm⟩ : ∃ m, n = m + 1 := ⟨n - 1, by omega⟩
      have hgo := lit_go ((ls s).drop p) c m (by rw [HX.out, hm])
      rw [← hm, List.length_drop, ls_length, List.drop_drop] at hgo
      obtain ⟨hlen, hlit⟩ := hgo
      have HL2 : Hid (lit r = (lit ((ls s).drop (p + n))).map fun x => ((acc ++ [c]) ++ x.1, x.2)) := Lib.hid (by
        rw [HL.out, hlit]
        cases lit ((ls s).drop (p + n)) <;> simp)
      obtain ⟨c2, n2, HX2⟩ : ∃ c n', Hid (elem ((ls s).drop (p + n)) = (c, n')) := ⟨_, _, Lib.hid rfl⟩
      have E2 : Hid (∀ W, Calls Tryd.prog 34 #[.string (s.extract (p + n) s.size)] W fun e w' => e = .returned (.tuple #[.int .u8 (c2.toNat : Int), .int .i64 (n2 : Nat)]) ∧ W = w') := Lib.hid (fun W => by
        have := EL.out (p + n) W
        rw [HX2.out] at this
        exact this)
      clear hlit hm HL HX m
      go_wp2_with (first
        | (go_at_call 12; (with_reducible refine (wb_any F.out _ (by omega) hB1).mono ?_); rintro e w2 ⟨rfl, h1, h2⟩; have F2 := Lib.hid h1; have J2 := Lib.hid (J.out.below h2 (by omega)); have B2 := Lib.hid (B.out.trans (h2.mono (by omega))); have hsz2 := Nat.le_trans hsz h2.size; clear h1 h2)
        | (go_at_call 34; (with_reducible refine (E2.out _).mono ?_); rintro e w' ⟨rfl, rfl⟩))
      go_roundw
      case rel => exact ⟨p + n, acc ++ [c], c2, n2, by omega, by omega, by simp; omega, by go_num, rfl, rfl, HX2, HL2, F2, J2, B2, hsz2⟩
      case measure => simp [intOf]; omega
    · obtain rfl : n = 0 := by omega
      have hst := lit_stop ((ls s).drop p) (by rw [HX.out])
      have P := fun W => hasPrefix_any (s.extract p s.size) ⟨#[34]⟩ W
      rw [extract_drop, ls_mk, show ls (⟨#[34]⟩ : ByteArray) = [34] from rfl] at P
      rw [← extract_drop] at P
      have hpx : Lib.hasPrefix ((ls s).drop p) [34] = decide (((ls s).drop p).head? = some 34) := by
        cases (ls s).drop p with
        | nil => rfl
        | cons a l => rw [Bool.eq_iff_iff]; simp [Lib.hasPrefix, List.isPrefixOf]; exact eq_comm
      have htl : ((ls s).drop p).tail.length = s.size - p - 1 := by rw [List.length_tail, List.length_drop, ls_length]
      by_cases hh : ((ls s).drop p).head? = some 34
      · rw [if_pos hh] at hst
        rw [hpx, decide_eq_true hh] at P
        have hp3 : p < s.size := by
          apply Nat.lt_of_not_le
          intro hge
          rw [List.drop_eq_nil_of_le (by rw [ls_length]; omega)] at hh
          cases hh
        have hlr : lit r = some (acc, ((ls s).drop p).tail) := by rw [HL.out, hst]; simp
        have PP := Lib.hid P
        have LN := fun W => @len_any (w.heap.size + 1) (w.heap.size + 1) acc W
        have LL := Lib.hid LN
        have hv2 := HV.out
        rw [hlr] at hv2
        clear hst hh hpx P LN hlr HL HX HV
        by_cases hbig : 4096 < acc.length
        · have HV2 : Hid (v = .tuple #[.agg #[.int .i64 0, .string ⟨#[]⟩, .int .i64 0, .int .i64 0], .int .i64 0, .int .i64 15]) := Lib.hid (by rw [hv2]; simp only [tokLit]; rw [if_pos hbig]; rfl)
          have g1 : decide ((4096 : Int) < (acc.length : Int)) = true := by simp; omega
          clear hv2 htl
          have y0 := J.out.at_ 0; have y1 := J.out.at_ 1; have y2 := J.out.at_ 2; have y3 := J.out.at_ 3; have fy0 := J.out.open_ 0; have fy1 := J.out.open_ 1; have fy2 := J.out.open_ 2; have fy3 := J.out.open_ 3; have hlt := J.out.lt; simp at y0 y1 y2 y3
          go_wp2_with (first
            | (go_at_call 29; (with_reducible refine (PP.out _).mono ?_); rintro e w' ⟨rfl, rfl⟩)
            | (go_at_call 35; (with_reducible refine (LL.out _ F.out).mono ?_); rintro e w' ⟨rfl, rfl⟩))
          rw [HV2.out]
          exact bodyPost_ret (v := .tuple #[.agg #[.int .i64 0, .string ⟨#[]⟩, .int .i64 0, .int .i64 0], .int .i64 0, .int .i64 15]) (by simp [results, Tryd.results21, go_sem, y0, y1, y2, y3]) rfl ⟨rfl, (((B.out.setCell (by simp) _).setCell (by simp) _).setCell (by simp) _).setCell (by simp) _⟩
        · have HV2 : Hid (v = .tuple #[.agg #[.int .i64 3, .string (mk acc), .int .i64 0, .int .i64 0], .int .i64 ((p : Int) + 1), .int .i64 0]) := Lib.hid (by
            rw [hv2]; simp only [tokLit]; rw [if_neg hbig]
            simp only [cutV, tokC]
            rw [htl, show ((s.size - (s.size - p - 1) : Nat) : Int) = (p : Int) + 1 by omega])
          have g1 : decide ((4096 : Int) < (acc.length : Int)) = false := by simp; omega
          clear hv2 htl
          go_wp2_with (first
            | (go_at_call 29; (with_reducible refine (PP.out _).mono ?_); rintro e w' ⟨rfl, rfl⟩)
            | (go_at_call 35; (with_reducible refine (LL.out _ F.out).mono ?_); rintro e w' ⟨rfl, rfl⟩)
            | (go_at_call 15; (with_reducible refine (str_any F.out hB1).mono ?_); rintro e w3 ⟨rfl, -, h2⟩; have J3 := Lib.hid (J.out.below h2 (by omega)); have B3 := Lib.hid (B.out.trans (h2.mono (by omega))); have y0 := J3.out.at_ 0; have y1 := J3.out.at_ 1; have y2 := J3.out.at_ 2; have y3 := J3.out.at_ 3; have fy0 := J3.out.open_ 0; have fy1 := J3.out.open_ 1; have fy2 := J3.out.open_ 2; have fy3 := J3.out.open_ 3; have hlt := J3.out.lt; simp at y0 y1 y2 y3; clear h2))
          rw [HV2.out]
          exact bodyPost_ret (v := .tuple #[.agg #[.int .i64 3, .string (mk acc), .int .i64 0, .int .i64 0], .int .i64 ((p : Int) + 1), .int .i64 0]) (by simp [results, Tryd.results21, go_sem, y0, y1, y2, y3]) rfl ⟨rfl, (((B3.out.setCell (by simp) _).setCell (by simp) _).setCell (by simp) _).setCell (by simp) _⟩
      · rw [if_neg hh] at hst
        rw [hpx, decide_eq_false hh] at P
        have hlr : lit r = none := by rw [HL.out, hst]; rfl
        have PP := Lib.hid P
        have HV2 : Hid (v = .tuple #[.agg #[.int .i64 0, .string ⟨#[]⟩, .int .i64 0, .int .i64 0], .int .i64 0, .int .i64 2]) := Lib.hid (by rw [HV.out, hlr]; rfl)
        clear hst hh hpx P hlr HL HX HV htl
        have y0 := J.out.at_ 0; have y1 := J.out.at_ 1; have y2 := J.out.at_ 2; have y3 := J.out.at_ 3; have fy0 := J.out.open_ 0; have fy1 := J.out.open_ 1; have fy2 := J.out.open_ 2; have fy3 := J.out.open_ 3; have hlt := J.out.lt; simp at y0 y1 y2 y3
        go_wp2_with (go_at_call 29; (with_reducible refine (PP.out _).mono ?_); rintro e w' ⟨rfl, rfl⟩)
        rw [HV2.out]
        exact bodyPost_ret (v := .tuple #[.agg #[.int .i64 0, .string ⟨#[]⟩, .int .i64 0, .int .i64 0], .int .i64 0, .int .i64 2]) (by simp [results, Tryd.results21, go_sem, y0, y1, y2, y3]) rfl ⟨rfl, (((B.out.setCell (by simp) _).setCell (by simp) _).setCell (by simp) _).setCell (by simp) _⟩
end Go.Proofs.YtkagfhfjomhkdaaDoor
