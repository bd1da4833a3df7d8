/-
  cutInt of lex: an integer off the beginning of a string.
-/
import Derived.Test.YtkagfhfjomhkdaaDoorCutA
import Derived.Test.YtkagfhfjomhkdaaDoorParse
namespace Go.Proofs.YtkagfhfjomhkdaaDoor
open Go.RowKit L7
theorem dg_dig (c : UInt8) : isDg c = digB c := by
  rw [isDg_int, Bool.eq_iff_iff, digB_iff]; simp; omega
theorem all_dg (l : Bs) : l.all isDg = l.all digB := by
  induction l with
  | nil => rfl
  | cons a l ih => simp [dg_dig, ih]
theorem tw_all (p : UInt8 → Bool) (l : Bs) : (l.takeWhile p).all p = true := by
  rw [List.all_eq_true]; exact fun _ h => tw_mem h
theorem canon_dg (d : Bs) (hd : d.all isDg = true) (hne : d ≠ []) (h0 : ¬ (d.head? = some 48 ∧ 1 < d.length)) : canonB d = true ∧ canV d = (L7.val d : Nat) := by
  cases d with
  | nil => exact absurd rfl hne
  | cons c r =>
    rw [all_dg] at hd
    have hc := (digB_iff c).1 (by simp at hd; exact hd.1)
    refine ⟨?_, ?_⟩
    · show (if c.toNat = 45 then posB r else if c.toNat = 48 then r.isEmpty else posB (c :: r)) = true
      rw [if_neg (by omega)]
      split
      · rename_i h48
        have : c = 48 := UInt8.toNat_inj.1 h48
        subst this
        cases r with
        | nil => rfl
        | cons a r => exact absurd ⟨rfl, by simp⟩ h0
      · rename_i h48
        show (decide (c.toNat ≠ 48) && (c :: r).all digB) = true
        rw [hd]
        simpa using h48
    · show (if c.toNat = 45 then -(valN 0 r : Int) else (valN 0 (c :: r) : Int)) = _
      rw [if_neg (by omega)]
      rfl
theorem parse_dg (d : Bs) (hd : d.all isDg = true) (hne : d ≠ []) (h0 : ¬ (d.head? = some 48 ∧ 1 < d.length)) : parseF d 0 9007199254740992 = if 9007199254740992 < L7.val d then ((0 : Int), false) else (((L7.val d : Nat) : Int), true) := by
  obtain ⟨h1, h2⟩ := canon_dg d hd hne h0
  unfold parseF
  rw [h1, h2]
  split
  · rename_i h; rw [if_neg (by omega)]
  · rename_i h; rw [if_pos (by simp at h; omega)]
/-- Digits and a word's bytes: where the digits end, no byte of a word follows, or more bytes of a word follow. -/
theorem tw_nm (l : Bs) : (l.takeWhile isDg).length < (l.takeWhile isNm).length ↔ headNm (l.dropWhile isDg) = true := by
  induction l with
  | nil => simp [headNm]
  | cons a l ih =>
    cases hd : isDg a with
    | true =>
      have hn := nm_of_dg hd
      simp only [List.takeWhile, List.dropWhile, hd, hn, List.length_cons]
      rw [← ih]; omega
    | false =>
      cases hn : isNm a <;> simp [List.takeWhile, List.dropWhile, hd, hn, headNm]
theorem dg_le_nm (l : Bs) : (l.takeWhile isDg).length ≤ (l.takeWhile isNm).length := by
  induction l with
  | nil => simp
  | cons a l ih =>
    cases hd : isDg a with
    | true =>
      have hn := nm_of_dg hd
      simp only [List.takeWhile, hd, hn, List.length_cons]
      omega
    | false => simp [List.takeWhile, hd]
theorem tw_add (p : UInt8 → Bool) (l : Bs) : (l.takeWhile p).length + (l.dropWhile p).length = l.length := by
  rw [← List.length_append, List.takeWhile_append_dropWhile]
theorem tokInt_eq (s : ByteArray) (b : UInt8) (r : Bs) (hl : ls s = b :: r) (hb : isDg b = true) : tokInt (b :: r.takeWhile isDg) (r.dropWhile isDg) = tokInt ((ls s).takeWhile isDg) ((ls s).dropWhile isDg) := by
  rw [hl, List.takeWhile, hb, List.dropWhile, hb]
theorem bcell {W w1 : World} {B : Nat} (hb : Below B W w1) : (∀ b o, b < B → w1.cell? ⟨b, o, none⟩ = W.cell? ⟨b, o, none⟩) ∧ (∀ b o, b < B → w1.frozen? ⟨b, o, none⟩ = W.frozen? ⟨b, o, none⟩) :=
  ⟨fun b o h => hb.cell (p := ⟨b, o, none⟩) h, fun b o h => hb.frozen (p := ⟨b, o, none⟩) h⟩
set_option maxHeartbeats 400000 in
/-- The call where the integer's form is wrong. -/
theorem cutInt_bad (s : ByteArray) (m n : Nat) (w : World) (h0 : 1 ≤ s.size) (h1 : m ≤ 100000000)
    (D : Hid (∀ W, Calls Tryd.prog 31 #[.string s, .func (.func 19) #[] #[]] W fun e w' => e = .returned (.int .i64 (m : Nat)) ∧ W = w'))
    (M : Hid (∀ W, Calls Tryd.prog 31 #[.string s, .func (.func 32) #[] #[]] W fun e w' => e = .returned (.int .i64 (n : Nat)) ∧ W = w'))
    (h : m < n ∨ (¬ m < n ∧ 1 < m ∧ ((s[0].toNat : Int) == 48) = true)) :
    Calls Tryd.prog 20 #[.string s] w fun e w' => e = .returned (.tuple #[.agg #[.int .i64 0, .string ⟨#[]⟩, .int .i64 0, .int .i64 0], .int .i64 0, .int .i64 2]) ∧ Below w.heap.size w w' := by
  rcases h with h | ⟨h, h3, h4⟩
  all_goals
    go_enter Tryd.func20, Tryd.ntmps20
    go_wp2_with (first
      | (go_at_call 31; (with_reducible refine (D.out _).mono ?_); rintro e w' ⟨rfl, rfl⟩)
      | (go_at_call 31; (with_reducible refine (M.out _).mono ?_); rintro e w' ⟨rfl, rfl⟩))
    exact bodyPost_ret (v := .tuple #[.agg #[.int .i64 0, .string ⟨#[]⟩, .int .i64 0, .int .i64 0], .int .i64 0, .int .i64 2]) (by simp [results, Tryd.results20, go_sem]) rfl ⟨rfl, (Below.refl _ _).alloc (Nat.le_refl _) _⟩
set_option maxHeartbeats 400000 in
/-- The call where the form is right: the digits are parsed. -/
theorem cutInt_ok (s : ByteArray) (m n : Nat) (x : Int) (ok : Bool) (w : World) (h0 : 1 ≤ s.size) (h1 : m ≤ s.size)
    (D : Hid (∀ W, Calls Tryd.prog 31 #[.string s, .func (.func 19) #[] #[]] W fun e w' => e = .returned (.int .i64 (m : Nat)) ∧ W = w'))
    (M : Hid (∀ W, Calls Tryd.prog 31 #[.string s, .func (.func 32) #[] #[]] W fun e w' => e = .returned (.int .i64 (n : Nat)) ∧ W = w'))
    (P : Hid (∀ o : Obj, Calls Tryd.prog 33 #[.string (s.extract 0 m), .int .i64 0, .int .i64 9007199254740992] (w.alloc o) fun e w' => e = .returned (.tuple #[.int .i64 x, .bool ok]) ∧ Below (w.heap.size + 1) (w.alloc o) w'))
    (_ : s.size ≤ 100000000) (h : ¬ m < n) (h' : (1 < m ∧ ((s[0].toNat : Int) == 48) = false) ∨ ¬ 1 < m) :
    Calls Tryd.prog 20 #[.string s] w fun e w' => e = .returned (if ok then .tuple #[.agg #[.int .i64 2, .string ⟨#[]⟩, .int .i64 x, .int .i64 0], .int .i64 m, .int .i64 0] else .tuple #[.agg #[.int .i64 0, .string ⟨#[]⟩, .int .i64 0, .int .i64 0], .int .i64 0, .int .i64 6]) ∧ Below w.heap.size w w' := by
  rcases h' with ⟨h3, h4⟩ | h3 <;> cases ok
  all_goals
    go_enter Tryd.func20, Tryd.ntmps20
    go_wp2_with (first
      | (go_at_call 31; (with_reducible refine (D.out _).mono ?_); rintro e w' ⟨rfl, rfl⟩)
      | (go_at_call 31; (with_reducible refine (M.out _).mono ?_); rintro e w' ⟨rfl, rfl⟩)
      | (go_at_call 33; (with_reducible refine (P.out _).mono ?_); rintro e w1 ⟨rfl, hb⟩; have J : Is w1 w.heap.size 32 #[.int .i64 0, .string ⟨#[]⟩, .int .i64 0, .int .i64 0] := (Is.fresh w 32 _).below hb (by omega); have y0 := J.at_ 0; have y1 := J.at_ 1; have y2 := J.at_ 2; have y3 := J.at_ 3; have fy0 := J.open_ 0; have fy1 := J.open_ 1; have fy2 := J.open_ 2; have fy3 := J.open_ 3; have hsz : w.heap.size < w1.heap.size := J.lt; simp at y0 y1 y2 y3; have HB := Lib.hid (((Below.refl w.heap.size w).alloc (Nat.le_refl _) _).trans (hb.mono (by omega))); clear hb J))
    first
      | exact bodyPost_ret (v := .tuple #[.agg #[.int .i64 0, .string ⟨#[]⟩, .int .i64 0, .int .i64 0], .int .i64 0, .int .i64 6]) (by simp [results, Tryd.results20, go_sem, y0, y1, y2, y3]) rfl ⟨rfl, (((HB.out.setCell (by simp) _).setCell (by simp) _).setCell (by simp) _).setCell (by simp) _⟩
      | exact bodyPost_ret (v := .tuple #[.agg #[.int .i64 2, .string ⟨#[]⟩, .int .i64 x, .int .i64 0], .int .i64 m, .int .i64 0]) (by simp [results, Tryd.results20, go_sem, y0, y1, y2, y3]) rfl ⟨rfl, (((HB.out.setCell (by simp) _).setCell (by simp) _).setCell (by simp) _).setCell (by simp) _⟩
theorem tok_int (d u : Bs) (n : Nat) (h1 : d.length + u.length = n) (hd : d.all isDg = true) (hne : d ≠ []) :
    cutV (tokInt d u) n = if (d.head? = some 48 ∧ 1 < d.length) ∨ headNm u = true then .tuple #[.agg #[.int .i64 0, .string ⟨#[]⟩, .int .i64 0, .int .i64 0], .int .i64 0, .int .i64 2]
      else if (parseF d 0 9007199254740992).2 = true then .tuple #[.agg #[.int .i64 2, .string ⟨#[]⟩, .int .i64 (parseF d 0 9007199254740992).1, .int .i64 0], .int .i64 (d.length : Nat), .int .i64 0]
      else .tuple #[.agg #[.int .i64 0, .string ⟨#[]⟩, .int .i64 0, .int .i64 0], .int .i64 0, .int .i64 6] := by
  by_cases h : (d.head? = some 48 ∧ 1 < d.length) ∨ headNm u = true
  · rw [if_pos h]
    have : tokInt d u = .error 2 := by unfold tokInt; rw [if_pos (by simpa using h)]
    rw [this]; rfl
  · rw [if_neg h, parse_dg d hd hne (fun k => h (.inl k))]
    unfold tokInt
    rw [if_neg (by simpa using h)]
    by_cases h2 : 9007199254740992 < L7.val d
    · rw [if_pos h2, if_pos h2]; rfl
    · rw [if_neg h2, if_neg h2, if_pos rfl]
      simp only [cutV, tokC]
      rw [show n - u.length = d.length by omega]
      rfl
theorem cutInt_any (s : ByteArray) (b : UInt8) (r : Bs) (hl : ls s = b :: r) (hb : isDg b = true) (w : World) (hw : Lies w) (hs : s.size ≤ 100000000) :
    Calls Tryd.prog 20 #[.string s] w fun e w' => e = .returned (cutV (tokInt (b :: r.takeWhile isDg) (r.dropWhile isDg)) s.size) ∧ Below w.heap.size w w' := by
  have h0 : 1 ≤ s.size := by rw [← ls_length, hl]; simp
  have hs0 : s[0] = b := by
    have := drop_at s 0 h0
    rw [hl] at this
    simpa using this.symm
  rw [tokInt_eq s b r hl hb]
  have hne : (ls s).takeWhile isDg ≠ [] := by rw [hl, List.takeWhile, hb]; simp
  have hh : ((ls s).takeWhile isDg).head? = some b := by rw [hl, List.takeWhile, hb]; rfl
  have hadd := tw_add isDg (ls s)
  have hnm := tw_nm (ls s)
  have hle := tw_le isDg (ls s)
  have hle2 := tw_le isNm (ls s)
  have hall := tw_all isDg (ls s)
  have HE : s.extract 0 ((ls s).takeWhile isDg).length = mk ((ls s).takeWhile isDg) := by rw [extract_take, tw_take]
  rw [ls_length] at hle hle2 hadd
  rw [tok_int _ _ _ hadd hall hne, hh]
  have D := Lib.hid (fun W => prefDg_any s W hs)
  have M := Lib.hid (fun W => prefNm_any s W hs)
  have h48 : ((s[0].toNat : Int) == 48) = decide (some b = some (48 : UInt8)) := by
    rw [hs0, show ((b.toNat : Int) == 48) = (b == 48) from (eq_nat 48 b (by decide)).symm]
    rw [Bool.eq_iff_iff]; simp
  by_cases h : (some b = some (48 : UInt8) ∧ 1 < ((ls s).takeWhile isDg).length) ∨ headNm ((ls s).dropWhile isDg) = true
  · rw [if_pos h]
    refine cutInt_bad s _ _ w h0 (by omega) D M ?_
    by_cases hm : ((ls s).takeWhile isDg).length < ((ls s).takeWhile isNm).length
    · exact .inl hm
    · rcases h with h | h
      · exact .inr ⟨hm, h.2, by rw [h48]; simpa using h.1⟩
      · exact absurd (hnm.2 h) hm
  · rw [if_neg h]
    have hm : ¬ ((ls s).takeWhile isDg).length < ((ls s).takeWhile isNm).length := fun k => h (.inr (hnm.1 k))
    refine cutInt_ok s _ _ (parseF ((ls s).takeWhile isDg) 0 9007199254740992).1 (parseF ((ls s).takeWhile isDg) 0 9007199254740992).2 w h0 hle D M (Lib.hid fun o => ?_) hs hm ?_
    · have := parse_any (s.extract 0 ((ls s).takeWhile isDg).length) 0 9007199254740992 (by decide) (by decide) (by rw [HE, size_mk]; omega) (w.alloc o) (hw.on ((Below.refl _ _).alloc (Nat.le_refl _) _))
      rw [HE] at this ⊢
      have e : (w.alloc o).heap.size = w.heap.size + 1 := by simp
      rw [e] at this
      exact this
    · by_cases h1 : 1 < ((ls s).takeWhile isDg).length
      · exact .inl ⟨h1, by rw [h48]; simpa using fun k => h (.inl ⟨by rw [k], h1⟩)⟩
      · exact .inr h1
end Go.Proofs.YtkagfhfjomhkdaaDoor
