/-
  Functions of lex: is a string a name; one element of a string literal.
-/
import Derived.Test.YtkagfhfjomhkdaaDoorLeaf3
import Derived.Test.YtkagfhfjomhkdaaDoorCanon
namespace Go.Proofs.YtkagfhfjomhkdaaDoor
open Go.RowKit L7
/-- The byte that the first element stands for, and its length; 0 if there is none. -/
def elem : Bs → UInt8 × Nat
  | [] => (0, 0)
  | b :: r => if b == 10 || b == 34 then (0, 0) else if b != 92 then (b, 1) else match r with
    | [] => (0, 0)
    | c :: _ => match esc c with
      | none => (0, 0)
      | some e => (e, 2)
theorem lit_stop (l : Bs) (h : (elem l).2 = 0) : lit l = if l.head? = some 34 then some ([], l.tail) else none := by
  match l with
  | [] => rfl
  | [b] =>
    by_cases hb : b = 34
    · subst hb; rfl
    · simp [lit, hb]
  | b :: c :: s =>
    by_cases hb : b = 34
    · subst hb; rfl
    · by_cases h2 : b = 10
      · subst h2; simp [lit]
      · by_cases h3 : b = 92
        · subst h3
          cases he : esc c with
          | none => simp [lit, he]
          | some e => simp [elem, he] at h
        · simp [elem, hb, h2, h3] at h
theorem lit_go (l : Bs) (c : UInt8) (n : Nat) (h : elem l = (c, n + 1)) : n + 1 ≤ l.length ∧ lit l = (lit (l.drop (n + 1))).map fun x => (c :: x.1, x.2) := by
  match l with
  | [] => simp [elem] at h
  | [b] =>
    by_cases hb : b = 34
    · subst hb; simp [elem] at h
    · by_cases h2 : b = 10
      · subst h2; simp [elem] at h
      · by_cases h3 : b = 92
        · subst h3; simp [elem] at h
        · simp [elem, hb, h2, h3] at h
          obtain ⟨rfl, rfl⟩ := h
          simp [lit, hb]
  | b :: d :: s =>
    by_cases hb : b = 34
    · subst hb; simp [elem] at h
    · by_cases h2 : b = 10
      · subst h2; simp [elem] at h
      · by_cases h3 : b = 92
        · subst h3
          cases he : esc d with
          | none => simp [elem, he] at h
          | some e =>
            simp [elem, he] at h
            obtain ⟨rfl, h⟩ := h
            obtain rfl : n = 1 := by omega
            simp [lit, he]
        · simp [elem, hb, h2, h3] at h
          obtain ⟨rfl, rfl⟩ := h
          simp [lit, hb, h2, h3]
theorem two_ret {a b : UInt8} {m n : Nat} (h : (a, m) = (b, n)) : Ending.returned (.tuple #[.int .u8 (a.toNat : Int), .int .i64 (m : Int)]) = Ending.returned (.tuple #[.int .u8 (b.toNat : Int), .int .i64 (n : Int)]) := by cases h; rfl
theorem el_nil (w : World) : Calls Tryd.prog 34 #[.string ⟨#[]⟩] w fun e w' => e = .returned (.tuple #[.int .u8 0, .int .i64 0]) ∧ w = w' := by
  go_enter Tryd.func34, Tryd.ntmps34
  go_wp2
  go_ret2
  exact ⟨rfl, rfl⟩
theorem el_lf (s : ByteArray) (w : World) (h0 : 1 ≤ s.size) (he : s.toList.isEmpty = false) (h1 : ((s[0].toNat : Int) == 10) = true) :
    Calls Tryd.prog 34 #[.string s] w fun e w' => e = .returned (.tuple #[.int .u8 0, .int .i64 0]) ∧ w = w' := by
  go_enter Tryd.func34, Tryd.ntmps34
  go_wp2
  go_ret2
  exact ⟨rfl, rfl⟩
theorem el_q (s : ByteArray) (w : World) (h0 : 1 ≤ s.size) (he : s.toList.isEmpty = false) (h1 : ((s[0].toNat : Int) == 10) = false) (h2 : ((s[0].toNat : Int) == 34) = true) :
    Calls Tryd.prog 34 #[.string s] w fun e w' => e = .returned (.tuple #[.int .u8 0, .int .i64 0]) ∧ w = w' := by
  go_enter Tryd.func34, Tryd.ntmps34
  go_wp2
  go_ret2
  exact ⟨rfl, rfl⟩
theorem el_plain (s : ByteArray) (w : World) (h0 : 1 ≤ s.size) (he : s.toList.isEmpty = false) (h1 : ((s[0].toNat : Int) == 10) = false) (h2 : ((s[0].toNat : Int) == 34) = false) (h3 : ((s[0].toNat : Int) != 92) = true) :
    Calls Tryd.prog 34 #[.string s] w fun e w' => e = .returned (.tuple #[.int .u8 (s[0].toNat : Int), .int .i64 1]) ∧ w = w' := by
  go_enter Tryd.func34, Tryd.ntmps34
  go_wp2
  go_ret2
  exact ⟨rfl, rfl⟩
theorem el_end (s : ByteArray) (w : World) (h0 : 1 ≤ s.size) (he : s.toList.isEmpty = false) (h1 : ((s[0].toNat : Int) == 10) = false) (h2 : ((s[0].toNat : Int) == 34) = false) (h3 : ((s[0].toNat : Int) != 92) = false) (h4 : ((s.size : Int) == 1) = true) :
    Calls Tryd.prog 34 #[.string s] w fun e w' => e = .returned (.tuple #[.int .u8 0, .int .i64 0]) ∧ w = w' := by
  go_enter Tryd.func34, Tryd.ntmps34
  go_wp2
  go_ret2
  exact ⟨rfl, rfl⟩
theorem el_esc0 (s : ByteArray) (w : World) (h0 : 2 ≤ s.size) (he : s.toList.isEmpty = false) (h1 : ((s[0].toNat : Int) == 10) = false) (h2 : ((s[0].toNat : Int) == 34) = false) (h3 : ((s[0].toNat : Int) != 92) = false) (h4 : ((s.size : Int) == 1) = false) (h5 : s[1] = 110) :
    Calls Tryd.prog 34 #[.string s] w fun e w' => e = .returned (.tuple #[.int .u8 10, .int .i64 2]) ∧ w = w' := by
  have C : Calls Tryd.prog 38 #[.string ⟨#[110, 116, 34, 92]⟩, .int .u8 (s[1].toNat : Int)] w fun e w' => e = .returned (.int .i64 0) ∧ w = w' := by
    have := indexByte_any ⟨#[110, 116, 34, 92]⟩ s[1] w
    rwa [show Lib.indexByte (ls ⟨#[110, 116, 34, 92]⟩) s[1] = 0 by rw [h5]; decide] at this
  clear h5
  go_enter Tryd.func34, Tryd.ntmps34
  go_wp2_with (go_at_call 38; refine C.mono ?_; rintro e w' ⟨rfl, rfl⟩)
  go_ret2
  exact ⟨rfl, rfl⟩
theorem el_esc1 (s : ByteArray) (w : World) (h0 : 2 ≤ s.size) (he : s.toList.isEmpty = false) (h1 : ((s[0].toNat : Int) == 10) = false) (h2 : ((s[0].toNat : Int) == 34) = false) (h3 : ((s[0].toNat : Int) != 92) = false) (h4 : ((s.size : Int) == 1) = false) (h5 : s[1] = 116) :
    Calls Tryd.prog 34 #[.string s] w fun e w' => e = .returned (.tuple #[.int .u8 9, .int .i64 2]) ∧ w = w' := by
  have C : Calls Tryd.prog 38 #[.string ⟨#[110, 116, 34, 92]⟩, .int .u8 (s[1].toNat : Int)] w fun e w' => e = .returned (.int .i64 1) ∧ w = w' := by
    have := indexByte_any ⟨#[110, 116, 34, 92]⟩ s[1] w
    rwa [show Lib.indexByte (ls ⟨#[110, 116, 34, 92]⟩) s[1] = 1 by rw [h5]; decide] at this
  clear h5
  go_enter Tryd.func34, Tryd.ntmps34
  go_wp2_with (go_at_call 38; refine C.mono ?_; rintro e w' ⟨rfl, rfl⟩)
  go_ret2
  exact ⟨rfl, rfl⟩
theorem el_esc2 (s : ByteArray) (w : World) (h0 : 2 ≤ s.size) (he : s.toList.isEmpty = false) (h1 : ((s[0].toNat : Int) == 10) = false) (h2 : ((s[0].toNat : Int) == 34) = false) (h3 : ((s[0].toNat : Int) != 92) = false) (h4 : ((s.size : Int) == 1) = false) (h5 : s[1] = 34) :
    Calls Tryd.prog 34 #[.string s] w fun e w' => e = .returned (.tuple #[.int .u8 34, .int .i64 2]) ∧ w = w' := by
  have C : Calls Tryd.prog 38 #[.string ⟨#[110, 116, 34, 92]⟩, .int .u8 (s[1].toNat : Int)] w fun e w' => e = .returned (.int .i64 2) ∧ w = w' := by
    have := indexByte_any ⟨#[110, 116, 34, 92]⟩ s[1] w
    rwa [show Lib.indexByte (ls ⟨#[110, 116, 34, 92]⟩) s[1] = 2 by rw [h5]; decide] at this
  clear h5
  go_enter Tryd.func34, Tryd.ntmps34
  go_wp2_with (go_at_call 38; refine C.mono ?_; rintro e w' ⟨rfl, rfl⟩)
  go_ret2
  exact ⟨rfl, rfl⟩
theorem el_esc3 (s : ByteArray) (w : World) (h0 : 2 ≤ s.size) (he : s.toList.isEmpty = false) (h1 : ((s[0].toNat : Int) == 10) = false) (h2 : ((s[0].toNat : Int) == 34) = false) (h3 : ((s[0].toNat : Int) != 92) = false) (h4 : ((s.size : Int) == 1) = false) (h5 : s[1] = 92) :
    Calls Tryd.prog 34 #[.string s] w fun e w' => e = .returned (.tuple #[.int .u8 92, .int .i64 2]) ∧ w = w' := by
  have C : Calls Tryd.prog 38 #[.string ⟨#[110, 116, 34, 92]⟩, .int .u8 (s[1].toNat : Int)] w fun e w' => e = .returned (.int .i64 3) ∧ w = w' := by
    have := indexByte_any ⟨#[110, 116, 34, 92]⟩ s[1] w
    rwa [show Lib.indexByte (ls ⟨#[110, 116, 34, 92]⟩) s[1] = 3 by rw [h5]; decide] at this
  clear h5
  go_enter Tryd.func34, Tryd.ntmps34
  go_wp2_with (go_at_call 38; refine C.mono ?_; rintro e w' ⟨rfl, rfl⟩)
  go_ret2
  exact ⟨rfl, rfl⟩
theorem el_bad (s : ByteArray) (w : World) (h0 : 2 ≤ s.size) (he : s.toList.isEmpty = false) (h1 : ((s[0].toNat : Int) == 10) = false) (h2 : ((s[0].toNat : Int) == 34) = false) (h3 : ((s[0].toNat : Int) != 92) = false) (h4 : ((s.size : Int) == 1) = false) (h5 : esc s[1] = none) :
    Calls Tryd.prog 34 #[.string s] w fun e w' => e = .returned (.tuple #[.int .u8 0, .int .i64 0]) ∧ w = w' := by
  have C : Calls Tryd.prog 38 #[.string ⟨#[110, 116, 34, 92]⟩, .int .u8 (s[1].toNat : Int)] w fun e w' => e = .returned (.int .i64 (-1)) ∧ w = w' := by
    have := indexByte_any ⟨#[110, 116, 34, 92]⟩ s[1] w
    have e : ∀ c : UInt8, esc c = none → Lib.indexByte [110, 116, 34, 92] c = -1 := by
      intro c h
      by_cases a : c = 110
      · subst a; cases h
      by_cases b : c = 116
      · subst b; cases h
      by_cases d : c = 34
      · subst d; cases h
      by_cases f : c = 92
      · subst f; cases h
      have a' := Ne.symm a
      have b' := Ne.symm b
      have d' := Ne.symm d
      have f' := Ne.symm f
      simp [Lib.indexByte, a', b', d', f']
    rwa [show Lib.indexByte (ls ⟨#[110, 116, 34, 92]⟩) s[1] = -1 from e _ h5] at this
  clear h5
  go_enter Tryd.func34, Tryd.ntmps34
  go_wp2_with (go_at_call 38; refine C.mono ?_; rintro e w' ⟨rfl, rfl⟩)
  go_ret2
  exact ⟨rfl, rfl⟩
theorem element_any (s : ByteArray) (w : World) : Calls Tryd.prog 34 #[.string s] w fun e w' => e = .returned (.tuple #[.int .u8 ((elem (ls s)).1.toNat : Int), .int .i64 ((elem (ls s)).2 : Nat)]) ∧ w = w' := by
  by_cases hz : s.size = 0
  · have : s = ⟨#[]⟩ := ls_inj (List.eq_nil_of_length_eq_zero hz)
    subst this
    exact el_nil w
  · have h0 : 1 ≤ s.size := by omega
    have hl : ls s = s[0] :: (ls s).drop 1 := by have := drop_at s 0 h0; simpa using this
    have he : s.toList.isEmpty = false := by rw [show s.toList = ls s by rw [ByteArray.toList_eq]; rfl, hl]; rfl
    have nb : ∀ k : Nat, k < 256 → ¬ s[0] = UInt8.ofNat k → ((s[0].toNat : Int) == (k : Int)) = false := fun k hk h => by
      rw [← eq_nat k s[0] hk]; simpa using h
    have yb : ∀ k : Nat, k < 256 → s[0] = UInt8.ofNat k → ((s[0].toNat : Int) == (k : Int)) = true := fun k hk h => by
      rw [← eq_nat k s[0] hk]; simpa using h
    by_cases b1 : s[0] = 10
    · rw [hl, b1]; exact el_lf s w h0 he (yb 10 (by decide) b1)
    by_cases b2 : s[0] = 34
    · rw [hl, b2]; exact el_q s w h0 he (nb 10 (by decide) b1) (yb 34 (by decide) b2)
    by_cases b3 : s[0] = 92
    · have h92 : ((s[0].toNat : Int) != 92) = false := by rw [bne, show ((s[0].toNat : Int) == 92) = true from yb 92 (by decide) b3]; rfl
      by_cases h4 : s.size = 1
      · have : (ls s).drop 1 = [] := List.drop_eq_nil_of_le (by rw [ls_length]; omega)
        rw [hl, b3, this]
        exact el_end s w h0 he (nb 10 (by decide) b1) (nb 34 (by decide) b2) h92 (by rw [h4]; rfl)
      · have h2 : 2 ≤ s.size := by omega
        have hl2 := drop_at s 1 h2
        have h41 : ((s.size : Int) == 1) = false := by simpa using (by omega : ¬ (s.size : Int) = 1)
        rw [hl, b3, hl2]
        by_cases d0 : s[1] = 110
        · rw [d0]; exact el_esc0 s w h2 he (nb 10 (by decide) b1) (nb 34 (by decide) b2) h92 h41 d0
        by_cases d1 : s[1] = 116
        · rw [d1]; exact el_esc1 s w h2 he (nb 10 (by decide) b1) (nb 34 (by decide) b2) h92 h41 d1
        by_cases d2 : s[1] = 34
        · rw [d2]; exact el_esc2 s w h2 he (nb 10 (by decide) b1) (nb 34 (by decide) b2) h92 h41 d2
        by_cases d3 : s[1] = 92
        · rw [d3]; exact el_esc3 s w h2 he (nb 10 (by decide) b1) (nb 34 (by decide) b2) h92 h41 d3
        have hn : esc s[1] = none := by simp [esc, d0, d1, d2, d3]
        have := el_bad s w h2 he (nb 10 (by decide) b1) (nb 34 (by decide) b2) h92 h41 hn
        rw [show elem (92 :: s[1] :: (ls s).drop (1 + 1)) = (0, 0) by simp [elem, hn]]
        exact this
    · have := el_plain s w h0 he (nb 10 (by decide) b1) (nb 34 (by decide) b2) (by rw [bne, show ((s[0].toNat : Int) == 92) = false from nb 92 (by decide) b3]; rfl)
      rw [hl, show elem (s[0] :: (ls s).drop 1) = (s[0], 1) by simp [elem, b1, b2, b3]]
      exact this
theorem isName_any (s : ByteArray) (w : World) (hs : s.size ≤ 100000000) : Calls Tryd.prog 23 #[.string s] w fun e w' => e = .returned (.bool (isName (ls s))) ∧ w = w' := by
  by_cases hz : s.size = 0
  · have : s = ⟨#[]⟩ := ls_inj (List.eq_nil_of_length_eq_zero hz)
    subst this
    go_enter Tryd.func23, Tryd.ntmps23
    go_wp2
    go_ret
    exact ⟨rfl, rfl⟩
  · have h0 : 1 ≤ s.size := by omega
    have hl : ls s = s[0] :: (ls s).drop 1 := by have := drop_at s 0 h0; simpa using this
    have he : s.toList.isEmpty = false := by rw [show s.toList = ls s by rw [ByteArray.toList_eq]; rfl, hl]; rfl
    have he2 : (!s.toList.isEmpty) = true := by rw [he]; rfl
    have C := isLetter_any s[0] w
    have D := prefNm_any s w hs
    have hle := tw_le isNm (ls s)
    rw [ls_length] at hle
    have HN : Hid (isName (ls s) = (isAl s[0] && decide (((ls s).takeWhile isNm).length = s.size))) := Lib.hid (by
      rw [← ls_length s, hl]
      cases ha : isAl s[0] with
      | false => simp [isName, ha]
      | true =>
        have hn : isNm s[0] = true := by simp [isNm, ha]
        have al : ∀ l : Bs, l.all isNm = decide ((l.takeWhile isNm).length = l.length) := by
          intro l
          induction l with
          | nil => rfl
          | cons a l ih =>
            cases hb : isNm a <;> simp [List.takeWhile, hb, ih]
        simp only [isName, ha, List.takeWhile, hn, Bool.true_and, List.length_cons, al]
        simp)
    obtain ⟨m, hm⟩ : ∃ m, m = ((ls s).takeWhile isNm).length := ⟨_, rfl⟩
    rw [← hm] at D HN hle
    clear hm hl hz
    cases ha : isAl s[0] with
    | false =>
      rw [ha] at C HN
      clear ha
      go_enter Tryd.func23, Tryd.ntmps23
      go_wp2_with (go_at_call 17; refine C.mono ?_; rintro e w' ⟨rfl, rfl⟩)
      go_ret
      exact ⟨bool_ret (by rw [HN.out]; rfl), rfl⟩
    | true =>
      rw [ha] at C HN
      clear ha
      go_enter Tryd.func23, Tryd.ntmps23
      go_wp2_with (first
        | (go_at_call 17; refine C.mono ?_; rintro e w' ⟨rfl, rfl⟩)
        | (go_at_call 31; refine D.mono ?_; rintro e w' ⟨rfl, rfl⟩))
      go_ret
      exact ⟨bool_ret (by rw [HN.out, Bool.eq_iff_iff]; simp; omega), rfl⟩
end Go.Proofs.YtkagfhfjomhkdaaDoor
