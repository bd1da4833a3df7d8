/-
  Functions of lex that count bytes at the beginning of a string, or look at its beginning.
-/
import Derived.Test.YtkagfhfjomhkdaaDoorLeaf
namespace Go.Proofs.YtkagfhfjomhkdaaDoor
open Go.RowKit L7
theorem drop_at (s : ByteArray) (k : Nat) (h : k < s.size) : (ls s).drop k = s[k] :: (ls s).drop (k + 1) := by
  have h' : k < (ls s).length := h
  rw [List.drop_eq_getElem_cons h']; rfl
theorem tw_split (p : UInt8 → Bool) : ∀ (l : List UInt8) (k : Nat) (hk : k < l.length), k ≤ (l.takeWhile p).length →
    (p l[k] = true → k + 1 ≤ (l.takeWhile p).length) ∧ (p l[k] = false → (l.takeWhile p).length = k)
  | b :: l, 0, hk, h => by
    simp only [List.getElem_cons_zero]
    constructor
    · intro hp; simp [List.takeWhile, hp]
    · intro hp; simp [List.takeWhile, hp]
  | b :: l, k + 1, hk, h => by
    simp only [List.takeWhile] at h ⊢
    cases hb : p b with
    | false => rw [hb] at h; simp at h
    | true =>
      rw [hb] at h
      simp only [List.length_cons] at h hk ⊢
      have := tw_split p l k (by omega) (by omega)
      simp only [List.getElem_cons_succ]
      exact ⟨fun hp => by have := this.1 hp; omega, fun hp => by have := this.2 hp; omega⟩
theorem tw_le (p : UInt8 → Bool) (l : List UInt8) : (l.takeWhile p).length ≤ l.length := by
  induction l with
  | nil => simp
  | cons a l ih => simp only [List.takeWhile]; split <;> simp <;> omega
theorem tw_drop (p : UInt8 → Bool) (l : List UInt8) : l.drop (l.takeWhile p).length = l.dropWhile p := by
  induction l with
  | nil => rfl
  | cons a l ih => simp only [List.takeWhile, List.dropWhile]; split <;> simp_all
theorem tw_take (p : UInt8 → Bool) (l : List UInt8) : l.take (l.takeWhile p).length = l.takeWhile p := by
  induction l with
  | nil => rfl
  | cons a l ih => simp only [List.takeWhile]; split <;> simp_all
theorem int_ret {a b : Int} (h : a = b) : Ending.returned (.int .i64 a) = Ending.returned (.int .i64 b) := by rw [h]

set_option maxHeartbeats 400000 in
theorem prefDg_any (s : ByteArray) (w : World) (hs : s.size ≤ 100000000) : Calls Tryd.prog 31 #[.string s, .func (.func 19) #[] #[]] w fun e w' => e = .returned (.int .i64 (((ls s).takeWhile isDg).length : Nat)) ∧ w = w' := by
  have hle := tw_le isDg (ls s)
  rw [ls_length] at hle
  obtain ⟨m, hm⟩ : ∃ m, m = ((ls s).takeWhile isDg).length := ⟨_, rfl⟩
  have HS : Hid (∀ k (h : k < s.size), k ≤ m → (isDg s[k] = true → k + 1 ≤ m) ∧ (isDg s[k] = false → m = k)) := Lib.hid (fun k h hk => by
    rw [hm] at hk ⊢
    exact tw_split isDg (ls s) k h hk)
  rw [← hm] at hle ⊢
  clear hm
  go_enter Tryd.func31, Tryd.ntmps31
  go_wp2
  go_loop [5] (fun i => ∃ k : Nat, k ≤ m ∧ i = .int .i64 k) (fun i => s.size - (intOf i).toNat)
  case atStart => exact ⟨0, Nat.zero_le _, rfl⟩
  case round =>
    obtain ⟨k, hk, rfl⟩ := hrel
    by_cases hlt : k < s.size
    · have h2 := HS.out k hlt hk
      have C := isDigit_any s[k] w
      cases hp : isDg s[k] with
      | true =>
        have h3 := h2.1 hp
        rw [hp] at C
        clear hp h2
        go_wp2_with (go_at_call 19; refine C.mono ?_; rintro e w' ⟨rfl, rfl⟩)
        go_round
        case rel => exact ⟨k + 1, h3, by go_num⟩
        case measure => simp [intOf]; omega
      | false =>
        have h3 := Lib.hid (h2.2 hp)
        rw [hp] at C
        clear hp h2
        go_wp2_with (go_at_call 19; refine C.mono ?_; rintro e w' ⟨rfl, rfl⟩)
        go_ret
        exact ⟨int_ret (by rw [h3.out]), rfl⟩
    · have h3 : Hid (m = k) := Lib.hid (by omega)
      go_wp2
      go_ret
      exact ⟨int_ret (by rw [h3.out]), rfl⟩

set_option maxHeartbeats 400000 in
theorem prefNm_any (s : ByteArray) (w : World) (hs : s.size ≤ 100000000) : Calls Tryd.prog 31 #[.string s, .func (.func 32) #[] #[]] w fun e w' => e = .returned (.int .i64 (((ls s).takeWhile isNm).length : Nat)) ∧ w = w' := by
  have hle := tw_le isNm (ls s)
  rw [ls_length] at hle
  obtain ⟨m, hm⟩ : ∃ m, m = ((ls s).takeWhile isNm).length := ⟨_, rfl⟩
  have HS : Hid (∀ k (h : k < s.size), k ≤ m → (isNm s[k] = true → k + 1 ≤ m) ∧ (isNm s[k] = false → m = k)) := Lib.hid (fun k h hk => by
    rw [hm] at hk ⊢
    exact tw_split isNm (ls s) k h hk)
  rw [← hm] at hle ⊢
  clear hm
  go_enter Tryd.func31, Tryd.ntmps31
  go_wp2
  go_loop [5] (fun i => ∃ k : Nat, k ≤ m ∧ i = .int .i64 k) (fun i => s.size - (intOf i).toNat)
  case atStart => exact ⟨0, Nat.zero_le _, rfl⟩
  case round =>
    obtain ⟨k, hk, rfl⟩ := hrel
    by_cases hlt : k < s.size
    · have h2 := HS.out k hlt hk
      have C := isWordByte_any s[k] w
      cases hp : isNm s[k] with
      | true =>
        have h3 := h2.1 hp
        rw [hp] at C
        clear hp h2
        go_wp2_with (go_at_call 32; refine C.mono ?_; rintro e w' ⟨rfl, rfl⟩)
        go_round
        case rel => exact ⟨k + 1, h3, by go_num⟩
        case measure => simp [intOf]; omega
      | false =>
        have h3 := Lib.hid (h2.2 hp)
        rw [hp] at C
        clear hp h2
        go_wp2_with (go_at_call 32; refine C.mono ?_; rintro e w' ⟨rfl, rfl⟩)
        go_ret
        exact ⟨int_ret (by rw [h3.out]), rfl⟩
    · have h3 : Hid (m = k) := Lib.hid (by omega)
      go_wp2
      go_ret
      exact ⟨int_ret (by rw [h3.out]), rfl⟩

theorem hasPrefix_any (s p : ByteArray) (w : World) : Calls Tryd.prog 29 #[.string s, .string p] w fun e w' => e = .returned (.bool (Lib.hasPrefix (ls s) (ls p))) ∧ w = w' :=
  (Tryd.strings_HasPrefix s p w).mono fun _ _ h => ⟨h.1, h.2.symm⟩
theorem indexByte_any (s : ByteArray) (c : UInt8) (w : World) : Calls Tryd.prog 38 #[.string s, .int .u8 (c.toNat : Int)] w fun e w' => e = .returned (.int .i64 (Lib.indexByte (ls s) c)) ∧ w = w' :=
  (Tryd.strings_IndexByte s c.toNat w).mono fun _ _ h => ⟨by rw [h.1]; simp [ls], h.2.symm⟩
theorem index_lf (l : Bs) : (Lib.indexByte l 10 < 0 ∧ (l.takeWhile notLf).length = l.length) ∨ Lib.indexByte l 10 = ((l.takeWhile notLf).length : Nat) := by
  induction l with
  | nil => exact .inl ⟨by decide, rfl⟩
  | cons a l ih =>
    by_cases ha : a = 10
    · subst ha; exact .inr rfl
    · have h1 : (a == 10) = false := by simpa using ha
      have h2 : notLf a = true := by simp [notLf, ha]
      simp only [Lib.indexByte, h1, List.takeWhile, h2, List.length_cons]
      rcases ih with ⟨h3, h4⟩ | h3
      · by_cases h5 : Lib.indexByte l 10 = -1
        · exact .inl ⟨by simp [h5], by omega⟩
        · have : ∀ m : Bs, -1 ≤ Lib.indexByte m 10 := by
            intro m
            induction m with
            | nil => decide
            | cons b m ih => simp only [Lib.indexByte]; split <;> (try split) <;> omega
          have := this l; omega
      · refine .inr ?_
        rw [h3]
        have : ¬ (((l.takeWhile notLf).length : Nat) : Int) = -1 := by omega
        simp [this]
theorem lineSize_any (s : ByteArray) (w : World) : Calls Tryd.prog 30 #[.string s] w fun e w' => e = .returned (.int .i64 (((ls s).takeWhile notLf).length : Nat)) ∧ w = w' := by
  have C := indexByte_any s 10 w
  rcases index_lf (ls s) with ⟨h1, h2⟩ | h1
  · rw [ls_length] at h2
    have H2 := Lib.hid h2
    clear h2
    obtain ⟨i, hi⟩ : ∃ i, i = Lib.indexByte (ls s) 10 := ⟨_, rfl⟩
    rw [← hi] at C h1
    clear hi
    go_enter Tryd.func30, Tryd.ntmps30
    go_wp2_with (go_at_call 38; refine C.mono ?_; rintro e w' ⟨rfl, rfl⟩)
    go_ret
    exact ⟨int_ret (by rw [H2.out]), rfl⟩
  · rw [h1] at C
    have hle := tw_le notLf (ls s)
    rw [ls_length] at hle
    obtain ⟨m, hm⟩ : ∃ m, m = ((ls s).takeWhile notLf).length := ⟨_, rfl⟩
    rw [← hm] at C hle ⊢
    clear hm h1
    have h0 : (0 : Int) ≤ (m : Int) := by omega
    go_enter Tryd.func30, Tryd.ntmps30
    go_wp2_with (go_at_call 38; refine C.mono ?_; rintro e w' ⟨rfl, rfl⟩)
    go_ret
    exact ⟨rfl, rfl⟩
end Go.Proofs.YtkagfhfjomhkdaaDoor
