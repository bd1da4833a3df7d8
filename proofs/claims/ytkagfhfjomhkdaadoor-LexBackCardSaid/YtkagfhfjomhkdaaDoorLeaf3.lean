/-
  Functions of lex over the beginning of a string: white space, names, one element of a string literal.
-/
import Derived.Test.YtkagfhfjomhkdaaDoorLeaf2
namespace Go.Proofs.YtkagfhfjomhkdaaDoor
open Go.RowKit L7
def spaceN (l : Bs) : Nat := l.length - (skip l).length
theorem size_drop (s : ByteArray) (k : Nat) : (mk ((ls s).drop k)).size = s.size - k := by
  show ((ls s).drop k).length = _
  rw [List.length_drop, ls_length]
theorem hp_slash (b : UInt8) (r : Bs) : Lib.hasPrefix (b :: r) [47, 47] = (b == 47 && r.head? == some 47) := by
  cases r with
  | nil => simp [Lib.hasPrefix, List.isPrefixOf]
  | cons c r =>
    rw [Bool.eq_iff_iff]
    simp [Lib.hasPrefix, List.isPrefixOf]
    constructor
    · rintro ⟨rfl, rfl⟩; exact ⟨rfl, rfl⟩
    · rintro ⟨rfl, rfl⟩; exact ⟨rfl, rfl⟩
theorem skip_line (b : UInt8) (r : Bs) (hw : isWs b = false) (h : Lib.hasPrefix (b :: r) [47, 47] = true) : skip (b :: r) = skip ((b :: r).dropWhile notLf) := by
  rw [hp_slash] at h
  have hb : b = 47 := by simp at h; exact h.1
  rw [skip, if_neg (by rw [hw]; decide), if_pos h]
  subst hb
  rfl
theorem skip_stop (b : UInt8) (r : Bs) (hw : isWs b = false) (h : Lib.hasPrefix (b :: r) [47, 47] = false) : skip (b :: r) = b :: r := by
  rw [hp_slash] at h
  rw [skip, if_neg (by rw [hw]; decide), if_neg (by rw [h]; decide)]
set_option maxHeartbeats 1000000 in
theorem spaceSize_any (s : ByteArray) (w : World) (hs : s.size ≤ 100000000) : Calls Tryd.prog 16 #[.string s] w fun e w' => e = .returned (.int .i64 (spaceN (ls s) : Nat)) ∧ w = w' := by
  go_enter Tryd.func16, Tryd.ntmps16
  go_wp2
  go_loop [3] (fun i => ∃ k : Nat, k ≤ s.size ∧ i = .int .i64 k ∧ Hid (skip (ls s) = skip ((ls s).drop k))) (fun i => s.size - (intOf i).toNat)
  case atStart => exact ⟨0, Nat.zero_le _, rfl, Lib.hid rfl⟩
  case round =>
    obtain ⟨k, hk, rfl, HK⟩ := hrel
    by_cases hlt : k < s.size
    · have hd := drop_at s k hlt
      have C := isSpace_any s[k] w
      cases hp : isWs s[k] with
      | true =>
        rw [hp] at C
        have HK2 : Hid (skip (ls s) = skip ((ls s).drop (k + 1))) := Lib.hid (by rw [HK.out, hd, skip_ws _ hp])
        clear hp hd
        go_wp2_with (go_at_call 28; refine C.mono ?_; rintro e w' ⟨rfl, rfl⟩)
        go_round
        case rel => exact ⟨k + 1, by omega, by go_num, HK2⟩
        case measure => simp [intOf]; omega
      | false =>
        rw [hp] at C
        have HD := Lib.hid hd
        have HE : Hid (s.extract k s.size = mk ((ls s).drop k)) := Lib.hid (extract_drop s k)
        have P := hasPrefix_any (s.extract k s.size) ⟨#[47, 47]⟩ w
        have Q := lineSize_any (s.extract k s.size) w
        rw [extract_drop s k, ls_mk] at P Q
        rw [show ls (⟨#[47, 47]⟩ : ByteArray) = [47, 47] from rfl] at P
        cases hq : Lib.hasPrefix ((ls s).drop k) [47, 47] with
        | true =>
          rw [hq] at P
          have HL : Hid (skip (ls s) = skip ((ls s).drop (k + (((ls s).drop k).takeWhile notLf).length))) := Lib.hid (by
            rw [HK.out, ← List.drop_drop, tw_drop, hd]
            rw [hd] at hq
            exact skip_line _ _ hp hq)
          have hl1 := tw_le notLf ((ls s).drop k)
          rw [List.length_drop, ls_length] at hl1
          have hl2 : 1 ≤ (((ls s).drop k).takeWhile notLf).length := by
            rw [hd, hp_slash] at hq
            have hb : s[k] = 47 := by simp at hq; exact hq.1
            rw [hd, List.takeWhile_cons, hb]
            simp [notLf]
          obtain ⟨m, hm⟩ : ∃ m, m = (((ls s).drop k).takeWhile notLf).length := ⟨_, rfl⟩
          rw [← hm] at Q HL hl1 hl2
          rw [← HE.out] at P Q
          clear hm hp hq hd HD HK
          go_wp2_with (first
            | (go_at_call 28; refine C.mono ?_; rintro e w' ⟨rfl, rfl⟩)
            | (go_at_call 29; refine P.mono ?_; rintro e w' ⟨rfl, rfl⟩)
            | (go_at_call 30; refine Q.mono ?_; rintro e w' ⟨rfl, rfl⟩))
          go_round
          case rel => exact ⟨k + m, by omega, by go_num, HL⟩
          case measure => simp [intOf]; omega
        | false =>
          rw [hq] at P
          have HL : Hid (spaceN (ls s) = k) := Lib.hid (by
            rw [hd] at hq
            unfold spaceN
            rw [HK.out, hd, skip_stop _ _ hp hq, ← hd, List.length_drop, ls_length]
            omega)
          rw [← HE.out] at P
          clear hp hq hd HD HK Q
          go_wp2_with (first
            | (go_at_call 28; refine C.mono ?_; rintro e w' ⟨rfl, rfl⟩)
            | (go_at_call 29; refine P.mono ?_; rintro e w' ⟨rfl, rfl⟩))
          go_ret
          exact ⟨int_ret (by rw [HL.out]), rfl⟩
    · have HL : Hid (spaceN (ls s) = k) := Lib.hid (by
        have : (ls s).drop k = [] := List.drop_eq_nil_of_le (by rw [ls_length]; omega)
        unfold spaceN
        rw [HK.out, this, ls_length]
        simp [skip]; omega)
      clear HK
      go_wp2
      go_ret
      exact ⟨int_ret (by rw [HL.out]), rfl⟩
end Go.Proofs.YtkagfhfjomhkdaaDoor
