/-
  The functions of lex that cut one token off: names, marks.
-/
import Derived.Test.YtkagfhfjomhkdaaDoorLeaf4
namespace Go.Proofs.YtkagfhfjomhkdaaDoor
open Go.RowKit L7
/-- A token's four cells. -/
def tokC (t : Tk) (n : Int) : Array Value := #[.int .i64 t.k, .string (mk t.t), .int .i64 t.n, .int .i64 n]
theorem cutName_any (s : ByteArray) (w : World) (hs : s.size ≤ 100000000) :
    Calls Tryd.prog 18 #[.string s] w fun e w' => e = .returned (.tuple #[.agg (tokC ⟨1, (ls s).takeWhile isNm, 0⟩ 0), .int .i64 (((ls s).takeWhile isNm).length : Nat)]) ∧ Below w.heap.size w w' := by
  have D := fun W => prefNm_any s W hs
  have hle := tw_le isNm (ls s)
  rw [ls_length] at hle
  have HE : Hid (s.extract 0 ((ls s).takeWhile isNm).length = mk ((ls s).takeWhile isNm)) := Lib.hid (by rw [extract_take, tw_take])
  obtain ⟨t, ht⟩ : ∃ t, t = (ls s).takeWhile isNm := ⟨_, rfl⟩
  rw [← ht] at D HE hle ⊢
  clear ht
  have HD := Lib.hid D
  clear D
  obtain ⟨m, hm⟩ : ∃ m, m = t.length := ⟨_, rfl⟩
  rw [← hm] at HD HE hle ⊢
  clear hm
  unfold tokC
  rw [← HE.out]
  go_enter Tryd.func18, Tryd.ntmps18
  go_wp2_with (go_at_call 31; refine (HD.out _).mono ?_; rintro e w' ⟨rfl, rfl⟩)
  exact bodyPost_ret (v := .tuple #[.agg #[.int .i64 1, .string (s.extract 0 m), .int .i64 0, .int .i64 0], .int .i64 m]) (by simp [results, Tryd.results18, go_sem]) rfl ⟨rfl, (Below.refl _ _).alloc (Nat.le_refl _) _⟩
/-- What a cutter returns: the token, its length, the error. -/
def cutV (o : Except Nat (Tk × Bs)) (n : Nat) : Value := match o with
  | .error e => .tuple #[.agg (tokC ⟨0, [], 0⟩ 0), .int .i64 0, .int .i64 (e : Int)]
  | .ok (t, r) => .tuple #[.agg (tokC t 0), .int .i64 ((n - r.length : Nat) : Int), .int .i64 0]
theorem mark_at (b : UInt8) (r : Bs) (k : Nat) (hk : 1 ≤ k) (hk2 : k ≤ 2) (hl : k ≤ r.length + 1) (h : isMark ((b :: r).take k) = true) (hn : ∀ j, k < j → j ≤ 2 → j ≤ r.length + 1 → isMark ((b :: r).take j) = false) :
    tokMark b r = .ok (⟨4, (b :: r).take k, 0⟩, (b :: r).drop k) := by
  cases r with
  | nil =>
    obtain rfl : k = 1 := by simp at hl; omega
    have h1 : mark1 b = true := h
    simp [tokMark, h1]
  | cons c r =>
    by_cases h1 : k = 1
    · subst h1
      have h1 : mark1 b = true := h
      have h2 : mark2 b c = false := hn 2 (by omega) (by omega) (by simp)
      simp [tokMark, h1, h2]
    · obtain rfl : k = 2 := by omega
      have h2 : mark2 b c = true := h
      simp [tokMark, h2]
theorem mark_none (b : UInt8) (r : Bs) (hn : ∀ j, 0 < j → j ≤ 2 → j ≤ r.length + 1 → isMark ((b :: r).take j) = false) : tokMark b r = .error 2 := by
  have h1 : mark1 b = false := hn 1 (by omega) (by omega) (by omega)
  cases r with
  | nil => simp [tokMark, h1]
  | cons c r =>
    have h2 : mark2 b c = false := hn 2 (by omega) (by omega) (by simp)
    simp [tokMark, h1, h2]
set_option maxHeartbeats 400000 in
theorem cutMark_any (s : ByteArray) (b : UInt8) (r : Bs) (hl : ls s = b :: r) (w : World) (hs : s.size ≤ 100000000) :
    Calls Tryd.prog 22 #[.string s] w fun e w' => e = .returned (cutV (tokMark b r) s.size) ∧ Below w.heap.size w w' := by
  have hz : s.size = r.length + 1 := by rw [← ls_length, hl]; rfl
  have h0 : 1 ≤ s.size := by omega
  have HL := Lib.hid hl
  have HZ := Lib.hid hz
  clear hl hz
  obtain ⟨v, hv⟩ : ∃ v, v = cutV (tokMark b r) s.size := ⟨_, rfl⟩
  rw [← hv]
  have HV := Lib.hid hv
  clear hv
  go_enter Tryd.func22, Tryd.ntmps22
  go_wp2
  go_loop [3] (fun i => ∃ k : Nat, k ≤ 2 ∧ k ≤ s.size ∧ i = .int .i64 k ∧ Hid (∀ j, k < j → j ≤ 2 → j ≤ s.size → isMark ((ls s).take j) = false)) (fun i => (intOf i).toNat)
  case atStart => exact ⟨min 2 s.size, by omega, by omega, by rw [show (min 2 (s.size : Int)) = ((min 2 s.size : Nat) : Int) by omega], Lib.hid (fun j h1 h2 h3 => by omega)⟩
  case round =>
    obtain ⟨k, hk2, hk, rfl, HK⟩ := hrel
    by_cases hlt : 0 < k
    · have C := fun W => isMark_any (s.extract 0 k) W
      have HE : Hid (s.extract 0 k = mk ((ls s).take k)) := Lib.hid (extract_take s k)
      cases hp : isMark ((ls s).take k) with
      | true =>
        have HC : Hid (∀ W, Calls Tryd.prog 24 #[.string (s.extract 0 k)] W fun e w' => e = .returned (.bool true) ∧ W = w') := Lib.hid (fun W => by
          have := C W
          rw [HE.out, ls_mk, hp] at this
          rwa [HE.out])
        have HV2 : Hid (v = .tuple #[.agg #[.int .i64 4, .string (s.extract 0 k), .int .i64 0, .int .i64 0], .int .i64 (k : Nat), .int .i64 0]) := Lib.hid (by
          have := HK.out
          rw [HL.out, HZ.out] at this
          rw [HL.out] at hp
          rw [HV.out, mark_at b r k hlt hk2 (by rw [← HZ.out]; exact hk) hp this]
          simp only [cutV, tokC]
          rw [HE.out, HL.out]
          have : s.size - ((b :: r).drop k).length = k := by have hz := HZ.out; rw [List.length_drop, List.length_cons]; omega
          rw [this])
        clear hp C
        go_wp2_with (go_at_call 24; refine (HC.out _).mono ?_; rintro e w' ⟨rfl, rfl⟩)
        rw [HV2.out]
        exact bodyPost_ret (v := .tuple #[.agg #[.int .i64 4, .string (s.extract 0 k), .int .i64 0, .int .i64 0], .int .i64 k, .int .i64 0]) (by simp [results, Tryd.results22, go_sem]) rfl ⟨rfl, (Below.refl _ _).alloc (Nat.le_refl _) _⟩
      | false =>
        have HC : Hid (∀ W, Calls Tryd.prog 24 #[.string (s.extract 0 k)] W fun e w' => e = .returned (.bool false) ∧ W = w') := Lib.hid (fun W => by
          have := C W
          rw [HE.out, ls_mk, hp] at this
          rwa [HE.out])
        have HK2 : Hid (∀ j, k - 1 < j → j ≤ 2 → j ≤ s.size → isMark ((ls s).take j) = false) := Lib.hid (fun j h1 h2 h3 => by
          by_cases e : j = k
          · rw [e]; exact hp
          · exact HK.out j (by omega) h2 h3)
        clear hp C
        go_wp2_with (go_at_call 24; refine (HC.out _).mono ?_; rintro e w' ⟨rfl, rfl⟩)
        go_round
        case rel => exact ⟨k - 1, by omega, by omega, by rw [show ((k : Int) - 1) = ((k - 1 : Nat) : Int) by omega], HK2⟩
        case measure => simp [intOf]; omega
    · obtain rfl : k = 0 := by omega
      have HV2 : Hid (v = .tuple #[.agg #[.int .i64 0, .string ⟨#[]⟩, .int .i64 0, .int .i64 0], .int .i64 0, .int .i64 2]) := Lib.hid (by
        have := HK.out
        rw [HL.out, HZ.out] at this
        rw [HV.out, mark_none b r this]
        rfl)
      go_wp2
      rw [HV2.out]
      exact bodyPost_ret (v := .tuple #[.agg #[.int .i64 0, .string ⟨#[]⟩, .int .i64 0, .int .i64 0], .int .i64 0, .int .i64 2]) (by simp [results, Tryd.results22, go_sem]) rfl ⟨rfl, (Below.refl _ _).alloc (Nat.le_refl _) _⟩
end Go.Proofs.YtkagfhfjomhkdaaDoor
