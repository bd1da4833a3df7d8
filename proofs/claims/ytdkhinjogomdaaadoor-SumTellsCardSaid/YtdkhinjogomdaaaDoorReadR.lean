/-
  The reference's Read.
-/
import Derived.Test.YtdkhinjogomdaaaDoorRead
namespace Go.Proofs.YtdkhinjogomdaaaDoor
open Go.RowKit
theorem digz_at_new (l : List UInt8) (n : Nat) (h : l.length < n) : (digz l n)[l.length]? = some (.int .u8 0) := by
  unfold digz dig
  have e : List.replicate (n - l.length) (0 : UInt8) = 0 :: List.replicate (n - l.length - 1) 0 := by
    rw [← List.replicate_succ]; congr 1; omega
  rw [e]
  simp
theorem digz_at_last (l : List UInt8) (b : UInt8) (n : Nat) : (digz (l ++ [b]) n)[l.length]? = some (.int .u8 (b.toNat : Nat)) := by
  unfold digz dig
  simp
theorem digz_again (l : List UInt8) (b c : UInt8) (n : Nat) : (digz (l ++ [b]) n).setIfInBounds l.length (.int .u8 (c.toNat : Nat)) = digz (l ++ [c]) n := by
  unfold digz dig
  apply Array.toList_inj.1
  rw [Array.toList_setIfInBounds]
  simp only [List.map_append, List.map_cons, List.map_nil, List.append_assoc, List.length_append, List.length_cons, List.length_nil]
  rw [List.set_append, List.length_map, if_neg (by omega), Nat.sub_self]
  simp
/-- The bytes so far, when i digits have been read. -/
def part (l : List UInt8) (i : Nat) : List UInt8 := if i % 2 = 0 then pairs l (i / 2) else pairs l (i / 2) ++ [UInt8.ofNat (Hex.un (l.getD (i - 1) 0))]
theorem part_len (l : List UInt8) (i : Nat) : (part l i).length = (i + 1) / 2 := by
  unfold part
  split
  · rw [pairs_len]; omega
  · rw [List.length_append, pairs_len]; simp; omega
theorem un_le (c : UInt8) : Hex.un c ≤ 16 := by
  unfold Hex.un
  split
  · omega
  · split <;> omega
set_option maxHeartbeats 2000000 in
set_option maxRecDepth 100000 in
theorem rread_any (s : ByteArray) (w : World) :
    Calls Tryd.prog 10 #[.string s] w fun e w' => e = .returned (rd (ls s)) ∧ Below w.heap.size w w' := by
  have hs1 : (w.alloc (Obj.cells #[Value.int IntKind.u8 0, Value.int IntKind.u8 0, Value.int IntKind.u8 0, Value.int IntKind.u8 0, Value.int IntKind.u8 0, Value.int IntKind.u8 0, Value.int IntKind.u8 0, Value.int IntKind.u8 0, Value.int IntKind.u8 0, Value.int IntKind.u8 0, Value.int IntKind.u8 0, Value.int IntKind.u8 0, Value.int IntKind.u8 0, Value.int IntKind.u8 0, Value.int IntKind.u8 0, Value.int IntKind.u8 0, Value.int IntKind.u8 0, Value.int IntKind.u8 0, Value.int IntKind.u8 0, Value.int IntKind.u8 0, Value.int IntKind.u8 0, Value.int IntKind.u8 0, Value.int IntKind.u8 0, Value.int IntKind.u8 0, Value.int IntKind.u8 0, Value.int IntKind.u8 0, Value.int IntKind.u8 0, Value.int IntKind.u8 0, Value.int IntKind.u8 0, Value.int IntKind.u8 0, Value.int IntKind.u8 0, Value.int IntKind.u8 0] 23)).heap.size = w.heap.size + 1 := Array.size_push _
  have hI2 : Is ((w.alloc (Obj.cells #[Value.int IntKind.u8 0, Value.int IntKind.u8 0, Value.int IntKind.u8 0, Value.int IntKind.u8 0, Value.int IntKind.u8 0, Value.int IntKind.u8 0, Value.int IntKind.u8 0, Value.int IntKind.u8 0, Value.int IntKind.u8 0, Value.int IntKind.u8 0, Value.int IntKind.u8 0, Value.int IntKind.u8 0, Value.int IntKind.u8 0, Value.int IntKind.u8 0, Value.int IntKind.u8 0, Value.int IntKind.u8 0, Value.int IntKind.u8 0, Value.int IntKind.u8 0, Value.int IntKind.u8 0, Value.int IntKind.u8 0, Value.int IntKind.u8 0, Value.int IntKind.u8 0, Value.int IntKind.u8 0, Value.int IntKind.u8 0, Value.int IntKind.u8 0, Value.int IntKind.u8 0, Value.int IntKind.u8 0, Value.int IntKind.u8 0, Value.int IntKind.u8 0, Value.int IntKind.u8 0, Value.int IntKind.u8 0, Value.int IntKind.u8 0] 23)).alloc (Obj.cells #[Value.int IntKind.u8 0, Value.int IntKind.u8 0, Value.int IntKind.u8 0, Value.int IntKind.u8 0, Value.int IntKind.u8 0, Value.int IntKind.u8 0, Value.int IntKind.u8 0, Value.int IntKind.u8 0, Value.int IntKind.u8 0, Value.int IntKind.u8 0, Value.int IntKind.u8 0, Value.int IntKind.u8 0, Value.int IntKind.u8 0, Value.int IntKind.u8 0, Value.int IntKind.u8 0, Value.int IntKind.u8 0, Value.int IntKind.u8 0, Value.int IntKind.u8 0, Value.int IntKind.u8 0, Value.int IntKind.u8 0, Value.int IntKind.u8 0, Value.int IntKind.u8 0, Value.int IntKind.u8 0, Value.int IntKind.u8 0, Value.int IntKind.u8 0, Value.int IntKind.u8 0, Value.int IntKind.u8 0, Value.int IntKind.u8 0, Value.int IntKind.u8 0, Value.int IntKind.u8 0, Value.int IntKind.u8 0, Value.int IntKind.u8 0] 23)) w.heap.size 23 (dig zeros32) := (Is.fresh w 23 _).alloc _
  have hI4 : Is ((w.alloc (Obj.cells #[Value.int IntKind.u8 0, Value.int IntKind.u8 0, Value.int IntKind.u8 0, Value.int IntKind.u8 0, Value.int IntKind.u8 0, Value.int IntKind.u8 0, Value.int IntKind.u8 0, Value.int IntKind.u8 0, Value.int IntKind.u8 0, Value.int IntKind.u8 0, Value.int IntKind.u8 0, Value.int IntKind.u8 0, Value.int IntKind.u8 0, Value.int IntKind.u8 0, Value.int IntKind.u8 0, Value.int IntKind.u8 0, Value.int IntKind.u8 0, Value.int IntKind.u8 0, Value.int IntKind.u8 0, Value.int IntKind.u8 0, Value.int IntKind.u8 0, Value.int IntKind.u8 0, Value.int IntKind.u8 0, Value.int IntKind.u8 0, Value.int IntKind.u8 0, Value.int IntKind.u8 0, Value.int IntKind.u8 0, Value.int IntKind.u8 0, Value.int IntKind.u8 0, Value.int IntKind.u8 0, Value.int IntKind.u8 0, Value.int IntKind.u8 0] 23)).alloc (Obj.cells #[Value.int IntKind.u8 0, Value.int IntKind.u8 0, Value.int IntKind.u8 0, Value.int IntKind.u8 0, Value.int IntKind.u8 0, Value.int IntKind.u8 0, Value.int IntKind.u8 0, Value.int IntKind.u8 0, Value.int IntKind.u8 0, Value.int IntKind.u8 0, Value.int IntKind.u8 0, Value.int IntKind.u8 0, Value.int IntKind.u8 0, Value.int IntKind.u8 0, Value.int IntKind.u8 0, Value.int IntKind.u8 0, Value.int IntKind.u8 0, Value.int IntKind.u8 0, Value.int IntKind.u8 0, Value.int IntKind.u8 0, Value.int IntKind.u8 0, Value.int IntKind.u8 0, Value.int IntKind.u8 0, Value.int IntKind.u8 0, Value.int IntKind.u8 0, Value.int IntKind.u8 0, Value.int IntKind.u8 0, Value.int IntKind.u8 0, Value.int IntKind.u8 0, Value.int IntKind.u8 0, Value.int IntKind.u8 0, Value.int IntKind.u8 0] 23)) (w.heap.size + 1) 23 (digz [] 32) := by
    have := Is.fresh (w.alloc (Obj.cells #[Value.int IntKind.u8 0, Value.int IntKind.u8 0, Value.int IntKind.u8 0, Value.int IntKind.u8 0, Value.int IntKind.u8 0, Value.int IntKind.u8 0, Value.int IntKind.u8 0, Value.int IntKind.u8 0, Value.int IntKind.u8 0, Value.int IntKind.u8 0, Value.int IntKind.u8 0, Value.int IntKind.u8 0, Value.int IntKind.u8 0, Value.int IntKind.u8 0, Value.int IntKind.u8 0, Value.int IntKind.u8 0, Value.int IntKind.u8 0, Value.int IntKind.u8 0, Value.int IntKind.u8 0, Value.int IntKind.u8 0, Value.int IntKind.u8 0, Value.int IntKind.u8 0, Value.int IntKind.u8 0, Value.int IntKind.u8 0, Value.int IntKind.u8 0, Value.int IntKind.u8 0, Value.int IntKind.u8 0, Value.int IntKind.u8 0, Value.int IntKind.u8 0, Value.int IntKind.u8 0, Value.int IntKind.u8 0, Value.int IntKind.u8 0] 23)) 23 #[Value.int IntKind.u8 0, Value.int IntKind.u8 0, Value.int IntKind.u8 0, Value.int IntKind.u8 0, Value.int IntKind.u8 0, Value.int IntKind.u8 0, Value.int IntKind.u8 0, Value.int IntKind.u8 0, Value.int IntKind.u8 0, Value.int IntKind.u8 0, Value.int IntKind.u8 0, Value.int IntKind.u8 0, Value.int IntKind.u8 0, Value.int IntKind.u8 0, Value.int IntKind.u8 0, Value.int IntKind.u8 0, Value.int IntKind.u8 0, Value.int IntKind.u8 0, Value.int IntKind.u8 0, Value.int IntKind.u8 0, Value.int IntKind.u8 0, Value.int IntKind.u8 0, Value.int IntKind.u8 0, Value.int IntKind.u8 0, Value.int IntKind.u8 0, Value.int IntKind.u8 0, Value.int IntKind.u8 0, Value.int IntKind.u8 0, Value.int IntKind.u8 0, Value.int IntKind.u8 0, Value.int IntKind.u8 0, Value.int IntKind.u8 0]
    rwa [hs1] at this
  have hB : Below w.heap.size w ((w.alloc (Obj.cells #[Value.int IntKind.u8 0, Value.int IntKind.u8 0, Value.int IntKind.u8 0, Value.int IntKind.u8 0, Value.int IntKind.u8 0, Value.int IntKind.u8 0, Value.int IntKind.u8 0, Value.int IntKind.u8 0, Value.int IntKind.u8 0, Value.int IntKind.u8 0, Value.int IntKind.u8 0, Value.int IntKind.u8 0, Value.int IntKind.u8 0, Value.int IntKind.u8 0, Value.int IntKind.u8 0, Value.int IntKind.u8 0, Value.int IntKind.u8 0, Value.int IntKind.u8 0, Value.int IntKind.u8 0, Value.int IntKind.u8 0, Value.int IntKind.u8 0, Value.int IntKind.u8 0, Value.int IntKind.u8 0, Value.int IntKind.u8 0, Value.int IntKind.u8 0, Value.int IntKind.u8 0, Value.int IntKind.u8 0, Value.int IntKind.u8 0, Value.int IntKind.u8 0, Value.int IntKind.u8 0, Value.int IntKind.u8 0, Value.int IntKind.u8 0] 23)).alloc (Obj.cells #[Value.int IntKind.u8 0, Value.int IntKind.u8 0, Value.int IntKind.u8 0, Value.int IntKind.u8 0, Value.int IntKind.u8 0, Value.int IntKind.u8 0, Value.int IntKind.u8 0, Value.int IntKind.u8 0, Value.int IntKind.u8 0, Value.int IntKind.u8 0, Value.int IntKind.u8 0, Value.int IntKind.u8 0, Value.int IntKind.u8 0, Value.int IntKind.u8 0, Value.int IntKind.u8 0, Value.int IntKind.u8 0, Value.int IntKind.u8 0, Value.int IntKind.u8 0, Value.int IntKind.u8 0, Value.int IntKind.u8 0, Value.int IntKind.u8 0, Value.int IntKind.u8 0, Value.int IntKind.u8 0, Value.int IntKind.u8 0, Value.int IntKind.u8 0, Value.int IntKind.u8 0, Value.int IntKind.u8 0, Value.int IntKind.u8 0, Value.int IntKind.u8 0, Value.int IntKind.u8 0, Value.int IntKind.u8 0, Value.int IntKind.u8 0] 23)) := ((Below.refl _ _).alloc (Nat.le_refl _) _).alloc (by omega) _
  have hz : (Tryd.prog.info? 23).map (·.size) = some 32 := by kernel_rfl
  have H2 := Lib.hid hI2
  have H4 := Lib.hid hI4
  have HB := Lib.hid hB
  have HZ := Lib.hid hz
  clear hI2 hI4 hB hz
  by_cases h64 : s.size = 64
  · have HL := Lib.hid h64
    have t1 : (s.size : Int) = 64 := by omega
    clear h64
    go_enter Tryd.func10, Tryd.ntmps10
    go_wp2
    obtain ⟨W, hW⟩ : ∃ W, W = (w.alloc (Obj.cells #[Value.int IntKind.u8 0, Value.int IntKind.u8 0, Value.int IntKind.u8 0, Value.int IntKind.u8 0, Value.int IntKind.u8 0, Value.int IntKind.u8 0, Value.int IntKind.u8 0, Value.int IntKind.u8 0, Value.int IntKind.u8 0, Value.int IntKind.u8 0, Value.int IntKind.u8 0, Value.int IntKind.u8 0, Value.int IntKind.u8 0, Value.int IntKind.u8 0, Value.int IntKind.u8 0, Value.int IntKind.u8 0, Value.int IntKind.u8 0, Value.int IntKind.u8 0, Value.int IntKind.u8 0, Value.int IntKind.u8 0, Value.int IntKind.u8 0, Value.int IntKind.u8 0, Value.int IntKind.u8 0, Value.int IntKind.u8 0, Value.int IntKind.u8 0, Value.int IntKind.u8 0, Value.int IntKind.u8 0, Value.int IntKind.u8 0, Value.int IntKind.u8 0, Value.int IntKind.u8 0, Value.int IntKind.u8 0, Value.int IntKind.u8 0] 23)).alloc (Obj.cells #[Value.int IntKind.u8 0, Value.int IntKind.u8 0, Value.int IntKind.u8 0, Value.int IntKind.u8 0, Value.int IntKind.u8 0, Value.int IntKind.u8 0, Value.int IntKind.u8 0, Value.int IntKind.u8 0, Value.int IntKind.u8 0, Value.int IntKind.u8 0, Value.int IntKind.u8 0, Value.int IntKind.u8 0, Value.int IntKind.u8 0, Value.int IntKind.u8 0, Value.int IntKind.u8 0, Value.int IntKind.u8 0, Value.int IntKind.u8 0, Value.int IntKind.u8 0, Value.int IntKind.u8 0, Value.int IntKind.u8 0, Value.int IntKind.u8 0, Value.int IntKind.u8 0, Value.int IntKind.u8 0, Value.int IntKind.u8 0, Value.int IntKind.u8 0, Value.int IntKind.u8 0, Value.int IntKind.u8 0, Value.int IntKind.u8 0, Value.int IntKind.u8 0, Value.int IntKind.u8 0, Value.int IntKind.u8 0, Value.int IntKind.u8 0] 23) := ⟨_, rfl⟩
    rw [← hW] at H2 H4 HB ⊢
    obtain ⟨g, hg⟩ : ∃ g, g = w.heap.size + 1 := ⟨_, rfl⟩
    rw [← hg] at H4 ⊢
    have HG := Lib.hid hg
    clear hg hW hs1
    go_loopw [5] (fun i wr => ∃ k : Nat, k ≤ 64 ∧ i = .int .i64 k ∧ Is wr g 23 (digz (part (ls s) k) 32) ∧ Is wr w.heap.size 23 (dig zeros32) ∧ Below w.heap.size w wr ∧ ∀ i, i < k → Hex.un ((ls s).getD i 0) < 16) (fun i _ => 64 - (intOf i).toNat)
    case atStart => exact ⟨0, by omega, rfl, H4.out, H2.out, HB.out, fun i hi => by omega⟩
    case round =>
      obtain ⟨k, hk, rfl, hI4, hI2, hB, hall⟩ := hrel
      have HI4 := Lib.hid hI4
      have HI2 := Lib.hid hI2
      have HB := Lib.hid hB
      have HALL := Lib.hid hall
      clear hI4 hI2 hB hall
      by_cases hlt : k < 64
      · have i1 : decide ((k : Int) < 64) = true := by simp; omega
        have i2 : (k : Int) < 64 := by omega
        have i3 : (0 : Int) ≤ (k : Int) := by omega
        have n0 : k < s.size := by have := HL.out; omega
        obtain ⟨b0, q0⟩ : ∃ b, s[k] = b := ⟨_, rfl⟩
        have g0 : (ls s).getD k 0 = b0 := (getD_ls s _ n0).trans q0
        have G0 := Lib.hid g0
        clear g0
        by_cases hH : Hex.un b0 < 16
        · obtain ⟨A, hA⟩ : ∃ A, A = Hex.un b0 := ⟨_, rfl⟩
          have a1 : A < 16 := by omega
          have ne1 : ((A : Int) == 16) = false := by simp; omega
          have ne2 : ¬ (A : Int) = 16 := by omega
          obtain ⟨h, hh⟩ : ∃ h, h = k / 2 := ⟨_, rfl⟩
          have d1 : (k : Int) / 2 = (h : Int) := by omega
          have d2 : (h : Int) < 32 := by omega
          have d3 : (0 : Int) ≤ (h : Int) := by omega
          have f1 := HI4.out.open_ h
          have HA := Lib.hid hA
          have HH := Lib.hid hh
          by_cases hp : k % 2 = 0
          · have c0 : wr.cell? ⟨g, h, none⟩ = some (.int .u8 0) := by
              have := HI4.out.at_ h
              rw [this]
              have e : part (ls s) k = pairs (ls s) h := by unfold part; rw [if_pos hp, hh]
              rw [e]
              have := digz_at_new (pairs (ls s) h) 32 (by rw [pairs_len]; omega)
              rwa [pairs_len] at this
            have HP := Lib.hid hp
            clear hp hH hA hh
            go_wp2_with (go_at_call 20; refine (rdigit_any _ _).mono ?_; rintro e w1 ⟨rfl, rfl⟩; rw [← HA.out])
            go_roundw
            case rel =>
              refine ⟨k + 1, by omega, by go_num, ?_, ?_, ?_, ?_⟩
              · have e : part (ls s) k = pairs (ls s) h := by unfold part; rw [if_pos HP.out, HH.out]
                have e2 : part (ls s) (k + 1) = pairs (ls s) h ++ [UInt8.ofNat A] := by
                  unfold part
                  have := HP.out
                  have := HH.out
                  rw [if_neg (by omega), show (k + 1) / 2 = h by omega, Nat.add_sub_cancel, G0.out, HA.out]
                have h2 := HI4.out.put h (.int .u8 ((UInt8.ofNat A).toNat : Nat))
                have e1 := digz_put (pairs (ls s) h) 32 (UInt8.ofNat A) (by rw [pairs_len]; have := HH.out; omega)
                rw [pairs_len] at e1
                rw [e, e1] at h2
                rw [e2]
                rw [Hex.toNat_of A (by omega)] at h2
                exact h2
              · exact HI2.out.away (by show w.heap.size ≠ g; have := HG.out; omega) _
              · exact HB.out.setCell (p := ⟨g, h, none⟩) (by show w.heap.size ≤ g; have := HG.out; omega) _
              · intro i hi
                by_cases h1 : i < k
                · exact HALL.out i h1
                · rw [show i = k by omega, G0.out, ← HA.out]; exact a1
            case measure => simp [intOf]; omega
          · obtain ⟨B, hB⟩ : ∃ B, B = Hex.un ((ls s).getD (k - 1) 0) := ⟨_, rfl⟩
            have b1 : B < 16 := by rw [hB]; exact HALL.out _ (by omega)
            have c0 : wr.cell? ⟨g, h, none⟩ = some (.int .u8 (B : Nat)) := by
              have := HI4.out.at_ h
              rw [this]
              have e : part (ls s) k = pairs (ls s) h ++ [UInt8.ofNat B] := by unfold part; rw [if_neg hp, hh, hB]
              rw [e]
              have := digz_at_last (pairs (ls s) h) (UInt8.ofNat B) 32
              rw [pairs_len, Hex.toNat_of B (by omega)] at this
              exact this
            have HP := Lib.hid hp
            have HBB := Lib.hid hB
            clear hp hH hA hh hB
            go_wp2_with (go_at_call 20; refine (rdigit_any _ _).mono ?_; rintro e w1 ⟨rfl, rfl⟩; rw [← HA.out])
            go_roundw
            case rel =>
              refine ⟨k + 1, by omega, by go_num, ?_, ?_, ?_, ?_⟩
              · have hp := HP.out
                have hh := HH.out
                have e : part (ls s) k = pairs (ls s) h ++ [UInt8.ofNat B] := by unfold part; rw [if_neg hp, hh, HBB.out]
                have e3 : pair (ls s) h = UInt8.ofNat (16 * B + A) := by
                  unfold pair
                  rw [show 2 * h + 1 = k by omega, show 2 * h = k - 1 by omega, G0.out, ← HA.out, ← HBB.out]
                have e2 : part (ls s) (k + 1) = pairs (ls s) h ++ [UInt8.ofNat (16 * B + A)] := by
                  unfold part
                  rw [if_pos (by omega), show (k + 1) / 2 = h + 1 by omega, pairs_snoc, e3]
                have h2 := HI4.out.put h (.int .u8 ((UInt8.ofNat (16 * B + A)).toNat : Nat))
                have e1 := digz_again (pairs (ls s) h) (UInt8.ofNat B) (UInt8.ofNat (16 * B + A)) 32
                rw [pairs_len] at e1
                rw [e, e1] at h2
                rw [e2]
                rw [Hex.toNat_of (16 * B + A) (by omega)] at h2
                rw [show (16 : Int) * (B : Int) + (A : Int) = ((16 * B + A : Nat) : Int) by omega]
                exact h2
              · exact HI2.out.away (by show w.heap.size ≠ g; have := HG.out; omega) _
              · exact HB.out.setCell (p := ⟨g, h, none⟩) (by show w.heap.size ≤ g; have := HG.out; omega) _
              · intro i hi
                by_cases h1 : i < k
                · exact HALL.out i h1
                · rw [show i = k by omega, G0.out, ← HA.out]; exact a1
            case measure => simp [intOf]; omega
        · have hu : Hex.un b0 = 16 := by have := un_le b0; omega
          have hbad := read_bad (ls s) k n0 (by rw [G0.out]; exact hH)
          have HBAD := Lib.hid hbad
          have HU := Lib.hid hu
          clear hH hbad hu
          go_wp2_with first
            | (go_at_call 20; refine (rdigit_any _ _).mono ?_; rintro e w1 ⟨rfl, rfl⟩; rw [HU.out])
            | (refine wpList_store_row rfl 23 _ _ rfl w.heap.size #[Value.int IntKind.u8 0, Value.int IntKind.u8 0, Value.int IntKind.u8 0, Value.int IntKind.u8 0, Value.int IntKind.u8 0, Value.int IntKind.u8 0, Value.int IntKind.u8 0, Value.int IntKind.u8 0, Value.int IntKind.u8 0, Value.int IntKind.u8 0, Value.int IntKind.u8 0, Value.int IntKind.u8 0, Value.int IntKind.u8 0, Value.int IntKind.u8 0, Value.int IntKind.u8 0, Value.int IntKind.u8 0, Value.int IntKind.u8 0, Value.int IntKind.u8 0, Value.int IntKind.u8 0, Value.int IntKind.u8 0, Value.int IntKind.u8 0, Value.int IntKind.u8 0, Value.int IntKind.u8 0, Value.int IntKind.u8 0, Value.int IntKind.u8 0, Value.int IntKind.u8 0, Value.int IntKind.u8 0, Value.int IntKind.u8 0, Value.int IntKind.u8 0, Value.int IntKind.u8 0, Value.int IntKind.u8 0, Value.int IntKind.u8 0] rfl rfl 23 (dig zeros32) HI2.out HZ.out zz_size zz_one ?_)
          refine bodyPost_ret (v := _) (res_cell2 rfl _ _ w.heap.size #[Value.int IntKind.u8 0, Value.int IntKind.u8 0, Value.int IntKind.u8 0, Value.int IntKind.u8 0, Value.int IntKind.u8 0, Value.int IntKind.u8 0, Value.int IntKind.u8 0, Value.int IntKind.u8 0, Value.int IntKind.u8 0, Value.int IntKind.u8 0, Value.int IntKind.u8 0, Value.int IntKind.u8 0, Value.int IntKind.u8 0, Value.int IntKind.u8 0, Value.int IntKind.u8 0, Value.int IntKind.u8 0, Value.int IntKind.u8 0, Value.int IntKind.u8 0, Value.int IntKind.u8 0, Value.int IntKind.u8 0, Value.int IntKind.u8 0, Value.int IntKind.u8 0, Value.int IntKind.u8 0, Value.int IntKind.u8 0, Value.int IntKind.u8 0, Value.int IntKind.u8 0, Value.int IntKind.u8 0, Value.int IntKind.u8 0, Value.int IntKind.u8 0, Value.int IntKind.u8 0, Value.int IntKind.u8 0, Value.int IntKind.u8 0] _ rfl (HI2.out.row _) Tryd.underlying23 rfl HZ.out) rfl ⟨?_, below_row HB.out (Nat.le_refl _) _⟩
          rw [rd, HBAD.out]; rfl
      · have i1 : decide ((k : Int) < 64) = false := by simp; omega
        obtain rfl : k = 64 := by omega
        have hok := read_all (ls s) HL.out HALL.out
        have HOK := Lib.hid hok
        have hd : digz (part (ls s) 64) 32 = dig (pairs (ls s) 32) := digz_full (pairs (ls s) 32) _ (pairs_len _ _)
        have HD : Hid (Is wr g 23 (dig (pairs (ls s) 32))) := Lib.hid (by rw [← hd]; exact HI4.out)
        have hz2 : (dig (pairs (ls s) 32)).size = 32 := by rw [dig_size, pairs_len]
        have HZ2 := Lib.hid hz2
        have ho : (dig (pairs (ls s) 32)).all (·.oneCell') = true := dig_one _
        have HO := Lib.hid ho
        clear hok hd hz2 ho
        go_wp2_with first
          | (refine wpList_load_row rfl 23 _ rfl g rfl 23 (dig (pairs (ls s) 32)) (0, 0) _ HD.out Tryd.underlying23 rfl (by rw [HZ2.out]; exact HZ.out) ?_)
          | (refine wpList_store_row rfl 23 _ _ rfl w.heap.size (dig (pairs (ls s) 32)) rfl rfl 23 (dig zeros32) HI2.out (by rw [HZ2.out]; exact HZ.out) (by rw [HZ2.out]; rfl) HO.out ?_)
        refine bodyPost_ret (v := _) (res_cell2 rfl _ _ w.heap.size (dig (pairs (ls s) 32)) _ rfl (HI2.out.row _) Tryd.underlying23 rfl (by rw [HZ2.out]; exact HZ.out)) rfl ⟨?_, below_row HB.out (Nat.le_refl _) _⟩
        rw [rd, HOK.out]; rfl
  · have hno : readF (ls s) = none := by unfold readF; rw [if_neg (by rw [ls_length]; exact h64)]
    have HNO := Lib.hid hno
    have t1 : ¬ (s.size : Int) = 64 := by omega
    have t2 : ((s.size : Int) == 64) = false := by simpa using t1
    have t3 : ((s.size : Int) != 64) = true := by simpa using t1
    clear hno
    go_enter Tryd.func10, Tryd.ntmps10
    go_wp2_with (refine wpList_store_row rfl 23 _ _ rfl w.heap.size #[Value.int IntKind.u8 0, Value.int IntKind.u8 0, Value.int IntKind.u8 0, Value.int IntKind.u8 0, Value.int IntKind.u8 0, Value.int IntKind.u8 0, Value.int IntKind.u8 0, Value.int IntKind.u8 0, Value.int IntKind.u8 0, Value.int IntKind.u8 0, Value.int IntKind.u8 0, Value.int IntKind.u8 0, Value.int IntKind.u8 0, Value.int IntKind.u8 0, Value.int IntKind.u8 0, Value.int IntKind.u8 0, Value.int IntKind.u8 0, Value.int IntKind.u8 0, Value.int IntKind.u8 0, Value.int IntKind.u8 0, Value.int IntKind.u8 0, Value.int IntKind.u8 0, Value.int IntKind.u8 0, Value.int IntKind.u8 0, Value.int IntKind.u8 0, Value.int IntKind.u8 0, Value.int IntKind.u8 0, Value.int IntKind.u8 0, Value.int IntKind.u8 0, Value.int IntKind.u8 0, Value.int IntKind.u8 0, Value.int IntKind.u8 0] rfl rfl 23 (dig zeros32) H2.out HZ.out zz_size zz_one ?_)
    refine bodyPost_ret (v := _) (res_cell2 rfl _ _ w.heap.size #[Value.int IntKind.u8 0, Value.int IntKind.u8 0, Value.int IntKind.u8 0, Value.int IntKind.u8 0, Value.int IntKind.u8 0, Value.int IntKind.u8 0, Value.int IntKind.u8 0, Value.int IntKind.u8 0, Value.int IntKind.u8 0, Value.int IntKind.u8 0, Value.int IntKind.u8 0, Value.int IntKind.u8 0, Value.int IntKind.u8 0, Value.int IntKind.u8 0, Value.int IntKind.u8 0, Value.int IntKind.u8 0, Value.int IntKind.u8 0, Value.int IntKind.u8 0, Value.int IntKind.u8 0, Value.int IntKind.u8 0, Value.int IntKind.u8 0, Value.int IntKind.u8 0, Value.int IntKind.u8 0, Value.int IntKind.u8 0, Value.int IntKind.u8 0, Value.int IntKind.u8 0, Value.int IntKind.u8 0, Value.int IntKind.u8 0, Value.int IntKind.u8 0, Value.int IntKind.u8 0, Value.int IntKind.u8 0, Value.int IntKind.u8 0] _ rfl (H2.out.row _) Tryd.underlying23 rfl HZ.out) rfl ⟨?_, below_row HB.out (Nat.le_refl _) _⟩
    rw [rd, HNO.out]; rfl
end Go.Proofs.YtdkhinjogomdaaaDoor
