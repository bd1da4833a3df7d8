/-
  The walk of PressChecks.
-/
import Derived.Test.YtmcdbjkmkbdeiaaDoorSmall
import Derived.Test.YtmcdbjkmkbdeiaaDoorS3ShaA
import Derived.Test.YtmcdbjkmkbdeiaaDoorS3Crc
import Derived.Test.YtmcdbjkmkbdeiaaDoorS3Eq
namespace Go.Proofs.YtmcdbjkmkbdeiaaDoor
open Go.RowKit
theorem shaB_length (l : List UInt8) : (S3.shaB l).length = 32 := by
  unfold S3.shaB S3.Sha.sha
  rw [← S3.outB_out, S3.outB_len]
theorem packed (s : ByteArray) (hs : s.size ≤ 16777216) : ∃ p : ByteArray, p.size ≤ 2 * s.size + 4 ∧ Hid (ls p = packE (ls s)) ∧
    Hid (∀ w, Calls Tryd.prog 5 #[.string s] w fun e w' => e = .returned (.string p) ∧ Below w.heap.size w w') ∧
    Hid (∀ w, Calls Tryd.prog 6 #[.string p] w fun e w' => e = .returned (.tuple #[.string s, .bool true]) ∧ Below w.heap.size w w') := by
  refine ⟨mk (packE (ls s)), pack_le (ls s) hs, Lib.hid rfl, Lib.hid (fun w => pack_any (ls s) w hs), Lib.hid (fun w => ?_)⟩
  exact uk _ (ls s) (unpack_back _ hs) (by have := pack_le (ls s) hs; rw [ls_length] at this; omega) w
set_option maxRecDepth 20000 in
set_option maxHeartbeats 1000000 in
theorem checks_any (s : ByteArray) (w : World) (hw : S3.Tabs w) : Calls Tryd.prog 3 #[.string s] w fun e w' => e = .returned (.bool true) ∧ Below w.heap.size w w' := by
  have S0 := Lib.hid small_any
  by_cases h1 : 2000 < s.size
  · have i1 : decide ((2000 : Int) < (s.size : Int)) = true := by simp; omega
    go_enter Tryd.func3, Tryd.ntmps3
    go_wp2_with (go_at_call 4; refine (S0.out _).mono ?_; rintro e w1 ⟨rfl, h1⟩; have B1 := Lib.hid h1; clear h1)
    go_ret
    exact ⟨rfl, B1.out⟩
  · have i1 : decide ((2000 : Int) < (s.size : Int)) = false := by simp; omega
    obtain ⟨p, hp, HP, P, U⟩ := packed s (by omega)
    obtain ⟨q, hq, HQ, Q, V⟩ := packed p (by omega)
    have O : Hid (∀ W, Calls Tryd.prog 7 #[.string p] W fun e w' => ∃ b, e = .returned (.pointer (some ⟨b, 0, none⟩)) ∧ W.heap.size ≤ b ∧ Rd w' b 55 (some (ls p)) ∧ Below W.heap.size W w') := Lib.hid (fun W => open_any (ls p) W)
    have M : Hid (∀ b W, Rd W b 55 (some (ls p)) → Calls Tryd.prog 10 #[.pointer (some ⟨b, 0, none⟩)] W fun e w' => e = .returned (.int .i64 (s.size : Int)) ∧ W.grownBy w' (some b)) := Lib.hid (fun b W h => (num_any b (some (ls p)) W h (by show (ls p).length ≤ _; rw [ls_length]; omega)).mono fun e w' ⟨h1, h2, h3⟩ => ⟨by
      rw [HP.out, pack_in (ls s) (by rw [ls_length]; omega), rNum_vint _ _ (by rw [ls_length]; omega), ls_length] at h1; exact h1, h3⟩)
    obtain ⟨c, C⟩ : ∃ c : Nat, Hid (∀ W, S3.Tabs W → Calls Tryd.prog 8 #[.string s] W fun e w' => e = .returned (.int .u32 (c : Int)) ∧ W = w') := ⟨_, Lib.hid (fun W h => S3.crc_any s W h (by omega))⟩
    obtain ⟨D, H, E⟩ : ∃ D : Array Value, Hid (∀ W, S3.Tabs W → Calls Tryd.prog 9 #[.string s] W fun e w' => e = .returned (.agg D) ∧ Below W.heap.size W w') ∧ ∀ W, (Op.equalIn 10000 31 (.agg D) (.agg D)).run Tryd.prog W = .ok true W :=
      ⟨_, Lib.hid (fun W h => S3.sha_any s W h (by omega)), fun W => by
        rw [S3.eq_dig _ _ (shaB_length (S3.ls s)) (shaB_length (S3.ls s)) W]; simp⟩
    have TB : Hid (∀ W, Below w.heap.size w W → S3.Tabs W) := Lib.hid (fun W h => hw.below h hw.1)
    clear hw
    go_enter Tryd.func3, Tryd.ntmps3
    go_wp2_with (first
      | (go_at_call 4; refine (S0.out _).mono ?_; rintro e w1 ⟨rfl, h1⟩; have B1 := Lib.hid h1; clear h1)
      | (go_at_call 5; have B2' := B2; refine (Q.out _).mono ?_; rintro e w3 ⟨rfl, h1⟩; have B3 := Lib.hid (bw B2.out h1 B2.out.size); clear h1)
      | (go_at_call 5; refine (P.out _).mono ?_; rintro e w2 ⟨rfl, h1⟩; have B2 := Lib.hid (bw B1.out h1 B1.out.size); clear h1)
      | (go_at_call 6; have B4' := B4; refine (U.out _).mono ?_; rintro e w5 ⟨rfl, h1⟩; have B5 := Lib.hid (bw B4.out h1 B4.out.size); clear h1)
      | (go_at_call 6; refine (V.out _).mono ?_; rintro e w4 ⟨rfl, h1⟩; have B4 := Lib.hid (bw B3.out h1 B3.out.size); clear h1)
      | (go_at_call 7; refine (O.out _).mono ?_; rintro e w6 ⟨b, rfl, hb, h1, h2⟩; have R6 := Lib.hid h1; have B6 := Lib.hid (bw B5.out h2 B5.out.size); have hb2 := Nat.le_trans B5.out.size hb; clear h1 h2 hb)
      | (go_at_call 8; refine (C.out _ (TB.out _ B6.out)).mono ?_; rintro e w7 ⟨rfl, rfl⟩)
      | (go_at_call 9; have B7' := B7; refine (H.out _ (TB.out _ B7.out)).mono ?_; rintro e w8 ⟨rfl, h1⟩; have R8 := Lib.hid (Is.below R7.out h1 R7.out.lt); have B8 := Lib.hid (bw B7.out h1 B7.out.size); clear h1)
      | (go_at_call 9; refine (H.out _ (TB.out _ B6.out)).mono ?_; rintro e w7 ⟨rfl, h1⟩; have R7 := Lib.hid (Is.below R6.out h1 R6.out.lt); have B7 := Lib.hid (bw B6.out h1 B6.out.size); clear h1)
      | (go_at_call 10; refine (M.out _ _ R8.out).mono ?_; rintro e w9 ⟨rfl, h1⟩; have B9 := Lib.hid (below_grown B8.out h1 hb2 B8.out.size); clear h1))
    go_ret
    exact ⟨by simp, B9.out⟩
end Go.Proofs.YtmcdbjkmkbdeiaaDoor
