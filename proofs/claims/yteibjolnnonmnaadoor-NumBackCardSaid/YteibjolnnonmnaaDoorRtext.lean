/-
  The contract of the reference's Text: for every int the call returns the decimal numeral.
-/
import Derived.Test.YteibjolnnonmnaaDoorProg
import Derived.WalkKit
import Derived.WalkSpells
import Derived.Deep.RegionWith
import Derived.Lib.ItoaNum
import Derived.Lib.ItoaLen
import Derived.Lib.Hide
import Derived.IntWalk
namespace Go.Proofs.YteibjolnnonmnaaDoor
open Go.RowKit

theorem ofNat_congr {a b : Nat} (h : a = b) : UInt8.ofNat a = UInt8.ofNat b := by rw [h]
theorem itoa_pos_small (n : Int) (h0 : 0 ≤ n) (h1 : n < 10) : Lib.itoa n = [UInt8.ofNat (48 + n).toNat] := by
  unfold Lib.itoa
  rw [if_neg (by omega), Lib.decDigits, dif_pos (by omega), ofNat_congr (show 48 + n.toNat = (48 + n).toNat by omega)]
theorem itoa_pos_step (n : Int) (h0 : 10 ≤ n) : Lib.itoa n = Lib.itoa (n / 10) ++ [UInt8.ofNat (48 + n % 10).toNat] := by
  unfold Lib.itoa
  rw [if_neg (by omega), if_neg (by omega), Lib.decDigits, dif_neg (by omega), show (n / 10).toNat = n.toNat / 10 by omega,
    ofNat_congr (show 48 + n.toNat % 10 = (48 + n % 10).toNat by omega)]
theorem tdiv10 (n : Int) (h : n ≤ 0) : n.tdiv 10 = -(-n / 10) := by
  have h1 : n = -(-n) := by omega
  rw [h1, Int.neg_tdiv, Int.tdiv_eq_ediv_of_nonneg (by omega)]
  simp
theorem tmod10 (n : Int) (h : n ≤ 0) : n.tmod 10 = -(-n % 10) := by
  have h1 : n = -(-n) := by omega
  rw [h1, Int.neg_tmod, Int.tmod_eq_emod_of_nonneg (by omega)]
  simp
theorem itoa_neg_small (n : Int) (h0 : n < 0) (h1 : -10 < n) : Lib.itoa n = [45, UInt8.ofNat (48 - n).toNat] := by
  unfold Lib.itoa
  rw [if_pos h0, Lib.decDigits, dif_pos (by omega), ofNat_congr (show 48 + n.natAbs = (48 - n).toNat by omega)]
theorem itoa_neg_step (n : Int) (h0 : n ≤ -10) : Lib.itoa n = Lib.itoa (n.tdiv 10) ++ [UInt8.ofNat (48 - n.tmod 10).toNat] := by
  rw [tdiv10 n (by omega), tmod10 n (by omega)]
  unfold Lib.itoa
  rw [if_pos (by omega), if_pos (by omega), Lib.decDigits, dif_neg (by omega), show (-(-n / 10)).natAbs = n.natAbs / 10 by omega,
    ofNat_congr (show 48 + n.natAbs % 10 = (48 - -(-n % 10)).toNat by omega)]
  rfl

theorem one_byte_at (W : World) (b : Nat) (z : Int) (h0 : 0 ≤ z) (h1 : z < 256) (hc : W.cell? ⟨b, 0, none⟩ = some (.int .u8 z)) : (convert 42 9 (.slice (some ⟨b, 0, none⟩) 1 1)).run Tryd.prog W = .ok (.string ⟨#[UInt8.ofNat z.toNat]⟩) W := by
  have e : (((UInt8.ofNat z.toNat).toNat : Nat) : Int) = z := by
    rw [UInt8.toNat_ofNat']
    omega
  exact run_convert_bytes_back (P := Tryd.prog) W 42 9 5 ⟨b, 0, none⟩ 1 [UInt8.ofNat z.toNat] Tryd.underlying42 Tryd.underlying5 Tryd.underlying9 (by
    intro i hi
    have : i = 0 := by simpa using hi
    subst this
    show W.cell? ⟨b, 0, none⟩ = _
    rw [hc]
    show _ = some (Value.int .u8 (((UInt8.ofNat z.toNat).toNat : Nat) : Int))
    rw [e])
theorem one_byte (W : World) (z : Int) (h0 : 0 ≤ z) (h1 : z < 256) : (convert 42 9 (.slice (some ⟨W.heap.size, 0, none⟩) 1 1)).run Tryd.prog (W.alloc (.cells #[.int .u8 z] 5)) = .ok (.string ⟨#[UInt8.ofNat z.toNat]⟩) (W.alloc (.cells #[.int .u8 z] 5)) :=
  one_byte_at _ _ z h0 h1 (by simp)
theorem one_byte_drew (W : World) (z : Int) (h0 : 0 ≤ z) (h1 : z < 256) : (convert 42 9 (.slice (some ⟨W.heap.size, 0, none⟩) 1 1)).run Tryd.prog (W.alloc (.cells #[.int .u8 z] 5)).drew = .ok (.string ⟨#[UInt8.ofNat z.toNat]⟩) (W.alloc (.cells #[.int .u8 z] 5)).drew :=
  one_byte_at _ _ z h0 h1 (by simp)
theorem one_byte_later (W W2 : World) (z : Int) (h0 : 0 ≤ z) (h1 : z < 256) (hb : Below (W.alloc (.cells #[.int .u8 z] 5)).drew.heap.size (W.alloc (.cells #[.int .u8 z] 5)).drew W2) : (convert 42 9 (.slice (some ⟨W.heap.size, 0, none⟩) 1 1)).run Tryd.prog W2 = .ok (.string ⟨#[UInt8.ofNat z.toNat]⟩) W2 :=
  one_byte_at _ _ z h0 h1 (by rw [hb.cell (by simp)]; simp)
theorem below_one {w w2 : World} (hb : Below w.drew.heap.size w.drew w2) (o : Obj) : Below w.heap.size w (w2.alloc o) :=
  (((Below.refl w.heap.size w).drew).trans (hb.mono (Nat.le_refl _))).alloc hb.size o
theorem below_two {w w2 : World} {o : Obj} (hb : Below (w.alloc o).drew.heap.size (w.alloc o).drew w2) : Below w.heap.size w w2 :=
  (((Below.refl w.heap.size w).alloc (Nat.le_refl _) o).drew).trans (hb.mono (by simp))
theorem str_snoc (l : List UInt8) (c : UInt8) : (⟨l.toArray⟩ ++ ⟨#[c]⟩ : ByteArray) = ⟨(l ++ [c]).toArray⟩ := by
  apply ByteArray.ext
  simp
theorem ret_str {a b : ByteArray} (h : a = b) : Ending.returned (.string a) = Ending.returned (.string b) := by rw [h]

set_option maxHeartbeats 400000 in
theorem rtext_pos_small (n : Int) (w : World) (h0 : 0 ≤ n) (h1 : n < 10) :
    Calls Tryd.prog 24 #[.int .i64 n] w fun e w' => e = .returned (.string ⟨#[UInt8.ofNat (48 + n).toNat]⟩) ∧ Below w.heap.size w w' := by
  have hcv := one_byte w (48 + n) (by omega) (by omega)
  go_enter Tryd.func24, Tryd.ntmps24
  go_wp2
  go_ret
  exact ⟨rfl, (Below.refl _ _).alloc (Nat.le_refl _) _⟩
set_option maxHeartbeats 400000 in
theorem rtext_neg_small (n : Int) (w : World) (h0 : n < 0) (h1 : -10 < n) :
    Calls Tryd.prog 24 #[.int .i64 n] w fun e w' => e = .returned (.string (⟨#[45]⟩ ++ ⟨#[UInt8.ofNat (48 - n).toNat]⟩)) ∧ Below w.heap.size w w' := by
  have hcv := one_byte w (48 - n) (by omega) (by omega)
  go_enter Tryd.func24, Tryd.ntmps24
  go_wp2
  go_ret
  exact ⟨rfl, (Below.refl _ _).alloc (Nat.le_refl _) _⟩
set_option maxHeartbeats 800000 in
theorem rtext_pos_step (n : Int) (w : World) (h0 : 10 ≤ n) (h1 : n < 9223372036854775808) (l : List UInt8) (hl : l.length ≤ 100)
   (ih : ∀ W, Calls Tryd.prog 24 #[.int .i64 (n / 10)] W fun e w' => e = .returned (.string ⟨l.toArray⟩) ∧ Below W.heap.size W w') :
    Calls Tryd.prog 24 #[.int .i64 n] w fun e w' => e = .returned (.string ⟨(l ++ [UInt8.ofNat (48 + n % 10).toNat]).toArray⟩) ∧ Below w.heap.size w w' := by
  have IH := Lib.hid ih
  clear ih
  have hcv := fun W => one_byte W (48 + n % 10) (by omega) (by omega)
  have hcd := one_byte_drew w (48 + n % 10) (by omega) (by omega)
  have e1 : IntKind.i64.wrap (n.tdiv 10) = n / 10 := IntWalk.i64_quo n 10 ⟨by omega, by omega, by omega⟩
  have e2 : n.tmod 10 = n % 10 := Int.tmod_eq_emod_of_nonneg (by omega)
  have e3 : IntKind.i64.wrap (n % 10) = n % 10 := IntWalk.i64_in _ (by omega)
  have e4 : IntKind.i64.wrap (48 + n % 10) = 48 + n % 10 := IntWalk.i64_in _ (by omega)
  have e5 : IntKind.u8.wrap (48 + n % 10) = 48 + n % 10 := IntWalk.u8_in _ (by omega)
  go_enter Tryd.func24, Tryd.ntmps24
  go_wp2_with fail
  go_region_with (go_at_call 24; refine (IH.out _).mono ?_; rintro e w2 ⟨rfl, hb⟩; try (have hk := one_byte_later w w2 (48 + n % 10) (by omega) (by omega) hb))
  all_goals clear hcv hcd e1 e2 e3 e4 e5
  · go_wp2
    go_ret
    exact ⟨ret_str (str_snoc _ _), below_one hb _⟩
  · clear hk
    go_wp2
    go_ret
    exact ⟨ret_str (str_snoc _ _), below_two hb⟩
  · clear hk
    go_wp2
    go_ret
    exact ⟨ret_str (str_snoc _ _), below_two hb⟩
set_option maxHeartbeats 800000 in
theorem rtext_neg_step (n : Int) (w : World) (h0 : n ≤ -10) (h1 : -9223372036854775808 ≤ n) (l : List UInt8) (hl : l.length ≤ 100)
   (ih : ∀ W, Calls Tryd.prog 24 #[.int .i64 (n.tdiv 10)] W fun e w' => e = .returned (.string ⟨l.toArray⟩) ∧ Below W.heap.size W w') :
    Calls Tryd.prog 24 #[.int .i64 n] w fun e w' => e = .returned (.string ⟨(l ++ [UInt8.ofNat (48 - n.tmod 10).toNat]).toArray⟩) ∧ Below w.heap.size w w' := by
  have IH := Lib.hid ih
  clear ih
  have t1 := tdiv10 n (by omega)
  have t2 := tmod10 n (by omega)
  have hcv := fun W => one_byte W (48 - n.tmod 10) (by omega) (by omega)
  have hcd := one_byte_drew w (48 - n.tmod 10) (by omega) (by omega)
  have e1 : IntKind.i64.wrap (n.tdiv 10) = n.tdiv 10 := IntWalk.i64_in _ (by omega)
  have e3 : IntKind.i64.wrap (n.tmod 10) = n.tmod 10 := IntWalk.i64_in _ (by omega)
  have e4 : IntKind.i64.wrap (48 - n.tmod 10) = 48 - n.tmod 10 := IntWalk.i64_in _ (by omega)
  have e5 : IntKind.u8.wrap (48 - n.tmod 10) = 48 - n.tmod 10 := IntWalk.u8_in _ (by omega)
  have r1 : -9 ≤ n.tmod 10 := by omega
  have r2 : n.tmod 10 ≤ 0 := by omega
  clear t1 t2
  go_enter Tryd.func24, Tryd.ntmps24
  go_wp2_with fail
  go_region_with (go_at_call 24; refine (IH.out _).mono ?_; rintro e w2 ⟨rfl, hb⟩; try (have hk := one_byte_later w w2 (48 - n.tmod 10) (by omega) (by omega) hb))
  all_goals clear hcv hcd e1 e3 e4 e5
  · go_wp2
    go_ret
    exact ⟨ret_str (str_snoc _ _), below_one hb _⟩
  · clear hk
    go_wp2
    go_ret
    exact ⟨ret_str (str_snoc _ _), below_two hb⟩
  · clear hk
    go_wp2
    go_ret
    exact ⟨ret_str (str_snoc _ _), below_two hb⟩

theorem rtext_any (n : Int) (h0 : -9223372036854775808 ≤ n) (h1 : n ≤ 9223372036854775807) (w : World) :
    Calls Tryd.prog 24 #[.int .i64 n] w fun e w' => e = .returned (.string ⟨(Lib.itoa n).toArray⟩) ∧ Below w.heap.size w w' := by
  have key : ∀ (k : Nat) (n : Int), n.natAbs = k → -9223372036854775808 ≤ n → n ≤ 9223372036854775807 → ∀ w,
      Calls Tryd.prog 24 #[.int .i64 n] w fun e w' => e = .returned (.string ⟨(Lib.itoa n).toArray⟩) ∧ Below w.heap.size w w' := by
    intro k
    induction k using Nat.strongRecOn with
    | _ k ih =>
      intro n hk h0 h1 w
      by_cases hp : 0 ≤ n
      · by_cases hs : n < 10
        · rw [itoa_pos_small n hp hs]
          exact rtext_pos_small n w hp hs
        · rw [itoa_pos_step n (by omega)]
          exact rtext_pos_step n w (by omega) (by omega) _ (Nat.le_trans (Lib.itoa_length_le _ (by omega) (by omega)) (by decide))
            (fun W => ih (n / 10).natAbs (by omega) (n / 10) rfl (by omega) (by omega) W)
      · by_cases hs : -10 < n
        · rw [itoa_neg_small n (by omega) hs]
          refine (rtext_neg_small n w (by omega) hs).mono fun e w' ⟨he, hb⟩ => ⟨?_, hb⟩
          rw [he]
          exact ret_str (str_snoc [45] _)
        · rw [itoa_neg_step n (by omega)]
          have t1 := tdiv10 n (by omega)
          exact rtext_neg_step n w (by omega) h0 _ (Nat.le_trans (Lib.itoa_length_le _ (by omega) (by omega)) (by decide))
            (fun W => ih (n.tdiv 10).natAbs (by omega) (n.tdiv 10) rfl (by omega) (by omega) W)
  exact key n.natAbs n rfl h0 h1 w
end Go.Proofs.YteibjolnnonmnaaDoor
