/-
  The code's compress.
-/
import Derived.Test.YtmcdbjkmkbdeiaaDoorS3Sched
namespace Go.Proofs.YtmcdbjkmkbdeiaaDoor.S3
open Go.RowKit
theorem and_lt32 (a b : Nat) (ha : a < 4294967296) : a &&& b < 4294967296 := Nat.lt_of_le_of_lt Nat.and_le_left ha
theorem mixed_as (x M i j k : Nat) (hM : Hid (M = Sha.rotr x i ^^^ Sha.rotr x j ^^^ Sha.rotr x k)) (w : World) (hx : x < 4294967296) (hi : 0 < i ∧ i < 32) (hj : 0 < j ∧ j < 32) (hk : 0 < k ∧ k < 32) :
    Calls Tryd.prog 33 #[.int .u32 x, .int .i64 i, .int .i64 j, .int .i64 k] w fun e w' => e = .returned (.int .u32 (M : Nat)) ∧ w' = w := by
  rw [hM.out]
  exact (mixed_any x i j k w hx hi hj hk).mono fun e w' ⟨h1, h2⟩ => ⟨h1, h2.symm⟩
theorem round_eq (a b c d e f g h K W : Nat) : Sha.round [a, b, c, d, e, f, g, h] K W =
    [((h + Sha.b1 e + Sha.ch e f g + K + W) % 4294967296 + Sha.b0 a + Sha.mj a b c) % 4294967296, a, b, c, (d + (h + Sha.b1 e + Sha.ch e f g + K + W) % 4294967296) % 4294967296, e, f, g] := rfl
theorem ks_lt (k : Nat) : Sha.ks.getD k 0 < 4294967296 := by
  by_cases h : k < 64
  · have : ∀ a : Fin 64, Sha.ks.getD a.val 0 < 4294967296 := by decide +kernel
    exact this ⟨k, h⟩
  · rw [List.getD_eq_getElem?_getD, List.getElem?_eq_none (by simp [Sha.ks]; omega)]; decide
theorem zeight_eq : #[Value.int IntKind.u32 0, Value.int IntKind.u32 0, Value.int IntKind.u32 0, Value.int IntKind.u32 0, Value.int IntKind.u32 0, Value.int IntKind.u32 0, Value.int IntKind.u32 0, Value.int IntKind.u32 0] = wd [0, 0, 0, 0, 0, 0, 0, 0] := rfl
set_option maxHeartbeats 4000000 in
set_option maxRecDepth 100000 in
theorem compress_any (h0 h1 h2 h3 h4 h5 h6 h7 : Nat) (s : ByteArray) (w : World) (hs : s.size = 64) (hw : Tabs w)
    (l0 : h0 < 4294967296) (l1 : h1 < 4294967296) (l2 : h2 < 4294967296) (l3 : h3 < 4294967296) (l4 : h4 < 4294967296) (l5 : h5 < 4294967296) (l6 : h6 < 4294967296) (l7 : h7 < 4294967296) :
    Calls Tryd.prog 30 #[.agg (wd [h0, h1, h2, h3, h4, h5, h6, h7]), .string s] w fun e w' => e = .returned (.agg (wd (Sha.block [h0, h1, h2, h3, h4, h5, h6, h7] (nat (ls s))))) ∧ Below w.heap.size w w' := by
  obtain ⟨H, hH⟩ : ∃ H, H = wd [h0, h1, h2, h3, h4, h5, h6, h7] := ⟨_, rfl⟩
  rw [← hH]
  have hs1 : (w.alloc (Obj.cells H 58)).heap.size = w.heap.size + 1 := Array.size_push _
  have hs2 : ((w.alloc (Obj.cells H 58)).alloc (Obj.cells #[Value.int IntKind.u32 0, Value.int IntKind.u32 0, Value.int IntKind.u32 0, Value.int IntKind.u32 0, Value.int IntKind.u32 0, Value.int IntKind.u32 0, Value.int IntKind.u32 0, Value.int IntKind.u32 0] 58)).heap.size = w.heap.size + 2 := (Array.size_push _).trans (by rw [hs1])
  have hI2 : Is ((w.alloc (Obj.cells H 58)).alloc (Obj.cells #[Value.int IntKind.u32 0, Value.int IntKind.u32 0, Value.int IntKind.u32 0, Value.int IntKind.u32 0, Value.int IntKind.u32 0, Value.int IntKind.u32 0, Value.int IntKind.u32 0, Value.int IntKind.u32 0] 58)) w.heap.size 58 H := (Is.fresh w 58 _).alloc _
  have hI4 : Is ((w.alloc (Obj.cells H 58)).alloc (Obj.cells #[Value.int IntKind.u32 0, Value.int IntKind.u32 0, Value.int IntKind.u32 0, Value.int IntKind.u32 0, Value.int IntKind.u32 0, Value.int IntKind.u32 0, Value.int IntKind.u32 0, Value.int IntKind.u32 0] 58)) (w.heap.size + 1) 58 #[Value.int IntKind.u32 0, Value.int IntKind.u32 0, Value.int IntKind.u32 0, Value.int IntKind.u32 0, Value.int IntKind.u32 0, Value.int IntKind.u32 0, Value.int IntKind.u32 0, Value.int IntKind.u32 0] := by
    have := Is.fresh (w.alloc (Obj.cells H 58)) 58 #[Value.int IntKind.u32 0, Value.int IntKind.u32 0, Value.int IntKind.u32 0, Value.int IntKind.u32 0, Value.int IntKind.u32 0, Value.int IntKind.u32 0, Value.int IntKind.u32 0, Value.int IntKind.u32 0]
    rwa [hs1] at this
  have hB : Below w.heap.size w ((w.alloc (Obj.cells H 58)).alloc (Obj.cells #[Value.int IntKind.u32 0, Value.int IntKind.u32 0, Value.int IntKind.u32 0, Value.int IntKind.u32 0, Value.int IntKind.u32 0, Value.int IntKind.u32 0, Value.int IntKind.u32 0, Value.int IntKind.u32 0] 58)) := ((Below.refl _ _).alloc (Nat.le_refl _) _).alloc (by omega) _
  have hz : (Tryd.prog.info? 75).map (·.size) = some 64 := by kernel_rfl
  have hzeight : (Tryd.prog.info? 58).map (·.size) = some 8 := by kernel_rfl
  have C := Lib.hid (schedule_any s ((w.alloc (Obj.cells H 58)).alloc (Obj.cells #[Value.int IntKind.u32 0, Value.int IntKind.u32 0, Value.int IntKind.u32 0, Value.int IntKind.u32 0, Value.int IntKind.u32 0, Value.int IntKind.u32 0, Value.int IntKind.u32 0, Value.int IntKind.u32 0] 58)) hs)
  obtain ⟨S, hS⟩ : ∃ S, S = Sha.sched (nat (ls s)) 48 := ⟨_, rfl⟩
  rw [← hS] at C
  have hSl : S.length = 64 := by rw [hS, sched_len]
  have hSz : (Tryd.prog.info? 75).map (·.size) = some (wd S).size := by rw [wd_size, hSl]; exact hz
  have hSo : (#[Value.int IntKind.u32 0, Value.int IntKind.u32 0, Value.int IntKind.u32 0, Value.int IntKind.u32 0, Value.int IntKind.u32 0, Value.int IntKind.u32 0, Value.int IntKind.u32 0, Value.int IntKind.u32 0, Value.int IntKind.u32 0, Value.int IntKind.u32 0, Value.int IntKind.u32 0, Value.int IntKind.u32 0, Value.int IntKind.u32 0, Value.int IntKind.u32 0, Value.int IntKind.u32 0, Value.int IntKind.u32 0, Value.int IntKind.u32 0, Value.int IntKind.u32 0, Value.int IntKind.u32 0, Value.int IntKind.u32 0, Value.int IntKind.u32 0, Value.int IntKind.u32 0, Value.int IntKind.u32 0, Value.int IntKind.u32 0, Value.int IntKind.u32 0, Value.int IntKind.u32 0, Value.int IntKind.u32 0, Value.int IntKind.u32 0, Value.int IntKind.u32 0, Value.int IntKind.u32 0, Value.int IntKind.u32 0, Value.int IntKind.u32 0, Value.int IntKind.u32 0, Value.int IntKind.u32 0, Value.int IntKind.u32 0, Value.int IntKind.u32 0, Value.int IntKind.u32 0, Value.int IntKind.u32 0, Value.int IntKind.u32 0, Value.int IntKind.u32 0, Value.int IntKind.u32 0, Value.int IntKind.u32 0, Value.int IntKind.u32 0, Value.int IntKind.u32 0, Value.int IntKind.u32 0, Value.int IntKind.u32 0, Value.int IntKind.u32 0, Value.int IntKind.u32 0, Value.int IntKind.u32 0, Value.int IntKind.u32 0, Value.int IntKind.u32 0, Value.int IntKind.u32 0, Value.int IntKind.u32 0, Value.int IntKind.u32 0, Value.int IntKind.u32 0, Value.int IntKind.u32 0, Value.int IntKind.u32 0, Value.int IntKind.u32 0, Value.int IntKind.u32 0, Value.int IntKind.u32 0, Value.int IntKind.u32 0, Value.int IntKind.u32 0, Value.int IntKind.u32 0, Value.int IntKind.u32 0] : Array Value).size = (wd S).size := by rw [wd_size, hSl]; rfl
  have SB : ∀ k, S.getD k 0 < 4294967296 := fun k => by rw [hS]; exact sched_lt _ (fun k => nat_lt _ k) 48 k
  have H2 := Lib.hid hI2
  have H4 := Lib.hid hI4
  have HB := Lib.hid hB
  have HZ := Lib.hid hSz
  have HZeight := Lib.hid hzeight
  have HO := Lib.hid hSo
  have HS := Lib.hid hS
  have HSB := Lib.hid SB
  have HSL := Lib.hid hSl
  have HT := Lib.hid hw
  have HH := Lib.hid hH
  have HS2 := Lib.hid hs2
  have L0 := Lib.hid l0
  have L1 := Lib.hid l1
  have L2 := Lib.hid l2
  have L3 := Lib.hid l3
  have L4 := Lib.hid l4
  have L5 := Lib.hid l5
  have L6 := Lib.hid l6
  have L7 := Lib.hid l7
  clear hI2 hI4 hB hz hzeight hs hw hSl hSz hSo SB hs1 hs2 hS hH l0 l1 l2 l3 l4 l5 l6 l7
  go_enter Tryd.func30, Tryd.ntmps30
  go_wp2_with first
    | (go_at_call 32; refine (C.out).mono ?_; rintro e w1 ⟨rfl, hb1⟩; have B1 := Lib.hid hb1; clear hb1)
    | (refine wpList_store_row rfl 75 _ _ rfl w1.heap.size (wd S) rfl rfl 75 #[Value.int IntKind.u32 0, Value.int IntKind.u32 0, Value.int IntKind.u32 0, Value.int IntKind.u32 0, Value.int IntKind.u32 0, Value.int IntKind.u32 0, Value.int IntKind.u32 0, Value.int IntKind.u32 0, Value.int IntKind.u32 0, Value.int IntKind.u32 0, Value.int IntKind.u32 0, Value.int IntKind.u32 0, Value.int IntKind.u32 0, Value.int IntKind.u32 0, Value.int IntKind.u32 0, Value.int IntKind.u32 0, Value.int IntKind.u32 0, Value.int IntKind.u32 0, Value.int IntKind.u32 0, Value.int IntKind.u32 0, Value.int IntKind.u32 0, Value.int IntKind.u32 0, Value.int IntKind.u32 0, Value.int IntKind.u32 0, Value.int IntKind.u32 0, Value.int IntKind.u32 0, Value.int IntKind.u32 0, Value.int IntKind.u32 0, Value.int IntKind.u32 0, Value.int IntKind.u32 0, Value.int IntKind.u32 0, Value.int IntKind.u32 0, Value.int IntKind.u32 0, Value.int IntKind.u32 0, Value.int IntKind.u32 0, Value.int IntKind.u32 0, Value.int IntKind.u32 0, Value.int IntKind.u32 0, Value.int IntKind.u32 0, Value.int IntKind.u32 0, Value.int IntKind.u32 0, Value.int IntKind.u32 0, Value.int IntKind.u32 0, Value.int IntKind.u32 0, Value.int IntKind.u32 0, Value.int IntKind.u32 0, Value.int IntKind.u32 0, Value.int IntKind.u32 0, Value.int IntKind.u32 0, Value.int IntKind.u32 0, Value.int IntKind.u32 0, Value.int IntKind.u32 0, Value.int IntKind.u32 0, Value.int IntKind.u32 0, Value.int IntKind.u32 0, Value.int IntKind.u32 0, Value.int IntKind.u32 0, Value.int IntKind.u32 0, Value.int IntKind.u32 0, Value.int IntKind.u32 0, Value.int IntKind.u32 0, Value.int IntKind.u32 0, Value.int IntKind.u32 0, Value.int IntKind.u32 0] (Is.fresh w1 75 _) HZ.out HO.out (wd_one _) ?_)
  obtain ⟨W, hW⟩ : ∃ W, W = (w1.alloc (Obj.cells #[Value.int IntKind.u32 0, Value.int IntKind.u32 0, Value.int IntKind.u32 0, Value.int IntKind.u32 0, Value.int IntKind.u32 0, Value.int IntKind.u32 0, Value.int IntKind.u32 0, Value.int IntKind.u32 0, Value.int IntKind.u32 0, Value.int IntKind.u32 0, Value.int IntKind.u32 0, Value.int IntKind.u32 0, Value.int IntKind.u32 0, Value.int IntKind.u32 0, Value.int IntKind.u32 0, Value.int IntKind.u32 0, Value.int IntKind.u32 0, Value.int IntKind.u32 0, Value.int IntKind.u32 0, Value.int IntKind.u32 0, Value.int IntKind.u32 0, Value.int IntKind.u32 0, Value.int IntKind.u32 0, Value.int IntKind.u32 0, Value.int IntKind.u32 0, Value.int IntKind.u32 0, Value.int IntKind.u32 0, Value.int IntKind.u32 0, Value.int IntKind.u32 0, Value.int IntKind.u32 0, Value.int IntKind.u32 0, Value.int IntKind.u32 0, Value.int IntKind.u32 0, Value.int IntKind.u32 0, Value.int IntKind.u32 0, Value.int IntKind.u32 0, Value.int IntKind.u32 0, Value.int IntKind.u32 0, Value.int IntKind.u32 0, Value.int IntKind.u32 0, Value.int IntKind.u32 0, Value.int IntKind.u32 0, Value.int IntKind.u32 0, Value.int IntKind.u32 0, Value.int IntKind.u32 0, Value.int IntKind.u32 0, Value.int IntKind.u32 0, Value.int IntKind.u32 0, Value.int IntKind.u32 0, Value.int IntKind.u32 0, Value.int IntKind.u32 0, Value.int IntKind.u32 0, Value.int IntKind.u32 0, Value.int IntKind.u32 0, Value.int IntKind.u32 0, Value.int IntKind.u32 0, Value.int IntKind.u32 0, Value.int IntKind.u32 0, Value.int IntKind.u32 0, Value.int IntKind.u32 0, Value.int IntKind.u32 0, Value.int IntKind.u32 0, Value.int IntKind.u32 0, Value.int IntKind.u32 0] 75)).setRow w1.heap.size (wd S) := ⟨_, rfl⟩
  have g1 : w.heap.size + 2 ≤ w1.heap.size := by rw [← HS2.out]; exact B1.out.size
  have hI5 : Is W w1.heap.size 75 (wd S) := by rw [hW]; exact (Is.fresh w1 75 _).row _
  have hB' : Below (w.heap.size + 2) w1 W := by rw [hW]; exact below_row ((Below.refl _ _).alloc (by omega) _) (by omega) _
  have hJ2 : Is W w.heap.size 58 H := (H2.out.below B1.out (by rw [HS2.out]; omega)).below hB' (by omega)
  have hJ4 : Is W (w.heap.size + 1) 58 #[Value.int IntKind.u32 0, Value.int IntKind.u32 0, Value.int IntKind.u32 0, Value.int IntKind.u32 0, Value.int IntKind.u32 0, Value.int IntKind.u32 0, Value.int IntKind.u32 0, Value.int IntKind.u32 0] := (H4.out.below B1.out (by rw [HS2.out]; omega)).below hB' (by omega)
  have hBW : Below w.heap.size w W := (HB.out.trans (B1.out.mono (by rw [HS2.out]; omega))).trans (hB'.mono (by omega))
  have hT : Tabs W := HT.out.below hBW HT.out.1
  rw [← hW]
  obtain ⟨g, hg⟩ : ∃ g, g = w1.heap.size := ⟨_, rfl⟩
  obtain ⟨g4, hg4⟩ : ∃ g, g = w.heap.size + 1 := ⟨_, rfl⟩
  rw [← hg] at hI5 ⊢
  rw [← hg4] at hJ4 ⊢
  have hgg : w.heap.size + 2 ≤ g := by omega
  clear hW hB' HB HT H2 H4 C HO HS2 B1
  have I5 := Lib.hid hI5
  have J2 := Lib.hid hJ2
  have J4 := Lib.hid hJ4
  have HB := Lib.hid hBW
  have HT := Lib.hid hT
  have HG := Lib.hid hgg
  have HG4 := Lib.hid hg4
  clear hI5 hJ4 hBW hT hgg hg4 g1 hg
  rw [HH.out] at hJ2
  have c0 : W.cell? ⟨w.heap.size, 0, none⟩ = some (.int .u32 (h0 : Nat)) := hJ2.at_ 0
  have c1 : W.cell? ⟨w.heap.size, 1, none⟩ = some (.int .u32 (h1 : Nat)) := hJ2.at_ 1
  have c2 : W.cell? ⟨w.heap.size, 2, none⟩ = some (.int .u32 (h2 : Nat)) := hJ2.at_ 2
  have c3 : W.cell? ⟨w.heap.size, 3, none⟩ = some (.int .u32 (h3 : Nat)) := hJ2.at_ 3
  have c4 : W.cell? ⟨w.heap.size, 4, none⟩ = some (.int .u32 (h4 : Nat)) := hJ2.at_ 4
  have c5 : W.cell? ⟨w.heap.size, 5, none⟩ = some (.int .u32 (h5 : Nat)) := hJ2.at_ 5
  have c6 : W.cell? ⟨w.heap.size, 6, none⟩ = some (.int .u32 (h6 : Nat)) := hJ2.at_ 6
  have c7 : W.cell? ⟨w.heap.size, 7, none⟩ = some (.int .u32 (h7 : Nat)) := hJ2.at_ 7
  clear hJ2 w1
  dsimp only [Act.put]
  go_quiet (fail)
  go_wp2
  go_loopw [6, 7, 8, 9, 10, 11, 12, 13, 37] (fun v6 v7 v8 v9 v10 v11 v12 v13 i wr => ∃ k a b c d e f p q : Nat, k ≤ 64 ∧ i = .int .i64 k ∧ v6 = .int .u32 a ∧ v7 = .int .u32 b ∧ v8 = .int .u32 c ∧ v9 = .int .u32 d ∧ v10 = .int .u32 e ∧ v11 = .int .u32 f ∧ v12 = .int .u32 p ∧ v13 = .int .u32 q ∧ Hid (∃ j, wr = W.drewN j) ∧
    Hid (Sha.rounds S [h0, h1, h2, h3, h4, h5, h6, h7] k = [a, b, c, d, e, f, p, q]) ∧ a < 4294967296 ∧ b < 4294967296 ∧ c < 4294967296 ∧ d < 4294967296 ∧ e < 4294967296 ∧ f < 4294967296 ∧ p < 4294967296 ∧ q < 4294967296) (fun _ _ _ _ _ _ _ _ i _ => 64 - (intOf i).toNat)
  case atStart => exact ⟨0, h0, h1, h2, h3, h4, h5, h6, h7, by omega, rfl, rfl, rfl, rfl, rfl, rfl, rfl, rfl, rfl, Lib.hid ⟨_, rfl⟩, Lib.hid rfl, L0.out, L1.out, L2.out, L3.out, L4.out, L5.out, L6.out, L7.out⟩
  case round =>
    obtain ⟨k, a, b, c, d, e, f, p, q, hk, rfl, rfl, rfl, rfl, rfl, rfl, rfl, rfl, rfl, HJ, HR, la, lb, lc, ld, le, lf, lp, lq⟩ := hrel
    by_cases hlt : k < 64
    · have i1 : decide ((k : Int) < 64) = true := by simp; omega
      have i2 : (k : Int) < 64 := by omega
      have i3 : (0 : Int) ≤ (k : Int) := by omega
      obtain ⟨A1, hA1⟩ : ∃ x, x = e &&& f := ⟨_, rfl⟩
      obtain ⟨NE, hNE⟩ : ∃ x, x = 4294967295 - e := ⟨_, rfl⟩
      obtain ⟨A2, hA2⟩ : ∃ x, x = NE &&& p := ⟨_, rfl⟩
      obtain ⟨CH, hCH⟩ : ∃ x, x = A1 ^^^ A2 := ⟨_, rfl⟩
      obtain ⟨B1, hB1⟩ : ∃ x, x = a &&& b := ⟨_, rfl⟩
      obtain ⟨B2, hB2⟩ : ∃ x, x = a &&& c := ⟨_, rfl⟩
      obtain ⟨B3, hB3⟩ : ∃ x, x = B1 ^^^ B2 := ⟨_, rfl⟩
      obtain ⟨B4, hB4⟩ : ∃ x, x = b &&& c := ⟨_, rfl⟩
      obtain ⟨MJ, hMJ⟩ : ∃ x, x = B3 ^^^ B4 := ⟨_, rfl⟩
      obtain ⟨M1, hM1⟩ : ∃ x, x = Sha.rotr e 6 ^^^ Sha.rotr e 11 ^^^ Sha.rotr e 25 := ⟨_, rfl⟩
      obtain ⟨M2, hM2⟩ : ∃ x, x = Sha.rotr a 2 ^^^ Sha.rotr a 13 ^^^ Sha.rotr a 22 := ⟨_, rfl⟩
      obtain ⟨K, hK⟩ : ∃ x, x = Sha.ks.getD k 0 := ⟨_, rfl⟩
      obtain ⟨X, hX⟩ : ∃ x, x = S.getD k 0 := ⟨_, rfl⟩
      have lNE : NE < 4294967296 := by omega
      have lA1 : A1 < 4294967296 := by rw [hA1]; exact and_lt32 _ _ le
      have lA2 : A2 < 4294967296 := by rw [hA2]; exact and_lt32 _ _ lNE
      have lB1 : B1 < 4294967296 := by rw [hB1]; exact and_lt32 _ _ la
      have lB2 : B2 < 4294967296 := by rw [hB2]; exact and_lt32 _ _ la
      have lB3 : B3 < 4294967296 := by rw [hB3]; exact xor_lt32 _ _ lB1 lB2
      have lB4 : B4 < 4294967296 := by rw [hB4]; exact and_lt32 _ _ lb
      have lCH : CH < 4294967296 := by rw [hCH]; exact xor_lt32 _ _ lA1 lA2
      have lMJ : MJ < 4294967296 := by rw [hMJ]; exact xor_lt32 _ _ lB3 lB4
      have lM1 : M1 < 4294967296 := by rw [hM1]; exact xor_lt32 _ _ (xor_lt32 _ _ (rotr_lt e 6 le) (rotr_lt e 11 le)) (rotr_lt e 25 le)
      have lM2 : M2 < 4294967296 := by rw [hM2]; exact xor_lt32 _ _ (xor_lt32 _ _ (rotr_lt a 2 la) (rotr_lt a 13 la)) (rotr_lt a 22 la)
      have lK : K < 4294967296 := by rw [hK]; exact ks_lt k
      have lX : X < 4294967296 := by rw [hX]; exact HSB.out k
      have E1 : bits .and .u32 (e : Int) (f : Int) = (A1 : Int) := by rw [u32_and_nat e f le lf, hA1]
      have E2 : bits .xor .u32 IntKind.u32.max (e : Int) = (NE : Int) := by rw [hNE]; exact not_u32 e le
      have E3 : bits .and .u32 (NE : Int) (p : Int) = (A2 : Int) := by rw [u32_and_nat NE p lNE lp, hA2]
      have E4 : bits .xor .u32 (A1 : Int) (A2 : Int) = (CH : Int) := by rw [u32_xor_nat A1 A2 lA1 lA2, hCH]
      have E5 : bits .and .u32 (a : Int) (b : Int) = (B1 : Int) := by rw [u32_and_nat a b la lb, hB1]
      have E6 : bits .and .u32 (a : Int) (c : Int) = (B2 : Int) := by rw [u32_and_nat a c la lc, hB2]
      have E7 : bits .xor .u32 (B1 : Int) (B2 : Int) = (B3 : Int) := by rw [u32_xor_nat B1 B2 lB1 lB2, hB3]
      have E8 : bits .and .u32 (b : Int) (c : Int) = (B4 : Int) := by rw [u32_and_nat b c lb lc, hB4]
      have E9 : bits .xor .u32 (B3 : Int) (B4 : Int) = (MJ : Int) := by rw [u32_xor_nat B3 B4 lB3 lB4, hMJ]
      have k1 : wr.cell? ⟨1, k, none⟩ = some (.int .u32 (K : Nat)) := by obtain ⟨j, hj⟩ := HJ.out; rw [hj, hK]; exact HT.out.2.2 k hlt
      have k2 : wr.cell? ⟨g, k, none⟩ = some (.int .u32 (X : Nat)) := by
        obtain ⟨j, hj⟩ := HJ.out
        rw [hj]
        show W.cell? ⟨g, k, none⟩ = _
        rw [I5.out.at_ k, wd_at S k (by rw [HSL.out]; exact hlt), hX, getD_in S k (by rw [HSL.out]; exact hlt)]
      have HM1 := Lib.hid hM1
      have HM2 := Lib.hid hM2
      have LE := Lib.hid le
      have LA := Lib.hid la
      have C1 := fun w => Lib.hid (mixed_as e M1 6 11 25 HM1 w le (by decide) (by decide) (by decide))
      have C2 := fun w => Lib.hid (mixed_as a M2 2 13 22 HM2 w la (by decide) (by decide) (by decide))
      have hch : Sha.ch e f p = CH := by unfold Sha.ch; rw [hCH, hA1, hA2, hNE]; rfl
      have hmj : Sha.mj a b c = MJ := by unfold Sha.mj; rw [hMJ, hB3, hB1, hB2, hB4]
      have hnext : Sha.rounds S [h0, h1, h2, h3, h4, h5, h6, h7] (k + 1) = [((q + M1 + CH + K + X) % 4294967296 + M2 + MJ) % 4294967296, a, b, c, (d + (q + M1 + CH + K + X) % 4294967296) % 4294967296, e, f, p] := by
        rw [Sha.rounds, HR.out, round_eq, hch, hmj, ← hK, ← hX, show Sha.b1 e = M1 from hM1.symm, show Sha.b0 a = M2 from hM2.symm]
      have HN := Lib.hid hnext
      clear hA1 hNE hA2 hCH hB1 hB2 hB3 hB4 hMJ hM1 hM2 hK hX hch hmj hnext c0 c1 c2 c3 c4 c5 c6 c7
      go_wp2
      go_quiet (first | (go_at_call 33; exact Calls.quiet_of_same (C1 _).out))
      go_wp2_with (go_at_call 33; refine ((C2 _).out).mono ?_; rintro e w1 ⟨rfl, rfl⟩)
      go_roundw
      case rel =>
        refine ⟨k + 1, ((q + M1 + CH + K + X) % 4294967296 + M2 + MJ) % 4294967296, a, b, c, (d + (q + M1 + CH + K + X) % 4294967296) % 4294967296, e, f, p, by omega, by go_num, by go_num, rfl, rfl, rfl, by go_num, rfl, rfl, rfl, Lib.hid (by obtain ⟨j, hj⟩ := HJ.out; rw [hj]; exact ⟨_, World.drewN_drewN _ _ _⟩), HN, by omega, la, lb, lc, by omega, le, lf, lp⟩
      case measure => simp [intOf]; omega
    · have i1 : decide ((k : Int) < 64) = false := by simp; omega
      obtain ⟨j, hj⟩ := HJ.out
      have hzeight : (Tryd.prog.info? 58).map (·.size) = some 8 := HZeight.out
      have c0 : wr.cell? ⟨w.heap.size, 0, none⟩ = some (.int .u32 (h0 : Nat)) := by rw [hj]; exact c0
      have c1 : wr.cell? ⟨w.heap.size, 1, none⟩ = some (.int .u32 (h1 : Nat)) := by rw [hj]; exact c1
      have c2 : wr.cell? ⟨w.heap.size, 2, none⟩ = some (.int .u32 (h2 : Nat)) := by rw [hj]; exact c2
      have c3 : wr.cell? ⟨w.heap.size, 3, none⟩ = some (.int .u32 (h3 : Nat)) := by rw [hj]; exact c3
      have c4 : wr.cell? ⟨w.heap.size, 4, none⟩ = some (.int .u32 (h4 : Nat)) := by rw [hj]; exact c4
      have c5 : wr.cell? ⟨w.heap.size, 5, none⟩ = some (.int .u32 (h5 : Nat)) := by rw [hj]; exact c5
      have c6 : wr.cell? ⟨w.heap.size, 6, none⟩ = some (.int .u32 (h6 : Nat)) := by rw [hj]; exact c6
      have c7 : wr.cell? ⟨w.heap.size, 7, none⟩ = some (.int .u32 (h7 : Nat)) := by rw [hj]; exact c7
      have K4 : Hid (Is wr g4 58 #[Value.int IntKind.u32 0, Value.int IntKind.u32 0, Value.int IntKind.u32 0, Value.int IntKind.u32 0, Value.int IntKind.u32 0, Value.int IntKind.u32 0, Value.int IntKind.u32 0, Value.int IntKind.u32 0]) := Lib.hid (by rw [hj]; exact J4.out)
      have HBJ : Hid (Below w.heap.size w wr) := Lib.hid (by rw [hj]; exact below_drew HB.out _)
      have HK : Hid (k = 64) := Lib.hid (by omega)
      have HRES : Hid (Sha.block [h0, h1, h2, h3, h4, h5, h6, h7] (nat (ls s)) = [(h0 + a) % 4294967296, (h1 + b) % 4294967296, (h2 + c) % 4294967296, (h3 + d) % 4294967296, (h4 + e) % 4294967296, (h5 + f) % 4294967296, (h6 + p) % 4294967296, (h7 + q) % 4294967296]) := Lib.hid (by
        unfold Sha.block
        rw [← HS.out, ← HK.out, HR.out]
        simp only [List.zipWith_cons_cons, List.zipWith_nil_left, Sha.w32, Nat.add_comm])
      clear hj hzeight
      go_wp2_with (refine wpList_store_row rfl 58 _ _ rfl g4 (wd [(h0 + a) % 4294967296, (h1 + b) % 4294967296, (h2 + c) % 4294967296, (h3 + d) % 4294967296, (h4 + e) % 4294967296, (h5 + f) % 4294967296, (h6 + p) % 4294967296, (h7 + q) % 4294967296]) rfl rfl 58 #[Value.int IntKind.u32 0, Value.int IntKind.u32 0, Value.int IntKind.u32 0, Value.int IntKind.u32 0, Value.int IntKind.u32 0, Value.int IntKind.u32 0, Value.int IntKind.u32 0, Value.int IntKind.u32 0] K4.out HZeight.out rfl (wd_one _) ?_)
      refine bodyPost_ret (v := .agg (wd [(h0 + a) % 4294967296, (h1 + b) % 4294967296, (h2 + c) % 4294967296, (h3 + d) % 4294967296, (h4 + e) % 4294967296, (h5 + f) % 4294967296, (h6 + p) % 4294967296, (h7 + q) % 4294967296])) (results_cell_row rfl _ _ g4 58 _ (0, 0) _ rfl (K4.out.row _) Tryd.underlying58 rfl HZeight.out) rfl ⟨by rw [HRES.out], below_row HBJ.out (by rw [HG4.out]; omega) _⟩
end Go.Proofs.YtmcdbjkmkbdeiaaDoor.S3
