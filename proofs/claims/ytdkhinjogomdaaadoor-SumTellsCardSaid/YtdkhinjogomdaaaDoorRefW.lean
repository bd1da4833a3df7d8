/-
  The reference's firsts, adds and words.
-/
import Derived.Test.YtdkhinjogomdaaaDoorW32
import Derived.Test.YtdkhinjogomdaaaDoorAbs
import Derived.Deep.RegionLaw
import Derived.Deep.RegionHeld3
namespace Go.Proofs.YtdkhinjogomdaaaDoor
open Go.RowKit
theorem firsts_any (w : World) : Calls Tryd.prog 24 #[] w fun e w' => e = .returned (.slice (some ⟨w.heap.size, 0, none⟩) 8 8) ∧ w' = w.alloc (.cells (wd Sha.h0) 27) := by
  go_enter Tryd.func24, Tryd.ntmps24
  go_wp2
  go_ret
  exact ⟨rfl, rfl⟩
set_option maxRecDepth 100000 in
theorem adds_any (w : World) : Calls Tryd.prog 28 #[] w fun e w' => e = .returned (.slice (some ⟨w.heap.size, 0, none⟩) 64 64) ∧ w' = w.alloc (.cells (wd Sha.ks) 27) := by
  go_enter Tryd.func28, Tryd.ntmps28
  go_wp2
  go_ret
  exact ⟨rfl, rfl⟩
/-- A slice of bytes, wherever it lies. -/
def BytesAt (w : World) (g off : Nat) (l : List Nat) : Prop := ∀ j, j < l.length → w.cell? ⟨g, off + j, none⟩ = some (.int .u8 (l.getD j 0 : Nat))
theorem word_own (w wr : World) (u3 : Value) (x : Nat) (l l' : List Nat) (X : Int) (hX : X = (x : Nat)) (hl : l' = l ++ [x]) (HO : wr.ownsRow w.heap.size 27 1 u3 l.length (words l)) (HB : Below w.heap.size w wr) (v : Value) (n : Nat) (w4 : World)
    (hown : w4.ownsRow w.heap.size 27 1 v n (words l ++ [.int .u32 X])) (hgr : (wr.alloc (.cells #[.int .u32 X] 27)).drew.grownBy w4 u3.ownBlock) :
    w4.ownsRow w.heap.size 27 1 v (l.length + 1) (words l') ∧ Below w.heap.size w w4 := by
  have hn : n = l.length + 1 := by
    have := hown.1
    simp [words] at this
    omega
  refine ⟨own_cast hown hn (by rw [hX, hl]; simp [words]), ?_⟩
  exact Below.grown ((HB.drew).alloc (by show _ ≤ wr.heap.size; exact HB.size) _) hgr (by show _ ≤ (wr.heap.push _).size; rw [Array.size_push]; have := HB.size; omega) (fun j hj => (HO.lt j hj).1)
set_option maxHeartbeats 8000000 in
set_option maxRecDepth 100000 in
theorem words_any (g off cap : Nat) (b : List Nat) (w : World) (hl : b.length = 64) (hb : ∀ k, b.getD k 0 < 256) (hw : BytesAt w g off b) (hg : g < w.heap.size) :
    Calls Tryd.prog 27 #[.slice (some ⟨g, off, none⟩) 64 cap] w fun e w' => ∃ v, e = .returned v ∧ w'.ownsRow w.heap.size 27 1 v 64 (words (Sha.sched b 48)) ∧ Below w.heap.size w w' := by
  obtain ⟨i0, hi, hz0, hz1, hz2⟩ := info_parts info27
  have HW := Lib.hid hw
  have HG := Lib.hid hg
  have HL := Lib.hid hl
  have HBL := Lib.hid hb
  clear hw hl hb
  go_enter Tryd.func27, Tryd.ntmps27
  go_wp2
  go_loopw [3, 4] (fun v i wr => ∃ k : Nat, k ≤ 16 ∧ i = .int .i64 k ∧ wr.ownsRow w.heap.size 27 1 v k (words (Sha.first b k)) ∧ Below w.heap.size w wr) (fun _ i _ => 16 - (intOf i).toNat)
  case atStart => exact ⟨0, by omega, rfl, World.ownsRow_nil _ _ _ _, Below.refl _ _⟩
  case round =>
    obtain ⟨k, hk, rfl, ho, hB⟩ := hrel
    have HO := Lib.hid ho
    have HB := Lib.hid hB
    by_cases hlt : k < 16
    · have i1 : decide ((k : Int) < 16) = true := by simp; omega
      have i2 : (k : Int) < 16 := by omega
      have i3 : (0 : Int) ≤ (k : Int) := by omega
      have m0 : (4 : Int) * (k : Int) < 64 := by omega
      have m1 : (4 : Int) * (k : Int) + 1 < 64 := by omega
      have m2 : (4 : Int) * (k : Int) + 2 < 64 := by omega
      have m3 : (4 : Int) * (k : Int) + 3 < 64 := by omega
      have p0 : (0 : Int) ≤ (4 : Int) * (k : Int) := by omega
      have p1 : (0 : Int) ≤ (4 : Int) * (k : Int) + 1 := by omega
      have p2 : (0 : Int) ≤ (4 : Int) * (k : Int) + 2 := by omega
      have p3 : (0 : Int) ≤ (4 : Int) * (k : Int) + 3 := by omega
      have cc : ∀ j, j < 64 → wr.cell? ⟨g, off + j, none⟩ = some (.int .u8 (b.getD j 0 : Nat)) := fun j hj => by
        rw [← HW.out j (by rw [HL.out]; exact hj)]
        exact hB.cell hg
      obtain ⟨b0, hb0⟩ : ∃ x, x = b.getD (4 * k) 0 := ⟨_, rfl⟩
      obtain ⟨b1, hb1⟩ : ∃ x, x = b.getD (4 * k + 1) 0 := ⟨_, rfl⟩
      obtain ⟨b2, hb2⟩ : ∃ x, x = b.getD (4 * k + 2) 0 := ⟨_, rfl⟩
      obtain ⟨b3, hb3⟩ : ∃ x, x = b.getD (4 * k + 3) 0 := ⟨_, rfl⟩
      have c0 := cc (4 * k) (by omega)
      have c1 := cc (4 * k + 1) (by omega)
      have c2 := cc (4 * k + 2) (by omega)
      have c3 := cc (4 * k + 3) (by omega)
      rw [← hb0, show 4 * k = (4 * (k : Int)).toNat by omega] at c0
      rw [← hb1, show 4 * k + 1 = (4 * (k : Int) + 1).toNat by omega] at c1
      rw [← hb2, show 4 * k + 2 = (4 * (k : Int) + 2).toNat by omega] at c2
      rw [← hb3, show 4 * k + 3 = (4 * (k : Int) + 3).toNat by omega] at c3
      have l0 : b0 < 256 := by rw [hb0]; exact HBL.out _
      have l1 : b1 < 256 := by rw [hb1]; exact HBL.out _
      have l2 : b2 < 256 := by rw [hb2]; exact HBL.out _
      have l3 : b3 < 256 := by rw [hb3]; exact HBL.out _
      have HE := Lib.hid (word_or b0 b1 b2 b3 l0 l1 l2 l3)
      have HWD : Hid (Sha.word b k = b0 * 16777216 + b1 * 65536 + b2 * 256 + b3) := Lib.hid (by unfold Sha.word; rw [hb0, hb1, hb2, hb3])
      have W0 : IntKind.i64.wrap (4 * (k : Int)) = 4 * (k : Int) := IntWalk.i64_in _ (by omega)
      have W1 : IntKind.i64.wrap (4 * (k : Int) + 1) = 4 * (k : Int) + 1 := IntWalk.i64_in _ (by omega)
      have W2 : IntKind.i64.wrap (4 * (k : Int) + 2) = 4 * (k : Int) + 2 := IntWalk.i64_in _ (by omega)
      have W3 : IntKind.i64.wrap (4 * (k : Int) + 3) = 4 * (k : Int) + 3 := IntWalk.i64_in _ (by omega)
      have V0 : IntKind.u32.wrap (b0 : Int) = b0 := by rw [IntKind.wrap_u32']; omega
      have V1 : IntKind.u32.wrap (b1 : Int) = b1 := by rw [IntKind.wrap_u32']; omega
      have V2 : IntKind.u32.wrap (b2 : Int) = b2 := by rw [IntKind.wrap_u32']; omega
      have V3 : IntKind.u32.wrap (b3 : Int) = b3 := by rw [IntKind.wrap_u32']; omega
      have U0 : IntKind.u32.wrap ((b0 : Int) * 16777216) = (b0 : Int) * 16777216 := by rw [IntKind.wrap_u32']; omega
      have U1 : IntKind.u32.wrap ((b1 : Int) * 65536) = (b1 : Int) * 65536 := by rw [IntKind.wrap_u32']; omega
      have U2 : IntKind.u32.wrap ((b2 : Int) * 256) = (b2 : Int) * 256 := by rw [IntKind.wrap_u32']; omega
      have fl : (Sha.first b k).length = k := first_len b k
      have FIN : Hid (∀ v n w4, w4.ownsRow w.heap.size 27 1 v n (words (Sha.first b k) ++ [.int .u32 (bits .or .u32 (bits .or .u32 (bits .or .u32 ((b0 : Int) * 16777216) ((b1 : Int) * 65536)) ((b2 : Int) * 256)) (b3 : Int))]) → (wr.alloc (.cells #[.int .u32 (bits .or .u32 (bits .or .u32 (bits .or .u32 ((b0 : Int) * 16777216) ((b1 : Int) * 65536)) ((b2 : Int) * 256)) (b3 : Int))] 27)).drew.grownBy w4 u3.ownBlock →
          w4.ownsRow w.heap.size 27 1 v (k + 1) (words (Sha.first b (k + 1))) ∧ Below w.heap.size w w4) := Lib.hid fun v n w4 h1 h2 => by
        have := word_own w wr u3 (Sha.word b k) (Sha.first b k) (Sha.first b (k + 1)) _ (by rw [HE.out, HWD.out]) (first_snoc b k) (by rw [fl]; exact HO.out) HB.out v n w4 h1 h2
        rw [fl] at this
        exact this
      have HO2 : Hid ((wr.drew.alloc (.cells #[.int .u32 (bits .or .u32 (bits .or .u32 (bits .or .u32 ((b0 : Int) * 16777216) ((b1 : Int) * 65536)) ((b2 : Int) * 256)) (b3 : Int))] 27)).ownsRow w.heap.size 27 1 u3 k (words (Sha.first b k))) := Lib.hid (HO.out.drew.alloc _)
      have HN : Hid (∀ j x, [Value.int .u32 (bits .or .u32 (bits .or .u32 (bits .or .u32 ((b0 : Int) * 16777216) ((b1 : Int) * 65536)) ((b2 : Int) * 256)) (b3 : Int))][j]? = some x → (wr.drew.alloc (.cells #[.int .u32 (bits .or .u32 (bits .or .u32 (bits .or .u32 ((b0 : Int) * 16777216) ((b1 : Int) * 65536)) ((b2 : Int) * 256)) (b3 : Int))] 27)).cell? ((⟨wr.heap.size, 0, none⟩ : Addr).add j) = some x) := Lib.hid (new_one wr.drew _ 27)
      have HSZ : Hid (w.heap.size ≤ wr.heap.size) := Lib.hid hB.size
      have SK : Hid (∀ W', Below w.heap.size w W' → (fun w' => w'.cell? ⟨g, off + (4 * (k : Int)).toNat, none⟩ = some (.int .u8 (b0 : Nat)) ∧ w'.cell? ⟨g, off + (4 * (k : Int) + 1).toNat, none⟩ = some (.int .u8 (b1 : Nat)) ∧ w'.cell? ⟨g, off + (4 * (k : Int) + 2).toNat, none⟩ = some (.int .u8 (b2 : Nat)) ∧ w'.cell? ⟨g, off + (4 * (k : Int) + 3).toNat, none⟩ = some (.int .u8 (b3 : Nat))) W') := Lib.hid fun W' h => by
        have q : ∀ m, m < 64 → W'.cell? ⟨g, off + m, none⟩ = wr.cell? ⟨g, off + m, none⟩ := fun m hm => (h.cell HG.out).trans (hB.cell HG.out).symm
        exact ⟨(q _ (by omega)).trans c0, (q _ (by omega)).trans c1, (q _ (by omega)).trans c2, (q _ (by omega)).trans c3⟩
      have HBA : Hid (Below w.heap.size w (wr.alloc (.cells #[.int .u32 (bits .or .u32 (bits .or .u32 (bits .or .u32 ((b0 : Int) * 16777216) ((b1 : Int) * 65536)) ((b2 : Int) * 256)) (b3 : Int))] 27)).drew) := Lib.hid ((HB.out.alloc hB.size _).drew)
      clear hb0 hb1 hb2 hb3 cc ho hB fl
      go_wp2
      go_region_held3 (fun w' => w'.cell? ⟨g, off + (4 * (k : Int)).toNat, none⟩ = some (.int .u8 (b0 : Nat)) ∧ w'.cell? ⟨g, off + (4 * (k : Int) + 1).toNat, none⟩ = some (.int .u8 (b1 : Nat)) ∧ w'.cell? ⟨g, off + (4 * (k : Int) + 2).toNat, none⟩ = some (.int .u8 (b2 : Nat)) ∧ w'.cell? ⟨g, off + (4 * (k : Int) + 3).toNat, none⟩ = some (.int .u8 (b3 : Nat))) (first | exact SK.out _ HB.out.drew | exact SK.out _ HBA.out | exact SK.out _ BW4.out) (first
        | (refine step_append_lies _ rfl (.tmp 14) (.tmp 48) 48 rfl w.heap.size 27 i0 (.int .u32 0) 1 4 Tryd.underlying48 hi hz0 hz1 hz2 rfl (by decide) u3 k (words (Sha.first b k)) (by simp [Act.eval]) HO2.out ⟨wr.heap.size, 0, none⟩ 1 1 [.int .u32 (bits .or .u32 (bits .or .u32 (bits .or .u32 ((b0 : Int) * 16777216) ((b1 : Int) * 65536)) ((b2 : Int) * 256)) (b3 : Int))] (by simp [Act.eval]) rfl HN.out (by intro u hu; simp at hu; subst hu; rfl) (by decide) (by simp only [maxLen]; omega) (by omega) (by have := HSZ.out; show _ ≤ (wr.heap.push _).size; rw [Array.size_push]; omega) _ rfl ?_; intro g4 cap4 w4 hown4 hgr4 hat4 hlt4; have HOWN := Lib.hid hown4; have HGR := Lib.hid hgr4; have BW4 := Lib.hid (FIN.out _ _ _ hown4 hgr4).2; clear hown4 hgr4 hat4 hlt4))
      all_goals go_wp2
      all_goals exact ⟨⟨k + 1, by omega, by go_num, FIN.out _ _ _ HOWN.out HGR.out⟩, by simp [intOf]; omega⟩
    · have i1 : decide ((k : Int) < 16) = false := by simp; omega
      have HK : Hid (k = 16) := Lib.hid (by omega)
      have HO16 : Hid (wr.ownsRow w.heap.size 27 1 u3 (0 + 16) (words (Sha.sched b 0))) := Lib.hid (by rw [HK.out] at ho; exact ho)
      clear ho hB
      go_wp2
      go_loopw [3, 5] (fun v i wr => ∃ p : Nat, p ≤ 48 ∧ i = .int .i64 ((p : Int) + 16) ∧ wr.ownsRow w.heap.size 27 1 v (p + 16) (words (Sha.sched b p)) ∧ Below w.heap.size w wr) (fun _ i _ => 64 - (intOf i).toNat)
      case atStart => exact ⟨0, by omega, rfl, HO16.out, HB.out⟩
      case round =>
        obtain ⟨p, hp, rfl, ho, hB⟩ := hrel
        by_cases hlt : p < 48
        · obtain ⟨g3, cap3, rfl, hg3, -⟩ := ho.form (by omega)
          have i1 : decide ((p : Int) + 16 < 64) = true := by simp; omega
          have i2 : (p : Int) < 48 := by omega
          have i3 : (0 : Int) ≤ (p : Int) := by omega
          have sl : (Sha.sched b p).length = p + 16 := by rw [sched_len]; omega
          have cells : ∀ (V : World), V.ownsRow w.heap.size 27 1 (.slice (some ⟨g3, 0, none⟩) (p + 16) cap3) (p + 16) (words (Sha.sched b p)) → ∀ m, m < p + 16 → V.cell? ⟨g3, m, none⟩ = some (.int .u32 ((Sha.sched b p).getD m 0 : Nat)) := fun V hV m hm => by
            have := hV.cells (g := g3) rfl m (.int .u32 ((Sha.sched b p).getD m 0 : Nat)) (by rw [words_at _ m (by rw [sl]; exact hm), getD_in])
            have e : (⟨g3, 0, none⟩ : Addr).add m = ⟨g3, m, none⟩ := by unfold Addr.add; split <;> simp_all
            rwa [e] at this
          obtain ⟨x, hx⟩ : ∃ x, x = (Sha.sched b p).getD (p + 1) 0 := ⟨_, rfl⟩
          obtain ⟨y, hy⟩ : ∃ x, x = (Sha.sched b p).getD (p + 14) 0 := ⟨_, rfl⟩
          obtain ⟨u, hu⟩ : ∃ x, x = (Sha.sched b p).getD (p + 9) 0 := ⟨_, rfl⟩
          obtain ⟨v, hv⟩ : ∃ x, x = (Sha.sched b p).getD p 0 := ⟨_, rfl⟩
          have c1 := cells wr ho (p + 1) (by omega)
          have c2 := cells wr ho (p + 14) (by omega)
          rw [← hx] at c1
          rw [← hy] at c2
          have CU : Hid (∀ V : World, V.ownsRow w.heap.size 27 1 (.slice (some ⟨g3, 0, none⟩) (p + 16) cap3) (p + 16) (words (Sha.sched b p)) → V.cell? ⟨g3, p + 9, none⟩ = some (.int .u32 (u : Nat))) := Lib.hid fun V hV => by rw [hu]; exact cells V hV (p + 9) (by omega)
          have CVV : Hid (∀ V : World, V.ownsRow w.heap.size 27 1 (.slice (some ⟨g3, 0, none⟩) (p + 16) cap3) (p + 16) (words (Sha.sched b p)) → V.cell? ⟨g3, p, none⟩ = some (.int .u32 (v : Nat))) := Lib.hid fun V hV => by rw [hv]; exact cells V hV p (by omega)
          have lx : x < 4294967296 := by rw [hx]; exact sched_lt b HBL.out p _
          have ly : y < 4294967296 := by rw [hy]; exact sched_lt b HBL.out p _
          have lu : u < 4294967296 := by rw [hu]; exact sched_lt b HBL.out p _
          have lv : v < 4294967296 := by rw [hv]; exact sched_lt b HBL.out p _
          obtain ⟨d0, hd0⟩ : ∃ d, d = Sha.rotr x 7 ^^^ Sha.rotr x 18 := ⟨_, rfl⟩
          obtain ⟨d1, hd1⟩ : ∃ d, d = Sha.rotr y 17 ^^^ Sha.rotr y 19 := ⟨_, rfl⟩
          obtain ⟨S0, hS0⟩ : ∃ d, d = d0 ^^^ (x / 8) := ⟨_, rfl⟩
          obtain ⟨S1, hS1⟩ : ∃ d, d = d1 ^^^ (y / 1024) := ⟨_, rfl⟩
          have ld0 : d0 < 4294967296 := by rw [hd0]; exact xor_lt32 _ _ (rotr_lt x 7 lx) (rotr_lt x 18 lx)
          have ld1 : d1 < 4294967296 := by rw [hd1]; exact xor_lt32 _ _ (rotr_lt y 17 ly) (rotr_lt y 19 ly)
          have e1 := u32_xor_nat (Sha.rotr x 7) (Sha.rotr x 18) (rotr_lt x 7 lx) (rotr_lt x 18 lx)
          have e2 := u32_xor_nat d0 (x / 8) ld0 (by omega)
          have e3 := u32_xor_nat (Sha.rotr y 17) (Sha.rotr y 19) (rotr_lt y 17 ly) (rotr_lt y 19 ly)
          have e4 := u32_xor_nat d1 (y / 1024) ld1 (by omega)
          rw [← hd0] at e1
          rw [← hS0, show ((x / 8 : Nat) : Int) = (x : Int) / 8 by omega] at e2
          rw [← hd1] at e3
          rw [← hS1, show ((y / 1024 : Nat) : Int) = (y : Int) / 1024 by omega] at e4
          have hmore : Sha.more (Sha.sched b p) = (v + S0 + u + S1) % 4294967296 := by
            unfold Sha.more
            rw [sl, show p + 16 - 16 = p by omega, show p + 16 - 15 = p + 1 by omega, show p + 16 - 7 = p + 9 by omega, show p + 16 - 2 = p + 14 by omega, ← hx, ← hy, ← hu, ← hv]
            have a0 : Sha.s0 x = S0 := by unfold Sha.s0; rw [hS0, hd0, Nat.shiftRight_eq_div_pow]
            have a1 : Sha.s1 y = S1 := by unfold Sha.s1; rw [hS1, hd1, Nat.shiftRight_eq_div_pow]
            rw [a0, a1]; rfl
          have lS0 : S0 < 4294967296 := by rw [hS0]; exact xor_lt32 _ _ ld0 (by omega)
          have lS1 : S1 < 4294967296 := by rw [hS1]; exact xor_lt32 _ _ ld1 (by omega)
          have HMX : Hid (IntKind.u32.wrap (IntKind.u32.wrap (IntKind.u32.wrap ((v : Int) + (S0 : Int)) + (u : Int)) + (S1 : Int)) = ((Sha.more (Sha.sched b p) : Nat) : Int)) := Lib.hid (by rw [IntKind.wrap_u32', IntKind.wrap_u32', IntKind.wrap_u32', hmore]; omega)
          have HSL := Lib.hid sl
          have HOC := Lib.hid ho
          have HBC := Lib.hid hB
          have W1 : IntKind.i64.wrap (p : Int) = (p : Int) := IntWalk.i64_in _ (by omega)
          have W2 : IntKind.i64.wrap ((p : Int) + 9) = (p : Int) + 9 := IntWalk.i64_in _ (by omega)
          have W3 : IntKind.i64.wrap ((p : Int) + 16 - 16) = (p : Int) := IntWalk.i64_in _ (by omega) |>.trans (by omega)
          have W4 : IntKind.i64.wrap ((p : Int) + 16 - 7) = (p : Int) + 9 := IntWalk.i64_in _ (by omega) |>.trans (by omega)
          clear cells hx hy hu hv sl hd0 hd1 hS0 hS1 hmore ho hB
          go_wp2_with (go_at_call 29; refine (turn_any _ _ _ (by assumption) (by decide) (by decide)).mono ?_; rintro e w9 ⟨rfl, j, hj⟩; have HOC : Hid (w9.ownsRow w.heap.size 27 1 (.slice (some ⟨g3, 0, none⟩) (p + 16) cap3) (p + 16) (words (Sha.sched b p))) := Lib.hid (by rw [hj]; exact HOC.out); have HBC : Hid (Below w.heap.size w w9) := Lib.hid (by rw [hj]; exact below_drew HBC.out _); clear hj)
          have q1 := CVV.out w9 HOC.out
          have q2 := CU.out w9 HOC.out
          have q3 : w9.cell? ⟨g3, ((p : Int) + 9).toNat, none⟩ = some (.int .u32 (u : Nat)) := by rw [show ((p : Int) + 9).toNat = p + 9 by omega]; exact q2
          have fl : (Sha.sched b p).length = p + 16 := HSL.out
          have FIN : Hid (∀ v' n w4, w4.ownsRow w.heap.size 27 1 v' n (words (Sha.sched b p) ++ [.int .u32 (IntKind.u32.wrap (IntKind.u32.wrap (IntKind.u32.wrap ((v : Int) + (S0 : Int)) + (u : Int)) + (S1 : Int)))]) → (w9.alloc (.cells #[.int .u32 (IntKind.u32.wrap (IntKind.u32.wrap (IntKind.u32.wrap ((v : Int) + (S0 : Int)) + (u : Int)) + (S1 : Int)))] 27)).drew.grownBy w4 (Value.slice (some ⟨g3, 0, none⟩) (p + 16) cap3).ownBlock →
              w4.ownsRow w.heap.size 27 1 v' (p + 1 + 16) (words (Sha.sched b (p + 1))) ∧ Below w.heap.size w w4) := Lib.hid fun v' n w4 h1 h2 => by
            have := word_own w w9 _ (Sha.more (Sha.sched b p)) (Sha.sched b p) (Sha.sched b (p + 1)) _ HMX.out rfl (by rw [fl]; exact HOC.out) HBC.out v' n w4 h1 h2
            rw [fl, show p + 16 + 1 = p + 1 + 16 by omega] at this
            exact this
          have HO2 : Hid ((w9.drew.alloc (.cells #[.int .u32 (IntKind.u32.wrap (IntKind.u32.wrap (IntKind.u32.wrap ((v : Int) + (S0 : Int)) + (u : Int)) + (S1 : Int)))] 27)).ownsRow w.heap.size 27 1 (.slice (some ⟨g3, 0, none⟩) (p + 16) cap3) (p + 16) (words (Sha.sched b p))) := Lib.hid (HOC.out.drew.alloc _)
          have HN : Hid (∀ j x, [Value.int .u32 (IntKind.u32.wrap (IntKind.u32.wrap (IntKind.u32.wrap ((v : Int) + (S0 : Int)) + (u : Int)) + (S1 : Int)))][j]? = some x → (w9.drew.alloc (.cells #[.int .u32 (IntKind.u32.wrap (IntKind.u32.wrap (IntKind.u32.wrap ((v : Int) + (S0 : Int)) + (u : Int)) + (S1 : Int)))] 27)).cell? ((⟨w9.heap.size, 0, none⟩ : Addr).add j) = some x) := Lib.hid (new_one w9.drew _ 27)
          have HSZ : Hid (w.heap.size ≤ w9.heap.size) := Lib.hid HBC.out.size
          have y1 : (p : Int) < (p : Int) + 16 := by omega
          have y2 : (p : Int) + 9 < (p : Int) + 16 := by omega
          have y3 : (0 : Int) ≤ (p : Int) + 9 := by omega
          clear fl c1 c2 e1 e2 e3 e4
          go_region_law (refine step_append_lies _ rfl (.tmp 80) (.tmp 96) 48 rfl w.heap.size 27 i0 (.int .u32 0) 1 4 Tryd.underlying48 hi hz0 hz1 hz2 rfl (by decide) (.slice (some ⟨g3, 0, none⟩) (p + 16) cap3) (p + 16) (words (Sha.sched b p)) (by simp [Act.eval]) HO2.out ⟨w9.heap.size, 0, none⟩ 1 1 [.int .u32 (IntKind.u32.wrap (IntKind.u32.wrap (IntKind.u32.wrap ((v : Int) + (S0 : Int)) + (u : Int)) + (S1 : Int)))] (by simp [Act.eval]) rfl HN.out (by intro u hu; simp at hu; subst hu; rfl) (by decide) (by simp only [maxLen]; omega) (by omega) (by have := HSZ.out; show _ ≤ (w9.heap.push _).size; rw [Array.size_push]; omega) _ rfl ?_; intro g4 cap4 w4 hown4 hgr4 hat4 hlt4; have HOWN := Lib.hid hown4; have HGR := Lib.hid hgr4; clear hown4 hgr4 hat4 hlt4)
          all_goals go_wp2
          all_goals exact ⟨⟨p + 1, by omega, by go_num, FIN.out _ _ _ HOWN.out HGR.out⟩, by simp [intOf]; omega⟩
        · have j1 : decide ((p : Int) + 16 < 64) = false := by simp; omega
          have HP : Hid (p = 48) := Lib.hid (by omega)
          have HO := Lib.hid ho
          have HB := Lib.hid hB
          clear ho hB
          go_wp2
          go_ret
          refine ⟨_, rfl, ?_, HB.out⟩
          have := HO.out
          rw [HP.out] at this
          exact this
end Go.Proofs.YtdkhinjogomdaaaDoor
