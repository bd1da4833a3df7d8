/-
  SumAffine: what the law's function does at whatever input.
-/
import Derived.Test.YtdkhinjogomdaaaDoorGoes
import Derived.Deep.RegionLaw
namespace Go.Proofs.YtdkhinjogomdaaaDoor
open Go.RowKit Go.Sort
theorem affine_1 (a b c : ByteArray) (w : World) (hw : Tabs w) (ha : 1000 < a.size) : Calls Tryd.prog 6 #[.string a, .string b, .string c] w fun e w' => e = .returned (.bool true) ∧ Below w.heap.size w w' := by
  have C := small_hid w hw
  have d1 : decide ((1000 : Int) < (a.size : Int)) = true := by simp; omega
  clear hw
  go_enter Tryd.func6, Tryd.ntmps6
  go_wp2_with (go_at_call 8; refine C.out.mono ?_; rintro e w1 ⟨rfl, hb⟩; have HB := Lib.hid hb; clear hb)
  go_ret
  exact ⟨rfl, HB.out⟩
theorem affine_2 (a b c : ByteArray) (w : World) (hw : Tabs w) (ha : a.size ≤ 1000) (hb : b.size ≠ a.size) : Calls Tryd.prog 6 #[.string a, .string b, .string c] w fun e w' => e = .returned (.bool true) ∧ Below w.heap.size w w' := by
  have C := small_hid w hw
  have d1 : decide ((1000 : Int) < (a.size : Int)) = false := by simp; omega
  have d2 : ((b.size : Int) != (a.size : Int)) = true := by simp; omega
  have d3 : ((b.size : Int) == (a.size : Int)) = false := by simp; omega
  clear hw
  go_enter Tryd.func6, Tryd.ntmps6
  go_wp2_with (go_at_call 8; refine C.out.mono ?_; rintro e w1 ⟨rfl, hb⟩; have HB := Lib.hid hb; clear hb)
  go_ret
  exact ⟨rfl, HB.out⟩
theorem affine_3 (a b c : ByteArray) (w : World) (hw : Tabs w) (ha : a.size ≤ 1000) (hb : b.size = a.size) (hc : c.size ≠ a.size) : Calls Tryd.prog 6 #[.string a, .string b, .string c] w fun e w' => e = .returned (.bool true) ∧ Below w.heap.size w w' := by
  have C := small_hid w hw
  have d1 : decide ((1000 : Int) < (a.size : Int)) = false := by simp; omega
  have d2 : ((c.size : Int) != (a.size : Int)) = true := by simp; omega
  have d3 : ((c.size : Int) == (a.size : Int)) = false := by simp; omega
  clear hw
  go_enter Tryd.func6, Tryd.ntmps6
  go_wp2_with (go_at_call 8; refine C.out.mono ?_; rintro e w1 ⟨rfl, hb⟩; have HB := Lib.hid hb; clear hb)
  go_ret
  exact ⟨rfl, HB.out⟩
def xors (a b c : List UInt8) : List UInt8 := List.zipWith (· ^^^ ·) (List.zipWith (· ^^^ ·) a b) c
theorem xors_len (a b c : List UInt8) (h1 : b.length = a.length) (h2 : c.length = a.length) : (xors a b c).length = a.length := by
  unfold xors; rw [List.length_zipWith, List.length_zipWith]; omega
theorem xors_at (a b c : List UInt8) (k : Nat) (h : k < (xors a b c).length) (h0 : k < a.length) (h1 : k < b.length) (h2 : k < c.length) : (xors a b c)[k] = a[k] ^^^ b[k] ^^^ c[k] := by
  simp [xors]
theorem xor3 (p q r : Nat) (hp : p < 256) (hq : q < 256) (hr : r < 256) : bits .xor .u8 (bits .xor .u8 (p : Int) (q : Int)) (r : Int) = ((p ^^^ q ^^^ r : Nat) : Int) := by
  have h1 : p ^^^ q < 256 := Nat.xor_lt_two_pow (n := 8) hp hq
  rw [u8_xor_nat p q hp hq, u8_xor_nat _ r h1 hr]
set_option maxHeartbeats 2000000 in
set_option maxRecDepth 100000 in
theorem affine_4 (a b c : ByteArray) (w : World) (hw : Tabs w) (ha : a.size ≤ 1000) (hb : b.size = a.size) (hc : c.size = a.size) : Calls Tryd.prog 6 #[.string a, .string b, .string c] w fun e w' => e = .returned (.bool true) ∧ Below w.heap.size w w' := by
  obtain ⟨i0, hi, hz0, hz1, hz2⟩ := info_parts info5
  have C := small_hid w hw
  have HT := Lib.hid hw
  obtain ⟨X, hX⟩ : ∃ X, X = xors (ls a) (ls b) (ls c) := ⟨_, rfl⟩
  have hXl : X.length = a.size := by rw [hX, xors_len _ _ _ (by rw [ls_length, ls_length]; exact hb) (by rw [ls_length, ls_length]; exact hc), ls_length]
  obtain ⟨A, hA⟩ : ∃ A, A = (Math.crc (ls a)).toNat := ⟨_, rfl⟩
  obtain ⟨B, hB⟩ : ∃ A, A = (Math.crc (ls b)).toNat := ⟨_, rfl⟩
  obtain ⟨E, hE⟩ : ∃ A, A = (Math.crc (ls c)).toNat := ⟨_, rfl⟩
  obtain ⟨F, hF⟩ : ∃ A, A = (Math.crc X).toNat := ⟨_, rfl⟩
  have lA : A < 4294967296 := by rw [hA]; exact BitVec.isLt _
  have lB : B < 4294967296 := by rw [hB]; exact BitVec.isLt _
  have lE : E < 4294967296 := by rw [hE]; exact BitVec.isLt _
  have key : F = A ^^^ B ^^^ E := by
    rw [hA, hB, hE, hF, hX, ← BitVec.toNat_xor, ← BitVec.toNat_xor]
    exact congrArg BitVec.toNat (Math.crc_affine (ls a) (ls b) (ls c) (by rw [ls_length, ls_length]; exact hb) (by rw [ls_length, ls_length]; exact hc))
  obtain ⟨AB, hAB⟩ : ∃ x, x = A ^^^ B := ⟨_, rfl⟩
  have lAB : AB < 4294967296 := by rw [hAB]; exact xor_lt32 _ _ lA lB
  have X1 : bits .xor .u32 (A : Int) (B : Int) = (AB : Int) := by rw [u32_xor_nat A B lA lB, hAB]
  have X2 : bits .xor .u32 (AB : Int) (E : Int) = (F : Int) := by rw [u32_xor_nat AB E lAB lE, key, hAB]
  have S1 : Hid (a.size ≤ 9223372036854775807) := Lib.hid (by omega)
  have S2 : Hid (b.size ≤ 9223372036854775807) := Lib.hid (by omega)
  have S3 : Hid (c.size ≤ 9223372036854775807) := Lib.hid (by omega)
  have S4 : Hid ((mk X).size ≤ 9223372036854775807) := Lib.hid (by rw [size_mk, hXl]; omega)
  have d1 : decide ((1000 : Int) < (a.size : Int)) = false := by simp; omega
  have HA := Lib.hid hA
  have HBB := Lib.hid hB
  have HE := Lib.hid hE
  have HF : Hid (F = (Math.crc (ls (mk X))).toNat) := Lib.hid hF
  have HX := Lib.hid hX
  have HXL := Lib.hid hXl
  have QB := Lib.hid hb
  have QC := Lib.hid hc
  have bz : (b.size : Int) = (a.size : Int) := by omega
  have cz : (c.size : Int) = (a.size : Int) := by omega
  have QA := Lib.hid ha
  clear hw hA hB hE hF key hX hXl hb hc lA lB lE lAB hAB
  go_enter Tryd.func6, Tryd.ntmps6
  go_wp2_with (go_at_call 8; refine C.out.mono ?_; rintro e w1 ⟨rfl, hb⟩; have HB := Lib.hid hb; clear hb; have T1 : Hid (Tabs w1) := Lib.hid (HT.out.below HB.out HT.out.1))
  go_loopw [8, 9] (fun v i wr => ∃ k : Nat, k ≤ a.size ∧ i = .int .i64 k ∧ wr.ownsRow w1.heap.size 5 1 v k (bytes (X.take k)) ∧ Below w1.heap.size w1 wr) (fun _ i _ => a.size - (intOf i).toNat)
  case atStart => exact ⟨0, by omega, rfl, World.ownsRow_nil _ _ _ _, Below.refl _ _⟩
  case round =>
    obtain ⟨k, hk, rfl, ho, hB⟩ := hrel
    have HO := Lib.hid ho
    have HBR := Lib.hid hB
    have hsz := hB.size
    by_cases hlt : k < a.size
    · have hlb : k < b.size := by rw [QB.out]; exact hlt
      have hlc : k < c.size := by rw [QC.out]; exact hlt
      have hlx : k < X.length := by rw [HXL.out]; exact hlt
      obtain ⟨p, hp⟩ : ∃ p, p = (nat (ls a)).getD k 0 := ⟨_, rfl⟩
      obtain ⟨q, hq⟩ : ∃ p, p = (nat (ls b)).getD k 0 := ⟨_, rfl⟩
      obtain ⟨r, hr⟩ : ∃ p, p = (nat (ls c)).getD k 0 := ⟨_, rfl⟩
      have Y1 := run_index_byte a k hlt
      have Y2 := run_index_byte b k hlb
      have Y3 := run_index_byte c k hlc
      rw [← hp] at Y1
      rw [← hq] at Y2
      rw [← hr] at Y3
      have hT : Value.int .u8 (bits .xor .u8 (bits .xor .u8 (p : Int) (q : Int)) (r : Int)) = .int .u8 (X[k].toNat : Nat) := by
        rw [xor3 p q r (by rw [hp]; exact nat_lt _ _) (by rw [hq]; exact nat_lt _ _) (by rw [hr]; exact nat_lt _ _), hp, hq, hr, nat_at, nat_at, nat_at, getD_ls a k hlt, getD_ls b k hlb, getD_ls c k hlc]
        have h1 : X[k] = (ls a)[k] ^^^ (ls b)[k] ^^^ (ls c)[k] := by
          have h0 := HX.out
          subst h0
          exact xors_at _ _ _ k hlx hlt hlb hlc
        rw [h1, UInt8.toNat_xor, UInt8.toNat_xor]
        rfl
      have HTT := Lib.hid hT
      have i1 : decide ((k : Int) < (a.size : Int)) = true := by simp; omega
      have FIN : Hid (∀ v n w4, w4.ownsRow w1.heap.size 5 1 v n (bytes (X.take k) ++ [.int .u8 (bits .xor .u8 (bits .xor .u8 (p : Int) (q : Int)) (r : Int))]) → (wr.alloc (.cells #[.int .u8 (bits .xor .u8 (bits .xor .u8 (p : Int) (q : Int)) (r : Int))] 5)).drew.grownBy w4 u8.ownBlock →
          w4.ownsRow w1.heap.size 5 1 v (k + 1) (bytes (X.take (k + 1))) ∧ Below w1.heap.size w1 w4) := by
        refine Lib.hid fun v n w4 hown hgr => ?_
        have hn : n = k + 1 := by
          have := hown.1
          simp [bytes] at this
          omega
        refine ⟨?_, ?_⟩
        · refine own_cast hown hn ?_
          have e : X.take (k + 1) = X.take k ++ [X[k]] := List.take_succ_eq_append_getElem hlx
          rw [HTT.out, e]
          unfold bytes
          rw [List.map_append]
          rfl
        · exact Below.grown ((HBR.out.drew).alloc (by show _ ≤ wr.heap.size; exact HBR.out.size) _) hgr (by show _ ≤ (wr.heap.push _).size; rw [Array.size_push]; have := HBR.out.size; omega) (fun j hj => (HO.out.lt j hj).1)
      have HO2 : Hid ((wr.drew.alloc (.cells #[.int .u8 (bits .xor .u8 (bits .xor .u8 (p : Int) (q : Int)) (r : Int))] 5)).ownsRow w1.heap.size 5 1 u8 k (bytes (X.take k))) := Lib.hid (HO.out.drew.alloc _)
      have HN : Hid (∀ j x, [Value.int .u8 (bits .xor .u8 (bits .xor .u8 (p : Int) (q : Int)) (r : Int))][j]? = some x → (wr.drew.alloc (.cells #[.int .u8 (bits .xor .u8 (bits .xor .u8 (p : Int) (q : Int)) (r : Int))] 5)).cell? ((⟨wr.heap.size, 0, none⟩ : Addr).add j) = some x) := Lib.hid (new_one wr.drew _ 5)
      have HK : Hid (k + 1 ≤ 1000) := Lib.hid (by have := QA.out; omega)
      have HSZ := Lib.hid hsz
      clear hp hq hr hT ho hB hsz hlb hlc
      go_wp2
      go_region_law (refine step_append_lies _ rfl (.tmp 35) (.tmp 47) 36 rfl w1.heap.size 5 i0 (.int .u8 0) 1 1 Tryd.underlying36 hi hz0 hz1 hz2 rfl (by decide) u8 k (bytes (X.take k)) (by simp [Act.eval]) HO2.out ⟨wr.heap.size, 0, none⟩ 1 1 [.int .u8 (bits .xor .u8 (bits .xor .u8 (p : Int) (q : Int)) (r : Int))] (by simp [Act.eval]) rfl HN.out (by intro u hu; simp at hu; subst hu; rfl) (by decide) (by have := HK.out; simp only [maxLen]; omega) (by have := HK.out; omega) (by have := HSZ.out; show _ ≤ (wr.heap.push _).size; rw [Array.size_push]; omega) _ rfl ?_; intro g4 cap4 w4 hown4 hgr4 hat4 hlt4; have HOWN := Lib.hid hown4; have HGR := Lib.hid hgr4; clear hown4 hgr4 hat4 hlt4)
      all_goals go_wp2
      all_goals exact ⟨⟨k + 1, by omega, by go_num, FIN.out _ _ _ HOWN.out HGR.out⟩, by simp [intOf]; omega⟩
    · have i1 : decide ((k : Int) < (a.size : Int)) = false := by simp; omega
      obtain rfl : k = a.size := by omega
      rw [List.take_of_length_le (by rw [HXL.out]; exact Nat.le_refl _)] at ho
      have hcv := conv_own (own_cast ho HXL.out.symm rfl)
      have T2 : Hid (Tabs wr) := Lib.hid (T1.out.below HBR.out T1.out.1)
      clear ho hB
      go_wp2_with (go_at_call 11; refine (crc_any _ _ T2.out (by first | exact S1.out | exact S2.out | exact S3.out | exact S4.out)).mono ?_; rintro e w2 ⟨rfl, rfl⟩; first | rw [← HA.out] | rw [← HBB.out] | rw [← HE.out] | rw [← HF.out])
      go_ret
      exact ⟨rfl, HB.out.trans (HBR.out.mono HB.out.size)⟩
theorem affine_any (a b c : ByteArray) (w : World) (hw : Tabs w) : Calls Tryd.prog 6 #[.string a, .string b, .string c] w fun e w' => e = .returned (.bool true) ∧ Below w.heap.size w w' := by
  by_cases h1 : 1000 < a.size
  · exact affine_1 a b c w hw h1
  · by_cases h2 : b.size = a.size
    · by_cases h3 : c.size = a.size
      · exact affine_4 a b c w hw (by omega) h2 h3
      · exact affine_3 a b c w hw (by omega) h2 h3
    · exact affine_2 a b c w hw (by omega) h2
end Go.Proofs.YtdkhinjogomdaaaDoor
