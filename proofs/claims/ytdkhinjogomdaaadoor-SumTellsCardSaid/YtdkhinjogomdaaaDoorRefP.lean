/-
  The reference's padded.
-/
import Derived.Test.YtdkhinjogomdaaaDoorRefW
import Derived.Test.YtdkhinjogomdaaaDoorPad
namespace Go.Proofs.YtdkhinjogomdaaaDoor
open Go.RowKit
/-- What stands behind j zeros. -/
def padZ (l : List UInt8) (j : Nat) : List UInt8 := l ++ 128 :: List.replicate j 0
theorem padZ_len (l : List UInt8) (j : Nat) : (padZ l j).length = l.length + 1 + j := by simp [padZ]; omega
theorem padZ_snoc (l : List UInt8) (j : Nat) : padZ l (j + 1) = padZ l j ++ [0] := by
  unfold padZ
  rw [List.replicate_succ', List.append_assoc, List.cons_append]
def padL (l : List UInt8) (i : Nat) : List UInt8 := padZ l (Sha.zeros l.length) ++ (List.range i).map (lb l.length)
theorem padL_snoc (l : List UInt8) (i : Nat) : padL l (i + 1) = padL l i ++ [lb l.length i] := by
  unfold padL; rw [List.range_succ, List.map_append, List.append_assoc]; rfl
theorem padL_len (l : List UInt8) (i : Nat) : (padL l i).length = l.length + 1 + Sha.zeros l.length + i := by
  unfold padL; rw [List.length_append, padZ_len]; simp
theorem padL_pad (l : List UInt8) : nat (padL l 8) = Sha.pad (nat l) := by
  have := padT_nat l 0
  rw [List.take_zero, List.drop_zero] at this
  rw [← this]
  show nat (padL l 8) = [] ++ nat (padT l l.length)
  unfold padL padZ padT
  rw [List.nil_append, List.append_assoc, List.cons_append]
  rfl
theorem lb_big (n i : Nat) (hi : i < 8) : ((n : Int) * 8 / 2 ^ (56 - 8 * i) % 256) = ((lb n i).toNat : Int) := by
  have := lb_int n (7 - i) (by omega)
  rw [show 8 * (7 - i) = 56 - 8 * i by omega, show 7 - (7 - i) = i by omega] at this
  exact this
def lenOf : Value → Nat
  | .slice _ n _ => n
  | _ => 0
theorem byte_below {w wr w4 : World} {n : Nat} {v : Value} {xs : List Value} {X : Value} (HO : wr.ownsRow w.heap.size 5 1 v n xs) (HB : Below w.heap.size w wr) (hgr : (wr.alloc (.cells #[X] 5)).grownBy w4 v.ownBlock) : Below w.heap.size w w4 :=
  Below.grown (HB.alloc HB.size _) hgr (by show _ ≤ (wr.heap.push _).size; rw [Array.size_push]; have := HB.size; omega) (fun j hj => (HO.lt j hj).1)
set_option maxHeartbeats 4000000 in
set_option maxRecDepth 100000 in
theorem rpadded_any (g cap : Nat) (l : List UInt8) (w : World) (hn : l.length ≤ 1000000) (hw : BytesAt w g 0 (nat l)) (hg : g < w.heap.size) :
    Calls Tryd.prog 23 #[.slice (some ⟨g, 0, none⟩) l.length cap] w fun e w' => ∃ v, e = .returned v ∧ w'.ownsRow w.heap.size 5 1 v (padL l 8).length (bytes (padL l 8)) ∧ Below w.heap.size w w' := by
  obtain ⟨i0, hi, hz0, hz1, hz2⟩ := info_parts info5
  obtain ⟨n, hnn⟩ : ∃ n, l.length = n := ⟨_, rfl⟩
  have hE : (w.alloc (.cells #[] 5)).ownsRow w.heap.size 5 1 (.slice (some ⟨w.heap.size, 0, none⟩) 0 0) 0 [] := ⟨rfl, .inr ⟨w.heap.size, 0, #[], rfl, Nat.le_refl _, heap_alloc_new _ _, Nat.le_refl _, Nat.zero_le _, rfl, rfl⟩⟩
  have HE := Lib.hid hE
  have HN := Lib.hid hn
  have HNN := Lib.hid hnn
  have HNEW : Hid (∀ j u, (bytes l)[j]? = some u → (w.alloc (.cells #[] 5)).cell? ((⟨g, 0, none⟩ : Addr).add j) = some u) := Lib.hid fun j u hj => by
    have hjl : j < l.length := by
      by_cases h : j < l.length
      · exact h
      · rw [List.getElem?_eq_none (by rw [bytes_len]; omega)] at hj; cases hj
    rw [bytes_at l j hjl] at hj
    have e : (⟨g, 0, none⟩ : Addr).add j = ⟨g, j, none⟩ := by unfold Addr.add; split <;> simp_all
    have h1 := hw j (by rw [nat_len]; exact hjl)
    rw [Nat.zero_add, nat_at, List.getD_eq_getElem?_getD, List.getElem?_eq_getElem hjl] at h1
    rw [e, ((Below.refl w.heap.size w).alloc (Nat.le_refl _) _).cell hg, h1, ← hj]
    rfl
  have n1 : (n : Int) ≤ 1000000 := by omega
  have n2 : (0 : Int) ≤ (n : Int) := by omega
  rw [hnn]
  clear hE hn hw hnn hg
  go_enter Tryd.func23, Tryd.ntmps23
  go_wp2_with (at_builtin; refine wpList_append_own _ rfl (.tmp 6) (.tmp 7) 36 rfl w.heap.size 5 i0 (.int .u8 0) 1 1 Tryd.underlying36 hi hz0 hz1 hz2 rfl (by decide) (.slice (some ⟨w.heap.size, 0, none⟩) 0 0) 0 [] rfl HE.out ⟨g, 0, none⟩ n cap (bytes l) rfl ?l1 HNEW.out ?c1 ?c3 ?c4 ?c5 ?_)
  case l1 => rw [bytes_len, HNN.out, Nat.mul_one]
  case c1 => intro u hu; simp only [bytes, List.mem_map] at hu; obtain ⟨b, -, rfl⟩ := hu; rfl
  case c3 => have := HN.out; have := HNN.out; simp only [maxLen]; omega
  case c4 => have := HN.out; have := HNN.out; omega
  case c5 => show _ ≤ (w.heap.push _).size; rw [Array.size_push]; omega
  intro v4 w4 hown4 hgr4 _
  have B4 := Lib.hid (Below.grown ((Below.refl w.heap.size w).alloc (Nat.le_refl _) (.cells #[] 5)) hgr4 (by show _ ≤ (w.heap.push _).size; rw [Array.size_push]; omega) (fun j hj => (HE.out.lt j hj).1))
  have O4 : Hid (w4.ownsRow w.heap.size 5 1 v4 n (bytes l)) := Lib.hid (own_cast hown4 (by omega) (by simp))
  clear hown4 hgr4 HE HNEW
  have HB2 := Lib.hid (O4.out.alloc (.cells #[.int .u8 128] 5))
  have HN2 := Lib.hid (new_one w4 (.int .u8 128) 5)
  go_wp2_with (at_builtin; refine wpList_append_own _ rfl (.tmp 9) (.tmp 10) 36 rfl w.heap.size 5 i0 (.int .u8 0) 1 1 Tryd.underlying36 hi hz0 hz1 hz2 rfl (by decide) v4 n (bytes l) rfl HB2.out ⟨w4.heap.size, 0, none⟩ 1 1 [.int .u8 128] rfl rfl HN2.out ?c1 ?c3 ?c4 ?c5 ?_)
  case c1 => intro u hu; simp at hu; subst hu; rfl
  case c3 => have := HN.out; have := HNN.out; simp only [maxLen]; omega
  case c4 => have := HN.out; have := HNN.out; omega
  case c5 => show _ ≤ (w4.heap.push _).size; rw [Array.size_push]; have := B4.out.size; omega
  intro v5 w5 hown5 hgr5 _
  have B5 := Lib.hid (byte_below O4.out B4.out hgr5)
  have O5 : Hid (w5.ownsRow w.heap.size 5 1 v5 (n + 1 + 0) (bytes (padZ l 0))) := Lib.hid (own_cast hown5 rfl (by simp [bytes, padZ]))
  clear hown5 hgr5 HB2 HN2 O4 B4
  obtain ⟨z, hz⟩ : ∃ z, z = Sha.zeros n := ⟨_, rfl⟩
  have hz3 : z = (119 - n % 64) % 64 := hz
  have HZ := Lib.hid hz
  have HZ3 := Lib.hid hz3
  clear hz hz3
  go_wp2
  go_loopw [3] (fun v wr => ∃ j q : Nat, j ≤ z ∧ Hid (q = n + 1 + j) ∧ (∃ g cap, v = .slice (some ⟨g, 0, none⟩) q cap) ∧ wr.ownsRow w.heap.size 5 1 v q (bytes (padZ l j)) ∧ Below w.heap.size w wr) (fun v _ => n + 1 + z - lenOf v)
  case atStart =>
    obtain ⟨g, cap, hv, -⟩ := O5.out.form (by omega)
    exact ⟨0, n + 1, by omega, Lib.hid rfl, ⟨g, cap, hv⟩, O5.out, B5.out⟩
  case round =>
    obtain ⟨j, q, hj, HQ, ⟨g2, cap2, rfl⟩, ho, hB⟩ := hrel
    have HO := Lib.hid ho
    have HB := Lib.hid hB
    by_cases hlt : j < z
    · have hq : ¬ q % 64 = 56 := by have := HQ.out; have := HZ3.out; omega
      have t1 : ((q : Int) % 64 != 56) = true := by simp; omega
      have t2 : ((q : Int) % 64 == 56) = false := by simp; omega
      have t3 : ¬ (q : Int) % 64 = 56 := by omega
      have qb : (q : Int) ≤ 2000000 := by have := HQ.out; have := HZ3.out; omega
      have HB2 := Lib.hid (HO.out.alloc (.cells #[.int .u8 0] 5))
      have HN2 := Lib.hid (new_one wr (.int .u8 0) 5)
      have HS := Lib.hid hB.size
      clear ho hB hq
      go_wp2_with (at_builtin; refine wpList_append_lies _ rfl (.tmp 16) (.tmp 17) 36 rfl w.heap.size 5 i0 (.int .u8 0) 1 1 Tryd.underlying36 hi hz0 hz1 hz2 rfl (by decide) (.slice (some ⟨g2, 0, none⟩) q cap2) q (bytes (padZ l j)) rfl HB2.out ⟨wr.heap.size, 0, none⟩ 1 1 [.int .u8 0] rfl rfl HN2.out ?c1 (by decide) ?c3 ?c4 ?c5 _ rfl ?_)
      case c1 => intro u hu; simp at hu; subst hu; rfl
      case c3 => simp only [maxLen]; omega
      case c4 => omega
      case c5 => show _ ≤ (wr.heap.push _).size; rw [Array.size_push]; have := HS.out; omega
      intro g6 cap6 w6 hown6 hgr6 _ _
      have B6 := Lib.hid (byte_below HO.out HB.out hgr6)
      have O6 : Hid (w6.ownsRow w.heap.size 5 1 (.slice (some ⟨g6, 0, none⟩) (q + 1) cap6) (q + 1) (bytes (padZ l (j + 1)))) := Lib.hid (own_cast hown6 rfl (by rw [padZ_snoc]; simp [bytes]))
      clear hown6 hgr6 HB2 HN2
      go_wp2
      go_roundw
      case rel => exact ⟨j + 1, q + 1, by omega, Lib.hid (by have := HQ.out; omega), ⟨g6, cap6, rfl⟩, O6.out, B6.out⟩
      case measure => simp only [lenOf]; have := HQ.out; omega
    · have hjz : j = z := by omega
      have hq : q % 64 = 56 := by have := HQ.out; have := HZ3.out; omega
      have t1 : ((q : Int) % 64 != 56) = false := by simp; omega
      have O7 : Hid (wr.ownsRow w.heap.size 5 1 (.slice (some ⟨g2, 0, none⟩) q cap2) (q + 0) (bytes (padL l 0))) := Lib.hid (by
        rw [hjz] at ho
        unfold padL
        rw [HNN.out, ← HZ.out]
        simpa using ho)
      have HQB : Hid (q ≤ 2000000) := Lib.hid (by have := HQ.out; have := HZ3.out; have := HN.out; have := HNN.out; omega)
      have n8 : (8 : Int) * (n : Int) ≤ 8000000 := by omega
      have n9 : (0 : Int) ≤ (8 : Int) * (n : Int) := by omega
      clear ho hB hq hjz
      go_wp2
      go_loopw [3, 5] (fun v k wr => ∃ i : Nat, i ≤ 8 ∧ k = .int .i64 (56 - 8 * (i : Int)) ∧ wr.ownsRow w.heap.size 5 1 v (q + i) (bytes (padL l i)) ∧ Below w.heap.size w wr) (fun _ k _ => (intOf k + 8).toNat)
      case atStart => exact ⟨0, by omega, rfl, O7.out, HB.out⟩
      case round =>
        obtain ⟨i, hi8, rfl, ho, hB⟩ := hrel
        have HO := Lib.hid ho
        have HB := Lib.hid hB
        by_cases hlt : i < 8
        · obtain ⟨sh, hsh⟩ : ∃ sh : Nat, (56 : Int) - 8 * (i : Int) = (sh : Int) := ⟨56 - 8 * i, by omega⟩
          have s1 : sh < 64 := by omega
          have i1 : decide ((0 : Int) ≤ 56 - 8 * (i : Int)) = true := by simp; omega
          have i2 : decide ((0 : Int) ≤ (sh : Int)) = true := by simp
          have i3 : ¬ (sh : Int) < 0 := by omega
          obtain ⟨V, hV⟩ : ∃ V, V = lb n i := ⟨_, rfl⟩
          have LB : (8 : Int) * (n : Int) / 2 ^ sh % 256 = (V.toNat : Int) := by
            rw [hV, ← lb_big n i hlt, Int.mul_comm, show sh = 56 - 8 * i by omega]
          have HV := Lib.hid hV
          have HB2 := Lib.hid (HO.out.alloc (.cells #[.int .u8 (V.toNat : Nat)] 5))
          have HN2 := Lib.hid (new_one wr (.int .u8 (V.toNat : Nat)) 5)
          have HS := Lib.hid hB.size
          clear ho hB hV
          go_wp2_with (at_builtin; refine wpList_append_own _ rfl (.tmp 27) (.tmp 32) 36 rfl w.heap.size 5 i0 (.int .u8 0) 1 1 Tryd.underlying36 hi hz0 hz1 hz2 rfl (by decide) u3 (q + i) (bytes (padL l i)) rfl HB2.out ⟨wr.heap.size, 0, none⟩ 1 1 [.int .u8 (V.toNat : Nat)] rfl rfl HN2.out ?c1 ?c3 ?c4 ?c5 ?_)
          case c1 => rfl
          case c3 => have := HQB.out; simp only [maxLen]; omega
          case c4 => have := HQB.out; omega
          case c5 => have := HS.out; omega
          intro v6 w6 hown6 hgr6 _
          have B6 := Lib.hid (byte_below HO.out HB.out hgr6)
          have O6 : Hid (w6.ownsRow w.heap.size 5 1 v6 (q + (i + 1)) (bytes (padL l (i + 1)))) := Lib.hid (own_cast hown6 (by omega) (by rw [padL_snoc, HNN.out, ← HV.out]; simp [bytes]))
          clear hown6 hgr6 HB2 HN2
          go_wp2
          go_roundw
          case rel => exact ⟨i + 1, by omega, by congr 1; omega, O6.out, B6.out⟩
          case measure => simp [intOf]; omega
        · have i1 : decide ((0 : Int) ≤ 56 - 8 * (i : Int)) = false := by simp; omega
          have HI : Hid (i = 8) := Lib.hid (by omega)
          clear ho hB
          go_wp2
          go_ret
          refine ⟨_, rfl, ?_, HB.out⟩
          have := HO.out
          rw [HI.out] at this
          exact own_cast this (by rw [padL_len, HNN.out, ← HZ.out]; have := HQ.out; omega) rfl
end Go.Proofs.YtdkhinjogomdaaaDoor
