/-
  CodeBack's walk.
-/
import Derived.Test.YtjomkfiepmeplaaNext
namespace Go.Proofs.Ytjomkfiepmeplaa
open Go.RowKit
theorem total_mem (xs : List (List UInt8)) (s : List UInt8) (h : s ∈ xs) : s.length ≤ total xs := by
  induction xs with
  | nil => simp at h
  | cons x xs ih =>
    simp only [total, List.map_cons, List.sum_cons] at ih ⊢
    rcases List.mem_cons.1 h with rfl | h
    · omega
    · have := ih h; omega
theorem texts_len (xs : List (List UInt8)) (h : ∀ s ∈ xs, s.length < 9223372036854775808) : (xs.flatMap textE).length ≤ 9 * xs.length + total xs := by
  induction xs with
  | nil => simp [total]
  | cons x xs ih =>
    have h1 := ih (fun s hs => h s (by simp [hs]))
    have h2 := vint_nine x.length (h x (by simp))
    simp only [total, List.map_cons, List.sum_cons, List.flatMap_cons, List.length_append, List.length_cons, textE] at h1 ⊢
    omega
theorem intE_len (n : Int) : (intE n).length ≤ 9 := by
  by_cases h : inR n = true
  · rw [intE_in n h]; exact vint_nine _ (zig_lt n h)
  · rw [intE_out n (by simpa using h)]; simp
theorem ints_len (xs : List Int) : (xs.flatMap intE).length ≤ 9 * xs.length := by
  induction xs with
  | nil => simp
  | cons x xs ih =>
    have := intE_len x
    simp only [List.flatMap_cons, List.length_append, List.length_cons]
    omega
theorem OkV.len {t : Val} (h : OkV t) (hs : Sized t) : (encV t).length ≤ 20000 := by
  obtain ⟨h0, h1, h2, h3, h4, h5⟩ := h
  obtain ⟨f1, f2⟩ := fewB_true _ h2
  unfold encV
  split
  · unfold numE
    split
    · simp
    · have := vint_nine t.n.toNat (by have := hs.2.2.1; omega)
      omega
  · split
    · have := intE_len t.n; omega
    · split
      · unfold textE; rw [List.length_append]; have := vint_nine t.text.length (by omega); omega
      · split
        · rw [listE_eq, List.length_append]
          have a1 := vint_nine t.texts.length (by omega)
          have a2 := texts_len t.texts (fun s hs => by have := total_mem _ s hs; omega)
          omega
        · rw [numsE_eq, List.length_append]
          have a1 := vint_nine t.nums.length (by omega)
          have a2 := ints_len t.nums
          omega
theorem encs_len (l : List Val) (h : ∀ t ∈ l, (encV t).length ≤ 20000) : (l.flatMap encV).length ≤ 20000 * l.length := by
  induction l with
  | nil => simp
  | cons x xs ih =>
    have h1 := ih (fun s hs => h s (by simp [hs]))
    have h2 := h x (by simp)
    simp only [List.flatMap_cons, List.length_append, List.length_cons]
    omega
theorem next_any (b : Nat) (t : Val) (T N : Option Addr) (cT cN top : Nat) (r : List UInt8) (w : World) (h : Rd w b 62 (some (encV t ++ r))) (hl : (encV t ++ r).length ≤ 1000000000) (hs : Sized t) (ok : OkV t)
    (rT : Row w top T (strs t.texts)) (rN : Row w top N (ints t.nums)) (htop : top ≤ w.heap.size) (htb : top ≤ b) :
    Calls Try.prog 43 #[.pointer (some ⟨b, 0, none⟩), .agg #[.int .i64 t.kind, .int .i64 t.n, .string (mk t.text), .slice T t.texts.length cT, .slice N t.nums.length cN]] w fun e w' => e = .returned (.bool true) ∧ Rd w' b 62 (some r) ∧ w.grownBy w' (some b) := by
  obtain ⟨h0, h1, h2, h3, h4, h5⟩ := ok
  obtain ⟨f1, f2⟩ := fewB_true _ h2
  have hr := kdI_range t.kind
  by_cases k0 : kdI t.kind = 0
  · exact next0 b t T N cT cN r w h hl hs k0 (h0 k0)
  · by_cases k1 : kdI t.kind = 1
    · exact next1 b t T N cT cN r w h hl hs k1 (h1 k1)
    · by_cases k2 : kdI t.kind = 2
      · exact next2 b t T N cT cN r w h hl hs k2 (by omega)
      · by_cases k3 : kdI t.kind = 3
        · exact next3 b t T N cT cN r w h hl hs k3 (fun s hs => by have := total_mem _ s hs; omega) top rT htop htb
        · exact next4 b t T N cT cN r w h hl hs (by omega) h5 top rN htop htb
theorem Vals.kept {w w' : World} {top b : Nat} {A : Option Addr} {l : List Val} (h : Vals w top A l) (hg : w.grownBy w' (some b)) (hb : top ≤ b) (ht : top ≤ w.heap.size) : Vals w' top A l := by
  have hB : Below top w w' := ⟨hg.os, hg.tape, hg.output, hg.size, fun k hk => hg.block k (by omega) (by simp; omega)⟩
  exact h.below hB

set_option maxHeartbeats 4000000 in
theorem back_any (A : Option Addr) (cap : Nat) (l : List Val) (R : List UInt8) (w : World) (h : Vals w w.heap.size A l) (hs : ∀ t ∈ l, Sized2 t) (hn : l.length < 4611686018427387904) (hR : R.length < 4611686018427387904) :
    Calls Try.prog 5 #[.slice A l.length cap, .string (mk R)] w fun e w' => e = .returned (.bool true) ∧ Below w.heap.size w w' := by
  have HV := Lib.hid h
  have HS := Lib.hid hs
  have hRs : (mk R).size = R.length := rfl
  clear h hs
  go_enter Try.func5, Try.ntmps5
  go_wp2_with fail
  refine (small_any _).mono ?_
  rintro e w1 ⟨rfl, b1⟩
  have HV1 := Lib.hid (HV.out.below b1)
  have z1 := b1.size
  have B1 := Lib.hid b1
  clear b1
  go_wp2_with fail
  refine (valid_any A cap l w1 (fun k t hk => by
    obtain ⟨a, e, hp, q⟩ := HV1.out k t hk
    obtain ⟨T, cT, N, cN, q1, q2, q3, q4, q5, q6, q7⟩ := q
    exact ⟨a, e, by omega, T, cT, N, cN, q1, q2, q3, q4, q5, q6.top z1, q7.top z1⟩) HS.out hn).mono ?_
  rintro e w2 ⟨B, rfl, b2, hB⟩
  have HV2 := Lib.hid (HV1.out.below (b2.mono z1))
  have f2 := bw B1.out b2 z1
  have z2 := f2.size
  have F2 := Lib.hid f2
  clear b2 f2
  rcases B with _ | _
  · clear hB
    go_wp2_with fail
    go_ret
    exact ⟨rfl, F2.out⟩
  · obtain ⟨h20, hok⟩ := hB rfl
    have OK := Lib.hid hok
    clear hB hok
    by_cases hR4 : R.length ≤ 10000
    · have j1 : decide ((10000 : Int) < (R.length : Int)) = false := by simp; omega
      have j2 : decide (10000 < R.length) = false := by simp; omega
      have hel := encs_len l (fun t ht => (OK.out t ht).len (HS.out t ht).1)
      go_wp2_with fail
      refine (enc_any A cap l w2 (fun k t hk => by
        obtain ⟨a, e, hp, q⟩ := HV2.out k t hk
        obtain ⟨T, cT, N, cN, q1, q2, q3, q4, q5, q6, q7⟩ := q
        exact ⟨a, e, by omega, T, cT, N, cN, q1, q2, q3, q4, q5, q6.top z2, q7.top z2⟩) (fun t ht => (HS.out t ht).1) (by omega) hn).mono ?_
      rintro e w3 ⟨rfl, b3⟩
      have HV3 := Lib.hid (HV2.out.below (b3.mono z2))
      have f3 := bw F2.out b3 z2
      have z3 := f3.size
      have F3 := Lib.hid f3
      clear b3 f3
      have hes : (mk (l.flatMap encV)).size = (l.flatMap encV).length := rfl
      have hcat := mk_append (l.flatMap encV) R
      go_wp2_with fail
      refine (open_any (l.flatMap encV ++ R) _).mono ?_
      rintro e w4 ⟨b, rfl, hb, h4, b4⟩
      have HV4 := Lib.hid (HV3.out.below (b4.mono z3))
      have f4 := bw F3.out b4 z3
      have z4 := f4.size
      have F4 := Lib.hid f4
      have H4 := Lib.hid h4
      clear b4 f4 h4 hcat
      go_wp2_with fail
      go_loopw [7] (fun i wr => ∃ k : Nat, k ≤ l.length ∧ i = .int .i64 k ∧ Rd wr b 62 (some ((l.drop k).flatMap encV ++ R)) ∧ w4.grownBy wr (some b)) (fun i _ => l.length - (intOf i).toNat)
      case atStart => exact ⟨0, by omega, rfl, H4.out, World.grownBy.refl _ _⟩
      case round =>
        obtain ⟨k, hk, rfl, hr, hg⟩ := hrel
        have HR := Lib.hid hr
        have HG := Lib.hid hg
        have zr := hg.size
        clear hr hg
        by_cases hlt : k < l.length
        · have i1 : decide ((k : Int) < (l.length : Int)) = true := by simp; omega
          obtain ⟨t, ht⟩ : ∃ t, l[k] = t := ⟨_, rfl⟩
          have hd : (l.drop k).flatMap encV ++ R = encV t ++ ((l.drop (k + 1)).flatMap encV ++ R) := by
            rw [List.drop_eq_getElem_cons hlt, List.flatMap_cons, ht, List.append_assoc]
          obtain ⟨a, rfl, hat⟩ := HV4.out k t (by rw [List.getElem?_eq_getElem hlt, ht])
          have hat' := (Vals.kept HV4.out HG.out (by omega) (by omega)) k t (by rw [List.getElem?_eq_getElem hlt, ht])
          obtain ⟨a', ea, hP, T, cT, N, cN, g0, g1, g2, g3, g4, rT, rN⟩ := hat'
          obtain rfl : a = a' := by injection ea
          have hmem : t ∈ l := by rw [← ht]; exact List.getElem_mem _
          have hle : (encV t ++ ((l.drop (k + 1)).flatMap encV ++ R)).length ≤ 1000000000 := by
            rw [← hd, List.length_append]
            have e2 := encs_len (l.drop k) (fun t ht => (OK.out t (List.mem_of_mem_drop ht)).len (HS.out t (List.mem_of_mem_drop ht)).1)
            rw [List.length_drop] at e2
            omega
          have C := next_any b t T N cT cN w.heap.size ((l.drop (k + 1)).flatMap encV ++ R) wr (by rw [← hd]; exact HR.out) hle (HS.out t hmem).1 (OK.out t hmem) rT rN (by omega) (by omega)
          have CC := Lib.hid C
          clear C rT rN hat hd ht hmem hle ea
          go_wp2_with fail
          refine (CC.out).mono ?_
          rintro e w5 ⟨rfl, h5, g5⟩
          have H5 := Lib.hid h5
          have G5 := Lib.hid g5
          clear h5 g5
          go_wp2_with fail
          go_roundw
          case rel => exact ⟨k + 1, by omega, by go_num, H5.out, grown_trans HG.out G5.out (.inl rfl)⟩
          case measure => simp [intOf]; omega
        · have i1 : decide ((k : Int) < (l.length : Int)) = false := by simp; omega
          have i2 : decide (k < l.length) = false := by simp; omega
          have hk : k = l.length := by omega
          have hr2 := HR.out
          rw [hk, List.drop_length] at hr2
          have H5 := Lib.hid (show Rd wr b 62 (some R) from hr2)
          clear hr2 hk
          have L := Lib.hid (left_any b _ _ wr H5.out)
          have D := Lib.hid (done_false b _ wr H5.out)
          go_wp2_with fail
          refine (L.out).mono ?_
          rintro e w' ⟨rfl, rfl⟩
          go_wp2_with fail
          refine (D.out).mono ?_
          rintro e w' ⟨rfl, rfl⟩
          go_wp2_with fail
          have C := take_any b _ (R.length : Int) wr H5.out (by rw [rest_some]; omega)
          rw [rTake_eq, if_pos (by omega), Int.toNat_natCast, List.take_length, List.drop_length] at C
          have CC := Lib.hid C
          clear C
          refine (CC.out).mono ?_
          rintro e w6 ⟨rfl, h6, g6⟩
          have H6 := Lib.hid h6
          have G6 := Lib.hid g6
          clear h6 g6 CC
          have D2 := done_false b _ w6 H6.out
          rw [show (mk (rest (some []))).toList.isEmpty = true by rw [mkl]; rfl] at D2
          have DD := Lib.hid D2
          clear D2
          go_wp2_with fail
          refine (DD.out).mono ?_
          rintro e w' ⟨rfl, rfl⟩
          go_wp2_with fail
          go_ret
          exact ⟨rfl, below_grown (below_grown F4.out HG.out (by omega) z4) G6.out (by omega) (by omega)⟩
    · have j1 : decide ((10000 : Int) < (R.length : Int)) = true := by simp; omega
      have j2 : decide (10000 < R.length) = true := by simp; omega
      go_wp2_with fail
      go_ret
      exact ⟨rfl, F2.out⟩
end Go.Proofs.Ytjomkfiepmeplaa
