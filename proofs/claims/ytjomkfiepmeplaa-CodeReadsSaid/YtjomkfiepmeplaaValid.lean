/-
  few and valid: where they answer true, the sizes are within the bounds and the integers in range.
-/
import Derived.Test.YtjomkfiepmeplaaVal
namespace Go.Proofs.Ytjomkfiepmeplaa
open Go.RowKit
def total (xs : List (List UInt8)) : Nat := (xs.map List.length).sum
def fewB (xs : List (List UInt8)) : Bool := decide (xs.length ≤ 100) && decide (total (xs.take 200) ≤ 10000)
theorem fewB_true (xs : List (List UInt8)) (h : fewB xs = true) : xs.length ≤ 100 ∧ total xs ≤ 10000 := by
  unfold fewB at h
  simp only [Bool.and_eq_true, decide_eq_true_eq] at h
  rw [List.take_of_length_le (by omega)] at h
  exact h
theorem total_snoc (xs : List (List UInt8)) (k : Nat) (h : k < xs.length) : total (xs.take (k + 1)) = total (xs.take k) + xs[k].length := by
  unfold total
  rw [List.take_succ_eq_append_getElem h, List.map_append, List.sum_append]
  simp
theorem total_le (xs : List (List UInt8)) (M : Nat) (h : ∀ s ∈ xs, s.length ≤ M) : total xs ≤ xs.length * M := by
  induction xs with
  | nil => simp [total]
  | cons x xs ih =>
    have h1 := ih (fun s hs => h s (by simp [hs]))
    have h2 := h x (by simp)
    simp only [total, List.map_cons, List.sum_cons, List.length_cons] at h1 ⊢
    rw [Nat.succ_mul]
    omega
set_option maxHeartbeats 1000000 in
theorem few_any (A : Option Addr) (c top : Nat) (xs : List (List UInt8)) (w : World) (hr : Row w top A (strs xs)) (hM : ∀ s ∈ xs, s.length ≤ 140737488355328) (hx : xs.length < 4611686018427387904) :
    Calls Try.prog 10 #[.slice A xs.length c] w fun e w' => e = .returned (.bool (fewB xs)) ∧ w = w' := by
  have HR := Lib.hid hr
  have HM := Lib.hid hM
  clear hr hM
  have tl : ∀ k, k ≤ 200 → total (xs.take k) ≤ 28147497671065600 := fun k hk => by
    have h1 := total_le (xs.take k) 140737488355328 (fun s hs => HM.out s (List.mem_of_mem_take hs))
    have h2 : (xs.take k).length ≤ 200 := by rw [List.length_take]; omega
    omega
  have TL := Lib.hid tl
  clear tl
  go_enter Try.func10, Try.ntmps10
  go_wp2
  go_loop [3, 4] (fun n i => ∃ k : Nat, k ≤ xs.length ∧ k ≤ 200 ∧ i = .int .i64 k ∧ n = .int .i64 (total (xs.take k) : Nat)) (fun _ i => 200 - (intOf i).toNat)
  case atStart => exact ⟨0, by omega, by omega, rfl, by simp [total]⟩
  case round =>
    obtain ⟨k, hk, hk2, rfl, rfl⟩ := hrel
    have t0 := TL.out k hk2
    by_cases hlt : k < xs.length ∧ k < 200
    · obtain ⟨h1, h2⟩ := hlt
      have i1 : decide ((k : Int) < (xs.length : Int)) = true := by simp; omega
      have i2 : decide ((k : Int) < 200) = true := by simp; omega
      have t1 := total_snoc xs k h1
      have t2 := TL.out (k + 1) (by omega)
      obtain ⟨a, rfl, -, hc⟩ := HR.out k _ (strs_at xs k h1)
      have hz : (mk xs[k]).size = xs[k].length := rfl
      have T1 := Lib.hid t1
      have hb : total (xs.take k) + xs[k].length ≤ 28147497671065600 := by omega
      clear t1
      go_wp2
      go_round
      case rel => exact ⟨k + 1, by omega, by omega, by go_num, by rw [T1.out]; go_num⟩
      case measure => simp [intOf]; omega
    · by_cases h1 : k < xs.length
      · have e : k = 200 := by omega
        have i1 : decide ((k : Int) < (xs.length : Int)) = true := by simp; omega
        have i2 : decide ((k : Int) < 200) = false := by simp; omega
        have i3 : decide ((xs.length : Int) ≤ 100) = false := by simp; omega
        have i4 : decide (xs.length ≤ 100) = false := by simp; omega
        have hf : fewB xs = false := by unfold fewB; rw [i4]; rfl
        have HF := Lib.hid hf
        clear hf e
        go_wp2
        go_ret
        exact ⟨by rw [HF.out]; rfl, rfl⟩
      · have e : k = xs.length := by omega
        have i1 : decide ((k : Int) < (xs.length : Int)) = false := by simp; omega
        have i2 : decide (k < xs.length) = false := by simp; omega
        have ht : total (xs.take 200) = total (xs.take k) := by
          rw [List.take_of_length_le (by omega), List.take_of_length_le (by omega)]
        by_cases h5 : xs.length ≤ 100
        · have i3 : decide ((xs.length : Int) ≤ 100) = true := by simp; omega
          have hf : fewB xs = decide ((total (xs.take k) : Int) ≤ 10000) := by
            unfold fewB
            rw [ht, decide_eq_true h5, Bool.true_and, Bool.eq_iff_iff]
            simp only [decide_eq_true_eq]
            omega
          have HF := Lib.hid hf
          clear hf e ht
          go_wp2
          go_ret
          exact ⟨by rw [HF.out]; rfl, rfl⟩
        · have i3 : decide ((xs.length : Int) ≤ 100) = false := by simp; omega
          have i4 : decide (xs.length ≤ 100) = false := by simp; omega
          have hf : fewB xs = false := by unfold fewB; rw [i4]; rfl
          have HF := Lib.hid hf
          clear hf e ht
          go_wp2
          go_ret
          exact ⟨by rw [HF.out]; rfl, rfl⟩

/-- What 'valid' vouches for, value by value. -/
def OkV (t : Val) : Prop := (kdI t.kind = 0 → 0 ≤ t.n) ∧ (kdI t.kind = 1 → inR t.n = true) ∧ fewB t.texts = true ∧ t.text.length ≤ 10000 ∧ t.nums.length ≤ 100 ∧ ∀ n ∈ t.nums, inR n = true
def ValidPost (l : List Val) (w : World) (e : Ending) (w' : World) : Prop := ∃ B : Bool, e = .returned (.bool B) ∧ Below w.heap.size w w' ∧ (B = true → l.length ≤ 20 ∧ ∀ t ∈ l, OkV t)
theorem valid_no {l : List Val} {w w' : World} (h : Below w.heap.size w w') : ValidPost l w (.returned (.bool false)) w' := ⟨false, rfl, h, fun e => by cases e⟩
def Sized2 (t : Val) : Prop := Sized t ∧ t.text.length < 9223372036854775808 ∧ ∀ s ∈ t.texts, s.length ≤ 140737488355328
set_option maxRecDepth 20000 in
set_option maxHeartbeats 4000000 in
theorem valid_any (A : Option Addr) (cap : Nat) (l : List Val) (w : World) (h : Vals w w.heap.size A l) (hs : ∀ t ∈ l, Sized2 t) (hn : l.length < 4611686018427387904) :
    Calls Try.prog 41 #[.slice A l.length cap] w (ValidPost l w) := by
  have HV := Lib.hid h
  have HS := Lib.hid hs
  clear h hs
  go_enter Try.func41, Try.ntmps41
  go_wp2
  go_loopw [3, 4] (fun i _ wr => ∃ k : Nat, k ≤ l.length ∧ i = .int .i64 k ∧ (∀ j (hj : j < l.length), j < k → OkV l[j]) ∧ Below w.heap.size w wr) (fun i _ _ => l.length - (intOf i).toNat)
  case atStart => exact ⟨0, by omega, rfl, fun j _ hj => by omega, Below.refl _ _⟩
  case round =>
    obtain ⟨k, hk, rfl, hok, hb⟩ := hrel
    have OK := Lib.hid hok
    have HB := Lib.hid hb
    have hsz := hb.size
    clear hok hb
    by_cases hlt : k < l.length
    · have i1 : decide ((k : Int) < (l.length : Int)) = true := by simp; omega
      obtain ⟨t, ht⟩ : ∃ t, l[k] = t := ⟨_, rfl⟩
      obtain ⟨a, rfl, hat⟩ := HV.out k t (by rw [List.getElem?_eq_getElem hlt, ht])
      obtain ⟨hP, T, cT, N, cN, g0, g1, g2, g3, g4, rT, rN⟩ := hat.below HB.out
      obtain ⟨⟨s1, s2, s3, s4, s5⟩, s6, s7⟩ := HS.out t (by rw [← ht]; exact List.getElem_mem _)
      have HT := Lib.hid ht
      have RT := Lib.hid (rT.top hsz)
      have RN := Lib.hid (rN.top hsz)
      have S7 := Lib.hid s7
      clear ht hat rT rN s7
      have hr := kdI_range t.kind
      have K := Lib.hid (fun W => kind_any t.kind (.int .i64 t.n) (.string (mk t.text)) (.slice T t.texts.length cT) (.slice N t.nums.length cN) W s1 s2)
      have hz : (mk t.text).size = t.text.length := rfl
      go_wp2_with fail
      refine (K.out _).mono ?_
      rintro e w1 ⟨rfl, b1⟩
      have f1 := bw HB.out b1 hsz
      have z1 := f1.size
      have F1 := Lib.hid f1
      have q0 := (b1.cell (p := a.add (k * 5)) (by omega)).trans g0
      have q1 := (b1.cell (p := ⟨(a.add (k * 5)).block, (a.add (k * 5)).off + 1, none⟩) (by show (a.add (k * 5)).block < _; omega)).trans g1
      have q2 := (b1.cell (p := ⟨(a.add (k * 5)).block, (a.add (k * 5)).off + 2, none⟩) (by show (a.add (k * 5)).block < _; omega)).trans g2
      have q3 := (b1.cell (p := ⟨(a.add (k * 5)).block, (a.add (k * 5)).off + 3, none⟩) (by show (a.add (k * 5)).block < _; omega)).trans g3
      have q4 := (b1.cell (p := ⟨(a.add (k * 5)).block, (a.add (k * 5)).off + 4, none⟩) (by show (a.add (k * 5)).block < _; omega)).trans g4
      have B1 := Lib.hid b1
      clear b1 f1 g0 g1 g2 g3 g4
      by_cases h0 : kdI t.kind = 0
      · by_cases hneg : t.n < 0
        · go_wp2_with fail
          go_ret
          exact valid_no F1.out
        · have e1 : (kdI t.kind == 1) = false := by rw [h0]; rfl
          have e0 : (kdI t.kind == 0) = true := by rw [h0]; rfl
          have dn : decide (t.n < 0) = false := by simpa using hneg
          have HA := Lib.hid (show kdI t.kind = 0 → 0 ≤ t.n from fun _ => by omega)
          have HBB := Lib.hid (show kdI t.kind = 1 → inR t.n = true from fun h => by omega)
          clear h0
          have FEW := Lib.hid (fun W tp (hR : Row W tp T (strs t.texts)) => few_any T cT tp t.texts W hR S7.out s4)
          rcases hf : fewB t.texts with _ | _
          · rw [hf] at FEW
            clear hf
            go_wp2_with fail
            refine (K.out _).mono ?_
            rintro e w2 ⟨rfl, b2⟩
            have f2 := bw F1.out b2 z1
            have z2 := f2.size
            have F2 := Lib.hid f2
            have q1 := (b2.cell (p := ⟨(a.add (k * 5)).block, (a.add (k * 5)).off + 1, none⟩) (by show (a.add (k * 5)).block < _; omega)).trans q1
            have q2 := (b2.cell (p := ⟨(a.add (k * 5)).block, (a.add (k * 5)).off + 2, none⟩) (by show (a.add (k * 5)).block < _; omega)).trans q2
            have q3 := (b2.cell (p := ⟨(a.add (k * 5)).block, (a.add (k * 5)).off + 3, none⟩) (by show (a.add (k * 5)).block < _; omega)).trans q3
            have q4 := (b2.cell (p := ⟨(a.add (k * 5)).block, (a.add (k * 5)).off + 4, none⟩) (by show (a.add (k * 5)).block < _; omega)).trans q4
            have RT2 := Lib.hid ((RT.out.below B1.out).below (b2.mono B1.out.size))
            have RN2 := Lib.hid ((RN.out.below B1.out).below (b2.mono B1.out.size))
            clear b2 f2
            go_wp2_with fail
            refine (FEW.out w2 _ RT2.out).mono ?_
            rintro e w' ⟨rfl, rfl⟩
            go_wp2_with fail
            go_ret
            exact valid_no F2.out
          · rw [hf] at FEW
            have HF := Lib.hid hf
            clear hf
            by_cases h5 : t.text.length ≤ 10000
            · by_cases h6 : t.nums.length ≤ 100
              · have j5 : decide ((10000 : Int) < (t.text.length : Int)) = false := by simp; omega
                have j5b : decide (10000 < t.text.length) = false := by simp; omega
                have j6 : decide ((100 : Int) < (t.nums.length : Int)) = false := by simp; omega
                have j6b : decide (100 < t.nums.length) = false := by simp; omega
                go_wp2_with fail
                refine (K.out _).mono ?_
                rintro e w2 ⟨rfl, b2⟩
                have f2 := bw F1.out b2 z1
                have z2 := f2.size
                have F2 := Lib.hid f2
                have q1 := (b2.cell (p := ⟨(a.add (k * 5)).block, (a.add (k * 5)).off + 1, none⟩) (by show (a.add (k * 5)).block < _; omega)).trans q1
                have q2 := (b2.cell (p := ⟨(a.add (k * 5)).block, (a.add (k * 5)).off + 2, none⟩) (by show (a.add (k * 5)).block < _; omega)).trans q2
                have q3 := (b2.cell (p := ⟨(a.add (k * 5)).block, (a.add (k * 5)).off + 3, none⟩) (by show (a.add (k * 5)).block < _; omega)).trans q3
                have q4 := (b2.cell (p := ⟨(a.add (k * 5)).block, (a.add (k * 5)).off + 4, none⟩) (by show (a.add (k * 5)).block < _; omega)).trans q4
                have RT2 := Lib.hid ((RT.out.below B1.out).below (b2.mono B1.out.size))
                have RN2 := Lib.hid ((RN.out.below B1.out).below (b2.mono B1.out.size))
                clear b2 f2
                go_wp2_with fail
                refine (FEW.out w2 _ RT2.out).mono ?_
                rintro e w' ⟨rfl, rfl⟩
                go_wp2_with fail
                go_loop [4] (fun j => ∃ m : Nat, m ≤ t.nums.length ∧ j = .int .i64 m ∧ ∀ i (hi : i < t.nums.length), i < m → inR t.nums[i] = true) (fun j => t.nums.length - (intOf j).toNat)
                case atStart => exact ⟨0, by omega, rfl, fun i _ hi => by omega⟩
                case round =>
                  obtain ⟨m, hm, rfl, hin⟩ := hrel
                  have IN := Lib.hid hin
                  clear hin
                  by_cases hml : m < t.nums.length
                  · have j1 : decide ((m : Int) < (t.nums.length : Int)) = true := by simp; omega
                    obtain ⟨b, rfl, -, hcb⟩ := RN2.out m _ (ints_at t.nums m hml)
                    rcases hv : inR t.nums[m] with _ | _
                    · have CI := Lib.hid (fun W => in_any t.nums[m] W)
                      rw [hv] at CI
                      clear hv
                      go_wp2_with fail
                      refine (CI.out _).mono ?_
                      rintro e w' ⟨rfl, rfl⟩
                      go_wp2_with fail
                      go_ret
                      exact valid_no F2.out
                    · have CI := Lib.hid (fun W => in_any t.nums[m] W)
                      rw [hv] at CI
                      have HVV := Lib.hid hv
                      clear hv
                      go_wp2_with fail
                      refine (CI.out _).mono ?_
                      rintro e w' ⟨rfl, rfl⟩
                      go_wp2_with fail
                      go_round
                      case rel =>
                        refine ⟨m + 1, by omega, by go_num, fun i hi him => ?_⟩
                        by_cases he : i = m
                        · subst he; exact HVV.out
                        · exact IN.out i hi (by omega)
                      case measure => simp [intOf]; omega
                  · have j1 : decide ((m : Int) < (t.nums.length : Int)) = false := by simp; omega
                    have j2 : decide (m < t.nums.length) = false := by simp; omega
                    have hme : m = t.nums.length := by omega
                    have HME := Lib.hid hme
                    clear hme
                    go_wp2_with fail
                    go_roundw
                    case rel =>
                      refine ⟨k + 1, by omega, by go_num, fun j hj hjk => ?_, F2.out⟩
                      by_cases he : j = k
                      · subst he
                        rw [HT.out]
                        exact ⟨HA.out, HBB.out, HF.out, by omega, by omega, fun n hn => by
                          obtain ⟨i, hi, rfl⟩ := List.getElem_of_mem hn
                          exact IN.out i hi (by have := HME.out; omega)⟩
                      · exact OK.out j hj (by omega)
                    case measure => simp [intOf]; omega
              · have j5 : decide ((10000 : Int) < (t.text.length : Int)) = false := by simp; omega
                have j6 : decide ((100 : Int) < (t.nums.length : Int)) = true := by simp; omega
                go_wp2_with fail
                refine (K.out _).mono ?_
                rintro e w2 ⟨rfl, b2⟩
                have f2 := bw F1.out b2 z1
                have z2 := f2.size
                have F2 := Lib.hid f2
                have q1 := (b2.cell (p := ⟨(a.add (k * 5)).block, (a.add (k * 5)).off + 1, none⟩) (by show (a.add (k * 5)).block < _; omega)).trans q1
                have q2 := (b2.cell (p := ⟨(a.add (k * 5)).block, (a.add (k * 5)).off + 2, none⟩) (by show (a.add (k * 5)).block < _; omega)).trans q2
                have q3 := (b2.cell (p := ⟨(a.add (k * 5)).block, (a.add (k * 5)).off + 3, none⟩) (by show (a.add (k * 5)).block < _; omega)).trans q3
                have q4 := (b2.cell (p := ⟨(a.add (k * 5)).block, (a.add (k * 5)).off + 4, none⟩) (by show (a.add (k * 5)).block < _; omega)).trans q4
                have RT2 := Lib.hid ((RT.out.below B1.out).below (b2.mono B1.out.size))
                have RN2 := Lib.hid ((RN.out.below B1.out).below (b2.mono B1.out.size))
                clear b2 f2
                go_wp2_with fail
                refine (FEW.out w2 _ RT2.out).mono ?_
                rintro e w' ⟨rfl, rfl⟩
                go_wp2_with fail
                go_ret
                exact valid_no F2.out
            · have j5 : decide ((10000 : Int) < (t.text.length : Int)) = true := by simp; omega
              go_wp2_with fail
              refine (K.out _).mono ?_
              rintro e w2 ⟨rfl, b2⟩
              have f2 := bw F1.out b2 z1
              have z2 := f2.size
              have F2 := Lib.hid f2
              have q1 := (b2.cell (p := ⟨(a.add (k * 5)).block, (a.add (k * 5)).off + 1, none⟩) (by show (a.add (k * 5)).block < _; omega)).trans q1
              have q2 := (b2.cell (p := ⟨(a.add (k * 5)).block, (a.add (k * 5)).off + 2, none⟩) (by show (a.add (k * 5)).block < _; omega)).trans q2
              have q3 := (b2.cell (p := ⟨(a.add (k * 5)).block, (a.add (k * 5)).off + 3, none⟩) (by show (a.add (k * 5)).block < _; omega)).trans q3
              have q4 := (b2.cell (p := ⟨(a.add (k * 5)).block, (a.add (k * 5)).off + 4, none⟩) (by show (a.add (k * 5)).block < _; omega)).trans q4
              have RT2 := Lib.hid ((RT.out.below B1.out).below (b2.mono B1.out.size))
              have RN2 := Lib.hid ((RN.out.below B1.out).below (b2.mono B1.out.size))
              clear b2 f2
              go_wp2_with fail
              refine (FEW.out w2 _ RT2.out).mono ?_
              rintro e w' ⟨rfl, rfl⟩
              go_wp2_with fail
              go_ret
              exact valid_no F2.out
      · have e0 : (kdI t.kind == 0) = false := by simpa using h0
        have HA := Lib.hid (show kdI t.kind = 0 → 0 ≤ t.n from fun h => absurd h h0)
        by_cases h1 : kdI t.kind = 1
        · have e1 : (kdI t.kind == 1) = true := by rw [h1]; rfl
          have CI := Lib.hid (fun W => in_any t.n W)
          rcases hv : inR t.n with _ | _
          · rw [hv] at CI
            clear hv h1 h0
            go_wp2_with fail
            refine (K.out _).mono ?_
            rintro e w2 ⟨rfl, b2⟩
            have f2 := bw F1.out b2 z1
            have z2 := f2.size
            have F2 := Lib.hid f2
            have q1 := (b2.cell (p := ⟨(a.add (k * 5)).block, (a.add (k * 5)).off + 1, none⟩) (by show (a.add (k * 5)).block < _; omega)).trans q1
            have q2 := (b2.cell (p := ⟨(a.add (k * 5)).block, (a.add (k * 5)).off + 2, none⟩) (by show (a.add (k * 5)).block < _; omega)).trans q2
            have q3 := (b2.cell (p := ⟨(a.add (k * 5)).block, (a.add (k * 5)).off + 3, none⟩) (by show (a.add (k * 5)).block < _; omega)).trans q3
            have q4 := (b2.cell (p := ⟨(a.add (k * 5)).block, (a.add (k * 5)).off + 4, none⟩) (by show (a.add (k * 5)).block < _; omega)).trans q4
            have RT2 := Lib.hid ((RT.out.below B1.out).below (b2.mono B1.out.size))
            have RN2 := Lib.hid ((RN.out.below B1.out).below (b2.mono B1.out.size))
            clear b2 f2
            go_wp2_with fail
            refine (CI.out _).mono ?_
            rintro e w' ⟨rfl, rfl⟩
            go_wp2_with fail
            go_ret
            exact valid_no F2.out
          · rw [hv] at CI
            have HBB := Lib.hid (show kdI t.kind = 1 → inR t.n = true from fun _ => hv)
            clear hv h1 h0
            have FEW := Lib.hid (fun W tp (hR : Row W tp T (strs t.texts)) => few_any T cT tp t.texts W hR S7.out s4)
            rcases hf : fewB t.texts with _ | _
            · rw [hf] at FEW
              clear hf
              go_wp2_with fail
              refine (K.out _).mono ?_
              rintro e w2 ⟨rfl, b2⟩
              have f2 := bw F1.out b2 z1
              have z2 := f2.size
              have F2 := Lib.hid f2
              have q1 := (b2.cell (p := ⟨(a.add (k * 5)).block, (a.add (k * 5)).off + 1, none⟩) (by show (a.add (k * 5)).block < _; omega)).trans q1
              have q2 := (b2.cell (p := ⟨(a.add (k * 5)).block, (a.add (k * 5)).off + 2, none⟩) (by show (a.add (k * 5)).block < _; omega)).trans q2
              have q3 := (b2.cell (p := ⟨(a.add (k * 5)).block, (a.add (k * 5)).off + 3, none⟩) (by show (a.add (k * 5)).block < _; omega)).trans q3
              have q4 := (b2.cell (p := ⟨(a.add (k * 5)).block, (a.add (k * 5)).off + 4, none⟩) (by show (a.add (k * 5)).block < _; omega)).trans q4
              have RT2 := Lib.hid ((RT.out.below B1.out).below (b2.mono B1.out.size))
              have RN2 := Lib.hid ((RN.out.below B1.out).below (b2.mono B1.out.size))
              clear b2 f2
              go_wp2_with fail
              refine (CI.out _).mono ?_
              rintro e w' ⟨rfl, rfl⟩
              go_wp2_with fail
              refine (FEW.out w2 _ RT2.out).mono ?_
              rintro e w' ⟨rfl, rfl⟩
              go_wp2_with fail
              go_ret
              exact valid_no F2.out
            · rw [hf] at FEW
              have HF := Lib.hid hf
              clear hf
              by_cases h5 : t.text.length ≤ 10000
              · by_cases h6 : t.nums.length ≤ 100
                · have j5 : decide ((10000 : Int) < (t.text.length : Int)) = false := by simp; omega
                  have j5b : decide (10000 < t.text.length) = false := by simp; omega
                  have j6 : decide ((100 : Int) < (t.nums.length : Int)) = false := by simp; omega
                  have j6b : decide (100 < t.nums.length) = false := by simp; omega
                  go_wp2_with fail
                  refine (K.out _).mono ?_
                  rintro e w2 ⟨rfl, b2⟩
                  have f2 := bw F1.out b2 z1
                  have z2 := f2.size
                  have F2 := Lib.hid f2
                  have q1 := (b2.cell (p := ⟨(a.add (k * 5)).block, (a.add (k * 5)).off + 1, none⟩) (by show (a.add (k * 5)).block < _; omega)).trans q1
                  have q2 := (b2.cell (p := ⟨(a.add (k * 5)).block, (a.add (k * 5)).off + 2, none⟩) (by show (a.add (k * 5)).block < _; omega)).trans q2
                  have q3 := (b2.cell (p := ⟨(a.add (k * 5)).block, (a.add (k * 5)).off + 3, none⟩) (by show (a.add (k * 5)).block < _; omega)).trans q3
                  have q4 := (b2.cell (p := ⟨(a.add (k * 5)).block, (a.add (k * 5)).off + 4, none⟩) (by show (a.add (k * 5)).block < _; omega)).trans q4
                  have RT2 := Lib.hid ((RT.out.below B1.out).below (b2.mono B1.out.size))
                  have RN2 := Lib.hid ((RN.out.below B1.out).below (b2.mono B1.out.size))
                  clear b2 f2
                  go_wp2_with fail
                  refine (CI.out _).mono ?_
                  rintro e w' ⟨rfl, rfl⟩
                  go_wp2_with fail
                  refine (FEW.out w2 _ RT2.out).mono ?_
                  rintro e w' ⟨rfl, rfl⟩
                  go_wp2_with fail
                  go_loop [4] (fun j => ∃ m : Nat, m ≤ t.nums.length ∧ j = .int .i64 m ∧ ∀ i (hi : i < t.nums.length), i < m → inR t.nums[i] = true) (fun j => t.nums.length - (intOf j).toNat)
                  case atStart => exact ⟨0, by omega, rfl, fun i _ hi => by omega⟩
                  case round =>
                    obtain ⟨m, hm, rfl, hin⟩ := hrel
                    have IN := Lib.hid hin
                    clear hin
                    by_cases hml : m < t.nums.length
                    · have j1 : decide ((m : Int) < (t.nums.length : Int)) = true := by simp; omega
                      obtain ⟨b, rfl, -, hcb⟩ := RN2.out m _ (ints_at t.nums m hml)
                      rcases hv : inR t.nums[m] with _ | _
                      · have CI := Lib.hid (fun W => in_any t.nums[m] W)
                        rw [hv] at CI
                        clear hv
                        go_wp2_with fail
                        refine (CI.out _).mono ?_
                        rintro e w' ⟨rfl, rfl⟩
                        go_wp2_with fail
                        go_ret
                        exact valid_no F2.out
                      · have CI := Lib.hid (fun W => in_any t.nums[m] W)
                        rw [hv] at CI
                        have HVV := Lib.hid hv
                        clear hv
                        go_wp2_with fail
                        refine (CI.out _).mono ?_
                        rintro e w' ⟨rfl, rfl⟩
                        go_wp2_with fail
                        go_round
                        case rel =>
                          refine ⟨m + 1, by omega, by go_num, fun i hi him => ?_⟩
                          by_cases he : i = m
                          · subst he; exact HVV.out
                          · exact IN.out i hi (by omega)
                        case measure => simp [intOf]; omega
                    · have j1 : decide ((m : Int) < (t.nums.length : Int)) = false := by simp; omega
                      have j2 : decide (m < t.nums.length) = false := by simp; omega
                      have hme : m = t.nums.length := by omega
                      have HME := Lib.hid hme
                      clear hme
                      go_wp2_with fail
                      go_roundw
                      case rel =>
                        refine ⟨k + 1, by omega, by go_num, fun j hj hjk => ?_, F2.out⟩
                        by_cases he : j = k
                        · subst he
                          rw [HT.out]
                          exact ⟨HA.out, HBB.out, HF.out, by omega, by omega, fun n hn => by
                            obtain ⟨i, hi, rfl⟩ := List.getElem_of_mem hn
                            exact IN.out i hi (by have := HME.out; omega)⟩
                        · exact OK.out j hj (by omega)
                      case measure => simp [intOf]; omega
                · have j5 : decide ((10000 : Int) < (t.text.length : Int)) = false := by simp; omega
                  have j6 : decide ((100 : Int) < (t.nums.length : Int)) = true := by simp; omega
                  go_wp2_with fail
                  refine (K.out _).mono ?_
                  rintro e w2 ⟨rfl, b2⟩
                  have f2 := bw F1.out b2 z1
                  have z2 := f2.size
                  have F2 := Lib.hid f2
                  have q1 := (b2.cell (p := ⟨(a.add (k * 5)).block, (a.add (k * 5)).off + 1, none⟩) (by show (a.add (k * 5)).block < _; omega)).trans q1
                  have q2 := (b2.cell (p := ⟨(a.add (k * 5)).block, (a.add (k * 5)).off + 2, none⟩) (by show (a.add (k * 5)).block < _; omega)).trans q2
                  have q3 := (b2.cell (p := ⟨(a.add (k * 5)).block, (a.add (k * 5)).off + 3, none⟩) (by show (a.add (k * 5)).block < _; omega)).trans q3
                  have q4 := (b2.cell (p := ⟨(a.add (k * 5)).block, (a.add (k * 5)).off + 4, none⟩) (by show (a.add (k * 5)).block < _; omega)).trans q4
                  have RT2 := Lib.hid ((RT.out.below B1.out).below (b2.mono B1.out.size))
                  have RN2 := Lib.hid ((RN.out.below B1.out).below (b2.mono B1.out.size))
                  clear b2 f2
                  go_wp2_with fail
                  refine (CI.out _).mono ?_
                  rintro e w' ⟨rfl, rfl⟩
                  go_wp2_with fail
                  refine (FEW.out w2 _ RT2.out).mono ?_
                  rintro e w' ⟨rfl, rfl⟩
                  go_wp2_with fail
                  go_ret
                  exact valid_no F2.out
              · have j5 : decide ((10000 : Int) < (t.text.length : Int)) = true := by simp; omega
                go_wp2_with fail
                refine (K.out _).mono ?_
                rintro e w2 ⟨rfl, b2⟩
                have f2 := bw F1.out b2 z1
                have z2 := f2.size
                have F2 := Lib.hid f2
                have q1 := (b2.cell (p := ⟨(a.add (k * 5)).block, (a.add (k * 5)).off + 1, none⟩) (by show (a.add (k * 5)).block < _; omega)).trans q1
                have q2 := (b2.cell (p := ⟨(a.add (k * 5)).block, (a.add (k * 5)).off + 2, none⟩) (by show (a.add (k * 5)).block < _; omega)).trans q2
                have q3 := (b2.cell (p := ⟨(a.add (k * 5)).block, (a.add (k * 5)).off + 3, none⟩) (by show (a.add (k * 5)).block < _; omega)).trans q3
                have q4 := (b2.cell (p := ⟨(a.add (k * 5)).block, (a.add (k * 5)).off + 4, none⟩) (by show (a.add (k * 5)).block < _; omega)).trans q4
                have RT2 := Lib.hid ((RT.out.below B1.out).below (b2.mono B1.out.size))
                have RN2 := Lib.hid ((RN.out.below B1.out).below (b2.mono B1.out.size))
                clear b2 f2
                go_wp2_with fail
                refine (CI.out _).mono ?_
                rintro e w' ⟨rfl, rfl⟩
                go_wp2_with fail
                refine (FEW.out w2 _ RT2.out).mono ?_
                rintro e w' ⟨rfl, rfl⟩
                go_wp2_with fail
                go_ret
                exact valid_no F2.out
        · have e1 : (kdI t.kind == 1) = false := by simpa using h1
          have HBB := Lib.hid (show kdI t.kind = 1 → inR t.n = true from fun h => absurd h h1)
          clear h1 h0
          have FEW := Lib.hid (fun W tp (hR : Row W tp T (strs t.texts)) => few_any T cT tp t.texts W hR S7.out s4)
          rcases hf : fewB t.texts with _ | _
          · rw [hf] at FEW
            clear hf
            go_wp2_with fail
            refine (K.out _).mono ?_
            rintro e w2 ⟨rfl, b2⟩
            have f2 := bw F1.out b2 z1
            have z2 := f2.size
            have F2 := Lib.hid f2
            have q1 := (b2.cell (p := ⟨(a.add (k * 5)).block, (a.add (k * 5)).off + 1, none⟩) (by show (a.add (k * 5)).block < _; omega)).trans q1
            have q2 := (b2.cell (p := ⟨(a.add (k * 5)).block, (a.add (k * 5)).off + 2, none⟩) (by show (a.add (k * 5)).block < _; omega)).trans q2
            have q3 := (b2.cell (p := ⟨(a.add (k * 5)).block, (a.add (k * 5)).off + 3, none⟩) (by show (a.add (k * 5)).block < _; omega)).trans q3
            have q4 := (b2.cell (p := ⟨(a.add (k * 5)).block, (a.add (k * 5)).off + 4, none⟩) (by show (a.add (k * 5)).block < _; omega)).trans q4
            have RT2 := Lib.hid ((RT.out.below B1.out).below (b2.mono B1.out.size))
            have RN2 := Lib.hid ((RN.out.below B1.out).below (b2.mono B1.out.size))
            clear b2 f2
            go_wp2_with fail
            refine (FEW.out w2 _ RT2.out).mono ?_
            rintro e w' ⟨rfl, rfl⟩
            go_wp2_with fail
            go_ret
            exact valid_no F2.out
          · rw [hf] at FEW
            have HF := Lib.hid hf
            clear hf
            by_cases h5 : t.text.length ≤ 10000
            · by_cases h6 : t.nums.length ≤ 100
              · have j5 : decide ((10000 : Int) < (t.text.length : Int)) = false := by simp; omega
                have j5b : decide (10000 < t.text.length) = false := by simp; omega
                have j6 : decide ((100 : Int) < (t.nums.length : Int)) = false := by simp; omega
                have j6b : decide (100 < t.nums.length) = false := by simp; omega
                go_wp2_with fail
                refine (K.out _).mono ?_
                rintro e w2 ⟨rfl, b2⟩
                have f2 := bw F1.out b2 z1
                have z2 := f2.size
                have F2 := Lib.hid f2
                have q1 := (b2.cell (p := ⟨(a.add (k * 5)).block, (a.add (k * 5)).off + 1, none⟩) (by show (a.add (k * 5)).block < _; omega)).trans q1
                have q2 := (b2.cell (p := ⟨(a.add (k * 5)).block, (a.add (k * 5)).off + 2, none⟩) (by show (a.add (k * 5)).block < _; omega)).trans q2
                have q3 := (b2.cell (p := ⟨(a.add (k * 5)).block, (a.add (k * 5)).off + 3, none⟩) (by show (a.add (k * 5)).block < _; omega)).trans q3
                have q4 := (b2.cell (p := ⟨(a.add (k * 5)).block, (a.add (k * 5)).off + 4, none⟩) (by show (a.add (k * 5)).block < _; omega)).trans q4
                have RT2 := Lib.hid ((RT.out.below B1.out).below (b2.mono B1.out.size))
                have RN2 := Lib.hid ((RN.out.below B1.out).below (b2.mono B1.out.size))
                clear b2 f2
                go_wp2_with fail
                refine (FEW.out w2 _ RT2.out).mono ?_
                rintro e w' ⟨rfl, rfl⟩
                go_wp2_with fail
                go_loop [4] (fun j => ∃ m : Nat, m ≤ t.nums.length ∧ j = .int .i64 m ∧ ∀ i (hi : i < t.nums.length), i < m → inR t.nums[i] = true) (fun j => t.nums.length - (intOf j).toNat)
                case atStart => exact ⟨0, by omega, rfl, fun i _ hi => by omega⟩
                case round =>
                  obtain ⟨m, hm, rfl, hin⟩ := hrel
                  have IN := Lib.hid hin
                  clear hin
                  by_cases hml : m < t.nums.length
                  · have j1 : decide ((m : Int) < (t.nums.length : Int)) = true := by simp; omega
                    obtain ⟨b, rfl, -, hcb⟩ := RN2.out m _ (ints_at t.nums m hml)
                    rcases hv : inR t.nums[m] with _ | _
                    · have CI := Lib.hid (fun W => in_any t.nums[m] W)
                      rw [hv] at CI
                      clear hv
                      go_wp2_with fail
                      refine (CI.out _).mono ?_
                      rintro e w' ⟨rfl, rfl⟩
                      go_wp2_with fail
                      go_ret
                      exact valid_no F2.out
                    · have CI := Lib.hid (fun W => in_any t.nums[m] W)
                      rw [hv] at CI
                      have HVV := Lib.hid hv
                      clear hv
                      go_wp2_with fail
                      refine (CI.out _).mono ?_
                      rintro e w' ⟨rfl, rfl⟩
                      go_wp2_with fail
                      go_round
                      case rel =>
                        refine ⟨m + 1, by omega, by go_num, fun i hi him => ?_⟩
                        by_cases he : i = m
                        · subst he; exact HVV.out
                        · exact IN.out i hi (by omega)
                      case measure => simp [intOf]; omega
                  · have j1 : decide ((m : Int) < (t.nums.length : Int)) = false := by simp; omega
                    have j2 : decide (m < t.nums.length) = false := by simp; omega
                    have hme : m = t.nums.length := by omega
                    have HME := Lib.hid hme
                    clear hme
                    go_wp2_with fail
                    go_roundw
                    case rel =>
                      refine ⟨k + 1, by omega, by go_num, fun j hj hjk => ?_, F2.out⟩
                      by_cases he : j = k
                      · subst he
                        rw [HT.out]
                        exact ⟨HA.out, HBB.out, HF.out, by omega, by omega, fun n hn => by
                          obtain ⟨i, hi, rfl⟩ := List.getElem_of_mem hn
                          exact IN.out i hi (by have := HME.out; omega)⟩
                      · exact OK.out j hj (by omega)
                    case measure => simp [intOf]; omega
              · have j5 : decide ((10000 : Int) < (t.text.length : Int)) = false := by simp; omega
                have j6 : decide ((100 : Int) < (t.nums.length : Int)) = true := by simp; omega
                go_wp2_with fail
                refine (K.out _).mono ?_
                rintro e w2 ⟨rfl, b2⟩
                have f2 := bw F1.out b2 z1
                have z2 := f2.size
                have F2 := Lib.hid f2
                have q1 := (b2.cell (p := ⟨(a.add (k * 5)).block, (a.add (k * 5)).off + 1, none⟩) (by show (a.add (k * 5)).block < _; omega)).trans q1
                have q2 := (b2.cell (p := ⟨(a.add (k * 5)).block, (a.add (k * 5)).off + 2, none⟩) (by show (a.add (k * 5)).block < _; omega)).trans q2
                have q3 := (b2.cell (p := ⟨(a.add (k * 5)).block, (a.add (k * 5)).off + 3, none⟩) (by show (a.add (k * 5)).block < _; omega)).trans q3
                have q4 := (b2.cell (p := ⟨(a.add (k * 5)).block, (a.add (k * 5)).off + 4, none⟩) (by show (a.add (k * 5)).block < _; omega)).trans q4
                have RT2 := Lib.hid ((RT.out.below B1.out).below (b2.mono B1.out.size))
                have RN2 := Lib.hid ((RN.out.below B1.out).below (b2.mono B1.out.size))
                clear b2 f2
                go_wp2_with fail
                refine (FEW.out w2 _ RT2.out).mono ?_
                rintro e w' ⟨rfl, rfl⟩
                go_wp2_with fail
                go_ret
                exact valid_no F2.out
            · have j5 : decide ((10000 : Int) < (t.text.length : Int)) = true := by simp; omega
              go_wp2_with fail
              refine (K.out _).mono ?_
              rintro e w2 ⟨rfl, b2⟩
              have f2 := bw F1.out b2 z1
              have z2 := f2.size
              have F2 := Lib.hid f2
              have q1 := (b2.cell (p := ⟨(a.add (k * 5)).block, (a.add (k * 5)).off + 1, none⟩) (by show (a.add (k * 5)).block < _; omega)).trans q1
              have q2 := (b2.cell (p := ⟨(a.add (k * 5)).block, (a.add (k * 5)).off + 2, none⟩) (by show (a.add (k * 5)).block < _; omega)).trans q2
              have q3 := (b2.cell (p := ⟨(a.add (k * 5)).block, (a.add (k * 5)).off + 3, none⟩) (by show (a.add (k * 5)).block < _; omega)).trans q3
              have q4 := (b2.cell (p := ⟨(a.add (k * 5)).block, (a.add (k * 5)).off + 4, none⟩) (by show (a.add (k * 5)).block < _; omega)).trans q4
              have RT2 := Lib.hid ((RT.out.below B1.out).below (b2.mono B1.out.size))
              have RN2 := Lib.hid ((RN.out.below B1.out).below (b2.mono B1.out.size))
              clear b2 f2
              go_wp2_with fail
              refine (FEW.out w2 _ RT2.out).mono ?_
              rintro e w' ⟨rfl, rfl⟩
              go_wp2_with fail
              go_ret
              exact valid_no F2.out
    · have i1 : decide ((k : Int) < (l.length : Int)) = false := by simp; omega
      have i2 : decide (k < l.length) = false := by simp; omega
      have hk : k = l.length := by omega
      have HK := Lib.hid hk
      clear hk
      by_cases h20 : l.length ≤ 20
      · have i3 : decide ((l.length : Int) ≤ 20) = true := by simp; omega
        go_wp2
        go_ret
        exact ⟨true, rfl, HB.out, fun _ => ⟨h20, fun t ht => by
          obtain ⟨j, hj, rfl⟩ := List.getElem_of_mem ht
          exact OK.out j hj (by have := HK.out; omega)⟩⟩
      · have i3 : decide ((l.length : Int) ≤ 20) = false := by simp; omega
        have i4 : decide (l.length ≤ 20) = false := by simp; omega
        go_wp2
        go_ret
        exact valid_no HB.out
end Go.Proofs.Ytjomkfiepmeplaa
