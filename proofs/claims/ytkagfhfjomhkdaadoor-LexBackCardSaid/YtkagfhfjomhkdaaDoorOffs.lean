/-
  LexOffsets: the walk.
-/
import Derived.Test.YtkagfhfjomhkdaaDoorLawP
import Derived.Deep.Cut
namespace Go.Proofs.YtkagfhfjomhkdaaDoor
open Go.RowKit L7
theorem add_add (a : Addr) (m n : Nat) : (a.add m).add n = a.add (m + n) := by
  unfold Addr.add
  by_cases hm : m = 0
  · subst hm; simp
  · by_cases hn : n = 0
    · subst hn; simp
    · rw [if_neg hm, if_neg hn, if_neg (by omega)]; simp; omega
theorem ToksIn.drop {w : World} {top : Nat} {a : Addr} {L : List (Tk × Int)} (h : ToksIn w top (some a) L) (i : Nat) : ToksIn w top (some (a.add (i * 4))) (L.drop i) := fun k x hk => by
  obtain ⟨a', e, h1, h2⟩ := h (i + k) x (by rw [List.getElem?_drop] at hk; exact hk)
  cases e
  refine ⟨_, rfl, by rw [addr_block]; exact h1, fun j u hu => ?_⟩
  rw [add_add, show i * 4 + (k * 4 + j) = (i + k) * 4 + j by omega]
  exact h2 j u hu
theorem ToksIn.take {w : World} {top : Nat} {A : Option Addr} {L : List (Tk × Int)} (h : ToksIn w top A L) (n : Nat) : ToksIn w top A (L.take n) := fun k x hk => by
  have hn : k < n := by
    apply Nat.lt_of_not_le
    intro hle
    rw [List.getElem?_eq_none (by rw [List.length_take]; omega)] at hk
    cases hk
  exact h k x (by rw [List.getElem?_take_of_lt hn] at hk; exact hk)
theorem extract_mid (s : ByteArray) (a e : Nat) : ls (s.extract a e) = ((ls s).drop a).take (e - a) := by
  show (s.extract a e).data.toList = _
  rw [ByteArray.data_extract, Array.toList_extract, List.extract_eq_take_drop]
  rfl
theorem offs_drop (n i : Nat) (D : List (Tk × Nat)) : (offs n D).drop i = offs n (D.drop i) := by simp [offs, List.map_drop]
set_option maxRecDepth 100000 in
set_option maxHeartbeats 4000000 in
theorem offs_walk (s : ByteArray) (D : List (Tk × Nat)) (w : World) (hw : Lies w) (hs : ¬ 2000 < s.size) (hsc : scan (ls s) = .ok D) :
    Calls Tryd.prog 4 #[.string s] w fun e w' => e = .returned (.bool true) ∧ Below w.heap.size w w' := by
  obtain ⟨hDl, -⟩ := scan_len D (ls s) hsc
  rw [ls_length] at hDl
  have d1 : decide ((2000 : Int) < (s.size : Int)) = false := by simp; omega
  have SM := Lib.hid (small_any w hw)
  have SS := Lib.hid (fun W h => scan_ok_any s D hsc (by omega) W h)
  have PL := Lib.hid (scan_places D (ls s) hsc)
  have HW := Lib.hid hw
  clear hw hsc
  go_enter Tryd.func4, Tryd.ntmps4
  go_wp2_with (first
    | (go_at_call 6; (with_reducible refine (SM.out).mono ?_); rintro e w1 ⟨rfl, h⟩; have B1 := Lib.hid h; clear h)
    | (go_at_call 9; (with_reducible refine (SS.out _ (HW.out.on B1.out)).mono ?_); rintro e w2 ⟨A, c, rfl, h1, h2, h3, h⟩; have T2 := Lib.hid h1; have B2 := Lib.hid (B1.out.trans (h.mono B1.out.size)); clear h h1 h2))
  obtain ⟨top, htop⟩ : ∃ t, t = w2.heap.size := ⟨_, rfl⟩
  rw [← htop] at T2
  have Z2 : Hid (top ≤ w2.heap.size) := Lib.hid (by omega)
  clear htop SM SS
  go_loopw [7] (fun i wr => ∃ k : Nat, k ≤ D.length ∧ k ≤ 40 ∧ i = .int .i64 k ∧ Hid (Below w.heap.size w wr) ∧ Hid (ToksIn wr top A (offs s.size D)) ∧ Hid (top ≤ wr.heap.size)) (fun i _ => 40 - (intOf i).toNat)
  case atStart => exact ⟨0, Nat.zero_le _, Nat.zero_le _, rfl, B2, T2, Z2⟩
  case round =>
    clear B2 T2 Z2 B1
    obtain ⟨k, hk, hk2, rfl, HB, HT, HZ⟩ := hrel
    by_cases hlt : k < D.length
    · by_cases h40 : k < 40
      · have i1 : decide ((k : Int) < (D.length : Int)) = true := by simp; omega
        have i2 : decide ((k : Int) < 40) = true := by simp; omega
        have hlt' : k < (offs s.size D).length := by rw [offs_length]; exact hlt
        obtain ⟨p1, p2, p3, p4, p5⟩ := PL.out k hlt
        rw [ls_length] at p1 p3 p4 p5
        obtain ⟨⟨t, n⟩, hx⟩ : ∃ x, D[k] = x := ⟨_, rfl⟩
        rw [hx] at p1 p2 p3 p4 p5
        simp only at p1 p2 p3 p4 p5
        have hox : (offs s.size D)[k]? = some (t, ((s.size - n : Nat) : Int)) := by simp [offs, List.getElem?_eq_getElem hlt, hx]
        obtain ⟨a, rfl, ga, -, -, -, a3⟩ := HT.out.at_ hox
        simp only at a3
        obtain ⟨q, hq⟩ : ∃ q, q = s.size - n := ⟨_, rfl⟩
        rw [← hq] at a3 p3 p4 p5
        have hqs : q < s.size := by omega
        by_cases hj : k + 1 < D.length
        · obtain ⟨p6, p7⟩ := p4 hj
          obtain ⟨⟨t2, n2⟩, hy⟩ : ∃ x, D[k + 1] = x := ⟨_, rfl⟩
          rw [hy] at p6 p7
          simp only at p6 p7
          have hoy : (offs s.size D)[k + 1]? = some (t2, ((s.size - n2 : Nat) : Int)) := by simp [offs, List.getElem?_eq_getElem hj, hy]
          obtain ⟨a', e', -, -, -, -, b3⟩ := HT.out.at_ hoy
          cases e'
          simp only at b3
          obtain ⟨r, hr⟩ : ∃ r, r = s.size - n2 := ⟨_, rfl⟩
          rw [← hr] at b3
          have hqr : q < r := by omega
          have hrs : r ≤ s.size := by omega
          have j1 : decide ((k : Int) + 1 < (D.length : Int)) = true := by simp; omega
          have hlq : ls (s.extract q r) = ((ls s).drop q).take (n - n2) := by rw [extract_mid, show r - q = n - n2 by omega]
          rw [← hlq] at p7
          obtain ⟨O, hO, hOm⟩ := scan_of_toks p7
          have hOl : O.length = 1 := by have := congrArg List.length hOm; simpa using this
          have hdk : (offs s.size D).drop k = (t, (q : Int)) :: (offs s.size D).drop (k + 1) := by
            rw [List.drop_eq_getElem_cons hlt']
            rw [List.getElem?_eq_getElem hlt'] at hox
            injection hox with hox
            rw [hox, hq]
          have SO : Hid (∀ W, Lies W → Calls Tryd.prog 9 #[.string (s.extract q r)] W fun e w' => ∃ A c, e = .returned (.tuple #[.slice A 1 c, .int .i64 0, .int .i64 0]) ∧ ToksIn w' w'.heap.size A (offs (s.extract q r).size O) ∧ Head A ∧ 1 ≤ c ∧ Below W.heap.size W w') := Lib.hid (fun W h => by
            have := scan_ok_any (s.extract q r) O hO (by rw [← ls_length, hlq]; exact Nat.le_trans (List.length_take_le _ _) (by omega)) W h
            rwa [hOl] at this)
          have SR0 := fun W h => scan_ok_any (s.extract q s.size) (D.drop k) (by rw [extract_drop, ls_mk]; exact p3) (by rw [extract_drop, size_drop]; omega) W h
          have SA : Hid (∀ (A1 : Option Addr) (c1 c2 t1 : Nat) (W : World), ToksIn W t1 A1 (offs (s.extract q r).size O) → ToksIn W top (some a) (offs s.size D) → Calls Tryd.prog 10 #[.slice A1 1 c1, .slice (some (a.add (k * 4))) 1 c2] W fun e w' => e = .returned (.bool true) ∧ Below W.heap.size W w') := Lib.hid (fun A1 c1 c2 t1 W h1 h2 =>
            same_any' A1 (some (a.add (k * 4))) c1 c2 t1 top _ (((offs s.size D).drop k).take 1) _ _ true (by rw [offs_length]; exact hOl) (by rw [hdk]; rfl) (by rw [offs_map, hOm, hdk]; simp) (by omega) (by omega) W h1 ((h2.drop k).take 1))
          have hml : (D.drop k).length = D.length - k := List.length_drop
          have SB0 := fun (A2 : Option Addr) (c1 c2 t2 : Nat) (W : World) (h1 : ToksIn W t2 A2 (offs (s.extract q s.size).size (D.drop k))) (h2 : ToksIn W top (some a) (offs s.size D)) =>
            same_any' A2 (some (a.add (k * 4))) c1 c2 t2 top _ ((offs s.size D).drop k) _ (D.length - k) true (offs_length _ _) (by rw [offs_drop, offs_length]; exact hml) (by rw [offs_drop, offs_map, offs_map]; simp) (by omega) (by omega) W h1 (h2.drop k)
          obtain ⟨m, hm⟩ : ∃ m, m = (D.drop k).length := ⟨_, rfl⟩
          rw [← hm] at SR0 SB0
          have SR := Lib.hid SR0
          have SB := Lib.hid SB0
          clear SR0 SB0 hq hx hr hy hoy p6 hox p4 p5 hlt' p7 hO hlq hdk hml hm p3 hOl hOm
          go_wp2_with (first
            | (go_at_call 9; have C1' := C1; (with_reducible refine (SR.out _ (HW.out.on C1.out)).mono ?_); rintro e v2 ⟨A2, c2, rfl, h1, -, -, h⟩; have V2 := Lib.hid h1; have U2 := Lib.hid (U1.out.below h); have T2 := Lib.hid (T1.out.below (h.mono Z1.out)); have C2 := Lib.hid (C1.out.trans (h.mono C1.out.size)); have Z2 := Lib.hid (Nat.le_trans Z1.out h.size); have S2 := Lib.hid h.size; clear h h1)
            | (go_at_call 9; (with_reducible refine (SO.out _ (HW.out.on HB.out)).mono ?_); rintro e v1 ⟨A1, c1, rfl, h1, -, -, h⟩; have U1 := Lib.hid h1; have T1 := Lib.hid (HT.out.below (h.mono HZ.out)); have C1 := Lib.hid (HB.out.trans (h.mono HB.out.size)); have Z1 := Lib.hid (Nat.le_trans HZ.out h.size); have a4 : v1.cell? ⟨(a.add (k * 4)).block, (a.add (k * 4)).off + 3, none⟩ = some (.int .i64 (q : Int)) := ((h.mono HZ.out).cell (p := ⟨(a.add (k * 4)).block, (a.add (k * 4)).off + 3, none⟩) ga).trans a3; clear h h1)
            | (go_at_call 10; have C3' := C3; (with_reducible refine (SB.out _ _ _ _ _ V3.out T3.out).mono ?_); rintro e v4 ⟨rfl, h⟩; have T4 := Lib.hid (T3.out.below (h.mono Z3.out)); have C4 := Lib.hid (C3.out.trans (h.mono C3.out.size)); have Z4 := Lib.hid (Nat.le_trans Z3.out h.size); clear h)
            | (go_at_call 10; (with_reducible refine (SA.out _ _ _ _ _ U2.out T2.out).mono ?_); rintro e v3 ⟨rfl, h⟩; have V3 := Lib.hid (V2.out.below h); have T3 := Lib.hid (T2.out.below (h.mono Z2.out)); have C3 := Lib.hid (C2.out.trans (h.mono C2.out.size)); have Z3 := Lib.hid (Nat.le_trans Z2.out h.size); clear h))
          go_roundw
          case rel => exact ⟨k + 1, by omega, by omega, by go_num, C4, T4, Z4⟩
          case measure => simp [intOf]; omega
        · have p7 := p5 (by omega)
          have j1 : decide ((k : Int) + 1 < (D.length : Int)) = false := by simp; omega
          have hlq : ls (s.extract q s.size) = (ls s).drop q := by rw [extract_drop, ls_mk]
          rw [← hlq] at p7
          obtain ⟨O, hO, hOm⟩ := scan_of_toks p7
          have hOl : O.length = 1 := by have := congrArg List.length hOm; simpa using this
          have hdk : (offs s.size D).drop k = (t, (q : Int)) :: (offs s.size D).drop (k + 1) := by
            rw [List.drop_eq_getElem_cons hlt']
            rw [List.getElem?_eq_getElem hlt'] at hox
            injection hox with hox
            rw [hox, hq]
          have SO : Hid (∀ W, Lies W → Calls Tryd.prog 9 #[.string (s.extract q s.size)] W fun e w' => ∃ A c, e = .returned (.tuple #[.slice A 1 c, .int .i64 0, .int .i64 0]) ∧ ToksIn w' w'.heap.size A (offs (s.extract q s.size).size O) ∧ Head A ∧ 1 ≤ c ∧ Below W.heap.size W w') := Lib.hid (fun W h => by
            have := scan_ok_any (s.extract q s.size) O hO (by rw [← ls_length, hlq]; rw [List.length_drop, ls_length]; omega) W h
            rwa [hOl] at this)
          have SR0 := fun W h => scan_ok_any (s.extract q s.size) (D.drop k) (by rw [extract_drop, ls_mk]; exact p3) (by rw [extract_drop, size_drop]; omega) W h
          have SA : Hid (∀ (A1 : Option Addr) (c1 c2 t1 : Nat) (W : World), ToksIn W t1 A1 (offs (s.extract q s.size).size O) → ToksIn W top (some a) (offs s.size D) → Calls Tryd.prog 10 #[.slice A1 1 c1, .slice (some (a.add (k * 4))) 1 c2] W fun e w' => e = .returned (.bool true) ∧ Below W.heap.size W w') := Lib.hid (fun A1 c1 c2 t1 W h1 h2 =>
            same_any' A1 (some (a.add (k * 4))) c1 c2 t1 top _ (((offs s.size D).drop k).take 1) _ _ true (by rw [offs_length]; exact hOl) (by rw [hdk]; rfl) (by rw [offs_map, hOm, hdk]; simp) (by omega) (by omega) W h1 ((h2.drop k).take 1))
          have hml : (D.drop k).length = D.length - k := List.length_drop
          have SB0 := fun (A2 : Option Addr) (c1 c2 t2 : Nat) (W : World) (h1 : ToksIn W t2 A2 (offs (s.extract q s.size).size (D.drop k))) (h2 : ToksIn W top (some a) (offs s.size D)) =>
            same_any' A2 (some (a.add (k * 4))) c1 c2 t2 top _ ((offs s.size D).drop k) _ (D.length - k) true (offs_length _ _) (by rw [offs_drop, offs_length]; exact hml) (by rw [offs_drop, offs_map, offs_map]; simp) (by omega) (by omega) W h1 (h2.drop k)
          obtain ⟨m, hm⟩ : ∃ m, m = (D.drop k).length := ⟨_, rfl⟩
          rw [← hm] at SR0 SB0
          have SR := Lib.hid SR0
          have SB := Lib.hid SB0
          clear SR0 SB0 hq hx  hox p4 p5 hlt' p7 hO hlq hdk hml hm p3 hOl hOm
          go_wp2_with (first
            | (go_at_call 9; have C1' := C1; (with_reducible refine (SR.out _ (HW.out.on C1.out)).mono ?_); rintro e v2 ⟨A2, c2, rfl, h1, -, -, h⟩; have V2 := Lib.hid h1; have U2 := Lib.hid (U1.out.below h); have T2 := Lib.hid (T1.out.below (h.mono Z1.out)); have C2 := Lib.hid (C1.out.trans (h.mono C1.out.size)); have Z2 := Lib.hid (Nat.le_trans Z1.out h.size); have S2 := Lib.hid h.size; clear h h1)
            | (go_at_call 9; (with_reducible refine (SO.out _ (HW.out.on HB.out)).mono ?_); rintro e v1 ⟨A1, c1, rfl, h1, -, -, h⟩; have U1 := Lib.hid h1; have T1 := Lib.hid (HT.out.below (h.mono HZ.out)); have C1 := Lib.hid (HB.out.trans (h.mono HB.out.size)); have Z1 := Lib.hid (Nat.le_trans HZ.out h.size); have a4 : v1.cell? ⟨(a.add (k * 4)).block, (a.add (k * 4)).off + 3, none⟩ = some (.int .i64 (q : Int)) := ((h.mono HZ.out).cell (p := ⟨(a.add (k * 4)).block, (a.add (k * 4)).off + 3, none⟩) ga).trans a3; clear h h1)
            | (go_at_call 10; have C3' := C3; (with_reducible refine (SB.out _ _ _ _ _ V3.out T3.out).mono ?_); rintro e v4 ⟨rfl, h⟩; have T4 := Lib.hid (T3.out.below (h.mono Z3.out)); have C4 := Lib.hid (C3.out.trans (h.mono C3.out.size)); have Z4 := Lib.hid (Nat.le_trans Z3.out h.size); clear h)
            | (go_at_call 10; (with_reducible refine (SA.out _ _ _ _ _ U2.out T2.out).mono ?_); rintro e v3 ⟨rfl, h⟩; have V3 := Lib.hid (V2.out.below h); have T3 := Lib.hid (T2.out.below (h.mono Z2.out)); have C3 := Lib.hid (C2.out.trans (h.mono C2.out.size)); have Z3 := Lib.hid (Nat.le_trans Z2.out h.size); clear h))
          go_roundw
          case rel => exact ⟨k + 1, by omega, by omega, by go_num, C4, T4, Z4⟩
          case measure => simp [intOf]; omega
      · have i1 : decide ((k : Int) < (D.length : Int)) = true := by simp; omega
        have i2 : decide ((k : Int) < 40) = false := by simp; omega
        go_wp2
        go_ret
        exact ⟨rfl, HB.out⟩
    · have i1 : decide ((k : Int) < (D.length : Int)) = false := by simp; omega
      go_wp2
      go_ret
      exact ⟨rfl, HB.out⟩
set_option maxRecDepth 100000 in
set_option maxHeartbeats 1000000 in
theorem offs_any (s : ByteArray) (w : World) (hw : Lies w) :
    Calls Tryd.prog 4 #[.string s] w fun e w' => e = .returned (.bool true) ∧ Below w.heap.size w w' := by
  by_cases hs : 2000 < s.size
  · have d1 : decide ((2000 : Int) < (s.size : Int)) = true := by simp; omega
    have SM := Lib.hid (small_any w hw)
    clear hw
    go_enter Tryd.func4, Tryd.ntmps4
    go_wp2_with (go_at_call 6; (with_reducible refine (SM.out).mono ?_); rintro e w1 ⟨rfl, h⟩; have B1 := Lib.hid h; clear h)
    go_ret
    exact ⟨rfl, B1.out⟩
  cases hsc : scan (ls s) with
  | ok D => exact offs_walk s D w hw hs hsc
  | error e =>
    obtain ⟨er, k⟩ := e
    have d1 : decide ((2000 : Int) < (s.size : Int)) = false := by simp; omega
    have SM := Lib.hid (small_any w hw)
    have SS := Lib.hid (fun W h => scan_err_any s er k hsc (by omega) W h)
    have hne := scan_errc hsc
    have HW := Lib.hid hw
    clear hw hsc
    go_enter Tryd.func4, Tryd.ntmps4
    go_wp2_with (first
      | (go_at_call 6; (with_reducible refine (SM.out).mono ?_); rintro e w1 ⟨rfl, h⟩; have B1 := Lib.hid h; clear h)
      | (go_at_call 9; (with_reducible refine (SS.out _ (HW.out.on B1.out)).mono ?_); rintro e w2 ⟨rfl, h⟩; have B2 := Lib.hid (B1.out.trans (h.mono B1.out.size)); clear h))
    go_ret
    exact ⟨rfl, B2.out⟩
end Go.Proofs.YtkagfhfjomhkdaaDoor
