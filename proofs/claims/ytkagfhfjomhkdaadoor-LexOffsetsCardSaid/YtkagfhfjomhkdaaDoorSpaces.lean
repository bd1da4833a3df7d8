/-
  LexSpaces: the walk.
-/
import Derived.Test.YtkagfhfjomhkdaaDoorOffs
import Derived.Test.YtkagfhfjomhkdaaDoorBack
namespace Go.Proofs.YtkagfhfjomhkdaaDoor
open Go.RowKit L7
theorem ls_append (a b : ByteArray) : ls (a ++ b) = ls a ++ ls b := by
  show (a ++ b).data.toList = _
  rw [ByteArray.data_append, Array.toList_append]; rfl
theorem forms_app {L M : List Tk} {ys zs : List Bs} (h1 : forms dec L = some ys) (h2 : forms dec M = some zs) : forms dec (L ++ M) = some (ys ++ zs) := by
  induction L generalizing ys with
  | nil => simp only [forms, Option.some.injEq] at h1; subst h1; exact h2
  | cons a L ih =>
    simp only [List.cons_append, forms] at h1 ⊢
    cases ha : L7.written dec a with
    | none => rw [ha] at h1; cases h1
    | some y =>
      rw [ha] at h1
      cases hL : forms dec L with
      | none => rw [hL] at h1; cases h1
      | some ws =>
        rw [hL] at h1
        simp at h1; subst h1
        rw [ih hL]; rfl
theorem join_app : ∀ (ys zs : List Bs), (join ys).length ≤ (join (ys ++ zs)).length ∧ (join zs).length ≤ (join (ys ++ zs)).length
  | [], zs => ⟨by simp [join], Nat.le_refl _⟩
  | [y], [] => ⟨by simp, by simp [join]⟩
  | [y], z :: zs => by
    show y.length ≤ (y ++ 32 :: join (z :: zs)).length ∧ _ ≤ (y ++ 32 :: join (z :: zs)).length
    simp only [List.length_append, List.length_cons]; omega
  | y :: y2 :: ys, zs => by
    have ih := join_app (y2 :: ys) zs
    show (y ++ 32 :: join (y2 :: ys)).length ≤ (y ++ 32 :: join (y2 :: ys ++ zs)).length ∧ _ ≤ (y ++ 32 :: join (y2 :: ys ++ zs)).length
    simp only [List.length_append, List.length_cons] at ih ⊢; omega
/-- What the law asks of the parts of a list of tokens. -/
theorem parts {L : List Tk} (h : wrt L ≠ []) (m : Nat) (note : Bs) (hn : ∀ b ∈ note, notLf b = true) :
    (wrt (L.take m)).length ≤ (wrt L).length ∧ (wrt (L.drop m)).length ≤ (wrt L).length ∧
    ∃ D, scan (32 :: 47 :: 47 :: (note ++ 10 :: 9 :: (wrt (L.take m) ++ 13 :: 10 :: 32 :: 47 :: 47 :: (note ++ 10 :: (wrt (L.drop m) ++ 32 :: 47 :: 47 :: note))))) = .ok D ∧ D.map Prod.fst = L := by
  obtain ⟨xs, hx, hw⟩ := wrt_some h
  obtain ⟨ys, zs, h1, h2⟩ := forms_append (L.take m) (L.drop m) xs (by rw [List.take_append_drop]; exact hx)
  have hxs : xs = ys ++ zs := by
    have := forms_app h1 h2
    rw [List.take_append_drop, hx] at this
    injection this
  have e1 : wrt (L.take m) = join ys := by unfold wrt; rw [h1]
  have e2 : wrt (L.drop m) = join zs := by unfold wrt; rw [h2]
  have hj := join_app ys zs
  rw [e1, e2, hw, hxs]
  refine ⟨hj.1, hj.2, ?_⟩
  have := scan_spaces dec_ok h1 h2 note hn
  rw [List.take_append_drop] at this
  exact scan_of_toks this
set_option maxRecDepth 100000 in
set_option maxHeartbeats 4000000 in
theorem spaces_many (A : Option Addr) (c top : Nat) (L : List (Tk × Int)) (s : ByteArray) (k : Int) (w : World) (hw : Lies w) (hT : ToksIn w top A L) (htop : top ≤ w.heap.size) (hn : L.length ≤ 4611686018427387904) (hf : fewB L = false) :
    Calls Tryd.prog 5 #[.slice A L.length c, .string s, .int .i64 k] w fun e w' => e = .returned (.bool true) ∧ Below w.heap.size w w' := by
  have SM := Lib.hid (small_any w hw)
  have FW : Hid (∀ W, ToksIn W top A L → Calls Tryd.prog 7 #[.slice A L.length c] W fun e w' => e = .returned (.bool false) ∧ W = w') := Lib.hid (fun W h => by
    have := few_any A c top L W h hn
    rwa [hf] at this)
  have HT := Lib.hid hT
  have HW := Lib.hid hw
  clear hw hf hT
  go_enter Tryd.func5, Tryd.ntmps5
  go_wp2_with (first
    | (go_at_call 6; (with_reducible refine (SM.out).mono ?_); rintro e w1 ⟨rfl, h⟩; have B1 := Lib.hid h; clear h)
    | (go_at_call 7; (with_reducible refine (FW.out _ (HT.out.below (B1.out.mono htop))).mono ?_); rintro e w' ⟨rfl, rfl⟩))
  go_ret
  exact ⟨rfl, B1.out⟩
set_option maxRecDepth 100000 in
set_option maxHeartbeats 4000000 in
theorem spaces_long (A : Option Addr) (c top : Nat) (L : List (Tk × Int)) (s : ByteArray) (k : Int) (w : World) (hw : Lies w) (hT : ToksIn w top A L) (htop : top ≤ w.heap.size) (hn : L.length ≤ 4611686018427387904) (hf : fewB L = true) (hs : 50 < s.size) :
    Calls Tryd.prog 5 #[.slice A L.length c, .string s, .int .i64 k] w fun e w' => e = .returned (.bool true) ∧ Below w.heap.size w w' := by
  have SM := Lib.hid (small_any w hw)
  have FW : Hid (∀ W, ToksIn W top A L → Calls Tryd.prog 7 #[.slice A L.length c] W fun e w' => e = .returned (.bool true) ∧ W = w') := Lib.hid (fun W h => by
    have := few_any A c top L W h hn
    rwa [hf] at this)
  have HT := Lib.hid hT
  have HW := Lib.hid hw
  have d1 : decide ((50 : Int) < (s.size : Int)) = true := by simp; omega
  clear hw hf hT
  go_enter Tryd.func5, Tryd.ntmps5
  go_wp2_with (first
    | (go_at_call 6; (with_reducible refine (SM.out).mono ?_); rintro e w1 ⟨rfl, h⟩; have B1 := Lib.hid h; clear h)
    | (go_at_call 7; (with_reducible refine (FW.out _ (HT.out.below (B1.out.mono htop))).mono ?_); rintro e w' ⟨rfl, rfl⟩))
  go_ret
  exact ⟨rfl, B1.out⟩
set_option maxRecDepth 100000 in
set_option maxHeartbeats 4000000 in
theorem spaces_Y1 (A : Option Addr) (c top : Nat) (L : List (Tk × Int)) (s : ByteArray) (k : Int) (w : World) (hw : Lies w) (hT : ToksIn w top A L) (htop : top ≤ w.heap.size) (hn : L.length ≤ 4611686018427387904) (hf : fewB L = true) (hs : ¬ 50 < s.size) (hy : wrt (L.map Prod.fst) = []) :
    Calls Tryd.prog 5 #[.slice A L.length c, .string s, .int .i64 k] w fun e w' => e = .returned (.bool true) ∧ Below w.heap.size w w' := by
  have SM := Lib.hid (small_any w hw)
  have FW : Hid (∀ W, ToksIn W top A L → Calls Tryd.prog 7 #[.slice A L.length c] W fun e w' => e = .returned (.bool true) ∧ W = w') := Lib.hid (fun W h => by
    have := few_any A c top L W h hn
    rwa [hf] at this)
  have HT := Lib.hid hT
  have HW := Lib.hid hw
  obtain ⟨hL, hLt⟩ := few_ok hf
  have d1 : decide ((50 : Int) < (s.size : Int)) = false := by simp; omega
  have HY : mk (wrt (L.map Prod.fst)) = ⟨#[]⟩ := by rw [hy]; rfl
  have WL : Hid (∀ W, Lies W → ToksIn W top A L → top ≤ W.heap.size → Calls Tryd.prog 8 #[.slice A L.length c] W fun e w' => e = .returned (.string ⟨#[]⟩) ∧ Below W.heap.size W w') := Lib.hid (fun W h1 h2 h3 => by have := write_any A c top L W h1 h2 h3 (by omega) hLt; rw [HY] at this; exact this)
  clear hw hf hT HY hy hLt
  go_enter Tryd.func5, Tryd.ntmps5
  go_upto_region 5 with (first
    | (go_at_call 6; (with_reducible refine (SM.out).mono ?_); rintro e w1 ⟨rfl, h⟩; have B1 := Lib.hid h; clear h)
    | (go_at_call 7; (with_reducible refine (FW.out _ (HT.out.below (B1.out.mono htop))).mono ?_); rintro e w' ⟨rfl, rfl⟩))
  go_loop [8] (fun i => ∃ j : Nat, j ≤ s.size ∧ i = .int .i64 j ∧ Hid (∀ i (h : i < s.size), i < j → s[i] ≠ 10)) (fun i => s.size - (intOf i).toNat)
  case atStart => exact ⟨0, Nat.zero_le _, rfl, Lib.hid (fun i h h2 => by omega)⟩
  case round =>
    obtain ⟨j, hj, rfl, HL⟩ := hrel
    by_cases hlt : j < s.size
    · by_cases h10 : s[j] = 10
      · have q1 : ((s[j].toNat : Int) == 10) = true := by rw [h10]; rfl
        clear h10
        go_wp2
        go_ret
        exact ⟨rfl, B1.out⟩
      · have q1 : ((s[j].toNat : Int) == 10) = false := by rw [show ((s[j].toNat : Int) == 10) = (s[j] == 10) from (eq_nat 10 s[j] (by decide)).symm]; simpa using h10
        have HL2 : Hid (∀ i (h : i < s.size), i < j + 1 → s[i] ≠ 10) := Lib.hid (fun i h h2 => by
          by_cases e : i = j
          · subst e; exact h10
          · exact HL.out i h (by omega))
        clear h10
        go_wp2
        go_round
        case rel => exact ⟨j + 1, by omega, by go_num, HL2⟩
        case measure => simp [intOf]; omega
    · have HN : Hid (∀ b ∈ ls s, notLf b = true) := Lib.hid (by
        intro b hb
        obtain ⟨i, hi, rfl⟩ := List.getElem_of_mem hb
        have := HL.out i hi (by rw [ls_length] at hi; omega)
        have e : (ls s)[i] = s[i] := rfl
        rw [e]; simpa [notLf] using this)
      clear HL
      go_wp2_with (go_at_call 8; (with_reducible refine (WL.out _ (HW.out.on B1.out) (HT.out.below (B1.out.mono htop)) (Nat.le_trans htop B1.out.size)).mono ?_); rintro e w2 ⟨rfl, h⟩; have B2 := Lib.hid (B1.out.trans (h.mono B1.out.size)); clear h)
      go_ret
      exact ⟨rfl, B2.out⟩
set_option maxRecDepth 100000 in
set_option maxHeartbeats 4000000 in
theorem spaces_Y2 (A : Option Addr) (c top : Nat) (L : List (Tk × Int)) (s : ByteArray) (k : Int) (w : World) (hw : Lies w) (hT : ToksIn w top A L) (htop : top ≤ w.heap.size) (hn : L.length ≤ 4611686018427387904) (hf : fewB L = true) (hs : ¬ 50 < s.size) (hy : wrt (L.map Prod.fst) ≠ []) (hb : 6000 < (wrt (L.map Prod.fst)).length) :
    Calls Tryd.prog 5 #[.slice A L.length c, .string s, .int .i64 k] w fun e w' => e = .returned (.bool true) ∧ Below w.heap.size w w' := by
  have SM := Lib.hid (small_any w hw)
  have FW : Hid (∀ W, ToksIn W top A L → Calls Tryd.prog 7 #[.slice A L.length c] W fun e w' => e = .returned (.bool true) ∧ W = w') := Lib.hid (fun W h => by
    have := few_any A c top L W h hn
    rwa [hf] at this)
  have HT := Lib.hid hT
  have HW := Lib.hid hw
  obtain ⟨hL, hLt⟩ := few_ok hf
  have d1 : decide ((50 : Int) < (s.size : Int)) = false := by simp; omega
  obtain ⟨y, hyy⟩ : ∃ y, y = mk (wrt (L.map Prod.fst)) := ⟨_, rfl⟩
  have HY : mk (wrt (L.map Prod.fst)) = y := hyy.symm
  have he : y.toList.isEmpty = false := by rw [hyy]; exact empty_of _ hy
  have hsz : y.size = (wrt (L.map Prod.fst)).length := by rw [hyy, size_mk]
  have WL : Hid (∀ W, Lies W → ToksIn W top A L → top ≤ W.heap.size → Calls Tryd.prog 8 #[.slice A L.length c] W fun e w' => e = .returned (.string y) ∧ Below W.heap.size W w') := Lib.hid (fun W h1 h2 h3 => by have := write_any A c top L W h1 h2 h3 (by omega) hLt; rw [HY] at this; exact this)
  have d2 : decide ((6000 : Int) < (y.size : Int)) = true := by rw [hsz]; simp; omega
  clear hw hf hT HY hyy hy hLt hsz hb
  go_enter Tryd.func5, Tryd.ntmps5
  go_upto_region 5 with (first
    | (go_at_call 6; (with_reducible refine (SM.out).mono ?_); rintro e w1 ⟨rfl, h⟩; have B1 := Lib.hid h; clear h)
    | (go_at_call 7; (with_reducible refine (FW.out _ (HT.out.below (B1.out.mono htop))).mono ?_); rintro e w' ⟨rfl, rfl⟩))
  go_loop [8] (fun i => ∃ j : Nat, j ≤ s.size ∧ i = .int .i64 j ∧ Hid (∀ i (h : i < s.size), i < j → s[i] ≠ 10)) (fun i => s.size - (intOf i).toNat)
  case atStart => exact ⟨0, Nat.zero_le _, rfl, Lib.hid (fun i h h2 => by omega)⟩
  case round =>
    obtain ⟨j, hj, rfl, HL⟩ := hrel
    by_cases hlt : j < s.size
    · by_cases h10 : s[j] = 10
      · have q1 : ((s[j].toNat : Int) == 10) = true := by rw [h10]; rfl
        clear h10
        go_wp2
        go_ret
        exact ⟨rfl, B1.out⟩
      · have q1 : ((s[j].toNat : Int) == 10) = false := by rw [show ((s[j].toNat : Int) == 10) = (s[j] == 10) from (eq_nat 10 s[j] (by decide)).symm]; simpa using h10
        have HL2 : Hid (∀ i (h : i < s.size), i < j + 1 → s[i] ≠ 10) := Lib.hid (fun i h h2 => by
          by_cases e : i = j
          · subst e; exact h10
          · exact HL.out i h (by omega))
        clear h10
        go_wp2
        go_round
        case rel => exact ⟨j + 1, by omega, by go_num, HL2⟩
        case measure => simp [intOf]; omega
    · have HN : Hid (∀ b ∈ ls s, notLf b = true) := Lib.hid (by
        intro b hb
        obtain ⟨i, hi, rfl⟩ := List.getElem_of_mem hb
        have := HL.out i hi (by rw [ls_length] at hi; omega)
        have e : (ls s)[i] = s[i] := rfl
        rw [e]; simpa [notLf] using this)
      clear HL
      go_wp2_with (go_at_call 8; (with_reducible refine (WL.out _ (HW.out.on B1.out) (HT.out.below (B1.out.mono htop)) (Nat.le_trans htop B1.out.size)).mono ?_); rintro e w2 ⟨rfl, h⟩; have B2 := Lib.hid (B1.out.trans (h.mono B1.out.size)); clear h)
      go_ret
      exact ⟨rfl, B2.out⟩
set_option maxRecDepth 100000 in
set_option maxHeartbeats 4000000 in
theorem spaces_Y4 (a : Addr) (c top : Nat) (L : List (Tk × Int)) (s : ByteArray) (k : Int) (w : World) (hw : Lies w) (hT : ToksIn w top (some a) L) (htop : top ≤ w.heap.size) (hn : L.length ≤ 4611686018427387904) (hc : L.length ≤ c) (hf : fewB L = true) (hs : ¬ 50 < s.size) (hy : wrt (L.map Prod.fst) ≠ []) (hb : ¬ 6000 < (wrt (L.map Prod.fst)).length) (hk : 0 < k) :
    Calls Tryd.prog 5 #[.slice (some a) L.length c, .string s, .int .i64 k] w fun e w' => e = .returned (.bool true) ∧ Below w.heap.size w w' := by
  have SM := Lib.hid (small_any w hw)
  have FW : Hid (∀ W, ToksIn W top (some a) L → Calls Tryd.prog 7 #[.slice (some a) L.length c] W fun e w' => e = .returned (.bool true) ∧ W = w') := Lib.hid (fun W h => by
    have := few_any (some a) c top L W h hn
    rwa [hf] at this)
  have HT := Lib.hid hT
  have HW := Lib.hid hw
  obtain ⟨hL, hLt⟩ := few_ok hf
  have d1 : decide ((50 : Int) < (s.size : Int)) = false := by simp; omega
  obtain ⟨y, hyy⟩ : ∃ y, y = mk (wrt (L.map Prod.fst)) := ⟨_, rfl⟩
  have HY : mk (wrt (L.map Prod.fst)) = y := hyy.symm
  have he : y.toList.isEmpty = false := by rw [hyy]; exact empty_of _ hy
  have hsz : y.size = (wrt (L.map Prod.fst)).length := by rw [hyy, size_mk]
  have WL : Hid (∀ W, Lies W → ToksIn W top (some a) L → top ≤ W.heap.size → Calls Tryd.prog 8 #[.slice (some a) L.length c] W fun e w' => e = .returned (.string y) ∧ Below W.heap.size W w') := Lib.hid (fun W h1 h2 h3 => by have := write_any (some a) c top L W h1 h2 h3 (by omega) hLt; rw [HY] at this; exact this)
  have d2 : decide ((6000 : Int) < (y.size : Int)) = false := by rw [hsz]; simp; omega
  have hL0 : 0 < L.length := by
    apply Nat.pos_of_ne_zero
    intro h0
    have : L = [] := List.eq_nil_of_length_eq_zero h0
    subst this
    exact hy rfl
  have d3 : ((L.length : Int) == 0) = false := by rw [beq_eq_false_iff_ne]; omega
  obtain ⟨m, hm⟩ : ∃ m : Nat, (m : Int) = k % (L.length : Int) := ⟨(k % (L.length : Int)).toNat, Int.toNat_of_nonneg (Int.emod_nonneg _ (by intro e; omega))⟩
  have hml : m < L.length := by
    have h := Int.emod_lt_of_pos k (show (0 : Int) < (L.length : Int) by omega)
    rw [← hm] at h
    exact Int.ofNat_lt.1 h
  have hmod : k % (L.length : Int) = (m : Int) := hm.symm
  have hk0 : 0 ≤ k := by omega
  have hl1 : (0 : Int) < (L.length : Int) := by omega
  have hl2 : (L.length : Int) ≤ 200 := by omega
  have PT : Hid (∀ note, (∀ b ∈ note, notLf b = true) → _) := Lib.hid (fun note h => parts hy m note h)
  obtain ⟨ya, hya⟩ : ∃ ya, ya = mk (wrt ((L.map Prod.fst).take m)) := ⟨_, rfl⟩
  obtain ⟨yb, hyb⟩ : ∃ yb, yb = mk (wrt ((L.map Prod.fst).drop m)) := ⟨_, rfl⟩
  have HA : Hid (ls ya = wrt ((L.map Prod.fst).take m)) := Lib.hid (by rw [hya, ls_mk])
  have HB : Hid (ls yb = wrt ((L.map Prod.fst).drop m)) := Lib.hid (by rw [hyb, ls_mk])
  have pz := parts hy m [] (fun b h => by simp at h)
  have hza : ya.size ≤ 6000 := by rw [hya, size_mk]; omega
  have hzb : yb.size ≤ 6000 := by rw [hyb, size_mk]; omega
  have WA : Hid (∀ W, Lies W → ToksIn W top (some a) L → top ≤ W.heap.size → Calls Tryd.prog 8 #[.slice (some a) m c] W fun e w' => e = .returned (.string ya) ∧ Below W.heap.size W w') := Lib.hid (fun W h1 h2 h3 => by
    have := write_any (some a) c top (L.take m) W h1 (h2.take m) h3 (by rw [List.length_take]; omega) (fun x hx => hLt x (List.mem_of_mem_take hx))
    rw [List.length_take, Nat.min_eq_left (by omega), List.map_take, ← hya] at this
    exact this)
  have WB : Hid (∀ W, Lies W → ToksIn W top (some a) L → top ≤ W.heap.size → Calls Tryd.prog 8 #[.slice (some (a.add (m * 4))) (L.length - m) (c - m)] W fun e w' => e = .returned (.string yb) ∧ Below W.heap.size W w') := Lib.hid (fun W h1 h2 h3 => by
    have := write_any (some (a.add (m * 4))) (c - m) top (L.drop m) W h1 (h2.drop m) h3 (by rw [List.length_drop]; omega) (fun x hx => hLt x (List.mem_of_mem_drop hx))
    rw [List.length_drop, List.map_drop, ← hyb] at this
    exact this)
  clear hw hf hT HY hyy hy hLt hsz hb pz hya hyb hm
  go_enter Tryd.func5, Tryd.ntmps5
  go_upto_region 5 with (first
    | (go_at_call 6; (with_reducible refine (SM.out).mono ?_); rintro e w1 ⟨rfl, h⟩; have B1 := Lib.hid h; clear h)
    | (go_at_call 7; (with_reducible refine (FW.out _ (HT.out.below (B1.out.mono htop))).mono ?_); rintro e w' ⟨rfl, rfl⟩))
  go_loop [8] (fun i => ∃ j : Nat, j ≤ s.size ∧ i = .int .i64 j ∧ Hid (∀ i (h : i < s.size), i < j → s[i] ≠ 10)) (fun i => s.size - (intOf i).toNat)
  case atStart => exact ⟨0, Nat.zero_le _, rfl, Lib.hid (fun i h h2 => by omega)⟩
  case round =>
    obtain ⟨j, hj, rfl, HL⟩ := hrel
    by_cases hlt : j < s.size
    · by_cases h10 : s[j] = 10
      · have q1 : ((s[j].toNat : Int) == 10) = true := by rw [h10]; rfl
        clear h10
        go_wp2
        go_ret
        exact ⟨rfl, B1.out⟩
      · have q1 : ((s[j].toNat : Int) == 10) = false := by rw [show ((s[j].toNat : Int) == 10) = (s[j] == 10) from (eq_nat 10 s[j] (by decide)).symm]; simpa using h10
        have HL2 : Hid (∀ i (h : i < s.size), i < j + 1 → s[i] ≠ 10) := Lib.hid (fun i h h2 => by
          by_cases e : i = j
          · subst e; exact h10
          · exact HL.out i h (by omega))
        clear h10
        go_wp2
        go_round
        case rel => exact ⟨j + 1, by omega, by go_num, HL2⟩
        case measure => simp [intOf]; omega
    · have HN : Hid (∀ b ∈ ls s, notLf b = true) := Lib.hid (by
        intro b hb
        obtain ⟨i, hi, rfl⟩ := List.getElem_of_mem hb
        have := HL.out i hi (by rw [ls_length] at hi; omega)
        have e : (ls s)[i] = s[i] := rfl
        rw [e]; simpa [notLf] using this)
      clear HL
      obtain ⟨pm1, pm2, E, hE, hEm⟩ := PT.out (ls s) HN.out
      have hEl : E.length = L.length := by have := congrArg List.length hEm; simpa using this
      have SX : Hid (∀ W, Lies W → Calls Tryd.prog 9 #[.string (((((((((⟨#[32, 47, 47]⟩ ++ s) ++ ⟨#[10, 9]⟩) ++ ya) ++ ⟨#[13, 10, 32, 47, 47]⟩) ++ s) ++ ⟨#[10]⟩) ++ yb) ++ ⟨#[32, 47, 47]⟩) ++ s)] W fun e w' => ∃ A c, e = .returned (.tuple #[.slice A E.length c, .int .i64 0, .int .i64 0]) ∧ ToksIn w' w'.heap.size A (offs (((((((((⟨#[32, 47, 47]⟩ ++ s) ++ ⟨#[10, 9]⟩) ++ ya) ++ ⟨#[13, 10, 32, 47, 47]⟩) ++ s) ++ ⟨#[10]⟩) ++ yb) ++ ⟨#[32, 47, 47]⟩) ++ s : ByteArray).size E) ∧ Head A ∧ E.length ≤ c ∧ Below W.heap.size W w') := Lib.hid (fun W h => scan_ok_any _ E (by
        have e : ls (((((((((⟨#[32, 47, 47]⟩ ++ s) ++ ⟨#[10, 9]⟩) ++ ya) ++ ⟨#[13, 10, 32, 47, 47]⟩) ++ s) ++ ⟨#[10]⟩) ++ yb) ++ ⟨#[32, 47, 47]⟩) ++ s : ByteArray) = 32 :: 47 :: 47 :: (ls s ++ 10 :: 9 :: (ls ya ++ 13 :: 10 :: 32 :: 47 :: 47 :: (ls s ++ 10 :: (ls yb ++ 32 :: 47 :: 47 :: ls s)))) := by
          simp only [ls_append]
          simp [ls]
        rw [e, HA.out, HB.out]
        exact hE) (by
        have e1 : (⟨#[32, 47, 47]⟩ : ByteArray).size = 3 := rfl
        have e2 : (⟨#[10, 9]⟩ : ByteArray).size = 2 := rfl
        have e3 : (⟨#[13, 10, 32, 47, 47]⟩ : ByteArray).size = 5 := rfl
        have e4 : (⟨#[10]⟩ : ByteArray).size = 1 := rfl
        simp only [ByteArray.size_append, e1, e2, e3, e4]
        omega) W h)
      have SA : Hid (∀ (A' : Option Addr) (c' t' n' : Nat) (W : World), ToksIn W t' A' (offs n' E) → ToksIn W top (some a) L → Calls Tryd.prog 10 #[.slice A' E.length c', .slice (some a) L.length c] W fun e w' => e = .returned (.bool true) ∧ Below W.heap.size W w') := Lib.hid (fun A' c' t' n' W h1 h2 => same_any' A' (some a) c' c t' top _ _ _ _ true (offs_length _ _) rfl (by rw [offs_map, hEm]; simp) (by omega) (by omega) W h1 h2)
      clear pm1 pm2 hE hEm hEl
      go_wp2_with (first
        | (go_at_call 8; have B3' := B3; (with_reducible refine (WB.out _ (HW.out.on B3.out) (HT.out.below (B3.out.mono htop)) (Nat.le_trans htop B3.out.size)).mono ?_); rintro e w4 ⟨rfl, h⟩; have B4 := Lib.hid (B3.out.trans (h.mono B3.out.size)); clear h)
        | (go_at_call 8; have B2' := B2; (with_reducible refine (WA.out _ (HW.out.on B2.out) (HT.out.below (B2.out.mono htop)) (Nat.le_trans htop B2.out.size)).mono ?_); rintro e w3 ⟨rfl, h⟩; have B3 := Lib.hid (B2.out.trans (h.mono B2.out.size)); clear h)
        | (go_at_call 8; (with_reducible refine (WL.out _ (HW.out.on B1.out) (HT.out.below (B1.out.mono htop)) (Nat.le_trans htop B1.out.size)).mono ?_); rintro e w2 ⟨rfl, h⟩; have B2 := Lib.hid (B1.out.trans (h.mono B1.out.size)); clear h)
        | (go_at_call 9; (with_reducible refine (SX.out _ (HW.out.on B4.out)).mono ?_); rintro e w5 ⟨A5, c5, rfl, h1, -, -, h⟩; have T5 := Lib.hid h1; have B5 := Lib.hid (B4.out.trans (h.mono B4.out.size)); clear h h1)
        | (go_at_call 10; (with_reducible refine (SA.out _ _ _ _ _ T5.out (HT.out.below (B5.out.mono htop))).mono ?_); rintro e w6 ⟨rfl, h⟩; have B6 := Lib.hid (B5.out.trans (h.mono B5.out.size)); clear h))
      go_ret
      exact ⟨rfl, B6.out⟩
set_option maxRecDepth 100000 in
set_option maxHeartbeats 4000000 in
theorem spaces_Y5 (a : Addr) (c top : Nat) (L : List (Tk × Int)) (s : ByteArray) (k : Int) (w : World) (hw : Lies w) (hT : ToksIn w top (some a) L) (htop : top ≤ w.heap.size) (hn : L.length ≤ 4611686018427387904) (hc : L.length ≤ c) (hf : fewB L = true) (hs : ¬ 50 < s.size) (hy : wrt (L.map Prod.fst) ≠ []) (hb : ¬ 6000 < (wrt (L.map Prod.fst)).length) (hk : ¬ 0 < k) :
    Calls Tryd.prog 5 #[.slice (some a) L.length c, .string s, .int .i64 k] w fun e w' => e = .returned (.bool true) ∧ Below w.heap.size w w' := by
  have SM := Lib.hid (small_any w hw)
  have FW : Hid (∀ W, ToksIn W top (some a) L → Calls Tryd.prog 7 #[.slice (some a) L.length c] W fun e w' => e = .returned (.bool true) ∧ W = w') := Lib.hid (fun W h => by
    have := few_any (some a) c top L W h hn
    rwa [hf] at this)
  have HT := Lib.hid hT
  have HW := Lib.hid hw
  obtain ⟨hL, hLt⟩ := few_ok hf
  have d1 : decide ((50 : Int) < (s.size : Int)) = false := by simp; omega
  obtain ⟨y, hyy⟩ : ∃ y, y = mk (wrt (L.map Prod.fst)) := ⟨_, rfl⟩
  have HY : mk (wrt (L.map Prod.fst)) = y := hyy.symm
  have he : y.toList.isEmpty = false := by rw [hyy]; exact empty_of _ hy
  have hsz : y.size = (wrt (L.map Prod.fst)).length := by rw [hyy, size_mk]
  have WL : Hid (∀ W, Lies W → ToksIn W top (some a) L → top ≤ W.heap.size → Calls Tryd.prog 8 #[.slice (some a) L.length c] W fun e w' => e = .returned (.string y) ∧ Below W.heap.size W w') := Lib.hid (fun W h1 h2 h3 => by have := write_any (some a) c top L W h1 h2 h3 (by omega) hLt; rw [HY] at this; exact this)
  have d2 : decide ((6000 : Int) < (y.size : Int)) = false := by rw [hsz]; simp; omega
  have hL0 : 0 < L.length := by
    apply Nat.pos_of_ne_zero
    intro h0
    have : L = [] := List.eq_nil_of_length_eq_zero h0
    subst this
    exact hy rfl
  have d3 : ((L.length : Int) == 0) = false := by rw [beq_eq_false_iff_ne]; omega
  obtain ⟨m, hm⟩ : ∃ m : Nat, m = 0 := ⟨0, rfl⟩
  have hml : m < L.length := by omega
  have hk0 : k ≤ 0 := by omega
  have PT : Hid (∀ note, (∀ b ∈ note, notLf b = true) → _) := Lib.hid (fun note h => parts hy m note h)
  obtain ⟨ya, hya⟩ : ∃ ya, ya = mk (wrt ((L.map Prod.fst).take m)) := ⟨_, rfl⟩
  obtain ⟨yb, hyb⟩ : ∃ yb, yb = mk (wrt ((L.map Prod.fst).drop m)) := ⟨_, rfl⟩
  have HA : Hid (ls ya = wrt ((L.map Prod.fst).take m)) := Lib.hid (by rw [hya, ls_mk])
  have HB : Hid (ls yb = wrt ((L.map Prod.fst).drop m)) := Lib.hid (by rw [hyb, ls_mk])
  have pz := parts hy m [] (fun b h => by simp at h)
  have hza : ya.size ≤ 6000 := by rw [hya, size_mk]; omega
  have hzb : yb.size ≤ 6000 := by rw [hyb, size_mk]; omega
  have WA : Hid (∀ W, Lies W → ToksIn W top (some a) L → top ≤ W.heap.size → Calls Tryd.prog 8 #[.slice (some a) 0 c] W fun e w' => e = .returned (.string ya) ∧ Below W.heap.size W w') := Lib.hid (fun W h1 h2 h3 => by
    have := write_any (some a) c top (L.take m) W h1 (h2.take m) h3 (by rw [List.length_take]; omega) (fun x hx => hLt x (List.mem_of_mem_take hx))
    rw [List.length_take, Nat.min_eq_left (by omega), List.map_take, ← hya] at this
    rw [hm] at this; exact this)
  have WB : Hid (∀ W, Lies W → ToksIn W top (some a) L → top ≤ W.heap.size → Calls Tryd.prog 8 #[.slice (some a) L.length c] W fun e w' => e = .returned (.string yb) ∧ Below W.heap.size W w') := Lib.hid (fun W h1 h2 h3 => by
    have := write_any (some (a.add (m * 4))) (c - m) top (L.drop m) W h1 (h2.drop m) h3 (by rw [List.length_drop]; omega) (fun x hx => hLt x (List.mem_of_mem_drop hx))
    rw [List.length_drop, List.map_drop, ← hyb] at this
    rw [hm] at this; simpa [Addr.add] using this)
  clear hw hf hT HY hyy hy hLt hsz hb pz hya hyb hm
  go_enter Tryd.func5, Tryd.ntmps5
  go_upto_region 5 with (first
    | (go_at_call 6; (with_reducible refine (SM.out).mono ?_); rintro e w1 ⟨rfl, h⟩; have B1 := Lib.hid h; clear h)
    | (go_at_call 7; (with_reducible refine (FW.out _ (HT.out.below (B1.out.mono htop))).mono ?_); rintro e w' ⟨rfl, rfl⟩))
  go_loop [8] (fun i => ∃ j : Nat, j ≤ s.size ∧ i = .int .i64 j ∧ Hid (∀ i (h : i < s.size), i < j → s[i] ≠ 10)) (fun i => s.size - (intOf i).toNat)
  case atStart => exact ⟨0, Nat.zero_le _, rfl, Lib.hid (fun i h h2 => by omega)⟩
  case round =>
    obtain ⟨j, hj, rfl, HL⟩ := hrel
    by_cases hlt : j < s.size
    · by_cases h10 : s[j] = 10
      · have q1 : ((s[j].toNat : Int) == 10) = true := by rw [h10]; rfl
        clear h10
        go_wp2
        go_ret
        exact ⟨rfl, B1.out⟩
      · have q1 : ((s[j].toNat : Int) == 10) = false := by rw [show ((s[j].toNat : Int) == 10) = (s[j] == 10) from (eq_nat 10 s[j] (by decide)).symm]; simpa using h10
        have HL2 : Hid (∀ i (h : i < s.size), i < j + 1 → s[i] ≠ 10) := Lib.hid (fun i h h2 => by
          by_cases e : i = j
          · subst e; exact h10
          · exact HL.out i h (by omega))
        clear h10
        go_wp2
        go_round
        case rel => exact ⟨j + 1, by omega, by go_num, HL2⟩
        case measure => simp [intOf]; omega
    · have HN : Hid (∀ b ∈ ls s, notLf b = true) := Lib.hid (by
        intro b hb
        obtain ⟨i, hi, rfl⟩ := List.getElem_of_mem hb
        have := HL.out i hi (by rw [ls_length] at hi; omega)
        have e : (ls s)[i] = s[i] := rfl
        rw [e]; simpa [notLf] using this)
      clear HL
      obtain ⟨pm1, pm2, E, hE, hEm⟩ := PT.out (ls s) HN.out
      have hEl : E.length = L.length := by have := congrArg List.length hEm; simpa using this
      have SX : Hid (∀ W, Lies W → Calls Tryd.prog 9 #[.string (((((((((⟨#[32, 47, 47]⟩ ++ s) ++ ⟨#[10, 9]⟩) ++ ya) ++ ⟨#[13, 10, 32, 47, 47]⟩) ++ s) ++ ⟨#[10]⟩) ++ yb) ++ ⟨#[32, 47, 47]⟩) ++ s)] W fun e w' => ∃ A c, e = .returned (.tuple #[.slice A E.length c, .int .i64 0, .int .i64 0]) ∧ ToksIn w' w'.heap.size A (offs (((((((((⟨#[32, 47, 47]⟩ ++ s) ++ ⟨#[10, 9]⟩) ++ ya) ++ ⟨#[13, 10, 32, 47, 47]⟩) ++ s) ++ ⟨#[10]⟩) ++ yb) ++ ⟨#[32, 47, 47]⟩) ++ s : ByteArray).size E) ∧ Head A ∧ E.length ≤ c ∧ Below W.heap.size W w') := Lib.hid (fun W h => scan_ok_any _ E (by
        have e : ls (((((((((⟨#[32, 47, 47]⟩ ++ s) ++ ⟨#[10, 9]⟩) ++ ya) ++ ⟨#[13, 10, 32, 47, 47]⟩) ++ s) ++ ⟨#[10]⟩) ++ yb) ++ ⟨#[32, 47, 47]⟩) ++ s : ByteArray) = 32 :: 47 :: 47 :: (ls s ++ 10 :: 9 :: (ls ya ++ 13 :: 10 :: 32 :: 47 :: 47 :: (ls s ++ 10 :: (ls yb ++ 32 :: 47 :: 47 :: ls s)))) := by
          simp only [ls_append]
          simp [ls]
        rw [e, HA.out, HB.out]
        exact hE) (by
        have e1 : (⟨#[32, 47, 47]⟩ : ByteArray).size = 3 := rfl
        have e2 : (⟨#[10, 9]⟩ : ByteArray).size = 2 := rfl
        have e3 : (⟨#[13, 10, 32, 47, 47]⟩ : ByteArray).size = 5 := rfl
        have e4 : (⟨#[10]⟩ : ByteArray).size = 1 := rfl
        simp only [ByteArray.size_append, e1, e2, e3, e4]
        omega) W h)
      have SA : Hid (∀ (A' : Option Addr) (c' t' n' : Nat) (W : World), ToksIn W t' A' (offs n' E) → ToksIn W top (some a) L → Calls Tryd.prog 10 #[.slice A' E.length c', .slice (some a) L.length c] W fun e w' => e = .returned (.bool true) ∧ Below W.heap.size W w') := Lib.hid (fun A' c' t' n' W h1 h2 => same_any' A' (some a) c' c t' top _ _ _ _ true (offs_length _ _) rfl (by rw [offs_map, hEm]; simp) (by omega) (by omega) W h1 h2)
      clear pm1 pm2 hE hEm hEl
      go_wp2_with (first
        | (go_at_call 8; have B3' := B3; (with_reducible refine (WB.out _ (HW.out.on B3.out) (HT.out.below (B3.out.mono htop)) (Nat.le_trans htop B3.out.size)).mono ?_); rintro e w4 ⟨rfl, h⟩; have B4 := Lib.hid (B3.out.trans (h.mono B3.out.size)); clear h)
        | (go_at_call 8; have B2' := B2; (with_reducible refine (WA.out _ (HW.out.on B2.out) (HT.out.below (B2.out.mono htop)) (Nat.le_trans htop B2.out.size)).mono ?_); rintro e w3 ⟨rfl, h⟩; have B3 := Lib.hid (B2.out.trans (h.mono B2.out.size)); clear h)
        | (go_at_call 8; (with_reducible refine (WL.out _ (HW.out.on B1.out) (HT.out.below (B1.out.mono htop)) (Nat.le_trans htop B1.out.size)).mono ?_); rintro e w2 ⟨rfl, h⟩; have B2 := Lib.hid (B1.out.trans (h.mono B1.out.size)); clear h)
        | (go_at_call 9; (with_reducible refine (SX.out _ (HW.out.on B4.out)).mono ?_); rintro e w5 ⟨A5, c5, rfl, h1, -, -, h⟩; have T5 := Lib.hid h1; have B5 := Lib.hid (B4.out.trans (h.mono B4.out.size)); clear h h1)
        | (go_at_call 10; (with_reducible refine (SA.out _ _ _ _ _ T5.out (HT.out.below (B5.out.mono htop))).mono ?_); rintro e w6 ⟨rfl, h⟩; have B6 := Lib.hid (B5.out.trans (h.mono B5.out.size)); clear h))
      go_ret
      exact ⟨rfl, B6.out⟩
theorem spaces_any (A : Option Addr) (c top : Nat) (L : List (Tk × Int)) (s : ByteArray) (k : Int) (w : World) (hw : Lies w) (hT : ToksIn w top A L) (htop : top ≤ w.heap.size) (hn : L.length ≤ 4611686018427387904) (hc : L.length ≤ c) :
    Calls Tryd.prog 5 #[.slice A L.length c, .string s, .int .i64 k] w fun e w' => e = .returned (.bool true) ∧ Below w.heap.size w w' := by
  cases hf : fewB L with
  | false => exact spaces_many A c top L s k w hw hT htop hn hf
  | true =>
    by_cases hs : 50 < s.size
    · exact spaces_long A c top L s k w hw hT htop hn hf hs
    by_cases hy : wrt (L.map Prod.fst) = []
    · exact spaces_Y1 A c top L s k w hw hT htop hn hf hs hy
    by_cases hb : 6000 < (wrt (L.map Prod.fst)).length
    · exact spaces_Y2 A c top L s k w hw hT htop hn hf hs hy hb
    have hne : L ≠ [] := by rintro rfl; exact hy rfl
    obtain ⟨x, M, hxM⟩ : ∃ x M, L = x :: M := by
      cases L with
      | nil => exact absurd rfl hne
      | cons x M => exact ⟨x, M, rfl⟩
    obtain ⟨a, rfl, -⟩ := hT 0 x (by rw [hxM]; rfl)
    by_cases hk : 0 < k
    · exact spaces_Y4 a c top L s k w hw hT htop hn hc hf hs hy hb hk
    · exact spaces_Y5 a c top L s k w hw hT htop hn hc hf hs hy hb hk
end Go.Proofs.YtkagfhfjomhkdaaDoor
