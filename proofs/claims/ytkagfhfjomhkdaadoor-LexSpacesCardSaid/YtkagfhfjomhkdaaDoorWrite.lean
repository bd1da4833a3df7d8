/-
  Write of lex: its contract.
-/
import Derived.Test.YtkagfhfjomhkdaaDoorWr2
import Derived.Lib.ItoaLen
namespace Go.Proofs.YtkagfhfjomhkdaaDoor
open Go.RowKit L7
theorem add_next (a : Addr) (m j : Nat) (hj : 0 < j) : (⟨(a.add m).block, (a.add m).off + j, none⟩ : Addr) = a.add (m + j) := by
  unfold Addr.add
  by_cases hm : m = 0
  · subst hm; rw [if_pos rfl, if_neg (by omega)]; simp
  · rw [if_neg hm, if_neg (by omega)]; simp; omega
theorem ToksIn.at_ {w : World} {top : Nat} {A : Option Addr} {L : List (Tk × Int)} (h : ToksIn w top A L) {k : Nat} {x : Tk × Int} (hk : L[k]? = some x) :
    ∃ a, A = some a ∧ (a.add (k * 4)).block < top ∧ w.cell? (a.add (k * 4)) = some (.int .i64 x.1.k) ∧ w.cell? ⟨(a.add (k * 4)).block, (a.add (k * 4)).off + 1, none⟩ = some (.string (mk x.1.t)) ∧
      w.cell? ⟨(a.add (k * 4)).block, (a.add (k * 4)).off + 2, none⟩ = some (.int .i64 x.1.n) ∧ w.cell? ⟨(a.add (k * 4)).block, (a.add (k * 4)).off + 3, none⟩ = some (.int .i64 x.2) := by
  obtain ⟨a, h1, h2, h3⟩ := h k x hk
  refine ⟨a, h1, by rw [addr_block]; exact h2, h3 0 _ rfl, ?_, ?_, ?_⟩
  · rw [add_next _ _ 1 (by decide)]; exact h3 1 _ rfl
  · rw [add_next _ _ 2 (by decide)]; exact h3 2 _ rfl
  · rw [add_next _ _ 3 (by decide)]; exact h3 3 _ rfl
/-- What a list of tokens is written as; nothing if one is invalid. -/
def wrt (L : List Tk) : Bs := match forms dec L with
  | some xs => join xs
  | none => []
theorem dec_le (n : Nat) (h : n ≤ 9007199254740992) : (dec n).length ≤ 21 := by
  have := Lib.itoa_length_le (n : Int) (by omega) (by omega)
  rw [dec_itoa _ (by omega)] at this
  simpa using this
theorem written_le {t : Tk} {x : Bs} (h : L7.written dec t = some x) (hl : t.t.length ≤ 4200) : x.length ≤ 8402 := by
  unfold L7.written at h
  split at h
  · split at h
    · rename_i h2
      injection h with h; subst h
      have := dec_le t.n.toNat (by omega)
      omega
    · cases h
  · split at h
    · cases h
    · split at h
      · injection h with h; subst h
        have := qbody_le t.t
        simp only [List.length_cons, List.length_append, List.length_nil]; omega
      · split at h
        · injection h with h; subst h; omega
        · cases h
theorem join_snoc : ∀ (xs : List Bs) (x : Bs), join (xs ++ [x]) = if xs = [] then x else join xs ++ 32 :: x
  | [], _ => rfl
  | [y], x => rfl
  | y :: z :: l, x => by
    have ih := join_snoc (z :: l) x
    rw [if_neg (by simp)] at ih ⊢
    show y ++ 32 :: join (z :: l ++ [x]) = _
    rw [ih]
    show _ = (y ++ 32 :: join (z :: l)) ++ 32 :: x
    simp
theorem forms_snoc {L : List Tk} {xs : List Bs} {t : Tk} {x : Bs} (h : forms dec L = some xs) (ht : L7.written dec t = some x) : forms dec (L ++ [t]) = some (xs ++ [x]) := by
  induction L generalizing xs with
  | nil =>
    simp only [forms, Option.some.injEq] at h; subst h
    simp [forms, ht]
  | cons a L ih =>
    simp only [List.cons_append, forms] at h ⊢
    cases ha : L7.written dec a with
    | none => rw [ha] at h; cases h
    | some y =>
      rw [ha] at h
      cases hL : forms dec L with
      | none => rw [hL] at h; cases h
      | some ys =>
        rw [hL] at h
        simp at h; subst h
        rw [ih hL]; rfl
theorem forms_none {L M : List Tk} {t : Tk} (ht : L7.written dec t = none) : forms dec (L ++ t :: M) = none := by
  induction L with
  | nil => simp [forms, ht]
  | cons a L ih =>
    simp only [List.cons_append, forms, ih]
    cases L7.written dec a <;> rfl
theorem forms_length {L : List Tk} {xs : List Bs} (h : forms dec L = some xs) : xs.length = L.length := by
  induction L generalizing xs with
  | nil => simp only [forms, Option.some.injEq] at h; subst h; rfl
  | cons a L ih =>
    simp only [forms] at h
    cases ha : L7.written dec a with
    | none => rw [ha] at h; cases h
    | some y =>
      rw [ha] at h
      cases hL : forms dec L with
      | none => rw [hL] at h; cases h
      | some ys => rw [hL] at h; simp at h; subst h; simp [ih hL]
theorem wbo_any {B b : Nat} {l : Bs} {w : World} (h : Bd B b l w) (c : UInt8) (n : Int) (hn : (c.toNat : Int) = n) (hl : l.length ≤ 100000000) (hB : B ≤ w.heap.size) :
    Calls Tryd.prog 12 #[.pointer (some ⟨b, 0, none⟩), .int .u8 n] w fun e w' => e = .returned .nilIface ∧ Bd B b (l ++ [c]) w' ∧ Below B w w' ∧ Lib.OthersKept 5 (some b) w w' := by
  rw [← hn]
  exact (Tryd.WriteByte_k B b _ c.toNat w h (by rw [Lib.byteCells_length]; omega) hB).mono fun e w' k => ⟨k.1, by
    have := k.2.1
    unfold Bd
    rw [Lib.byteCells_append]
    exact .inr this, k.2.2.1, k.2.2.2⟩
set_option maxRecDepth 20000 in
set_option maxHeartbeats 4000000 in
theorem write_any (A : Option Addr) (c top : Nat) (L : List (Tk × Int)) (w : World) (hw : Lies w) (hT : ToksIn w top A L) (htop : top ≤ w.heap.size) (hL : L.length ≤ 2000) (hs : ∀ x ∈ L, x.1.t.length ≤ 4200) :
    Calls Tryd.prog 8 #[.slice A L.length c] w fun e w' => e = .returned (.string (mk (wrt (L.map Prod.fst)))) ∧ Below w.heap.size w w' := by
  have F0 := Lib.hid (Bd.fresh w)
  have B0 := Lib.hid ((Below.refl w.heap.size w).alloc (Nat.le_refl _) (.cells #[.pointer none, .slice none 0 0] 38))
  have HT := Lib.hid hT
  have HS := Lib.hid hs
  have HW := Lib.hid hw
  clear hT hs hw
  go_enter Tryd.func8, Tryd.ntmps8
  go_wp2
  go_loopw [8] (fun i wr => ∃ (k : Nat) (xs : List Bs), k ≤ L.length ∧ i = .int .i64 k ∧ Hid (forms dec ((L.take k).map Prod.fst) = some xs) ∧ Hid ((join xs).length ≤ 9000 * k) ∧ Hid (Bd w.heap.size w.heap.size (join xs) wr) ∧ Hid (Below w.heap.size w wr) ∧ w.heap.size + 1 ≤ wr.heap.size) (fun i _ => L.length - (intOf i).toNat)
  case atStart => exact ⟨0, [], Nat.zero_le _, rfl, Lib.hid rfl, Lib.hid (Nat.zero_le _), F0, B0, by simp⟩
  case round =>
    clear F0 B0
    obtain ⟨k, xs, hk, rfl, HF, HJL, HBd, HB, hsz1⟩ := hrel
    have hsz := HB.out.size
    by_cases hlt : k < L.length
    · obtain ⟨⟨t, p⟩, hx⟩ : ∃ x, L[k] = x := ⟨_, rfl⟩
      have hmem : (t, p) ∈ L := by rw [← hx]; exact List.getElem_mem _
      have hxl : t.t.length ≤ 4200 := HS.out _ hmem
      obtain ⟨a, rfl, ga, g0, g1, g2, g3⟩ := (HT.out.below (HB.out.mono htop)).at_ (k := k) (x := (t, p)) (by rw [List.getElem?_eq_getElem hlt, hx])
      have V := fun W => isValid_any t.k t.n p (mk t.t) W (by rw [size_mk]; omega)
      rw [ls_mk] at V
      have i1 : decide ((k : Int) < (L.length : Int)) = true := by simp; omega
      simp only at g0 g1 g2 g3
      cases hv : L7.written dec t with
      | none =>
        have vf : validB t = false := by rw [← written_valid, hv]; rfl
        rw [vf] at V
        have HR2 : Hid (wrt (L.map Prod.fst) = []) := Lib.hid (by
          have e : L.map Prod.fst = (L.take k).map Prod.fst ++ t :: (L.drop (k + 1)).map Prod.fst := by
            conv => lhs; rw [← List.take_append_drop k L, List.drop_eq_getElem_cons hlt]
            rw [List.map_append, List.map_cons, hx]
          unfold wrt
          rw [e, forms_none hv])
        have HV := Lib.hid V
        clear V vf hv hx hxl hmem HS HF
        go_wp2_with (go_at_call 11; (with_reducible refine (HV.out _).mono ?_); rintro e w2 ⟨rfl, hb⟩; have B2 := Lib.hid ((HB.out.alloc hsz (.cells #[.int .i64 t.k, .string (mk t.t), .int .i64 t.n, .int .i64 p] 32)).trans (hb.mono (by first | (simp; done) | (simp; omega)))); clear hb)
        go_ret
        exact ⟨str_ret (by rw [HR2.out]; rfl), B2.out⟩
      | some x =>
        have vt : validB t = true := by rw [← written_valid, hv]; rfl
        rw [vt] at V
        have hxl8 := written_le hv hxl
        have HF2 : Hid (forms dec ((L.take (k + 1)).map Prod.fst) = some (xs ++ [x])) := Lib.hid (by
          rw [List.take_succ_eq_append_getElem hlt, List.map_append, List.map_cons, List.map_nil, hx]
          exact forms_snoc HF.out hv)
        have HJ : Hid (join (xs ++ [x]) = if xs = [] then x else join xs ++ 32 :: x) := Lib.hid (join_snoc xs x)
        have hxk : xs.length = k := by have := forms_length HF.out; rw [List.length_map, List.length_take] at this; omega
        have W14 : Hid (∀ W, Lies W → Calls Tryd.prog 14 #[.agg #[.int .i64 t.k, .string (mk t.t), .int .i64 t.n, .int .i64 p]] W fun e w' => e = .returned (.string (mk x)) ∧ Below W.heap.size W w') := Lib.hid (fun W hL => written_any t.k t.n p (mk t.t) x W hL (by rw [size_mk]; omega) hv)
        have hjl := HJL.out
        have HV := Lib.hid V
        clear V vt hv hx hxl hmem HS HF
        by_cases h0 : 0 < k
        · have HJ2 : Hid (join (xs ++ [x]) = (join xs ++ [32]) ++ x) := Lib.hid (by
            rw [HJ.out, if_neg (by intro e; rw [e] at hxk; simp at hxk; omega)]; simp)
          have HJL2 : Hid ((join (xs ++ [x])).length ≤ 9000 * (k + 1)) := Lib.hid (by rw [HJ2.out]; simp; omega)
          clear hxk HJ
          go_wp2_with (first
            | (go_at_call 11; (with_reducible refine (HV.out _).mono ?_); rintro e w2 ⟨rfl, hb⟩; have J2 : Is w2 wr.heap.size 32 #[.int .i64 t.k, .string (mk t.t), .int .i64 t.n, .int .i64 p] := (Is.fresh wr 32 _).below hb (by simp); have y0 := J2.at_ 0; have f0 := J2.open_ 0; have y1 := J2.at_ 1; have f1 := J2.open_ 1; have y2 := J2.at_ 2; have f2 := J2.open_ 2; have y3 := J2.at_ 3; have f3 := J2.open_ 3; have hl := J2.lt; simp at y0 y1 y2 y3; have F2 := Lib.hid ((HBd.out.alloc (.cells #[.int .i64 t.k, .string (mk t.t), .int .i64 t.n, .int .i64 p] 32)).below hb); have B2 := Lib.hid ((HB.out.alloc hsz (.cells #[.int .i64 t.k, .string (mk t.t), .int .i64 t.n, .int .i64 p] 32)).trans (hb.mono (by first | (simp; done) | (simp; omega)))); have hsz2 := B2.out.size; have HI2 := Lib.hid J2; have s2 : w.heap.size + 1 ≤ w2.heap.size := (by omega); clear hb J2)
            | (go_at_call 12; (with_reducible refine (wbo_any F2.out 32 32 rfl (by omega) hsz2).mono ?_); rintro e w3 ⟨rfl, h1, h2, h3⟩; have J3 : Is w3 wr.heap.size 32 #[.int .i64 t.k, .string (mk t.t), .int .i64 t.n, .int .i64 p] := h3 wr.heap.size _ HI2.out (by simp; omega) (by intro c fz e; injection e with _ e _; exact absurd e (by decide)); clear y0 f0 y1 f1 y2 f2 y3 f3 hl; have zy0 := J3.at_ 0; have zf0 := J3.open_ 0; have zy1 := J3.at_ 1; have zf1 := J3.open_ 1; have zy2 := J3.at_ 2; have zf2 := J3.open_ 2; have zy3 := J3.at_ 3; have zf3 := J3.open_ 3; have zhl := J3.lt; simp at zy0 zy1 zy2 zy3; have F3 := Lib.hid h1; have B3 := Lib.hid (B2.out.trans h2); have hsz3 := B3.out.size; have L3 := Lib.hid (HW.out.on B3.out); have s3 := Nat.le_trans s2 h2.size; clear h1 h2 h3 J3)
            | (go_at_call 14; (with_reducible refine (W14.out _ L3.out).mono ?_); rintro e w4 ⟨rfl, hb⟩; have F4 := Lib.hid (F3.out.below hb); have B4 := Lib.hid (B3.out.trans (hb.mono hsz3)); have hsz4 := B4.out.size; have s4 := Nat.le_trans s3 hb.size; clear hb)
            | (go_at_call 13; (with_reducible refine (ws_any F4.out (mk x) (by rw [size_mk]; simp; omega) hsz4).mono ?_); rintro e w5 ⟨rfl, h1, h2⟩; have F5 := Lib.hid h1; have B5 := Lib.hid (B4.out.trans h2); have s5 := Nat.le_trans s4 h2.size; clear h1 h2))
          go_roundw
          case rel => exact ⟨k + 1, xs ++ [x], by omega, by go_num, HF2, HJL2, by rw [HJ2.out]; exact F5, B5, s5⟩
          case measure => simp [intOf]; omega
        · have hk0 : k = 0 := by omega
          have HJ2 : Hid (join (xs ++ [x]) = join xs ++ x) := Lib.hid (by
            have : xs = [] := List.eq_nil_of_length_eq_zero (by omega)
            rw [HJ.out, if_pos this, this]; rfl)
          have HJL2 : Hid ((join (xs ++ [x])).length ≤ 9000 * (k + 1)) := Lib.hid (by rw [HJ2.out]; simp; omega)
          clear hxk HJ hk0
          go_wp2_with (first
            | (go_at_call 11; (with_reducible refine (HV.out _).mono ?_); rintro e w2 ⟨rfl, hb⟩; have J2 : Is w2 wr.heap.size 32 #[.int .i64 t.k, .string (mk t.t), .int .i64 t.n, .int .i64 p] := (Is.fresh wr 32 _).below hb (by simp); have y0 := J2.at_ 0; have f0 := J2.open_ 0; have y1 := J2.at_ 1; have f1 := J2.open_ 1; have y2 := J2.at_ 2; have f2 := J2.open_ 2; have y3 := J2.at_ 3; have f3 := J2.open_ 3; have hl := J2.lt; simp at y0 y1 y2 y3; have F3 := Lib.hid ((HBd.out.alloc (.cells #[.int .i64 t.k, .string (mk t.t), .int .i64 t.n, .int .i64 p] 32)).below hb); have B3 := Lib.hid ((HB.out.alloc hsz (.cells #[.int .i64 t.k, .string (mk t.t), .int .i64 t.n, .int .i64 p] 32)).trans (hb.mono (by first | (simp; done) | (simp; omega)))); have hsz3 := B3.out.size; have L3 := Lib.hid (HW.out.on B3.out); have s3 : w.heap.size + 1 ≤ w2.heap.size := (by omega); clear hb J2)
            | (go_at_call 14; (with_reducible refine (W14.out _ L3.out).mono ?_); rintro e w4 ⟨rfl, hb⟩; have F4 := Lib.hid (F3.out.below hb); have B4 := Lib.hid (B3.out.trans (hb.mono hsz3)); have hsz4 := B4.out.size; have s4 := Nat.le_trans s3 hb.size; clear hb)
            | (go_at_call 13; (with_reducible refine (ws_any F4.out (mk x) (by rw [size_mk]; omega) hsz4).mono ?_); rintro e w5 ⟨rfl, h1, h2⟩; have F5 := Lib.hid h1; have B5 := Lib.hid (B4.out.trans h2); have s5 := Nat.le_trans s4 h2.size; clear h1 h2))
          go_roundw
          case rel => exact ⟨k + 1, xs ++ [x], by omega, by go_num, HF2, HJL2, by rw [HJ2.out]; exact F5, B5, s5⟩
          case measure => simp [intOf]; omega
    · have hkl : k = L.length := by omega
      have HR2 : Hid (wrt (L.map Prod.fst) = join xs) := Lib.hid (by
        have := HF.out
        rw [hkl, List.take_length] at this
        unfold wrt
        rw [this])
      have i1 : decide ((k : Int) < (L.length : Int)) = false := by simp; omega
      have i2 : decide (k < L.length) = false := by simp; omega
      clear HF hkl
      go_wp2_with (go_at_call 15; (with_reducible refine (str_any HBd.out hsz).mono ?_); rintro e w3 ⟨rfl, -, h2⟩; have B3 := Lib.hid (HB.out.trans h2); clear h2)
      go_ret
      exact ⟨str_ret (by rw [HR2.out]), B3.out⟩
end Go.Proofs.YtkagfhfjomhkdaaDoor
