/-
  The laws' Value: its kind, what it encodes to, and how it lies in memory.
-/
import Derived.Test.YtjomkfiepmeplaaOrder
namespace Go.Proofs.Ytjomkfiepmeplaa
open Go.RowKit
structure Val where
  kind : Int
  n : Int
  text : List UInt8
  texts : List (List UInt8)
  nums : List Int
def kdI (k : Int) : Int := if k.tmod 5 < 0 then k.tmod 5 + 5 else k.tmod 5
theorem kdI_range (k : Int) : 0 ≤ kdI k ∧ kdI k ≤ 4 := by
  have h1 := Int.tmod_lt_of_pos k (b := 5) (by omega)
  have h2 := Int.lt_tmod_of_pos k (b := 5) (by omega)
  unfold kdI
  split <;> omega
theorem kind_any (k : Int) (c1 c2 c3 c4 : Value) (w : World) (h1 : -9223372036854775808 ≤ k) (h2 : k ≤ 9223372036854775807) :
    Calls Try.prog 57 #[.agg #[.int .i64 k, c1, c2, c3, c4]] w fun e w' => e = .returned (.int .i64 (kdI k)) ∧ Below w.heap.size w w' := by
  have r1 := Int.tmod_lt_of_pos k (b := 5) (by omega)
  have r2 := Int.lt_tmod_of_pos k (b := 5) (by omega)
  by_cases hn : k.tmod 5 < 0
  · have hk0 : k < 0 := by
      rcases Int.lt_or_le k 0 with h | h
      · exact h
      · exfalso
        have : 0 ≤ k.tmod 5 := Int.tmod_nonneg _ h
        omega
    have e : kdI k = k.tmod 5 + 5 := by unfold kdI; rw [if_pos hn]
    have E := Lib.hid e
    clear e
    go_enter Try.func57, Try.ntmps57
    go_wp2
    go_ret
    exact ⟨by rw [E.out]; rfl, (Below.refl _ _).alloc (Nat.le_refl _) _⟩
  · by_cases hk0 : 0 ≤ k
    · have e0 : k.tmod 5 = k % 5 := Int.tmod_eq_emod_of_nonneg hk0
      have e : kdI k = k % 5 := by unfold kdI; rw [if_neg hn, e0]
      have E := Lib.hid e
      clear e hn r1 r2 e0
      have d : decide (k % 5 < 0) = false := by simp; omega
      go_enter Try.func57, Try.ntmps57
      go_wp2
      go_ret
      exact ⟨by rw [E.out]; rfl, (Below.refl _ _).alloc (Nat.le_refl _) _⟩
    · have e : kdI k = k.tmod 5 := by unfold kdI; rw [if_neg hn]
      have E := Lib.hid e
      clear e
      have d : decide (k.tmod 5 < 0) = false := by simpa using hn
      go_enter Try.func57, Try.ntmps57
      go_wp2
      go_ret
      exact ⟨by rw [E.out]; rfl, (Below.refl _ _).alloc (Nat.le_refl _) _⟩
/-- What a value encodes to. -/
def encV (t : Val) : List UInt8 :=
  if kdI t.kind = 0 then numE t.n else if kdI t.kind = 1 then intE t.n else if kdI t.kind = 2 then textE t.text else if kdI t.kind = 3 then listE t.texts else numsE t.nums
/-- The Value at P, with its slices' cells, in blocks below top. -/
def At (w : World) (top : Nat) (P : Addr) (t : Val) : Prop := P.block < top ∧ ∃ T cT N cN, w.cell? P = some (.int .i64 t.kind) ∧ w.cell? ⟨P.block, P.off + 1, none⟩ = some (.int .i64 t.n) ∧
  w.cell? ⟨P.block, P.off + 2, none⟩ = some (.string (mk t.text)) ∧ w.cell? ⟨P.block, P.off + 3, none⟩ = some (.slice T t.texts.length cT) ∧ w.cell? ⟨P.block, P.off + 4, none⟩ = some (.slice N t.nums.length cN) ∧
  Row w top T (strs t.texts) ∧ Row w top N (ints t.nums)
def Vals (w : World) (top : Nat) (A : Option Addr) (l : List Val) : Prop := ∀ k t, l[k]? = some t → ∃ a, A = some a ∧ At w top (a.add (k * 5)) t
theorem At.below {w w' : World} {top : Nat} {P : Addr} {t : Val} (h : At w top P t) (hb : Below top w w') : At w' top P t := by
  obtain ⟨h0, T, cT, N, cN, h1, h2, h3, h4, h5, h6, h7⟩ := h
  exact ⟨h0, T, cT, N, cN, (hb.cell (p := P) h0).trans h1, (hb.cell (p := ⟨P.block, P.off + 1, none⟩) h0).trans h2, (hb.cell (p := ⟨P.block, P.off + 2, none⟩) h0).trans h3,
    (hb.cell (p := ⟨P.block, P.off + 3, none⟩) h0).trans h4, (hb.cell (p := ⟨P.block, P.off + 4, none⟩) h0).trans h5, h6.below hb, h7.below hb⟩
theorem Vals.below {w w' : World} {top : Nat} {A : Option Addr} {l : List Val} (h : Vals w top A l) (hb : Below top w w') : Vals w' top A l := fun k t hk => by
  obtain ⟨a, h1, h2⟩ := h k t hk
  exact ⟨a, h1, h2.below hb⟩
theorem mk_append (a b : List UInt8) : mk a ++ mk b = mk (a ++ b) := by
  apply ByteArray.ext
  simp [mk]
/-- What the walks ask of a value's sizes. -/
def Sized (t : Val) : Prop := -9223372036854775808 ≤ t.kind ∧ t.kind ≤ 9223372036854775807 ∧ t.n < 9223372036854775808 ∧ t.texts.length < 4611686018427387904 ∧ t.nums.length < 4611686018427387904
theorem listE_eq (l : List (List UInt8)) : listE l = vint l.length ++ l.flatMap textE := rfl
theorem numsE_eq (l : List Int) : numsE l = vint l.length ++ l.flatMap intE := rfl
theorem Row.top {w : World} {t1 t2 : Nat} {A : Option Addr} {xs : List Value} (h : Row w t1 A xs) (ht : t1 ≤ t2) : Row w t2 A xs := fun k u hu => by
  obtain ⟨a, h1, h2, h3⟩ := h k u hu
  exact ⟨a, h1, by omega, h3⟩
theorem clistE_any (A : Option Addr) (c : Nat) (xs : List (List UInt8)) (w : World) (hr : Row w w.heap.size A (strs xs)) (hl : (xs.flatMap textE).length + 18 ≤ 140737488355328) (hx : xs.length < 9223372036854775808) :
    Calls Try.prog 17 #[.slice A xs.length c] w fun e w' => e = .returned (.string (mk (listE xs))) ∧ Below w.heap.size w w' := clist_any A c xs w hr hl hx
theorem cnumsE_any (A : Option Addr) (c : Nat) (xs : List Int) (w : World) (hr : Row w w.heap.size A (ints xs)) (hl : (xs.flatMap intE).length + 18 ≤ 140737488355328) (hx : xs.length < 9223372036854775808) :
    Calls Try.prog 19 #[.slice A xs.length c] w fun e w' => e = .returned (.string (mk (numsE xs))) ∧ Below w.heap.size w w' := cnums_any A c xs w hr hl hx
set_option maxHeartbeats 4000000 in
theorem enc_any (A : Option Addr) (cap : Nat) (l : List Val) (w : World) (h : Vals w w.heap.size A l) (hs : ∀ t ∈ l, Sized t) (hl : (l.flatMap encV).length ≤ 100000000000000) (hn : l.length < 4611686018427387904) :
    Calls Try.prog 42 #[.slice A l.length cap] w fun e w' => e = .returned (.string (mk (l.flatMap encV))) ∧ Below w.heap.size w w' := by
  have HV := Lib.hid h
  have HS := Lib.hid hs
  clear h hs
  go_enter Try.func42, Try.ntmps42
  go_wp2
  go_loopw [3, 4] (fun s i wr => ∃ k : Nat, k ≤ l.length ∧ i = .int .i64 k ∧ (∃ S, s = .string S ∧ S = mk ((l.take k).flatMap encV)) ∧ Below w.heap.size w wr) (fun _ i _ => l.length - (intOf i).toNat)
  case atStart => exact ⟨0, by omega, rfl, ⟨_, rfl, rfl⟩, Below.refl _ _⟩
  case round =>
    obtain ⟨k, hk, rfl, ⟨S, rfl, hS⟩, hb⟩ := hrel
    have ES := Lib.hid hS
    have HB := Lib.hid hb
    have hsz := hb.size
    clear hS hb
    by_cases hlt : k < l.length
    · have i1 : decide ((k : Int) < (l.length : Int)) = true := by simp; omega
      obtain ⟨t, ht⟩ : ∃ t, l[k] = t := ⟨_, rfl⟩
      obtain ⟨a, rfl, hat⟩ := HV.out k t (by rw [List.getElem?_eq_getElem hlt, ht])
      obtain ⟨hP, T, cT, N, cN, g0, g1, g2, g3, g4, rT, rN⟩ := hat.below HB.out
      obtain ⟨s1, s2, s3, s4, s5⟩ := HS.out t (by rw [← ht]; exact List.getElem_mem _)
      have hsn := flat_snoc encV l k hlt
      have hft := flat_take encV l (k + 1)
      rw [ht] at hsn
      have hel : (encV t).length ≤ 100000000000000 := by
        rw [hsn, List.length_append] at hft; omega
      have SN := Lib.hid hsn
      have RT := Lib.hid (rT.top hsz)
      have RN := Lib.hid (rN.top hsz)
      have hSz : S.size ≤ 100000000000000 := by
        have h1 := flat_take encV l k
        rw [ES.out, size_mk]; omega
      clear hsn hft ht hat rT rN
      have hr := kdI_range t.kind
      have K := fun W => kind_any t.kind (.int .i64 t.n) (.string (mk t.text)) (.slice T t.texts.length cT) (.slice N t.nums.length cN) W s1 s2
      by_cases hj : kdI t.kind = 0
      · have e : encV t = numE t.n := by unfold encV; simp [hj]
        rw [e] at SN hel
        rw [hj] at K
        have KK := Lib.hid K
        have hx : (mk (numE t.n)).size ≤ 100000000000000 := hel
        clear K hr e hj
        go_wp2_with fail
        refine (KK.out _).mono ?_
        rintro e w1 ⟨rfl, b1⟩
        have f1 := bw HB.out b1 hsz
        have z1 := f1.size
        have F1 := Lib.hid f1
        have q0 := (b1.cell (p := a.add (k * 5)) (by omega)).trans g0
        have q1 := (b1.cell (p := ⟨(a.add (k * 5)).block, (a.add (k * 5)).off + 1, none⟩) (by show (a.add (k * 5)).block < _; omega)).trans g1
        have q2 := (b1.cell (p := ⟨(a.add (k * 5)).block, (a.add (k * 5)).off + 2, none⟩) (by show (a.add (k * 5)).block < _; omega)).trans g2
        have q3 := (b1.cell (p := ⟨(a.add (k * 5)).block, (a.add (k * 5)).off + 3, none⟩) (by show (a.add (k * 5)).block < _; omega)).trans g3
        have q4 := (b1.cell (p := ⟨(a.add (k * 5)).block, (a.add (k * 5)).off + 4, none⟩) (by show (a.add (k * 5)).block < _; omega)).trans g4
        have B1 := Lib.hid b1
        clear b1 f1
        go_wp2_with fail
        refine (cnumE_any t.n w1 s3).mono ?_
        rintro e w2 ⟨rfl, b2⟩
        have B2 := Lib.hid b2
        clear b2
        go_wp2_with fail
        go_roundw
        case rel =>
          refine ⟨k + 1, by omega, by go_num, ⟨_, rfl, ?_⟩, bw F1.out B2.out z1⟩
          rw [ES.out, mk_append, SN.out]
        case measure => simp [intOf]; omega
      by_cases hj : kdI t.kind = 1
      · have e : encV t = intE t.n := by unfold encV; simp [hj]
        rw [e] at SN hel
        rw [hj] at K
        have KK := Lib.hid K
        have hx : (mk (intE t.n)).size ≤ 100000000000000 := hel
        clear K hr e hj
        go_wp2_with fail
        refine (KK.out _).mono ?_
        rintro e w1 ⟨rfl, b1⟩
        have f1 := bw HB.out b1 hsz
        have z1 := f1.size
        have F1 := Lib.hid f1
        have q0 := (b1.cell (p := a.add (k * 5)) (by omega)).trans g0
        have q1 := (b1.cell (p := ⟨(a.add (k * 5)).block, (a.add (k * 5)).off + 1, none⟩) (by show (a.add (k * 5)).block < _; omega)).trans g1
        have q2 := (b1.cell (p := ⟨(a.add (k * 5)).block, (a.add (k * 5)).off + 2, none⟩) (by show (a.add (k * 5)).block < _; omega)).trans g2
        have q3 := (b1.cell (p := ⟨(a.add (k * 5)).block, (a.add (k * 5)).off + 3, none⟩) (by show (a.add (k * 5)).block < _; omega)).trans g3
        have q4 := (b1.cell (p := ⟨(a.add (k * 5)).block, (a.add (k * 5)).off + 4, none⟩) (by show (a.add (k * 5)).block < _; omega)).trans g4
        have B1 := Lib.hid b1
        clear b1 f1
        go_wp2_with fail
        refine (cint_any t.n w1).mono ?_
        rintro e w2 ⟨rfl, b2⟩
        have B2 := Lib.hid b2
        clear b2
        go_wp2_with fail
        go_roundw
        case rel =>
          refine ⟨k + 1, by omega, by go_num, ⟨_, rfl, ?_⟩, bw F1.out B2.out z1⟩
          rw [ES.out, mk_append, SN.out]
        case measure => simp [intOf]; omega
      by_cases hj : kdI t.kind = 2
      · have e : encV t = textE t.text := by unfold encV; simp [hj]
        rw [e] at SN hel
        rw [hj] at K
        have KK := Lib.hid K
        have hx : (mk (textE t.text)).size ≤ 100000000000000 := hel
        clear K hr e hj
        go_wp2_with fail
        refine (KK.out _).mono ?_
        rintro e w1 ⟨rfl, b1⟩
        have f1 := bw HB.out b1 hsz
        have z1 := f1.size
        have F1 := Lib.hid f1
        have q0 := (b1.cell (p := a.add (k * 5)) (by omega)).trans g0
        have q1 := (b1.cell (p := ⟨(a.add (k * 5)).block, (a.add (k * 5)).off + 1, none⟩) (by show (a.add (k * 5)).block < _; omega)).trans g1
        have q2 := (b1.cell (p := ⟨(a.add (k * 5)).block, (a.add (k * 5)).off + 2, none⟩) (by show (a.add (k * 5)).block < _; omega)).trans g2
        have q3 := (b1.cell (p := ⟨(a.add (k * 5)).block, (a.add (k * 5)).off + 3, none⟩) (by show (a.add (k * 5)).block < _; omega)).trans g3
        have q4 := (b1.cell (p := ⟨(a.add (k * 5)).block, (a.add (k * 5)).off + 4, none⟩) (by show (a.add (k * 5)).block < _; omega)).trans g4
        have B1 := Lib.hid b1
        clear b1 f1
        go_wp2_with fail
        refine (ctext_any t.text w1 (by have := text_lt t.text; omega)).mono ?_
        rintro e w2 ⟨rfl, b2⟩
        have B2 := Lib.hid b2
        clear b2
        go_wp2_with fail
        go_roundw
        case rel =>
          refine ⟨k + 1, by omega, by go_num, ⟨_, rfl, ?_⟩, bw F1.out B2.out z1⟩
          rw [ES.out, mk_append, SN.out]
        case measure => simp [intOf]; omega
      by_cases hj : kdI t.kind = 3
      · have e : encV t = listE t.texts := by unfold encV; simp [hj]
        rw [e] at SN hel
        rw [hj] at K
        have KK := Lib.hid K
        have hx : (mk (listE t.texts)).size ≤ 100000000000000 := hel
        clear K hr e hj
        go_wp2_with fail
        refine (KK.out _).mono ?_
        rintro e w1 ⟨rfl, b1⟩
        have f1 := bw HB.out b1 hsz
        have z1 := f1.size
        have F1 := Lib.hid f1
        have q0 := (b1.cell (p := a.add (k * 5)) (by omega)).trans g0
        have q1 := (b1.cell (p := ⟨(a.add (k * 5)).block, (a.add (k * 5)).off + 1, none⟩) (by show (a.add (k * 5)).block < _; omega)).trans g1
        have q2 := (b1.cell (p := ⟨(a.add (k * 5)).block, (a.add (k * 5)).off + 2, none⟩) (by show (a.add (k * 5)).block < _; omega)).trans g2
        have q3 := (b1.cell (p := ⟨(a.add (k * 5)).block, (a.add (k * 5)).off + 3, none⟩) (by show (a.add (k * 5)).block < _; omega)).trans g3
        have q4 := (b1.cell (p := ⟨(a.add (k * 5)).block, (a.add (k * 5)).off + 4, none⟩) (by show (a.add (k * 5)).block < _; omega)).trans g4
        have B1 := Lib.hid b1
        clear b1 f1
        go_wp2_with fail
        refine (clistE_any T cT t.texts w1 ((RT.out.below (B1.out)).top B1.out.size) (by rw [listE_eq, List.length_append] at hel; omega) (by omega)).mono ?_
        rintro e w2 ⟨rfl, b2⟩
        have B2 := Lib.hid b2
        clear b2
        go_wp2_with fail
        go_roundw
        case rel =>
          refine ⟨k + 1, by omega, by go_num, ⟨_, rfl, ?_⟩, bw F1.out B2.out z1⟩
          rw [ES.out, mk_append, SN.out]
        case measure => simp [intOf]; omega
      have hj : kdI t.kind = 4 := by omega
      have e : encV t = numsE t.nums := by unfold encV; simp [hj]
      rw [e] at SN hel
      rw [hj] at K
      have KK := Lib.hid K
      have hx : (mk (numsE t.nums)).size ≤ 100000000000000 := hel
      clear K hr e hj
      go_wp2_with fail
      refine (KK.out _).mono ?_
      rintro e w1 ⟨rfl, b1⟩
      have f1 := bw HB.out b1 hsz
      have z1 := f1.size
      have F1 := Lib.hid f1
      have q0 := (b1.cell (p := a.add (k * 5)) (by omega)).trans g0
      have q1 := (b1.cell (p := ⟨(a.add (k * 5)).block, (a.add (k * 5)).off + 1, none⟩) (by show (a.add (k * 5)).block < _; omega)).trans g1
      have q2 := (b1.cell (p := ⟨(a.add (k * 5)).block, (a.add (k * 5)).off + 2, none⟩) (by show (a.add (k * 5)).block < _; omega)).trans g2
      have q3 := (b1.cell (p := ⟨(a.add (k * 5)).block, (a.add (k * 5)).off + 3, none⟩) (by show (a.add (k * 5)).block < _; omega)).trans g3
      have q4 := (b1.cell (p := ⟨(a.add (k * 5)).block, (a.add (k * 5)).off + 4, none⟩) (by show (a.add (k * 5)).block < _; omega)).trans g4
      have B1 := Lib.hid b1
      clear b1 f1
      go_wp2_with fail
      refine (cnumsE_any N cN t.nums w1 ((RN.out.below (B1.out)).top B1.out.size) (by rw [numsE_eq, List.length_append] at hel; omega) (by omega)).mono ?_
      rintro e w2 ⟨rfl, b2⟩
      have B2 := Lib.hid b2
      clear b2
      go_wp2_with fail
      go_roundw
      case rel =>
        refine ⟨k + 1, by omega, by go_num, ⟨_, rfl, ?_⟩, bw F1.out B2.out z1⟩
        rw [ES.out, mk_append, SN.out]
      case measure => simp [intOf]; omega
    · have i1 : decide ((k : Int) < (l.length : Int)) = false := by simp; omega
      have i2 : decide (k < l.length) = false := by simp; omega
      have hk : k = l.length := by omega
      have HK := Lib.hid hk
      clear hk
      go_wp2
      go_ret
      refine ⟨?_, HB.out⟩
      have := ES.out
      rw [HK.out, List.take_length] at this
      rw [← this]
      rfl
end Go.Proofs.Ytjomkfiepmeplaa
