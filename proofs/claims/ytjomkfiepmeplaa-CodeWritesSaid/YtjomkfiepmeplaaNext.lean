/-
  next and read: a value's encoding read back; and what reading a value leaves.
-/
import Derived.Test.YtjomkfiepmeplaaValid
import Derived.Deep.RegionWith
namespace Go.Proofs.Ytjomkfiepmeplaa
open Go.RowKit
theorem Row.kept {w w' : World} {top b : Nat} {A : Option Addr} {xs : List Value} (h : Row w top A xs) (hg : w.grownBy w' (some b)) (hb : top ≤ b) (_ : top ≤ w.heap.size) : Row w' top A xs := fun k u hu => by
  obtain ⟨a, h1, h2, h3⟩ := h k u hu
  refine ⟨a, h1, h2, hg.cell h3 ?_⟩
  rw [add_block]
  simp
  omega
theorem grown_of_drew {w w' : World} {r : Option Nat} (h : w.drew.grownBy w' r) : w.grownBy w' r := ⟨h.os, h.tape, h.output, h.size, h.block⟩
theorem samet_refl (A B : Option Addr) (c d t1 t2 : Nat) (xs : List (List UInt8)) (w : World) (ha : Row w t1 A (strs xs)) (hb : Row w t2 B (strs xs)) (h1 : xs.length < 9223372036854775807) :
    Calls Try.prog 29 #[.slice A xs.length c, .slice B xs.length d] w fun e w' => e = .returned (.bool true) ∧ Below w.heap.size w w' := by
  have := samet_any A B c d t1 t2 xs xs w ha hb h1 h1
  rw [show decide (xs = xs) = true from decide_eq_true rfl] at this
  exact this.mono fun e w' ⟨h1, j, h2⟩ => ⟨h1, by rw [h2]; exact below_drew (Below.refl _ _) j⟩
theorem samei_refl (A B : Option Addr) (c d t1 t2 : Nat) (xs : List Int) (w : World) (ha : Row w t1 A (ints xs)) (hb : Row w t2 B (ints xs)) (h1 : xs.length < 9223372036854775807) :
    Calls Try.prog 32 #[.slice A xs.length c, .slice B xs.length d] w fun e w' => e = .returned (.bool true) ∧ Below w.heap.size w w' := by
  have := samei_any A B c d t1 t2 xs xs w ha hb h1 h1
  rw [show decide (xs = xs) = true from decide_eq_true rfl] at this
  exact this.mono fun e w' ⟨h1, j, h2⟩ => ⟨h1, by rw [h2]; exact below_drew (Below.refl _ _) j⟩
theorem own_ext {w w' : World} {base : Nat} {e : TypeId} {v : Value} {n : Nat} {xs : List Value} (h : w.ownsRow base e 1 v n xs) (hb : Below w.heap.size w w') : w'.ownsRow base e 1 v n xs :=
  h.kept (row := none) (grown_of_below hb) (by cases v.ownBlock <;> simp)

set_option maxHeartbeats 1000000 in
theorem next0 (b : Nat) (t : Val) (T N : Option Addr) (cT cN : Nat) (r : List UInt8) (w : World) (h : Rd w b 62 (some (encV t ++ r))) (hl : (encV t ++ r).length ≤ 1000000000) (hs : Sized t) (hk : kdI t.kind = 0) (hn : 0 ≤ t.n) :
    Calls Try.prog 43 #[.pointer (some ⟨b, 0, none⟩), .agg #[.int .i64 t.kind, .int .i64 t.n, .string (mk t.text), .slice T t.texts.length cT, .slice N t.nums.length cN]] w fun e w' => e = .returned (.bool true) ∧ Rd w' b 62 (some r) ∧ w.grownBy w' (some b) := by
  have e : encV t = vint t.n.toNat := by unfold encV numE; rw [if_pos hk, if_neg (by omega)]
  have C := fun W (hW : Rd W b 62 (some (encV t ++ r))) => num_any b _ W hW hl
  rw [e, rNum_vint _ _ (by have := hs.2.2.1; omega)] at C
  simp only [Int.toNat_of_nonneg hn] at C
  rw [← e] at C
  have CC := Lib.hid C
  have K := fun W => kind_any t.kind (.int .i64 t.n) (.string (mk t.text)) (.slice T t.texts.length cT) (.slice N t.nums.length cN) W hs.1 hs.2.1
  rw [hk] at K
  have KK := Lib.hid K
  have H := Lib.hid h
  have hb := h.lt
  clear C K h hk e hs hl
  go_enter Try.func43, Try.ntmps43
  go_wp2_with fail
  refine (KK.out _).mono ?_
  rintro e w1 ⟨rfl, b1⟩
  have hz : w.heap.size < w1.heap.size := by have := b1.size; simp at this; omega
  have HI := Lib.hid ((Is.fresh w 47 _).below b1 (by simp))
  have HR := Lib.hid (Is.below (Is.alloc H.out _) b1 (by simp; omega))
  have G1 := Lib.hid (((Below.refl w.heap.size w).alloc (Nat.le_refl _) _).trans (b1.mono (by simp)))
  have c1 : w1.cell? ⟨w.heap.size, 1, none⟩ = some (.int .i64 t.n) := HI.out.at_ 1
  clear b1
  go_wp2_with fail
  go_region_with (go_at_call 23; refine (CC.out w1.drew HR.out).mono ?_; rintro e w2 ⟨rfl, h2, g2'⟩; have g2 := grown_of_drew g2'; clear g2'; have c2 : w2.cell? ⟨w.heap.size, 1, none⟩ = some (.int .i64 t.n) := (HI.out.kept g2 (by simp; omega)).at_ 1; have H2 := Lib.hid h2; have G2 := Lib.hid g2; clear h2 g2)
  all_goals
    go_wp2
    go_ret
    exact ⟨rfl, H2.out, grown_trans (grown_of_below G1.out) G2.out (.inl rfl)⟩

set_option maxHeartbeats 1000000 in
theorem next1 (b : Nat) (t : Val) (T N : Option Addr) (cT cN : Nat) (r : List UInt8) (w : World) (h : Rd w b 62 (some (encV t ++ r))) (hl : (encV t ++ r).length ≤ 1000000000) (hs : Sized t) (hk : kdI t.kind = 1) (hn : inR t.n = true) :
    Calls Try.prog 43 #[.pointer (some ⟨b, 0, none⟩), .agg #[.int .i64 t.kind, .int .i64 t.n, .string (mk t.text), .slice T t.texts.length cT, .slice N t.nums.length cN]] w fun e w' => e = .returned (.bool true) ∧ Rd w' b 62 (some r) ∧ w.grownBy w' (some b) := by
  have e : encV t = intE t.n := by unfold encV; rw [if_neg (by omega), if_pos hk]
  have C := fun W (hW : Rd W b 62 (some (encV t ++ r))) => int_any b _ W hW hl
  rw [e, rInt_intE _ _ hn] at C
  rw [← e] at C
  have CC := Lib.hid C
  have K := fun W => kind_any t.kind (.int .i64 t.n) (.string (mk t.text)) (.slice T t.texts.length cT) (.slice N t.nums.length cN) W hs.1 hs.2.1
  rw [hk] at K
  have KK := Lib.hid K
  have H := Lib.hid h
  have hb := h.lt
  clear C K h hk e hs hl
  go_enter Try.func43, Try.ntmps43
  go_wp2_with fail
  refine (KK.out _).mono ?_
  rintro e w1 ⟨rfl, b1⟩
  have hz : w.heap.size < w1.heap.size := by have := b1.size; simp at this; omega
  have HI := Lib.hid ((Is.fresh w 47 _).below b1 (by simp))
  have HR := Lib.hid (Is.below (Is.alloc H.out _) b1 (by simp; omega))
  have G1 := Lib.hid (((Below.refl w.heap.size w).alloc (Nat.le_refl _) _).trans (b1.mono (by simp)))
  have c1 : w1.cell? ⟨w.heap.size, 1, none⟩ = some (.int .i64 t.n) := HI.out.at_ 1
  clear b1
  go_wp2_with fail
  go_region_with (go_at_call 25; refine (CC.out w1.drew HR.out).mono ?_; rintro e w2 ⟨rfl, h2, g2'⟩; have g2 := grown_of_drew g2'; clear g2'; have c2 : w2.cell? ⟨w.heap.size, 1, none⟩ = some (.int .i64 t.n) := (HI.out.kept g2 (by simp; omega)).at_ 1; have H2 := Lib.hid h2; have G2 := Lib.hid g2; clear h2 g2)
  all_goals
    go_wp2
    go_ret
    exact ⟨rfl, H2.out, grown_trans (grown_of_below G1.out) G2.out (.inl rfl)⟩

set_option maxHeartbeats 1000000 in
theorem next2 (b : Nat) (t : Val) (T N : Option Addr) (cT cN : Nat) (r : List UInt8) (w : World) (h : Rd w b 62 (some (encV t ++ r))) (hl : (encV t ++ r).length ≤ 1000000000) (hs : Sized t) (hk : kdI t.kind = 2) (hn : t.text.length < 9223372036854775808) :
    Calls Try.prog 43 #[.pointer (some ⟨b, 0, none⟩), .agg #[.int .i64 t.kind, .int .i64 t.n, .string (mk t.text), .slice T t.texts.length cT, .slice N t.nums.length cN]] w fun e w' => e = .returned (.bool true) ∧ Rd w' b 62 (some r) ∧ w.grownBy w' (some b) := by
  have e : encV t = textE t.text := by unfold encV; rw [if_neg (by omega), if_neg (by omega), if_pos hk]
  have C := fun W (hW : Rd W b 62 (some (encV t ++ r))) => text_any b _ W hW hl
  rw [e, rText_textE _ _ hn] at C
  rw [← e] at C
  have CC := Lib.hid C
  have K := fun W => kind_any t.kind (.int .i64 t.n) (.string (mk t.text)) (.slice T t.texts.length cT) (.slice N t.nums.length cN) W hs.1 hs.2.1
  rw [hk] at K
  have KK := Lib.hid K
  have H := Lib.hid h
  have hb := h.lt
  clear C K h hk e hs hl
  go_enter Try.func43, Try.ntmps43
  go_wp2_with fail
  refine (KK.out _).mono ?_
  rintro e w1 ⟨rfl, b1⟩
  have hz : w.heap.size < w1.heap.size := by have := b1.size; simp at this; omega
  have HI := Lib.hid ((Is.fresh w 47 _).below b1 (by simp))
  have HR := Lib.hid (Is.below (Is.alloc H.out _) b1 (by simp; omega))
  have G1 := Lib.hid (((Below.refl w.heap.size w).alloc (Nat.le_refl _) _).trans (b1.mono (by simp)))
  have c1 : w1.cell? ⟨w.heap.size, 2, none⟩ = some (.string (mk t.text)) := HI.out.at_ 2
  clear b1
  go_wp2_with fail
  go_region_with (go_at_call 27; refine (CC.out w1.drew HR.out).mono ?_; rintro e w2 ⟨rfl, h2, g2'⟩; have g2 := grown_of_drew g2'; clear g2'; have c2 : w2.cell? ⟨w.heap.size, 2, none⟩ = some (.string (mk t.text)) := (HI.out.kept g2 (by simp; omega)).at_ 2; have H2 := Lib.hid h2; have G2 := Lib.hid g2; clear h2 g2)
  all_goals
    go_wp2
    go_ret
    exact ⟨rfl, H2.out, grown_trans (grown_of_below G1.out) G2.out (.inl rfl)⟩

set_option maxHeartbeats 1000000 in
theorem next3 (b : Nat) (t : Val) (T N : Option Addr) (cT cN : Nat) (r : List UInt8) (w : World) (h : Rd w b 62 (some (encV t ++ r))) (hl : (encV t ++ r).length ≤ 1000000000) (hs : Sized t) (hk : kdI t.kind = 3) (hn : ∀ s ∈ t.texts, s.length < 9223372036854775808) (top : Nat) (hrow : Row w top T (strs t.texts)) (htop : top ≤ w.heap.size) (htb : top ≤ b) :
    Calls Try.prog 43 #[.pointer (some ⟨b, 0, none⟩), .agg #[.int .i64 t.kind, .int .i64 t.n, .string (mk t.text), .slice T t.texts.length cT, .slice N t.nums.length cN]] w fun e w' => e = .returned (.bool true) ∧ Rd w' b 62 (some r) ∧ w.grownBy w' (some b) := by
  have e : encV t = listE t.texts := by unfold encV; rw [if_neg (by omega), if_neg (by omega), if_neg (by omega), if_pos hk]
  have C := fun W (hW : Rd W b 62 (some (encV t ++ r))) => list_any b _ W hW hl
  rw [e, show rSeq rText (some (listE t.texts ++ r)) = (t.texts, some r) from rList_listE t.texts r hn (by have := hs.2.2.2.1; omega)] at C
  have hlen : t.texts.length < 9223372036854775807 := by have := hs.2.2.2.1; omega
  have ROW := Lib.hid hrow
  clear hrow
  rw [← e] at C
  have CC := Lib.hid C
  have K := fun W => kind_any t.kind (.int .i64 t.n) (.string (mk t.text)) (.slice T t.texts.length cT) (.slice N t.nums.length cN) W hs.1 hs.2.1
  rw [hk] at K
  have KK := Lib.hid K
  have H := Lib.hid h
  have hb := h.lt
  clear C K h hk e hs hl
  go_enter Try.func43, Try.ntmps43
  go_wp2_with fail
  refine (KK.out _).mono ?_
  rintro e w1 ⟨rfl, b1⟩
  have hz : w.heap.size < w1.heap.size := by have := b1.size; simp at this; omega
  have HI := Lib.hid ((Is.fresh w 47 _).below b1 (by simp))
  have HR := Lib.hid (Is.below (Is.alloc H.out _) b1 (by simp; omega))
  have G1 := Lib.hid (((Below.refl w.heap.size w).alloc (Nat.le_refl _) _).trans (b1.mono (by simp)))
  have c1 : w1.cell? ⟨w.heap.size, 3, none⟩ = some (.slice T t.texts.length cT) := HI.out.at_ 3
  clear b1
  go_wp2_with fail
  go_region_with (first
    | (go_at_call 30; refine (CC.out w1.drew HR.out).mono ?_; rintro e w2 ⟨v, rfl, o2, h2, g2'⟩; obtain ⟨A, c, rfl, -, rA⟩ := Row.of_own o2; have g2 := grown_of_drew g2'; clear g2' o2; have c2 : w2.cell? ⟨w.heap.size, 3, none⟩ = some (.slice T t.texts.length cT) := (HI.out.kept g2 (by simp; omega)).at_ 3; have H2 := Lib.hid h2; have G2 := Lib.hid g2; have RA := Lib.hid rA; clear h2 g2 rA)
    | (go_at_call 29; refine (samet_refl A T c cT _ _ t.texts w2 RA.out (((ROW.out.below (G1.out.mono htop)).kept G2.out htb (by omega))) hlen).mono ?_; rintro e w3 ⟨rfl, b3⟩; have B3 := Lib.hid b3; clear b3))
  all_goals
    go_wp2
    go_ret
    have z1 := G1.out.size
    have z2 := G2.out.size
    exact ⟨rfl, H2.out.below B3.out (by omega), grown_below (grown_trans (grown_of_below G1.out) G2.out (.inl rfl)) (B3.out.mono (by omega))⟩

set_option maxHeartbeats 1000000 in
theorem next4 (b : Nat) (t : Val) (T N : Option Addr) (cT cN : Nat) (r : List UInt8) (w : World) (h : Rd w b 62 (some (encV t ++ r))) (hl : (encV t ++ r).length ≤ 1000000000) (hs : Sized t) (hk : kdI t.kind = 4) (hn : ∀ n ∈ t.nums, inR n = true) (top : Nat) (hrow : Row w top N (ints t.nums)) (htop : top ≤ w.heap.size) (htb : top ≤ b) :
    Calls Try.prog 43 #[.pointer (some ⟨b, 0, none⟩), .agg #[.int .i64 t.kind, .int .i64 t.n, .string (mk t.text), .slice T t.texts.length cT, .slice N t.nums.length cN]] w fun e w' => e = .returned (.bool true) ∧ Rd w' b 62 (some r) ∧ w.grownBy w' (some b) := by
  have e : encV t = numsE t.nums := by unfold encV; rw [if_neg (by omega), if_neg (by omega), if_neg (by omega), if_neg (by omega)]
  have C := fun W (hW : Rd W b 62 (some (encV t ++ r))) => nums_any b _ W hW hl
  rw [e, show rSeq rInt (some (numsE t.nums ++ r)) = (t.nums, some r) from rNums_numsE t.nums r hn (by have := hs.2.2.2.2; omega)] at C
  have hlen : t.nums.length < 9223372036854775807 := by have := hs.2.2.2.2; omega
  have ROW := Lib.hid hrow
  clear hrow
  rw [← e] at C
  have CC := Lib.hid C
  have K := fun W => kind_any t.kind (.int .i64 t.n) (.string (mk t.text)) (.slice T t.texts.length cT) (.slice N t.nums.length cN) W hs.1 hs.2.1
  rw [hk] at K
  have KK := Lib.hid K
  have H := Lib.hid h
  have hb := h.lt
  clear C K h hk e hs hl
  go_enter Try.func43, Try.ntmps43
  go_wp2_with fail
  refine (KK.out _).mono ?_
  rintro e w1 ⟨rfl, b1⟩
  have hz : w.heap.size < w1.heap.size := by have := b1.size; simp at this; omega
  have HI := Lib.hid ((Is.fresh w 47 _).below b1 (by simp))
  have HR := Lib.hid (Is.below (Is.alloc H.out _) b1 (by simp; omega))
  have G1 := Lib.hid (((Below.refl w.heap.size w).alloc (Nat.le_refl _) _).trans (b1.mono (by simp)))
  have c1 : w1.cell? ⟨w.heap.size, 4, none⟩ = some (.slice N t.nums.length cN) := HI.out.at_ 4
  clear b1
  go_wp2_with fail
  go_region_with (first
    | (go_at_call 33; refine (CC.out w1.drew HR.out).mono ?_; rintro e w2 ⟨v, rfl, o2, h2, g2'⟩; obtain ⟨A, c, rfl, -, rA⟩ := Row.of_own o2; have g2 := grown_of_drew g2'; clear g2' o2; have c2 : w2.cell? ⟨w.heap.size, 4, none⟩ = some (.slice N t.nums.length cN) := (HI.out.kept g2 (by simp; omega)).at_ 4; have H2 := Lib.hid h2; have G2 := Lib.hid g2; have RA := Lib.hid rA; clear h2 g2 rA)
    | (go_at_call 32; refine (samei_refl A N c cN _ _ t.nums w2 RA.out (((ROW.out.below (G1.out.mono htop)).kept G2.out htb (by omega))) hlen).mono ?_; rintro e w3 ⟨rfl, b3⟩; have B3 := Lib.hid b3; clear b3))
  all_goals
    go_wp2
    go_ret
    have z1 := G1.out.size
    have z2 := G2.out.size
    exact ⟨rfl, H2.out.below B3.out (by omega), grown_below (grown_trans (grown_of_below G1.out) G2.out (.inl rfl)) (B3.out.mono (by omega))⟩
end Go.Proofs.Ytjomkfiepmeplaa
