/-
  read: a value of a kind decoded into its field.
-/
import Derived.Test.YtjomkfiepmeplaaBack
import Derived.Handy
namespace Go.Proofs.Ytjomkfiepmeplaa
open Go.RowKit
theorem own_mono {w : World} {base base' : Nat} {e : TypeId} {size n : Nat} {v : Value} {xs : List Value} (h : w.ownsRow base e size v n xs) (hb : base' ≤ base) : w.ownsRow base' e size v n xs := by
  obtain ⟨h1, h2⟩ := h
  refine ⟨h1, ?_⟩
  rcases h2 with h2 | ⟨g, cap, cur, hv, hg, rest⟩
  · exact .inl h2
  · exact .inr ⟨g, cap, cur, hv, by omega, rest⟩
theorem is_far {w : World} {g b : Nat} {t : TypeId} {c : Array Value} (h : Is w b t c) (i : Nat) (u : Value) (hg : b ≠ g) : Is (w.setCell ⟨g, i, none⟩ u) b t c := h.away (a := ⟨g, i, none⟩) hg u

set_option maxHeartbeats 1000000 in
theorem read0 (b : Nat) (k n : Int) (s : ByteArray) (T N : Option Addr) (a c p q : Nat) (st : St) (w : World) (h : Rd w b 62 st) (hl : (rest st).length ≤ 1000000000) (h1 : -9223372036854775808 ≤ k) (h2 : k ≤ 9223372036854775807) (hk : kdI k = 0) :
    Calls Try.prog 44 #[.pointer (some ⟨b, 0, none⟩), .agg #[.int .i64 k, .int .i64 n, .string s, .slice T a c, .slice N p q]] w fun e w' => e = .returned (.agg #[.int .i64 k, .int .i64 ((rNum st).1 : Nat), .string s, .slice T a c, .slice N p q]) ∧ Rd w' b 62 (rNum st).2 ∧ w.grownBy w' (some b) := by
  have C := fun W (hW : Rd W b 62 st) => num_any b st W hW hl
  have CC := Lib.hid C
  have K := fun W => kind_any k (.int .i64 n) (.string s) (.slice T a c) (.slice N p q) W h1 h2
  rw [hk] at K
  have KK := Lib.hid K
  have H := Lib.hid h
  have hb := h.lt
  clear C K h hk hl h1 h2
  go_enter Try.func44, Try.ntmps44
  go_wp2_with fail
  refine (KK.out _).mono ?_
  rintro e w1 ⟨rfl, b1⟩
  have hz : w.heap.size + 1 < w1.heap.size := by have := b1.size; simp at this; omega
  have HI := Lib.hid (((Is.fresh w 47 _).alloc _).below b1 (by simp; try omega))
  have HJ := Lib.hid ((Is.fresh (w.alloc _) 47 _).below b1 (by simp; try omega))
  have HR := Lib.hid (Is.below (Is.alloc (Is.alloc H.out _) _) b1 (by simp; omega))
  have G1 := Lib.hid ((((Below.refl w.heap.size w).alloc (Nat.le_refl _) _).alloc (by simp) _).trans (b1.mono (by simp; omega)))
  clear b1
  go_wp2_with fail
  refine (CC.out _ HR.out).mono ?_
  rintro e w2 ⟨rfl, h2, g2⟩
  have I2 := HI.out.kept g2 (by simp; omega)
  have J2 := HJ.out.kept g2 (by simp; omega)

  simp only [World.size_alloc] at J2
  have x0 := I2.at_ 0
  have x1 := I2.at_ 1
  have x2 := I2.at_ 2
  have x3 := I2.at_ 3
  have x4 := I2.at_ 4
  have y0 := J2.at_ 0
  have y1 := J2.at_ 1
  have y2 := J2.at_ 2
  have y3 := J2.at_ 3
  have y4 := J2.at_ 4
  have fx := I2.open_ 1
  have fy0 := J2.open_ 0
  have fy1 := J2.open_ 1
  have fy2 := J2.open_ 2
  have fy3 := J2.open_ 3
  have fy4 := J2.open_ 4
  simp at x0 x1 x2 x3 x4 y0 y1 y2 y3 y4
  have H2 := Lib.hid h2
  have G2 := Lib.hid g2
  clear h2 g2 I2 J2
  go_wp2_with fail
  refine bodyPost_ret (v := .agg #[.int .i64 k, .int .i64 ((rNum st).1 : Nat), .string s, .slice T a c, .slice N p q]) (by simp [results, Try.results44, go_sem, y0, y1, y2, y3, y4]) rfl ⟨rfl, ?_, ?_⟩
  · exact is_far (is_far (is_far (is_far (is_far (is_far (H2.out) _ _ (by omega)) _ _ (by omega)) _ _ (by omega)) _ _ (by omega)) _ _ (by omega)) _ _ (by omega)
  · refine grown_below (grown_trans (grown_of_below G1.out) G2.out (.inl rfl)) ?_
    go_grown

set_option maxHeartbeats 1000000 in
theorem read1 (b : Nat) (k n : Int) (s : ByteArray) (T N : Option Addr) (a c p q : Nat) (st : St) (w : World) (h : Rd w b 62 st) (hl : (rest st).length ≤ 1000000000) (h1 : -9223372036854775808 ≤ k) (h2 : k ≤ 9223372036854775807) (hk : kdI k = 1) :
    Calls Try.prog 44 #[.pointer (some ⟨b, 0, none⟩), .agg #[.int .i64 k, .int .i64 n, .string s, .slice T a c, .slice N p q]] w fun e w' => e = .returned (.agg #[.int .i64 k, .int .i64 (rInt st).1, .string s, .slice T a c, .slice N p q]) ∧ Rd w' b 62 (rInt st).2 ∧ w.grownBy w' (some b) := by
  have C := fun W (hW : Rd W b 62 st) => int_any b st W hW hl
  have CC := Lib.hid C
  have K := fun W => kind_any k (.int .i64 n) (.string s) (.slice T a c) (.slice N p q) W h1 h2
  rw [hk] at K
  have KK := Lib.hid K
  have H := Lib.hid h
  have hb := h.lt
  clear C K h hk hl h1 h2
  go_enter Try.func44, Try.ntmps44
  go_wp2_with fail
  refine (KK.out _).mono ?_
  rintro e w1 ⟨rfl, b1⟩
  have hz : w.heap.size + 1 < w1.heap.size := by have := b1.size; simp at this; omega
  have HI := Lib.hid (((Is.fresh w 47 _).alloc _).below b1 (by simp; try omega))
  have HJ := Lib.hid ((Is.fresh (w.alloc _) 47 _).below b1 (by simp; try omega))
  have HR := Lib.hid (Is.below (Is.alloc (Is.alloc H.out _) _) b1 (by simp; omega))
  have G1 := Lib.hid ((((Below.refl w.heap.size w).alloc (Nat.le_refl _) _).alloc (by simp) _).trans (b1.mono (by simp; omega)))
  clear b1
  go_wp2_with fail
  refine (CC.out _ HR.out).mono ?_
  rintro e w2 ⟨rfl, h2, g2⟩
  have I2 := HI.out.kept g2 (by simp; omega)
  have J2 := HJ.out.kept g2 (by simp; omega)

  simp only [World.size_alloc] at J2
  have x0 := I2.at_ 0
  have x1 := I2.at_ 1
  have x2 := I2.at_ 2
  have x3 := I2.at_ 3
  have x4 := I2.at_ 4
  have y0 := J2.at_ 0
  have y1 := J2.at_ 1
  have y2 := J2.at_ 2
  have y3 := J2.at_ 3
  have y4 := J2.at_ 4
  have fx := I2.open_ 1
  have fy0 := J2.open_ 0
  have fy1 := J2.open_ 1
  have fy2 := J2.open_ 2
  have fy3 := J2.open_ 3
  have fy4 := J2.open_ 4
  simp at x0 x1 x2 x3 x4 y0 y1 y2 y3 y4
  have H2 := Lib.hid h2
  have G2 := Lib.hid g2
  clear h2 g2 I2 J2
  go_wp2_with fail
  refine bodyPost_ret (v := .agg #[.int .i64 k, .int .i64 (rInt st).1, .string s, .slice T a c, .slice N p q]) (by simp [results, Try.results44, go_sem, y0, y1, y2, y3, y4]) rfl ⟨rfl, ?_, ?_⟩
  · exact is_far (is_far (is_far (is_far (is_far (is_far (H2.out) _ _ (by omega)) _ _ (by omega)) _ _ (by omega)) _ _ (by omega)) _ _ (by omega)) _ _ (by omega)
  · refine grown_below (grown_trans (grown_of_below G1.out) G2.out (.inl rfl)) ?_
    go_grown

set_option maxHeartbeats 1000000 in
theorem read2 (b : Nat) (k n : Int) (s : ByteArray) (T N : Option Addr) (a c p q : Nat) (st : St) (w : World) (h : Rd w b 62 st) (hl : (rest st).length ≤ 1000000000) (h1 : -9223372036854775808 ≤ k) (h2 : k ≤ 9223372036854775807) (hk : kdI k = 2) :
    Calls Try.prog 44 #[.pointer (some ⟨b, 0, none⟩), .agg #[.int .i64 k, .int .i64 n, .string s, .slice T a c, .slice N p q]] w fun e w' => e = .returned (.agg #[.int .i64 k, .int .i64 n, .string (mk (rText st).1), .slice T a c, .slice N p q]) ∧ Rd w' b 62 (rText st).2 ∧ w.grownBy w' (some b) := by
  have C := fun W (hW : Rd W b 62 st) => text_any b st W hW hl
  have CC := Lib.hid C
  have K := fun W => kind_any k (.int .i64 n) (.string s) (.slice T a c) (.slice N p q) W h1 h2
  rw [hk] at K
  have KK := Lib.hid K
  have H := Lib.hid h
  have hb := h.lt
  clear C K h hk hl h1 h2
  go_enter Try.func44, Try.ntmps44
  go_wp2_with fail
  refine (KK.out _).mono ?_
  rintro e w1 ⟨rfl, b1⟩
  have hz : w.heap.size + 1 < w1.heap.size := by have := b1.size; simp at this; omega
  have HI := Lib.hid (((Is.fresh w 47 _).alloc _).below b1 (by simp; try omega))
  have HJ := Lib.hid ((Is.fresh (w.alloc _) 47 _).below b1 (by simp; try omega))
  have HR := Lib.hid (Is.below (Is.alloc (Is.alloc H.out _) _) b1 (by simp; omega))
  have G1 := Lib.hid ((((Below.refl w.heap.size w).alloc (Nat.le_refl _) _).alloc (by simp) _).trans (b1.mono (by simp; omega)))
  clear b1
  go_wp2_with fail
  refine (CC.out _ HR.out).mono ?_
  rintro e w2 ⟨rfl, h2, g2⟩
  have I2 := HI.out.kept g2 (by simp; omega)
  have J2 := HJ.out.kept g2 (by simp; omega)

  simp only [World.size_alloc] at J2
  have x0 := I2.at_ 0
  have x1 := I2.at_ 1
  have x2 := I2.at_ 2
  have x3 := I2.at_ 3
  have x4 := I2.at_ 4
  have y0 := J2.at_ 0
  have y1 := J2.at_ 1
  have y2 := J2.at_ 2
  have y3 := J2.at_ 3
  have y4 := J2.at_ 4
  have fx := I2.open_ 2
  have fy0 := J2.open_ 0
  have fy1 := J2.open_ 1
  have fy2 := J2.open_ 2
  have fy3 := J2.open_ 3
  have fy4 := J2.open_ 4
  simp at x0 x1 x2 x3 x4 y0 y1 y2 y3 y4
  have H2 := Lib.hid h2
  have G2 := Lib.hid g2
  clear h2 g2 I2 J2
  go_wp2_with fail
  refine bodyPost_ret (v := .agg #[.int .i64 k, .int .i64 n, .string (mk (rText st).1), .slice T a c, .slice N p q]) (by simp [results, Try.results44, go_sem, y0, y1, y2, y3, y4]) rfl ⟨rfl, ?_, ?_⟩
  · exact is_far (is_far (is_far (is_far (is_far (is_far (H2.out) _ _ (by omega)) _ _ (by omega)) _ _ (by omega)) _ _ (by omega)) _ _ (by omega)) _ _ (by omega)
  · refine grown_below (grown_trans (grown_of_below G1.out) G2.out (.inl rfl)) ?_
    go_grown

set_option maxHeartbeats 1000000 in
theorem read3 (b : Nat) (k n : Int) (s : ByteArray) (T N : Option Addr) (a c p q : Nat) (st : St) (w : World) (h : Rd w b 62 st) (hl : (rest st).length ≤ 1000000000) (h1 : -9223372036854775808 ≤ k) (h2 : k ≤ 9223372036854775807) (hk : kdI k = 3) :
    Calls Try.prog 44 #[.pointer (some ⟨b, 0, none⟩), .agg #[.int .i64 k, .int .i64 n, .string s, .slice T a c, .slice N p q]] w fun e w' => ∃ A cc, e = .returned (.agg #[.int .i64 k, .int .i64 n, .string s, .slice A (rSeq rText st).1.length cc, .slice N p q]) ∧ w'.ownsRow w.heap.size 9 1 (.slice A (rSeq rText st).1.length cc) (rSeq rText st).1.length (strs (rSeq rText st).1) ∧ Rd w' b 62 (rSeq rText st).2 ∧ w.grownBy w' (some b) := by
  have C := fun W (hW : Rd W b 62 st) => list_any b st W hW hl
  have CC := Lib.hid C
  have K := fun W => kind_any k (.int .i64 n) (.string s) (.slice T a c) (.slice N p q) W h1 h2
  rw [hk] at K
  have KK := Lib.hid K
  have H := Lib.hid h
  have hb := h.lt
  clear C K h hk hl h1 h2
  go_enter Try.func44, Try.ntmps44
  go_wp2_with fail
  refine (KK.out _).mono ?_
  rintro e w1 ⟨rfl, b1⟩
  have hz : w.heap.size + 1 < w1.heap.size := by have := b1.size; simp at this; omega
  have HI := Lib.hid (((Is.fresh w 47 _).alloc _).below b1 (by simp; try omega))
  have HJ := Lib.hid ((Is.fresh (w.alloc _) 47 _).below b1 (by simp; try omega))
  have HR := Lib.hid (Is.below (Is.alloc (Is.alloc H.out _) _) b1 (by simp; omega))
  have G1 := Lib.hid ((((Below.refl w.heap.size w).alloc (Nat.le_refl _) _).alloc (by simp) _).trans (b1.mono (by simp; omega)))
  clear b1
  go_wp2_with fail
  refine (CC.out _ HR.out).mono ?_
  rintro e w2 ⟨v, rfl, o2, h2, g2⟩
  have I2 := HI.out.kept g2 (by simp; omega)
  have J2 := HJ.out.kept g2 (by simp; omega)
  obtain ⟨A, cc, rfl, -, -⟩ := Row.of_own o2
  have O2 := Lib.hid o2
  clear o2

  simp only [World.size_alloc] at J2
  have x0 := I2.at_ 0
  have x1 := I2.at_ 1
  have x2 := I2.at_ 2
  have x3 := I2.at_ 3
  have x4 := I2.at_ 4
  have y0 := J2.at_ 0
  have y1 := J2.at_ 1
  have y2 := J2.at_ 2
  have y3 := J2.at_ 3
  have y4 := J2.at_ 4
  have fx := I2.open_ 3
  have fy0 := J2.open_ 0
  have fy1 := J2.open_ 1
  have fy2 := J2.open_ 2
  have fy3 := J2.open_ 3
  have fy4 := J2.open_ 4
  simp at x0 x1 x2 x3 x4 y0 y1 y2 y3 y4
  have H2 := Lib.hid h2
  have G2 := Lib.hid g2
  clear h2 g2 I2 J2
  go_wp2_with fail
  refine bodyPost_ret (v := .agg #[.int .i64 k, .int .i64 n, .string s, .slice A (rSeq rText st).1.length cc, .slice N p q]) (by simp [results, Try.results44, go_sem, y0, y1, y2, y3, y4]) rfl ⟨_, _, rfl, ?_, ?_, ?_⟩
  · refine own_mono (base := w1.heap.size) ?_ (by omega)
    repeat (refine ownsRow_setCell_below ?_ (by first | (show w.heap.size < w1.heap.size; omega) | (show w.heap.size + 1 < w1.heap.size; omega)) _)
    exact O2.out
  · exact is_far (is_far (is_far (is_far (is_far (is_far (H2.out) _ _ (by omega)) _ _ (by omega)) _ _ (by omega)) _ _ (by omega)) _ _ (by omega)) _ _ (by omega)
  · refine grown_below (grown_trans (grown_of_below G1.out) G2.out (.inl rfl)) ?_
    go_grown

set_option maxHeartbeats 1000000 in
theorem read4 (b : Nat) (k n : Int) (s : ByteArray) (T N : Option Addr) (a c p q : Nat) (st : St) (w : World) (h : Rd w b 62 st) (hl : (rest st).length ≤ 1000000000) (h1 : -9223372036854775808 ≤ k) (h2 : k ≤ 9223372036854775807) (hk : kdI k = 4) :
    Calls Try.prog 44 #[.pointer (some ⟨b, 0, none⟩), .agg #[.int .i64 k, .int .i64 n, .string s, .slice T a c, .slice N p q]] w fun e w' => ∃ A cc, e = .returned (.agg #[.int .i64 k, .int .i64 n, .string s, .slice T a c, .slice A (rSeq rInt st).1.length cc]) ∧ w'.ownsRow w.heap.size 3 1 (.slice A (rSeq rInt st).1.length cc) (rSeq rInt st).1.length (ints (rSeq rInt st).1) ∧ Rd w' b 62 (rSeq rInt st).2 ∧ w.grownBy w' (some b) := by
  have C := fun W (hW : Rd W b 62 st) => nums_any b st W hW hl
  have CC := Lib.hid C
  have K := fun W => kind_any k (.int .i64 n) (.string s) (.slice T a c) (.slice N p q) W h1 h2
  rw [hk] at K
  have KK := Lib.hid K
  have H := Lib.hid h
  have hb := h.lt
  clear C K h hk hl h1 h2
  go_enter Try.func44, Try.ntmps44
  go_wp2_with fail
  refine (KK.out _).mono ?_
  rintro e w1 ⟨rfl, b1⟩
  have hz : w.heap.size + 1 < w1.heap.size := by have := b1.size; simp at this; omega
  have HI := Lib.hid (((Is.fresh w 47 _).alloc _).below b1 (by simp; try omega))
  have HJ := Lib.hid ((Is.fresh (w.alloc _) 47 _).below b1 (by simp; try omega))
  have HR := Lib.hid (Is.below (Is.alloc (Is.alloc H.out _) _) b1 (by simp; omega))
  have G1 := Lib.hid ((((Below.refl w.heap.size w).alloc (Nat.le_refl _) _).alloc (by simp) _).trans (b1.mono (by simp; omega)))
  clear b1
  go_wp2_with fail
  refine (CC.out _ HR.out).mono ?_
  rintro e w2 ⟨v, rfl, o2, h2, g2⟩
  have I2 := HI.out.kept g2 (by simp; omega)
  have J2 := HJ.out.kept g2 (by simp; omega)
  obtain ⟨A, cc, rfl, -, -⟩ := Row.of_own o2
  have O2 := Lib.hid o2
  clear o2

  simp only [World.size_alloc] at J2
  have x0 := I2.at_ 0
  have x1 := I2.at_ 1
  have x2 := I2.at_ 2
  have x3 := I2.at_ 3
  have x4 := I2.at_ 4
  have y0 := J2.at_ 0
  have y1 := J2.at_ 1
  have y2 := J2.at_ 2
  have y3 := J2.at_ 3
  have y4 := J2.at_ 4
  have fx := I2.open_ 4
  have fy0 := J2.open_ 0
  have fy1 := J2.open_ 1
  have fy2 := J2.open_ 2
  have fy3 := J2.open_ 3
  have fy4 := J2.open_ 4
  simp at x0 x1 x2 x3 x4 y0 y1 y2 y3 y4
  have H2 := Lib.hid h2
  have G2 := Lib.hid g2
  clear h2 g2 I2 J2
  go_wp2_with fail
  refine bodyPost_ret (v := .agg #[.int .i64 k, .int .i64 n, .string s, .slice T a c, .slice A (rSeq rInt st).1.length cc]) (by simp [results, Try.results44, go_sem, y0, y1, y2, y3, y4]) rfl ⟨_, _, rfl, ?_, ?_, ?_⟩
  · refine own_mono (base := w1.heap.size) ?_ (by omega)
    repeat (refine ownsRow_setCell_below ?_ (by first | (show w.heap.size < w1.heap.size; omega) | (show w.heap.size + 1 < w1.heap.size; omega)) _)
    exact O2.out
  · exact is_far (is_far (is_far (is_far (is_far (is_far (H2.out) _ _ (by omega)) _ _ (by omega)) _ _ (by omega)) _ _ (by omega)) _ _ (by omega)) _ _ (by omega)
  · refine grown_below (grown_trans (grown_of_below G1.out) G2.out (.inl rfl)) ?_
    go_grown

/-- Where reading a value of kind k leaves the reader. -/
def readS (k : Int) (st : St) : St :=
  if kdI k = 0 then (rNum st).2 else if kdI k = 1 then (rInt st).2 else if kdI k = 2 then (rText st).2 else if kdI k = 3 then (rSeq rText st).2 else (rSeq rInt st).2
theorem read_any (b : Nat) (k n : Int) (s : ByteArray) (T N : Option Addr) (a c p q : Nat) (st : St) (w : World) (h : Rd w b 62 st) (hl : (rest st).length ≤ 1000000000) (h1 : -9223372036854775808 ≤ k) (h2 : k ≤ 9223372036854775807) :
    Calls Try.prog 44 #[.pointer (some ⟨b, 0, none⟩), .agg #[.int .i64 k, .int .i64 n, .string s, .slice T a c, .slice N p q]] w fun e w' => ∃ v, e = .returned v ∧ Rd w' b 62 (readS k st) ∧ w.grownBy w' (some b) := by
  have hr := kdI_range k
  unfold readS
  by_cases k0 : kdI k = 0
  · rw [if_pos k0]
    exact (read0 b k n s T N a c p q st w h hl h1 h2 k0).mono fun e w' ⟨x, y, z⟩ => ⟨_, x, y, z⟩
  · by_cases k1 : kdI k = 1
    · rw [if_neg k0, if_pos k1]
      exact (read1 b k n s T N a c p q st w h hl h1 h2 k1).mono fun e w' ⟨x, y, z⟩ => ⟨_, x, y, z⟩
    · by_cases k2 : kdI k = 2
      · rw [if_neg k0, if_neg k1, if_pos k2]
        exact (read2 b k n s T N a c p q st w h hl h1 h2 k2).mono fun e w' ⟨x, y, z⟩ => ⟨_, x, y, z⟩
      · by_cases k3 : kdI k = 3
        · rw [if_neg k0, if_neg k1, if_neg k2, if_pos k3]
          exact (read3 b k n s T N a c p q st w h hl h1 h2 k3).mono fun e w' ⟨A, cc, x, _, y, z⟩ => ⟨_, x, y, z⟩
        · rw [if_neg k0, if_neg k1, if_neg k2, if_neg k3]
          exact (read4 b k n s T N a c p q st w h hl h1 h2 (by omega)).mono fun e w' ⟨A, cc, x, _, y, z⟩ => ⟨_, x, y, z⟩
/-- The value that is read, into a Value that has its kind alone. -/
def rV (k : Int) (st : St) : Val × St :=
  if kdI k = 0 then (⟨k, (rNum st).1, [], [], []⟩, (rNum st).2) else if kdI k = 1 then (⟨k, (rInt st).1, [], [], []⟩, (rInt st).2) else if kdI k = 2 then (⟨k, 0, (rText st).1, [], []⟩, (rText st).2)
  else if kdI k = 3 then (⟨k, 0, [], (rSeq rText st).1, []⟩, (rSeq rText st).2) else (⟨k, 0, [], [], (rSeq rInt st).1⟩, (rSeq rInt st).2)
def Owns (w : World) (base : Nat) (t : Val) (T : Option Addr) (cT : Nat) (N : Option Addr) (cN : Nat) : Prop :=
  w.ownsRow base 9 1 (.slice T t.texts.length cT) t.texts.length (strs t.texts) ∧ w.ownsRow base 3 1 (.slice N t.nums.length cN) t.nums.length (ints t.nums)
def gv (t : Val) (T : Option Addr) (cT : Nat) (N : Option Addr) (cN : Nat) : Value := .agg #[.int .i64 t.kind, .int .i64 t.n, .string (mk t.text), .slice T t.texts.length cT, .slice N t.nums.length cN]
theorem readz_any (b : Nat) (k : Int) (st : St) (w : World) (h : Rd w b 62 st) (hl : (rest st).length ≤ 1000000000) (h1 : -9223372036854775808 ≤ k) (h2 : k ≤ 9223372036854775807) :
    Calls Try.prog 44 #[.pointer (some ⟨b, 0, none⟩), .agg #[.int .i64 k, .int .i64 0, .string ⟨#[]⟩, .slice none 0 0, .slice none 0 0]] w fun e w' => ∃ T cT N cN, e = .returned (gv (rV k st).1 T cT N cN) ∧ Owns w' w.heap.size (rV k st).1 T cT N cN ∧ Rd w' b 62 (rV k st).2 ∧ w.grownBy w' (some b) := by
  have hr := kdI_range k
  unfold rV
  by_cases k0 : kdI k = 0
  · rw [if_pos k0]
    exact (read0 b k 0 ⟨#[]⟩ none none 0 0 0 0 st w h hl h1 h2 k0).mono fun e w' ⟨x, y, z⟩ => ⟨none, 0, none, 0, x, ⟨World.ownsRow_nil _ _ _ _, World.ownsRow_nil _ _ _ _⟩, y, z⟩
  · by_cases k1 : kdI k = 1
    · rw [if_neg k0, if_pos k1]
      exact (read1 b k 0 ⟨#[]⟩ none none 0 0 0 0 st w h hl h1 h2 k1).mono fun e w' ⟨x, y, z⟩ => ⟨none, 0, none, 0, x, ⟨World.ownsRow_nil _ _ _ _, World.ownsRow_nil _ _ _ _⟩, y, z⟩
    · by_cases k2 : kdI k = 2
      · rw [if_neg k0, if_neg k1, if_pos k2]
        exact (read2 b k 0 ⟨#[]⟩ none none 0 0 0 0 st w h hl h1 h2 k2).mono fun e w' ⟨x, y, z⟩ => ⟨none, 0, none, 0, x, ⟨World.ownsRow_nil _ _ _ _, World.ownsRow_nil _ _ _ _⟩, y, z⟩
      · by_cases k3 : kdI k = 3
        · rw [if_neg k0, if_neg k1, if_neg k2, if_pos k3]
          exact (read3 b k 0 ⟨#[]⟩ none none 0 0 0 0 st w h hl h1 h2 k3).mono fun e w' ⟨A, cc, x, o, y, z⟩ => ⟨A, cc, none, 0, x, ⟨o, World.ownsRow_nil _ _ _ _⟩, y, z⟩
        · rw [if_neg k0, if_neg k1, if_neg k2, if_neg k3]
          exact (read4 b k 0 ⟨#[]⟩ none none 0 0 0 0 st w h hl h1 h2 (by omega)).mono fun e w' ⟨A, cc, x, o, y, z⟩ => ⟨none, 0, A, cc, x, ⟨World.ownsRow_nil _ _ _ _, o⟩, y, z⟩
theorem rV_kind (k : Int) (st : St) : (rV k st).1.kind = k := by
  unfold rV
  repeat' split
  all_goals rfl
theorem rV_le (k : Int) (st : St) : (rest (rV k st).2).length ≤ (rest st).length := by
  unfold rV
  split
  · exact rNum_le st
  · split
    · exact rInt_le st
    · split
      · exact rText_le st
      · split
        · exact rSeq_le rText rText_le st
        · exact rSeq_le rInt rInt_le st
theorem rSeq_at_none {α : Type} (f : St → α × St) : (rSeq f none).2 = none := rfl
theorem rV_none (k : Int) : (rV k none).2 = none := by
  unfold rV
  split
  · rfl
  · split
    · unfold rInt; split <;> rfl
    · split
      · rfl
      · split <;> rfl
theorem rV_back (k : Int) (st : St) (r : List UInt8) (h : (rV k st).2 = some r) : st = some (encV (rV k st).1 ++ r) := by
  by_cases k0 : kdI k = 0
  · have e : rV k st = (⟨k, (rNum st).1, [], [], []⟩, (rNum st).2) := by unfold rV; rw [if_pos k0]
    rw [e] at h ⊢
    have := rNum_back st (rNum st).1 r (by rw [← h])
    have e2 : encV ⟨k, ((rNum st).1 : Int), [], [], []⟩ = vint (rNum st).1 := by
      unfold encV numE
      rw [if_pos k0, if_neg (by show ¬ ((rNum st).1 : Int) < 0; omega)]
      rfl
    rw [e2]
    exact this.1
  · by_cases k1 : kdI k = 1
    · have e : rV k st = (⟨k, (rInt st).1, [], [], []⟩, (rInt st).2) := by unfold rV; rw [if_neg k0, if_pos k1]
      rw [e] at h ⊢
      have := rInt_back st (rInt st).1 r (by rw [← h])
      have e2 : encV ⟨k, (rInt st).1, [], [], []⟩ = intE (rInt st).1 := by unfold encV; rw [if_neg k0, if_pos k1]
      rw [e2]
      exact this.1
    · by_cases k2 : kdI k = 2
      · have e : rV k st = (⟨k, 0, (rText st).1, [], []⟩, (rText st).2) := by unfold rV; rw [if_neg k0, if_neg k1, if_pos k2]
        rw [e] at h ⊢
        have := rText_back st (rText st).1 r (by rw [← h])
        have e2 : encV ⟨k, 0, (rText st).1, [], []⟩ = textE (rText st).1 := by unfold encV; rw [if_neg k0, if_neg k1, if_pos k2]
        rw [e2]
        exact this.1
      · by_cases k3 : kdI k = 3
        · have e : rV k st = (⟨k, 0, [], (rSeq rText st).1, []⟩, (rSeq rText st).2) := by unfold rV; rw [if_neg k0, if_neg k1, if_neg k2, if_pos k3]
          rw [e] at h ⊢
          have := rList_back st (rSeq rText st).1 r (by rw [← h]; rfl)
          have e2 : encV ⟨k, 0, [], (rSeq rText st).1, []⟩ = listE (rSeq rText st).1 := by unfold encV; rw [if_neg k0, if_neg k1, if_neg k2, if_pos k3]
          rw [e2]
          exact this.1
        · have e : rV k st = (⟨k, 0, [], [], (rSeq rInt st).1⟩, (rSeq rInt st).2) := by unfold rV; rw [if_neg k0, if_neg k1, if_neg k2, if_neg k3]
          rw [e] at h ⊢
          have := rNums_back st (rSeq rInt st).1 r (by rw [← h]; rfl)
          have e2 : encV ⟨k, 0, [], [], (rSeq rInt st).1⟩ = numsE (rSeq rInt st).1 := by unfold encV; rw [if_neg k0, if_neg k1, if_neg k2, if_neg k3]
          rw [e2]
          exact this.1
theorem rSeq_len {α : Type} (f : St → α × St) (st : St) : (rSeq f st).1.length ≤ (rest st).length := by
  have h1 := rNum_le st
  unfold rSeq
  rcases h : rNum st with ⟨n, _ | q⟩
  · simp
  · rw [h] at h1
    simp only
    split
    · have h2 := rMany_len f n (some q)
      rcases h3 : rMany f n (some q) with ⟨xs, _ | r⟩
      · simp [shut]
      · rw [h3] at h2
        simp only [shut]
        simp only [rest_some] at h1
        exact Nat.le_trans h2 (Nat.le_trans (by assumption) h1)
    · simp
theorem rInt_lt (st : St) : (rInt st).1 < 9223372036854775808 := by
  unfold rInt
  split
  · rename_i h
    rw [inR_iff] at h
    show unzig (rNum st).1 < _
    omega
  · simp
theorem rV_sized (k : Int) (st : St) (h1 : -9223372036854775808 ≤ k) (h2 : k ≤ 9223372036854775807) (hl : (rest st).length ≤ 1000000000) : Sized (rV k st).1 := by
  have a1 := rNum_lt st
  have a2 := rInt_lt st
  have a3 := rSeq_len rText st
  have a4 := rSeq_len rInt st
  unfold rV Sized
  split
  · refine ⟨h1, h2, ?_, ?_, ?_⟩
    · show ((rNum st).1 : Int) < _; omega
    · simp
    · simp
  · split
    · refine ⟨h1, h2, a2, ?_, ?_⟩ <;> simp
    · split
      · refine ⟨h1, h2, ?_, ?_, ?_⟩ <;> simp
      · split
        · refine ⟨h1, h2, by simp, ?_, by simp⟩
          show (rSeq rText st).1.length < _; omega
        · refine ⟨h1, h2, by simp, by simp, ?_⟩
          show (rSeq rInt st).1.length < _; omega
end Go.Proofs.Ytjomkfiepmeplaa
