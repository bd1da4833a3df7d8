/-
  The code's writer, call by call.
-/
import Derived.Test.YtmcdbjkmkbdeiaaRead
import Derived.Handy
import Derived.Deep.AppendLies
import Derived.Lib.AppendStr
import Derived.Lib.BufferRead
namespace Go.Proofs.Ytmcdbjkmkbdeiaa
open Go.RowKit
theorem info5 : (Try.prog.info? 5).map (fun i => (i.zero, i.size, i.bytes)) = some (some (.int .u8 0), 1, 1) := by kernel_rfl
def bytes (l : List UInt8) : List Value := l.map fun c => .int .u8 (c.toNat : Int)
/-- The writer in block b has written l; its row lies from B on. -/
def Wr (w : World) (b B : Nat) (l : List UInt8) : Prop := B ≤ b ∧ ∃ v, Is w b 60 #[v] ∧ w.ownsRow B 5 1 v l.length (bytes l)
theorem new_one (w : World) (u : Value) (t : TypeId) : ∀ j x, [u][j]? = some x → (w.alloc (.cells #[u] t)).cell? ((⟨w.heap.size, 0, none⟩ : Addr).add j) = some x :=
  World.news_of_block (cs := #[u]) (t := t) (fr := (0, 0)) (heap_alloc_new w _)
theorem wr_step {wr wa w4 : World} {b B n n' : Nat} {v v4 : Value} {xs xs' : List Value} (hB : B ≤ b) (hi : Is wr b 60 #[v]) (ho : wr.ownsRow B 5 1 v n xs)
    (ha : Is wa b 60 #[v]) (hba : Below B wr wa) (hs : B ≤ wa.heap.size) (hgr : wa.grownBy w4 v.ownBlock) (ho4 : w4.ownsRow B 5 1 v4 n' xs') :
    Is w4 b 60 #[v] ∧ Is (w4.setCell ⟨b, 0, none⟩ v4) b 60 #[v4] ∧ (w4.setCell ⟨b, 0, none⟩ v4).ownsRow B 5 1 v4 n' xs' ∧ Below B wr (w4.setCell ⟨b, 0, none⟩ v4) := by
  have h1 : Is w4 b 60 #[v] := ha.kept hgr (Is.row_apart ho hi (by decide))
  refine ⟨h1, h1.put 0 v4, ?_, ?_⟩
  · exact ho4.kept (grown_set (World.grownBy.refl w4 (some b)) 0 v4) (.inr (Ne.symm (Is.row_apart ho4 h1 (by decide))))
  · exact (hba.grown hgr hs (fun k hk => (ho.lt k hk).1)).setCell hB v4
theorem wnum_neg (b : Nat) (n : Int) (w : World) (hn : n < 0) : Calls Try.prog 35 #[.pointer (some ⟨b, 0, none⟩), .int .i64 n] w fun e w' => e = .returned (.tuple #[]) ∧ w = w' := by
  go_enter Try.func35, Try.ntmps35
  go_wp2
  exact bodyPost_ret (results_none rfl _ _ _) rfl ⟨rfl, rfl⟩
theorem own_cast {w : World} {base n n' size : Nat} {e : TypeId} {v : Value} {xs xs' : List Value} (h : w.ownsRow base e size v n xs) (hn : n = n') (hx : xs = xs') : w.ownsRow base e size v n' xs' := by subst hn; subst hx; exact h
theorem byte_lo (k : Nat) (h : k < 128) : Value.int .u8 (k : Int) = .int .u8 ((UInt8.ofNat k).toNat : Int) := by rw [toNat_ofNat k (by omega)]
theorem byte_up (k : Nat) : Value.int .u8 ((k : Int) % 128 + 128) = .int .u8 ((UInt8.ofNat (k % 128 + 128)).toNat : Int) := by rw [toNat_ofNat _ (by omega)]; simp
set_option maxHeartbeats 1000000 in
theorem wnum_any (b B : Nat) (n : Nat) (l : List UInt8) (w : World) (h : Wr w b B l) (hn : n < 9223372036854775808) (hl : l.length + 9 ≤ 140737488355328) :
    Calls Try.prog 35 #[.pointer (some ⟨b, 0, none⟩), .int .i64 (n : Int)] w fun e w' => e = .returned (.tuple #[]) ∧ Wr w' b B (l ++ vint n) ∧ Below B w w' := by
  obtain ⟨i0, hi, hz0, hz1, hz2⟩ := info_parts info5
  have hv9 := vint_nine n hn
  have h0 : decide ((n : Int) < 0) = false := by simp
  have HH := Lib.hid h
  clear h
  go_enter Try.func35, Try.ntmps35
  go_wp2
  go_loopw [1] (fun m wr => ∃ k : Nat, ∃ d : List UInt8, k ≤ n ∧ m = .int .i64 k ∧ vint n = d ++ vint k ∧ Wr wr b B (l ++ d) ∧ Below B w wr) (fun m _ => (intOf m).toNat)
  case atStart => exact ⟨n, [], by omega, rfl, rfl, by simpa using HH.out, Below.refl _ _⟩
  case round =>
    obtain ⟨k, d, hk, rfl, hv, hw, hb⟩ := hrel
    obtain ⟨hB, v, his, ho⟩ := hw
    have hd : d.length + 1 ≤ 9 := by
      have := vint_pos k
      have e := congrArg List.length hv
      rw [List.length_append] at e
      omega
    have c0 : wr.cell? ⟨b, 0, none⟩ = some v := his.at_ 0
    have hz : B ≤ wr.heap.size := by have := his.lt; omega
    have HI := Lib.hid his
    have HO := Lib.hid ho
    have HV := Lib.hid hv
    have HW := Lib.hid hb
    have hld : (l ++ d).length ≤ 140737488355327 := by rw [List.length_append]; omega
    clear his ho hv hb HH
    by_cases h128 : 128 ≤ k
    · have hge : decide ((128 : Int) ≤ (k : Int)) = true := by simp; omega
      go_wp2_with (first
        | (at_builtin; have HB := Lib.hid (HO.out.alloc (.cells #[.int .u8 ((k : Int) % 128 + 128)] 5)); have HN := Lib.hid (new_one wr (.int .u8 ((k : Int) % 128 + 128)) 5); refine wpList_append_own _ rfl (.tmp 12) (.tmp 17) 37 rfl B 5 i0 (.int .u8 0) 1 1 Try.underlying37 hi hz0 hz1 hz2 rfl (by decide) v (l ++ d).length (bytes (l ++ d)) rfl HB.out ⟨wr.heap.size, 0, none⟩ 1 1 [.int .u8 ((k : Int) % 128 + 128)] rfl rfl HN.out ?c1 ?c3 ?c4 ?c5 ?_))
      case c1 => intro u hu; simp at hu; subst hu; rfl
      case c3 => simp only [maxLen]; omega
      case c4 => omega
      case c5 => simp; omega
      intro v4 w4 hown4 hgr4 _
      obtain ⟨g4, cap4, rfl, -, -⟩ := hown4.form (by omega)
      obtain ⟨s1, s2, s3, s4⟩ := wr_step hB HI.out HO.out (HI.out.alloc _) ((Below.refl _ _).alloc hz _) (by simp; omega) hgr4 hown4
      have c1 : w4.cell? ⟨b, 0, none⟩ = some v := s1.at_ 0
      have f1 := s1.open_ 0
      have S2 := Lib.hid s2
      have S3 := Lib.hid s3
      have S4 := Lib.hid s4
      clear hown4 hgr4 s1 s2 s3 s4
      go_wp2
      go_roundw
      case rel =>
        refine ⟨k / 128, d ++ [UInt8.ofNat (k % 128 + 128)], by omega, by go_num, ?_, ⟨hB, _, S2.out, ?_⟩, HW.out.trans S4.out⟩
        · rw [HV.out, vint_step k h128]; simp
        · have := S3.out
          rw [byte_up] at this
          exact own_cast this (by simp; omega) (by simp [bytes])
      case measure => simp [intOf]; omega
    · have hge : decide ((128 : Int) ≤ (k : Int)) = false := by simp; omega
      have hk128 : k < 128 := by omega
      go_wp2_with (first
        | (at_builtin; have HB := Lib.hid (HO.out.alloc (.cells #[.int .u8 (k : Int)] 5)); have HN := Lib.hid (new_one wr (.int .u8 (k : Int)) 5); refine wpList_append_own _ rfl (.tmp 27) (.tmp 30) 37 rfl B 5 i0 (.int .u8 0) 1 1 Try.underlying37 hi hz0 hz1 hz2 rfl (by decide) v (l ++ d).length (bytes (l ++ d)) rfl HB.out ⟨wr.heap.size, 0, none⟩ 1 1 [.int .u8 (k : Int)] rfl rfl HN.out ?c1 ?c3 ?c4 ?c5 ?_))
      case c1 => intro u hu; simp at hu; subst hu; rfl
      case c3 => simp only [maxLen]; omega
      case c4 => omega
      case c5 => simp; omega
      intro v4 w4 hown4 hgr4 _
      obtain ⟨g4, cap4, rfl, -, -⟩ := hown4.form (by omega)
      obtain ⟨s1, s2, s3, s4⟩ := wr_step hB HI.out HO.out (HI.out.alloc _) ((Below.refl _ _).alloc hz _) (by simp; omega) hgr4 hown4
      have c1 : w4.cell? ⟨b, 0, none⟩ = some v := s1.at_ 0
      have f1 := s1.open_ 0
      have S2 := Lib.hid s2
      have S3 := Lib.hid s3
      have S4 := Lib.hid s4
      clear hown4 hgr4 s1 s2 s3 s4
      go_wp2
      go_end0
      refine ⟨rfl, ⟨hB, _, S2.out, ?_⟩, HW.out.trans S4.out⟩
      have := S3.out
      rw [HV.out, vint_small k hk128]
      rw [byte_lo k hk128] at this
      exact own_cast this (by simp; omega) (by simp [bytes])

theorem add_block (a : Addr) (n : Nat) : (a.add n).block = a.block := by
  unfold Addr.add
  split <;> rfl
/-- The slice at A (as long as xs) holds the cells xs, in a block below top. -/
def Row (w : World) (top : Nat) (A : Option Addr) (xs : List Value) : Prop := ∀ k u, xs[k]? = some u → ∃ a, A = some a ∧ a.block < top ∧ w.cell? (a.add k) = some u
theorem Row.below {w w' : World} {top : Nat} {A : Option Addr} {xs : List Value} (h : Row w top A xs) (hb : Below top w w') : Row w' top A xs := fun k u hu => by
  obtain ⟨a, h1, h2, h3⟩ := h k u hu
  exact ⟨a, h1, h2, (hb.cell (p := a.add k) (by rw [add_block]; exact h2)).trans h3⟩
theorem conv_own {w : World} {B : Nat} {v : Value} {l : List UInt8} (h : w.ownsRow B 5 1 v l.length (bytes l)) : (convert 37 9 v).run Try.prog w = .ok (.string (mk l)) w := by
  rcases h.2 with ⟨rfl, h0⟩ | ⟨g, cap, cur, rfl, -, -, -⟩
  · obtain rfl := List.eq_nil_of_length_eq_zero h0
    exact Lib.run_convert_nil_bytes w 37 9 5 0 Try.underlying37 Try.underlying5 Try.underlying9
  · refine run_convert_bytes_back (P := Try.prog) w 37 9 5 ⟨g, 0, none⟩ cap l Try.underlying37 Try.underlying5 Try.underlying9 (fun j hj => ?_)
    exact h.cells (g := g) rfl j _ (by unfold bytes; rw [List.getElem?_map, List.getElem?_eq_getElem hj]; rfl)
theorem wr_new (w : World) : Wr (w.alloc (.cells #[.slice none 0 0] 60)) w.heap.size w.heap.size [] :=
  ⟨Nat.le_refl _, _, Is.fresh w 60 _, World.ownsRow_nil _ _ _ _⟩
theorem cnum_any (n : Nat) (w : World) (hn : n < 9223372036854775808) :
    Calls Try.prog 22 #[.int .i64 (n : Int)] w fun e w' => e = .returned (.string (mk (vint n))) ∧ Below w.heap.size w w' := by
  have C := Lib.hid (wnum_any w.heap.size w.heap.size n [] _ (wr_new w) hn (by simp))
  go_enter Try.func22, Try.ntmps22
  go_wp2_with (go_at_call 35; refine (C.out).mono ?_; rintro e w1 ⟨rfl, ⟨hB, v, his, ho⟩, h2⟩; have c0 : w1.cell? ⟨w.heap.size, 0, none⟩ = some v := his.at_ 0; have hcv := conv_own ho; have H2 := Lib.hid h2; clear his ho h2)
  go_ret
  exact ⟨rfl, ((Below.refl _ _).alloc (Nat.le_refl _) _).trans H2.out⟩
theorem cnum_neg (n : Int) (w : World) (hn : n < 0) :
    Calls Try.prog 22 #[.int .i64 n] w fun e w' => e = .returned (.string (mk [])) ∧ Below w.heap.size w w' := by
  have C := Lib.hid (fun W => wnum_neg w.heap.size n W hn)
  have hcv : (convert 37 9 (.slice none 0 0)).run Try.prog (w.alloc (.cells #[.slice none 0 0] 60)) = .ok (.string (mk [])) _ := conv_own (B := w.heap.size) (World.ownsRow_nil _ _ _ _)
  go_enter Try.func22, Try.ntmps22
  go_wp2_with (go_at_call 35; refine (C.out _).mono ?_; rintro e w1 ⟨rfl, rfl⟩)
  go_ret
  exact ⟨rfl, ((Below.refl _ _).alloc (Nat.le_refl _) _)⟩
theorem cnumE_any (n : Int) (w : World) (hn : n < 9223372036854775808) :
    Calls Try.prog 22 #[.int .i64 n] w fun e w' => e = .returned (.string (mk (numE n))) ∧ Below w.heap.size w w' := by
  unfold numE
  by_cases h : n < 0
  · rw [if_pos h]; exact cnum_neg n w h
  · rw [if_neg h]
    have := cnum_any n.toNat w (by omega)
    rw [show ((n.toNat : Nat) : Int) = n by omega] at this
    exact this
end Go.Proofs.Ytmcdbjkmkbdeiaa
