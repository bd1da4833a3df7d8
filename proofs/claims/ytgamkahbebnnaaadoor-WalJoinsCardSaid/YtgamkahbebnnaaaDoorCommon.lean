import Derived.Test.YtgamkahbebnnaaaDoorPack
import Derived.Test.YtgamkahbebnnaaaDoorUnp
import Derived.Deep.QuietTactic
import Derived.BigQuiet
import Derived.Laws.BitsAllLaws
/-
  Plain mathematics of the search for matches: four bytes as a number, the last place with the same number, the chain of such places, and how the search along the chain finds the longest match.
-/
namespace Go.Proofs.YtgamkahbebnnaaaDoor
/-- The four bytes from p on, as a number. -/
def key (l : List UInt8) (p : Nat) : Nat := (l.getD p 0).toNat + (l.getD (p + 1) 0).toNat * 256 + (l.getD (p + 2) 0).toNat * 65536 + (l.getD (p + 3) 0).toNat * 16777216
theorem key_lt (l : List UInt8) (p : Nat) : key l p < 4294967296 := by
  have h0 := UInt8.toNat_lt (l.getD p 0)
  have h1 := UInt8.toNat_lt (l.getD (p + 1) 0)
  have h2 := UInt8.toNat_lt (l.getD (p + 2) 0)
  have h3 := UInt8.toNat_lt (l.getD (p + 3) 0)
  unfold key; omega
theorem key_eq (l : List UInt8) (p q : Nat) (h : key l p = key l q) (j : Nat) (hj : j < 4) : l.getD (p + j) 0 = l.getD (q + j) 0 := by
  have h0 := UInt8.toNat_lt (l.getD p 0)
  have h1 := UInt8.toNat_lt (l.getD (p + 1) 0)
  have h2 := UInt8.toNat_lt (l.getD (p + 2) 0)
  have h3 := UInt8.toNat_lt (l.getD (p + 3) 0)
  have g0 := UInt8.toNat_lt (l.getD q 0)
  have g1 := UInt8.toNat_lt (l.getD (q + 1) 0)
  have g2 := UInt8.toNat_lt (l.getD (q + 2) 0)
  have g3 := UInt8.toNat_lt (l.getD (q + 3) 0)
  unfold key at h
  match j, hj with
  | 0, _ => exact UInt8.toNat_inj.1 (by simp only [Nat.add_zero]; omega)
  | 1, _ => exact UInt8.toNat_inj.1 (by omega)
  | 2, _ => exact UInt8.toNat_inj.1 (by omega)
  | 3, _ => exact UInt8.toNat_inj.1 (by omega)
theorem key_of (l : List UInt8) (p q : Nat) (h : ∀ j, j < 4 → l.getD (p + j) 0 = l.getD (q + j) 0) : key l p = key l q := by
  have h0 := h 0 (by omega)
  simp only [Nat.add_zero] at h0
  unfold key
  rw [h0, h 1 (by omega), h 2 (by omega), h 3 (by omega)]
theorem getD_opt (l : List UInt8) (p q : Nat) (h : l[p]? = l[q]?) : l.getD p 0 = l.getD q 0 := by
  rw [List.getD_eq_getElem?_getD, List.getD_eq_getElem?_getD, h]
theorem opt_getD (l : List UInt8) (p q : Nat) (hp : p < l.length) (hq : q < l.length) (h : l.getD p 0 = l.getD q 0) : l[p]? = l[q]? := by
  rw [List.getD_eq_getElem?_getD, List.getD_eq_getElem?_getD, List.getElem?_eq_getElem hp, List.getElem?_eq_getElem hq] at h
  rw [List.getElem?_eq_getElem hp, List.getElem?_eq_getElem hq]
  simpa using h
theorem key_run (l : List UInt8) (i d : Nat) (h2 : d ≤ i) (h3 : i + 4 ≤ l.length) : 4 ≤ run l i d ↔ key l i = key l (i - d) := by
  constructor
  · intro h
    exact key_of l _ _ fun j hj => getD_opt l _ _ (run_at l i d j (by omega)).1
  · intro h
    exact run_ge l i d 4 h3 fun j hj => opt_getD l _ _ (by omega) (by omega) (key_eq l _ _ h j hj)
theorem key_last (l : List UInt8) (i d k : Nat) (h2 : d ≤ i) (hk : 3 ≤ k) (h : k < run l i d) : key l (i + k - 3) = key l (i + k - 3 - d) := by
  refine key_of l _ _ fun j hj => getD_opt l _ _ ?_
  have := (run_at l i d (k - 3 + j) (by omega)).1
  rw [show i + (k - 3 + j) = i + k - 3 + j by omega, show i - d + (k - 3 + j) = i + k - 3 - d + j by omega] at this
  exact this
/-- The last place in a window at which four bytes stand. -/
def Win (l : List UInt8) (lo hi x : Nat) : Option Nat → Prop
  | none => ∀ p, lo ≤ p → p < hi → key l p ≠ x
  | some p => lo ≤ p ∧ p < hi ∧ key l p = x ∧ ∀ q, p < q → q < hi → key l q ≠ x
/-- The gap from a place to the one before it with the same four bytes. -/
def Gap (l : List UInt8) (p g : Nat) : Prop :=
  1 ≤ g ∧ ((g = 4097 ∧ ∀ q, q < p → p ≤ q + 4095 → key l q ≠ key l p) ∨ (g ≤ p ∧ g ≤ 4095 ∧ key l (p - g) = key l p ∧ ∀ q, p - g < q → q < p → key l q ≠ key l p))
def Bk (l : List UInt8) (nx : Nat) (bk : List Nat) : Prop := ∀ p, p < nx → nx ≤ p + 4096 → ∃ g, bk[p % 4096]? = some g ∧ Gap l p g
theorem gap_win (l : List UInt8) (i : Nat) (o : Option Nat) (h : Win l (i + 1 - 4096) i (key l i) o) : Gap l i (match o with | none => 4097 | some p => i - p) := by
  cases o with
  | none => exact ⟨by simp, .inl ⟨rfl, fun q h1 h2 => h q (by omega) h1⟩⟩
  | some p =>
    obtain ⟨h1, h2, h3, h4⟩ := h
    refine ⟨by simp only; omega, .inr ⟨by simp only; omega, by simp only; omega, ?_, fun q a b => h4 q ?_ b⟩⟩
    · simp only; rw [show i - (i - p) = p by omega, h3]
    · simp only at a; omega
theorem bk_put (l : List UInt8) (nx g : Nat) (bk : List Nat) (h : Bk l nx bk) (hg : Gap l nx g) (hl : nx % 4096 < bk.length) : Bk l (nx + 1) (bk.set (nx % 4096) g) := by
  intro p h1 h2
  by_cases hp : p = nx
  · subst hp
    exact ⟨g, by rw [List.getElem?_set_self hl], hg⟩
  · obtain ⟨g', e, hg'⟩ := h p (by omega) (by omega)
    exact ⟨g', by rw [List.getElem?_set_ne (by omega)]; exact e, hg'⟩
/-- What the search knows at the distance d: the best match so far is k long, at the distance e. -/
def Look (l : List UInt8) (i d k e : Nat) : Prop :=
  4 ≤ k ∧ 1 ≤ e ∧ e ≤ i ∧ e ≤ 4096 ∧ run l i e = k ∧ (∀ d', 1 ≤ d' → d' < e → run l i d' < k) ∧ (∀ d', 1 ≤ d' → d' < d → d' ≤ i → d' ≤ 4096 → run l i d' ≤ k) ∧ 1 ≤ d ∧ (d ≤ 4096 → d ≤ i ∧ key l (i - d) = key l i)
theorem best_char (l : List UInt8) (i m k e : Nat) (h1 : 1 ≤ e) (h2 : e ≤ m) (hk : 1 ≤ k) (h3 : run l i e = k) (h4 : ∀ d', 1 ≤ d' → d' < e → run l i d' < k) (h5 : ∀ d', 1 ≤ d' → d' ≤ m → run l i d' ≤ k) : best l i m = (k, e) := by
  induction m with
  | zero => omega
  | succ m ih =>
    have hb : best l i (m + 1) = if (best l i m).1 < run l i (m + 1) then (run l i (m + 1), m + 1) else best l i m := rfl
    by_cases he : e = m + 1
    · subst he
      have : (best l i m).1 < k := by
        by_cases h0 : 1 ≤ (best l i m).1
        · obtain ⟨a, b, c⟩ := best_is l i m h0
          rw [c]; exact h4 _ a (by omega)
        · omega
      rw [hb, h3, if_pos this]
    · have ih := ih (by omega) (fun d' a b => h5 d' a (by omega))
      rw [hb, ih, if_neg (by have := h5 (m + 1) (by omega) (by omega); simp only; omega)]
theorem look_end (l : List UInt8) (i d k e : Nat) (h : Look l i d k e) (hd : 4096 < d ∨ l.length ≤ i + k) : longestE l i = (k, e) := by
  obtain ⟨h1, h2, h3, h4, h5, h6, h7, h8, h9⟩ := h
  refine best_char l i _ k e h2 (by omega) (by omega) h5 h6 fun d' a b => ?_
  rcases hd with hd | hd
  · exact h7 d' a (by omega) (by omega) (by omega)
  · have := run_le l i d'; omega
theorem look_start (l : List UInt8) (i p : Nat) (hi : i + 4 ≤ l.length) (h : Win l (i - 4096) i (key l i) (some p)) : Look l i (i - p) (run l i (i - p)) (i - p) := by
  obtain ⟨h1, h2, h3, h4⟩ := h
  have e : i - (i - p) = p := by omega
  have h5 : 4 ≤ run l i (i - p) := (key_run l i (i - p) (by omega) hi).2 (by rw [e, h3])
  refine ⟨h5, by omega, by omega, by omega, rfl, fun d' a b => ?_, fun d' a b _ _ => ?_, by omega, fun _ => ⟨by omega, by rw [e, h3]⟩⟩
  all_goals
    have : ¬ 4 ≤ run l i d' := fun hh => h4 (i - d') (by omega) (by omega) ((key_run l i d' (by omega) hi).1 hh).symm
    omega
/-- One step along the chain, the best match behind it (k', e'). -/
theorem look_step (l : List UInt8) (i d k e g k' e' : Nat) (hi : i + 4 ≤ l.length) (h : Look l i d k e) (hd : d ≤ 4096) (hg : Gap l (i - d) g)
    (hb : run l i d ≤ k ∧ k' = k ∧ e' = e ∨ k < run l i d ∧ k' = run l i d ∧ e' = d) : Look l i (d + g) k' e' := by
  obtain ⟨h1, h2, h3, h4, h5, h6, h7, h8, h9⟩ := h
  obtain ⟨h9, h10⟩ := h9 hd
  obtain ⟨g1, g2⟩ := hg
  have hkk : k ≤ k' := by omega
  have hgap : ∀ d', d < d' → d' < d + g → d' ≤ i → d' ≤ 4096 → run l i d' < 4 := by
    intro d' a b c e
    have hne : key l (i - d') ≠ key l (i - d) := by
      rcases g2 with ⟨g2, g3⟩ | ⟨g2, g3, g4, g5⟩
      · exact g3 (i - d') (by omega) (by omega)
      · exact g5 (i - d') (by omega) (by omega)
    have : ¬ 4 ≤ run l i d' := fun hh => hne (by rw [h10]; exact ((key_run l i d' (by omega) hi).1 hh).symm)
    omega
  have hall : ∀ d', 1 ≤ d' → d' < d + g → d' ≤ i → d' ≤ 4096 → run l i d' ≤ k' := by
    intro d' a b c e
    by_cases x : d' < d
    · have := h7 d' a x c e; omega
    · by_cases y : d' = d
      · subst y; omega
      · have := hgap d' (by omega) b c e; omega
  refine ⟨by omega, ?_, ?_, ?_, ?_, ?_, hall, by omega, fun hh => ?_⟩
  · rcases hb with ⟨_, _, rfl⟩ | ⟨_, _, rfl⟩ <;> omega
  · rcases hb with ⟨_, _, rfl⟩ | ⟨_, _, rfl⟩ <;> omega
  · rcases hb with ⟨_, _, rfl⟩ | ⟨_, _, rfl⟩ <;> omega
  · rcases hb with ⟨_, rfl, rfl⟩ | ⟨_, rfl, rfl⟩
    · exact h5
    · rfl
  · intro d' a b
    rcases hb with ⟨_, rfl, rfl⟩ | ⟨hb, rfl, rfl⟩
    · exact h6 d' a b
    · have := h7 d' a b (by omega) (by omega); omega
  · rcases g2 with ⟨g2, g3⟩ | ⟨g2, g3, g4, g5⟩
    · omega
    · exact ⟨by omega, by rw [show i - (d + g) = i - d - g by omega, g4, h10]⟩
theorem look_none (l : List UInt8) (i : Nat) (h : l.length < i + 4 ∨ Win l (i - 4096) i (key l i) none) : (longestE l i).1 < 4 := by
  by_cases hi : l.length < i + 4
  · have := longest_le l i; omega
  · have hw : Win l (i - 4096) i (key l i) none := h.resolve_left hi
    by_cases hh : (longestE l i).1 < 4
    · exact hh
    · obtain ⟨a, b, c, d⟩ := longest_is l i (by omega)
      have := (key_run l i (longestE l i).2 b (by omega)).1 (by omega)
      exact absurd this.symm (hw (i - (longestE l i).2) (by omega) (by omega))
end Go.Proofs.YtgamkahbebnnaaaDoor
/-
  The four bytes at a place, as the program reads them.
-/
namespace Go.Proofs.YtgamkahbebnnaaaDoor
open Go.RowKit
theorem four_or (a b c d : Nat) (ha : a < 256) (hb : b < 256) (hc : c < 256) (hd : d < 256) :
    bits .or .u32 (bits .or .u32 (bits .or .u32 ((a : Int) % 4294967296) ((b : Int) % 4294967296 * 256 % 4294967296)) ((c : Int) % 4294967296 * 65536 % 4294967296)) ((d : Int) % 4294967296 * 16777216 % 4294967296) = ((a + b * 256 + c * 65536 + d * 16777216 : Nat) : Int) := by
  have e0 : ((a : Int) % 4294967296) = ((a : Nat) : Int) := by omega
  have e1 : ((b : Int) % 4294967296 * 256 % 4294967296) = ((b * 256 : Nat) : Int) := by omega
  have e2 : ((c : Int) % 4294967296 * 65536 % 4294967296) = ((c * 65536 : Nat) : Int) := by omega
  have e3 : ((d : Int) % 4294967296 * 16777216 % 4294967296) = ((d * 16777216 : Nat) : Int) := by omega
  have o1 : a ||| b * 256 = a + b * 256 := by
    rw [Nat.or_comm, ← show 2 ^ 8 * b = b * 256 by omega, ← Nat.two_pow_add_eq_or_of_lt (i := 8) (b := a) (by omega) b, Nat.add_comm]
  have o2 : (a + b * 256) ||| c * 65536 = a + b * 256 + c * 65536 := by
    rw [Nat.or_comm, ← show 2 ^ 16 * c = c * 65536 by omega, ← Nat.two_pow_add_eq_or_of_lt (i := 16) (b := a + b * 256) (by omega) c, Nat.add_comm]
  have o3 : (a + b * 256 + c * 65536) ||| d * 16777216 = a + b * 256 + c * 65536 + d * 16777216 := by
    rw [Nat.or_comm, ← show 2 ^ 24 * d = d * 16777216 by omega, ← Nat.two_pow_add_eq_or_of_lt (i := 24) (b := a + b * 256 + c * 65536) (by omega) d, Nat.add_comm]
  rw [e0, e1, e2, e3, u32_or_nat _ _ (by omega) (by omega), o1, u32_or_nat _ _ (by omega) (by omega), o2, u32_or_nat _ _ (by omega) (by omega), o3]
set_option maxRecDepth 20000 in
set_option maxHeartbeats 1000000 in
theorem start_any (s : ByteArray) (i : Nat) (w : World) (hi : i + 4 ≤ s.size) (hl : s.size ≤ 1000000000) :
    Calls Tryd.prog 69 #[.string s, .int .i64 (i : Int)] w fun e w' => e = .returned (.int .u32 (key (ls s) i : Nat)) ∧ ∃ j, w' = w.drewN j := by
  have j1 : IntKind.i64.wrap ((i : Int) + 1) = (i : Int) + 1 := IntWalk.i64_in _ (by omega)
  have j2 : IntKind.i64.wrap ((i : Int) + 2) = (i : Int) + 2 := IntWalk.i64_in _ (by omega)
  have j3 : IntKind.i64.wrap ((i : Int) + 3) = (i : Int) + 3 := IntWalk.i64_in _ (by omega)
  have k0 : (i : Int) < (s.size : Int) := by omega
  have k1 : (i : Int) + 1 < (s.size : Int) := by omega
  have k2 : (i : Int) + 2 < (s.size : Int) := by omega
  have k3 : (i : Int) + 3 < (s.size : Int) := by omega
  have l1 : (0 : Int) ≤ (i : Int) + 1 := by omega
  have l2 : (0 : Int) ≤ (i : Int) + 2 := by omega
  have l3 : (0 : Int) ≤ (i : Int) + 3 := by omega
  have t0 : i < s.size := by omega
  have t1 : ((i : Int) + 1).toNat < s.size := by omega
  have t2 : ((i : Int) + 2).toNat < s.size := by omega
  have t3 : ((i : Int) + 3).toNat < s.size := by omega
  go_enter Tryd.func69, Tryd.ntmps69
  go_wp2
  go_quiet (fail)
  go_wp2
  go_ret
  refine ⟨?_, _, rfl⟩
  have e := four_or s[i].toNat s[i + 1].toNat s[i + 2].toNat s[i + 3].toNat (UInt8.toNat_lt _) (UInt8.toNat_lt _) (UInt8.toNat_lt _) (UInt8.toNat_lt _)
  unfold key
  rw [getD_at s i (by omega), getD_at s (i + 1) (by omega), getD_at s (i + 2) (by omega), getD_at s (i + 3) (by omega), ← e]
  rfl
end Go.Proofs.YtgamkahbebnnaaaDoor
/-
  How many bytes from a place on equal those a distance before them.
-/
namespace Go.Proofs.YtgamkahbebnnaaaDoor
open Go.RowKit
theorem run_more (l : List UInt8) (i d a : Nat) (hd : d ≤ i) (h1 : i ≤ a) (h2 : a ≤ i + run l i d) (hb : a + 32 ≤ l.length) (h : (l.take (a + 32)).drop a = (l.take (a - d + 32)).drop (a - d)) : a + 32 ≤ i + run l i d := by
  have := run_ge l i d (a - i + 32) (by omega) fun j hj => by
    by_cases hlt : j < a - i
    · exact (run_at l i d j (by omega)).1
    · have e := congrArg (fun x => x[j - (a - i)]?) h
      simp only [List.getElem?_drop] at e
      rw [List.getElem?_take_of_lt (by omega), List.getElem?_take_of_lt (by omega), show a + (j - (a - i)) = i + j by omega, show a - d + (j - (a - i)) = i - d + j by omega] at e
      exact e
  omega
set_option maxRecDepth 20000 in
set_option maxHeartbeats 1000000 in
theorem common_any (s : ByteArray) (i d : Nat) (w : World) (hd : d ≤ i) (hi : i ≤ s.size) (hl : s.size ≤ 1000000000) :
    Calls Tryd.prog 70 #[.string s, .int .i64 (i : Int), .int .i64 (d : Int)] w fun e w' => e = .returned (.int .i64 (run (ls s) i d : Nat)) ∧ ∃ j, w' = w.drewN j := by
  obtain ⟨z, hz⟩ : ∃ z, z = run (ls s) i d := ⟨_, rfl⟩
  rw [← hz]
  have hrl : i + z ≤ s.size := by have := run_le (ls s) i d; rw [ls_length] at this; omega
  have HZ := Lib.hid hz
  clear hz
  go_enter Tryd.func70, Tryd.ntmps70
  go_wp2
  go_loopw [7] (fun v wr => ∃ a j : Nat, i ≤ a ∧ a ≤ i + z ∧ v = .int .i64 a ∧ wr = w.drewN j) (fun v _ => s.size - (intOf v).toNat)
  case atStart => exact ⟨i, 0, by omega, by omega, rfl, rfl⟩
  case round =>
    obtain ⟨a, j, h1, h2, rfl, rfl⟩ := hrel
    have j1 : IntKind.i64.wrap ((a : Int) + 32) = (a : Int) + 32 := IntWalk.i64_in _ (by omega)
    have j2 : IntKind.i64.wrap ((a : Int) - (d : Int)) = (a : Int) - (d : Int) := IntWalk.i64_in _ (by omega)
    have j3 : IntKind.i64.wrap ((a : Int) - (d : Int) + 32) = (a : Int) - (d : Int) + 32 := IntWalk.i64_in _ (by omega)
    by_cases hb : a + 32 ≤ s.size
    · have g1 : decide ((a : Int) + 32 ≤ (s.size : Int)) = true := by simp; omega
      have g2 : (a : Int) + 32 ≤ (s.size : Int) := by omega
      have g3 : (0 : Int) ≤ (a : Int) + 32 := by omega
      have g4 : (a : Int) ≤ (a : Int) + 32 := by omega
      have g5 : (d : Int) ≤ (a : Int) := by omega
      have g6 : (a : Int) - (d : Int) ≤ (a : Int) - (d : Int) + 32 := by omega
      have g7 : (a : Int) - (d : Int) + 32 ≤ (s.size : Int) := by omega
      have g8 : (0 : Int) ≤ (a : Int) - (d : Int) + 32 := by omega
      have E : ((s.extract a (a + 32)).toList == (s.extract (a - d) (a - d + 32)).toList) = decide (ls (s.extract a (a + 32)) = ls (s.extract (a - d) (a - d + 32))) := mk_beq _ _
      rw [extract_mid, extract_mid] at E
      by_cases hE : ((ls s).take (a + 32)).drop a = ((ls s).take (a - d + 32)).drop (a - d)
      · rw [decide_eq_true hE] at E
        have h3 : a + 32 ≤ i + z := by
          rw [HZ.out]; exact run_more (ls s) i d a hd h1 (by rw [← HZ.out]; exact h2) hb hE
        clear hE
        go_wp2
        go_quiet (fail)
        go_wp2
        go_roundw
        case rel => exact ⟨a + 32, _, by omega, by omega, by go_num, rfl⟩
        case measure => simp [intOf]; omega
      · rw [decide_eq_false hE] at E
        clear hE
        go_wp2
        go_quiet (fail)
        go_wp2
        go_loopw [7] (fun v wr => ∃ a j : Nat, i ≤ a ∧ a ≤ i + z ∧ v = .int .i64 a ∧ wr = w.drewN j) (fun v _ => s.size - (intOf v).toNat)
        case atStart => exact ⟨a, _, by omega, by omega, rfl, by rw [World.drewN_drewN]⟩
        case round =>
          clear j1 j2 j3 hb g1 g2 g3 g4 g5 g6 g7 g8 E h1 h2
          obtain ⟨a, j, h1, h2, rfl, rfl⟩ := hrel
          have j2 : IntKind.i64.wrap ((a : Int) - (d : Int)) = (a : Int) - (d : Int) := IntWalk.i64_in _ (by omega)
          have j5 : (d : Int) ≤ (a : Int) := by omega
          by_cases hb : a < s.size
          · have j1 : decide ((a : Int) < (s.size : Int)) = true := by simp; omega
            have j0 : (a : Int) < (s.size : Int) := by omega
            have j4 : (a : Int) - (d : Int) < (s.size : Int) := by omega
            have j7 : ((a : Int) - (d : Int)).toNat < s.size := by omega
            have a1 := at_s s a hb
            have a2 := at_s s (a - d) (by omega)
            by_cases hk2 : a < i + z
            · have E : (((s[a]'hb).toNat : Int) == ((s[a - d]'(by omega)).toNat : Int)) = true := by
                obtain ⟨e, -⟩ := run_at (ls s) i d (a - i) (by rw [← HZ.out]; omega)
                rw [show i + (a - i) = a by omega, show i - d + (a - i) = a - d by omega, a1, a2] at e
                simp only [Option.some.injEq] at e
                rw [e]; simp
              clear a1 a2
              go_wp2
              go_quiet (fail)
              go_wp2
              go_roundw
              case rel => exact ⟨a + 1, _, by omega, by omega, by go_num, rfl⟩
              case measure => simp [intOf]; omega
            · have E : (((s[a]'hb).toNat : Int) == ((s[a - d]'(by omega)).toNat : Int)) = false := by
                have e := run_stop (ls s) i d (by rw [← HZ.out, ls_length]; omega)
                rw [← HZ.out, show i + z = a by omega, show i - d + z = a - d by omega, a1, a2] at e
                have e2 : s[a]'hb ≠ s[a - d]'(by omega) := fun x => e (by rw [x])
                simp only [beq_eq_false_iff_ne, ne_eq]
                intro x
                exact e2 (UInt8.toNat_inj.1 (by omega))
              clear a1 a2
              go_wp2
              go_quiet (fail)
              go_wp2
              go_ret
              exact ⟨by rw [show (a : Int) - (i : Int) = ((z : Nat) : Int) by omega]; rfl, _, rfl⟩
          · have j1 : decide ((a : Int) < (s.size : Int)) = false := by simp; omega
            go_wp2
            go_quiet (fail)
            go_wp2
            go_ret
            exact ⟨by rw [show (a : Int) - (i : Int) = ((z : Nat) : Int) by omega]; rfl, _, rfl⟩
    · have g1 : decide ((a : Int) + 32 ≤ (s.size : Int)) = false := by simp; omega
      go_wp2
      go_quiet (fail)
      go_wp2
      go_loopw [7] (fun v wr => ∃ a j : Nat, i ≤ a ∧ a ≤ i + z ∧ v = .int .i64 a ∧ wr = w.drewN j) (fun v _ => s.size - (intOf v).toNat)
      case atStart => exact ⟨a, _, by omega, by omega, rfl, by rw [World.drewN_drewN]⟩
      case round =>
        clear j1 j2 j3 hb g1 h1 h2
        obtain ⟨a, j, h1, h2, rfl, rfl⟩ := hrel
        have j2 : IntKind.i64.wrap ((a : Int) - (d : Int)) = (a : Int) - (d : Int) := IntWalk.i64_in _ (by omega)
        have j5 : (d : Int) ≤ (a : Int) := by omega
        by_cases hb : a < s.size
        · have j1 : decide ((a : Int) < (s.size : Int)) = true := by simp; omega
          have j0 : (a : Int) < (s.size : Int) := by omega
          have j4 : (a : Int) - (d : Int) < (s.size : Int) := by omega
          have j7 : ((a : Int) - (d : Int)).toNat < s.size := by omega
          have a1 := at_s s a hb
          have a2 := at_s s (a - d) (by omega)
          by_cases hk2 : a < i + z
          · have E : (((s[a]'hb).toNat : Int) == ((s[a - d]'(by omega)).toNat : Int)) = true := by
              obtain ⟨e, -⟩ := run_at (ls s) i d (a - i) (by rw [← HZ.out]; omega)
              rw [show i + (a - i) = a by omega, show i - d + (a - i) = a - d by omega, a1, a2] at e
              simp only [Option.some.injEq] at e
              rw [e]; simp
            clear a1 a2
            go_wp2
            go_quiet (fail)
            go_wp2
            go_roundw
            case rel => exact ⟨a + 1, _, by omega, by omega, by go_num, rfl⟩
            case measure => simp [intOf]; omega
          · have E : (((s[a]'hb).toNat : Int) == ((s[a - d]'(by omega)).toNat : Int)) = false := by
              have e := run_stop (ls s) i d (by rw [← HZ.out, ls_length]; omega)
              rw [← HZ.out, show i + z = a by omega, show i - d + z = a - d by omega, a1, a2] at e
              have e2 : s[a]'hb ≠ s[a - d]'(by omega) := fun x => e (by rw [x])
              simp only [beq_eq_false_iff_ne, ne_eq]
              intro x
              exact e2 (UInt8.toNat_inj.1 (by omega))
            clear a1 a2
            go_wp2
            go_quiet (fail)
            go_wp2
            go_ret
            exact ⟨by rw [show (a : Int) - (i : Int) = ((z : Nat) : Int) by omega]; rfl, _, rfl⟩
        · have j1 : decide ((a : Int) < (s.size : Int)) = false := by simp; omega
          go_wp2
          go_quiet (fail)
          go_wp2
          go_ret
          exact ⟨by rw [show (a : Int) - (i : Int) = ((z : Nat) : Int) by omega]; rfl, _, rfl⟩
end Go.Proofs.YtgamkahbebnnaaaDoor
