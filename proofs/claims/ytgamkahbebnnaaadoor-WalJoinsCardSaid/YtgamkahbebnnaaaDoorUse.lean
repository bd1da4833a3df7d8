import Derived.Test.YtgamkahbebnnaaaDoorProg
import Derived.Test.YtgamkahbebnnaaaDoorMath
import Derived.WalkKit
import Derived.WalkSpells
import Derived.Below
import Derived.OwnWalk
import Derived.Deep.Draws
import Derived.Lib.Hide
import Derived.Outline
import Derived.Deep.DeepFit
import Derived.Handy
import Derived.Deep.AppendLies
import Derived.Lib.AppendStr
import Derived.Lib.BufferRead
import Derived.Deep.QuietTactic
import Derived.BigQuiet
/-
  Words for memory in this seat: a block known whole, a reader in its block, what a call may have changed.
-/
namespace Go.Proofs.YtgamkahbebnnaaaDoor
open Go.RowKit

/-- Block g is these cells of type t, none frozen. -/
def Is (w : World) (g : Nat) (t : TypeId) (c : Array Value) : Prop := w.heap[g]? = some (.cells c t (0, 0))
section
variable {w w1 w2 : World} {g : Nat} {t : TypeId} {c : Array Value}
theorem Is.lt (h : Is w g t c) : g < w.heap.size := by
  by_cases hg : g < w.heap.size
  · exact hg
  · exfalso
    unfold Is at h
    rw [Array.getElem?_eq_none (by omega)] at h
    cases h
theorem Is.at_ (h : Is w g t c) (i : Nat) : w.cell? ⟨g, i, none⟩ = c[i]? := cell_of_row w g i c t (0, 0) h
theorem Is.open_ (h : Is w g t c) (i : Nat) : w.frozen? ⟨g, i, none⟩ = false := by
  unfold Is at h
  simp [World.frozen?, h]
theorem Is.put (h : Is w g t c) (i : Nat) (u : Value) : Is (w.setCell ⟨g, i, none⟩ u) g t (c.setIfInBounds i u) := by
  unfold Is at h ⊢
  simp [World.setCell, Array.getElem?_modify, h]
theorem Is.away (h : Is w g t c) {a : Addr} (ha : g ≠ a.block) (u : Value) : Is (w.setCell a u) g t c := (Below.heap_setCell w a u g ha).trans h
theorem Is.fresh (w : World) (t : TypeId) (c : Array Value) : Is (w.alloc (.cells c t)) w.heap.size t c := heap_alloc_new w _
theorem Is.alloc (h : Is w g t c) (o : Obj) : Is (w.alloc o) g t c := (Below.heap_alloc w o g h.lt).trans h
theorem Is.below {B : Nat} (h : Is w g t c) (hb : Below B w w1) (hg : g < B) : Is w1 g t c := (hb.block g hg).trans h
theorem Is.kept {row : Option Nat} (h : Is w g t c) (hb : w.grownBy w1 row) (hg : some g ≠ row) : Is w1 g t c := (hb.block g h.lt hg).trans h
theorem Is.apart {g' : Nat} {t' : TypeId} {c' : Array Value} (h : Is w g t c) (h' : Is w g' t' c') (ht : t ≠ t') : g ≠ g' := by
  intro e
  subst e
  unfold Is at h h'
  rw [h] at h'
  simp only [Option.some.injEq, Obj.cells.injEq] at h'
  exact ht h'.2.1
theorem Is.row_apart {base : Nat} {e : TypeId} {size n : Nat} {v : Value} {xs : List Value} (h : w.ownsRow base e size v n xs) (hg : Is w g t c) (ht : e ≠ t) : some g ≠ v.ownBlock := by
  rcases h.2 with ⟨rfl, _⟩ | ⟨g', cap, cur, rfl, _, hh, _⟩
  · simp [Value.ownBlock]
  · intro he
    have hgg : g = g' := by simpa [Value.ownBlock] using he
    subst hgg
    exact Is.apart (t := e) (c := cur) (g := g) (g' := g) hh hg ht rfl

theorem grown_trans {r r' : Option Nat} (h : w.grownBy w1 r) (k : w1.grownBy w2 r') (hr : r' = r ∨ ∀ b, r' = some b → w.heap.size ≤ b) : w.grownBy w2 r :=
  ⟨k.os.trans h.os, k.tape.trans h.tape, k.output.trans h.output, Nat.le_trans h.size k.size, fun i hi hne =>
    (k.block i (Nat.lt_of_lt_of_le hi h.size) (by
      rcases hr with rfl | hr
      · exact hne
      · intro e; have := hr i e.symm; omega)).trans (h.block i hi hne)⟩
theorem grown_below {r : Option Nat} (h : w.grownBy w1 r) (k : Below w.heap.size w1 w2) : w.grownBy w2 r :=
  ⟨k.os.trans h.os, k.tape.trans h.tape, k.output.trans h.output, Nat.le_trans h.size k.size, fun i hi hne => (k.block i hi).trans (h.block i hi hne)⟩
theorem grown_of_below {r : Option Nat} (k : Below w.heap.size w w1) : w.grownBy w1 r := grown_below (World.grownBy.refl w r) k
theorem grown_set {b : Nat} (h : w.grownBy w1 (some b)) (i : Nat) (u : Value) : w.grownBy (w1.setCell ⟨b, i, none⟩ u) (some b) :=
  ⟨h.os, h.tape, h.output, by simpa [World.setCell] using h.size, fun k hk hne => (Below.heap_setCell w1 ⟨b, i, none⟩ u k (by
    intro e; apply hne; rw [e])).trans (h.block k hk hne)⟩
theorem grown_alloc {r : Option Nat} (h : w.grownBy w1 r) (o : Obj) : w.grownBy (w1.alloc o) r := grown_below h ((Below.refl _ _).alloc h.size o)
theorem grown_drew {r : Option Nat} (h : w.grownBy w1 r) (n : Nat) : w.grownBy (w1.drewN n) r := ⟨h.os, h.tape, h.output, h.size, h.block⟩
theorem below_drew {B : Nat} (h : Below B w w1) (n : Nat) : Below B w (w1.drewN n) := ⟨h.os, h.tape, h.output, h.size, h.block⟩
theorem below_grown {B b : Nat} (h : Below B w w1) (k : w1.grownBy w2 (some b)) (hb : B ≤ b) (hB : B ≤ w1.heap.size) : Below B w w2 :=
  h.grown k hB (fun j hj => by injection hj with hj; omega)
end

def mk (l : List UInt8) : ByteArray := ⟨l.toArray⟩
def ls (s : ByteArray) : List UInt8 := s.data.toList
theorem mk_ls (s : ByteArray) : mk (ls s) = s := rfl
theorem ls_mk (l : List UInt8) : ls (mk l) = l := rfl
theorem size_mk (l : List UInt8) : (mk l).size = l.length := rfl
theorem ls_length (s : ByteArray) : (ls s).length = s.size := rfl
theorem ls_inj {s t : ByteArray} (h : ls s = ls t) : s = t := by rw [← mk_ls s, h, mk_ls]
def rest (st : St) : List UInt8 := st.getD []
/-- The reader in block b (its struct's type t) is in the state st. -/
def Rd (w : World) (b : Nat) (t : TypeId) (st : St) : Prop := Is w b t #[.string (mk (rest st)), .bool st.isNone]
end Go.Proofs.YtgamkahbebnnaaaDoor
/-
  Plain facts that the two loops of Reader.Num ask: the high bytes up to an index, the number so far, shifting and or-ing a digit in.
-/
namespace Go.Proofs.YtgamkahbebnnaaaDoor
open Go.RowKit

theorem hi_at (l : List UInt8) (k : Nat) (hk : k < l.length) (h : k ≤ hi l) : (128 ≤ l[k].toNat → k + 1 ≤ hi l) ∧ (l[k].toNat < 128 → hi l = k) := by
  induction l generalizing k with
  | nil => simp at hk
  | cons b r ih =>
    by_cases hb : 128 ≤ b.toNat
    · rw [hi_up b r hb] at h ⊢
      cases k with
      | zero => simp only [List.getElem_cons_zero]; omega
      | succ k =>
        simp only [List.getElem_cons_succ]
        have := ih k (by simpa using hk) (by omega)
        omega
    · have e := hi_lo b r (by omega)
      rw [e] at h
      obtain rfl : k = 0 := by omega
      simp only [List.getElem_cons_zero]
      exact ⟨fun h1 => absurd h1 hb, fun _ => e⟩
theorem hi_le (l : List UInt8) : hi l ≤ l.length := by
  induction l with
  | nil => simp [hi]
  | cons b r ih => unfold hi; split <;> simp only [List.length_cons] <;> omega
theorem val_snoc (l : List UInt8) (k : Nat) (hk : k < l.length) : val (l.take (k + 1)) = val (l.take k) + l[k].toNat % 128 * 128 ^ k := by
  induction l generalizing k with
  | nil => simp at hk
  | cons b r ih =>
    cases k with
    | zero => simp [val]
    | succ k =>
      have hk' : k < r.length := by simpa using hk
      rw [List.take_succ_cons, List.take_succ_cons]
      simp only [val, List.getElem_cons_succ]
      rw [ih k hk', Nat.pow_succ, Nat.mul_add, ← Nat.mul_assoc]
      have : 128 * (r[k].toNat % 128) * 128 ^ k = r[k].toNat % 128 * (128 ^ k * 128) := by
        rw [Nat.mul_comm 128, Nat.mul_assoc, Nat.mul_comm 128]
      omega
theorem bv64 (a : Nat) (h : a < 9223372036854775808) : (BitVec.ofInt 64 (a : Int)).toNat = a := by
  simp only [BitVec.toNat_ofInt]
  omega
theorem or64 (a b : Nat) (ha : a < 9223372036854775808) (hb : b < 9223372036854775808) : bits .or .i64 (a : Int) (b : Int) = ((a ||| b : Nat) : Int) := by
  have hlt : a ||| b < 2 ^ 63 := Nat.or_lt_two_pow (by omega) (by omega)
  have e : bits .or .i64 (a : Int) (b : Int) = IntKind.i64.wrap ((BitVec.ofInt 64 (a : Int) ||| BitVec.ofInt 64 (b : Int)).toNat : Int) := rfl
  rw [e, BitVec.toNat_or, bv64 a ha, bv64 b hb]
  exact IntWalk.i64_in _ (by omega)
theorem pow7 (k : Nat) : (2 : Nat) ^ (7 * k) = 128 ^ k := by rw [Nat.pow_mul]
theorem pow_nine (k : Nat) (h : k ≤ 9) : 128 ^ k ≤ (9223372036854775808 : Nat) := by
  have : (128 : Nat) ^ k ≤ 128 ^ 9 := Nat.pow_le_pow_right (by omega) h
  omega
/-- One digit or-ed in. -/
theorem digit_in (s : ByteArray) (k : Nat) (hk : k < s.size) (h9 : k < 9) :
    bits .or .i64 ((val ((ls s).take k) : Nat) : Int) (wrap64 (((s[k]'hk).toNat : Int) % 128 * 2 ^ (7 * k))) = ((val ((ls s).take (k + 1)) : Nat) : Int) := by
  have h1 := val_snoc (ls s) k hk
  have h2 := val_take_lt k (ls s)
  have h3 := val_take_lt (k + 1) (ls s)
  have h4 := pow_nine k (by omega)
  have h5 := pow_nine (k + 1) (by omega)
  have e0 : (ls s)[k]'hk = s[k]'hk := rfl
  rw [e0] at h1
  have hx : (s[k]'hk).toNat % 128 * 128 ^ k < 9223372036854775808 := by omega
  have e1 : (((s[k]'hk).toNat : Int) % 128 * 2 ^ (7 * k)) = (((s[k]'hk).toNat % 128 * 128 ^ k : Nat) : Int) := by
    rw [← pow7 k]
    simp
  rw [e1, IntWalk.wrap64_in _ (by omega), or64 _ _ (by omega) hx, h1]
  have h6 : val ((ls s).take k) < 2 ^ (7 * k) := by rw [pow7]; exact h2
  have h7 := Nat.two_pow_add_eq_or_of_lt h6 ((s[k]'hk).toNat % 128)
  rw [pow7, Nat.mul_comm] at h7
  rw [Nat.or_comm, ← h7, Nat.add_comm]
end Go.Proofs.YtgamkahbebnnaaaDoor
/-
  The code's Reader, call by call.
-/
namespace Go.Proofs.YtgamkahbebnnaaaDoor
open Go.RowKit

theorem fail_any (b : Nat) (s : ByteArray) (f : Bool) (w : World) (h : Is w b 106 #[.string s, .bool f]) :
    Calls Tryd.prog 66 #[.pointer (some ⟨b, 0, none⟩)] w fun e w' => e = .returned (.tuple #[]) ∧ Rd w' b 106 none ∧ w.grownBy w' (some b) := by
  have c0 : w.cell? ⟨b, 0, none⟩ = some (.string s) := h.at_ 0
  have c1 : w.cell? ⟨b, 1, none⟩ = some (.bool f) := h.at_ 1
  have f0 := h.open_ 0
  have f1 := h.open_ 1
  go_enter Tryd.func66, Tryd.ntmps66
  go_wp2
  go_end0
  exact ⟨rfl, (h.put 0 _).put 1 _, grown_set (grown_set (World.grownBy.refl _ _) _ _) _ _⟩
theorem done_true (b : Nat) (s : ByteArray) (w : World) (h : Is w b 106 #[.string s, .bool true]) :
    Calls Tryd.prog 68 #[.pointer (some ⟨b, 0, none⟩)] w fun e w' => e = .returned (.bool false) ∧ w = w' := by
  have c1 : w.cell? ⟨b, 1, none⟩ = some (.bool true) := h.at_ 1
  go_enter Tryd.func68, Tryd.ntmps68
  go_wp2
  go_ret
  exact ⟨rfl, rfl⟩
theorem done_false (b : Nat) (s : ByteArray) (w : World) (h : Is w b 106 #[.string s, .bool false]) :
    Calls Tryd.prog 68 #[.pointer (some ⟨b, 0, none⟩)] w fun e w' => e = .returned (.bool (s.toList.isEmpty)) ∧ w = w' := by
  have c0 : w.cell? ⟨b, 0, none⟩ = some (.string s) := h.at_ 0
  have c1 : w.cell? ⟨b, 1, none⟩ = some (.bool false) := h.at_ 1
  go_enter Tryd.func68, Tryd.ntmps68
  go_wp2
  go_ret
  exact ⟨rfl, rfl⟩
theorem take_no (b : Nat) (s : ByteArray) (f : Bool) (n : Int) (w : World) (h : Is w b 106 #[.string s, .bool f]) (_ : s.size ≤ 1000000000) (hn : n < 0 ∨ (s.size : Int) < n) :
    Calls Tryd.prog 55 #[.pointer (some ⟨b, 0, none⟩), .int .i64 n] w fun e w' => e = .returned (.string ⟨#[]⟩) ∧ Rd w' b 106 none ∧ w.grownBy w' (some b) := by
  have c0 : w.cell? ⟨b, 0, none⟩ = some (.string s) := h.at_ 0
  have H := Lib.hid h
  clear h
  by_cases h0 : n < 0
  · clear hn
    have h1 : decide (n < 0) = true := by simpa using h0
    go_enter Tryd.func55, Tryd.ntmps55
    go_wp2_with (go_at_call 66; refine (fail_any b s f _ H.out).mono ?_; rintro e w' ⟨rfl, h1, h2⟩)
    go_ret
    exact ⟨rfl, h1, h2⟩
  · have h1 : decide (n < 0) = false := by simpa using h0
    have h2 : (s.size : Int) < n := by omega
    clear hn
    go_enter Tryd.func55, Tryd.ntmps55
    go_wp2_with (go_at_call 66; refine (fail_any b s f _ H.out).mono ?_; rintro e w' ⟨rfl, h1, h2⟩)
    go_ret
    exact ⟨rfl, h1, h2⟩
theorem take_yes (b : Nat) (s : ByteArray) (f : Bool) (n : Nat) (w : World) (h : Is w b 106 #[.string s, .bool f]) (_ : s.size ≤ 1000000000) (hn : n ≤ s.size) :
    Calls Tryd.prog 55 #[.pointer (some ⟨b, 0, none⟩), .int .i64 (n : Int)] w fun e w' => e = .returned (.string (s.extract 0 n)) ∧ Is w' b 106 #[.string (s.extract n s.size), .bool f] ∧ w.grownBy w' (some b) := by
  have c0 : w.cell? ⟨b, 0, none⟩ = some (.string s) := h.at_ 0
  have f0 := h.open_ 0
  have H := Lib.hid h
  clear h
  have h1 : decide ((n : Int) < 0) = false := by simp
  have h2 : decide ((s.size : Int) < (n : Int)) = false := by simp; omega
  have h3 : decide (s.size < n) = false := by simp; omega
  go_enter Tryd.func55, Tryd.ntmps55
  go_wp2
  go_ret
  exact ⟨rfl, H.out.put 0 _, grown_set (World.grownBy.refl _ _) _ _⟩
theorem ret_nat {a b : Nat} (h : a = b) : Ending.returned (.int .i64 (a : Int)) = Ending.returned (.int .i64 (b : Int)) := by rw [h]
theorem val_int {a b : Nat} (h : a = b) : Value.int .i64 (a : Int) = .int .i64 (b : Int) := by rw [h]
theorem getD_at (s : ByteArray) (k : Nat) (h : k < s.size) : ((ls s).getD k 0).toNat = s[k].toNat := by
  have h' : k < (ls s).length := h
  rw [List.getD_eq_getElem?_getD, List.getElem?_eq_getElem h']; rfl

set_option maxRecDepth 20000 in
set_option maxHeartbeats 400000 in
theorem num_ok (b : Nat) (s : ByteArray) (f : Bool) (w : World) (h : Is w b 106 #[.string s, .bool f]) (hs : s.size ≤ 1000000000) (hok : okv (ls s)) :
    Calls Tryd.prog 54 #[.pointer (some ⟨b, 0, none⟩)] w fun e w' => e = .returned (.int .i64 (val ((ls s).take (hi (ls s) + 1)) : Nat)) ∧ Is w' b 106 #[.string (s.extract (hi (ls s) + 1) s.size), .bool f] ∧ w.grownBy w' (some b) := by
  have c0 : w.cell? ⟨b, 0, none⟩ = some (.string s) := h.at_ 0
  have f0 := h.open_ 0
  have H := Lib.hid h
  clear h
  have K := Lib.hid hok
  clear hok
  go_enter Tryd.func54, Tryd.ntmps54
  go_wp2
  go_loop [3, 4] (fun n i => ∃ k : Nat, k ≤ s.size ∧ k ≤ 9 ∧ k ≤ hi (ls s) ∧ i = .int .i64 k ∧ n = .int .i64 (val ((ls s).take k) : Nat)) (fun _ i => 9 - (intOf i).toNat)
  case atStart => exact ⟨0, by omega, by omega, by omega, rfl, rfl⟩
  case round =>
    obtain ⟨k, hk, hk9, hkh, rfl, rfl⟩ := hrel
    obtain ⟨o1, o2, o3⟩ := K.out
    rw [ls_length] at o1
    have hlt : k < s.size := by omega
    have h9 : k < 9 := by omega
    have ha := hi_at (ls s) k hlt hkh
    have D := digit_in s k hlt h9
    have G := getD_at s k hlt
    rw [show (ls s)[k]'hlt = s[k] from rfl] at ha
    have i1 : decide ((k : Int) < (s.size : Int)) = true := by simp; omega
    have i2 : decide ((k : Int) < 9) = true := by simp; omega
    by_cases hc : 128 ≤ s[k].toNat
    · have h1 := ha.1 hc
      clear ha o3 G
      go_wp2
      go_round
      case rel => exact ⟨k + 1, by omega, by omega, by omega, by go_num, rfl⟩
      case measure => simp [intOf]; omega
    · have h1 := ha.2 (by omega)
      clear ha
      rw [h1, G] at o3
      have HH := Lib.hid h1
      by_cases hz : s[k].toNat = 0
      · have hk0 : ¬ 0 < k := by omega
        have D2 : bits .or .i64 ((val ((ls s).take k) : Nat) : Int) 0 = ((val ((ls s).take (k + 1)) : Nat) : Int) := by
          rw [hz] at D
          simp only [Int.natCast_zero, Int.zero_emod, Int.zero_mul] at D
          rw [IntWalk.wrap64_in 0 (by omega)] at D
          exact D
        clear o3 h1 G D
        go_wp2
        go_ret
        exact ⟨by rw [HH.out]; rfl, by rw [HH.out]; exact H.out.put 0 _, grown_set (World.grownBy.refl _ _) _ _⟩
      · clear o3 h1 G
        go_wp2
        go_ret
        exact ⟨by rw [HH.out]; rfl, by rw [HH.out]; exact H.out.put 0 _, grown_set (World.grownBy.refl _ _) _ _⟩

set_option maxRecDepth 20000 in
set_option maxHeartbeats 400000 in
theorem num_no (b : Nat) (s : ByteArray) (f : Bool) (w : World) (h : Is w b 106 #[.string s, .bool f]) (hs : s.size ≤ 1000000000) (hok : ¬ okv (ls s)) :
    Calls Tryd.prog 54 #[.pointer (some ⟨b, 0, none⟩)] w fun e w' => e = .returned (.int .i64 0) ∧ Rd w' b 106 none ∧ w.grownBy w' (some b) := by
  have c0 : w.cell? ⟨b, 0, none⟩ = some (.string s) := h.at_ 0
  have H := Lib.hid h
  clear h
  have K := Lib.hid hok
  clear hok
  go_enter Tryd.func54, Tryd.ntmps54
  go_wp2
  go_loop [3, 4] (fun n i => ∃ k : Nat, k ≤ s.size ∧ k ≤ 9 ∧ k ≤ hi (ls s) ∧ i = .int .i64 k ∧ n = .int .i64 (val ((ls s).take k) : Nat)) (fun _ i => 9 - (intOf i).toNat)
  case atStart => exact ⟨0, by omega, by omega, by omega, rfl, rfl⟩
  case round =>
    obtain ⟨k, hk, hk9, hkh, rfl, rfl⟩ := hrel
    by_cases hlt : k < s.size
    · have i1 : decide ((k : Int) < (s.size : Int)) = true := by simp; omega
      by_cases h9 : k < 9
      · have i2 : decide ((k : Int) < 9) = true := by simp; omega
        have ha := hi_at (ls s) k hlt hkh
        have D := digit_in s k hlt h9
        have G := getD_at s k hlt
        rw [show (ls s)[k]'hlt = s[k] from rfl] at ha
        by_cases hc : 128 ≤ s[k].toNat
        · have h1 := ha.1 hc
          clear ha G
          go_wp2
          go_round
          case rel => exact ⟨k + 1, by omega, by omega, by omega, by go_num, rfl⟩
          case measure => simp [intOf]; omega
        · have h1 := ha.2 (by omega)
          have hz : s[k].toNat = 0 ∧ 0 < k := by
            have K1 := K.out
            unfold okv at K1
            rw [h1, G, ls_length] at K1
            omega
          obtain ⟨hz, hk0⟩ := hz
          clear ha G h1 D
          go_wp2_with (go_at_call 66; refine (fail_any b s f _ H.out).mono ?_; rintro e w' ⟨rfl, h1, h2⟩)
          go_ret
          exact ⟨rfl, h1, h2⟩
      · have i2 : decide ((k : Int) < 9) = false := by simp; omega
        go_wp2_with (go_at_call 66; refine (fail_any b s f _ H.out).mono ?_; rintro e w' ⟨rfl, h1, h2⟩)
        go_ret
        exact ⟨rfl, h1, h2⟩
    · have i1 : decide ((k : Int) < (s.size : Int)) = false := by simp; omega
      have i1' : decide (k < s.size) = false := by simp; omega
      go_wp2_with (go_at_call 66; refine (fail_any b s f _ H.out).mono ?_; rintro e w' ⟨rfl, h1, h2⟩)
      go_ret
      exact ⟨rfl, h1, h2⟩

theorem extract_drop (s : ByteArray) (k : Nat) : s.extract k s.size = mk ((ls s).drop k) := by
  apply ls_inj
  show (s.extract k s.size).data.toList = (ls s).drop k
  rw [ByteArray.data_extract, Array.toList_extract]
  rw [List.extract_eq_take_drop]
  apply List.take_of_length_le
  rw [List.length_drop]
  exact Nat.le_refl _
theorem extract_take (s : ByteArray) (k : Nat) : s.extract 0 k = mk ((ls s).take k) := by
  apply ls_inj
  show (s.extract 0 k).data.toList = (ls s).take k
  rw [ByteArray.data_extract, Array.toList_extract]
  rw [List.extract_eq_take_drop]
  rfl
theorem not_okv_nil : ¬ okv [] := by unfold okv; simp
theorem rest_none : rest none = [] := rfl
theorem rest_some (l : List UInt8) : rest (some l) = l := rfl
theorem rNum_le (st : St) : (rest (rNum st).2).length ≤ (rest st).length := by
  cases st with
  | none => exact Nat.le_refl _
  | some l =>
    rw [rNum_some]
    split
    · simp only [rest_some, List.length_drop]; omega
    · simp [rest_none]
theorem rTake_le (n : Int) (st : St) : (rest (rTake n st).2).length ≤ (rest st).length := by
  cases st with
  | none => exact Nat.le_refl _
  | some l =>
    rw [rTake_eq]
    split
    · simp only [rest_some, List.length_drop]; omega
    · simp [rest_none]
theorem rInt_le (st : St) : (rest (rInt st).2).length ≤ (rest st).length := by
  unfold rInt
  split
  · exact rNum_le st
  · simp [rest_none]
theorem rText_le (st : St) : (rest (rText st).2).length ≤ (rest st).length := by
  unfold rText
  exact Nat.le_trans (rTake_le _ _) (rNum_le st)
theorem num_any (b : Nat) (st : St) (w : World) (h : Rd w b 106 st) (hs : (rest st).length ≤ 1000000000) :
    Calls Tryd.prog 54 #[.pointer (some ⟨b, 0, none⟩)] w fun e w' => e = .returned (.int .i64 ((rNum st).1 : Nat)) ∧ Rd w' b 106 (rNum st).2 ∧ w.grownBy w' (some b) := by
  cases st with
  | none => exact num_no b (mk []) true w h (by simp [size_mk]) not_okv_nil
  | some l =>
    by_cases hok : okv l
    · have := num_ok b (mk l) false w h hs hok
      rw [extract_drop] at this
      rw [rNum_some, if_pos hok]
      exact this
    · rw [rNum_some, if_neg hok]
      exact num_no b (mk l) false w h hs hok
theorem take_any (b : Nat) (st : St) (n : Int) (w : World) (h : Rd w b 106 st) (hs : (rest st).length ≤ 1000000000) :
    Calls Tryd.prog 55 #[.pointer (some ⟨b, 0, none⟩), .int .i64 n] w fun e w' => e = .returned (.string (mk (rTake n st).1)) ∧ Rd w' b 106 (rTake n st).2 ∧ w.grownBy w' (some b) := by
  by_cases hn : 0 ≤ n ∧ n ≤ ((rest st).length : Int)
  · obtain ⟨k, rfl⟩ : ∃ k : Nat, n = k := ⟨n.toNat, by omega⟩
    have := take_yes b (mk (rest st)) st.isNone k w h hs (by rw [size_mk]; omega)
    rw [extract_drop, extract_take] at this
    cases st with
    | none =>
      have hk : k = 0 := by simp [rest_none] at hn; exact hn
      subst hk
      exact this
    | some l =>
      rw [rTake_eq, if_pos (by exact hn), Int.toNat_natCast]
      exact this
  · have := take_no b (mk (rest st)) st.isNone n w h hs (by rw [size_mk]; omega)
    cases st with
    | none => exact this
    | some l =>
      rw [rTake_eq, if_neg (by exact hn)]
      exact this
end Go.Proofs.YtgamkahbebnnaaaDoor
/-
  The code's writer, call by call.
-/
namespace Go.Proofs.YtgamkahbebnnaaaDoor
open Go.RowKit
theorem info5 : (Tryd.prog.info? 5).map (fun i => (i.zero, i.size, i.bytes)) = some (some (.int .u8 0), 1, 1) := by kernel_rfl
def bytes (l : List UInt8) : List Value := l.map fun c => .int .u8 (c.toNat : Int)
/-- The writer in block b has written l; its row lies from B on. -/
def Wr (w : World) (b B : Nat) (l : List UInt8) : Prop := B ≤ b ∧ ∃ v, Is w b 99 #[v] ∧ w.ownsRow B 5 1 v l.length (bytes l)
theorem new_one (w : World) (u : Value) (t : TypeId) : ∀ j x, [u][j]? = some x → (w.alloc (.cells #[u] t)).cell? ((⟨w.heap.size, 0, none⟩ : Addr).add j) = some x :=
  World.news_of_block (cs := #[u]) (t := t) (fr := (0, 0)) (heap_alloc_new w _)
theorem wr_step {wr wa w4 : World} {b B n n' : Nat} {v v4 : Value} {xs xs' : List Value} (hB : B ≤ b) (hi : Is wr b 99 #[v]) (ho : wr.ownsRow B 5 1 v n xs)
    (ha : Is wa b 99 #[v]) (hba : Below B wr wa) (hs : B ≤ wa.heap.size) (hgr : wa.grownBy w4 v.ownBlock) (ho4 : w4.ownsRow B 5 1 v4 n' xs') :
    Is w4 b 99 #[v] ∧ Is (w4.setCell ⟨b, 0, none⟩ v4) b 99 #[v4] ∧ (w4.setCell ⟨b, 0, none⟩ v4).ownsRow B 5 1 v4 n' xs' ∧ Below B wr (w4.setCell ⟨b, 0, none⟩ v4) := by
  have h1 : Is w4 b 99 #[v] := ha.kept hgr (Is.row_apart ho hi (by decide))
  refine ⟨h1, h1.put 0 v4, ?_, ?_⟩
  · exact ho4.kept (grown_set (World.grownBy.refl w4 (some b)) 0 v4) (.inr (Ne.symm (Is.row_apart ho4 h1 (by decide))))
  · exact (hba.grown hgr hs (fun k hk => (ho.lt k hk).1)).setCell hB v4
theorem wnum_neg (b : Nat) (n : Int) (w : World) (hn : n < 0) : Calls Tryd.prog 63 #[.pointer (some ⟨b, 0, none⟩), .int .i64 n] w fun e w' => e = .returned (.tuple #[]) ∧ w = w' := by
  go_enter Tryd.func63, Tryd.ntmps63
  go_wp2
  exact bodyPost_ret (results_none rfl _ _ _) rfl ⟨rfl, rfl⟩
theorem own_cast {w : World} {base n n' size : Nat} {e : TypeId} {v : Value} {xs xs' : List Value} (h : w.ownsRow base e size v n xs) (hn : n = n') (hx : xs = xs') : w.ownsRow base e size v n' xs' := by subst hn; subst hx; exact h
theorem byte_lo (k : Nat) (h : k < 128) : Value.int .u8 (k : Int) = .int .u8 ((UInt8.ofNat k).toNat : Int) := by rw [toNat_ofNat k (by omega)]
theorem byte_up (k : Nat) : Value.int .u8 ((k : Int) % 128 + 128) = .int .u8 ((UInt8.ofNat (k % 128 + 128)).toNat : Int) := by rw [toNat_ofNat _ (by omega)]; simp
set_option maxHeartbeats 1000000 in
theorem wnum_any (b B : Nat) (n : Nat) (l : List UInt8) (w : World) (h : Wr w b B l) (hn : n < 9223372036854775808) (hl : l.length + 9 ≤ 140737488355328) :
    Calls Tryd.prog 63 #[.pointer (some ⟨b, 0, none⟩), .int .i64 (n : Int)] w fun e w' => e = .returned (.tuple #[]) ∧ Wr w' b B (l ++ vint n) ∧ Below B w w' := by
  obtain ⟨i0, hi, hz0, hz1, hz2⟩ := info_parts info5
  have hv9 := vint_nine n hn
  have h0 : decide ((n : Int) < 0) = false := by simp
  have HH := Lib.hid h
  clear h
  go_enter Tryd.func63, Tryd.ntmps63
  go_wp2
  go_loopw [1] (fun m wr => ∃ k : Nat, ∃ d : List UInt8, k ≤ n ∧ m = .int .i64 k ∧ vint n = d ++ vint k ∧ Wr wr b B (l ++ d) ∧ Below B w wr) (fun m _ => (intOf m).toNat)
  case atStart => exact ⟨n, [], by omega, rfl, rfl, by simpa using HH.out, Below.refl _ _⟩
  case round =>
    obtain ⟨k, d, hk, rfl, hv, hw, hb⟩ := hrel
    obtain ⟨hB, v, his, ho⟩ := hw
    have hd : d.length + 1 ≤ 9 := by
      have := vint_pos k
      have e := congrArg List.length hv
      rw [List.length_append] at e
      omega
    have c0 : wr.cell? ⟨b, 0, none⟩ = some v := his.at_ 0
    have hz : B ≤ wr.heap.size := by have := his.lt; omega
    have HI := Lib.hid his
    have HO := Lib.hid ho
    have HV := Lib.hid hv
    have HW := Lib.hid hb
    have hld : (l ++ d).length ≤ 140737488355327 := by rw [List.length_append]; omega
    clear his ho hv hb HH
    by_cases h128 : 128 ≤ k
    · have hge : decide ((128 : Int) ≤ (k : Int)) = true := by simp; omega
      go_wp2_with (first
        | (at_builtin; have HB := Lib.hid (HO.out.alloc (.cells #[.int .u8 ((k : Int) % 128 + 128)] 5)); have HN := Lib.hid (new_one wr (.int .u8 ((k : Int) % 128 + 128)) 5); refine wpList_append_own _ rfl (.tmp 12) (.tmp 17) 57 rfl B 5 i0 (.int .u8 0) 1 1 Tryd.underlying57 hi hz0 hz1 hz2 rfl (by decide) v (l ++ d).length (bytes (l ++ d)) rfl HB.out ⟨wr.heap.size, 0, none⟩ 1 1 [.int .u8 ((k : Int) % 128 + 128)] rfl rfl HN.out ?c1 ?c3 ?c4 ?c5 ?_))
      case c1 => intro u hu; simp at hu; subst hu; rfl
      case c3 => simp only [maxLen]; omega
      case c4 => omega
      case c5 => simp; omega
      intro v4 w4 hown4 hgr4 _
      obtain ⟨g4, cap4, rfl, -, -⟩ := hown4.form (by omega)
      obtain ⟨s1, s2, s3, s4⟩ := wr_step hB HI.out HO.out (HI.out.alloc _) ((Below.refl _ _).alloc hz _) (by simp; omega) hgr4 hown4
      have c1 : w4.cell? ⟨b, 0, none⟩ = some v := s1.at_ 0
      have f1 := s1.open_ 0
      have S2 := Lib.hid s2
      have S3 := Lib.hid s3
      have S4 := Lib.hid s4
      clear hown4 hgr4 s1 s2 s3 s4
      go_wp2
      go_roundw
      case rel =>
        refine ⟨k / 128, d ++ [UInt8.ofNat (k % 128 + 128)], by omega, by go_num, ?_, ⟨hB, _, S2.out, ?_⟩, HW.out.trans S4.out⟩
        · rw [HV.out, vint_step k h128]; simp
        · have := S3.out
          rw [byte_up] at this
          exact own_cast this (by simp; omega) (by simp [bytes])
      case measure => simp [intOf]; omega
    · have hge : decide ((128 : Int) ≤ (k : Int)) = false := by simp; omega
      have hk128 : k < 128 := by omega
      go_wp2_with (first
        | (at_builtin; have HB := Lib.hid (HO.out.alloc (.cells #[.int .u8 (k : Int)] 5)); have HN := Lib.hid (new_one wr (.int .u8 (k : Int)) 5); refine wpList_append_own _ rfl (.tmp 27) (.tmp 30) 57 rfl B 5 i0 (.int .u8 0) 1 1 Tryd.underlying57 hi hz0 hz1 hz2 rfl (by decide) v (l ++ d).length (bytes (l ++ d)) rfl HB.out ⟨wr.heap.size, 0, none⟩ 1 1 [.int .u8 (k : Int)] rfl rfl HN.out ?c1 ?c3 ?c4 ?c5 ?_))
      case c1 => intro u hu; simp at hu; subst hu; rfl
      case c3 => simp only [maxLen]; omega
      case c4 => omega
      case c5 => simp; omega
      intro v4 w4 hown4 hgr4 _
      obtain ⟨g4, cap4, rfl, -, -⟩ := hown4.form (by omega)
      obtain ⟨s1, s2, s3, s4⟩ := wr_step hB HI.out HO.out (HI.out.alloc _) ((Below.refl _ _).alloc hz _) (by simp; omega) hgr4 hown4
      have c1 : w4.cell? ⟨b, 0, none⟩ = some v := s1.at_ 0
      have f1 := s1.open_ 0
      have S2 := Lib.hid s2
      have S3 := Lib.hid s3
      have S4 := Lib.hid s4
      clear hown4 hgr4 s1 s2 s3 s4
      go_wp2
      go_end0
      refine ⟨rfl, ⟨hB, _, S2.out, ?_⟩, HW.out.trans S4.out⟩
      have := S3.out
      rw [HV.out, vint_small k hk128]
      rw [byte_lo k hk128] at this
      exact own_cast this (by simp; omega) (by simp [bytes])

theorem add_block (a : Addr) (n : Nat) : (a.add n).block = a.block := by
  unfold Addr.add
  split <;> rfl
/-- The slice at A (as long as xs) holds the cells xs, in a block below top. -/
def Row (w : World) (top : Nat) (A : Option Addr) (xs : List Value) : Prop := ∀ k u, xs[k]? = some u → ∃ a, A = some a ∧ a.block < top ∧ w.cell? (a.add k) = some u
theorem Row.below {w w' : World} {top : Nat} {A : Option Addr} {xs : List Value} (h : Row w top A xs) (hb : Below top w w') : Row w' top A xs := fun k u hu => by
  obtain ⟨a, h1, h2, h3⟩ := h k u hu
  exact ⟨a, h1, h2, (hb.cell (p := a.add k) (by rw [add_block]; exact h2)).trans h3⟩
theorem conv_own {w : World} {B : Nat} {v : Value} {l : List UInt8} (h : w.ownsRow B 5 1 v l.length (bytes l)) : (convert 57 9 v).run Tryd.prog w = .ok (.string (mk l)) w := by
  rcases h.2 with ⟨rfl, h0⟩ | ⟨g, cap, cur, rfl, -, -, -⟩
  · obtain rfl := List.eq_nil_of_length_eq_zero h0
    exact Lib.run_convert_nil_bytes w 57 9 5 0 Tryd.underlying57 Tryd.underlying5 Tryd.underlying9
  · refine run_convert_bytes_back (P := Tryd.prog) w 57 9 5 ⟨g, 0, none⟩ cap l Tryd.underlying57 Tryd.underlying5 Tryd.underlying9 (fun j hj => ?_)
    exact h.cells (g := g) rfl j _ (by unfold bytes; rw [List.getElem?_map, List.getElem?_eq_getElem hj]; rfl)
theorem wr_new (w : World) : Wr (w.alloc (.cells #[.slice none 0 0] 99)) w.heap.size w.heap.size [] :=
  ⟨Nat.le_refl _, _, Is.fresh w 99 _, World.ownsRow_nil _ _ _ _⟩
theorem cnum_any (n : Nat) (w : World) (hn : n < 9223372036854775808) :
    Calls Tryd.prog 49 #[.int .i64 (n : Int)] w fun e w' => e = .returned (.string (mk (vint n))) ∧ Below w.heap.size w w' := by
  have C := Lib.hid (wnum_any w.heap.size w.heap.size n [] _ (wr_new w) hn (by simp))
  go_enter Tryd.func49, Tryd.ntmps49
  go_wp2_with (go_at_call 63; refine (C.out).mono ?_; rintro e w1 ⟨rfl, ⟨hB, v, his, ho⟩, h2⟩; have c0 : w1.cell? ⟨w.heap.size, 0, none⟩ = some v := his.at_ 0; have hcv := conv_own ho; have H2 := Lib.hid h2; clear his ho h2)
  go_ret
  exact ⟨rfl, ((Below.refl _ _).alloc (Nat.le_refl _) _).trans H2.out⟩
theorem cnum_neg (n : Int) (w : World) (hn : n < 0) :
    Calls Tryd.prog 49 #[.int .i64 n] w fun e w' => e = .returned (.string (mk [])) ∧ Below w.heap.size w w' := by
  have C := Lib.hid (fun W => wnum_neg w.heap.size n W hn)
  have hcv : (convert 57 9 (.slice none 0 0)).run Tryd.prog (w.alloc (.cells #[.slice none 0 0] 99)) = .ok (.string (mk [])) _ := conv_own (B := w.heap.size) (World.ownsRow_nil _ _ _ _)
  go_enter Tryd.func49, Tryd.ntmps49
  go_wp2_with (go_at_call 63; refine (C.out _).mono ?_; rintro e w1 ⟨rfl, rfl⟩)
  go_ret
  exact ⟨rfl, ((Below.refl _ _).alloc (Nat.le_refl _) _)⟩
theorem cnumE_any (n : Int) (w : World) (hn : n < 9223372036854775808) :
    Calls Tryd.prog 49 #[.int .i64 n] w fun e w' => e = .returned (.string (mk (numE n))) ∧ Below w.heap.size w w' := by
  unfold numE
  by_cases h : n < 0
  · rw [if_pos h]; exact cnum_neg n w h
  · rw [if_neg h]
    have := cnum_any n.toNat w (by omega)
    rw [show ((n.toNat : Nat) : Int) = n by omega] at this
    exact this
end Go.Proofs.YtgamkahbebnnaaaDoor
/-
  What the texts of this stage use of layer 2: opening a reader, the end of the input, worlds joined.
-/
namespace Go.Proofs.YtgamkahbebnnaaaDoor
open Go.RowKit
theorem mkl (l : List UInt8) : (mk l).toList = l := by rw [ByteArray.toList_eq]; rfl
theorem mk_beq (a b : List UInt8) : ((mk a).toList == (mk b).toList) = decide (a = b) := by
  rw [mkl, mkl]
  by_cases h : a = b
  · subst h; simp
  · simp [h]

def doneB : St → Bool
  | none => false
  | some l => l.isEmpty
theorem cdone_any (b : Nat) (st : St) (w : World) (h : Rd w b 106 st) : Calls Tryd.prog 68 #[.pointer (some ⟨b, 0, none⟩)] w fun e w' => e = .returned (.bool (doneB st)) ∧ w = w' := by
  cases st with
  | none => exact done_true b _ w h
  | some l =>
    have := done_false b _ w h
    rw [mkl] at this
    exact this
theorem open_any (l : List UInt8) (w : World) : Calls Tryd.prog 53 #[.string (mk l)] w fun e w' => ∃ b, e = .returned (.pointer (some ⟨b, 0, none⟩)) ∧ w.heap.size ≤ b ∧ Rd w' b 106 (some l) ∧ Below w.heap.size w w' := by
  go_enter Tryd.func53, Tryd.ntmps53
  go_wp2
  go_ret
  exact ⟨_, rfl, Nat.le_refl _, Is.fresh w 106 _, (Below.refl _ _).alloc (Nat.le_refl _) _⟩
theorem bw {B : Nat} {w w1 w2 : World} (h : Below B w w1) (k : Below w1.heap.size w1 w2) (hB : B ≤ w1.heap.size) : Below B w w2 := h.trans (k.mono hB)
theorem bwa {B : Nat} {w w1 w2 : World} (h : Below B w w1) (hB : B ≤ w1.heap.size) (o : Obj) (k : Below (w1.alloc o).heap.size (w1.alloc o) w2) : Below B w w2 := by
  have h1 := h.alloc hB o
  exact bw h1 k (by simp; omega)
end Go.Proofs.YtgamkahbebnnaaaDoor
