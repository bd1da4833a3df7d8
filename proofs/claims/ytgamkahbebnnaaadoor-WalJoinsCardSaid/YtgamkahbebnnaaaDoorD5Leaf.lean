import Derived.Test.YtgamkahbebnnaaaDoorProg
import Derived.Test.YtgamkahbebnnaaaDoorD5Math
import Derived.WalkKit
import Derived.WalkSpells
import Derived.Below
import Derived.OwnWalk
import Derived.Deep.Draws
import Derived.Lib.Hide
import Derived.Lib.AppendStr
import Derived.Laws.OwnMore
import Derived.Deep.Onto
import Derived.Deep.QuietTactic
import Derived.BigQuiet
import Derived.BigRegion
import Derived.LoopTactic
import Derived.Laws.CopyOwn
import Derived.Laws.Rows
import Derived.Deep.MidRow
import Derived.Deep.AppendSrc
import Derived.Lib.BufferRead
/-
  Words for memory in this seat: a block known whole, what a call may have turned, a disk in memory.
-/
namespace Go.Proofs.YtgamkahbebnnaaaDoor.D5
open Go.RowKit

/-- Block g is these cells of type t, none frozen. -/
def Is (w : World) (g : Nat) (t : TypeId) (c : Array Value) : Prop := w.heap[g]? = some (.cells c t (0, 0))
section
variable {w w1 w2 : World} {g : Nat} {t : TypeId} {c : Array Value}
theorem Is.lt (h : Is w g t c) : g < w.heap.size := by
  by_cases hg : g < w.heap.size
  · exact hg
  · exfalso
    unfold Is at h
    rw [Array.getElem?_eq_none (by omega)] at h
    cases h
theorem Is.at_ (h : Is w g t c) (i : Nat) : w.cell? ⟨g, i, none⟩ = c[i]? := cell_of_row w g i c t (0, 0) h
theorem Is.open_ (h : Is w g t c) (i : Nat) : w.frozen? ⟨g, i, none⟩ = false := by
  unfold Is at h
  simp [World.frozen?, h]
theorem Is.put (h : Is w g t c) (i : Nat) (u : Value) : Is (w.setCell ⟨g, i, none⟩ u) g t (c.setIfInBounds i u) := by
  unfold Is at h ⊢
  simp [World.setCell, Array.getElem?_modify, h]
theorem Is.away (h : Is w g t c) {a : Addr} (ha : g ≠ a.block) (u : Value) : Is (w.setCell a u) g t c := (Below.heap_setCell w a u g ha).trans h
theorem Is.fresh (w : World) (t : TypeId) (c : Array Value) : Is (w.alloc (.cells c t)) w.heap.size t c := heap_alloc_new w _
theorem Is.alloc (h : Is w g t c) (o : Obj) : Is (w.alloc o) g t c := (Below.heap_alloc w o g h.lt).trans h
theorem Is.apart {g' : Nat} {t' : TypeId} {c' : Array Value} (h : Is w g t c) (h' : Is w g' t' c') (ht : t ≠ t') : g ≠ g' := by
  intro e
  subst e
  unfold Is at h h'
  rw [h] at h'
  simp only [Option.some.injEq, Obj.cells.injEq] at h'
  exact ht h'.2.1
theorem Is.row_apart {base : Nat} {e : TypeId} {size n : Nat} {v : Value} {xs : List Value} (h : w.ownsRow base e size v n xs) (hg : Is w g t c) (ht : e ≠ t) : v.ownBlock ≠ some g := by
  rcases h.2 with ⟨rfl, _⟩ | ⟨g', cap, cur, rfl, _, hh, _⟩
  · simp [Value.ownBlock]
  · intro he
    have hgg : g = g' := by simpa [Value.ownBlock] using he.symm
    subst hgg
    exact Is.apart (t := e) (c := cur) (g := g) (g' := g) hh hg ht rfl
end
def mk (l : List UInt8) : ByteArray := ⟨l.toArray⟩
def ls (s : ByteArray) : List UInt8 := s.data.toList
theorem mk_ls (s : ByteArray) : mk (ls s) = s := rfl
theorem ls_mk (l : List UInt8) : ls (mk l) = l := rfl
theorem size_mk (l : List UInt8) : (mk l).size = l.length := rfl
theorem ls_length (s : ByteArray) : (ls s).length = s.size := rfl
theorem ls_inj {s t : ByteArray} (h : ls s = ls t) : s = t := by rw [← mk_ls s, h, mk_ls]
def bytes (l : List UInt8) : List Value := l.map fun c => .int .u8 (c.toNat : Int)
theorem bytes_length (l : List UInt8) : (bytes l).length = l.length := by simp [bytes]
theorem bytes_append (l m : List UInt8) : bytes (l ++ m) = bytes l ++ bytes m := by simp [bytes]
theorem bytes_take (l : List UInt8) (n : Nat) : bytes (l.take n) = (bytes l).take n := by simp [bytes, List.map_take]
theorem own_cast {w : World} {base n n' size : Nat} {e : TypeId} {v : Value} {xs xs' : List Value} (h : w.ownsRow base e size v n xs) (hn : n = n') (hx : xs = xs') : w.ownsRow base e size v n' xs' := by subst hn; subst hx; exact h

/-- Only the blocks of F have turned. -/
structure Fr (F : Nat → Prop) (w w' : World) : Prop where
  os : w'.os = w.os
  tape : w'.tape = w.tape
  output : w'.output = w.output
  size : w.heap.size ≤ w'.heap.size
  block : ∀ k, k < w.heap.size → ¬ F k → w'.heap[k]? = w.heap[k]?
section
variable {F G : Nat → Prop} {w w1 w2 : World}
theorem Fr.refl (F : Nat → Prop) (w : World) : Fr F w w := ⟨rfl, rfl, rfl, Nat.le_refl _, fun _ _ _ => rfl⟩
theorem Fr.trans (h : Fr F w w1) (k : Fr G w1 w2) (hG : ∀ i, i < w.heap.size → G i → F i) : Fr F w w2 :=
  ⟨k.os.trans h.os, k.tape.trans h.tape, k.output.trans h.output, Nat.le_trans h.size k.size, fun i hi hn => (k.block i (Nat.lt_of_lt_of_le hi h.size) (fun g => hn (hG i hi g))).trans (h.block i hi hn)⟩
theorem Fr.mono (h : Fr F w w1) (hG : ∀ i, i < w.heap.size → F i → G i) : Fr G w w1 := ⟨h.os, h.tape, h.output, h.size, fun i hi hn => h.block i hi (fun f => hn (hG i hi f))⟩
theorem Fr.of_grown {r : Option Nat} (h : w.grownBy w1 r) (hF : ∀ b, r = some b → F b) : Fr F w w1 :=
  ⟨h.os, h.tape, h.output, h.size, fun i hi hn => h.block i hi (fun e => hn (hF i e.symm))⟩
theorem Fr.of_below {B : Nat} (h : Below B w w1) (hB : w.heap.size ≤ B) : Fr F w w1 := ⟨h.os, h.tape, h.output, h.size, fun i hi _ => h.block i (by omega)⟩
theorem Fr.set (h : Fr F w w1) {b : Nat} (hb : F b) (i : Nat) (u : Value) : Fr F w (w1.setCell ⟨b, i, none⟩ u) :=
  ⟨h.os, h.tape, h.output, by simpa [World.setCell] using h.size, fun k hk hn => (Below.heap_setCell w1 ⟨b, i, none⟩ u k (fun e => hn (by rw [e]; exact hb))).trans (h.block k hk hn)⟩
theorem Fr.setNew (h : Fr F w w1) {b : Nat} (hb : w.heap.size ≤ b) (i : Nat) (u : Value) : Fr F w (w1.setCell ⟨b, i, none⟩ u) :=
  ⟨h.os, h.tape, h.output, by simpa [World.setCell] using h.size, fun k hk hn => (Below.heap_setCell w1 ⟨b, i, none⟩ u k (by show k ≠ b; omega)).trans (h.block k hk hn)⟩
theorem Fr.alloc (h : Fr F w w1) (o : Obj) : Fr F w (w1.alloc o) :=
  ⟨h.os, h.tape, h.output, Nat.le_trans h.size (by simp), fun k hk hn => (Below.heap_alloc w1 o k (Nat.lt_of_lt_of_le hk h.size)).trans (h.block k hk hn)⟩
theorem Fr.drew (h : Fr F w w1) (n : Nat) : Fr F w (w1.drewN n) := ⟨h.os, h.tape, h.output, h.size, h.block⟩
theorem Fr.below (h : Fr F w w1) {B : Nat} (hF : ∀ k, F k → B ≤ k) (hB : B ≤ w.heap.size) : Below B w w1 :=
  ⟨h.os, h.tape, h.output, h.size, fun i hi => h.block i (by omega) (fun f => by have := hF i f; omega)⟩
theorem Fr.is (h : Fr F w w1) {g : Nat} {t : TypeId} {c : Array Value} (hi : Is w g t c) (hg : ¬ F g) : Is w1 g t c := (h.block g hi.lt hg).trans hi
theorem Fr.own (h : Fr F w w1) {base : Nat} {e : TypeId} {size n : Nat} {v : Value} {xs : List Value} (ho : w.ownsRow base e size v n xs) (hg : ∀ k, v.ownBlock = some k → ¬ F k) : w1.ownsRow base e size v n xs := by
  refine ⟨ho.1, ?_⟩
  rcases ho.2 with h1 | ⟨g, cap, cur, rfl, hb, hh, h5⟩
  · exact .inl h1
  · exact .inr ⟨g, cap, cur, rfl, hb, (h.block g (Is.lt (t := e) (c := cur) hh) (hg g rfl)).trans hh, h5⟩
end

/-- A disk's cells. -/
def cellsD (v : Nat → Value) (D : Dk) : Array Value := #[
  v 0, .int .i64 ((D.fs 0).1.length : Nat), v 1, .int .i64 ((D.fs 1).1.length : Nat), v 2, .int .i64 ((D.fs 2).1.length : Nat), v 3, .int .i64 ((D.fs 3).1.length : Nat),
  v 4, .int .i64 ((D.fs 4).1.length : Nat), v 5, .int .i64 ((D.fs 5).1.length : Nat), v 6, .int .i64 ((D.fs 6).1.length : Nat), v 7, .int .i64 ((D.fs 7).1.length : Nat),
  .bool D.down, .int .i64 (D.lost : Nat), .int .i64 (D.left : Nat),
  .int .i64 (D.keep 0), .int .i64 (D.keep 1), .int .i64 (D.keep 2), .int .i64 (D.keep 3), .int .i64 (D.keep 4), .int .i64 (D.keep 5), .int .i64 (D.keep 6), .int .i64 (D.keep 7)]
theorem lt8 {f : Nat} (h : f < 8) : f = 0 ∨ f = 1 ∨ f = 2 ∨ f = 3 ∨ f = 4 ∨ f = 5 ∨ f = 6 ∨ f = 7 := by omega
theorem cellsD_v (v : Nat → Value) (D : Dk) {f : Nat} (h : f < 8) : (cellsD v D)[f * 2]? = some (v f) := by
  rcases lt8 h with rfl | rfl | rfl | rfl | rfl | rfl | rfl | rfl <;> rfl
theorem cellsD_n (v : Nat → Value) (D : Dk) {f : Nat} (h : f < 8) : (cellsD v D)[f * 2 + 1]? = some (.int .i64 ((D.fs f).1.length : Nat)) := by
  rcases lt8 h with rfl | rfl | rfl | rfl | rfl | rfl | rfl | rfl <;> rfl
theorem cellsD_k (v : Nat → Value) (D : Dk) {f : Nat} (h : f < 8) : (cellsD v D)[19 + f]? = some (.int .i64 (D.keep f)) := by
  rcases lt8 h with rfl | rfl | rfl | rfl | rfl | rfl | rfl | rfl <;> rfl
/-- The bytes of file f turn (its durable length stays). -/
theorem cellsD_set_v (v : Nat → Value) (D : Dk) {f : Nat} (h : f < 8) (u : Value) (x : List UInt8 × List UInt8) (hx : x.1.length = (D.fs f).1.length) : (cellsD v D).setIfInBounds (f * 2) u = cellsD (upd v f u) (D.set f x) := by
  rcases lt8 h with rfl | rfl | rfl | rfl | rfl | rfl | rfl | rfl <;> simp [cellsD, Dk.set, upd, hx]
theorem cellsD_set_n (v : Nat → Value) (D : Dk) {f : Nat} (h : f < 8) (n : Int) (x : List UInt8 × List UInt8) (hx : n = (x.1.length : Nat)) : (cellsD v D).setIfInBounds (f * 2 + 1) (.int .i64 n) = cellsD v (D.set f x) := by
  subst hx
  rcases lt8 h with rfl | rfl | rfl | rfl | rfl | rfl | rfl | rfl <;> simp [cellsD, Dk.set, upd]
theorem cellsD_set_both (v : Nat → Value) (D : Dk) {f : Nat} (h : f < 8) (u : Value) (n : Int) (x : List UInt8 × List UInt8) (hx : n = (x.1.length : Nat)) :
    ((cellsD v D).setIfInBounds (f * 2) u).setIfInBounds (f * 2 + 1) (.int .i64 n) = cellsD (upd v f u) (D.set f x) := by
  subst hx
  rcases lt8 h with rfl | rfl | rfl | rfl | rfl | rfl | rfl | rfl <;> simp [cellsD, Dk.set, upd]
/-- A disk in block b, the slices of its files' bytes are v; F holds its blocks. -/
structure Disk (w : World) (b : Nat) (v : Nat → Value) (F : Nat → Prop) (D : Dk) : Prop where
  is : Is w b 63 (cellsD v D)
  own : ∀ f, f < 8 → w.ownsRow 0 5 1 (v f) (D.len f) (bytes (D.all f))
  mem : F b
  row : ∀ f, f < 8 → ∀ k, (v f).ownBlock = some k → F k
  ne : ∀ f g, f < 8 → g < 8 → f ≠ g → ∀ k, (v f).ownBlock = some k → (v g).ownBlock ≠ some k
  lt : ∀ k, F k → k < w.heap.size
  ok : D.Ok
def Has (w : World) (b : Nat) (F : Nat → Prop) (D : Dk) : Prop := ∃ v, Disk w b v F D
section
variable {F G : Nat → Prop} {w w1 w2 : World} {b : Nat} {v : Nat → Value} {D D' : Dk}
theorem Disk.kept (h : Disk w b v F D) (hf : Fr G w w1) (hd : ∀ k, F k → ¬ G k) : Disk w1 b v F D :=
  ⟨hf.is h.is (hd b h.mem), fun f hf8 => hf.own (h.own f hf8) (fun k hk => hd k (h.row f hf8 k hk)), h.mem, h.row, h.ne, fun k hk => Nat.lt_of_lt_of_le (h.lt k hk) hf.size, h.ok⟩
theorem Has.kept (h : Has w b F D) (hf : Fr G w w1) (hd : ∀ k, F k → ¬ G k) : Has w1 b F D := by
  obtain ⟨v, h⟩ := h
  exact ⟨v, h.kept hf hd⟩
theorem Has.lt (h : Has w b F D) : ∀ k, F k → k < w.heap.size := by
  obtain ⟨v, h⟩ := h
  exact h.lt
theorem Has.ok (h : Has w b F D) : D.Ok := by
  obtain ⟨v, h⟩ := h
  exact h.ok
theorem cellsD_congr (v : Nat → Value) (h1 : ∀ f, f < 8 → D.fs f = D'.fs f) (h2 : D.down = D'.down) (h3 : D.lost = D'.lost) (h4 : D.left = D'.left) (h5 : ∀ f, f < 8 → D.keep f = D'.keep f) : cellsD v D = cellsD v D' := by
  unfold cellsD
  rw [h1 0 (by omega), h1 1 (by omega), h1 2 (by omega), h1 3 (by omega), h1 4 (by omega), h1 5 (by omega), h1 6 (by omega), h1 7 (by omega), h2, h3, h4,
    h5 0 (by omega), h5 1 (by omega), h5 2 (by omega), h5 3 (by omega), h5 4 (by omega), h5 5 (by omega), h5 6 (by omega), h5 7 (by omega)]
theorem Disk.congr (h : Disk w b v F D) (h1 : ∀ f, f < 8 → D.fs f = D'.fs f) (h2 : D.down = D'.down) (h3 : D.lost = D'.lost) (h4 : D.left = D'.left) (h5 : ∀ f, f < 8 → D.keep f = D'.keep f) : Disk w b v F D' :=
  ⟨cellsD_congr v h1 h2 h3 h4 h5 ▸ h.is, fun f hf => own_cast (h.own f hf) (by unfold Dk.len; rw [h1 f hf]) (by unfold Dk.all; rw [h1 f hf]), h.mem, h.row, h.ne, h.lt,
    ⟨h3 ▸ h.ok.lost, h4 ▸ h.ok.left, fun f hf => by have := h.ok.len f hf; unfold Dk.len at this ⊢; rw [← h1 f hf]; exact this⟩⟩
theorem Disk.cv (h : Disk w b v F D) {f : Nat} (hf : f < 8) : w.cell? ⟨b, f * 2, none⟩ = some (v f) := (h.is.at_ _).trans (cellsD_v v D hf)
theorem Disk.cn (h : Disk w b v F D) {f : Nat} (hf : f < 8) : w.cell? ⟨b, f * 2 + 1, none⟩ = some (.int .i64 ((D.fs f).1.length : Nat)) := (h.is.at_ _).trans (cellsD_n v D hf)
theorem Disk.cdown (h : Disk w b v F D) : w.cell? ⟨b, 16, none⟩ = some (.bool D.down) := h.is.at_ 16
theorem Disk.clost (h : Disk w b v F D) : w.cell? ⟨b, 17, none⟩ = some (.int .i64 (D.lost : Nat)) := h.is.at_ 17
theorem Disk.cleft (h : Disk w b v F D) : w.cell? ⟨b, 18, none⟩ = some (.int .i64 (D.left : Nat)) := h.is.at_ 18
theorem Disk.ck (h : Disk w b v F D) {f : Nat} (hf : f < 8) : w.cell? ⟨b, 19 + f, none⟩ = some (.int .i64 (D.keep f)) := (h.is.at_ _).trans (cellsD_k v D hf)
theorem own_form {w : World} {base : Nat} {e : TypeId} {size n : Nat} {v : Value} {xs : List Value} (h : w.ownsRow base e size v n xs) : ∃ A cap, v = .slice A n cap ∧ (A = none → n = 0) := by
  rcases h.2 with ⟨rfl, rfl⟩ | ⟨g, cap, cur, rfl, _⟩
  · exact ⟨none, 0, rfl, fun _ => rfl⟩
  · exact ⟨some ⟨g, 0, none⟩, cap, rfl, fun e => by cases e⟩
theorem Disk.form (h : Disk w b v F D) {f : Nat} (hf : f < 8) : ∃ A cap, v f = .slice A (D.len f) cap ∧ w.cell? ⟨b, f * 2, none⟩ = some (.slice A (D.len f) cap) := by
  obtain ⟨A, cap, e, _⟩ := own_form (h.own f hf)
  exact ⟨A, cap, e, by rw [← e]; exact h.cv hf⟩
/-- A turn of the block's own cells that leaves the files' bytes. -/
theorem Disk.turn (h : Disk w b v F D) {i : Nat} {u : Value} (hc : (cellsD v D).setIfInBounds i u = cellsD v D') (ha : ∀ f, f < 8 → D'.all f = D.all f) (ho : D'.Ok) : Disk (w.setCell ⟨b, i, none⟩ u) b v F D' := by
  have hf : Fr (fun k => k = b) w (w.setCell ⟨b, i, none⟩ u) := (Fr.refl (fun k => k = b) w).set (b := b) rfl i u
  refine ⟨hc ▸ h.is.put i u, fun f hf8 => ?_, h.mem, h.row, h.ne, fun k hk => Nat.lt_of_lt_of_le (h.lt k hk) hf.size, ho⟩
  have hl : D'.len f = D.len f := by rw [← Dk.all_length, ← Dk.all_length, ha f hf8]
  exact own_cast (hf.own (h.own f hf8) (fun k hk e => Is.row_apart (h.own f hf8) h.is (by decide) (by rw [hk, e]))) hl.symm (by rw [ha f hf8])
end
end Go.Proofs.YtgamkahbebnnaaaDoor.D5
/-
  The disk's readers: isFile, Down, Size, Read, Start, Lose.
-/
namespace Go.Proofs.YtgamkahbebnnaaaDoor.D5
open Go.RowKit
theorem isFile_any (f : Int) (w : World) : Calls Tryd.prog 44 #[.int .i64 f] w fun e w' => e = .returned (.bool (isF f)) ∧ w' = w := by
  by_cases h1 : 0 ≤ f
  · have i1 : decide (0 ≤ f) = true := by simp; omega
    by_cases h2 : f < 8
    · have i2 : decide (f < 8) = true := by simp; omega
      go_enter Tryd.func44, Tryd.ntmps44
      go_wp2
      go_ret
      exact ⟨by rw [(isF_iff f).2 ⟨h1, h2⟩]; rfl, rfl⟩
    · have i2 : decide (f < 8) = false := by simp; omega
      go_enter Tryd.func44, Tryd.ntmps44
      go_wp2
      go_ret
      exact ⟨by rw [(isF_not f).2 (by omega)]; rfl, rfl⟩
  · have i1 : decide (0 ≤ f) = false := by simp; omega
    go_enter Tryd.func44, Tryd.ntmps44
    go_wp2
    go_ret
    exact ⟨by rw [(isF_not f).2 (by omega)]; rfl, rfl⟩
theorem down_any (b : Nat) (D : Dk) (F : Nat → Prop) (w : World) (h : Has w b F D) : Calls Tryd.prog 17 #[.pointer (some ⟨b, 0, none⟩)] w fun e w' => e = .returned (.bool D.down) ∧ w' = w := by
  obtain ⟨v, h⟩ := h
  have c1 := h.cdown
  go_enter Tryd.func17, Tryd.ntmps17
  go_wp2
  go_ret
  exact ⟨rfl, rfl⟩
theorem size_any (b : Nat) (D : Dk) (F : Nat → Prop) (f : Int) (w : World) (h : Has w b F D) : Calls Tryd.prog 25 #[.pointer (some ⟨b, 0, none⟩), .int .i64 f] w fun e w' => e = .returned (.int .i64 (D.size f : Nat)) ∧ w' = w := by
  obtain ⟨v, h⟩ := h
  have I := isFile_any f w
  cases hf : isF f
  · rw [hf] at I
    go_enter Tryd.func25, Tryd.ntmps25
    go_wp2_with (first | (go_at_call 44; refine I.mono ?_; rintro e w1 ⟨rfl, rfl⟩))
    go_ret
    exact ⟨by simp [Dk.size, hf], rfl⟩
  · rw [hf] at I
    obtain ⟨h1, h2⟩ := (isF_iff f).1 hf
    obtain ⟨n, rfl⟩ := Int.eq_ofNat_of_zero_le h1
    have hn : n < 8 := by omega
    obtain ⟨A, cap, e1, c1⟩ := h.form hn
    have hh := Lib.hid h
    clear h
    go_enter Tryd.func25, Tryd.ntmps25
    go_wp2_with (first | (go_at_call 44; refine I.mono ?_; rintro e w1 ⟨rfl, rfl⟩))
    go_ret
    exact ⟨by simp [Dk.size, hf], rfl⟩
theorem own_read {w : World} {base n : Nat} {e : TypeId} {v : Value} {xs : List Value} (h : w.ownsRow base e 1 v n xs) : ∃ A cap, v = .slice A n cap ∧ (∀ k u, xs[k]? = some u → ∃ a, A = some a ∧ w.cell? (a.add k) = some u) ∧ xs.length = n := by
  have hl : xs.length = n := by have := h.1; omega
  rcases h.2 with ⟨rfl, rfl⟩ | ⟨g, cap, cur, rfl, h2, h3, h4, h5, h6, h7⟩
  · obtain rfl := List.eq_nil_of_length_eq_zero hl
    exact ⟨none, 0, rfl, fun k u hk => by simp at hk, rfl⟩
  · refine ⟨some ⟨g, 0, none⟩, cap, rfl, fun k u hk => ⟨_, rfl, ?_⟩, hl⟩
    exact World.ownsRow.cells (w := w) (base := base) (e := e) (size := 1) (v := .slice (some ⟨g, 0, none⟩) n cap) (n := n) (xs := xs) ⟨h.1, .inr ⟨g, cap, cur, rfl, h2, h3, h4, h5, h6, h7⟩⟩ rfl k u hk
theorem start_any (b : Nat) (D : Dk) (F : Nat → Prop) (w : World) (h : Has w b F D) : Calls Tryd.prog 28 #[.pointer (some ⟨b, 0, none⟩)] w fun e w' => e = .returned (.tuple #[]) ∧ Has w' b F D.start ∧ Fr F w w' := by
  obtain ⟨v, h⟩ := h
  have c1 := h.cdown
  have f1 := h.is.open_ 16
  have h' : Disk (w.setCell ⟨b, 16, none⟩ (.bool false)) b v F D.start := h.turn (by simp [cellsD, Dk.start]) (fun _ _ => rfl) ⟨h.ok.lost, h.ok.left, h.ok.len⟩
  have hf : Fr F w (w.setCell ⟨b, 16, none⟩ (.bool false)) := (Fr.refl F w).set h.mem 16 _
  have hh := Lib.hid h
  clear h
  go_enter Tryd.func28, Tryd.ntmps28
  go_wp2
  go_end0
  exact ⟨rfl, ⟨v, h'⟩, hf⟩
theorem lose_any (b : Nat) (D : Dk) (F : Nat → Prop) (n : Int) (w : World) (h : Has w b F D) (hn : n < 9223372036854775808) : Calls Tryd.prog 15 #[.pointer (some ⟨b, 0, none⟩), .int .i64 n] w fun e w' => e = .returned (.tuple #[]) ∧ Has w' b F (D.lose n) ∧ Fr F w w' := by
  obtain ⟨v, h⟩ := h
  have c1 := h.clost
  have f1 := h.is.open_ 17
  have h' : Hid (∀ z : Int, z = (n.toNat : Nat) → Disk (w.setCell ⟨b, 17, none⟩ (.int .i64 z)) b v F (D.lose n)) := Lib.hid (by
    rintro _ rfl
    exact h.turn (by simp [cellsD, Dk.lose]) (fun _ _ => rfl) ⟨by show n.toNat < _; omega, h.ok.left, h.ok.len⟩)
  have hf : Hid (∀ z : Int, Fr F w (w.setCell ⟨b, 17, none⟩ (.int .i64 z))) := Lib.hid (fun z => (Fr.refl F w).set h.mem 17 _)
  have hh := Lib.hid h
  clear h
  go_enter Tryd.func15, Tryd.ntmps15
  go_wp2
  all_goals
    go_end0
    exact ⟨rfl, ⟨v, h'.out _ (by omega)⟩, hf.out _⟩
end Go.Proofs.YtgamkahbebnnaaaDoor.D5
/-
  The leaves: an array of eight out of a slice of ints (ofEach), a copy of a slice of bytes (Clone), truncate, Read.
-/
namespace Go.Proofs.YtgamkahbebnnaaaDoor.D5
open Go.RowKit
def ints (xs : List Int) : List Value := xs.map fun n => .int .i64 n
theorem ints_length (xs : List Int) : (ints xs).length = xs.length := by simp [ints]
/-- The cells us lie at A. -/
def RowAt (w : World) (A : Option Addr) (us : List Value) : Prop := ∀ k u, us[k]? = some u → ∃ a, A = some a ∧ w.cell? (a.add k) = some u
theorem add_block (a : Addr) (n : Nat) : (a.add n).block = a.block := by
  unfold Addr.add
  split <;> rfl
theorem RowAt.alloc {w : World} {A : Option Addr} {us : List Value} (h : RowAt w A us) (o : Obj) : RowAt (w.alloc o) A us := fun k u hk => by
  obtain ⟨a, h1, h2⟩ := h k u hk
  refine ⟨a, h1, ?_⟩
  rw [World.cell?_alloc_lt _ _ _ (World.block_lt_of_cell? w _ h2)]
  exact h2
theorem RowAt.kept {F : Nat → Prop} {w w1 : World} {A : Option Addr} {us : List Value} (h : RowAt w A us) (hf : Fr F w w1) (hA : ∀ a, A = some a → ¬ F a.block) : RowAt w1 A us := fun k u hk => by
  obtain ⟨a, h1, h2⟩ := h k u hk
  refine ⟨a, h1, ?_⟩
  have hb := World.block_lt_of_cell? w _ h2
  rw [add_block] at hb
  have he : w1.heap[(a.add k).block]? = w.heap[(a.add k).block]? := by
    rw [add_block]
    exact hf.block a.block hb (hA a h1)
  exact (World.cell?_of_block he).trans h2
theorem RowAt.nil (w : World) (A : Option Addr) : RowAt w A [] := fun k u hk => by simp at hk
theorem info3 : (Tryd.prog.info? 3).map (·.size) = some 1 := by kernel_rfl
theorem info55 : (Tryd.prog.info? 61).map (·.size) = some 8 := by kernel_rfl
def eight (k : Nat → Int) : Array Value := #[.int .i64 (k 0), .int .i64 (k 1), .int .i64 (k 2), .int .i64 (k 3), .int .i64 (k 4), .int .i64 (k 5), .int .i64 (k 6), .int .i64 (k 7)]
theorem eight_at (k : Nat → Int) {f : Nat} (h : f < 8) : (eight k)[f]? = some (.int .i64 (k f)) := by
  rcases lt8 h with rfl | rfl | rfl | rfl | rfl | rfl | rfl | rfl <;> rfl
theorem eight_splice (xs : List Int) : (splice [Value.int .i64 0, .int .i64 0, .int .i64 0, .int .i64 0, .int .i64 0, .int .i64 0, .int .i64 0, .int .i64 0] 0 (ints (xs.take 8))).toArray = eight (kf xs) := by
  rcases xs with _ | ⟨a0, _ | ⟨a1, _ | ⟨a2, _ | ⟨a3, _ | ⟨a4, _ | ⟨a5, _ | ⟨a6, _ | ⟨a7, r⟩⟩⟩⟩⟩⟩⟩⟩ <;> rfl
abbrev Z8 : List Value := [.int .i64 0, .int .i64 0, .int .i64 0, .int .i64 0, .int .i64 0, .int .i64 0, .int .i64 0, .int .i64 0]
abbrev O8 : Obj := .cells #[.int .i64 0, .int .i64 0, .int .i64 0, .int .i64 0, .int .i64 0, .int .i64 0, .int .i64 0, .int .i64 0] 61
theorem Is.below {w w1 : World} {g B : Nat} {t : TypeId} {c : Array Value} (h : Is w g t c) (hb : Below B w w1) (hg : g < B) : Is w1 g t c := (hb.block g hg).trans h
theorem eight_one (k : Nat → Int) : (eight k).all (·.oneCell') = true := by
  rw [Array.all_eq_true_iff_forall_mem]
  intro v hv
  simp only [eight, List.mem_toArray, List.mem_cons, List.not_mem_nil, or_false] at hv
  rcases hv with rfl | rfl | rfl | rfl | rfl | rfl | rfl | rfl <;> rfl
set_option maxRecDepth 20000 in
theorem ofEach_any (A : Option Addr) (cap : Nat) (xs : List Int) (w : World) (h : RowAt w A (ints xs)) :
    Calls Tryd.prog 40 #[.slice A xs.length cap] w fun e w' => e = .returned (.agg (eight (kf xs))) ∧ Below w.heap.size w w' := by
  obtain ⟨cs, hcs⟩ : ∃ cs, cs = ints (xs.take 8) := ⟨_, rfl⟩
  have hl : cs.length = Nat.min xs.length 8 := by rw [hcs, ints_length, List.length_take, Nat.min_comm]
  have hl8 : cs.length ≤ 8 := by rw [hl]; exact Nat.min_le_right _ _
  have hZ : (splice Z8 0 cs).toArray = eight (kf xs) := by rw [hcs]; exact eight_splice xs
  have hc1 : ∀ v ∈ cs, v.oneCell' = true := by
    rw [hcs]
    intro v hv
    simp only [ints, List.mem_map] at hv
    obtain ⟨z, _, rfl⟩ := hv
    rfl
  have hsrc : ∀ (j : Nat) (v : Value), cs[j]? = some v → (ints xs)[j]? = some v := by
    intro j v hv
    rw [hcs] at hv
    simp only [ints, List.getElem?_map, List.getElem?_take] at hv ⊢
    split at hv
    · exact hv
    · simp at hv
  have hpos : 0 < cs.length → ∃ ad, A = some ad ∧ ∀ (j : Nat) (v : Value), cs[j]? = some v → ((w.alloc O8).alloc O8).cell? (ad.add j) = some v := by
    intro h0
    have e0 : cs[0]? = some cs[0] := List.getElem?_eq_getElem h0
    obtain ⟨ad, rfl, _⟩ := h 0 _ (hsrc 0 _ e0)
    refine ⟨ad, rfl, fun j v hv => ?_⟩
    obtain ⟨a, ha, hc⟩ := ((h.alloc O8).alloc O8) j v (hsrc j v hv)
    cases ha
    exact hc
  have C1 := Lib.hid hc1
  have HL := Lib.hid hl
  have HZ := Lib.hid hZ
  have HS := Lib.hid hpos
  have H0 := Lib.hid ((Is.fresh w 61 #[.int .i64 0, .int .i64 0, .int .i64 0, .int .i64 0, .int .i64 0, .int .i64 0, .int .i64 0, .int .i64 0]).alloc O8)
  have H1 := Lib.hid (Is.fresh (w.alloc O8) 61 #[.int .i64 0, .int .i64 0, .int .i64 0, .int .i64 0, .int .i64 0, .int .i64 0, .int .i64 0, .int .i64 0])
  have HB := Lib.hid (((Below.refl w.heap.size w).alloc (Nat.le_refl _) O8))
  have HN := Lib.hid ((Below.refl (w.heap.size + 1) (w.alloc O8)).alloc (by simp) O8)
  have HQ : Hid ((w.alloc O8).heap.size = w.heap.size + 1) := Lib.hid (by simp)
  have HI := Lib.hid info55
  clear hcs hl hZ hc1 hsrc h hpos
  go_enter Tryd.func40, Tryd.ntmps40
  go_wp2_with ((refine wpList_copy_splice rfl (.tmp 4) (.tmp 5) 23 23 rfl 3 Tryd.underlying23 info3 (some ⟨w.heap.size + 1, 0, none⟩) A 8 8 xs.length cap rfl rfl (w.heap.size + 1) 0 Z8 61 ?c0 cs HL.out ?c1 ?c2 C1.out (w.heap.size + 1) (w.alloc O8) ?c3 ?c4 ?_))
  case c0 => have := H1.out; rw [Is, HQ.out] at this; exact this
  case c1 => exact fun h0 => HS.out h0
  case c2 => show 0 + cs.length ≤ 8; omega
  case c3 => exact HN.out
  case c4 => omega
  intro w2 hg2 hb2
  have J1 : Hid (Is w2 (w.heap.size + 1) 61 (eight (kf xs))) := Lib.hid (by rw [← HZ.out]; exact hg2.out)
  have J0 : Hid (Is w2 w.heap.size 61 #[.int .i64 0, .int .i64 0, .int .i64 0, .int .i64 0, .int .i64 0, .int .i64 0, .int .i64 0, .int .i64 0]) := Lib.hid (((Is.fresh w 61 _)).below hb2 (by omega))
  have J2 := Lib.hid (HB.out.trans (hb2.mono (by omega)))
  clear hg2 hb2
  go_wp2_with (first
    | (refine wpList_load_row rfl 61 _ rfl (w.heap.size + 1) rfl 61 (eight (kf xs)) (0, 0) _ J1.out Tryd.underlying61 rfl HI.out ?_)
    | (refine wpList_store_row rfl 61 _ _ rfl w.heap.size (eight (kf xs)) rfl rfl 61 #[.int .i64 0, .int .i64 0, .int .i64 0, .int .i64 0, .int .i64 0, .int .i64 0, .int .i64 0, .int .i64 0] J0.out HI.out rfl (eight_one _) ?_))
  refine bodyPost_ret (v := .agg (eight (kf xs))) (results_cell_row rfl _ _ w.heap.size 61 _ (0, 0) _ rfl (setRow_heap _ _ _ _ 61 _ J0.out) Tryd.underlying61 rfl HI.out) rfl ⟨rfl, below_setRow J2.out (Nat.le_refl _) _⟩
end Go.Proofs.YtgamkahbebnnaaaDoor.D5
