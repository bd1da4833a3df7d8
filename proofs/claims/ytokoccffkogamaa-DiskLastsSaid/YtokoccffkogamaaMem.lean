/-
  Words for memory in this seat: a block known whole, what a call may have turned, a disk in memory.
-/
import Derived.Test.YtokoccffkogamaaProg
import Derived.Test.YtokoccffkogamaaMath
import Derived.WalkKit
import Derived.WalkSpells
import Derived.Below
import Derived.OwnWalk
import Derived.Deep.Draws
import Derived.Lib.Hide
import Derived.Lib.AppendStr
import Derived.Laws.OwnMore
import Derived.Deep.Onto
namespace Go.Proofs.Ytokoccffkogamaa
open Go.RowKit

/-- Block g is these cells of type t, none frozen. -/
def Is (w : World) (g : Nat) (t : TypeId) (c : Array Value) : Prop := w.heap[g]? = some (.cells c t (0, 0))
section
variable {w w1 w2 : World} {g : Nat} {t : TypeId} {c : Array Value}
theorem Is.lt (h : Is w g t c) : g < w.heap.size := by
  by_cases hg : g < w.heap.size
  · exact hg
  · exfalso
    unfold Is at h
    rw [Array.getElem?_eq_none (by omega)] at h
    cases h
theorem Is.at_ (h : Is w g t c) (i : Nat) : w.cell? ⟨g, i, none⟩ = c[i]? := cell_of_row w g i c t (0, 0) h
theorem Is.open_ (h : Is w g t c) (i : Nat) : w.frozen? ⟨g, i, none⟩ = false := by
  unfold Is at h
  simp [World.frozen?, h]
theorem Is.put (h : Is w g t c) (i : Nat) (u : Value) : Is (w.setCell ⟨g, i, none⟩ u) g t (c.setIfInBounds i u) := by
  unfold Is at h ⊢
  simp [World.setCell, Array.getElem?_modify, h]
theorem Is.away (h : Is w g t c) {a : Addr} (ha : g ≠ a.block) (u : Value) : Is (w.setCell a u) g t c := (Below.heap_setCell w a u g ha).trans h
theorem Is.fresh (w : World) (t : TypeId) (c : Array Value) : Is (w.alloc (.cells c t)) w.heap.size t c := heap_alloc_new w _
theorem Is.alloc (h : Is w g t c) (o : Obj) : Is (w.alloc o) g t c := (Below.heap_alloc w o g h.lt).trans h
theorem Is.apart {g' : Nat} {t' : TypeId} {c' : Array Value} (h : Is w g t c) (h' : Is w g' t' c') (ht : t ≠ t') : g ≠ g' := by
  intro e
  subst e
  unfold Is at h h'
  rw [h] at h'
  simp only [Option.some.injEq, Obj.cells.injEq] at h'
  exact ht h'.2.1
theorem Is.row_apart {base : Nat} {e : TypeId} {size n : Nat} {v : Value} {xs : List Value} (h : w.ownsRow base e size v n xs) (hg : Is w g t c) (ht : e ≠ t) : v.ownBlock ≠ some g := by
  rcases h.2 with ⟨rfl, _⟩ | ⟨g', cap, cur, rfl, _, hh, _⟩
  · simp [Value.ownBlock]
  · intro he
    have hgg : g = g' := by simpa [Value.ownBlock] using he.symm
    subst hgg
    exact Is.apart (t := e) (c := cur) (g := g) (g' := g) hh hg ht rfl
end
def mk (l : List UInt8) : ByteArray := ⟨l.toArray⟩
def ls (s : ByteArray) : List UInt8 := s.data.toList
theorem mk_ls (s : ByteArray) : mk (ls s) = s := rfl
theorem ls_mk (l : List UInt8) : ls (mk l) = l := rfl
theorem size_mk (l : List UInt8) : (mk l).size = l.length := rfl
theorem ls_length (s : ByteArray) : (ls s).length = s.size := rfl
theorem ls_inj {s t : ByteArray} (h : ls s = ls t) : s = t := by rw [← mk_ls s, h, mk_ls]
def bytes (l : List UInt8) : List Value := l.map fun c => .int .u8 (c.toNat : Int)
theorem bytes_length (l : List UInt8) : (bytes l).length = l.length := by simp [bytes]
theorem bytes_append (l m : List UInt8) : bytes (l ++ m) = bytes l ++ bytes m := by simp [bytes]
theorem bytes_take (l : List UInt8) (n : Nat) : bytes (l.take n) = (bytes l).take n := by simp [bytes, List.map_take]
theorem own_cast {w : World} {base n n' size : Nat} {e : TypeId} {v : Value} {xs xs' : List Value} (h : w.ownsRow base e size v n xs) (hn : n = n') (hx : xs = xs') : w.ownsRow base e size v n' xs' := by subst hn; subst hx; exact h

/-- Only the blocks of F have turned. -/
structure Fr (F : Nat → Prop) (w w' : World) : Prop where
  os : w'.os = w.os
  tape : w'.tape = w.tape
  output : w'.output = w.output
  size : w.heap.size ≤ w'.heap.size
  block : ∀ k, k < w.heap.size → ¬ F k → w'.heap[k]? = w.heap[k]?
section
variable {F G : Nat → Prop} {w w1 w2 : World}
theorem Fr.refl (F : Nat → Prop) (w : World) : Fr F w w := ⟨rfl, rfl, rfl, Nat.le_refl _, fun _ _ _ => rfl⟩
theorem Fr.trans (h : Fr F w w1) (k : Fr G w1 w2) (hG : ∀ i, i < w.heap.size → G i → F i) : Fr F w w2 :=
  ⟨k.os.trans h.os, k.tape.trans h.tape, k.output.trans h.output, Nat.le_trans h.size k.size, fun i hi hn => (k.block i (Nat.lt_of_lt_of_le hi h.size) (fun g => hn (hG i hi g))).trans (h.block i hi hn)⟩
theorem Fr.mono (h : Fr F w w1) (hG : ∀ i, i < w.heap.size → F i → G i) : Fr G w w1 := ⟨h.os, h.tape, h.output, h.size, fun i hi hn => h.block i hi (fun f => hn (hG i hi f))⟩
theorem Fr.of_grown {r : Option Nat} (h : w.grownBy w1 r) (hF : ∀ b, r = some b → F b) : Fr F w w1 :=
  ⟨h.os, h.tape, h.output, h.size, fun i hi hn => h.block i hi (fun e => hn (hF i e.symm))⟩
theorem Fr.of_below {B : Nat} (h : Below B w w1) (hB : w.heap.size ≤ B) : Fr F w w1 := ⟨h.os, h.tape, h.output, h.size, fun i hi _ => h.block i (by omega)⟩
theorem Fr.set (h : Fr F w w1) {b : Nat} (hb : F b) (i : Nat) (u : Value) : Fr F w (w1.setCell ⟨b, i, none⟩ u) :=
  ⟨h.os, h.tape, h.output, by simpa [World.setCell] using h.size, fun k hk hn => (Below.heap_setCell w1 ⟨b, i, none⟩ u k (fun e => hn (by rw [e]; exact hb))).trans (h.block k hk hn)⟩
theorem Fr.setNew (h : Fr F w w1) {b : Nat} (hb : w.heap.size ≤ b) (i : Nat) (u : Value) : Fr F w (w1.setCell ⟨b, i, none⟩ u) :=
  ⟨h.os, h.tape, h.output, by simpa [World.setCell] using h.size, fun k hk hn => (Below.heap_setCell w1 ⟨b, i, none⟩ u k (by show k ≠ b; omega)).trans (h.block k hk hn)⟩
theorem Fr.alloc (h : Fr F w w1) (o : Obj) : Fr F w (w1.alloc o) :=
  ⟨h.os, h.tape, h.output, Nat.le_trans h.size (by simp), fun k hk hn => (Below.heap_alloc w1 o k (Nat.lt_of_lt_of_le hk h.size)).trans (h.block k hk hn)⟩
theorem Fr.drew (h : Fr F w w1) (n : Nat) : Fr F w (w1.drewN n) := ⟨h.os, h.tape, h.output, h.size, h.block⟩
theorem Fr.below (h : Fr F w w1) {B : Nat} (hF : ∀ k, F k → B ≤ k) (hB : B ≤ w.heap.size) : Below B w w1 :=
  ⟨h.os, h.tape, h.output, h.size, fun i hi => h.block i (by omega) (fun f => by have := hF i f; omega)⟩
theorem Fr.is (h : Fr F w w1) {g : Nat} {t : TypeId} {c : Array Value} (hi : Is w g t c) (hg : ¬ F g) : Is w1 g t c := (h.block g hi.lt hg).trans hi
theorem Fr.own (h : Fr F w w1) {base : Nat} {e : TypeId} {size n : Nat} {v : Value} {xs : List Value} (ho : w.ownsRow base e size v n xs) (hg : ∀ k, v.ownBlock = some k → ¬ F k) : w1.ownsRow base e size v n xs := by
  refine ⟨ho.1, ?_⟩
  rcases ho.2 with h1 | ⟨g, cap, cur, rfl, hb, hh, h5⟩
  · exact .inl h1
  · exact .inr ⟨g, cap, cur, rfl, hb, (h.block g (Is.lt (t := e) (c := cur) hh) (hg g rfl)).trans hh, h5⟩
end

/-- A disk's cells. -/
def cellsD (v : Nat → Value) (D : Dk) : Array Value := #[
  v 0, .int .i64 ((D.fs 0).1.length : Nat), v 1, .int .i64 ((D.fs 1).1.length : Nat), v 2, .int .i64 ((D.fs 2).1.length : Nat), v 3, .int .i64 ((D.fs 3).1.length : Nat),
  v 4, .int .i64 ((D.fs 4).1.length : Nat), v 5, .int .i64 ((D.fs 5).1.length : Nat), v 6, .int .i64 ((D.fs 6).1.length : Nat), v 7, .int .i64 ((D.fs 7).1.length : Nat),
  .bool D.down, .int .i64 (D.lost : Nat), .int .i64 (D.left : Nat),
  .int .i64 (D.keep 0), .int .i64 (D.keep 1), .int .i64 (D.keep 2), .int .i64 (D.keep 3), .int .i64 (D.keep 4), .int .i64 (D.keep 5), .int .i64 (D.keep 6), .int .i64 (D.keep 7)]
theorem lt8 {f : Nat} (h : f < 8) : f = 0 ∨ f = 1 ∨ f = 2 ∨ f = 3 ∨ f = 4 ∨ f = 5 ∨ f = 6 ∨ f = 7 := by omega
theorem cellsD_v (v : Nat → Value) (D : Dk) {f : Nat} (h : f < 8) : (cellsD v D)[f * 2]? = some (v f) := by
  rcases lt8 h with rfl | rfl | rfl | rfl | rfl | rfl | rfl | rfl <;> rfl
theorem cellsD_n (v : Nat → Value) (D : Dk) {f : Nat} (h : f < 8) : (cellsD v D)[f * 2 + 1]? = some (.int .i64 ((D.fs f).1.length : Nat)) := by
  rcases lt8 h with rfl | rfl | rfl | rfl | rfl | rfl | rfl | rfl <;> rfl
theorem cellsD_k (v : Nat → Value) (D : Dk) {f : Nat} (h : f < 8) : (cellsD v D)[19 + f]? = some (.int .i64 (D.keep f)) := by
  rcases lt8 h with rfl | rfl | rfl | rfl | rfl | rfl | rfl | rfl <;> rfl
/-- The bytes of file f turn (its durable length stays). -/
theorem cellsD_set_v (v : Nat → Value) (D : Dk) {f : Nat} (h : f < 8) (u : Value) (x : List UInt8 × List UInt8) (hx : x.1.length = (D.fs f).1.length) : (cellsD v D).setIfInBounds (f * 2) u = cellsD (upd v f u) (D.set f x) := by
  rcases lt8 h with rfl | rfl | rfl | rfl | rfl | rfl | rfl | rfl <;> simp [cellsD, Dk.set, upd, hx]
theorem cellsD_set_n (v : Nat → Value) (D : Dk) {f : Nat} (h : f < 8) (n : Int) (x : List UInt8 × List UInt8) (hx : n = (x.1.length : Nat)) : (cellsD v D).setIfInBounds (f * 2 + 1) (.int .i64 n) = cellsD v (D.set f x) := by
  subst hx
  rcases lt8 h with rfl | rfl | rfl | rfl | rfl | rfl | rfl | rfl <;> simp [cellsD, Dk.set, upd]
theorem cellsD_set_both (v : Nat → Value) (D : Dk) {f : Nat} (h : f < 8) (u : Value) (n : Int) (x : List UInt8 × List UInt8) (hx : n = (x.1.length : Nat)) :
    ((cellsD v D).setIfInBounds (f * 2) u).setIfInBounds (f * 2 + 1) (.int .i64 n) = cellsD (upd v f u) (D.set f x) := by
  subst hx
  rcases lt8 h with rfl | rfl | rfl | rfl | rfl | rfl | rfl | rfl <;> simp [cellsD, Dk.set, upd]
/-- A disk in block b, the slices of its files' bytes are v; F holds its blocks. -/
structure Disk (w : World) (b : Nat) (v : Nat → Value) (F : Nat → Prop) (D : Dk) : Prop where
  is : Is w b 57 (cellsD v D)
  own : ∀ f, f < 8 → w.ownsRow 0 5 1 (v f) (D.len f) (bytes (D.all f))
  mem : F b
  row : ∀ f, f < 8 → ∀ k, (v f).ownBlock = some k → F k
  ne : ∀ f g, f < 8 → g < 8 → f ≠ g → ∀ k, (v f).ownBlock = some k → (v g).ownBlock ≠ some k
  lt : ∀ k, F k → k < w.heap.size
  ok : D.Ok
def Has (w : World) (b : Nat) (F : Nat → Prop) (D : Dk) : Prop := ∃ v, Disk w b v F D
section
variable {F G : Nat → Prop} {w w1 w2 : World} {b : Nat} {v : Nat → Value} {D D' : Dk}
theorem Disk.kept (h : Disk w b v F D) (hf : Fr G w w1) (hd : ∀ k, F k → ¬ G k) : Disk w1 b v F D :=
  ⟨hf.is h.is (hd b h.mem), fun f hf8 => hf.own (h.own f hf8) (fun k hk => hd k (h.row f hf8 k hk)), h.mem, h.row, h.ne, fun k hk => Nat.lt_of_lt_of_le (h.lt k hk) hf.size, h.ok⟩
theorem Has.kept (h : Has w b F D) (hf : Fr G w w1) (hd : ∀ k, F k → ¬ G k) : Has w1 b F D := by
  obtain ⟨v, h⟩ := h
  exact ⟨v, h.kept hf hd⟩
theorem Has.lt (h : Has w b F D) : ∀ k, F k → k < w.heap.size := by
  obtain ⟨v, h⟩ := h
  exact h.lt
theorem Has.ok (h : Has w b F D) : D.Ok := by
  obtain ⟨v, h⟩ := h
  exact h.ok
theorem cellsD_congr (v : Nat → Value) (h1 : ∀ f, f < 8 → D.fs f = D'.fs f) (h2 : D.down = D'.down) (h3 : D.lost = D'.lost) (h4 : D.left = D'.left) (h5 : ∀ f, f < 8 → D.keep f = D'.keep f) : cellsD v D = cellsD v D' := by
  unfold cellsD
  rw [h1 0 (by omega), h1 1 (by omega), h1 2 (by omega), h1 3 (by omega), h1 4 (by omega), h1 5 (by omega), h1 6 (by omega), h1 7 (by omega), h2, h3, h4,
    h5 0 (by omega), h5 1 (by omega), h5 2 (by omega), h5 3 (by omega), h5 4 (by omega), h5 5 (by omega), h5 6 (by omega), h5 7 (by omega)]
theorem Disk.congr (h : Disk w b v F D) (h1 : ∀ f, f < 8 → D.fs f = D'.fs f) (h2 : D.down = D'.down) (h3 : D.lost = D'.lost) (h4 : D.left = D'.left) (h5 : ∀ f, f < 8 → D.keep f = D'.keep f) : Disk w b v F D' :=
  ⟨cellsD_congr v h1 h2 h3 h4 h5 ▸ h.is, fun f hf => own_cast (h.own f hf) (by unfold Dk.len; rw [h1 f hf]) (by unfold Dk.all; rw [h1 f hf]), h.mem, h.row, h.ne, h.lt,
    ⟨h3 ▸ h.ok.lost, h4 ▸ h.ok.left, fun f hf => by have := h.ok.len f hf; unfold Dk.len at this ⊢; rw [← h1 f hf]; exact this⟩⟩
theorem Disk.cv (h : Disk w b v F D) {f : Nat} (hf : f < 8) : w.cell? ⟨b, f * 2, none⟩ = some (v f) := (h.is.at_ _).trans (cellsD_v v D hf)
theorem Disk.cn (h : Disk w b v F D) {f : Nat} (hf : f < 8) : w.cell? ⟨b, f * 2 + 1, none⟩ = some (.int .i64 ((D.fs f).1.length : Nat)) := (h.is.at_ _).trans (cellsD_n v D hf)
theorem Disk.cdown (h : Disk w b v F D) : w.cell? ⟨b, 16, none⟩ = some (.bool D.down) := h.is.at_ 16
theorem Disk.clost (h : Disk w b v F D) : w.cell? ⟨b, 17, none⟩ = some (.int .i64 (D.lost : Nat)) := h.is.at_ 17
theorem Disk.cleft (h : Disk w b v F D) : w.cell? ⟨b, 18, none⟩ = some (.int .i64 (D.left : Nat)) := h.is.at_ 18
theorem Disk.ck (h : Disk w b v F D) {f : Nat} (hf : f < 8) : w.cell? ⟨b, 19 + f, none⟩ = some (.int .i64 (D.keep f)) := (h.is.at_ _).trans (cellsD_k v D hf)
theorem own_form {w : World} {base : Nat} {e : TypeId} {size n : Nat} {v : Value} {xs : List Value} (h : w.ownsRow base e size v n xs) : ∃ A cap, v = .slice A n cap ∧ (A = none → n = 0) := by
  rcases h.2 with ⟨rfl, rfl⟩ | ⟨g, cap, cur, rfl, _⟩
  · exact ⟨none, 0, rfl, fun _ => rfl⟩
  · exact ⟨some ⟨g, 0, none⟩, cap, rfl, fun e => by cases e⟩
theorem Disk.form (h : Disk w b v F D) {f : Nat} (hf : f < 8) : ∃ A cap, v f = .slice A (D.len f) cap ∧ w.cell? ⟨b, f * 2, none⟩ = some (.slice A (D.len f) cap) := by
  obtain ⟨A, cap, e, _⟩ := own_form (h.own f hf)
  exact ⟨A, cap, e, by rw [← e]; exact h.cv hf⟩
/-- A turn of the block's own cells that leaves the files' bytes. -/
theorem Disk.turn (h : Disk w b v F D) {i : Nat} {u : Value} (hc : (cellsD v D).setIfInBounds i u = cellsD v D') (ha : ∀ f, f < 8 → D'.all f = D.all f) (ho : D'.Ok) : Disk (w.setCell ⟨b, i, none⟩ u) b v F D' := by
  have hf : Fr (fun k => k = b) w (w.setCell ⟨b, i, none⟩ u) := (Fr.refl (fun k => k = b) w).set (b := b) rfl i u
  refine ⟨hc ▸ h.is.put i u, fun f hf8 => ?_, h.mem, h.row, h.ne, fun k hk => Nat.lt_of_lt_of_le (h.lt k hk) hf.size, ho⟩
  have hl : D'.len f = D.len f := by rw [← Dk.all_length, ← Dk.all_length, ha f hf8]
  exact own_cast (hf.own (h.own f hf8) (fun k hk e => Is.row_apart (h.own f hf8) h.is (by decide) (by rw [hk, e]))) hl.symm (by rw [ha f hf8])
end
end Go.Proofs.Ytokoccffkogamaa
