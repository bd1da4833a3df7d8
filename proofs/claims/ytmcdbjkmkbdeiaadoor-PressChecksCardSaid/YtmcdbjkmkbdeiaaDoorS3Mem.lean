/-
  Words for memory in this seat: a block known whole, the two tables that the code reads, what a call may have changed; bytes of a string.
-/
import Derived.Test.YtmcdbjkmkbdeiaaDoorProg
import Derived.Test.YtmcdbjkmkbdeiaaDoorS3Math
import Derived.Test.YtmcdbjkmkbdeiaaDoorS3Hex
import Derived.Test.YtmcdbjkmkbdeiaaDoorS3Sha
import Derived.WalkKit
import Derived.WalkSpells
import Derived.Below
import Derived.OwnWalk
import Derived.Deep.Draws
import Derived.Deep.WholeRow
import Derived.Lib.Hide
import Derived.Laws.BitsAllLaws
namespace Go.Proofs.YtmcdbjkmkbdeiaaDoor.S3
open Go.RowKit

/-- Block g is these cells of type t, none frozen. -/
def Is (w : World) (g : Nat) (t : TypeId) (c : Array Value) : Prop := w.heap[g]? = some (.cells c t (0, 0))
section
variable {w w1 w2 : World} {g : Nat} {t : TypeId} {c : Array Value}
theorem Is.lt (h : Is w g t c) : g < w.heap.size := by
  by_cases hg : g < w.heap.size
  · exact hg
  · exfalso
    unfold Is at h
    rw [Array.getElem?_eq_none (by omega)] at h
    cases h
theorem Is.at_ (h : Is w g t c) (i : Nat) : w.cell? ⟨g, i, none⟩ = c[i]? := cell_of_row w g i c t (0, 0) h
theorem Is.open_ (h : Is w g t c) (i : Nat) : w.frozen? ⟨g, i, none⟩ = false := by
  unfold Is at h
  simp [World.frozen?, h]
theorem Is.put (h : Is w g t c) (i : Nat) (u : Value) : Is (w.setCell ⟨g, i, none⟩ u) g t (c.setIfInBounds i u) := by
  unfold Is at h ⊢
  simp [World.setCell, Array.getElem?_modify, h]
theorem Is.away (h : Is w g t c) {a : Addr} (ha : g ≠ a.block) (u : Value) : Is (w.setCell a u) g t c := (Below.heap_setCell w a u g ha).trans h
theorem Is.fresh (w : World) (t : TypeId) (c : Array Value) : Is (w.alloc (.cells c t)) w.heap.size t c := heap_alloc_new w _
theorem Is.alloc (h : Is w g t c) (o : Obj) : Is (w.alloc o) g t c := (Below.heap_alloc w o g h.lt).trans h
theorem Is.below {B : Nat} (h : Is w g t c) (hb : Below B w w1) (hg : g < B) : Is w1 g t c := (hb.block g hg).trans h
theorem Is.kept {row : Option Nat} (h : Is w g t c) (hb : w.grownBy w1 row) (hg : some g ≠ row) : Is w1 g t c := (hb.block g h.lt hg).trans h
theorem Is.drew (h : Is w g t c) (n : Nat) : Is (w.drewN n) g t c := h
theorem Is.load {P : Program} {n : Nat} (h : Is w g t c) (hn : c.size = n) : (loadCellsFrom ⟨g, 0, none⟩ 0 n #[]).run P w = .ok c w := by
  subst hn
  have := run_loadCells_list (P := P) w ⟨g, 0, none⟩ c.toList (fun j v hv => by
    have hadd : (⟨g, 0, none⟩ : Addr).add j = ⟨g, j, none⟩ := by unfold Addr.add; split <;> simp_all
    rw [hadd, h.at_]
    simpa using hv)
  simpa [loadCells] using this
theorem Is.load0 {P : Program} {n : Nat} (h : Is w g t c) (hn : c.size = n) : (loadCells ⟨g, 0, none⟩ n).run P w = .ok c w := h.load hn
theorem Is.store {P : Program} {c' : Array Value} (h : Is w g t c) (hi : (P.info? t).map (·.size) = some c'.size) (ho : c.size = c'.size) (h1 : c'.all (·.oneCell') = true) :
    (storeCells ⟨g, 0, none⟩ c'.toList 0).run P w = .ok () (w.setRow g c') := by
  have := run_storeVar_row (P := P) w g t t c c' h hi ho h1
  cases hq : P.info? t with
  | none => simp [hq] at hi
  | some i =>
    have hs : c'.size = i.size := by simp [hq] at hi; omega
    simpa [storeVar, sizeOf, typeInfo, hq, Value.cells, hs] using this
theorem Is.row (h : Is w g t c) (c' : Array Value) : Is (w.setRow g c') g t c' := by
  unfold Is at h ⊢
  simp [World.setRow, Array.getElem?_modify, h]
theorem Is.row_away (h : Is w g t c) {g' : Nat} (hg : g ≠ g') (c' : Array Value) : Is (w.setRow g' c') g t c := by
  unfold Is at h ⊢
  simp only [World.setRow]
  rw [Array.getElem?_modify, if_neg (fun e => hg e.symm)]
  exact h
theorem below_row {B : Nat} (h : Below B w w1) {g' : Nat} (hg : B ≤ g') (c' : Array Value) : Below B w (w1.setRow g' c') :=
  ⟨h.os, h.tape, h.output, by rw [show (w1.setRow g' c').heap.size = w1.heap.size from Array.size_modify ..]; exact h.size, fun k hk => by
    rw [← h.block k hk]
    simp only [World.setRow]
    rw [Array.getElem?_modify, if_neg (by omega)]⟩
theorem below_drew {B : Nat} (h : Below B w w1) (n : Nat) : Below B w (w1.drewN n) := ⟨h.os, h.tape, h.output, h.size, h.block⟩
end

def mk (l : List UInt8) : ByteArray := ⟨l.toArray⟩
def ls (s : ByteArray) : List UInt8 := s.data.toList
theorem mk_ls (s : ByteArray) : mk (ls s) = s := rfl
theorem ls_mk (l : List UInt8) : ls (mk l) = l := rfl
theorem size_mk (l : List UInt8) : (mk l).size = l.length := rfl
theorem ls_length (s : ByteArray) : (ls s).length = s.size := rfl
theorem ls_inj {s t : ByteArray} (h : ls s = ls t) : s = t := by rw [← mk_ls s, h, mk_ls]
theorem ls_at (s : ByteArray) (k : Nat) (h : k < s.size) : (ls s)[k]'h = s[k] := rfl

/-- What four steps make of the lowest four bits. -/
def four : List Nat := [0, 274646895, 549293790, 820201905, 1098587580, 1361435347, 1640403810, 1905808397, 2197175160, 2460548119, 2722870694, 2987750089, 3280807620, 3553878443, 3811616794, 4084100981]
/-- The code's two tables hold what the program's text lays. -/
def Tabs (w : World) : Prop := 2 ≤ w.heap.size ∧ (∀ i, i < 16 → w.cell? ⟨0, i, none⟩ = some (.int .u32 (four.getD i 0 : Nat))) ∧ ∀ i, i < 64 → w.cell? ⟨1, i, none⟩ = some (.int .u32 (Sha.ks.getD i 0 : Nat))
theorem Tabs.below {w w1 : World} {B : Nat} (h : Tabs w) (hb : Below B w w1) (hB : 2 ≤ B) : Tabs w1 :=
  ⟨Nat.le_trans h.1 hb.size, fun i hi => (by rw [← h.2.1 i hi]; exact hb.cell (by show (0:Nat) < B; omega)), fun i hi => (by rw [← h.2.2 i hi]; exact hb.cell (by show (1:Nat) < B; omega))⟩
end Go.Proofs.YtmcdbjkmkbdeiaaDoor.S3
