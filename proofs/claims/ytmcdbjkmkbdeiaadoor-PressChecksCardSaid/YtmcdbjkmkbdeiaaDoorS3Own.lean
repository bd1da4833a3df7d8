/-
  Slices that a call makes: bytes and 32-bit words; strings out of them.
-/
import Derived.Test.YtmcdbjkmkbdeiaaDoorS3HexA
import Derived.StillTailTactics
import Derived.Handy
import Derived.Deep.AppendLies
import Derived.Lib.BufferRead
namespace Go.Proofs.YtmcdbjkmkbdeiaaDoor.S3
open Go.RowKit
theorem info5 : (Tryd.prog.info? 5).map (fun i => (i.zero, i.size, i.bytes)) = some (some (.int .u8 0), 1, 1) := by kernel_rfl
theorem info27 : (Tryd.prog.info? 28).map (fun i => (i.zero, i.size, i.bytes)) = some (some (.int .u32 0), 1, 4) := by kernel_rfl
def bytes (l : List UInt8) : List Value := l.map fun c => .int .u8 (c.toNat : Nat)
def words (l : List Nat) : List Value := l.map fun c => .int .u32 (c : Nat)
theorem bytes_len (l : List UInt8) : (bytes l).length = l.length := by simp [bytes]
theorem words_len (l : List Nat) : (words l).length = l.length := by simp [words]
theorem bytes_at (l : List UInt8) (k : Nat) (h : k < l.length) : (bytes l)[k]? = some (.int .u8 (l[k].toNat : Nat)) := by simp [bytes, h]
theorem words_at (l : List Nat) (k : Nat) (h : k < l.length) : (words l)[k]? = some (.int .u32 (l[k] : Nat)) := by simp [words, h]
theorem own_cast {w : World} {base n n' size : Nat} {e : TypeId} {v : Value} {xs xs' : List Value} (h : w.ownsRow base e size v n xs) (hn : n = n') (hx : xs = xs') : w.ownsRow base e size v n' xs' := by subst hn; subst hx; exact h
theorem new_one (w : World) (u : Value) (t : TypeId) : ∀ j x, [u][j]? = some x → (w.alloc (.cells #[u] t)).cell? ((⟨w.heap.size, 0, none⟩ : Addr).add j) = some x :=
  World.news_of_block (cs := #[u]) (t := t) (fr := (0, 0)) (heap_alloc_new w _)
theorem new_two (w : World) (u v : Value) (t : TypeId) : ∀ j x, [u, v][j]? = some x → (w.alloc (.cells #[u, v] t)).cell? ((⟨w.heap.size, 0, none⟩ : Addr).add j) = some x :=
  World.news_of_block (cs := #[u, v]) (t := t) (fr := (0, 0)) (heap_alloc_new w _)
theorem conv_own {w : World} {B : Nat} {v : Value} {l : List UInt8} (h : w.ownsRow B 5 1 v l.length (bytes l)) : (convert 36 9 v).run Tryd.prog w = .ok (.string (mk l)) w := by
  rcases h.2 with ⟨rfl, h0⟩ | ⟨g, cap, cur, rfl, -, -, -⟩
  · obtain rfl := List.eq_nil_of_length_eq_zero h0
    exact Lib.run_convert_nil_bytes w 36 9 5 0 Tryd.underlying36 Tryd.underlying5 Tryd.underlying9
  · refine run_convert_bytes_back (P := Tryd.prog) w 36 9 5 ⟨g, 0, none⟩ cap l Tryd.underlying36 Tryd.underlying5 Tryd.underlying9 (fun j hj => ?_)
    exact h.cells (g := g) rfl j _ (by unfold bytes; rw [List.getElem?_map, List.getElem?_eq_getElem hj]; rfl)
/-- A block of its own type, below an own row's. -/
theorem Is.past {w w' : World} {g base n : Nat} {t e : TypeId} {c : Array Value} {v : Value} {xs : List Value} (h : Is w g t c) (ho : w.ownsRow base e 1 v n xs) (hg : g < base) (k : w.grownBy w' v.ownBlock) : Is w' g t c :=
  h.kept k (fun hv => by have := (ho.lt g hv.symm).1; omega)
end Go.Proofs.YtmcdbjkmkbdeiaaDoor.S3
