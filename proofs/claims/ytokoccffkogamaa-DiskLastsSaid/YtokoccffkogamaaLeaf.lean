/-
  The leaves: an array of eight out of a slice of ints (ofEach), a copy of a slice of bytes (Clone), truncate, Read.
-/
import Derived.Test.YtokoccffkogamaaGet
import Derived.Laws.CopyOwn
import Derived.Laws.Rows
import Derived.Deep.MidRow
import Derived.Deep.AppendSrc
import Derived.Lib.BufferRead
namespace Go.Proofs.Ytokoccffkogamaa
open Go.RowKit
def ints (xs : List Int) : List Value := xs.map fun n => .int .i64 n
theorem ints_length (xs : List Int) : (ints xs).length = xs.length := by simp [ints]
/-- The cells us lie at A. -/
def RowAt (w : World) (A : Option Addr) (us : List Value) : Prop := ∀ k u, us[k]? = some u → ∃ a, A = some a ∧ w.cell? (a.add k) = some u
theorem add_block (a : Addr) (n : Nat) : (a.add n).block = a.block := by
  unfold Addr.add
  split <;> rfl
theorem RowAt.alloc {w : World} {A : Option Addr} {us : List Value} (h : RowAt w A us) (o : Obj) : RowAt (w.alloc o) A us := fun k u hk => by
  obtain ⟨a, h1, h2⟩ := h k u hk
  refine ⟨a, h1, ?_⟩
  rw [World.cell?_alloc_lt _ _ _ (World.block_lt_of_cell? w _ h2)]
  exact h2
theorem RowAt.kept {F : Nat → Prop} {w w1 : World} {A : Option Addr} {us : List Value} (h : RowAt w A us) (hf : Fr F w w1) (hA : ∀ a, A = some a → ¬ F a.block) : RowAt w1 A us := fun k u hk => by
  obtain ⟨a, h1, h2⟩ := h k u hk
  refine ⟨a, h1, ?_⟩
  have hb := World.block_lt_of_cell? w _ h2
  rw [add_block] at hb
  have he : w1.heap[(a.add k).block]? = w.heap[(a.add k).block]? := by
    rw [add_block]
    exact hf.block a.block hb (hA a h1)
  exact (World.cell?_of_block he).trans h2
theorem RowAt.nil (w : World) (A : Option Addr) : RowAt w A [] := fun k u hk => by simp at hk
theorem info3 : (Try.prog.info? 3).map (·.size) = some 1 := by kernel_rfl
theorem info55 : (Try.prog.info? 55).map (·.size) = some 8 := by kernel_rfl
def eight (k : Nat → Int) : Array Value := #[.int .i64 (k 0), .int .i64 (k 1), .int .i64 (k 2), .int .i64 (k 3), .int .i64 (k 4), .int .i64 (k 5), .int .i64 (k 6), .int .i64 (k 7)]
theorem eight_at (k : Nat → Int) {f : Nat} (h : f < 8) : (eight k)[f]? = some (.int .i64 (k f)) := by
  rcases lt8 h with rfl | rfl | rfl | rfl | rfl | rfl | rfl | rfl <;> rfl
theorem eight_splice (xs : List Int) : (splice [Value.int .i64 0, .int .i64 0, .int .i64 0, .int .i64 0, .int .i64 0, .int .i64 0, .int .i64 0, .int .i64 0] 0 (ints (xs.take 8))).toArray = eight (kf xs) := by
  rcases xs with _ | ⟨a0, _ | ⟨a1, _ | ⟨a2, _ | ⟨a3, _ | ⟨a4, _ | ⟨a5, _ | ⟨a6, _ | ⟨a7, r⟩⟩⟩⟩⟩⟩⟩⟩ <;> rfl
abbrev Z8 : List Value := [.int .i64 0, .int .i64 0, .int .i64 0, .int .i64 0, .int .i64 0, .int .i64 0, .int .i64 0, .int .i64 0]
abbrev O8 : Obj := .cells #[.int .i64 0, .int .i64 0, .int .i64 0, .int .i64 0, .int .i64 0, .int .i64 0, .int .i64 0, .int .i64 0] 55
theorem Is.below {w w1 : World} {g B : Nat} {t : TypeId} {c : Array Value} (h : Is w g t c) (hb : Below B w w1) (hg : g < B) : Is w1 g t c := (hb.block g hg).trans h
theorem eight_one (k : Nat → Int) : (eight k).all (·.oneCell') = true := by
  rw [Array.all_eq_true_iff_forall_mem]
  intro v hv
  simp only [eight, List.mem_toArray, List.mem_cons, List.not_mem_nil, or_false] at hv
  rcases hv with rfl | rfl | rfl | rfl | rfl | rfl | rfl | rfl <;> rfl
set_option maxRecDepth 20000 in
theorem ofEach_any (A : Option Addr) (cap : Nat) (xs : List Int) (w : World) (h : RowAt w A (ints xs)) :
    Calls Try.prog 38 #[.slice A xs.length cap] w fun e w' => e = .returned (.agg (eight (kf xs))) ∧ Below w.heap.size w w' := by
  obtain ⟨cs, hcs⟩ : ∃ cs, cs = ints (xs.take 8) := ⟨_, rfl⟩
  have hl : cs.length = Nat.min xs.length 8 := by rw [hcs, ints_length, List.length_take, Nat.min_comm]
  have hl8 : cs.length ≤ 8 := by rw [hl]; exact Nat.min_le_right _ _
  have hZ : (splice Z8 0 cs).toArray = eight (kf xs) := by rw [hcs]; exact eight_splice xs
  have hc1 : ∀ v ∈ cs, v.oneCell' = true := by
    rw [hcs]
    intro v hv
    simp only [ints, List.mem_map] at hv
    obtain ⟨z, _, rfl⟩ := hv
    rfl
  have hsrc : ∀ (j : Nat) (v : Value), cs[j]? = some v → (ints xs)[j]? = some v := by
    intro j v hv
    rw [hcs] at hv
    simp only [ints, List.getElem?_map, List.getElem?_take] at hv ⊢
    split at hv
    · exact hv
    · simp at hv
  have hpos : 0 < cs.length → ∃ ad, A = some ad ∧ ∀ (j : Nat) (v : Value), cs[j]? = some v → ((w.alloc O8).alloc O8).cell? (ad.add j) = some v := by
    intro h0
    have e0 : cs[0]? = some cs[0] := List.getElem?_eq_getElem h0
    obtain ⟨ad, rfl, _⟩ := h 0 _ (hsrc 0 _ e0)
    refine ⟨ad, rfl, fun j v hv => ?_⟩
    obtain ⟨a, ha, hc⟩ := ((h.alloc O8).alloc O8) j v (hsrc j v hv)
    cases ha
    exact hc
  have C1 := Lib.hid hc1
  have HL := Lib.hid hl
  have HZ := Lib.hid hZ
  have HS := Lib.hid hpos
  have H0 := Lib.hid ((Is.fresh w 55 #[.int .i64 0, .int .i64 0, .int .i64 0, .int .i64 0, .int .i64 0, .int .i64 0, .int .i64 0, .int .i64 0]).alloc O8)
  have H1 := Lib.hid (Is.fresh (w.alloc O8) 55 #[.int .i64 0, .int .i64 0, .int .i64 0, .int .i64 0, .int .i64 0, .int .i64 0, .int .i64 0, .int .i64 0])
  have HB := Lib.hid (((Below.refl w.heap.size w).alloc (Nat.le_refl _) O8))
  have HN := Lib.hid ((Below.refl (w.heap.size + 1) (w.alloc O8)).alloc (by simp) O8)
  have HQ : Hid ((w.alloc O8).heap.size = w.heap.size + 1) := Lib.hid (by simp)
  have HI := Lib.hid info55
  clear hcs hl hZ hc1 hsrc h hpos
  go_enter Try.func38, Try.ntmps38
  go_wp2_with ((refine wpList_copy_splice rfl (.tmp 4) (.tmp 5) 30 30 rfl 3 Try.underlying30 info3 (some ⟨w.heap.size + 1, 0, none⟩) A 8 8 xs.length cap rfl rfl (w.heap.size + 1) 0 Z8 55 ?c0 cs HL.out ?c1 ?c2 C1.out (w.heap.size + 1) (w.alloc O8) ?c3 ?c4 ?_))
  case c0 => have := H1.out; rw [Is, HQ.out] at this; exact this
  case c1 => exact fun h0 => HS.out h0
  case c2 => show 0 + cs.length ≤ 8; omega
  case c3 => exact HN.out
  case c4 => omega
  intro w2 hg2 hb2
  have J1 : Hid (Is w2 (w.heap.size + 1) 55 (eight (kf xs))) := Lib.hid (by rw [← HZ.out]; exact hg2.out)
  have J0 : Hid (Is w2 w.heap.size 55 #[.int .i64 0, .int .i64 0, .int .i64 0, .int .i64 0, .int .i64 0, .int .i64 0, .int .i64 0, .int .i64 0]) := Lib.hid (((Is.fresh w 55 _)).below hb2 (by omega))
  have J2 := Lib.hid (HB.out.trans (hb2.mono (by omega)))
  clear hg2 hb2
  go_wp2_with (first
    | (refine wpList_load_row rfl 55 _ rfl (w.heap.size + 1) rfl 55 (eight (kf xs)) (0, 0) _ J1.out Try.underlying55 rfl HI.out ?_)
    | (refine wpList_store_row rfl 55 _ _ rfl w.heap.size (eight (kf xs)) rfl rfl 55 #[.int .i64 0, .int .i64 0, .int .i64 0, .int .i64 0, .int .i64 0, .int .i64 0, .int .i64 0, .int .i64 0] J0.out HI.out rfl (eight_one _) ?_))
  refine bodyPost_ret (v := .agg (eight (kf xs))) (results_cell_row rfl _ _ w.heap.size 55 _ (0, 0) _ rfl (setRow_heap _ _ _ _ 55 _ J0.out) Try.underlying55 rfl HI.out) rfl ⟨rfl, below_setRow J2.out (Nat.le_refl _) _⟩
end Go.Proofs.Ytokoccffkogamaa
