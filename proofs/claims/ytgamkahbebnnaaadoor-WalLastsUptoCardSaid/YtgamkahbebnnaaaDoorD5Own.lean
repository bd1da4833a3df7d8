/-
  A disk that the law itself has made (Own), a disk beside another or beside its reference (Pair), the acts as they lie in memory.
-/
import Derived.Test.YtgamkahbebnnaaaDoorD5Turn
namespace Go.Proofs.YtgamkahbebnnaaaDoor.D5
open Go.RowKit
/-- The disk in block b, made since W, is in the state D; of what was there in W nothing has turned. -/
def Own (W w : World) (b : Nat) (D : Dk) : Prop := ∃ F, Has w b F D ∧ (∀ k, F k → W.heap.size ≤ k) ∧ Below W.heap.size W w
section
variable {W w w' : World} {b : Nat} {D D' : Dk}
theorem Own.below (h : Own W w b D) : Below W.heap.size W w := by
  obtain ⟨F, h1, h2, h3⟩ := h
  exact h3
theorem Own.ok (h : Own W w b D) : D.Ok := by
  obtain ⟨F, h1, h2, h3⟩ := h
  exact h1.ok
theorem Own.blt (h : Own W w b D) : W.heap.size ≤ b ∧ b < w.heap.size := by
  obtain ⟨F, ⟨v, h1⟩, h2, h3⟩ := h
  exact ⟨h2 b h1.mem, h1.lt b h1.mem⟩
theorem Own.lift (h : Own W w b D) {f : FuncId} {args : Array Value} {v : Ending} (c : ∀ F, Has w b F D → (∀ k, F k → W.heap.size ≤ k) → Calls Tryd.prog f args w fun e w' => e = v ∧ Step b F w w' D') :
    Calls Tryd.prog f args w fun e w' => e = v ∧ Own W w' b D' := by
  obtain ⟨F, h1, h2, h3⟩ := h
  refine (c F h1 h2).mono fun e w' hh => ⟨hh.1, ?_⟩
  obtain ⟨F', g1, g2, g3⟩ := hh.2
  refine ⟨F', g1, fun k hk => ?_, h3.trans (g3.below h2 h3.size)⟩
  rcases g2 k hk with h | h
  · exact h2 k h
  · exact Nat.le_trans h3.size h
theorem Own.look (h : Own W w b D) {f : FuncId} {args : Array Value} {v : Ending} (c : ∀ F, Has w b F D → Calls Tryd.prog f args w fun e w' => e = v ∧ w' = w) :
    Calls Tryd.prog f args w fun e w' => e = v ∧ w' = w := by
  obtain ⟨F, h1, _, _⟩ := h
  exact c F h1
theorem Own.alloc (h : Own W w b D) (o : Obj) : Own W (w.alloc o) b D := by
  obtain ⟨F, h1, h2, h3⟩ := h
  exact ⟨F, h1.kept ((Fr.refl (fun _ => False) w).alloc o) (fun _ _ hh => hh), h2, h3.alloc h3.size o⟩
theorem Own.drew (h : Own W w b D) (n : Nat) : Own W (w.drewN n) b D := by
  obtain ⟨F, h1, h2, h3⟩ := h
  exact ⟨F, h1.drew n, h2, ⟨h3.os, h3.tape, h3.output, h3.size, h3.block⟩⟩
theorem new_own (W w : World) (h : Below W.heap.size W w) : Calls Tryd.prog 8 #[] w fun e w' => e = .returned (.pointer (some ⟨w.heap.size, 0, none⟩)) ∧ Own W w' w.heap.size Dk.new :=
  (new_any w).mono fun e w' hh => ⟨hh.1, _, hh.2.1, fun k hk => by subst hk; exact h.size, h.trans (hh.2.2.mono h.size)⟩
theorem down_own (h : Own W w b D) : Calls Tryd.prog 17 #[.pointer (some ⟨b, 0, none⟩)] w fun e w' => e = .returned (.bool D.down) ∧ w' = w := h.look fun F h => down_any b D F w h
theorem size_own (h : Own W w b D) (f : Int) : Calls Tryd.prog 25 #[.pointer (some ⟨b, 0, none⟩), .int .i64 f] w fun e w' => e = .returned (.int .i64 (D.size f : Nat)) ∧ w' = w := h.look fun F h => size_any b D F f w h
theorem read_own (h : Own W w b D) (f : Int) : Calls Tryd.prog 26 #[.pointer (some ⟨b, 0, none⟩), .int .i64 f] w fun e w' => e = .returned (.tuple #[.string (mk (D.read f).1), .int .i64 ((D.read f).2 : Nat)]) ∧ w' = w := h.look fun F h => read_any b D F f w h
theorem app_own (h : Own W w b D) (f : Int) (s : ByteArray) : Calls Tryd.prog 24 #[.pointer (some ⟨b, 0, none⟩), .int .i64 f, .string s] w fun e w' => e = .returned (.int .i64 ((D.app f (ls s)).1 : Nat)) ∧ Own W w' b (D.app f (ls s)).2 := h.lift fun F h _ => app_any b D F f s w h
theorem flush_own (h : Own W w b D) (f : Int) : Calls Tryd.prog 32 #[.pointer (some ⟨b, 0, none⟩), .int .i64 f] w fun e w' => e = .returned (.int .i64 ((D.flush f).1 : Nat)) ∧ Own W w' b (D.flush f).2 := h.lift fun F h _ => flush_any b D F f w h
theorem cut_own (h : Own W w b D) (f n : Int) : Calls Tryd.prog 30 #[.pointer (some ⟨b, 0, none⟩), .int .i64 f, .int .i64 n] w fun e w' => e = .returned (.int .i64 ((D.cut f n).1 : Nat)) ∧ Own W w' b (D.cut f n).2 := h.lift fun F h _ => cut_any b D F f n w h
theorem turn_own (h : Own W w b D) (f g : Int) : Calls Tryd.prog 39 #[.pointer (some ⟨b, 0, none⟩), .int .i64 f, .int .i64 g] w fun e w' => e = .returned (.int .i64 ((D.turn f g).1 : Nat)) ∧ Own W w' b (D.turn f g).2 := h.lift fun F h _ => turn_any b D F f g w h
theorem start_own (h : Own W w b D) : Calls Tryd.prog 28 #[.pointer (some ⟨b, 0, none⟩)] w fun e w' => e = .returned (.tuple #[]) ∧ Own W w' b D.start := h.lift fun F h _ => (start_any b D F w h).mono fun _ _ hh => ⟨hh.1, Step.same hh.2.1 hh.2.2⟩
theorem lose_own (h : Own W w b D) (n : Int) (hn : n < 9223372036854775808) : Calls Tryd.prog 15 #[.pointer (some ⟨b, 0, none⟩), .int .i64 n] w fun e w' => e = .returned (.tuple #[]) ∧ Own W w' b (D.lose n) := h.lift fun F h _ => (lose_any b D F n w h hn).mono fun _ _ hh => ⟨hh.1, Step.same hh.2.1 hh.2.2⟩
theorem fall_own (h : Own W w b D) (A : Option Addr) (c : Nat) (xs : List Int) (hr : RowAt w A (ints xs)) : Calls Tryd.prog 19 #[.pointer (some ⟨b, 0, none⟩), .slice A xs.length c] w fun e w' => e = .returned (.tuple #[]) ∧ Own W w' b (D.fall (kf xs)) := h.lift fun F h _ => fall_any b D F A c xs w h hr
theorem fall0_own (h : Own W w b D) : Calls Tryd.prog 19 #[.pointer (some ⟨b, 0, none⟩), .slice none 0 0] w fun e w' => e = .returned (.tuple #[]) ∧ Own W w' b (D.fall (kf [])) := fall_own h none 0 [] (RowAt.nil w none)
theorem arm_own (h : Own W w b D) (n : Int) (hn : n < 9223372036854775808) (A : Option Addr) (c : Nat) (xs : List Int) (hr : RowAt w A (ints xs)) (hA : xs ≠ [] → ∀ a, A = some a → a.block ≠ b) : Calls Tryd.prog 16 #[.pointer (some ⟨b, 0, none⟩), .int .i64 n, .slice A xs.length c] w fun e w' => e = .returned (.tuple #[]) ∧ Own W w' b (D.arm n (kf xs)) := h.lift fun F h _ => arm_any b D F n A c xs w h hn hr hA
theorem arm0_own (h : Own W w b D) (n : Int) (hn : n < 9223372036854775808) : Calls Tryd.prog 16 #[.pointer (some ⟨b, 0, none⟩), .int .i64 n, .slice none 0 0] w fun e w' => e = .returned (.tuple #[]) ∧ Own W w' b (D.arm n (kf [])) := arm_own h n hn none 0 [] (RowAt.nil w none) (fun _ a ha => by cases ha)
/-- What lies below stays where a later disk has been worked on. -/
theorem Own.kept (h : Own W w b D) (hb : Below w.heap.size w w') : Own W w' b D := by
  obtain ⟨F, h1, h2, h3⟩ := h
  exact ⟨F, h1.below hb (Nat.le_refl _), h2, h3.trans (hb.mono h3.size)⟩
end
/-- The slice at A (as long as us) holds the cells us, in a block below top. -/
def Row (w : World) (top : Nat) (A : Option Addr) (us : List Value) : Prop := ∀ k u, us[k]? = some u → ∃ a, A = some a ∧ a.block < top ∧ w.cell? (a.add k) = some u
theorem Row.below {w w' : World} {top : Nat} {A : Option Addr} {us : List Value} (h : Row w top A us) (hb : Below top w w') : Row w' top A us := fun k u hu => by
  obtain ⟨a, h1, h2, h3⟩ := h k u hu
  exact ⟨a, h1, h2, (hb.cell (p := a.add k) (by rw [add_block]; exact h2)).trans h3⟩
theorem Row.at_ {w : World} {top : Nat} {A : Option Addr} {us : List Value} (h : Row w top A us) : RowAt w A us := fun k u hu => by
  obtain ⟨a, h1, _, h3⟩ := h k u hu
  exact ⟨a, h1, h3⟩
/-- A slice of ints that came in: its row, its length where it is nil, its block. -/
structure Keep (w : World) (top : Nat) (A : Option Addr) (ks : List Int) : Prop where
  row : Row w top A (ints ks)
  nil : A = none → ks.length = 0
  lt : ks ≠ [] → ∀ a, A = some a → a.block < top
theorem Keep.below {w w' : World} {top : Nat} {A : Option Addr} {ks : List Int} (h : Keep w top A ks) (hb : Below top w w') : Keep w' top A ks := ⟨h.row.below hb, h.nil, h.lt⟩
end Go.Proofs.YtgamkahbebnnaaaDoor.D5
