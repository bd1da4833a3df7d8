/-
  The disk's readers: isFile, Down, Size, Read, Start, Lose.
-/
import Derived.Test.YtokoccffkogamaaMem
import Derived.Deep.QuietTactic
import Derived.BigQuiet
import Derived.BigRegion
import Derived.LoopTactic
namespace Go.Proofs.Ytokoccffkogamaa
open Go.RowKit
theorem isFile_any (f : Int) (w : World) : Calls Try.prog 46 #[.int .i64 f] w fun e w' => e = .returned (.bool (isF f)) ∧ w' = w := by
  by_cases h1 : 0 ≤ f
  · have i1 : decide (0 ≤ f) = true := by simp; omega
    by_cases h2 : f < 8
    · have i2 : decide (f < 8) = true := by simp; omega
      go_enter Try.func46, Try.ntmps46
      go_wp2
      go_ret
      exact ⟨by rw [(isF_iff f).2 ⟨h1, h2⟩]; rfl, rfl⟩
    · have i2 : decide (f < 8) = false := by simp; omega
      go_enter Try.func46, Try.ntmps46
      go_wp2
      go_ret
      exact ⟨by rw [(isF_not f).2 (by omega)]; rfl, rfl⟩
  · have i1 : decide (0 ≤ f) = false := by simp; omega
    go_enter Try.func46, Try.ntmps46
    go_wp2
    go_ret
    exact ⟨by rw [(isF_not f).2 (by omega)]; rfl, rfl⟩
theorem down_any (b : Nat) (D : Dk) (F : Nat → Prop) (w : World) (h : Has w b F D) : Calls Try.prog 20 #[.pointer (some ⟨b, 0, none⟩)] w fun e w' => e = .returned (.bool D.down) ∧ w' = w := by
  obtain ⟨v, h⟩ := h
  have c1 := h.cdown
  go_enter Try.func20, Try.ntmps20
  go_wp2
  go_ret
  exact ⟨rfl, rfl⟩
theorem size_any (b : Nat) (D : Dk) (F : Nat → Prop) (f : Int) (w : World) (h : Has w b F D) : Calls Try.prog 22 #[.pointer (some ⟨b, 0, none⟩), .int .i64 f] w fun e w' => e = .returned (.int .i64 (D.size f : Nat)) ∧ w' = w := by
  obtain ⟨v, h⟩ := h
  have I := isFile_any f w
  cases hf : isF f
  · rw [hf] at I
    go_enter Try.func22, Try.ntmps22
    go_wp2_with (first | (go_at_call 46; refine I.mono ?_; rintro e w1 ⟨rfl, rfl⟩))
    go_ret
    exact ⟨by simp [Dk.size, hf], rfl⟩
  · rw [hf] at I
    obtain ⟨h1, h2⟩ := (isF_iff f).1 hf
    obtain ⟨n, rfl⟩ := Int.eq_ofNat_of_zero_le h1
    have hn : n < 8 := by omega
    obtain ⟨A, cap, e1, c1⟩ := h.form hn
    have hh := Lib.hid h
    clear h
    go_enter Try.func22, Try.ntmps22
    go_wp2_with (first | (go_at_call 46; refine I.mono ?_; rintro e w1 ⟨rfl, rfl⟩))
    go_ret
    exact ⟨by simp [Dk.size, hf], rfl⟩
theorem own_read {w : World} {base n : Nat} {e : TypeId} {v : Value} {xs : List Value} (h : w.ownsRow base e 1 v n xs) : ∃ A cap, v = .slice A n cap ∧ (∀ k u, xs[k]? = some u → ∃ a, A = some a ∧ w.cell? (a.add k) = some u) ∧ xs.length = n := by
  have hl : xs.length = n := by have := h.1; omega
  rcases h.2 with ⟨rfl, rfl⟩ | ⟨g, cap, cur, rfl, h2, h3, h4, h5, h6, h7⟩
  · obtain rfl := List.eq_nil_of_length_eq_zero hl
    exact ⟨none, 0, rfl, fun k u hk => by simp at hk, rfl⟩
  · refine ⟨some ⟨g, 0, none⟩, cap, rfl, fun k u hk => ⟨_, rfl, ?_⟩, hl⟩
    exact World.ownsRow.cells (w := w) (base := base) (e := e) (size := 1) (v := .slice (some ⟨g, 0, none⟩) n cap) (n := n) (xs := xs) ⟨h.1, .inr ⟨g, cap, cur, rfl, h2, h3, h4, h5, h6, h7⟩⟩ rfl k u hk
theorem start_any (b : Nat) (D : Dk) (F : Nat → Prop) (w : World) (h : Has w b F D) : Calls Try.prog 24 #[.pointer (some ⟨b, 0, none⟩)] w fun e w' => e = .returned (.tuple #[]) ∧ Has w' b F D.start ∧ Fr F w w' := by
  obtain ⟨v, h⟩ := h
  have c1 := h.cdown
  have f1 := h.is.open_ 16
  have h' : Disk (w.setCell ⟨b, 16, none⟩ (.bool false)) b v F D.start := h.turn (by simp [cellsD, Dk.start]) (fun _ _ => rfl) ⟨h.ok.lost, h.ok.left, h.ok.len⟩
  have hf : Fr F w (w.setCell ⟨b, 16, none⟩ (.bool false)) := (Fr.refl F w).set h.mem 16 _
  have hh := Lib.hid h
  clear h
  go_enter Try.func24, Try.ntmps24
  go_wp2
  go_end0
  exact ⟨rfl, ⟨v, h'⟩, hf⟩
theorem lose_any (b : Nat) (D : Dk) (F : Nat → Prop) (n : Int) (w : World) (h : Has w b F D) (hn : n < 9223372036854775808) : Calls Try.prog 33 #[.pointer (some ⟨b, 0, none⟩), .int .i64 n] w fun e w' => e = .returned (.tuple #[]) ∧ Has w' b F (D.lose n) ∧ Fr F w w' := by
  obtain ⟨v, h⟩ := h
  have c1 := h.clost
  have f1 := h.is.open_ 17
  have h' : Hid (∀ z : Int, z = (n.toNat : Nat) → Disk (w.setCell ⟨b, 17, none⟩ (.int .i64 z)) b v F (D.lose n)) := Lib.hid (by
    rintro _ rfl
    exact h.turn (by simp [cellsD, Dk.lose]) (fun _ _ => rfl) ⟨by show n.toNat < _; omega, h.ok.left, h.ok.len⟩)
  have hf : Hid (∀ z : Int, Fr F w (w.setCell ⟨b, 17, none⟩ (.int .i64 z))) := Lib.hid (fun z => (Fr.refl F w).set h.mem 17 _)
  have hh := Lib.hid h
  clear h
  go_enter Try.func33, Try.ntmps33
  go_wp2
  all_goals
    go_end0
    exact ⟨rfl, ⟨v, h'.out _ (by omega)⟩, hf.out _⟩
end Go.Proofs.Ytokoccffkogamaa
