/-
  The walk of WalLasts.
-/
import Derived.Test.YtgamkahbebnnaaaDoorD5WRecov
import Derived.Laws.Bits128
namespace Go.Proofs.YtgamkahbebnnaaaDoor.D5
open Go.RowKit WalPlain
set_option maxRecDepth 100000
theorem i64_and7 (n : Int) : bits .and .i64 n 7 = n % 8 := by
  have h7 : (BitVec.ofInt 64 7).toNat = 2 ^ 3 - 1 := by decide
  have key : (BitVec.ofInt 64 n &&& BitVec.ofInt 64 7).toNat = (n % ((2 ^ 64 : Nat) : Int)).toNat % 2 ^ 3 := by
    rw [BitVec.toNat_and, BitVec.toNat_ofInt, h7, Nat.and_two_pow_sub_one_eq_mod]
  show IntKind.i64.wrap ((BitVec.ofInt 64 n &&& BitVec.ofInt 64 7).toNat : Nat) = n % 8
  rw [key, IntKind.wrap_i64]
  omega
/-- Well done, the machine is up; refused as down, it is down. -/
def Says (x : Nat × Dk) : Prop := (x.1 = 0 → x.2.down = false) ∧ (x.1 = 12 → x.2.down = true)
theorem says_enter {D : Dk} (h : D.down = false) : Says D.enter := by
  rcases enter_ways h with ⟨z, h2, -⟩ | z
  · exact ⟨fun _ => h2, fun e => by omega⟩
  · rw [z]; exact ⟨fun e => by simp at e, fun _ => rfl⟩
theorem says_andD {x : Nat × Dk} {k : Dk → Nat × Dk} (h : Says x) (hk : ∀ E : Dk, E.down = false → Says (k E)) : Says (andD x k) := by
  unfold andD
  split
  · rename_i h0; exact hk _ (h.1 h0)
  · exact h
theorem says_body {D : Dk} (h : D.down = false) (g : Dk → Nat × Dk) (hg : ∀ E : Dk, E.down = false → Says (g E)) : Says (if D.enter.1 = 0 then g D.enter.2 else D.enter) := by
  split
  · rename_i h0; exact hg _ ((says_enter h).1 h0)
  · exact says_enter h
theorem says_flush {D : Dk} (h : D.down = false) (f : Int) : Says (D.flush f) := says_body h (fun E => E.flushed f) fun E hE => by
  unfold Dk.flushed
  split
  · exact ⟨fun e => by simp at e, fun e => by simp at e⟩
  · split
    · exact ⟨fun e => by simp at e, fun e => by simp at e⟩
    · exact ⟨fun _ => hE, fun e => by simp at e⟩
theorem says_cut {D : Dk} (h : D.down = false) (f n : Int) : Says (D.cut f n) := says_body h (fun E => E.cutted f n) fun E hE => by
  unfold Dk.cutted
  split
  · exact ⟨fun e => by simp at e, fun e => by simp at e⟩
  · exact ⟨fun _ => hE, fun e => by simp at e⟩
theorem says_turn {D : Dk} (h : D.down = false) (f g : Int) : Says (D.turn f g) := says_body h (fun E => E.turned f g) fun E hE => by
  unfold Dk.turned
  split
  · exact ⟨fun e => by simp at e, fun e => by simp at e⟩
  · split
    · exact ⟨fun e => by simp at e, fun e => by simp at e⟩
    · exact ⟨fun _ => hE, fun e => by simp at e⟩
theorem says_app {D : Dk} (h : D.down = false) {f : Int} (h0 : 0 ≤ f) (h8 : f < 8) (s : Bs) : Says (D.app f s) := by
  unfold Dk.app
  rcases add_cases D h0 h8 s h with e | e
  · rw [e]
    dsimp only
    rcases enter_ways h with ⟨z, h2, -⟩ | z
    · rw [z]; exact ⟨fun e => by simp at e, fun e => by simp at e⟩
    · rw [z]; exact ⟨fun e => by simp at e, fun _ => rfl⟩
  · rw [e]
    dsimp only
    rcases enter_ways (D := D.set f.toNat ((D.fs f.toNat).1, (D.fs f.toNat).2 ++ s)) h with ⟨z, h2, -⟩ | z
    · rw [z]; exact ⟨fun _ => h2, fun e => by simp at e⟩
    · rw [z]; exact ⟨fun e => by simp at e, fun _ => rfl⟩
theorem says_rew {D : Dk} (h : D.down = false) (b : Bs) : Says (rewD D 2 b) := by
  unfold rewD
  refine says_andD (says_andD (says_andD ?_ fun E hE => says_app hE (by decide) (by decide) b) fun E hE => says_flush hE _) fun E hE => says_turn hE _ _
  unfold cut2
  split
  · exact says_cut h _ _
  · exact ⟨fun _ => h, fun e => by simp at e⟩
theorem AtW.top {w : World} {t1 t2 : Nat} {P : Addr} {t : Wc} (h : AtW w t1 P t) (hl : t1 ≤ t2) : AtW w t2 P t := by
  obtain ⟨h0, A, c, B, e, h1, h2, h3, h4, h5, h6, h7, h8⟩ := h
  have rw_ : ∀ {A : Option Addr} {us : List Value}, Row w t1 A us → Row w t2 A us := fun h k u hk => by
    obtain ⟨a, a1, a2, a3⟩ := h k u hk
    exact ⟨a, a1, Nat.lt_of_lt_of_le a2 hl, a3⟩
  exact ⟨Nat.lt_of_lt_of_le h0 hl, A, c, B, e, h1, h2, h3, h4, h5, rw_ h6, h7, ⟨rw_ h8.row, h8.nil, fun hne a ha => Nat.lt_of_lt_of_le (h8.lt hne a ha) hl⟩⟩
theorem ActsW.top {w : World} {t1 t2 : Nat} {A : Option Addr} {l : List Wc} (h : ActsW w t1 A l) (hl : t1 ≤ t2) : ActsW w t2 A l := fun k t hk => by
  obtain ⟨a, h1, h2⟩ := h k t hk
  exact ⟨a, h1, h2.top hl⟩
/-- The cells of an act's copy. -/
def ActC (t : Wc) (LA : Option Addr) (cL : Nat) (KA : Option Addr) (cK : Nat) : Array Value := #[.int .i64 t.d, .string (mk t.s), .slice LA t.l.length cL, .int .i64 t.n, .slice KA t.keep.length cK]
abbrev SB (u : Value) (safe : List Bs) (g : Nat) (t : Wc) (LA : Option Addr) (cL : Nat) (KA : Option Addr) (cK : Nat) : World → (Nat → Prop) → Prop := Both (SlP u safe) (BlkP g 34 (ActC t LA cL KA cK))
section
variable {W w w' : World} {P Q : World → (Nat → Prop) → Prop} {u : Value} {safe : List Bs} {g cL cK b c : Nat} {t : Wc} {LA KA : Option Addr} {f : Int} {D : Dk} {R : List Bs}
theorem stab_sb : Stab (SB u safe g t LA cL KA cK) := stab_both (stab_sl _ _) (stab_blk _ _ _)
theorem sb_act (h : Par W w P (SB u safe g t LA cL KA cK)) : w.cell? ⟨g, 0, none⟩ = some (.int .i64 t.d) ∧ w.cell? ⟨g, 1, none⟩ = some (.string (mk t.s)) ∧ w.cell? ⟨g, 2, none⟩ = some (.slice LA t.l.length cL) ∧ w.cell? ⟨g, 3, none⟩ = some (.int .i64 t.n) ∧ w.cell? ⟨g, 4, none⟩ = some (.slice KA t.keep.length cK) := by
  have hi := h.blk
  exact ⟨hi.at_ 0, hi.at_ 1, hi.at_ 2, hi.at_ 3, hi.at_ 4⟩
theorem lit1 (s : Bs) (h : Par W w (DL b c f D R) Q) (hQ : Stab Q) : Par W (w.alloc (.cells #[.string (mk s)] 9)) (DL b c f D R) (Both Q (SlP (.slice (some ⟨w.heap.size, 0, none⟩) 1 1) [s])) :=
  h.more (stab_dl b c f D R) hQ ((Below.refl _ w).alloc (Nat.le_refl _) _) (G := fun k => k = w.heap.size) ⟨own_zero (World.ownsRow_lit (base := w.heap.size) (e := 9) (size := 1) w #[.string (mk s)] 1 (Nat.le_refl _) (by simp [maxLen]) rfl), fun k hk => by simp only [Value.ownBlock, Option.some.injEq] at hk; exact hk.symm, fun k hk => by rw [hk]; simp⟩ (fun k hk => by omega)
theorem par_nil (h : Par W w P Non) : Par W w P (SlP (.slice none 0 0) []) := h.drop fun w G _ => ⟨fun _ => False, ⟨World.ownsRow_nil _ _ _ _, (fun k hk => by cases hk), (fun k hk => hk.elim)⟩, fun _ h => h.elim⟩
end
theorem Wc.Fine.small {t : Wc} (h : t.Fine) : small20 t.s := by have := h.s; unfold small20; omega
theorem Wc.Fine.smalls {t : Wc} (h : t.Fine) : ∀ s ∈ t.l, small20 s := fun s hs => by
  have h1 := tot_mem t.l s hs
  have h2 := h.t
  unfold small20; omega
theorem Wc.Fine.flat {t : Wc} (h : t.Fine) : (flat rec6 t.l).length ≤ 16777216 := by
  have h1 := flat_le t.l 3000 (fun s hs => h.smalls s hs) h.t
  have h2 := h.l
  omega
end Go.Proofs.YtgamkahbebnnaaaDoor.D5
