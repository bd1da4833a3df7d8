/-
  One file turns: truncate and the file's crash; what a call makes of a disk (Step).
-/
import Derived.Test.YtgamkahbebnnaaaDoorD5Leaf
import Derived.StillTailTactics
import Derived.Lib.QuietBelow
namespace Go.Proofs.YtgamkahbebnnaaaDoor.D5
open Go.RowKit
/-- A call turns the disk in block b, whose blocks are F, to D'. -/
def Step (b : Nat) (F : Nat → Prop) (w w' : World) (D' : Dk) : Prop := ∃ F', Has w' b F' D' ∧ (∀ k, F' k → F k ∨ w.heap.size ≤ k) ∧ Fr F w w'
section
variable {b : Nat} {F F1 : Nat → Prop} {w w1 w2 : World} {D D1 D2 : Dk}
theorem Step.same (h : Has w1 b F D) (hf : Fr F w w1) : Step b F w w1 D := ⟨F, h, fun _ hk => .inl hk, hf⟩
theorem Step.refl (h : Has w b F D) : Step b F w w D := Step.same h (Fr.refl F w)
theorem Step.trans (hf : Fr F w w1) (hg : ∀ k, F1 k → F k ∨ w.heap.size ≤ k) (h : Step b F1 w1 w2 D2) : Step b F w w2 D2 := by
  obtain ⟨F2, h1, h2, h3⟩ := h
  refine ⟨F2, h1, fun k hk => ?_, hf.trans h3 (fun i hi h => ?_)⟩
  · rcases h2 k hk with h | h
    · exact hg k h
    · exact .inr (Nat.le_trans hf.size h)
  · rcases hg i h with h | h
    · exact h
    · omega
theorem Step.drew (h : Step b F w w1 D) (n : Nat) : Step b F w (w1.drewN n) D := by
  obtain ⟨F2, ⟨v, h1⟩, h2, h3⟩ := h
  exact ⟨F2, ⟨v, ⟨h1.is, h1.own, h1.mem, h1.row, h1.ne, h1.lt, h1.ok⟩⟩, h2, h3.drew n⟩
end
theorem Has.drew {w : World} {b : Nat} {F : Nat → Prop} {D : Dk} (h : Has w b F D) (n : Nat) : Has (w.drewN n) b F D := by
  obtain ⟨v, h1⟩ := h
  exact ⟨v, ⟨h1.is, h1.own, h1.mem, h1.row, h1.ne, h1.lt, h1.ok⟩⟩
theorem own_take {w : World} {base n m cap : Nat} {e : TypeId} {A : Option Addr} {xs : List Value} (h : w.ownsRow base e 1 (.slice A n cap) n xs) (hm : m ≤ n) : w.ownsRow base e 1 (.slice A m cap) m (xs.take m) := by
  have hl : xs.length = n := by have := h.1; omega
  refine ⟨by rw [List.length_take]; omega, ?_⟩
  rcases h.2 with ⟨h1, rfl⟩ | ⟨g, c, cur, h1, h2, h3, h4, h5, h6, h7⟩
  · obtain rfl : m = 0 := by omega
    exact .inl ⟨h1, rfl⟩
  · injection h1 with ha hn hc
    subst ha hc
    refine .inr ⟨g, cap, cur, rfl, h2, h3, by omega, h5, h6, ?_⟩
    rw [← h7, List.take_take]
    congr 1
    omega
theorem took_len (x : List UInt8 × List UInt8) (n : Nat) : (Dk.took x n).1.length = min x.1.length n := by simp [Dk.took, List.length_take, Nat.min_comm]
theorem took_all (x : List UInt8 × List UInt8) (n : Nat) : (Dk.took x n).1 ++ (Dk.took x n).2 = (x.1 ++ x.2).take n := by simp [Dk.took, List.take_append]
/-- File f turns: its slice u, its durable length n. -/
theorem Disk.file {w w2 : World} {b : Nat} {v : Nat → Value} {F : Nat → Prop} {D : Dk} (h : Disk w b v F D) {f : Nat} (hf : f < 8) {u : Value} {n : Int} {x : List UInt8 × List UInt8} (hn : n = (x.1.length : Nat))
    (hI : Is w2 b 63 (((cellsD v D).setIfInBounds (f * 2) u).setIfInBounds (f * 2 + 1) (.int .i64 n))) {m : Nat} (hm : m = x.1.length + x.2.length) {ys : List UInt8} (hy : x.1 ++ x.2 = ys) (ho : w2.ownsRow 0 5 1 u m (bytes ys))
    (hx : x.1.length + x.2.length ≤ 16777216) (hu : ∀ k, u.ownBlock = some k → (v f).ownBlock = some k ∨ w.heap.size ≤ k)
    (hfr : Fr (fun k => k = b ∨ (v f).ownBlock = some k) w w2) : Step b F w w2 (D.set f x) := by
  subst hm hy
  have hF : ∀ k, (k = b ∨ (v f).ownBlock = some k) → F k := by
    rintro k (rfl | hk)
    · exact h.mem
    · exact h.row f hf k hk
  have hrow : ∀ g, g < 8 → ∀ k, (upd v f u g).ownBlock = some k → F k ∨ (w.heap.size ≤ k ∧ k < w2.heap.size) := by
    intro g hg k hk
    by_cases e : g = f
    · subst e
      rw [upd_same] at hk
      rcases hu k hk with h1 | h1
      · exact .inl (h.row g hg k h1)
      · exact .inr ⟨h1, (ho.lt k hk).2⟩
    · rw [upd_other _ _ e] at hk
      exact .inl (h.row g hg k hk)
  refine ⟨fun k => F k ∨ (w.heap.size ≤ k ∧ k < w2.heap.size), ⟨upd v f u, ?_⟩, fun k hk => hk.imp_right And.left, hfr.mono (fun i _ hi => hF i hi)⟩
  refine ⟨?_, ?_, .inl h.mem, hrow, ?_, ?_, h.ok.set hx⟩
  · rw [cellsD_set_both v D hf u n x hn] at hI
    exact hI
  · intro g hg
    by_cases e : g = f
    · subst e
      rw [upd_same]
      exact own_cast ho (by simp [Dk.len, Dk.set, upd_same]) (by simp [Dk.all, Dk.set, upd_same])
    · rw [upd_other _ _ e]
      refine own_cast (hfr.own (h.own g hg) (fun k hk => ?_)) (by simp [Dk.len, Dk.set, upd_other _ _ e]) (by simp [Dk.all, Dk.set, upd_other _ _ e])
      rintro (rfl | hk2)
      · exact Is.row_apart (h.own g hg) h.is (by decide) hk
      · exact h.ne g f hg hf e k hk hk2
  · intro g i hg hi hgi k hk hk2
    by_cases e : g = f
    · subst e
      rw [upd_same] at hk
      rw [upd_other _ _ (Ne.symm hgi)] at hk2
      rcases hu k hk with h1 | h1
      · exact h.ne g i hg hi hgi k h1 hk2
      · have := h.lt k (h.row i hi k hk2); omega
    · rw [upd_other _ _ e] at hk
      by_cases e2 : i = f
      · subst e2
        rw [upd_same] at hk2
        rcases hu k hk2 with h1 | h1
        · exact h.ne g i hg hi hgi k hk h1
        · have := h.lt k (h.row g hg k hk); omega
      · rw [upd_other _ _ e2] at hk2
        exact h.ne g i hg hi hgi k hk hk2
  · rintro k (hk | hk)
    · exact Nat.lt_of_lt_of_le (h.lt k hk) hfr.size
    · exact hk.2
theorem truncate_any (b : Nat) (D : Dk) (F : Nat → Prop) (f n : Nat) (w : World) (h : Has w b F D) (hf : f < 8) (hn : n ≤ D.len f) :
    Calls Tryd.prog 47 #[.pointer (some ⟨b, f * 2, none⟩), .int .i64 (n : Int)] w fun e w' => e = .returned (.tuple #[]) ∧ Step b F w w' (D.set f (Dk.took (D.fs f) n)) := by
  obtain ⟨v, h⟩ := h
  obtain ⟨A, cap, ev, c1⟩ := h.form hf
  have c2 := h.cn hf
  have f1 := h.is.open_ (f * 2)
  have f2 := h.is.open_ (f * 2 + 1)
  have hO := h.own f hf
  rw [ev] at hO
  have hcap : D.len f ≤ cap := by
    rcases hO.2 with ⟨h1, h2⟩ | ⟨g, c, cur, h1, h2, h3, h4, h5, h6, h7⟩
    · omega
    · injection h1 with ha hn hc; omega
  have hfin : Hid (∀ z : Int, z = (min (D.fs f).1.length n : Nat) → Step b F w ((w.setCell ⟨b, f * 2, none⟩ (.slice A n cap)).setCell ⟨b, f * 2 + 1, none⟩ (.int .i64 z)) (D.set f (Dk.took (D.fs f) n))) := Lib.hid (by
    rintro z rfl
    have hfr : Fr (fun k => k = b ∨ (v f).ownBlock = some k) w ((w.setCell ⟨b, f * 2, none⟩ (.slice A n cap)).setCell ⟨b, f * 2 + 1, none⟩ (.int .i64 (min (D.fs f).1.length n : Nat))) := ((Fr.refl _ w).set (b := b) (.inl rfl) _ _).set (b := b) (.inl rfl) _ _
    have hfb : Fr (fun k => k = b) w ((w.setCell ⟨b, f * 2, none⟩ (.slice A n cap)).setCell ⟨b, f * 2 + 1, none⟩ (.int .i64 (min (D.fs f).1.length n : Nat))) := ((Fr.refl (fun k => k = b) w).set (b := b) rfl _ _).set (b := b) rfl _ _
    have ht := own_take hO hn
    have hlen : (Dk.took (D.fs f) n).1.length + (Dk.took (D.fs f) n).2.length = n := by
      rw [← List.length_append, took_all, List.length_take, List.length_append]
      unfold Dk.len at hn
      omega
    refine h.file hf (by rw [took_len]) ((h.is.put _ _).put _ _) (m := n) hlen.symm (took_all _ _) ?_ (by have := h.ok.len f hf; omega) (fun k hk => .inl (by rw [ev]; cases A <;> exact hk)) hfr
    refine hfb.own (own_cast ht rfl (by rw [← bytes_take]; rfl)) ?_
    rintro k hk rfl
    exact Is.row_apart ht h.is (by decide) hk)
  have hh := Lib.hid h
  have hO := Lib.hid hO
  clear h
  have i1 : (n : Int) ≤ (cap : Int) := by omega
  have i2 : n ≤ cap := by omega
  go_enter Tryd.func47, Tryd.ntmps47
  go_wp2
  all_goals go_end0
  all_goals exact ⟨rfl, hfin.out _ (by omega)⟩
theorem set_set (D : Dk) (f : Nat) (x y : List UInt8 × List UInt8) : (D.set f x).set f y = D.set f y := by
  unfold Dk.set upd
  simp only [Dk.mk.injEq, and_true]
  funext i
  split <;> rfl
set_option maxHeartbeats 1000000 in
set_option maxRecDepth 40000 in
theorem fcrash_any (b : Nat) (D : Dk) (F : Nat → Prop) (f : Nat) (k : Int) (w : World) (h : Has w b F D) (hf : f < 8) :
    Calls Tryd.prog 52 #[.pointer (some ⟨b, f * 2, none⟩), .int .i64 k] w fun e w' => e = .returned (.tuple #[]) ∧ Step b F w w' (D.set f ((D.fs f).1 ++ (D.fs f).2.take k.toNat, [])) := by
  obtain ⟨v, h⟩ := h
  obtain ⟨A, cap, ev, c1⟩ := h.form hf
  have c2 := h.cn hf
  have f1 := h.is.open_ (f * 2)
  have f2 := h.is.open_ (f * 2 + 1)
  obtain ⟨m, hm⟩ : ∃ m, m = min k.toNat (D.fs f).2.length := ⟨_, rfl⟩
  have hok := h.ok.len f hf
  have e1 : D.len f = (D.fs f).1.length + (D.fs f).2.length := rfl
  obtain ⟨x, hx⟩ : ∃ x, x = ((D.fs f).1 ++ (D.fs f).2.take k.toNat, (D.fs f).2.drop k.toNat) := ⟨_, rfl⟩
  have x1 : x.1.length = (D.fs f).1.length + m := by rw [hx, hm]; simp [List.length_take]
  have x2 : x.1 ++ x.2 = (D.fs f).1 ++ (D.fs f).2 := by rw [hx]; simp
  have x3 : x.1.length + x.2.length = D.len f := by rw [← List.length_append, x2, List.length_append]; rfl
  have hz : Hid (∀ (j : Nat) (z : Int), z = (x.1.length : Nat) → Has ((w.setCell ⟨b, f * 2 + 1, none⟩ (.int .i64 z)).drewN j) b F (D.set f x)) := Lib.hid (by
    rintro j z rfl
    refine Has.drew ⟨v, h.turn (cellsD_set_n v D hf _ x rfl) (fun g _ => ?_) (h.ok.set (by omega))⟩ j
    unfold Dk.all Dk.set
    by_cases e : g = f
    · subst e; simp only [upd_same]; exact x2
    · simp only [upd_other _ _ e])
  have hT : ∀ (w1 : World) (z : Int), z = (x.1.length : Nat) → Has w1 b F (D.set f x) → Calls Tryd.prog 47 #[.pointer (some ⟨b, f * 2, none⟩), .int .i64 z] w1 fun e w' => e = .returned (.tuple #[]) ∧ Step b F w1 w' (D.set f ((D.fs f).1 ++ (D.fs f).2.take k.toNat, [])) := fun w1 z hzz h1 => by
    subst hzz
    have := truncate_any b (D.set f x) F f x.1.length w1 h1 hf (by unfold Dk.len Dk.set; simp [upd_same])
    have e3 : (D.set f x).set f (Dk.took ((D.set f x).fs f) x.1.length) = D.set f ((D.fs f).1 ++ (D.fs f).2.take k.toNat, []) := by
      rw [set_set]
      congr 1
      have : (D.set f x).fs f = x := by unfold Dk.set; simp [upd_same]
      rw [this]
      unfold Dk.took
      rw [List.take_length, Nat.sub_self, List.take_zero, hx]
    rw [e3] at this
    exact this
  have hfr : Hid (∀ (j : Nat) (z : Int), Fr F w ((w.setCell ⟨b, f * 2 + 1, none⟩ (.int .i64 z)).drewN j)) := Lib.hid (fun j z => ((Fr.refl F w).set h.mem _ _).drew j)
  have hT := Lib.hid hT
  have hh := Lib.hid h
  have HX1 := Lib.hid x1
  have HM := Lib.hid hm
  have HE := Lib.hid e1
  clear h hx x1 x2 x3 hm
  have W0 : IntKind.i64.wrap ((D.len f : Nat) - ((D.fs f).1.length : Nat) : Int) = ((D.len f : Nat) : Int) - ((D.fs f).1.length : Nat) := IntWalk.i64_in _ (by omega)
  clear e1
  have HO := Lib.hid hok
  clear hok
  by_cases h0 : k < 0
  · have h1 : ¬ ((D.len f : Nat) : Int) - ((D.fs f).1.length : Nat) < 0 := by have := HE.out; omega
    have W1 : IntKind.i64.wrap (((D.fs f).1.length : Nat) : Int) = ((D.fs f).1.length : Nat) := IntWalk.i64_in _ (by have := HE.out; have := HO.out; omega)
    go_enter Tryd.func52, Tryd.ntmps52
    go_wp2
    go_still_tail 18, (by kernel_rfl)
    change wpList _ _ _ _ _ w.drew
    go_wp2_with (first | (go_at_call 47; go_must (refine (hT.out _ _ (by have := HX1.out; have := HM.out; have := HE.out; omega) (hz.out 1 _ (by have := HX1.out; have := HM.out; have := HE.out; omega))).mono ?_); rintro e w2 ⟨rfl, hs⟩; have HS := Lib.hid hs; clear hs))
    go_end0
    exact ⟨rfl, Step.trans (hfr.out 1 _) (fun _ h => .inl h) HS.out⟩
  · by_cases h1 : ((D.len f : Nat) : Int) - ((D.fs f).1.length : Nat) < k
    · have W1 : IntKind.i64.wrap (((D.fs f).1.length : Nat) + (((D.len f : Nat) : Int) - ((D.fs f).1.length : Nat)) : Int) = ((D.fs f).1.length : Nat) + (((D.len f : Nat) : Int) - ((D.fs f).1.length : Nat)) := IntWalk.i64_in _ (by have := HE.out; have := HO.out; omega)
      go_enter Tryd.func52, Tryd.ntmps52
      go_wp2
      go_still_tail 18, (by kernel_rfl)
      change wpList _ _ _ _ _ w.drew
      go_wp2_with (first | (go_at_call 47; go_must (refine (hT.out _ _ (by have := HX1.out; have := HM.out; have := HE.out; omega) (hz.out 1 _ (by have := HX1.out; have := HM.out; have := HE.out; omega))).mono ?_); rintro e w2 ⟨rfl, hs⟩; have HS := Lib.hid hs; clear hs))
      go_end0
      exact ⟨rfl, Step.trans (hfr.out 1 _) (fun _ h => .inl h) HS.out⟩
    · have W1 : IntKind.i64.wrap (((D.fs f).1.length : Nat) + k : Int) = ((D.fs f).1.length : Nat) + k := IntWalk.i64_in _ (by have := HE.out; have := HO.out; omega)
      go_enter Tryd.func52, Tryd.ntmps52
      go_wp2
      go_still_tail 18, (by kernel_rfl)
      change wpList _ _ _ _ _ w.drew
      go_wp2_with (first | (go_at_call 47; go_must (refine (hT.out _ _ (by have := HX1.out; have := HM.out; have := HE.out; omega) (hz.out 1 _ (by have := HX1.out; have := HM.out; have := HE.out; omega))).mono ?_); rintro e w2 ⟨rfl, hs⟩; have HS := Lib.hid hs; clear hs))
      go_end0
      exact ⟨rfl, Step.trans (hfr.out 1 _) (fun _ h => .inl h) HS.out⟩
end Go.Proofs.YtgamkahbebnnaaaDoor.D5
