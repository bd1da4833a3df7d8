/-
  The beginning of a call that a scheduled crash may strike (enter); Crash and Arm.
-/
import Derived.Test.YtgamkahbebnnaaaDoorD5Crash
namespace Go.Proofs.YtgamkahbebnnaaaDoor.D5
open Go.RowKit
theorem Disk.keeps {w : World} {b : Nat} {v : Nat → Value} {F : Nat → Prop} {D : Dk} (h : Disk w b v F D) : w.rangeAt b 19 (eight D.keep).toList := fun j u hu => by
  have hj : j < 8 := (List.getElem?_eq_some_iff.1 hu).1
  rw [h.ck hj]
  rw [Array.getElem?_toList, eight_at _ hj] at hu
  exact hu
theorem Has.drew1 {w : World} {b : Nat} {F : Nat → Prop} {D : Dk} (h : Has w b F D) : Has w.drew b F D := h.drew 1
set_option maxRecDepth 20000 in
set_option maxHeartbeats 1000000 in
theorem enter_any (b : Nat) (D : Dk) (F : Nat → Prop) (w : World) (h : Has w b F D) :
    Calls Tryd.prog 43 #[.pointer (some ⟨b, 0, none⟩)] w fun e w' => e = .returned (.int .i64 (D.enter.1 : Nat)) ∧ Step b F w w' D.enter.2 := by
  have hh := h
  obtain ⟨v, h⟩ := h
  have c1 := h.cdown
  have c2 := h.cleft
  have f2 := h.is.open_ 18
  cases hd : D.down
  · rw [hd] at c1
    by_cases h0 : D.left = 0
    · have hE : D.enter = (0, D) := by simp [Dk.enter, hd, h0]
      rw [hE]
      rw [h0] at c2
      have HH := Lib.hid hh
      clear hh h hE h0
      go_enter Tryd.func43, Tryd.ntmps43
      go_wp2
      go_ret
      exact ⟨rfl, Step.refl HH.out⟩
    · have hlt := h.ok.left
      have W1 : IntKind.i64.wrap ((D.left : Nat) - 1 : Int) = ((D.left : Nat) : Int) - 1 := IntWalk.i64_in _ (by omega)
      have z1 : ¬ ((D.left : Nat) : Int) = 0 := by omega
      have hfr : Fr F w (w.setCell ⟨b, 18, none⟩ (.int .i64 (((D.left : Nat) : Int) - 1))) := (Fr.refl F w).set h.mem _ _
      have ht : Disk (w.setCell ⟨b, 18, none⟩ (.int .i64 (((D.left : Nat) : Int) - 1))) b v F { D with left := D.left - 1 } := h.turn (by simp [cellsD]; omega) (fun _ _ => rfl) ⟨h.ok.lost, by show D.left - 1 < _; omega, h.ok.len⟩
      by_cases h1 : D.left = 1
      · have hE : D.enter = (12, D.crash D.keep) := by simp [Dk.enter, hd, h1]
        rw [hE]
        have z2 : ¬ (0 : Int) < ((D.left : Nat) : Int) - 1 := by omega
        have z3 : decide ((0 : Int) < ((D.left : Nat) : Int) - 1) = false := by simp; omega
        clear h1 h0
        have C := Lib.hid (crash_any b { D with left := D.left - 1 } F D.keep _ ⟨v, ht⟩)
        have K : Hid ((w.setCell ⟨b, 18, none⟩ (.int .i64 (((D.left : Nat) : Int) - 1))).rangeAt b 19 (eight D.keep).toList) := Lib.hid ht.keeps
        have HI := Lib.hid info55
        have HF := Lib.hid hfr
        have HT := Lib.hid ht
        clear hh h hE hfr ht
        go_enter Tryd.func43, Tryd.ntmps43
        go_wp2_with (first
          | (refine wpList_load_mid rfl 61 _ rfl b 19 rfl (eight D.keep).toList _ K.out Tryd.underlying61 rfl HI.out ?_)
          | (go_at_call 41; go_must (refine (C.out).mono ?_); rintro e w2 ⟨rfl, hs⟩; have HS := Lib.hid hs; clear hs))
        go_ret
        exact ⟨rfl, (Step.trans HF.out (fun _ h => .inl h) HS.out)⟩
      · have hE : D.enter = (0, { D with left := D.left - 1 }) := by simp [Dk.enter, hd, h0, h1]
        rw [hE]
        have z2 : (0 : Int) < ((D.left : Nat) : Int) - 1 := by omega
        have HF := Lib.hid hfr
        have HT := Lib.hid ht
        clear hh h hE hfr ht
        go_enter Tryd.func43, Tryd.ntmps43
        go_wp2
        go_ret
        exact ⟨rfl, Step.same ⟨v, HT.out⟩ HF.out⟩
  · rw [hd] at c1
    have hE : D.enter = (12, D) := by simp [Dk.enter, hd]
    rw [hE]
    have HH := Lib.hid hh
    clear hh h hE
    go_enter Tryd.func43, Tryd.ntmps43
    go_wp2
    go_ret
    exact ⟨rfl, Step.refl HH.out⟩
theorem Has.below {w w1 : World} {b B : Nat} {F : Nat → Prop} {D : Dk} (h : Has w b F D) (hb : Below B w w1) (hB : w.heap.size ≤ B) : Has w1 b F D :=
  h.kept (Fr.of_below (F := fun _ => False) hb hB) (fun _ _ hh => hh)
theorem fall_any (b : Nat) (D : Dk) (F : Nat → Prop) (A : Option Addr) (cap : Nat) (xs : List Int) (w : World) (h : Has w b F D) (hr : RowAt w A (ints xs)) :
    Calls Tryd.prog 19 #[.pointer (some ⟨b, 0, none⟩), .slice A xs.length cap] w fun e w' => e = .returned (.tuple #[]) ∧ Step b F w w' (D.fall (kf xs)) := by
  have hh := h
  obtain ⟨v, h⟩ := h
  have c1 := h.cdown
  cases hd : D.down
  · rw [hd] at c1
    have hE : D.fall (kf xs) = D.crash (kf xs) := by simp [Dk.fall, hd]
    rw [hE]
    have C := Lib.hid (ofEach_any A cap xs w hr)
    have K := Lib.hid (fun w1 hb => crash_any b D F (kf xs) w1 (hh.below (B := w.heap.size) hb (Nat.le_refl _)))
    clear hh h hE hr
    go_enter Tryd.func19, Tryd.ntmps19
    go_wp2_with (first
      | (go_at_call 40; go_must (refine (C.out).mono ?_); rintro e w2 ⟨rfl, hb⟩; have HB := Lib.hid hb; clear hb)
      | (go_at_call 41; go_must (refine (K.out _ HB.out).mono ?_); rintro e w3 ⟨rfl, hs⟩; have HS := Lib.hid hs; clear hs))
    go_end0
    exact ⟨rfl, Step.trans (Fr.of_below HB.out (Nat.le_refl _)) (fun _ h => .inl h) HS.out⟩
  · rw [hd] at c1
    have hE : D.fall (kf xs) = D := by simp [Dk.fall, hd]
    rw [hE]
    have HH := Lib.hid hh
    clear hh h hE hr
    go_enter Tryd.func19, Tryd.ntmps19
    go_wp2
    go_end0
    exact ⟨rfl, Step.refl HH.out⟩
theorem Is.puts {b : Nat} {t : TypeId} : ∀ (vs : List Value) (o : Nat) (w : World) (c : Array Value), Is w b t c → ∃ c', Is (w.setCells b o vs) b t c' ∧ c' = (vs.foldl (fun (p : Nat × Array Value) v => (p.1 + 1, p.2.setIfInBounds p.1 v)) (o, c)).2
  | [], _, _, c, h => ⟨c, h, rfl⟩
  | v :: r, o, _, _, h => Is.puts r (o + 1) _ _ (h.put o v)
theorem Fr.puts {F : Nat → Prop} {b : Nat} (hb : F b) : ∀ (vs : List Value) (o : Nat) (w w1 : World), Fr F w w1 → Fr F w (w1.setCells b o vs)
  | [], _, _, _, h => h
  | v :: r, o, w, _, h => Fr.puts hb r (o + 1) w _ (h.set hb o v)
theorem Disk.there {w : World} {b : Nat} {v : Nat → Value} {F : Nat → Prop} {D : Dk} (h : Disk w b v F D) : w.there b 19 8 := fun j hj => ⟨by rw [h.ck hj]; rfl, h.is.open_ _⟩
theorem Disk.keepTurn {w : World} {b : Nat} {v : Nat → Value} {F : Nat → Prop} {D : Dk} (h : Disk w b v F D) (k : Nat → Int) : Disk (w.setCells b 19 (eight k).toList) b v F { D with keep := k } ∧ Fr F w (w.setCells b 19 (eight k).toList) := by
  obtain ⟨c', h1, h2⟩ := Is.puts (eight k).toList 19 w _ h.is
  have hf : Fr (fun i => i = b) w (w.setCells b 19 (eight k).toList) := Fr.puts (F := fun i => i = b) rfl _ _ _ _ (Fr.refl _ w)
  have e : c' = cellsD v { D with keep := k } := by rw [h2]; simp [eight, cellsD]
  subst e
  refine ⟨⟨h1, fun f hf8 => ?_, h.mem, h.row, h.ne, fun i hi => Nat.lt_of_lt_of_le (h.lt i hi) hf.size, ⟨h.ok.lost, h.ok.left, h.ok.len⟩⟩, hf.mono (fun i _ e => e ▸ h.mem)⟩
  refine hf.own (h.own f hf8) ?_
  rintro i hi rfl
  exact Is.row_apart (h.own f hf8) h.is (by decide) hi
theorem RowAt.kept2 {F : Nat → Prop} {w w1 : World} {A : Option Addr} {xs : List Int} (h : RowAt w A (ints xs)) (hf : Fr F w w1) (hA : xs ≠ [] → ∀ a, A = some a → ¬ F a.block) : RowAt w1 A (ints xs) := by
  cases xs with
  | nil => exact RowAt.nil w1 A
  | cons x r => exact h.kept hf (hA (by simp))
set_option maxRecDepth 20000 in
theorem arm_any (b : Nat) (D : Dk) (F : Nat → Prop) (n : Int) (A : Option Addr) (cap : Nat) (xs : List Int) (w : World) (h : Has w b F D) (hn : n < 9223372036854775808) (hr : RowAt w A (ints xs)) (hA : xs ≠ [] → ∀ a, A = some a → a.block ≠ b) :
    Calls Tryd.prog 16 #[.pointer (some ⟨b, 0, none⟩), .int .i64 n, .slice A xs.length cap] w fun e w' => e = .returned (.tuple #[]) ∧ Step b F w w' (D.arm n (kf xs)) := by
  obtain ⟨v, h⟩ := h
  have c1 := h.cleft
  have f1 := h.is.open_ 18
  have ht : Hid (∀ z : Int, z = (n.toNat : Nat) → Disk (w.setCell ⟨b, 18, none⟩ (.int .i64 z)) b v F { D with left := n.toNat }) := Lib.hid (by
    rintro _ rfl
    exact h.turn (by simp [cellsD]) (fun _ _ => rfl) ⟨h.ok.lost, by show n.toNat < _; omega, h.ok.len⟩)
  have hf : Hid (∀ z : Int, Fr F w (w.setCell ⟨b, 18, none⟩ (.int .i64 z))) := Lib.hid (fun z => (Fr.refl F w).set h.mem 18 _)
  have C : Hid (∀ z : Int, Calls Tryd.prog 40 #[.slice A xs.length cap] (w.setCell ⟨b, 18, none⟩ (.int .i64 z)) fun e w' => e = .returned (.agg (eight (kf xs))) ∧ Below (w.setCell ⟨b, 18, none⟩ (.int .i64 z)).heap.size (w.setCell ⟨b, 18, none⟩ (.int .i64 z)) w') := Lib.hid (fun z =>
    ofEach_any A cap xs _ (hr.kept2 (F := fun i => i = b) ((Fr.refl (fun i => i = b) w).set (b := b) rfl 18 _) hA))
  have HI := Lib.hid info55
  have hh := Lib.hid h
  clear h hr hA
  go_enter Tryd.func16, Tryd.ntmps16
  go_wp2_with (first
    | (go_at_call 40; go_must (refine (C.out _).mono ?_); rintro e w2 ⟨rfl, hb⟩; have HD := Lib.hid ((ht.out _ (by omega)).kept (Fr.of_below (F := fun _ => False) hb (Nat.le_refl _)) (fun _ _ hh => hh)); have HF := Lib.hid ((hf.out _).trans (G := F) (Fr.of_below hb (Nat.le_refl _)) (fun _ _ h => h)); have HT := Lib.hid HD.out.there; clear hb)
    | (refine wpList_store_mid rfl 61 _ _ rfl b 19 (eight (kf xs)) rfl rfl HT.out HI.out (eight_one _) ?_))
  all_goals go_end0
  all_goals exact ⟨rfl, Step.trans HF.out (fun _ h => .inl h) (Step.same ⟨v, (HD.out.keepTurn (kf xs)).1⟩ (HD.out.keepTurn (kf xs)).2)⟩
end Go.Proofs.YtgamkahbebnnaaaDoor.D5
