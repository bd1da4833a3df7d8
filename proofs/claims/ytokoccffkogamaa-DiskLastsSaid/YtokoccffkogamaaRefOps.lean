/-
  The reference's calls that a scheduled crash may strike: comes, Append.
-/
import Derived.Test.YtokoccffkogamaaRefCrash
namespace Go.Proofs.Ytokoccffkogamaa
open Go.RowKit
namespace Dk
def bump (D : Dk) (f : Int) (s : List UInt8) : Dk := if isF f = true ∧ D.len f.toNat + s.length ≤ 16777216 then D.set f.toNat ((D.fs f.toNat).1, (D.fs f.toNat).2 ++ s) else D
def comes (D : Dk) (f : Int) (s : List UInt8) : Dk := if D.down = true then D else if D.left = 0 then D else if D.left = 1 then (D.bump f s).crash D.keep else { D with left := D.left - 1 }
theorem set_self (D : Dk) (f : Nat) : D.set f (D.fs f) = D := by
  unfold Dk.set upd
  congr 1
  funext x
  split
  · next e => rw [e]
  · rfl
theorem comes_nil {D : Dk} (h : D.Ok) : D.comes 0 [] = D.enter.2 := by
  have hb : D.bump 0 [] = D := by
    unfold bump
    rw [if_pos ⟨rfl, by have := h.len 0 (by omega); simpa using this⟩]
    simp only [List.append_nil]
    exact set_self D _
  unfold comes enter
  rw [hb]
  split
  · rfl
  · split
    · rfl
    · split <;> rfl
theorem enter_one (D : Dk) : D.enter.1 = if D.enter.2.down = true then 12 else 0 := by
  unfold enter
  split
  · rfl
  · next h =>
    split
    · rfl
    · split
      · simp [Dk.crash]
      · rfl
theorem app_eq (D : Dk) (f : Int) (s : List UInt8) : D.app f s = (D.comes f s).add f s := by
  cases hd : D.down
  · cases hf : isF f
    · by_cases h0 : D.left = 0
      · simp [app, add, comes, enter, hd, hf, h0]
      · by_cases h1 : D.left = 1
        · simp [app, add, comes, enter, hd, hf, h1, bump, Dk.crash]
        · simp [app, add, comes, enter, hd, hf, h0, h1]
    · by_cases hl : 16777216 < D.len f.toNat + s.length
      · have hl2 : ¬ D.len f.toNat + s.length ≤ 16777216 := by omega
        by_cases h0 : D.left = 0
        · simp [app, add, comes, enter, hd, hf, h0, hl]
        · by_cases h1 : D.left = 1
          · simp [app, add, comes, enter, hd, hf, h1, bump, Dk.crash, hl, hl2]
          · have e : ∀ d n, ({ D with down := d, left := n } : Dk).len f.toNat = D.len f.toNat := fun _ _ => rfl
            simp [app, add, comes, enter, hd, hf, h0, h1, hl, e]
      · have hl2 : D.len f.toNat + s.length ≤ 16777216 := by omega
        by_cases h0 : D.left = 0
        · simp [app, add, comes, enter, hd, hf, h0, hl, Dk.set]
        · by_cases h1 : D.left = 1
          · simp [app, add, comes, enter, hd, hf, h1, bump, Dk.crash, hl, hl2, Dk.set]
          · have e : ∀ d n, ({ D with down := d, left := n } : Dk).len f.toNat = D.len f.toNat := fun _ _ => rfl
            simp [app, add, comes, enter, hd, hf, h0, h1, hl, e, Dk.set]
  · simp [app, add, comes, enter, hd]
end Dk
theorem Ref.drewE {F : Nat → Prop} {w w' : World} {r g cap kcap : Nat} {K : Option Addr} {ks : List Int} {D : Dk} (h : Ref w r g cap K kcap ks F D) (e : ∃ j, w' = w.drewN j) : Ref w' r g cap K kcap ks F D ∧ Fr F w w' := by
  obtain ⟨j, rfl⟩ := e
  exact ⟨⟨h.is, h.row, h.kept, h.keep, h.small, h.mr, h.mg, h.mq, h.lt, h.ok⟩, (Fr.refl F w).drew j⟩
theorem Ref.keeps {F : Nat → Prop} {w : World} {r g cap kcap : Nat} {K : Option Addr} {ks : List Int} {D : Dk} (h : Ref w r g cap K kcap ks F D) : RowAt w K (ints ks) := by
  obtain ⟨A, c, e, hr, hl⟩ := own_read h.kept
  cases e
  exact hr
theorem rcrash_keep (r : Nat) (D : Dk) (F : Nat → Prop) (g cap : Nat) (K : Option Addr) (kcap : Nat) (ks : List Int) (w : World) (h : Ref w r g cap K kcap ks F D) (hd : D.down = false) :
    Calls Try.prog 43 #[.pointer (some ⟨r, 0, none⟩), .slice K ks.length kcap] w fun e w' => e = .returned (.tuple #[]) ∧ RStep r F w w' (D.crash D.keep) := by
  refine (rcrash_ref r D F g cap K kcap ks K kcap ks w h h.keeps (fun _ a ha => ⟨h.kr a ha, h.kg a ha⟩)).mono fun e w' hh => ⟨hh.1, ?_⟩
  have e : D.fall (kf ks) = D.crash (kf ks) := by simp [Dk.fall, hd]
  rw [e] at hh
  refine hh.2.congr (fun f hf => ?_) rfl rfl rfl (fun _ _ => rfl)
  simp only [Dk.crash]
  rw [h.keep f hf]
set_option maxRecDepth 40000 in
set_option maxHeartbeats 4000000 in
theorem comes_any (r : Nat) (D : Dk) (F : Nat → Prop) (f : Int) (s : ByteArray) (w : World) (h : RHas w r F D) (hs : s.size ≤ 140737488351232) :
    Calls Try.prog 50 #[.pointer (some ⟨r, 0, none⟩), .int .i64 f, .string s] w fun e w' => e = .returned (.tuple #[]) ∧ RStep r F w w' (D.comes f (ls s)) := by
  obtain ⟨g, cap, K, kcap, ks, h⟩ := h
  have c2 := h.c2
  have HR : Hid (RHas w r F D) := Lib.hid ⟨_, _, _, _, _, h⟩
  cases hd : D.down
  · rw [hd] at c2
    have c3 := h.c3
    by_cases h0 : D.left = 0
    · have hE : D.comes f (ls s) = D := by simp [Dk.comes, h0]
      rw [hE]
      rw [h0] at c3
      clear h hE h0
      go_enter Try.func50, Try.ntmps50
      go_wp2
      exact bodyPost_ret (results_none rfl _ _ _) rfl ⟨rfl, RStep.refl HR.out⟩
    · have hlt := h.ok.left
      have f3 := h.is.open_ 3
      have W1 : IntKind.i64.wrap ((D.left : Nat) - 1 : Int) = ((D.left : Nat) : Int) - 1 := IntWalk.i64_in _ (by omega)
      have z0 : (((D.left : Nat) : Int) == 0) = false := by simp; omega
      have z0' : (D.left == 0) = false := by simp; omega
      have ht : Ref (w.setCell ⟨r, 3, none⟩ (.int .i64 (((D.left : Nat) : Int) - 1))) r g cap K kcap ks F { D with left := D.left - 1 } := h.turn (by simp [refCells]; omega) (fun _ _ => rfl) (fun _ _ => rfl) ⟨h.ok.lost, by show D.left - 1 < _; omega, h.ok.len⟩
      have hfr : Fr F w (w.setCell ⟨r, 3, none⟩ (.int .i64 (((D.left : Nat) : Int) - 1))) := (Fr.refl F w).set h.mr _ _
      by_cases h1 : D.left = 1
      · obtain ⟨D0, hD0⟩ : ∃ D0 : Dk, D0 = { D with left := 0 } := ⟨_, rfl⟩
        have e0 : (((D.left : Nat) : Int) - 1) = 0 := by omega
        have e1 : D.left - 1 = 0 := by omega
        rw [e0] at ht hfr
        rw [e1, ← hD0] at ht
        have hE : D.comes f (ls s) = (D0.bump f (ls s)).crash D0.keep := by
          have q : D.comes f (ls s) = (D.bump f (ls s)).crash D.keep := by simp [Dk.comes, hd, h1]
          rw [q, hD0]
          have el : ({ D with left := 0 } : Dk).len f.toNat = D.len f.toNat := rfl
          unfold Dk.bump
          rw [el]
          split <;> simp [Dk.crash, Dk.set]
        rw [hE]
        have z1 : ¬ (0 : Int) < ((D.left : Nat) : Int) - 1 := by omega
        have hdn : D0.down = false := by rw [hD0]; exact hd
        have c4 := h.c4
        have HT := Lib.hid ht
        have HF := Lib.hid hfr
        have HE0 := Lib.hid e0
        have HC := Lib.hid (fun w1 F1 (D1 : Dk) (h9 : Ref w1 r g cap K kcap ks F1 D1) hd9 => rcrash_keep r D1 F1 g cap K kcap ks w1 h9 hd9)
        have HDN := Lib.hid hdn
        cases hf : isF f
        · have hb : D0.bump f (ls s) = D0 := by simp [Dk.bump, hf]
          rw [hb]
          have L := (isF_not f).1 hf
          clear h hE h0 h1 hd hD0 e1 ht hfr hdn hb hlt
          by_cases l0 : 0 ≤ f
          · have l1 : decide (0 ≤ f) = true := by simp; omega
            have l2 : decide (f ≤ 7) = false := by simp; omega
            go_enter Try.func50, Try.ntmps50
            go_wp2_with (first
              | (go_at_call 43; go_must (refine (HC.out _ _ _ HT.out HDN.out).mono ?_); rintro e w2 ⟨rfl, hq⟩; have HQ := Lib.hid hq; clear hq))
            go_end0
            exact ⟨rfl, RStep.trans HF.out (fun _ h => .inl h) HQ.out⟩
          · have l1 : decide (0 ≤ f) = false := by simp; omega
            go_enter Try.func50, Try.ntmps50
            go_wp2_with (first
              | (go_at_call 43; go_must (refine (HC.out _ _ _ HT.out HDN.out).mono ?_); rintro e w2 ⟨rfl, hq⟩; have HQ := Lib.hid hq; clear hq))
            go_end0
            exact ⟨rfl, RStep.trans HF.out (fun _ h => .inl h) HQ.out⟩
        · obtain ⟨q1, q2⟩ := (isF_iff f).1 hf
          obtain ⟨n, rfl⟩ := Int.eq_ofNat_of_zero_le q1
          have hn : n < 8 := by omega
          have l1 : decide ((0 : Int) ≤ (n : Int)) = true := by simp
          have l2 : decide ((n : Int) ≤ 7) = true := by simp; omega
          have l3 : (n : Int) < 8 := by omega
          have hl := ht.ok.len n hn
          have hS : D0.size (n : Int) = D0.len n := by simp [Dk.size, hf]
          have S := rsize_any r D0 F (n : Int) _ ⟨_, _, _, _, _, ht⟩
          rw [hS] at S
          have SH := Lib.hid S
          have W2 : IntKind.i64.wrap (((D0.len n : Nat) : Int) + (s.size : Int)) = ((D0.len n : Nat) : Int) + (s.size : Int) := IntWalk.i64_in _ (by omega)
          have hgr := h.gr
          by_cases hfit : D0.len n + s.size ≤ 16777216
          · have hb : D0.bump (n : Int) (ls s) = D0.set n ((D0.fs n).1, (D0.fs n).2 ++ ls s) := by simp [Dk.bump, hf, ls_length, hfit]
            rw [hb]
            have y1 : decide (((D0.len n : Nat) : Int) + (s.size : Int) ≤ 16777216) = true := by simp; omega
            have y2 : ((D0.len n : Nat) : Int) + (s.size : Int) ≤ 16777216 := by omega
            have q0 : ¬ 9223372036854775807 < (D0.fs n).2.length + s.size := by unfold Dk.len at hfit; omega
            have sz : (mk (D0.fs n).2).size = (D0.fs n).2.length := rfl
            have HN : Hid (∀ w2, Ref w2 r g cap K kcap ks F D0 → Ref ((w2.setCell ⟨g, n * 2 + 1, none⟩ (.string (mk (D0.fs n).2 ++ s))).drewN 1) r g cap K kcap ks F (D0.set n ((D0.fs n).1, (D0.fs n).2 ++ ls s)) ∧ Fr F w2 ((w2.setCell ⟨g, n * 2 + 1, none⟩ (.string (mk (D0.fs n).2 ++ s))).drewN 1)) := Lib.hid (fun w2 h2 => by
              have e9 : mk (D0.fs n).2 ++ s = mk ((D0.fs n).2 ++ ls s) := mk_append (D0.fs n).2 (ls s)
              rw [e9]
              have h8 := h2.file1 hn ((D0.fs n).2 ++ ls s) (by rw [List.length_append, ls_length]; unfold Dk.len at hfit; omega)
              exact ⟨(h8.drewE ⟨1, rfl⟩).1, ((Fr.refl F w2).set h2.mg _ _).drew 1⟩)
            have HQF := Lib.hid hfit
            clear h hE h0 h1 hd hD0 e1 ht hfr hdn hb hlt S hS hfit
            go_enter Try.func50, Try.ntmps50
            go_wp2_with (first
              | (go_at_call 23; go_must (refine (SH.out).mono ?_); rintro e w2 ⟨rfl, hj⟩; obtain ⟨hk, hf2⟩ := HT.out.drewE hj; have a0 := hk.c0; have a1 := hk.cb hn; have a2 := hk.fo (n * 2 + 1); have a3 := hk.c4; have HK := Lib.hid hk; have HF2 := Lib.hid hf2; clear hj hk hf2))
            go_still_tail 15, (by kernel_rfl)
            change wpList _ _ _ _ _ w2.drew
            go_wp2_with (first
              | (go_at_call 43; go_must (refine (HC.out _ _ _ (HN.out _ HK.out).1 HDN.out).mono ?_); rintro e w3 ⟨rfl, hq⟩; have HQ := Lib.hid hq; clear hq))
            go_end0
            exact ⟨rfl, RStep.trans HF.out (fun _ h => .inl h) (RStep.trans HF2.out (fun _ h => .inl h) (RStep.trans (HN.out _ HK.out).2 (fun _ h => .inl h) HQ.out))⟩
          · have hb : D0.bump (n : Int) (ls s) = D0 := by
              unfold Dk.bump
              exact if_neg (fun hh => hfit (by simpa [ls_length] using hh.2))
            rw [hb]
            have y1 : decide (((D0.len n : Nat) : Int) + (s.size : Int) ≤ 16777216) = false := by simp; omega
            have HQF := Lib.hid hfit
            clear h hE h0 h1 hd hD0 e1 ht hfr hdn hb hlt S hS hfit
            go_enter Try.func50, Try.ntmps50
            go_wp2_with (first
              | (go_at_call 23; go_must (refine (SH.out).mono ?_); rintro e w2 ⟨rfl, hj⟩; obtain ⟨hk, hf2⟩ := HT.out.drewE hj; have a3 := hk.c4; have HK := Lib.hid hk; have HF2 := Lib.hid hf2; clear hj hk hf2)
              | (go_at_call 43; go_must (refine (HC.out _ _ _ HK.out HDN.out).mono ?_); rintro e w3 ⟨rfl, hq⟩; have HQ := Lib.hid hq; clear hq))
            go_end0
            exact ⟨rfl, RStep.trans HF.out (fun _ h => .inl h) (RStep.trans HF2.out (fun _ h => .inl h) HQ.out)⟩
      · have hE : D.comes f (ls s) = { D with left := D.left - 1 } := by simp [Dk.comes, hd, h0, h1]
        rw [hE]
        have z1 : (0 : Int) < ((D.left : Nat) : Int) - 1 := by omega
        have HT := Lib.hid ht
        have HF := Lib.hid hfr
        clear h hE h0 h1 hd ht hfr
        go_enter Try.func50, Try.ntmps50
        go_wp2
        exact bodyPost_ret (results_none rfl _ _ _) rfl ⟨rfl, RStep.same ⟨_, _, _, _, _, HT.out⟩ HF.out⟩
  · rw [hd] at c2
    have hE : D.comes f (ls s) = D := by simp [Dk.comes, hd]
    rw [hE]
    clear h hE
    go_enter Try.func50, Try.ntmps50
    go_wp2
    exact bodyPost_ret (results_none rfl _ _ _) rfl ⟨rfl, RStep.refl HR.out⟩
theorem RHas.drewE {F : Nat → Prop} {w w' : World} {r : Nat} {D : Dk} (h : RHas w r F D) (e : ∃ j, w' = w.drewN j) : RHas w' r F D ∧ Fr F w w' := by
  obtain ⟨g, cap, K, kcap, ks, h⟩ := h
  exact ⟨⟨_, _, _, _, _, (h.drewE e).1⟩, (h.drewE e).2⟩
set_option maxRecDepth 40000 in
set_option maxHeartbeats 4000000 in
theorem rapp_any (r : Nat) (D : Dk) (F : Nat → Prop) (f : Int) (s : ByteArray) (w : World) (h : RHas w r F D) (hs : s.size ≤ 140737488351232) :
    Calls Try.prog 39 #[.pointer (some ⟨r, 0, none⟩), .int .i64 f, .string s] w fun e w' => e = .returned (.int .i64 ((D.app f (ls s)).1 : Nat)) ∧ RStep r F w w' (D.app f (ls s)).2 := by
  have C := Lib.hid (comes_any r D F f s w h hs)
  rw [Dk.app_eq]
  obtain ⟨D1, hD1⟩ : ∃ D1, D1 = D.comes f (ls s) := ⟨_, rfl⟩
  rw [← hD1] at C ⊢
  clear hD1 h
  have M := Lib.hid (fun w1 F1 h1 => may_any r D1 F1 f w1 h1)
  cases hd : D1.down
  · cases hf : isF f
    · have hE : D1.add f (ls s) = (1, D1) := by simp [Dk.add, hd, hf]
      rw [hE]
      simp only [hd, hf, if_true, if_false, Bool.false_eq_true] at M
      clear hE
      go_enter Try.func39, Try.ntmps39
      go_wp2_with (first
        | (go_at_call 50; go_must (refine (C.out).mono ?_); rintro e w1 ⟨rfl, hq⟩; have HQ := Lib.hid hq; obtain ⟨F1, hq1, _, _⟩ := hq; have HQ1 := Lib.hid hq1; clear hq1)
        | (go_at_call 47; go_must (refine (M.out _ _ HQ1.out).mono ?_); rintro e w2 ⟨rfl, rfl⟩))
      go_ret
      exact ⟨rfl, HQ.out⟩
    · simp only [hd, hf, if_false, Bool.false_eq_true, Bool.true_eq_false] at M
      obtain ⟨q1, q2⟩ := (isF_iff f).1 hf
      obtain ⟨n, rfl⟩ := Int.eq_ofNat_of_zero_le q1
      have hn : n < 8 := by omega
      have l3 : (n : Int) < 8 := by omega
      have hS : D1.size (n : Int) = D1.len n := by simp [Dk.size, hf]
      have S := Lib.hid (fun w1 F1 h1 => rsize_any r D1 F1 (n : Int) w1 h1)
      rw [hS] at S
      have C2 : Hid (Calls Try.prog 50 #[.pointer (some ⟨r, 0, none⟩), .int .i64 (n : Int), .string s] w fun e w' => e = .returned (.tuple #[]) ∧ RStep r F w w' D1 ∧ D1.len n ≤ 16777216) := Lib.hid (C.out.mono fun e w' hh => ⟨hh.1, hh.2, by
        obtain ⟨_, hq, _, _⟩ := hh.2
        exact hq.ok.len n hn⟩)
      clear C
      by_cases hl : 16777216 < D1.len n + s.size
      · have hE : D1.add (n : Int) (ls s) = (15, D1) := by simp [Dk.add, hd, hf, ls_length, hl]
        rw [hE]
        have y1 : (16777216 : Int) < ((D1.len n : Nat) : Int) + (s.size : Int) := by omega
        clear hE hS
        go_enter Try.func39, Try.ntmps39
        go_wp2_with (first
          | (go_at_call 50; go_must (refine (C2.out).mono ?_); rintro e w1 ⟨rfl, hq, hlen⟩; have W2 : IntKind.i64.wrap (((D1.len n : Nat) : Int) + (s.size : Int)) = ((D1.len n : Nat) : Int) + (s.size : Int) := IntWalk.i64_in _ (by omega); have HQ := Lib.hid hq; obtain ⟨F1, hq1, hg1, hf1⟩ := hq; have HQ1 := Lib.hid hq1; have HG1 := Lib.hid hg1; have HF1 := Lib.hid hf1; clear hq1 hg1 hf1)
          | (go_at_call 47; go_must (refine (M.out _ _ HQ1.out).mono ?_); rintro e w2 ⟨rfl, rfl⟩)
          | (go_at_call 23; go_must (refine (S.out _ _ HQ1.out).mono ?_); rintro e w3 ⟨rfl, hj⟩; obtain ⟨hk, hf2⟩ := HQ1.out.drewE hj; have HK := Lib.hid hk; have HF2 := Lib.hid hf2; clear hj hk hf2))
        go_ret
        exact ⟨rfl, RStep.trans HF1.out HG1.out (RStep.same HK.out HF2.out)⟩
      · have hE : D1.add (n : Int) (ls s) = (0, D1.set n ((D1.fs n).1, (D1.fs n).2 ++ ls s)) := by simp [Dk.add, hd, hf, ls_length, hl]
        rw [hE]
        have y1 : ¬ (16777216 : Int) < ((D1.len n : Nat) : Int) + (s.size : Int) := by omega
        have q0 : ¬ 9223372036854775807 < (D1.fs n).2.length + s.size := by unfold Dk.len at hl; omega
        have sz : (mk (D1.fs n).2).size = (D1.fs n).2.length := rfl
        have HL := Lib.hid hl
        have HN : Hid (∀ w2 F2 g cap K kcap ks, Ref w2 r g cap K kcap ks F2 D1 → RStep r F2 w2 ((w2.setCell ⟨g, n * 2 + 1, none⟩ (.string (mk (D1.fs n).2 ++ s))).drewN 1) (D1.set n ((D1.fs n).1, (D1.fs n).2 ++ ls s))) := Lib.hid (fun w2 F2 g cap K kcap ks h2 => by
          have e9 : mk (D1.fs n).2 ++ s = mk ((D1.fs n).2 ++ ls s) := mk_append (D1.fs n).2 (ls s)
          rw [e9]
          have h8 := h2.file1 hn ((D1.fs n).2 ++ ls s) (by rw [List.length_append, ls_length]; unfold Dk.len at hl; omega)
          exact RStep.same ⟨_, _, _, _, _, (h8.drewE ⟨1, rfl⟩).1⟩ (((Fr.refl F2 w2).set h2.mg _ _).drew 1))
        clear hE hS hl
        go_enter Try.func39, Try.ntmps39
        go_wp2_with (first
          | (go_at_call 50; go_must (refine (C2.out).mono ?_); rintro e w1 ⟨rfl, hq, hlen⟩; have W2 : IntKind.i64.wrap (((D1.len n : Nat) : Int) + (s.size : Int)) = ((D1.len n : Nat) : Int) + (s.size : Int) := IntWalk.i64_in _ (by omega); have HQ := Lib.hid hq; obtain ⟨F1, hq1, hg1, hf1⟩ := hq; have HQ1 := Lib.hid hq1; have HG1 := Lib.hid hg1; have HF1 := Lib.hid hf1; clear hq1 hg1 hf1)
          | (go_at_call 47; go_must (refine (M.out _ _ HQ1.out).mono ?_); rintro e w2 ⟨rfl, rfl⟩)
          | (go_at_call 23; go_must (refine (S.out _ _ HQ1.out).mono ?_); rintro e w3 ⟨rfl, hj⟩; obtain ⟨hk, hf2⟩ := HQ1.out.drewE hj; obtain ⟨g, cap, K, kcap, ks, hk⟩ := hk; have a0 := hk.c0; have a1 := hk.cb hn; have a2 := hk.fo (n * 2 + 1); have HK := Lib.hid hk; have HF2 := Lib.hid hf2; clear hj hk hf2))
        go_still_tail 15, (by kernel_rfl)
        change wpList _ _ _ _ _ w3.drew
        go_wp2
        go_ret
        exact ⟨rfl, RStep.trans HF1.out HG1.out (RStep.trans HF2.out (fun _ h => .inl h) (HN.out _ _ _ _ _ _ _ HK.out))⟩
  · have hE : D1.add f (ls s) = (12, D1) := by simp [Dk.add, hd]
    rw [hE]
    simp only [hd, if_true] at M
    clear hE
    go_enter Try.func39, Try.ntmps39
    go_wp2_with (first
      | (go_at_call 50; go_must (refine (C.out).mono ?_); rintro e w1 ⟨rfl, hq⟩; have HQ := Lib.hid hq; obtain ⟨F1, hq1, _, _⟩ := hq; have HQ1 := Lib.hid hq1; clear hq1)
      | (go_at_call 47; go_must (refine (M.out _ _ HQ1.out).mono ?_); rintro e w2 ⟨rfl, rfl⟩))
    go_ret
    exact ⟨rfl, HQ.out⟩
end Go.Proofs.Ytokoccffkogamaa
