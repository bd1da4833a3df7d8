/-
  The disk's calls: New, Read, Append, Flush, Cut.
-/
import Derived.Test.YtgamkahbebnnaaaDoorD5Enter
import Derived.Deep.RegionLaw
namespace Go.Proofs.YtgamkahbebnnaaaDoor.D5
open Go.RowKit
theorem conv_own {w : World} {B : Nat} {v : Value} {n : Nat} {l : List UInt8} (h : w.ownsRow B 5 1 v n (bytes l)) : (convert 57 9 v).run Tryd.prog w = .ok (.string (mk l)) w := by
  have hl : l.length = n := by have := h.1; rw [bytes_length] at this; omega
  subst hl
  rcases h.2 with ⟨rfl, h0⟩ | ⟨g, cap, cur, rfl, -, -, -⟩
  · obtain rfl := List.eq_nil_of_length_eq_zero h0
    exact Lib.run_convert_nil_bytes w 57 9 5 0 Tryd.underlying57 Tryd.underlying5 Tryd.underlying9
  · refine run_convert_bytes_back (P := Tryd.prog) w 57 9 5 ⟨g, 0, none⟩ cap l Tryd.underlying57 Tryd.underlying5 Tryd.underlying9 (fun j hj => ?_)
    exact h.cells (g := g) rfl j _ (by unfold bytes; rw [List.getElem?_map, List.getElem?_eq_getElem hj]; rfl)
theorem info_parts {t : TypeId} {z : Option Value} {sz by_ : Nat} (h : (Tryd.prog.info? t).map (fun i => (i.zero, i.size, i.bytes)) = some (z, sz, by_)) : ∃ i, Tryd.prog.info? t = some i ∧ i.zero = z ∧ i.size = sz ∧ i.bytes = by_ := by
  obtain ⟨i, h1, h2⟩ := Option.map_eq_some_iff.1 h
  injection h2 with a b
  injection b with b c
  exact ⟨i, h1, a, b, c⟩
theorem info5 : (Tryd.prog.info? 5).map (fun i => (i.zero, i.size, i.bytes)) = some (some (.int .u8 0), 1, 1) := by kernel_rfl
theorem new_any (w : World) : Calls Tryd.prog 8 #[] w fun e w' => e = .returned (.pointer (some ⟨w.heap.size, 0, none⟩)) ∧ Has w' w.heap.size (fun k => k = w.heap.size) Dk.new ∧ Below w.heap.size w w' := by
  go_enter Tryd.func8, Tryd.ntmps8
  go_wp2
  go_ret
  refine ⟨rfl, ⟨fun _ => .slice none 0 0, ?_⟩, (Below.refl _ _).alloc (Nat.le_refl _) _⟩
  refine ⟨Is.fresh w 63 _, fun f _ => World.ownsRow_nil _ _ _ _, rfl, fun f _ k hk => by simp [Value.ownBlock] at hk, fun f g _ _ _ k hk => by simp [Value.ownBlock] at hk, ?_, Dk.ok_new⟩
  rintro k rfl
  simp
theorem read_any (b : Nat) (D : Dk) (F : Nat → Prop) (f : Int) (w : World) (h : Has w b F D) :
    Calls Tryd.prog 26 #[.pointer (some ⟨b, 0, none⟩), .int .i64 f] w fun e w' => e = .returned (.tuple #[.string (mk (D.read f).1), .int .i64 ((D.read f).2 : Nat)]) ∧ w' = w := by
  obtain ⟨v, h⟩ := h
  have c0 := h.cdown
  have I := isFile_any f w
  cases hd : D.down
  · rw [hd] at c0
    cases hf : isF f
    · rw [hf] at I
      have hE : D.read f = ([], 1) := by simp [Dk.read, hd, hf]
      rw [hE]
      clear h hE
      go_enter Tryd.func26, Tryd.ntmps26
      go_wp2_with (first | (go_at_call 44; refine I.mono ?_; rintro e w1 ⟨rfl, rfl⟩))
      go_ret2
      exact ⟨rfl, rfl⟩
    · rw [hf] at I
      obtain ⟨h1, h2⟩ := (isF_iff f).1 hf
      obtain ⟨n, rfl⟩ := Int.eq_ofNat_of_zero_le h1
      have hn : n < 8 := by omega
      obtain ⟨A, cap, e1, c1⟩ := h.form hn
      have hE : D.read (n : Int) = (D.all n, 0) := by simp [Dk.read, hd, hf]
      rw [hE]
      have hcv := conv_own (h.own n hn)
      rw [e1] at hcv
      clear h hE
      go_enter Tryd.func26, Tryd.ntmps26
      go_wp2_with (first | (go_at_call 44; refine I.mono ?_; rintro e w1 ⟨rfl, rfl⟩))
      go_ret2
      exact ⟨rfl, rfl⟩
  · rw [hd] at c0
    have hE : D.read f = ([], 12) := by simp [Dk.read, hd]
    rw [hE]
    clear h hE I
    go_enter Tryd.func26, Tryd.ntmps26
    go_wp2
    go_ret2
    exact ⟨rfl, rfl⟩
theorem run_append_bytes {P : Program} (w : World) (t u ty e : TypeId) (i : TypeInfo) (ht : P.underlying t = some (.slice e)) (hu : P.underlying u = some .string) (hi : P.info? e = some i) (hz : i.zero = some (.int .u8 0))
    (hsize : i.size = 1) (hby : i.bytes = 1) (v : Value) (n : Nat) (xs : List Value) (hown : w.ownsRow 0 e 1 v n xs) (s : ByteArray) (h63 : n + s.size ≤ maxLen) (hbytes : n + s.size ≤ 140737488355328) :
    ∃ v' w', (Builtin.append_ #[t, u] ty #[v, .string s]).run P w = .ok v' w' ∧ w'.ownsRow 0 e 1 v' (n + s.size) (xs ++ Lib.strCells s) ∧ w.grownBy w' v.ownBlock ∧ (∀ k, v'.ownBlock = some k → v.ownBlock = some k ∨ w.heap.size ≤ k) := by
  obtain ⟨v', w', hr, h1, h2, _⟩ := Lib.run_append_own_string (P := P) w 0 t u ty e i ht hu hi hz hsize hby v n xs hown s h63 hbytes (Nat.zero_le _)
  refine ⟨v', w', hr, h1, h2, fun k hk => ?_⟩
  rcases hown.2 with ⟨rfl, rfl⟩ | ⟨g, cap, cur, rfl, hbg, hg, hnc, hcm, hcs, htake⟩
  · have hx : xs = [] := List.eq_nil_of_length_eq_zero (by simpa using hown.1)
    subst hx
    obtain ⟨v2, w2, hr2, h3, _, _⟩ := Lib.run_append_own_string (P := P) w w.heap.size t u ty e i ht hu hi hz hsize hby (.slice none 0 0) 0 [] (World.ownsRow_nil _ _ _ _) s h63 hbytes (Nat.le_refl _)
    rw [hr] at hr2
    injection hr2 with e1 e2
    subst e1
    exact .inr (h3.lt k hk).1
  · by_cases hroom : n + s.size ≤ cap
    · have hr2 := Lib.run_append_room_string (P := P) w t u ty e i ht hu hi hsize g n cap cur hg s hroom (by simp only [Nat.mul_one] at hcs; omega)
      rw [hr] at hr2
      injection hr2 with e1 e2
      subst e1
      exact .inl hk
    · have holds : ∀ j u, xs[j]? = some u → w.cell? ((⟨g, 0, none⟩ : Addr).add j) = some u := hown.cells (g := g) rfl
      have hxl : xs.length = n := by simpa using hown.1
      have hr2 := Lib.run_append_grow_string (P := P) w t u ty e i (.int .u8 0) ht hu hi hz ⟨g, 0, none⟩ n cap xs (by rw [hsize]; simpa using hxl) holds s (by omega) (by simp only [maxLen] at h63; omega) (by rw [hby]; exact growslice_fits (by omega) (by omega))
      rw [hr] at hr2
      injection hr2 with e1 e2
      subst e1
      simp only [Value.ownBlock, Option.some.injEq] at hk
      exact .inr (by omega)
/-- append of a string's bytes onto a row of the call's own, as one step of a region that draws its order. -/
theorem step_append_bytes {P : Program} {ops : Array Oper} {o : Oper} {a : Act} {w : World} {K : Act → World → Prop} {Q : Exit → Act → World → Prop} {E : Prop}
    (hg : o.guard = none) (sl x : Operand) (t u : TypeId) (ho : o.op = .call { callee := .builtin .append, args := #[sl, x], argTypes := #[t, u] })
    (e : TypeId) (i : TypeInfo) (ht : P.underlying t = some (.slice e)) (hu : P.underlying u = some .string) (hi : P.info? e = some i) (hz : i.zero = some (.int .u8 0))
    (hsize : i.size = 1) (hby : i.bytes = 1)
    (v : Value) (n : Nat) (xs : List Value) (hs : a.eval sl = v) (hown : w.ownsRow 0 e 1 v n xs) (s : ByteArray) (hx : a.eval x = .string s)
    (h63 : n + s.size ≤ maxLen) (hbytes : n + s.size ≤ 140737488355328)
    (hK : ∀ v' w', w'.ownsRow 0 e 1 v' (n + s.size) (xs ++ Lib.strCells s) → w.grownBy w' v.ownBlock → (∀ k, v'.ownBlock = some k → v.ownBlock = some k ∨ w.heap.size ≤ k) → K (a.put o.dst v') w') :
    if Region.wanted o (yielded ops a.tmps) = true then Oper.wp P o a w K Q else E := by
  have hw : Region.wanted o (yielded ops a.tmps) = true := by simp [Region.wanted, hg]
  rw [if_pos hw]
  obtain ⟨v', w', hr, h2, h3, h4⟩ := run_append_bytes (P := P) w t u o.type e i ht hu hi hz hsize hby v n xs hown s h63 hbytes
  unfold Oper.wp execOp
  simp only [ho, resolve, invoke, builtin, Sem.run_bind, Sem.run_pure, Result.andThen_ok, List.map_toArray, List.map_cons, List.map_nil, hs, hx, hr]
  exact hK v' w' h2 h3 h4
theorem strCells_ls (s : ByteArray) : Lib.strCells s = bytes (ls s) := by
  unfold bytes ls Lib.strCells
  rfl
/-- What lies in memory when bytes have been appended to file n, and when the slice is stored. -/
theorem Disk.appended {w w' : World} {b : Nat} {v : Nat → Value} {F : Nat → Prop} {D : Dk} (h : Disk w b v F D) {n : Nat} (hn : n < 8) (s : ByteArray) (hs : D.len n + s.size ≤ 16777216) {v' : Value}
    (h1 : w'.ownsRow 0 5 1 v' (D.len n + s.size) (bytes (D.all n) ++ Lib.strCells s)) (h2 : w.drew.grownBy w' (v n).ownBlock) (h3 : ∀ k, v'.ownBlock = some k → (v n).ownBlock = some k ∨ w.drew.heap.size ≤ k) :
    w'.cell? ⟨b, n * 2, none⟩ = some (v n) ∧ w'.frozen? ⟨b, n * 2, none⟩ = false ∧ Step b F w (w'.setCell ⟨b, n * 2, none⟩ v') (D.set n ((D.fs n).1, (D.fs n).2 ++ ls s)) := by
  have hfr : Fr (fun k => (v n).ownBlock = some k) w w' := Fr.trans (F := fun k => (v n).ownBlock = some k) (w1 := w.drew) ((Fr.refl _ w).drew 1) (Fr.of_grown (F := fun k => (v n).ownBlock = some k) (w := w.drew) h2 (fun _ e => e)) (fun _ _ e => e)
  have hI : Is w' b 63 (cellsD v D) := hfr.is h.is (fun hk => Is.row_apart (h.own n hn) h.is (by decide) hk)
  refine ⟨(hI.at_ _).trans (cellsD_v v D hn), hI.open_ _, ?_⟩
  have hsl : (ls s).length = s.size := ls_length s
  refine h.file hn (n := ((D.fs n).1.length : Nat)) rfl ?_ (m := D.len n + s.size) (by simp [Dk.len, hsl]; omega) (ys := D.all n ++ ls s) (by simp [Dk.all]) ?_ (by simp [hsl]; unfold Dk.len at hs; omega) h3 ?_
  · have e1 := cellsD_set_both v D hn v' ((D.fs n).1.length : Nat) ((D.fs n).1, (D.fs n).2 ++ ls s) rfl
    have e2 := cellsD_set_v v D hn v' ((D.fs n).1, (D.fs n).2 ++ ls s) rfl
    rw [e1, ← e2]
    exact hI.put _ _
  · rw [bytes_append, ← strCells_ls]
    refine (Fr.refl (fun k => k = b) w').set (b := b) rfl (n * 2) v' |>.own h1 ?_
    rintro k hk rfl
    exact Is.row_apart h1 hI (by decide) hk
  · exact (hfr.mono (fun _ _ e => .inr e)).set (b := b) (.inl rfl) _ _
set_option maxRecDepth 20000 in
set_option maxHeartbeats 1000000 in
theorem add_any (b : Nat) (D : Dk) (F : Nat → Prop) (f : Int) (s : ByteArray) (w : World) (h : Has w b F D) :
    Calls Tryd.prog 42 #[.pointer (some ⟨b, 0, none⟩), .int .i64 f, .string s] w fun e w' => e = .returned (.int .i64 ((D.add f (ls s)).1 : Nat)) ∧ Step b F w w' (D.add f (ls s)).2 := by
  have hh := h
  obtain ⟨v, h⟩ := h
  have c0 := h.cdown
  have I := Lib.hid (fun w' => isFile_any f w')
  cases hd : D.down
  · rw [hd] at c0
    cases hf : isF f
    · rw [hf] at I
      have hE : D.add f (ls s) = (1, D) := by simp [Dk.add, hd, hf]
      rw [hE]
      have HH := Lib.hid hh
      clear h hh hE
      go_enter Tryd.func42, Tryd.ntmps42
      go_wp2_with (first | (go_at_call 44; refine (I.out _).mono ?_; rintro e w1 ⟨rfl, rfl⟩))
      go_ret
      exact ⟨rfl, Step.refl HH.out⟩
    · rw [hf] at I
      obtain ⟨h1, h2⟩ := (isF_iff f).1 hf
      obtain ⟨n, rfl⟩ := Int.eq_ofNat_of_zero_le h1
      have hn : n < 8 := by omega
      obtain ⟨A, cap, e1, c1⟩ := h.form hn
      have hok := h.ok.len n hn
      have W1 : IntKind.i64.wrap (16777216 - ((D.len n : Nat) : Int)) = 16777216 - ((D.len n : Nat) : Int) := IntWalk.i64_in _ (by omega)
      by_cases hs : 16777216 < D.len n + s.size
      · have hE : D.add (n : Int) (ls s) = (15, D) := by simp [Dk.add, hd, hf, ls_length, hs]
        rw [hE]
        have z1 : 16777216 - ((D.len n : Nat) : Int) < (s.size : Int) := by omega
        have HH := Lib.hid hh
        clear h hh hE hs hok
        go_enter Tryd.func42, Tryd.ntmps42
        go_wp2_with (first | (go_at_call 44; refine (I.out _).mono ?_; rintro e w1 ⟨rfl, rfl⟩))
        go_ret
        exact ⟨rfl, Step.refl HH.out⟩
      · have hE : D.add (n : Int) (ls s) = (0, D.set n ((D.fs n).1, (D.fs n).2 ++ ls s)) := by simp [Dk.add, hd, hf, ls_length, hs]
        rw [hE]
        have z1 : ¬ 16777216 - ((D.len n : Nat) : Int) < (s.size : Int) := by omega
        have HO := Lib.hid (h.own n hn)
        have HL := Lib.hid hok
        have HS := Lib.hid hs
        have HH := Lib.hid h
        have HE1 := Lib.hid e1
        obtain ⟨i0, hi, hz0, hz1, hz2⟩ := info_parts info5
        clear h hh hE hs hok e1
        go_enter Tryd.func42, Tryd.ntmps42
        go_wp2_with (first | (go_at_call 44; refine (I.out _).mono ?_; rintro e w1 ⟨rfl, rfl⟩))
        go_region_law (go_must (refine step_append_bytes rfl (.tmp 34) (.tmp 35) 57 9 rfl 5 i0 Tryd.underlying57 Tryd.underlying9 hi hz0 hz1 hz2 (v n) (D.len n) (bytes (D.all n)) (HE1.out.symm) (show World.ownsRow w1.drew _ _ _ _ _ _ from HO.out) s rfl (by have := HS.out; simp only [maxLen]; omega) (by have := HS.out; omega) ?_); intro v' w' hown hgr hbl; obtain ⟨a1, a2, a3⟩ := HH.out.appended hn s (by have := HS.out; omega) hown hgr hbl; obtain ⟨A', cap', rfl, -⟩ := own_form hown; have A3 := Lib.hid a3; clear a3 hown hgr hbl)
        all_goals go_wp2
        all_goals go_ret
        all_goals exact ⟨rfl, A3.out⟩
  · rw [hd] at c0
    have hE : D.add f (ls s) = (12, D) := by simp [Dk.add, hd]
    rw [hE]
    have HH := Lib.hid hh
    clear h hh hE I
    go_enter Tryd.func42, Tryd.ntmps42
    go_wp2
    go_ret
    exact ⟨rfl, Step.refl HH.out⟩
end Go.Proofs.YtgamkahbebnnaaaDoor.D5
