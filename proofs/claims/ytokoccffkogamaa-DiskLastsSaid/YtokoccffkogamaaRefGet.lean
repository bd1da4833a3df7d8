/-
  The reference's calls that read or turn the struct alone: New, Down, Size, Read, Start, Lose, Arm.
-/
import Derived.Test.YtokoccffkogamaaRef
import Derived.Test.YtokoccffkogamaaOps
namespace Go.Proofs.Ytokoccffkogamaa
open Go.RowKit
theorem info3w : (Try.prog.info? 3).map (fun i => (i.zero, i.size, i.bytes)) = some (some (.int .i64 0), 1, 8) := by kernel_rfl
theorem ints_one (l : List Int) : ∀ u ∈ ints l, u.oneCell' = true := by
  intro u hu
  simp only [ints, List.mem_map] at hu
  obtain ⟨c, _, rfl⟩ := hu
  rfl
/-- append of a slice, whatever its address, onto an empty slice of the call's own. -/
theorem run_append_copy {P : Program} (w : World) (t ty e : TypeId) (i : TypeInfo) (z : Value) (size bytes : Nat) (ht : P.underlying t = some (.slice e)) (hi : P.info? e = some i) (hz : i.zero = some z) (hsize : i.size = size) (hby : i.bytes = bytes)
    (hzs : z.cells.size = size) (hsz : 0 < size) (base g : Nat) (hown : w.ownsRow base e size (.slice (some ⟨g, 0, none⟩) 0 0) 0 []) (A : Option Addr) (m c : Nat) (news : List Value) (hl : news.length = m * size) (hr : RowAt w A news) (hA : A = none → m = 0)
    (h1 : ∀ u ∈ news, u.oneCell' = true) (h63 : m ≤ maxLen) (hb : m * bytes ≤ 140737488355328) (hbase : base ≤ w.heap.size) :
    ∃ A' cap' w', (Builtin.append_ #[t, t] ty #[.slice (some ⟨g, 0, none⟩) 0 0, .slice A m c]).run P w = .ok (.slice (some A') m cap') w' ∧ w'.ownsRow base e size (.slice (some A') m cap') m news ∧ w.grownBy w' (some g) := by
  cases A with
  | none =>
    obtain rfl := hA rfl
    obtain rfl : news = [] := List.eq_nil_of_length_eq_zero (by simpa using hl)
    have hs : Src P i.size t (.slice none 0 c) 0 [] w := Src.ofNil (P := P) w ht c
    have hr := run_append_room_src (P := P) w t t ty e i ht hi g 0 0 0 (.slice none 0 c) 0 [] hs (by omega) (fun j hj => by simp at hj) (fun j hj => by simp at hj)
    refine ⟨⟨g, 0, none⟩, 0, w, ?_, hown, World.grownBy.refl w _⟩
    rw [hr]
    rfl
  | some a =>
    obtain ⟨v', w', h2, h3, h4, h5⟩ := run_append_own (P := P) w base t ty e i z size bytes ht hi hz hsize hby hzs hsz (.slice (some ⟨g, 0, none⟩) 0 0) 0 [] hown a m c news hl (fun j u hu => by
      obtain ⟨a', e1, e2⟩ := hr j u hu
      cases e1
      exact e2) h1 (by omega) (by rw [Nat.zero_add]; exact hb) hbase
    obtain ⟨A', cap', e1, e2⟩ := own_form h3
    have hn : v' ≠ .slice none 0 0 := fun e => by
      have := h5.1 e
      simp at this
    cases A' with
    | none =>
      exfalso
      subst e1
      rcases h3.2 with ⟨h6, h7⟩ | ⟨g', c', cur, h6, _⟩
      · exact hn h6
      · cases h6
    | some A' =>
      subst e1
      rw [Nat.zero_add] at h2 h3
      rw [List.nil_append] at h3
      exact ⟨A', cap', w', h2, h3, h4⟩
theorem wpList_append_copy {P : Program} {ops : Array Oper} {rest : List Oper} {o : Oper} {a : Act} {w : World} {Q : Exit → Act → World → Prop} (hgd : o.guard = none) (s x : Operand) (t : TypeId)
    (ho : o.op = .call { callee := .builtin .append, args := #[s, x], argTypes := #[t, t] }) (e : TypeId) (i : TypeInfo) (z : Value) (size bytes : Nat) (ht : P.underlying t = some (.slice e)) (hi : P.info? e = some i) (hz : i.zero = some z) (hsize : i.size = size) (hby : i.bytes = bytes)
    (hzs : z.cells.size = size) (hsz : 0 < size) (base g : Nat) (hs : a.eval s = .slice (some ⟨g, 0, none⟩) 0 0) (hown : w.ownsRow base e size (.slice (some ⟨g, 0, none⟩) 0 0) 0 []) (A : Option Addr) (m c : Nat) (news : List Value) (hx : a.eval x = .slice A m c) (hl : news.length = m * size) (hr : RowAt w A news) (hA : A = none → m = 0)
    (h1 : ∀ u ∈ news, u.oneCell' = true) (h63 : m ≤ maxLen) (hb : m * bytes ≤ 140737488355328) (hbase : base ≤ w.heap.size)
    (h : ∀ A' cap' w', w'.ownsRow base e size (.slice (some A') m cap') m news → w.grownBy w' (some g) → wpList P ops Q rest (a.put o.dst (.slice (some A') m cap')) w') : wpList P ops Q (o :: rest) a w := by
  refine wpList_plain hgd fun K hK => ?_
  obtain ⟨A', cap', w', h2, h3, h4⟩ := run_append_copy (P := P) w t o.type e i z size bytes ht hi hz hsize hby hzs hsz base g hown A m c news hl hr hA h1 h63 hb hbase
  unfold Oper.wp execOp
  simp only [ho, resolve, invoke, builtin, Sem.run_bind, Sem.run_pure, Result.andThen_ok, List.map_toArray, List.map_cons, List.map_nil, hs, hx, h2]
  exact hK _ _ (h A' cap' w' h3 h4)
theorem step_append_copy {P : Program} {ops : Array Oper} {o : Oper} {a : Act} {w : World} {K : Act → World → Prop} {Q : Exit → Act → World → Prop} {E : Prop} (hgd : o.guard = none) (s x : Operand) (t : TypeId)
    (ho : o.op = .call { callee := .builtin .append, args := #[s, x], argTypes := #[t, t] }) (e : TypeId) (i : TypeInfo) (z : Value) (size bytes : Nat) (ht : P.underlying t = some (.slice e)) (hi : P.info? e = some i) (hz : i.zero = some z) (hsize : i.size = size) (hby : i.bytes = bytes)
    (hzs : z.cells.size = size) (hsz : 0 < size) (base g : Nat) (hs : a.eval s = .slice (some ⟨g, 0, none⟩) 0 0) (hown : w.ownsRow base e size (.slice (some ⟨g, 0, none⟩) 0 0) 0 []) (A : Option Addr) (m c : Nat) (news : List Value) (hx : a.eval x = .slice A m c) (hl : news.length = m * size) (hr : RowAt w A news) (hA : A = none → m = 0)
    (h1 : ∀ u ∈ news, u.oneCell' = true) (h63 : m ≤ maxLen) (hb : m * bytes ≤ 140737488355328) (hbase : base ≤ w.heap.size)
    (h : ∀ A' cap' w', w'.ownsRow base e size (.slice (some A') m cap') m news → w.grownBy w' (some g) → K (a.put o.dst (.slice (some A') m cap')) w') :
    if Region.wanted o (yielded ops a.tmps) = true then Oper.wp P o a w K Q else E := by
  have hw : Region.wanted o (yielded ops a.tmps) = true := by simp [Region.wanted, hgd]
  rw [if_pos hw]
  obtain ⟨A', cap', w', h2, h3, h4⟩ := run_append_copy (P := P) w t o.type e i z size bytes ht hi hz hsize hby hzs hsz base g hown A m c news hl hr hA h1 h63 hb hbase
  unfold Oper.wp execOp
  simp only [ho, resolve, invoke, builtin, Sem.run_bind, Sem.run_pure, Result.andThen_ok, List.map_toArray, List.map_cons, List.map_nil, hs, hx, h2]
  exact h A' cap' w' h3 h4
abbrev Z16 : Array Value := #[.string ⟨#[]⟩, .string ⟨#[]⟩, .string ⟨#[]⟩, .string ⟨#[]⟩, .string ⟨#[]⟩, .string ⟨#[]⟩, .string ⟨#[]⟩, .string ⟨#[]⟩, .string ⟨#[]⟩, .string ⟨#[]⟩, .string ⟨#[]⟩, .string ⟨#[]⟩, .string ⟨#[]⟩, .string ⟨#[]⟩, .string ⟨#[]⟩, .string ⟨#[]⟩]
theorem info67 : (Try.prog.info? 67).map (fun i => (i.zero, i.size, i.bytes)) = some (some (.agg #[.string ⟨#[]⟩, .string ⟨#[]⟩]), 2, 32) := by kernel_rfl
theorem make8 (W : World) : (Instr.makeSlice 58 (.int .i64 8) (.int .i64 8)).run Try.prog W = .ok (.slice (some ⟨W.heap.size, 0, none⟩) 8 8) (W.alloc (.cells Z16 67)) := by
  obtain ⟨i0, hi, hz0, hz1, hz2⟩ := info_parts info67
  rw [run_makeSlice W 58 67 i0 _ Try.underlying58 hi hz0 .i64 .i64 8 8 (by omega) (by omega) (by rw [hz1]; decide) (by rw [hz2]; decide) (by omega), hz1]
  have e : madeCells (Value.agg #[.string ⟨#[]⟩, .string ⟨#[]⟩]).cells (Int.toNat 8 * 2) = Z16 := by kernel_rfl
  rw [e]
  rfl
theorem rnew_any (w : World) : Calls Try.prog 12 #[] w fun e w' => e = .returned (.pointer (some ⟨w.heap.size + 1, 0, none⟩)) ∧ (∃ F, RHas w' (w.heap.size + 1) F Dk.new ∧ ∀ k, F k → w.heap.size ≤ k) ∧ Below w.heap.size w w' := by
  have h0 := World.ownsRow_lit (base := 0) (e := 67) (size := 2) w Z16 8 (Nat.zero_le _) (by simp [maxLen]) rfl
  have HR : Hid (Ref ((w.alloc (.cells Z16 67)).alloc (.cells #[.slice (some ⟨w.heap.size, 0, none⟩) 8 8, .int .i64 0, .bool false, .int .i64 0, .slice none 0 0] 60)) (w.heap.size + 1) w.heap.size 8 none 0 [] (fun k => w.heap.size ≤ k ∧ k < w.heap.size + 2) Dk.new) := Lib.hid (by
    have h1 := Is.fresh (w.alloc (.cells Z16 67)) 60 #[.slice (some ⟨w.heap.size, 0, none⟩) 8 8, .int .i64 0, .bool false, .int .i64 0, .slice none 0 0]
    have hs : (w.alloc (.cells Z16 67)).heap.size = w.heap.size + 1 := by simp
    rw [hs] at h1
    refine ⟨h1, h0.alloc _, World.ownsRow_nil _ _ _ _, fun f _ => by simp [Dk.new, kf], by simp, by omega, by omega, fun a ha => (by cases ha), fun k hk => by simp; omega, Dk.ok_new⟩)
  have HB := Lib.hid (((Below.refl w.heap.size w).alloc (Nat.le_refl _) (.cells Z16 67)).alloc (by simp) (.cells #[.slice (some ⟨w.heap.size, 0, none⟩) 8 8, .int .i64 0, .bool false, .int .i64 0, .slice none 0 0] 60))
  clear h0
  have hm := make8
  go_enter Try.func12, Try.ntmps12
  go_wp2
  go_ret
  exact ⟨rfl, ⟨_, ⟨_, _, _, _, _, HR.out⟩, fun k hk => hk.1⟩, HB.out⟩
theorem rdown_any (r : Nat) (D : Dk) (F : Nat → Prop) (w : World) (h : RHas w r F D) : Calls Try.prog 21 #[.pointer (some ⟨r, 0, none⟩)] w fun e w' => e = .returned (.bool D.down) ∧ w' = w := by
  obtain ⟨g, cap, K, kcap, ks, h⟩ := h
  have c1 := h.c2
  clear h
  go_enter Try.func21, Try.ntmps21
  go_wp2
  go_ret
  exact ⟨rfl, rfl⟩
theorem gt7 {f : Int} (h : isF f = true) : decide (f < 0) = false ∧ decide (7 < f) = false := by
  obtain ⟨h1, h2⟩ := (isF_iff f).1 h
  simp
  omega
theorem gt7n {f : Int} (h : isF f = false) : decide (f < 0) = true ∨ decide (f < 0) = false ∧ decide (7 < f) = true := by
  have := (isF_not f).1 h
  simp
  omega
theorem rsize_any (r : Nat) (D : Dk) (F : Nat → Prop) (f : Int) (w : World) (h : RHas w r F D) : Calls Try.prog 23 #[.pointer (some ⟨r, 0, none⟩), .int .i64 f] w fun e w' => e = .returned (.int .i64 (D.size f : Nat)) ∧ ∃ j, w' = w.drewN j := by
  obtain ⟨g, cap, K, kcap, ks, h⟩ := h
  cases hf : isF f
  · have hE : D.size f = 0 := by simp [Dk.size, hf]
    rw [hE]
    clear h
    rcases gt7n hf with h1 | ⟨h1, h2⟩
    · go_enter Try.func23, Try.ntmps23
      go_wp2
      go_ret
      exact ⟨rfl, 0, rfl⟩
    · go_enter Try.func23, Try.ntmps23
      go_wp2
      go_ret
      exact ⟨rfl, 0, rfl⟩
  · obtain ⟨t1, t2⟩ := gt7 hf
    obtain ⟨h1, h2⟩ := (isF_iff f).1 hf
    obtain ⟨n, rfl⟩ := Int.eq_ofNat_of_zero_le h1
    have hn : n < 8 := by omega
    have hE : D.size (n : Int) = (D.fs n).1.length + (D.fs n).2.length := by simp [Dk.size, hf, Dk.len]
    rw [hE]
    have c0 := h.c0
    have c1 := h.ca hn
    have c2 := h.cb hn
    have hl := h.ok.len n hn
    unfold Dk.len at hl
    have W1 : IntKind.i64.wrap (((D.fs n).1.length : Nat) + ((D.fs n).2.length : Nat) : Int) = ((D.fs n).1.length : Nat) + ((D.fs n).2.length : Nat) := IntWalk.i64_in _ (by omega)
    have s1 : (mk (D.fs n).1).size = (D.fs n).1.length := rfl
    have s2 : (mk (D.fs n).2).size = (D.fs n).2.length := rfl
    have i1 : (n : Int) < 8 := by omega
    clear h hl hE
    go_enter Try.func23, Try.ntmps23
    go_wp2
    go_quiet (fail)
    go_wp2
    go_ret
    exact ⟨rfl, _, rfl⟩
theorem may_any (r : Nat) (D : Dk) (F : Nat → Prop) (f : Int) (w : World) (h : RHas w r F D) :
    Calls Try.prog 47 #[.pointer (some ⟨r, 0, none⟩), .int .i64 f] w fun e w' => e = .returned (.int .i64 ((if D.down then 12 else if isF f = false then 1 else 0 : Nat) : Nat)) ∧ w' = w := by
  obtain ⟨g, cap, K, kcap, ks, h⟩ := h
  have c1 := h.c2
  clear h
  cases hd : D.down
  · rw [hd] at c1
    cases hf : isF f
    · simp only [if_true, if_false, Bool.false_eq_true]
      rcases gt7n hf with h1 | ⟨h1, h2⟩
      · go_enter Try.func47, Try.ntmps47
        go_wp2
        go_ret
        exact ⟨rfl, rfl⟩
      · go_enter Try.func47, Try.ntmps47
        go_wp2
        go_ret
        exact ⟨rfl, rfl⟩
    · obtain ⟨t1, t2⟩ := gt7 hf
      simp only [if_false, Bool.false_eq_true]
      go_enter Try.func47, Try.ntmps47
      go_wp2
      go_ret
      exact ⟨rfl, rfl⟩
  · rw [hd] at c1
    simp only [if_true]
    go_enter Try.func47, Try.ntmps47
    go_wp2
    go_ret
    exact ⟨rfl, rfl⟩
theorem rread_any (r : Nat) (D : Dk) (F : Nat → Prop) (f : Int) (w : World) (h : RHas w r F D) :
    Calls Try.prog 27 #[.pointer (some ⟨r, 0, none⟩), .int .i64 f] w fun e w' => e = .returned (.tuple #[.string (mk (D.read f).1), .int .i64 ((D.read f).2 : Nat)]) ∧ ∃ j, w' = w.drewN j := by
  have M := may_any r D F f w h
  obtain ⟨g, cap, K, kcap, ks, h⟩ := h
  cases hd : D.down
  · rw [hd] at M
    cases hf : isF f
    · rw [hf] at M
      simp only [if_true, if_false, Bool.false_eq_true] at M
      have hE : D.read f = ([], 1) := by simp [Dk.read, hd, hf]
      rw [hE]
      clear h hE
      go_enter Try.func27, Try.ntmps27
      go_wp2_with (first | (go_at_call 47; refine M.mono ?_; rintro e w1 ⟨rfl, rfl⟩))
      go_ret2
      exact ⟨rfl, 0, rfl⟩
    · rw [hf] at M
      simp only [if_false, Bool.false_eq_true, Bool.true_eq_false] at M
      obtain ⟨h1, h2⟩ := (isF_iff f).1 hf
      obtain ⟨n, rfl⟩ := Int.eq_ofNat_of_zero_le h1
      have hn : n < 8 := by omega
      have hE : D.read (n : Int) = ((D.fs n).1 ++ (D.fs n).2, 0) := by simp [Dk.read, hd, hf, Dk.all]
      rw [hE]
      have c0 := h.c0
      have c1 := h.ca hn
      have c2 := h.cb hn
      have hl := h.ok.len n hn
      unfold Dk.len at hl
      have s1 : (mk (D.fs n).1).size + (mk (D.fs n).2).size ≤ 16777216 := hl
      have i1 : (n : Int) < 8 := by omega
      have hap := mk_append (D.fs n).1 (D.fs n).2
      have HA := Lib.hid hap
      clear h hl hE hap
      go_enter Try.func27, Try.ntmps27
      go_wp2_with (first | (go_at_call 47; refine M.mono ?_; rintro e w1 ⟨rfl, rfl⟩))
      go_quiet (fail)
      go_wp2
      go_ret2
      exact ⟨by rw [← HA.out]; rfl, _, rfl⟩
  · rw [hd] at M
    simp only [if_true] at M
    have hE : D.read f = ([], 12) := by simp [Dk.read, hd]
    rw [hE]
    clear h hE
    go_enter Try.func27, Try.ntmps27
    go_wp2_with (first | (go_at_call 47; refine M.mono ?_; rintro e w1 ⟨rfl, rfl⟩))
    go_ret2
    exact ⟨rfl, 0, rfl⟩
theorem rstart_any (r : Nat) (D : Dk) (F : Nat → Prop) (w : World) (h : RHas w r F D) : Calls Try.prog 25 #[.pointer (some ⟨r, 0, none⟩)] w fun e w' => e = .returned (.tuple #[]) ∧ RStep r F w w' D.start := by
  obtain ⟨g, cap, K, kcap, ks, h⟩ := h
  have c1 := h.c2
  have f1 := h.is.open_ 2
  have h' : Hid (RStep r F w (w.setCell ⟨r, 2, none⟩ (.bool false)) D.start) := Lib.hid (RStep.same ⟨g, cap, K, kcap, ks, h.turn (by simp [refCells, Dk.start]) (fun _ _ => rfl) (fun _ _ => rfl) ⟨h.ok.lost, h.ok.left, h.ok.len⟩⟩ ((Fr.refl F w).set h.mr 2 _))
  clear h
  go_enter Try.func25, Try.ntmps25
  go_wp2
  go_end0
  exact ⟨rfl, h'.out⟩
theorem rlose_any (r : Nat) (D : Dk) (F : Nat → Prop) (n : Int) (w : World) (h : RHas w r F D) (hn : n < 9223372036854775808) : Calls Try.prog 44 #[.pointer (some ⟨r, 0, none⟩), .int .i64 n] w fun e w' => e = .returned (.tuple #[]) ∧ RStep r F w w' (D.lose n) := by
  obtain ⟨g, cap, K, kcap, ks, h⟩ := h
  have c1 := h.c1
  have f1 := h.is.open_ 1
  have ht : Ref (w.setCell ⟨r, 1, none⟩ (.int .i64 0)) r g cap K kcap ks F { D with lost := 0 } := h.turn (by simp [refCells]) (fun _ _ => rfl) (fun _ _ => rfl) ⟨by show 0 < _; omega, h.ok.left, h.ok.len⟩
  have hf : Fr F w (w.setCell ⟨r, 1, none⟩ (.int .i64 0)) := (Fr.refl F w).set h.mr 1 _
  by_cases h0 : 0 < n
  · have h' : Hid (RStep r F w ((w.setCell ⟨r, 1, none⟩ (.int .i64 0)).setCell ⟨r, 1, none⟩ (.int .i64 n)) (D.lose n)) := Lib.hid (RStep.same ⟨g, cap, K, kcap, ks, ht.turn (by simp [refCells, Dk.lose]; omega) (fun _ _ => rfl) (fun _ _ => rfl) ⟨by show n.toNat < _; omega, h.ok.left, h.ok.len⟩⟩ (hf.set h.mr 1 _))
    clear h ht hf
    go_enter Try.func44, Try.ntmps44
    go_wp2
    go_end0
    exact ⟨rfl, h'.out⟩
  · have h' : Hid (RStep r F w (w.setCell ⟨r, 1, none⟩ (.int .i64 0)) (D.lose n)) := Lib.hid (by
      have e : D.lose n = { D with lost := 0 } := by unfold Dk.lose; rw [show n.toNat = 0 by omega]
      rw [e]
      exact RStep.same ⟨g, cap, K, kcap, ks, ht⟩ hf)
    clear h ht hf
    go_enter Try.func44, Try.ntmps44
    go_wp2
    go_end0
    exact ⟨rfl, h'.out⟩
/-- A new row of kept lengths is stored. -/
theorem Ref.newKeep {F : Nat → Prop} {w w3 : World} {r g cap kcap : Nat} {K : Option Addr} {ks : List Int} {D : Dk} (h : Ref w r g cap K kcap ks F D) (hf : Fr (fun _ => False) w w3) {A' : Addr} {kcap' : Nat} {ks' : List Int}
    (ho : w3.ownsRow w.heap.size 3 1 (.slice (some A') ks'.length kcap') ks'.length (ints ks')) (hs : ks'.length ≤ 17592186043904) : RStep r F w (w3.setCell ⟨r, 4, none⟩ (.slice (some A') ks'.length kcap')) { D with keep := kf ks' } := by
  have h3 := h.kept_to hf (fun _ _ hh => hh)
  have hb := ho.lt A'.block rfl
  have hne : A'.block ≠ r := by have := h.lt r h.mr; omega
  have hfr : Fr (fun k => k = r) w3 (w3.setCell ⟨r, 4, none⟩ (.slice (some A') ks'.length kcap')) := (Fr.refl (fun k => k = r) w3).set (b := r) rfl 4 _
  refine ⟨fun k => F k ∨ (w.heap.size ≤ k ∧ k < w3.heap.size), ⟨g, cap, some A', kcap', ks', ?_, ?_, ?_, fun f _ => rfl, hs, .inl h.mr, .inl h.mg, fun a ha => ?_, ?_, ⟨h.ok.lost, h.ok.left, h.ok.len⟩⟩, fun k hk => hk.imp_right And.left, (hf.mono (fun _ _ hh => absurd hh (fun x => x))).set h.mr 4 _⟩
  · have := h3.is.put 4 (.slice (some A') ks'.length kcap')
    simpa [refCells] using this
  · exact hfr.own h3.row (fun k hk e => Is.row_apart h3.row h3.is (by decide) (by rw [hk, e]))
  · exact hfr.own (World.ownsRow.mono ho (Nat.zero_le _)) (fun k hk e => by cases hk; exact hne e)
  · cases ha; exact .inr hb
  · rintro k (hk | hk)
    · have := h.lt k hk
      have := hf.size
      simp [World.setCell]
      omega
    · simpa [World.setCell] using hk.2
theorem rarm_any (r : Nat) (D : Dk) (F : Nat → Prop) (n : Int) (A : Option Addr) (c : Nat) (xs : List Int) (w : World) (h : RHas w r F D) (hn : n < 9223372036854775808) (hr : RowAt w A (ints xs)) (hA : xs ≠ [] → ∀ a, A = some a → a.block ≠ r) (hx : xs.length ≤ 17592186043904) (hA0 : A = none → xs.length = 0) :
    Calls Try.prog 45 #[.pointer (some ⟨r, 0, none⟩), .int .i64 n, .slice A xs.length c] w fun e w' => e = .returned (.tuple #[]) ∧ RStep r F w w' (D.arm n (kf xs)) := by
  obtain ⟨g, cap, K, kcap, ks, h⟩ := h
  have c1 := h.c3
  have f1 := h.is.open_ 3
  have ht : Hid (∀ z : Int, z = (n.toNat : Nat) → Ref (w.setCell ⟨r, 3, none⟩ (.int .i64 z)) r g cap K kcap ks F { D with left := n.toNat }) := Lib.hid (by
    rintro _ rfl
    exact h.turn (by simp [refCells]) (fun _ _ => rfl) (fun _ _ => rfl) ⟨h.ok.lost, by show n.toNat < _; omega, h.ok.len⟩)
  have hf : Hid (∀ z : Int, Fr F w (w.setCell ⟨r, 3, none⟩ (.int .i64 z))) := Lib.hid (fun z => (Fr.refl F w).set h.mr 3 _)
  have hR : Hid (∀ z : Int, RowAt ((w.setCell ⟨r, 3, none⟩ (.int .i64 z)).alloc (.cells #[] 3)) A (ints xs)) := Lib.hid (fun z => (hr.kept2 (F := fun i => i = r) ((Fr.refl (fun i => i = r) w).set (b := r) rfl 3 _) hA).alloc _)
  have hO : Hid (∀ z : Int, ((w.setCell ⟨r, 3, none⟩ (.int .i64 z)).alloc (.cells #[] 3)).ownsRow w.heap.size 3 1 (.slice (some ⟨w.heap.size, 0, none⟩) 0 0) 0 []) := Lib.hid (fun z => by
    have := World.ownsRow_lit (base := w.heap.size) (e := 3) (size := 1) (w.setCell ⟨r, 3, none⟩ (.int .i64 z)) #[] 0 (by simp [World.setCell]) (by simp [maxLen]) (by simp)
    simpa [World.setCell] using this)
  have HL : Hid ((ints xs).length = xs.length * 1) := Lib.hid (by rw [ints_length, Nat.mul_one])
  have H1 := Lib.hid (ints_one xs)
  have HA0 := Lib.hid hA0
  obtain ⟨i0, hi, hz0, hz1, hz2⟩ := info_parts info3w
  have hh := Lib.hid h
  clear h hr hA hA0
  go_enter Try.func45, Try.ntmps45
  go_wp2_with (first
    | (at_builtin; go_must (refine wpList_append_copy rfl (.tmp 12) (.tmp 13) 30 rfl 3 i0 (.int .i64 0) 1 8 Try.underlying30 hi hz0 hz1 hz2 rfl (by decide) w.heap.size w.heap.size rfl (hO.out _) A xs.length c (ints xs) rfl HL.out (hR.out _) HA0.out H1.out ?c1 ?c2 ?c3 ?_)))
  all_goals first
    | (show xs.length ≤ maxLen; simp only [maxLen]; omega)
    | (show xs.length * 8 ≤ _; omega)
    | skip
  all_goals
    intro A' cap' w' hown hgr
    have hF : Fr (fun _ => False) (w.setCell ⟨r, 3, none⟩ (.int .i64 _)) w' := Fr.trans ((Fr.refl (fun _ => False) _).alloc _) (Fr.of_grown (F := fun k => k = w.heap.size) hgr (fun b hb => by cases hb; rfl)) (fun i hi e => by simp [World.setCell] at hi; omega)
    have h3 := (ht.out _ (by omega)).kept_to hF (fun _ _ hh => hh)
    have c4 : w'.cell? ⟨r, 4, none⟩ = some (.slice K ks.length kcap) := h3.c4
    have f4 : w'.frozen? ⟨r, 4, none⟩ = false := h3.is.open_ 4
    have FIN := Lib.hid (RStep.trans (hf.out _) (fun _ h => .inl h) ((ht.out _ (by omega)).newKeep hF (by simpa [World.setCell] using hown) hx))
    clear hown hgr hF h3
    go_wp2
    go_end0
    exact ⟨rfl, FIN.out⟩
end Go.Proofs.Ytokoccffkogamaa
