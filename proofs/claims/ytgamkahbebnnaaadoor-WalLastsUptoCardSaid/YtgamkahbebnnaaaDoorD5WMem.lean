/-
  Words for the log in memory: a row of strings, the log's own block, what a call makes of a disk and a log on it.
-/
import Derived.Test.YtgamkahbebnnaaaDoorNext
import Derived.Test.YtgamkahbebnnaaaDoorD5Par
import Derived.Test.YtgamkahbebnnaaaDoorD5Fall
import Derived.Deep.AppendSrc
namespace Go.Proofs.YtgamkahbebnnaaaDoor.D5
open Go.RowKit WalPlain
set_option maxRecDepth 40000
def strs (l : List Bs) : List Value := l.map fun s => .string (mk s)
theorem strs_len (l : List Bs) : (strs l).length = l.length := by simp [strs]
theorem strs_append (l m : List Bs) : strs (l ++ m) = strs l ++ strs m := by simp [strs]
theorem strs_one (l : List Bs) : ∀ u ∈ strs l, u.oneCell' = true := by
  intro u hu
  simp only [strs, List.mem_map] at hu
  obtain ⟨c, _, rfl⟩ := hu
  rfl
theorem strs_at (l : List Bs) (k : Nat) (h : k < l.length) : (strs l)[k]? = some (.string (mk (l[k]))) := by
  unfold strs; rw [List.getElem?_map, List.getElem?_eq_getElem h]; rfl
theorem info9 : (Tryd.prog.info? 9).map (fun i => (i.zero, i.size, i.bytes)) = some (some (.string ⟨#[]⟩), 1, 16) := by kernel_rfl
/-- append of a slice, whatever its address, onto a row of the call's own: the new row's block is the old one or new. -/
theorem run_append_row {P : Program} (w : World) (t ty e : TypeId) (i : TypeInfo) (z : Value) (size bytes : Nat) (ht : P.underlying t = some (.slice e)) (hi : P.info? e = some i) (hz : i.zero = some z) (hsize : i.size = size) (hby : i.bytes = bytes)
    (hzs : z.cells.size = size) (hsz : 0 < size) (v : Value) (n : Nat) (xs : List Value) (hown : w.ownsRow 0 e size v n xs) (A : Option Addr) (m c : Nat) (news : List Value) (hl : news.length = m * size) (hr : RowAt w A news) (hA : A = none → m = 0)
    (h1 : ∀ u ∈ news, u.oneCell' = true) (h63 : n + m ≤ maxLen) (hb : (n + m) * bytes ≤ 140737488355328) :
    ∃ v' w', (Builtin.append_ #[t, t] ty #[v, .slice A m c]).run P w = .ok v' w' ∧ w'.ownsRow 0 e size v' (n + m) (xs ++ news) ∧ w.grownBy w' v.ownBlock ∧ (∀ k, v'.ownBlock = some k → v.ownBlock = some k ∨ w.heap.size ≤ k) := by
  cases A with
  | none =>
    obtain rfl := hA rfl
    obtain rfl : news = [] := List.eq_nil_of_length_eq_zero (by simpa using hl)
    have hs : Src P i.size t (.slice none 0 c) 0 [] w := Src.ofNil (P := P) w ht c
    refine ⟨v, w, ?_, by simpa using hown, World.grownBy.refl w _, fun k hk => .inl hk⟩
    obtain ⟨A', cap, rfl, hA'⟩ := own_form hown
    have hle : n ≤ cap := by
      rcases hown.2 with ⟨h2, h3⟩ | ⟨g, cap', cur, h2, h3, h4, h5, h6⟩
      · omega
      · injection h2 with _ _ h7
        omega
    cases A' <;> simp [Builtin.append_, run_underlying ht, sizeOf, typeInfo, hi, hs.len, hle, hs.cells, storeCells]
  | some a =>
    have hc : ∀ j u, news[j]? = some u → w.cell? (a.add j) = some u := fun j u hu => by
      obtain ⟨a', e1, e2⟩ := hr j u hu
      cases e1
      exact e2
    obtain ⟨v', w', h2, h3, h4, h5⟩ := run_append_own (P := P) w 0 t ty e i z size bytes ht hi hz hsize hby hzs hsz v n xs hown a m c news hl hc h1 h63 hb (Nat.zero_le _)
    refine ⟨v', w', h2, h3, h4, fun k hk => ?_⟩
    rcases hown.2 with ⟨rfl, rfl⟩ | ⟨g, cap, cur, rfl, hbg, hg, hnc, hcm, hcs, htake⟩
    · have hx : xs = [] := List.eq_nil_of_length_eq_zero (by simpa using hown.1)
      subst hx
      obtain ⟨v2, w2, hr2, h6, _, _⟩ := run_append_own (P := P) w w.heap.size t ty e i z size bytes ht hi hz hsize hby hzs hsz (.slice none 0 0) 0 [] (World.ownsRow_nil _ _ _ _) a m c news hl hc h1 h63 hb (Nat.le_refl _)
      rw [h2] at hr2
      injection hr2 with e1 e2
      subst e1
      exact .inr (h6.lt k hk).1
    · subst hsize
      subst hby
      by_cases hroom : n + m ≤ cap
      · have hr2 := run_append_room (P := P) w t ty e i ht hi g n cap cur hg a m c news hl hc h1 hroom (by rw [hl, hcs, ← Nat.add_mul]; exact Nat.mul_le_mul_right _ hroom)
        rw [h2] at hr2
        injection hr2 with e1 e2
        subst e1
        exact .inl hk
      · have holds : ∀ j u, xs[j]? = some u → w.cell? ((⟨g, 0, none⟩ : Addr).add j) = some u := hown.cells (g := g) rfl
        have hr2 := run_append_grow (P := P) w t ty e i z ht hi hz ⟨g, 0, none⟩ n cap xs hown.1 holds a m c news hl hc (by omega) (by simp only [maxLen] at h63; omega) (growslice_fits (by omega) hb)
        rw [h2] at hr2
        injection hr2 with e1 e2
        subst e1
        simp only [Value.ownBlock, Option.some.injEq] at hk
        exact .inr (by omega)
theorem wpList_append_row {P : Program} {ops : Array Oper} {rest : List Oper} {o : Oper} {a : Act} {w : World} {Q : Exit → Act → World → Prop} (hgd : o.guard = none) (s x : Operand) (t : TypeId)
    (ho : o.op = .call { callee := .builtin .append, args := #[s, x], argTypes := #[t, t] }) (e : TypeId) (i : TypeInfo) (z : Value) (size bytes : Nat) (ht : P.underlying t = some (.slice e)) (hi : P.info? e = some i) (hz : i.zero = some z) (hsize : i.size = size) (hby : i.bytes = bytes)
    (hzs : z.cells.size = size) (hsz : 0 < size) (v : Value) (n : Nat) (xs : List Value) (hs : a.eval s = v) (hown : w.ownsRow 0 e size v n xs) (A : Option Addr) (m c : Nat) (news : List Value) (hx : a.eval x = .slice A m c) (hl : news.length = m * size) (hr : RowAt w A news) (hA : A = none → m = 0)
    (h1 : ∀ u ∈ news, u.oneCell' = true) (h63 : n + m ≤ maxLen) (hb : (n + m) * bytes ≤ 140737488355328)
    (h : ∀ v' w', w'.ownsRow 0 e size v' (n + m) (xs ++ news) → w.grownBy w' v.ownBlock → (∀ k, v'.ownBlock = some k → v.ownBlock = some k ∨ w.heap.size ≤ k) → wpList P ops Q rest (a.put o.dst v') w') : wpList P ops Q (o :: rest) a w := by
  refine wpList_plain hgd fun K hK => ?_
  obtain ⟨v', w', h2, h3, h4, h5⟩ := run_append_row (P := P) w t o.type e i z size bytes ht hi hz hsize hby hzs hsz v n xs hown A m c news hl hr hA h1 h63 hb
  unfold Oper.wp execOp
  simp only [ho, resolve, invoke, builtin, Sem.run_bind, Sem.run_pure, Result.andThen_ok, List.map_toArray, List.map_cons, List.map_nil, hs, hx, h2]
  exact hK _ _ (h v' w' h3 h4 h5)
/-- The log in block c, on the disk in block b, its rows in the slice v; G holds its blocks. -/
structure Lg (w : World) (c b : Nat) (f : Int) (v : Value) (G : Nat → Prop) (R : List Bs) : Prop where
  is : Is w c 65 #[.pointer (some ⟨b, 0, none⟩), .int .i64 f, v]
  own : w.ownsRow 0 9 1 v R.length (strs R)
  mem : G c
  row : ∀ k, v.ownBlock = some k → G k
  lt : ∀ k, G k → k < w.heap.size
def LgH (w : World) (c b : Nat) (f : Int) (G : Nat → Prop) (R : List Bs) : Prop := ∃ v, Lg w c b f v G R
section
variable {F G F1 G1 : Nat → Prop} {w w1 w2 : World} {b c : Nat} {f : Int} {v : Value} {R R1 R2 : List Bs} {D D1 D2 : Dk}
theorem Lg.kept (h : Lg w c b f v G R) (hf : Fr F w w1) (hd : ∀ k, G k → ¬ F k) : Lg w1 c b f v G R :=
  ⟨hf.is h.is (hd c h.mem), hf.own h.own (fun k hk => hd k (h.row k hk)), h.mem, h.row, fun k hk => Nat.lt_of_lt_of_le (h.lt k hk) hf.size⟩
theorem LgH.kept (h : LgH w c b f G R) (hf : Fr F w w1) (hd : ∀ k, G k → ¬ F k) : LgH w1 c b f G R := by
  obtain ⟨v, h⟩ := h
  exact ⟨v, h.kept hf hd⟩
theorem LgH.lt (h : LgH w c b f G R) : ∀ k, G k → k < w.heap.size := by
  obtain ⟨v, h⟩ := h
  exact h.lt
theorem LgH.drew (h : LgH w c b f G R) (n : Nat) : LgH (w.drewN n) c b f G R := h.kept ((Fr.refl (fun _ => False) w).drew n) (fun _ _ hh => hh)
/-- What a call makes of a disk and a log on it. -/
def StepW (b c : Nat) (f : Int) (F G : Nat → Prop) (w w' : World) (D : Dk) (R : List Bs) : Prop :=
  ∃ F' G', Has w' b F' D ∧ LgH w' c b f G' R ∧ (∀ k, F' k → ¬ G' k) ∧ (∀ k, F' k → F k ∨ w.heap.size ≤ k) ∧ (∀ k, G' k → G k ∨ w.heap.size ≤ k) ∧ Fr (fun k => F k ∨ G k) w w'
theorem StepW.of_disk (hG : LgH w c b f G R) (hd : ∀ k, F k → ¬ G k) (hs : Step b F w w1 D1) : StepW b c f F G w w1 D1 R := by
  obtain ⟨F', h1, h2, h3⟩ := hs
  refine ⟨F', G, h1, hG.kept h3 (fun k hg hf => hd k hf hg), fun k hf hg => ?_, h2, fun k hk => .inl hk, h3.mono (fun _ _ h => .inl h)⟩
  rcases h2 k hf with h | h
  · exact hd k h hg
  · have := hG.lt k hg; omega
theorem StepW.refl (h : Has w b F D) (hG : LgH w c b f G R) (hd : ∀ k, F k → ¬ G k) : StepW b c f F G w w D R := StepW.of_disk hG hd (Step.refl h)
theorem StepW.trans (h : ∀ F' G', Has w1 b F' D1 → LgH w1 c b f G' R1 → (∀ k, F' k → ¬ G' k) → StepW b c f F' G' w1 w2 D2 R2) (hs : StepW b c f F G w w1 D1 R1) : StepW b c f F G w w2 D2 R2 := by
  obtain ⟨F', G', h1, h2, h3, h4, h5, h6⟩ := hs
  obtain ⟨F2, G2, g1, g2, g3, g4, g5, g6⟩ := h F' G' h1 h2 h3
  refine ⟨F2, G2, g1, g2, g3, fun k hk => ?_, fun k hk => ?_, h6.trans g6 (fun i hi h => ?_)⟩
  · rcases g4 k hk with h | h
    · exact h4 k h
    · exact .inr (Nat.le_trans h6.size h)
  · rcases g5 k hk with h | h
    · exact h5 k h
    · exact .inr (Nat.le_trans h6.size h)
  · rcases h with h | h
    · rcases h4 i h with h | h
      · exact .inl h
      · omega
    · rcases h5 i h with h | h
      · exact .inr h
      · omega
/-- A world in which only what is new has turned. -/
theorem StepW.below (hs : StepW b c f F G w1 w2 D R) (hb : Below w.heap.size w w1) : StepW b c f F G w w2 D R := by
  obtain ⟨F', G', h1, h2, h3, h4, h5, h6⟩ := hs
  refine ⟨F', G', h1, h2, h3, fun k hk => ?_, fun k hk => ?_, (Fr.of_below (F := fun k => F k ∨ G k) hb (Nat.le_refl _)).trans h6 (fun _ _ h => h)⟩
  · rcases h4 k hk with h | h
    · exact .inl h
    · exact .inr (Nat.le_trans hb.size h)
  · rcases h5 k hk with h | h
    · exact .inl h
    · exact .inr (Nat.le_trans hb.size h)
end
end Go.Proofs.YtgamkahbebnnaaaDoor.D5
