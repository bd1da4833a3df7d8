/-
  CodeAgain's walk: what was decoded encodes to the bytes that were read.
-/
import Derived.Test.YtjomkfiepmeplaaReadV
namespace Go.Proofs.Ytjomkfiepmeplaa
open Go.RowKit
/-- A value that was read, and where its slices lie. -/
structure Got where
  t : Val
  T : Option Addr
  cT : Nat
  N : Option Addr
  cN : Nat
def five (m : Got) : List Value := [.int .i64 m.t.kind, .int .i64 m.t.n, .string (mk m.t.text), .slice m.T m.t.texts.length m.cT, .slice m.N m.t.nums.length m.cN]
def flat (M : List Got) : List Value := M.flatMap five
def encM (M : List Got) : List UInt8 := M.flatMap fun m => encV m.t
theorem info47 : (Try.prog.info? 47).map (fun i => (i.zero, i.size, i.bytes)) = some (some (.agg #[.int .i64 0, .int .i64 0, .string ⟨#[]⟩, .slice none 0 0, .slice none 0 0]), 5, 80) := by kernel_rfl
theorem own_keepN {wr w3 : World} {b base : Nat} {e : TypeId} {size : Nat} {v : Value} {n : Nat} {xs : List Value} (ho : wr.ownsRow base e size v n xs) (hb : b < base) (h4 : wr.grownBy w3 (some b)) : w3.ownsRow base e size v n xs := by
  refine ho.kept h4 (.inr ?_)
  intro hv
  have := (ho.lt b hv).1
  omega
theorem rows_apart {w : World} {b1 b2 s1 s2 n1 n2 : Nat} {e1 e2 : TypeId} {v1 v2 : Value} {x1 x2 : List Value} (h1 : w.ownsRow b1 e1 s1 v1 n1 x1) (h2 : w.ownsRow b2 e2 s2 v2 n2 x2) (hne : e1 ≠ e2) : v1.ownBlock = none ∨ v1.ownBlock ≠ v2.ownBlock := by
  rcases h1.2 with ⟨rfl, _⟩ | ⟨g, cap, cur, rfl, _, hh, _⟩
  · exact .inl rfl
  · right
    intro e
    exact Is.row_apart h2 (g := g) (t := e1) (c := cur) hh (Ne.symm hne) e
theorem owns_step {w w4 : World} {base e2 s2 n2 : Nat} {t : Val} {T N : Option Addr} {cT cN : Nat} {v2 : Value} {x2 : List Value} {o : Obj} (h : Owns w base t T cT N cN) (h2 : w.ownsRow base e2 s2 v2 n2 x2) (h9 : 9 ≠ e2) (h3 : 3 ≠ e2)
    (hg : (w.alloc o).grownBy w4 v2.ownBlock) : Owns w4 base t T cT N cN :=
  ⟨(h.1.alloc o).kept hg (rows_apart (h.1.alloc o) (h2.alloc o) h9), (h.2.alloc o).kept hg (rows_apart (h.2.alloc o) (h2.alloc o) h3)⟩
theorem owns_keep {w w' : World} {base b : Nat} {t : Val} {T N : Option Addr} {cT cN : Nat} (h : Owns w base t T cT N cN) (hb : b < base) (hg : w.grownBy w' (some b)) : Owns w' base t T cT N cN :=
  ⟨own_keepN h.1 hb hg, own_keepN h.2 hb hg⟩
theorem owns_mono {w : World} {base base' : Nat} {t : Val} {T N : Option Addr} {cT cN : Nat} (h : Owns w base t T cT N cN) (hb : base' ≤ base) : Owns w base' t T cT N cN := ⟨own_mono h.1 hb, own_mono h.2 hb⟩
theorem row_own {w : World} {base : Nat} {e : TypeId} {n : Nat} {A : Option Addr} {c : Nat} {xs : List Value} (h : w.ownsRow base e 1 (.slice A n c) n xs) : Row w w.heap.size A xs := by
  obtain ⟨A', c', e1, -, hr⟩ := Row.of_own h
  simp only [Value.slice.injEq] at e1
  rw [e1.1]
  exact hr
theorem five_len (m : Got) : (five m).length = 5 := rfl
theorem flat_len (M : List Got) : (flat M).length = M.length * 5 := by
  induction M with
  | nil => rfl
  | cons m M ih => simp only [flat, List.flatMap_cons, List.length_append, five_len, List.length_cons] at ih ⊢; omega
theorem flat_at (M : List Got) (k j : Nat) (hk : k < M.length) (hj : j < 5) : (flat M)[k * 5 + j]? = (five M[k])[j]? := by
  induction M generalizing k with
  | nil => simp at hk
  | cons m M ih =>
    simp only [flat, List.flatMap_cons]
    cases k with
    | zero => rw [List.getElem?_append_left (by rw [five_len]; omega)]; simp
    | succ k =>
      rw [List.getElem?_append_right (by rw [five_len]; omega), five_len, show (k + 1) * 5 + j - 5 = k * 5 + j by omega]
      exact ih k (by simpa using hk)
theorem add_plain0 (g n : Nat) : (⟨g, 0, none⟩ : Addr).add n = ⟨g, n, none⟩ := by
  unfold Addr.add
  split
  · subst_vars; rfl
  · simp
theorem vals_own {w : World} {base : Nat} {v : Value} {M : List Got} (h : w.ownsRow base 47 5 v M.length (flat M)) (ho : ∀ m ∈ M, Owns w base m.t m.T m.cT m.N m.cN) :
    ∃ A c, v = .slice A (M.map Got.t).length c ∧ Vals w w.heap.size A (M.map Got.t) := by
  rcases h.2 with ⟨rfl, h0⟩ | ⟨g, cap, cur, rfl, -, -, -⟩
  · have : M = [] := List.eq_nil_of_length_eq_zero h0
    subst this
    exact ⟨none, 0, rfl, fun k t hk => by simp at hk⟩
  · refine ⟨some ⟨g, 0, none⟩, cap, by rw [List.length_map], fun k t hk => ⟨_, rfl, ?_⟩⟩
    rw [List.getElem?_map] at hk
    by_cases hkl : k < M.length
    · rw [List.getElem?_eq_getElem hkl] at hk
      simp only [Option.map_some, Option.some.injEq] at hk
      subst hk
      have hc := h.cells (g := g) rfl
      have hom := ho M[k] (List.getElem_mem _)
      rw [add_plain0]
      have at_ : ∀ j (hj : j < 5) u, (five M[k])[j]? = some u → w.cell? ⟨g, k * 5 + j, none⟩ = some u := fun j hj u hu => by
        rw [← add_plain0]
        exact hc _ _ (by rw [flat_at M k j hkl hj]; exact hu)
      exact ⟨(h.lt g rfl).2, M[k].T, M[k].cT, M[k].N, M[k].cN, at_ 0 (by omega) _ rfl, at_ 1 (by omega) _ rfl, at_ 2 (by omega) _ rfl, at_ 3 (by omega) _ rfl, at_ 4 (by omega) _ rfl, row_own hom.1, row_own hom.2⟩
    · rw [List.getElem?_eq_none (by omega)] at hk
      simp at hk
/-- What has been read so far, and where the reader stands. -/
def Told (s : List UInt8) (M : List Got) (st : St) : Prop := (∀ r, st = some r → s = encM M ++ r) ∧ (rest st).length ≤ s.length
theorem told_step {s : List UInt8} {M : List Got} {st : St} (h : Told s M st) (k : Int) (m : Got) (hm : m.t = (rV k st).1) : Told s (M ++ [m]) (rV k st).2 := by
  refine ⟨fun r hr => ?_, Nat.le_trans (rV_le k st) h.2⟩
  have h1 := rV_back k st r hr
  have h2 := h.1 _ h1
  rw [h2, ← hm]
  simp [encM]
set_option maxHeartbeats 4000000 in
theorem again_any (s : List UInt8) (A : Option Addr) (cap : Nat) (ks : List Int) (w : World) (hr : Row w w.heap.size A (ints ks)) (hg : ∀ n ∈ ks, -9223372036854775808 ≤ n ∧ n ≤ 9223372036854775807) (hs : s.length ≤ 140737488351232) (hn : ks.length ≤ 17592186043904) :
    Calls Try.prog 6 #[.string (mk s), .slice A ks.length cap] w fun e w' => e = .returned (.bool true) ∧ Below w.heap.size w w' := by
  have HR := Lib.hid hr
  have HG := Lib.hid hg
  have hsz : (mk s).size = s.length := rfl
  clear hr hg
  obtain ⟨i0, hi, hz0, hz1, hz2⟩ := info_parts info47
  go_enter Try.func6, Try.ntmps6
  go_wp2_with fail
  refine (small_any _).mono ?_
  rintro e w1 ⟨rfl, b1⟩
  have z1 := b1.size
  have B1 := Lib.hid b1
  clear b1
  go_wp2_with fail
  refine (open_any s _).mono ?_
  rintro e w4 ⟨b, rfl, hb, h4, b4⟩
  have F4 := Lib.hid (bw B1.out b4 z1)
  have z4 := b4.size
  have hb4 := h4.lt
  have H4 := Lib.hid h4
  clear b4 h4
  by_cases hs4 : s.length ≤ 10000
  · have j1 : decide ((10000 : Int) < (s.length : Int)) = false := by simp; omega
    have j2 : decide (10000 < s.length) = false := by simp; omega
    by_cases hk20 : ks.length ≤ 20
    · have j3 : decide ((20 : Int) < (ks.length : Int)) = false := by simp; omega
      have j4 : decide (20 < ks.length) = false := by simp; omega
      go_wp2_with fail
      go_loopw [7, 8] (fun v i wr => ∃ (k : Nat) (M : List Got) (st : St), k ≤ ks.length ∧ i = .int .i64 k ∧ M.length = k ∧ wr.ownsRow w4.heap.size 47 5 v M.length (flat M) ∧ (∀ m ∈ M, Owns wr w4.heap.size m.t m.T m.cT m.N m.cN) ∧ (∀ m ∈ M, Sized m.t) ∧ Rd wr b 62 st ∧ Told s M st ∧ w4.grownBy wr (some b)) (fun _ i _ => ks.length - (intOf i).toNat)
      case atStart => exact ⟨0, [], some s, by omega, rfl, rfl, World.ownsRow_nil _ _ _ _, fun m hm => by simp at hm, fun m hm => by simp at hm, H4.out, ⟨fun r hr => by injection hr, Nat.le_refl _⟩, World.grownBy.refl _ _⟩
      case round =>
        obtain ⟨k, M, st, hk, rfl, hM, ho, hoa, hsz', hrd, htl, hgw⟩ := hrel
        have HO := Lib.hid ho
        have HOA := Lib.hid hoa
        have HSZ := Lib.hid hsz'
        have HRD := Lib.hid hrd
        have HTL := Lib.hid htl
        have HGW := Lib.hid hgw
        have HM := Lib.hid hM
        have zr := hgw.size
        have hst := htl.2
        clear ho hoa hsz' hrd htl hgw hM
        by_cases hlt : k < ks.length
        · have i1 : decide ((k : Int) < (ks.length : Int)) = true := by simp; omega
          have hrow := (HR.out.below F4.out).kept HGW.out (by omega) (by omega)
          obtain ⟨a, rfl, -, hc⟩ := hrow k _ (ints_at ks k hlt)
          have hgk := HG.out ks[k] (List.getElem_mem _)
          have C := readz_any b ks[k] st wr HRD.out (by omega) hgk.1 hgk.2
          have CC := Lib.hid C
          clear C hrow
          go_wp2_with fail
          refine (CC.out).mono ?_
          rintro e w5 ⟨T, cT, N, cN, rfl, o5, h5, g5⟩
          obtain ⟨m, hm⟩ : ∃ m : Got, m = ⟨(rV ks[k] st).1, T, cT, N, cN⟩ := ⟨_, rfl⟩
          have hgv : gv (rV ks[k] st).1 T cT N cN = .agg #[.int .i64 m.t.kind, .int .i64 m.t.n, .string (mk m.t.text), .slice m.T m.t.texts.length m.cT, .slice m.N m.t.nums.length m.cN] := by subst hm; rfl
          have htm : m.t = (rV ks[k] st).1 := by subst hm; rfl
          have O5 : Hid (Owns w5 wr.heap.size m.t m.T m.cT m.N m.cN) := by subst hm; exact o5
          rw [hgv]
          have TM := Lib.hid htm
          have H5 := Lib.hid h5
          have G5 := Lib.hid g5
          have z5 := g5.size
          clear hm hgv htm o5 h5 g5 CC
          go_wp2_with (first
            | (at_builtin; have HB := Lib.hid ((own_keepN HO.out hb4 G5.out).alloc (.cells #[.int .i64 m.t.kind, .int .i64 m.t.n, .string (mk m.t.text), .slice m.T m.t.texts.length m.cT, .slice m.N m.t.nums.length m.cN] 47)); have HN := Lib.hid (World.news_of_block (cs := #[.int .i64 m.t.kind, .int .i64 m.t.n, .string (mk m.t.text), .slice m.T m.t.texts.length m.cT, .slice m.N m.t.nums.length m.cN]) (t := 47) (fr := (0, 0)) (heap_alloc_new w5 _)); refine wpList_append_own _ rfl (.tmp 31) (.tmp 39) 42 rfl w4.heap.size 47 i0 _ 5 80 Try.underlying42 hi hz0 hz1 hz2 rfl (by decide) u7 M.length (flat M) rfl HB.out ⟨w5.heap.size, 0, none⟩ 1 1 (five m) rfl rfl HN.out ?c1 ?c3 ?c4 ?c5 ?_))
          case c1 =>
            intro u hu
            simp [five] at hu
            rcases hu with rfl | rfl | rfl | rfl | rfl <;> rfl
          case c3 => have := HM.out; simp only [maxLen]; omega
          case c4 => have := HM.out; omega
          case c5 => first | omega | (simp; omega)
          intro v6 w6 hown6 hgr6 _
          have I6 := Is.kept (H5.out.alloc _) hgr6 (by
            intro hv
            have := (HO.out.lt b hv.symm).1
            omega)
          have g6 := grown_trans (grown_alloc (grown_trans HGW.out G5.out (.inl rfl)) _) hgr6 (.inr fun j hj => by have := (HO.out.lt j hj).1; omega)
          have OA6 := Lib.hid (fun m' (hm' : m' ∈ M ++ [m]) => show Owns w6 w4.heap.size m'.t m'.T m'.cT m'.N m'.cN by
            rcases List.mem_append.1 hm' with hx | hx
            · exact owns_step (owns_keep (HOA.out m' hx) hb4 G5.out) (own_keepN HO.out hb4 G5.out) (by decide) (by decide) hgr6
            · rw [List.mem_singleton] at hx
              subst hx
              exact owns_step (owns_mono O5.out (by omega)) (own_keepN HO.out hb4 G5.out) (by decide) (by decide) hgr6)
          have O6 := Lib.hid hown6
          have HI6 := Lib.hid I6
          have G6 := Lib.hid g6
          clear hown6 hgr6 I6 g6
          go_wp2_with fail
          go_roundw
          case rel =>
            refine ⟨k + 1, M ++ [m], (rV ks[k] st).2, by omega, by go_num, by rw [List.length_append, HM.out]; rfl, ?_, OA6.out, fun m' hm' => ?_, HI6.out, told_step HTL.out ks[k] m TM.out, G6.out⟩
            · exact own_cast O6.out (by rw [List.length_append]; rfl) (by simp [flat])
            · rcases List.mem_append.1 hm' with hx | hx
              · exact HSZ.out m' hx
              · rw [List.mem_singleton] at hx
                subst hx
                rw [TM.out]
                exact rV_sized _ _ hgk.1 hgk.2 (by omega)
          case measure => simp [intOf]; omega
        · have i1 : decide ((k : Int) < (ks.length : Int)) = false := by simp; omega
          have i2 : decide (k < ks.length) = false := by simp; omega
          rcases st with _ | r
          · have L := left_any b _ _ wr HRD.out
            rw [show ((mk (rest none)).size : Int) = 0 from rfl] at L
            have LL := Lib.hid L
            have C := take_any b none 0 wr HRD.out (by simp [rest_none])
            rw [show (rTake 0 none).1 = [] from rfl, show (rTake 0 none).2 = none from rfl] at C
            have CC := Lib.hid C
            clear L C
            go_wp2_with fail
            refine (LL.out).mono ?_
            rintro e w' ⟨rfl, rfl⟩
            go_wp2_with fail
            refine (CC.out).mono ?_
            rintro e w6 ⟨rfl, h6, g6⟩
            have H6 := Lib.hid h6
            have G6 := Lib.hid g6
            clear h6 g6
            go_wp2_with fail
            refine (done_true b _ w6 H6.out).mono ?_
            rintro e w' ⟨rfl, rfl⟩
            go_wp2_with fail
            go_ret
            exact ⟨rfl, below_grown (below_grown F4.out HGW.out (by omega) (by omega)) G6.out (by omega) (by omega)⟩
          · have htold := HTL.out.1 r rfl
            have hlen := congrArg List.length htold
            rw [List.length_append] at hlen
            have L := left_any b _ _ wr HRD.out
            rw [show ((mk (rest (some r))).size : Int) = (r.length : Int) from rfl] at L
            have LL := Lib.hid L
            have C := take_any b _ (r.length : Int) wr HRD.out (by rw [rest_some]; omega)
            rw [rTake_eq, if_pos (by omega), Int.toNat_natCast, List.take_length, List.drop_length] at C
            have CC := Lib.hid C
            have TT := Lib.hid htold
            clear L C htold
            go_wp2_with fail
            refine (LL.out).mono ?_
            rintro e w' ⟨rfl, rfl⟩
            go_wp2_with fail
            refine (CC.out).mono ?_
            rintro e w6 ⟨rfl, h6, g6⟩
            have H6 := Lib.hid h6
            have G6 := Lib.hid g6
            have z6 := g6.size
            clear h6 g6
            have D := done_false b _ w6 H6.out
            rw [show (mk (rest (some []))).toList.isEmpty = true by rw [mkl]; rfl] at D
            have DD := Lib.hid D
            clear D
            go_wp2_with fail
            refine (DD.out).mono ?_
            rintro e w' ⟨rfl, rfl⟩
            have hv := vals_own (own_keepN HO.out hb4 G6.out) (fun m hm => owns_keep (HOA.out m hm) hb4 G6.out)
            obtain ⟨A7, c7, e7, hv7⟩ := hv
            have hEM : (M.map Got.t).flatMap encV = encM M := by unfold encM; rw [List.flatMap_map]
            have hMl := HM.out
            have E := enc_any A7 c7 (M.map Got.t) w6 hv7 (fun t ht => by
              rw [List.mem_map] at ht
              obtain ⟨m, hm, rfl⟩ := ht
              exact HSZ.out m hm) (by rw [hEM]; omega) (by rw [List.length_map]; omega)
            rw [hEM, ← e7] at E
            have EE := Lib.hid E
            have hcat := mk_append (encM M) r
            rw [← TT.out] at hcat
            have hx1 : (mk (encM M)).size ≤ 10000 := by rw [size_mk]; omega
            have hx2 : (mk r).size ≤ 10000 := by rw [size_mk]; omega
            clear E e7 hv7 hEM hMl
            go_wp2_with fail
            refine (EE.out).mono ?_
            rintro e w7 ⟨rfl, b7⟩
            have B7 := Lib.hid b7
            clear b7
            go_wp2_with fail
            go_ret
            have f6 := below_grown (below_grown F4.out HGW.out (by omega) (by omega)) G6.out (by omega) (by omega)
            exact ⟨rfl, bw f6 B7.out f6.size⟩
    · have j3 : decide ((20 : Int) < (ks.length : Int)) = true := by simp; omega
      have j4 : decide (20 < ks.length) = true := by simp; omega
      go_wp2_with fail
      go_ret
      exact ⟨rfl, F4.out⟩
  · have j1 : decide ((10000 : Int) < (s.length : Int)) = true := by simp; omega
    have j2 : decide (10000 < s.length) = true := by simp; omega
    go_wp2_with fail
    go_ret
    exact ⟨rfl, F4.out⟩
end Go.Proofs.Ytjomkfiepmeplaa
