/-
  The code's Reader.List and Reader.Nums: the generic decode, at strings and at integers.
-/
import Derived.Test.YtjomkfiepmeplaaRead
import Derived.Handy
import Derived.Deep.AppendLies
namespace Go.Proofs.Ytjomkfiepmeplaa
open Go.RowKit
theorem info9 : (Try.prog.info? 9).map (fun i => (i.zero, i.size, i.bytes)) = some (some (.string ⟨#[]⟩), 1, 16) := by kernel_rfl
theorem info3 : (Try.prog.info? 3).map (fun i => (i.zero, i.size, i.bytes)) = some (some (.int .i64 0), 1, 8) := by kernel_rfl
def strs (xs : List (List UInt8)) : List Value := xs.map fun l => .string (mk l)
def ints (xs : List Int) : List Value := xs.map fun n => .int .i64 n
theorem rMany_len {α : Type} (f : St → α × St) (k : Nat) (st : St) : (rMany f k st).1.length ≤ k := by
  induction k with
  | zero => simp [rMany]
  | succ k ih =>
    rw [rMany]
    rcases h : rMany f k st with ⟨xs, _ | r⟩ <;> rw [h] at ih
    · exact Nat.le_succ_of_le ih
    · simpa using ih
theorem rMany_stop {α : Type} (f : St → α × St) (k n : Nat) (st : St) (hk : k ≤ n) (h : (rMany f k st).2 = none) : (rMany f n st).2 = none := by
  induction n with
  | zero => obtain rfl : k = 0 := by omega
            exact h
  | succ n ih =>
    by_cases e : k = n + 1
    · subst e; exact h
    · have := ih (by omega)
      rw [rMany]
      rcases h : rMany f n st with ⟨xs, _ | r⟩
      · rfl
      · rw [h] at this; simp at this
theorem rMany_le {α : Type} (f : St → α × St) (hf : ∀ st, (rest (f st).2).length ≤ (rest st).length) (k : Nat) (st : St) : (rest (rMany f k st).2).length ≤ (rest st).length := by
  induction k with
  | zero => exact Nat.le_refl _
  | succ k ih =>
    rw [rMany]
    rcases h : rMany f k st with ⟨xs, _ | r⟩ <;> rw [h] at ih
    · exact ih
    · exact Nat.le_trans (hf _) ih
theorem rMany_step {α : Type} (f : St → α × St) (k : Nat) (st : St) (r : List UInt8) (h : (rMany f k st).2 = some r) : rMany f (k + 1) st = ((rMany f k st).1 ++ [(f (some r)).1], (f (some r)).2) := by
  rw [rMany]
  rcases e : rMany f k st with ⟨xs, _ | q⟩ <;> rw [e] at h
  · simp at h
  · simp only [Option.some.injEq] at h; subst h; rfl
theorem rNum_none (st : St) (h : (rNum st).2 = none) : (rNum st).1 = 0 := by
  cases st with
  | none => rfl
  | some l =>
    rw [rNum_some] at h ⊢
    split at h
    · simp at h
    · rename_i hk; rw [if_neg hk]
theorem own_keep {wr w3 : World} {b base : Nat} {e : TypeId} {v : Value} {n : Nat} {xs : List Value} (ho : wr.ownsRow base e 1 v n xs) (hb : b < base) (h4 : wr.grownBy w3 (some b)) : w3.ownsRow base e 1 v n xs := by
  refine ho.kept h4 ?_
  right
  intro hv
  have := (ho.lt b hv).1
  omega
theorem app_rel {w wr w3 w4 : World} {b : Nat} {t e : TypeId} {v : Value} {n : Nat} {xs : List Value} {c : Array Value} {o : Obj} (ho : wr.ownsRow w.heap.size e 1 v n xs) (hb : b < w.heap.size) (hg : w.grownBy wr (some b)) (h4 : wr.grownBy w3 (some b)) (h3 : Is w3 b t c)
    (hgr : (w3.alloc o).grownBy w4 v.ownBlock) : Is w4 b t c ∧ w.grownBy w4 (some b) := by
  refine ⟨(h3.alloc o).kept hgr ?_, ?_⟩
  · intro hv
    have := (ho.lt b hv.symm).1
    omega
  · exact grown_trans (grown_alloc (grown_trans hg h4 (.inl rfl)) o) hgr (.inr fun j hj => (ho.lt j hj).1)
theorem news_one (w : World) (u : Value) (t : TypeId) : ∀ j x, [u][j]? = some x → (w.alloc (.cells #[u] t)).cell? ((⟨w.heap.size, 0, none⟩ : Addr).add j) = some x :=
  World.news_of_block (cs := #[u]) (t := t) (fr := (0, 0)) (heap_alloc_new w _)
set_option maxHeartbeats 400000 in
theorem declist_none (b : Nat) (st : St) (w : World) (h : Rd w b 62 st) (hs : (rest st).length ≤ 1000000000) (hn : (rNum st).2 = none) :
    Calls Try.prog 55 #[.pointer (some ⟨b, 0, none⟩), .func (.func 27) #[.pointer (some ⟨b, 0, none⟩)] #[]] w fun e w' => e = .returned (.slice none 0 0) ∧ Rd w' b 62 none ∧ w.grownBy w' (some b) := by
  have h0 := rNum_none st hn
  have C := num_any b st w h hs
  rw [h0, hn] at C
  have CC := Lib.hid C
  clear C h0 hn h
  go_enter Try.func55, Try.ntmps55
  go_wp2_with (go_at_call 23; refine (CC.out).mono ?_; rintro e w1 ⟨rfl, h1, h2⟩; have d0 : w1.cell? ⟨b, 0, none⟩ = some (.string (mk [])) := h1.at_ 0; have d1 : w1.cell? ⟨b, 1, none⟩ = some (.bool true) := h1.at_ 1; have sz : (mk []).size = 0 := rfl; have H1 := Lib.hid h1; clear h1)
  refine wp_loop_rounds 1 ?_
  rw [rounds_succ]
  go_wp2
  go_ret
  exact ⟨rfl, H1.out, h2⟩

set_option maxHeartbeats 400000 in
theorem declist_big (b : Nat) (st : St) (w : World) (h : Rd w b 62 st) (hs : (rest st).length ≤ 1000000000) (q : List UInt8) (hn : (rNum st).2 = some q) (hq : q.length < (rNum st).1) :
    Calls Try.prog 55 #[.pointer (some ⟨b, 0, none⟩), .func (.func 27) #[.pointer (some ⟨b, 0, none⟩)] #[]] w fun e w' => e = .returned (.slice none 0 0) ∧ Rd w' b 62 none ∧ w.grownBy w' (some b) := by
  have C := num_any b st w h hs
  have hlt := rNum_lt st
  have hl := rNum_le st
  rw [hn] at C hl
  rw [rest_some] at hl
  generalize (rNum st).1 = n at *
  have CC := Lib.hid C
  clear C hn h
  obtain ⟨k, rfl⟩ : ∃ k, n = k + 1 := ⟨n - 1, by omega⟩
  go_enter Try.func55, Try.ntmps55
  go_wp2_with (first
    | (go_at_call 23; refine (CC.out).mono ?_; rintro e w1 ⟨rfl, h1, h2⟩; have d0 : w1.cell? ⟨b, 0, none⟩ = some (.string (mk q)) := h1.at_ 0; have sz : (mk q).size = q.length := rfl; have H1 := Lib.hid h1; clear h1)
    | (go_at_call 51; refine (fail_any b _ _ _ H1.out).mono ?_; rintro e w3 ⟨rfl, h3, h4⟩; have d1 : w3.cell? ⟨b, 1, none⟩ = some (.bool true) := h3.at_ 1; have H3 := Lib.hid h3; clear h3))
  refine wp_loop_rounds 1 ?_
  rw [rounds_succ]
  go_wp2
  go_ret
  exact ⟨rfl, H3.out, grown_trans h2 h4 (.inl rfl)⟩

set_option maxHeartbeats 1000000 in
theorem declist_ok (b : Nat) (st : St) (w : World) (h : Rd w b 62 st) (hs : (rest st).length ≤ 1000000000) (q : List UInt8) (hn : (rNum st).2 = some q) (hq : (rNum st).1 ≤ q.length) :
    Calls Try.prog 55 #[.pointer (some ⟨b, 0, none⟩), .func (.func 27) #[.pointer (some ⟨b, 0, none⟩)] #[]] w fun e w' => ∃ v, e = .returned v ∧ w'.ownsRow w.heap.size 9 1 v (shut (rMany rText (rNum st).1 (some q))).1.length (strs (shut (rMany rText (rNum st).1 (some q))).1) ∧ Rd w' b 62 (shut (rMany rText (rNum st).1 (some q))).2 ∧ w.grownBy w' (some b) := by
  have C := num_any b st w h hs
  have hlt := rNum_lt st
  have hl := rNum_le st
  rw [hn] at C hl
  rw [rest_some] at hl
  have hb := h.lt
  generalize (rNum st).1 = n at *
  have CC := Lib.hid C
  clear C hn h
  obtain ⟨i0, hi, hz0, hz1, hz2⟩ := info_parts info9
  have hqd : decide (q.length < n) = false := by simpa using hq
  go_enter Try.func55, Try.ntmps55
  go_wp2_with (first
    | (go_at_call 23; refine (CC.out).mono ?_; rintro e w1 ⟨rfl, h1, h2⟩; have d0 : w1.cell? ⟨b, 0, none⟩ = some (.string (mk q)) := h1.at_ 0; have sz : (mk q).size = q.length := rfl; have H1 := Lib.hid h1; clear h1))
  have hsz := h2.size
  have G2 := Lib.hid h2
  clear h2 d0 sz
  go_loopw [6, 7] (fun v i wr => ∃ k : Nat, k ≤ n ∧ i = .int .i64 k ∧ Rd wr b 62 (rMany rText k (some q)).2 ∧ wr.ownsRow w.heap.size 9 1 v (rMany rText k (some q)).1.length (strs (rMany rText k (some q)).1) ∧ w.grownBy wr (some b)) (fun _ i _ => n - (intOf i).toNat)
  case atStart => exact ⟨0, by omega, rfl, H1.out, World.ownsRow_nil _ _ _ _, G2.out⟩
  case round =>
    obtain ⟨k, hk, rfl, hr, ho, hg⟩ := hrel
    have hlen := rMany_len rText k (some q)
    have hle := rMany_le rText rText_le k (some q)
    rcases e : (rMany rText k (some q)).2 with _ | r
    · rw [e] at hr
      have hsh : shut (rMany rText n (some q)) = ([], none) := by
        have := rMany_stop rText k n (some q) hk e
        rcases e2 : rMany rText n (some q) with ⟨xs, _ | r⟩
        · rfl
        · rw [e2] at this; simp at this
      have d1 : wr.cell? ⟨b, 1, none⟩ = some (.bool true) := hr.at_ 1
      have HR := Lib.hid hr
      have HS := Lib.hid hsh
      have HG := Lib.hid hg
      clear hr hsh hg ho e
      by_cases hkn : k < n
      · have i1 : decide ((k : Int) < (n : Int)) = true := by simp; omega
        go_wp2
        go_ret
        rw [HS.out]
        exact ⟨_, rfl, World.ownsRow_nil _ _ _ _, HR.out, HG.out⟩
      · have i1 : decide ((k : Int) < (n : Int)) = false := by simp; omega
        have i2 : decide (k < n) = false := by simp; omega
        go_wp2
        go_ret
        rw [HS.out]
        exact ⟨_, rfl, World.ownsRow_nil _ _ _ _, HR.out, HG.out⟩
    · rw [e] at hr
      have d1 : wr.cell? ⟨b, 1, none⟩ = some (.bool false) := hr.at_ 1
      by_cases hkn : k < n
      · have i1 : decide ((k : Int) < (n : Int)) = true := by simp; omega
        have hst := rMany_step rText k (some q) r e
        have hle2 : (rest (some r)).length ≤ 1000000000 := by rw [e, rest_some] at hle; rw [rest_some] at hle ⊢; omega
        have hA := Lib.hid (text_any b (some r) wr hr hle2)
        have HS := Lib.hid hst
        have HG := Lib.hid hg
        have HO := Lib.hid ho
        clear hr hg ho e hst
        go_wp2_with (first
          | (go_at_call 27; refine (hA.out).mono ?_; rintro e w3 ⟨rfl, h3, h4⟩; have H3 := Lib.hid h3; have H4 := Lib.hid h4; clear h3 h4)
          | (at_builtin; have HB := Lib.hid ((own_keep HO.out hb H4.out).alloc (.cells #[.string (mk (rText (some r)).1)] 9)); have HN := Lib.hid (news_one w3 (.string (mk (rText (some r)).1)) 9); refine wpList_append_own _ rfl (.tmp 31) (.tmp 34) 22 rfl w.heap.size 9 i0 (.string ⟨#[]⟩) 1 16 Try.underlying22 hi hz0 hz1 hz2 rfl (by decide) u6 (rMany rText k (some q)).1.length (strs (rMany rText k (some q)).1) rfl HB.out ⟨w3.heap.size, 0, none⟩ 1 1 [.string (mk (rText (some r)).1)] rfl rfl HN.out ?c1 ?c3 ?c4 ?c5 ?_))
        case c1 => intro u hu; simp at hu; subst hu; rfl
        case c3 => simp only [maxLen]; omega
        case c4 => omega
        case c5 => have := HG.out.size; have := H4.out.size; simp; omega
        intro v4 w4 hown4 hgr4 _
        obtain ⟨r4, g4⟩ := app_rel HO.out hb HG.out H4.out H3.out hgr4
        have HO4 := Lib.hid hown4
        have HR4 := Lib.hid r4
        have HG4 := Lib.hid g4
        clear hown4 r4 g4 hgr4
        go_wp2
        go_roundw
        case rel =>
          refine ⟨k + 1, by omega, by go_num, ?_, ?_, HG4.out⟩
          · rw [HS.out]; exact HR4.out
          · rw [HS.out]; simpa [strs] using HO4.out
        case measure => simp [intOf]; omega
      · obtain rfl : k = n := by omega
        have hsh : shut (rMany rText k (some q)) = ((rMany rText k (some q)).1, some r) := by
          rcases e2 : rMany rText k (some q) with ⟨xs, _ | r2⟩
          · rw [e2] at e; simp at e
          · rw [e2] at e; simp only [Option.some.injEq] at e; subst e; rfl
        have i1 : decide ((k : Int) < (k : Int)) = false := by simp
        have HS := Lib.hid hsh
        have HR := Lib.hid hr
        have HG := Lib.hid hg
        have HO := Lib.hid ho
        clear hr hsh hg ho e
        go_wp2
        go_ret
        rw [HS.out]
        exact ⟨_, rfl, HO.out, HR.out, HG.out⟩
set_option maxHeartbeats 400000 in
theorem decnums_none (b : Nat) (st : St) (w : World) (h : Rd w b 62 st) (hs : (rest st).length ≤ 1000000000) (hn : (rNum st).2 = none) :
    Calls Try.prog 56 #[.pointer (some ⟨b, 0, none⟩), .func (.func 25) #[.pointer (some ⟨b, 0, none⟩)] #[]] w fun e w' => e = .returned (.slice none 0 0) ∧ Rd w' b 62 none ∧ w.grownBy w' (some b) := by
  have h0 := rNum_none st hn
  have C := num_any b st w h hs
  rw [h0, hn] at C
  have CC := Lib.hid C
  clear C h0 hn h
  go_enter Try.func56, Try.ntmps56
  go_wp2_with (go_at_call 23; refine (CC.out).mono ?_; rintro e w1 ⟨rfl, h1, h2⟩; have d0 : w1.cell? ⟨b, 0, none⟩ = some (.string (mk [])) := h1.at_ 0; have d1 : w1.cell? ⟨b, 1, none⟩ = some (.bool true) := h1.at_ 1; have sz : (mk []).size = 0 := rfl; have H1 := Lib.hid h1; clear h1)
  refine wp_loop_rounds 1 ?_
  rw [rounds_succ]
  go_wp2
  go_ret
  exact ⟨rfl, H1.out, h2⟩

set_option maxHeartbeats 400000 in
theorem decnums_big (b : Nat) (st : St) (w : World) (h : Rd w b 62 st) (hs : (rest st).length ≤ 1000000000) (q : List UInt8) (hn : (rNum st).2 = some q) (hq : q.length < (rNum st).1) :
    Calls Try.prog 56 #[.pointer (some ⟨b, 0, none⟩), .func (.func 25) #[.pointer (some ⟨b, 0, none⟩)] #[]] w fun e w' => e = .returned (.slice none 0 0) ∧ Rd w' b 62 none ∧ w.grownBy w' (some b) := by
  have C := num_any b st w h hs
  have hlt := rNum_lt st
  have hl := rNum_le st
  rw [hn] at C hl
  rw [rest_some] at hl
  generalize (rNum st).1 = n at *
  have CC := Lib.hid C
  clear C hn h
  obtain ⟨k, rfl⟩ : ∃ k, n = k + 1 := ⟨n - 1, by omega⟩
  go_enter Try.func56, Try.ntmps56
  go_wp2_with (first
    | (go_at_call 23; refine (CC.out).mono ?_; rintro e w1 ⟨rfl, h1, h2⟩; have d0 : w1.cell? ⟨b, 0, none⟩ = some (.string (mk q)) := h1.at_ 0; have sz : (mk q).size = q.length := rfl; have H1 := Lib.hid h1; clear h1)
    | (go_at_call 51; refine (fail_any b _ _ _ H1.out).mono ?_; rintro e w3 ⟨rfl, h3, h4⟩; have d1 : w3.cell? ⟨b, 1, none⟩ = some (.bool true) := h3.at_ 1; have H3 := Lib.hid h3; clear h3))
  refine wp_loop_rounds 1 ?_
  rw [rounds_succ]
  go_wp2
  go_ret
  exact ⟨rfl, H3.out, grown_trans h2 h4 (.inl rfl)⟩

set_option maxHeartbeats 1000000 in
theorem decnums_ok (b : Nat) (st : St) (w : World) (h : Rd w b 62 st) (hs : (rest st).length ≤ 1000000000) (q : List UInt8) (hn : (rNum st).2 = some q) (hq : (rNum st).1 ≤ q.length) :
    Calls Try.prog 56 #[.pointer (some ⟨b, 0, none⟩), .func (.func 25) #[.pointer (some ⟨b, 0, none⟩)] #[]] w fun e w' => ∃ v, e = .returned v ∧ w'.ownsRow w.heap.size 3 1 v (shut (rMany rInt (rNum st).1 (some q))).1.length (ints (shut (rMany rInt (rNum st).1 (some q))).1) ∧ Rd w' b 62 (shut (rMany rInt (rNum st).1 (some q))).2 ∧ w.grownBy w' (some b) := by
  have C := num_any b st w h hs
  have hlt := rNum_lt st
  have hl := rNum_le st
  rw [hn] at C hl
  rw [rest_some] at hl
  have hb := h.lt
  generalize (rNum st).1 = n at *
  have CC := Lib.hid C
  clear C hn h
  obtain ⟨i0, hi, hz0, hz1, hz2⟩ := info_parts info3
  have hqd : decide (q.length < n) = false := by simpa using hq
  go_enter Try.func56, Try.ntmps56
  go_wp2_with (first
    | (go_at_call 23; refine (CC.out).mono ?_; rintro e w1 ⟨rfl, h1, h2⟩; have d0 : w1.cell? ⟨b, 0, none⟩ = some (.string (mk q)) := h1.at_ 0; have sz : (mk q).size = q.length := rfl; have H1 := Lib.hid h1; clear h1))
  have hsz := h2.size
  have G2 := Lib.hid h2
  clear h2 d0 sz
  go_loopw [6, 7] (fun v i wr => ∃ k : Nat, k ≤ n ∧ i = .int .i64 k ∧ Rd wr b 62 (rMany rInt k (some q)).2 ∧ wr.ownsRow w.heap.size 3 1 v (rMany rInt k (some q)).1.length (ints (rMany rInt k (some q)).1) ∧ w.grownBy wr (some b)) (fun _ i _ => n - (intOf i).toNat)
  case atStart => exact ⟨0, by omega, rfl, H1.out, World.ownsRow_nil _ _ _ _, G2.out⟩
  case round =>
    obtain ⟨k, hk, rfl, hr, ho, hg⟩ := hrel
    have hlen := rMany_len rInt k (some q)
    have hle := rMany_le rInt rInt_le k (some q)
    rcases e : (rMany rInt k (some q)).2 with _ | r
    · rw [e] at hr
      have hsh : shut (rMany rInt n (some q)) = ([], none) := by
        have := rMany_stop rInt k n (some q) hk e
        rcases e2 : rMany rInt n (some q) with ⟨xs, _ | r⟩
        · rfl
        · rw [e2] at this; simp at this
      have d1 : wr.cell? ⟨b, 1, none⟩ = some (.bool true) := hr.at_ 1
      have HR := Lib.hid hr
      have HS := Lib.hid hsh
      have HG := Lib.hid hg
      clear hr hsh hg ho e
      by_cases hkn : k < n
      · have i1 : decide ((k : Int) < (n : Int)) = true := by simp; omega
        go_wp2
        go_ret
        rw [HS.out]
        exact ⟨_, rfl, World.ownsRow_nil _ _ _ _, HR.out, HG.out⟩
      · have i1 : decide ((k : Int) < (n : Int)) = false := by simp; omega
        have i2 : decide (k < n) = false := by simp; omega
        go_wp2
        go_ret
        rw [HS.out]
        exact ⟨_, rfl, World.ownsRow_nil _ _ _ _, HR.out, HG.out⟩
    · rw [e] at hr
      have d1 : wr.cell? ⟨b, 1, none⟩ = some (.bool false) := hr.at_ 1
      by_cases hkn : k < n
      · have i1 : decide ((k : Int) < (n : Int)) = true := by simp; omega
        have hst := rMany_step rInt k (some q) r e
        have hle2 : (rest (some r)).length ≤ 1000000000 := by rw [e, rest_some] at hle; rw [rest_some] at hle ⊢; omega
        have hA := Lib.hid (int_any b (some r) wr hr hle2)
        have HS := Lib.hid hst
        have HG := Lib.hid hg
        have HO := Lib.hid ho
        clear hr hg ho e hst
        go_wp2_with (first
          | (go_at_call 25; refine (hA.out).mono ?_; rintro e w3 ⟨rfl, h3, h4⟩; have H3 := Lib.hid h3; have H4 := Lib.hid h4; clear h3 h4)
          | (at_builtin; have HB := Lib.hid ((own_keep HO.out hb H4.out).alloc (.cells #[.int .i64 (rInt (some r)).1] 3)); have HN := Lib.hid (news_one w3 (.int .i64 (rInt (some r)).1) 3); refine wpList_append_own _ rfl (.tmp 31) (.tmp 34) 23 rfl w.heap.size 3 i0 (.int .i64 0) 1 8 Try.underlying23 hi hz0 hz1 hz2 rfl (by decide) u6 (rMany rInt k (some q)).1.length (ints (rMany rInt k (some q)).1) rfl HB.out ⟨w3.heap.size, 0, none⟩ 1 1 [.int .i64 (rInt (some r)).1] rfl rfl HN.out ?c1 ?c3 ?c4 ?c5 ?_))
        case c1 => intro u hu; simp at hu; subst hu; rfl
        case c3 => simp only [maxLen]; omega
        case c4 => omega
        case c5 => have := HG.out.size; have := H4.out.size; simp; omega
        intro v4 w4 hown4 hgr4 _
        obtain ⟨r4, g4⟩ := app_rel HO.out hb HG.out H4.out H3.out hgr4
        have HO4 := Lib.hid hown4
        have HR4 := Lib.hid r4
        have HG4 := Lib.hid g4
        clear hown4 r4 g4 hgr4
        go_wp2
        go_roundw
        case rel =>
          refine ⟨k + 1, by omega, by go_num, ?_, ?_, HG4.out⟩
          · rw [HS.out]; exact HR4.out
          · rw [HS.out]; simpa [ints] using HO4.out
        case measure => simp [intOf]; omega
      · obtain rfl : k = n := by omega
        have hsh : shut (rMany rInt k (some q)) = ((rMany rInt k (some q)).1, some r) := by
          rcases e2 : rMany rInt k (some q) with ⟨xs, _ | r2⟩
          · rw [e2] at e; simp at e
          · rw [e2] at e; simp only [Option.some.injEq] at e; subst e; rfl
        have i1 : decide ((k : Int) < (k : Int)) = false := by simp
        have HS := Lib.hid hsh
        have HR := Lib.hid hr
        have HG := Lib.hid hg
        have HO := Lib.hid ho
        clear hr hsh hg ho e
        go_wp2
        go_ret
        rw [HS.out]
        exact ⟨_, rfl, HO.out, HR.out, HG.out⟩

theorem shut_le {α : Type} (p : List α × St) : (rest (shut p).2).length ≤ (rest p.2).length := by
  obtain ⟨xs, _ | r⟩ := p <;> exact Nat.le_refl _
theorem rSeq_le {α : Type} (f : St → α × St) (hf : ∀ st, (rest (f st).2).length ≤ (rest st).length) (st : St) : (rest (rSeq f st).2).length ≤ (rest st).length := by
  have h1 := rNum_le st
  unfold rSeq
  rcases h : rNum st with ⟨n, _ | q⟩
  · simp [rest_none]
  · rw [h] at h1
    simp only
    split
    · exact Nat.le_trans (shut_le _) (Nat.le_trans (rMany_le f hf n (some q)) h1)
    · simp [rest_none]
theorem rSeq_none {α : Type} (f : St → α × St) (st : St) (h : (rNum st).2 = none) : rSeq f st = ([], none) := by
  unfold rSeq
  rcases e : rNum st with ⟨n, _ | q⟩
  · rfl
  · rw [e] at h; simp at h
theorem rSeq_some {α : Type} (f : St → α × St) (st : St) (q : List UInt8) (h : (rNum st).2 = some q) : rSeq f st = if (rNum st).1 ≤ q.length then shut (rMany f (rNum st).1 (some q)) else ([], none) := by
  unfold rSeq
  rcases e : rNum st with ⟨n, _ | q2⟩ <;> rw [e] at h
  · simp at h
  · simp only [Option.some.injEq] at h; subst h; rfl

theorem declist_any (b : Nat) (st : St) (w : World) (h : Rd w b 62 st) (hs : (rest st).length ≤ 1000000000) :
    Calls Try.prog 55 #[.pointer (some ⟨b, 0, none⟩), .func (.func 27) #[.pointer (some ⟨b, 0, none⟩)] #[]] w fun e w' => ∃ v, e = .returned v ∧ w'.ownsRow w.heap.size 9 1 v (rSeq rText st).1.length (strs (rSeq rText st).1) ∧ Rd w' b 62 (rSeq rText st).2 ∧ w.grownBy w' (some b) := by
  rcases e : (rNum st).2 with _ | q
  · rw [rSeq_none rText st e]
    exact (declist_none b st w h hs e).mono fun _ _ ⟨h1, h2, h3⟩ => ⟨_, h1, World.ownsRow_nil _ _ _ _, h2, h3⟩
  · rw [rSeq_some rText st q e]
    by_cases hq : (rNum st).1 ≤ q.length
    · rw [if_pos hq]
      exact declist_ok b st w h hs q e hq
    · rw [if_neg hq]
      exact (declist_big b st w h hs q e (by omega)).mono fun _ _ ⟨h1, h2, h3⟩ => ⟨_, h1, World.ownsRow_nil _ _ _ _, h2, h3⟩
theorem list_any (b : Nat) (st : St) (w : World) (h : Rd w b 62 st) (hs : (rest st).length ≤ 1000000000) :
    Calls Try.prog 30 #[.pointer (some ⟨b, 0, none⟩)] w fun e w' => ∃ v, e = .returned v ∧ w'.ownsRow w.heap.size 9 1 v (rSeq rText st).1.length (strs (rSeq rText st).1) ∧ Rd w' b 62 (rSeq rText st).2 ∧ w.grownBy w' (some b) := by
  have C := Lib.hid (declist_any b st w h hs)
  clear h hs
  go_enter Try.func30, Try.ntmps30
  go_wp2_with (go_at_call 55; refine (C.out).mono ?_; rintro e w1 ⟨v, rfl, h1, h2, h3⟩; have H1 := Lib.hid h1; have H2 := Lib.hid h2; have H3 := Lib.hid h3; clear h1 h2 h3)
  go_ret
  exact ⟨v, rfl, H1.out, H2.out, H3.out⟩

theorem decnums_any (b : Nat) (st : St) (w : World) (h : Rd w b 62 st) (hs : (rest st).length ≤ 1000000000) :
    Calls Try.prog 56 #[.pointer (some ⟨b, 0, none⟩), .func (.func 25) #[.pointer (some ⟨b, 0, none⟩)] #[]] w fun e w' => ∃ v, e = .returned v ∧ w'.ownsRow w.heap.size 3 1 v (rSeq rInt st).1.length (ints (rSeq rInt st).1) ∧ Rd w' b 62 (rSeq rInt st).2 ∧ w.grownBy w' (some b) := by
  rcases e : (rNum st).2 with _ | q
  · rw [rSeq_none rInt st e]
    exact (decnums_none b st w h hs e).mono fun _ _ ⟨h1, h2, h3⟩ => ⟨_, h1, World.ownsRow_nil _ _ _ _, h2, h3⟩
  · rw [rSeq_some rInt st q e]
    by_cases hq : (rNum st).1 ≤ q.length
    · rw [if_pos hq]
      exact decnums_ok b st w h hs q e hq
    · rw [if_neg hq]
      exact (decnums_big b st w h hs q e (by omega)).mono fun _ _ ⟨h1, h2, h3⟩ => ⟨_, h1, World.ownsRow_nil _ _ _ _, h2, h3⟩
theorem nums_any (b : Nat) (st : St) (w : World) (h : Rd w b 62 st) (hs : (rest st).length ≤ 1000000000) :
    Calls Try.prog 33 #[.pointer (some ⟨b, 0, none⟩)] w fun e w' => ∃ v, e = .returned v ∧ w'.ownsRow w.heap.size 3 1 v (rSeq rInt st).1.length (ints (rSeq rInt st).1) ∧ Rd w' b 62 (rSeq rInt st).2 ∧ w.grownBy w' (some b) := by
  have C := Lib.hid (decnums_any b st w h hs)
  clear h hs
  go_enter Try.func33, Try.ntmps33
  go_wp2_with (go_at_call 56; refine (C.out).mono ?_; rintro e w1 ⟨v, rfl, h1, h2, h3⟩; have H1 := Lib.hid h1; have H2 := Lib.hid h2; have H3 := Lib.hid h3; clear h1 h2 h3)
  go_ret
  exact ⟨v, rfl, H1.out, H2.out, H3.out⟩
end Go.Proofs.Ytjomkfiepmeplaa
