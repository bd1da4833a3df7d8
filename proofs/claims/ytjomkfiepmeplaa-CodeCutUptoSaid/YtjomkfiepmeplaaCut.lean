/-
  CodeCut's walk: no proper prefix of an encoding is read.
-/
import Derived.Test.YtjomkfiepmeplaaReadV
namespace Go.Proofs.Ytjomkfiepmeplaa
open Go.RowKit
theorem pre_fail {α : Type} (f : St → α × St) (enc : α → List UInt8) (ok : α → Prop) (fwd : ∀ x, ok x → ∀ r, f (some (enc x ++ r)) = (x, some r)) (back : ∀ st x r, f st = (x, some r) → st = some (enc x ++ r) ∧ ok x)
    (v : α) (hv : ok v) (m : Nat) (hm : m < (enc v).length) : (f (some ((enc v).take m))).2 = none := by
  rcases e : f (some ((enc v).take m)) with ⟨x, _ | r⟩
  · rfl
  · exfalso
    obtain ⟨h1, h2⟩ := back _ x r e
    simp only [Option.some.injEq] at h1
    have h3 : enc v = enc x ++ (r ++ (enc v).drop m) := by rw [← List.append_assoc, ← h1, List.take_append_drop]
    have h4 := fwd x h2 (r ++ (enc v).drop m)
    rw [← h3] at h4
    have h5 := fwd v hv []
    rw [List.append_nil, h4] at h5
    have h6 := Option.some.inj (Prod.mk.inj h5).2
    have h7 := congrArg List.length h6
    rw [List.length_append, List.length_drop, List.length_nil] at h7
    omega
theorem cut_fails (t : Val) (hs : Sized t) (ok : OkV t) (m : Nat) (hm : m < (encV t).length) : readS t.kind (some ((encV t).take m)) = none := by
  obtain ⟨h0, h1, h2, h3, h4, h5⟩ := ok
  obtain ⟨f1, f2⟩ := fewB_true _ h2
  unfold readS
  by_cases k0 : kdI t.kind = 0
  · have e : encV t = vint t.n.toNat := by unfold encV numE; rw [if_pos k0, if_neg (by have := h0 k0; omega)]
    rw [if_pos k0, e]
    rw [e] at hm
    exact pre_fail rNum vint (fun n => n < 9223372036854775808) (fun x hx r => rNum_vint x r hx) rNum_back _ (by have := hs.2.2.1; omega) m hm
  · by_cases k1 : kdI t.kind = 1
    · have e : encV t = intE t.n := by unfold encV; rw [if_neg k0, if_pos k1]
      rw [if_neg k0, if_pos k1, e]
      rw [e] at hm
      exact pre_fail rInt intE (fun n => inR n = true) (fun x hx r => rInt_intE x r hx) rInt_back _ (h1 k1) m hm
    · by_cases k2 : kdI t.kind = 2
      · have e : encV t = textE t.text := by unfold encV; rw [if_neg k0, if_neg k1, if_pos k2]
        rw [if_neg k0, if_neg k1, if_pos k2, e]
        rw [e] at hm
        exact pre_fail rText textE (fun s => s.length < 9223372036854775808) (fun x hx r => rText_textE x r hx) rText_back _ (by omega) m hm
      · by_cases k3 : kdI t.kind = 3
        · have e : encV t = listE t.texts := by unfold encV; rw [if_neg k0, if_neg k1, if_neg k2, if_pos k3]
          rw [if_neg k0, if_neg k1, if_neg k2, if_pos k3, e]
          rw [e] at hm
          exact pre_fail rList listE (fun l => l.length < 9223372036854775808 ∧ ∀ s ∈ l, s.length < 9223372036854775808) (fun x hx r => rList_listE x r hx.2 hx.1) rList_back _ ⟨by omega, fun s hs => by have := total_mem _ s hs; omega⟩ m hm
        · have e : encV t = numsE t.nums := by unfold encV; rw [if_neg k0, if_neg k1, if_neg k2, if_neg k3]
          rw [if_neg k0, if_neg k1, if_neg k2, if_neg k3, e]
          rw [e] at hm
          exact pre_fail rNums numsE (fun l => l.length < 9223372036854775808 ∧ ∀ n ∈ l, inR n = true) (fun x hx r => rNums_numsE x r hx.2 hx.1) rNums_back _ ⟨by omega, h5⟩ m hm
theorem vals_one {w : World} {g top : Nat} {t : Val} {T N : Option Addr} {cT cN : Nat} (h : Is w g 47 #[.int .i64 t.kind, .int .i64 t.n, .string (mk t.text), .slice T t.texts.length cT, .slice N t.nums.length cN])
    (hg : g < top) (rT : Row w top T (strs t.texts)) (rN : Row w top N (ints t.nums)) : Vals w top (some ⟨g, 0, none⟩) [t] := by
  intro k u hu
  match k, hu with
  | 0, hu =>
    simp only [List.getElem?_cons_zero, Option.some.injEq] at hu
    subst hu
    exact ⟨_, rfl, hg, T, cT, N, cN, h.at_ 0, h.at_ 1, h.at_ 2, h.at_ 3, h.at_ 4, rT, rN⟩
set_option maxHeartbeats 2000000 in
theorem cut_any (t : Val) (T N : Option Addr) (cT cN : Nat) (m : Int) (w : World) (rT : Row w w.heap.size T (strs t.texts)) (rN : Row w w.heap.size N (ints t.nums)) (hs : Sized2 t) (hE : (encV t).length ≤ 100000000000000) :
    Calls Try.prog 7 #[.agg #[.int .i64 t.kind, .int .i64 t.n, .string (mk t.text), .slice T t.texts.length cT, .slice N t.nums.length cN], .int .i64 m] w fun e w' => e = .returned (.bool true) ∧ Below w.heap.size w w' := by
  have RT := Lib.hid rT
  have RN := Lib.hid rN
  have HS := Lib.hid hs
  clear rT rN hs
  go_enter Try.func7, Try.ntmps7
  go_wp2_with fail
  refine (small_any _).mono ?_
  rintro e w1 ⟨rfl, b1⟩
  have hz1 : w.heap.size < w1.heap.size := by have := b1.size; simp at this; omega
  have F1 := Lib.hid (((Below.refl w.heap.size w).alloc (Nat.le_refl _) _).trans (b1.mono (by simp)))
  have I1 := Lib.hid ((Is.fresh w 47 _).below b1 (by simp))
  clear b1
  have x0 := I1.out.at_ 0
  have x1 := I1.out.at_ 1
  have x2 := I1.out.at_ 2
  have x3 := I1.out.at_ 3
  have x4 := I1.out.at_ 4
  simp at x0 x1 x2 x3 x4
  go_wp2_with fail
  have A1 := Lib.hid (F1.out.alloc (by omega) (.cells #[.int .i64 t.kind, .int .i64 t.n, .string (mk t.text), .slice T t.texts.length cT, .slice N t.nums.length cN] 47))
  refine (enc_any (some ⟨w1.heap.size, 0, none⟩) 1 [t] _ (vals_one (Is.fresh w1 47 _) (by simp) ((RT.out.below A1.out).top A1.out.size) ((RN.out.below A1.out).top A1.out.size)) (fun u hu => by
    rw [List.mem_singleton] at hu; rw [hu]; exact HS.out.1) (by simpa using hE) (by simp)).mono ?_
  rintro e w2 ⟨rfl, b2⟩
  have hz2 : w1.heap.size < w2.heap.size := by have := b2.size; simp at this; omega
  have F2 := Lib.hid (bwa F1.out (by omega) _ b2)
  have I2 := Lib.hid ((I1.out.alloc _).below b2 (by simp; omega))
  rw [show [t].flatMap encV = encV t by simp]
  clear b2 x0 x1 x2 x3 x4
  have x0 := I2.out.at_ 0
  have x1 := I2.out.at_ 1
  have x2 := I2.out.at_ 2
  have x3 := I2.out.at_ 3
  have x4 := I2.out.at_ 4
  simp at x0 x1 x2 x3 x4
  go_wp2_with fail
  have A2 := Lib.hid (F2.out.alloc (by omega) (.cells #[.int .i64 t.kind, .int .i64 t.n, .string (mk t.text), .slice T t.texts.length cT, .slice N t.nums.length cN] 47))
  refine (valid_any (some ⟨w2.heap.size, 0, none⟩) 1 [t] _ (vals_one (Is.fresh w2 47 _) (by simp) ((RT.out.below A2.out).top A2.out.size) ((RN.out.below A2.out).top A2.out.size)) (fun u hu => by
    rw [List.mem_singleton] at hu; rw [hu]; exact HS.out) (by simp)).mono ?_
  rintro e w3 ⟨B, rfl, b3, hB⟩
  have hz3 : w2.heap.size < w3.heap.size := by have := b3.size; simp at this; omega
  have F3 := Lib.hid (bwa F2.out (by omega) _ b3)
  have I3 := Lib.hid ((I2.out.alloc _).below b3 (by simp; omega))
  clear b3 x0 x1 x2 x3 x4
  have hsz : (mk (encV t)).size = (encV t).length := rfl
  rcases B with _ | _
  · clear hB
    go_wp2_with fail
    go_ret
    exact ⟨rfl, F3.out⟩
  · have OK := Lib.hid ((hB rfl).2 t (by simp))
    clear hB
    by_cases hm0 : m < 0
    · go_wp2_with fail
      go_ret
      exact ⟨rfl, F3.out⟩
    · have d0 : decide (m < 0) = false := by simpa using hm0
      by_cases hml : m < ((encV t).length : Int)
      · obtain ⟨k, rfl⟩ : ∃ k : Nat, m = k := ⟨m.toNat, by omega⟩
        have hkl : k < (encV t).length := by omega
        have d1 : decide (((encV t).length : Int) ≤ (k : Int)) = false := by simp; omega
        have d2 : decide ((encV t).length ≤ k) = false := by simp; omega
        have hcf := cut_fails t HS.out.1 OK.out k hkl
        have hle : (rest (some ((encV t).take k))).length ≤ 1000000000 := by
          have := OK.out.len HS.out.1
          rw [rest_some, List.length_take]; omega
        have CF := Lib.hid hcf
        have O := Lib.hid (fun W => open_any ((encV t).take k) W)
        have hx := extract_take (mk (encV t)) k
        rw [ls_mk] at hx
        rw [← hx] at O
        have RL := Lib.hid hle
        clear hcf hx hle
        go_wp2_with fail
        refine (O.out _).mono ?_
        rintro e w4 ⟨b, rfl, hb, h4, b4⟩
        have F4 := Lib.hid (bw F3.out b4 (by omega))
        have I4 := Lib.hid (I3.out.below b4 (by omega))
        have H4 := Lib.hid h4
        have hz4 := h4.lt
        clear b4 h4
        have x0 := I4.out.at_ 0
        have x1 := I4.out.at_ 1
        have x2 := I4.out.at_ 2
        have x3 := I4.out.at_ 3
        have x4 := I4.out.at_ 4
        simp at x0 x1 x2 x3 x4
        have R := read_any b t.kind t.n (mk t.text) T N t.texts.length cT t.nums.length cN _ w4 H4.out RL.out HS.out.1.1 HS.out.1.2.1
        rw [CF.out] at R
        have RR := Lib.hid R
        clear R
        go_wp2_with fail
        refine (RR.out).mono ?_
        rintro e w5 ⟨v, rfl, h5, g5⟩
        have H5 := Lib.hid h5
        have G5 := Lib.hid g5
        clear h5 g5
        have C := num_any b none w5 H5.out (by simp [rest_none])
        have CC := Lib.hid (show Calls Try.prog 23 #[.pointer (some ⟨b, 0, none⟩)] w5 fun e w' => e = .returned (.int .i64 0) ∧ Rd w' b 62 none ∧ w5.grownBy w' (some b) from C)
        clear C x0 x1 x2 x3 x4
        go_wp2_with fail
        refine (CC.out).mono ?_
        rintro e w6 ⟨rfl, h6, g6⟩
        have H6 := Lib.hid h6
        have G6 := Lib.hid g6
        clear h6 g6
        go_wp2_with fail
        refine (done_true b _ w6 H6.out).mono ?_
        rintro e w' ⟨rfl, rfl⟩
        have L := left_any b _ _ w6 H6.out
        rw [show ((mk (rest none)).size : Int) = 0 from rfl] at L
        have LL := Lib.hid L
        clear L
        go_wp2_with fail
        refine (LL.out).mono ?_
        rintro e w' ⟨rfl, rfl⟩
        go_wp2_with fail
        go_ret
        have z5 := G5.out.size
        exact ⟨rfl, below_grown (below_grown F4.out G5.out (by omega) (by omega)) G6.out (by omega) (by omega)⟩
      · have d1 : decide (((encV t).length : Int) ≤ m) = true := by simp; omega
        go_wp2_with fail
        go_ret
        exact ⟨rfl, F3.out⟩
end Go.Proofs.Ytjomkfiepmeplaa
