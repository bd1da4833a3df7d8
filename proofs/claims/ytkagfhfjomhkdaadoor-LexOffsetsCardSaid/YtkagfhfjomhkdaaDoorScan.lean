/-
  Scan of lex: its contract.
-/
import Derived.Test.YtkagfhfjomhkdaaDoorToks
import Derived.Deep.Cut
import Derived.Deep.CutBlock
namespace Go.Proofs.YtkagfhfjomhkdaaDoor
open Go.RowKit L7
/-- What the scan of the rest adds to the tokens so far. -/
def more (D : List (Tk × Nat)) (r : Except (Nat × Nat) (List (Tk × Nat))) : Except (Nat × Nat) (List (Tk × Nat)) := match r with
  | .error e => .error e
  | .ok l => .ok (D ++ l)
theorem more_nil (r : Except (Nat × Nat) (List (Tk × Nat))) : more [] r = r := by cases r <;> rfl
theorem more_more (D E : List (Tk × Nat)) (r : Except (Nat × Nat) (List (Tk × Nat))) : more D (more E r) = more (D ++ E) r := by cases r <;> simp [more]
theorem skip_at (s : ByteArray) (p : Nat) (hp : p ≤ s.size) : (ls s).drop (p + spaceN ((ls s).drop p)) = skip ((ls s).drop p) ∧ p + spaceN ((ls s).drop p) ≤ s.size := by
  have h1 := skip_le ((ls s).drop p)
  have h2 : ((ls s).drop p).length = s.size - p := by rw [List.length_drop, ls_length]
  obtain ⟨q, hq, -⟩ := skip_parts ((ls s).drop p)
  have h3 : ((ls s).drop p).length = q.length + (skip ((ls s).drop p)).length := by
    conv => lhs; rw [hq]
    rw [List.length_append]
  refine ⟨?_, by unfold spaceN; omega⟩
  rw [← List.drop_drop]
  have : spaceN ((ls s).drop p) = q.length := by unfold spaceN; omega
  rw [this]
  conv => lhs; rw [hq]
  simp
theorem scan_step (s : ByteArray) (p m : Nat) (D : List (Tk × Nat)) (t : Tk) (r u : Bs) (hu : u = skip ((ls s).drop p)) (hd : (ls s).drop (p + m) = u) (ht : L7.tok u = .ok (t, r)) :
    more D (scan ((ls s).drop p)) = more (D ++ [(t, s.size - (p + m))]) (scan ((ls s).drop (p + m + (u.length - r.length)))) ∧ r.length < u.length ∧ u.length = s.size - (p + m) := by
  have hlt := tok_lt ht
  have hul : u.length = s.size - (p + m) := by rw [← hd, List.length_drop, ls_length]
  obtain ⟨x, hx, hs, -⟩ := tok_local ht
  have hr : (ls s).drop (p + m + (u.length - r.length)) = r := by
    rw [← List.drop_drop, hd]
    have : u.length - r.length = x.length := by
      have : u.length = x.length + r.length := by conv => lhs; rw [hs]
                                                  rw [List.length_append]
      omega
    rw [this, hs]; simp
  refine ⟨?_, hlt, hul⟩
  rw [hr, hu] at *
  rw [scan_ok ht, ← hul]
  cases scan r <;> simp [more]
/-- Where a slice of the call's own begins: at the head of a block. -/
def Head (A : Option Addr) : Prop := A = none ∨ ∃ g, A = some ⟨g, 0, none⟩
theorem head_none : Head none := .inl rfl
theorem head_own {w : World} {base e size n c m : Nat} {A : Option Addr} {xs : List Value} (h : w.ownsRow base e size (.slice A n c) m xs) : Head A := by
  rcases h.2 with ⟨h, _⟩ | ⟨g, cap, cur, h, _⟩
  · cases h; exact .inl rfl
  · cases h; exact .inr ⟨g, rfl⟩
theorem cap_own {w : World} {base e size n c : Nat} {A : Option Addr} {xs : List Value} (h : w.ownsRow base e size (.slice A n c) n xs) : n ≤ c := by
  rcases h.2 with ⟨h, h2⟩ | ⟨g, cap, cur, h, _, _, h3, _⟩
  · omega
  · cases h; exact h3
theorem scan_ret_ok {R : Except (Nat × Nat) (List (Tk × Nat))} {D : List (Tk × Nat)} {n c : Nat} {A : Option Addr} (h : R = .ok D) : Ending.returned (.tuple #[.slice A D.length c, .int .i64 0, .int .i64 0]) = .returned (scanV R n A c) := by rw [h]; rfl
theorem scan_ret_err {R : Except (Nat × Nat) (List (Tk × Nat))} {n e k p : Nat} (h : R = .error (e, k)) (hp : n - k = p) : Ending.returned (.tuple #[.slice none 0 0, .int .i64 (e : Int), .int .i64 (p : Int)]) = .returned (scanV R n none 0) := by rw [h, ← hp]; rfl
theorem toks_none (w : World) (top : Nat) {R : Except (Nat × Nat) (List (Tk × Nat))} {n : Nat} {e : Nat × Nat} (h : R = .error e) : ToksIn w top none (offs n (okL R)) := by
  rw [h]; intro k x hk; simp [okL, offs] at hk
theorem offs_snoc (n : Nat) (D : List (Tk × Nat)) (t : Tk) (p : Nat) (hp : p ≤ n) : offs n (D ++ [(t, n - p)]) = offs n D ++ [(t, (p : Int))] := by
  simp [offs]; omega
/-- What an error of the next token makes of the whole. -/
theorem scan_fail {s : ByteArray} {p : Nat} {D : List (Tk × Nat)} {u : Bs} {e : Nat} (hu : u = skip ((ls s).drop p)) (hn : u ≠ []) (ht : L7.tok u = .error e) : more D (scan ((ls s).drop p)) = .error (e, u.length) := by
  rw [hu] at *
  rw [scan_err hn ht]; rfl
theorem own_cast {w : World} {base n n' size : Nat} {e : TypeId} {v : Value} {xs xs' : List Value} (h : w.ownsRow base e size v n xs) (hn : n = n') (hx : xs = xs') : w.ownsRow base e size v n' xs' := by subst hn; subst hx; exact h
theorem own_next {w : World} {base n c : Nat} {A : Option Addr} {D : List (Tk × Nat)} {t : Tk} {p : Nat} {xs : List Value} (hp : p ≤ n) (h : w.ownsRow base 32 4 (.slice A (D.length + 1) c) (D.length + 1) (flatT (offs n D) ++ xs)) (hx : xs = cells4 (t, (p : Int))) :
    w.ownsRow base 32 4 (.slice A (D ++ [(t, n - p)]).length c) (D ++ [(t, n - p)]).length (flatT (offs n (D ++ [(t, n - p)]))) := by
  rw [offs_snoc _ _ _ _ hp, flatT_snoc, ← hx, List.length_append]; exact h
theorem tok_err {u : Bs} {e : Nat} (h : L7.tok u = .error e) : ((e : Int) != 0) = true := by
  have : e ≠ 0 := by
    rintro rfl
    cases u with
    | nil => simp [L7.tok] at h
    | cons b r =>
      simp only [L7.tok] at h
      split at h
      · cases h
      · split at h
        · unfold tokInt at h; split at h
          · cases h
          · split at h <;> cases h
        · split at h
          · unfold tokLit at h; split at h
            · cases h
            · split at h <;> cases h
          · cases r with
            | nil => simp only [tokMark] at h; split at h <;> cases h
            | cons c r =>
              simp only [tokMark] at h
              split at h
              · cases h
              · split at h <;> cases h
  simpa using this
set_option maxRecDepth 20000 in
set_option maxHeartbeats 4000000 in
theorem scan_any (s : ByteArray) (w : World) (hw : Lies w) (hs : s.size ≤ 32768) :
    Calls Tryd.prog 9 #[.string s] w fun e w' => (∃ A c, e = .returned (scanV (scan (ls s)) s.size A c) ∧ ToksIn w' w'.heap.size A (offs s.size (okL (scan (ls s)))) ∧ Head A ∧ (okL (scan (ls s))).length ≤ c) ∧ Below w.heap.size w w' := by
  obtain ⟨i0, hi, hz0, hz1, hz2⟩ := info_parts info32
  have HI := Lib.hid hi
  have HZ0 := Lib.hid hz0
  have HZ1 := Lib.hid hz1
  have HZ2 := Lib.hid hz2
  have HW := Lib.hid hw
  clear hi hz0 hz1 hz2 hw
  have g0 : decide ((32768 : Int) < (s.size : Int)) = false := by simp; omega
  obtain ⟨R, hR⟩ : ∃ R, R = scan (ls s) := ⟨_, rfl⟩
  rw [← hR]
  have HR : Hid (R = more [] (scan ((ls s).drop 0))) := Lib.hid (by rw [hR, more_nil]; rfl)
  clear hR
  go_enter Tryd.func9, Tryd.ntmps9
  go_wp2
  go_step3
  go_wp2
  go_step3
  go_wp2
  go_loopw [5, 6] (fun v5 v6 wr => ∃ (p : Nat) (D : List (Tk × Nat)) (A : Option Addr) (c : Nat), p ≤ s.size ∧ D.length ≤ p ∧ v6 = .int .i64 p ∧ v5 = .slice A D.length c ∧ Hid (R = more D (scan ((ls s).drop p))) ∧
    Hid (wr.ownsRow w.heap.size 32 4 (.slice A D.length c) D.length (flatT (offs s.size D))) ∧ Hid (Below w.heap.size w wr)) (fun _ v6 _ => s.size - (intOf v6).toNat)
  case atStart => exact ⟨0, [], none, 0, Nat.zero_le _, Nat.le_refl _, rfl, rfl, HR, Lib.hid (World.ownsRow_nil _ _ _ _), Lib.hid (Below.refl _ _)⟩
  case round =>
    clear HR
    obtain ⟨p, D, A, c, hp, hD, rfl, rfl, HR, HO, HB⟩ := hrel
    obtain ⟨hdrop, hpm⟩ := skip_at s p hp
    have hsz := HB.out.size
    have SP : Hid (∀ W, Calls Tryd.prog 16 #[.string (s.extract p s.size)] W fun e w' => e = .returned (.int .i64 (spaceN ((ls s).drop p) : Nat)) ∧ W = w') := Lib.hid (fun W => by
      have := spaceSize_any (s.extract p s.size) W (by rw [extract_drop, size_drop]; omega)
      rw [extract_drop, ls_mk] at this
      rw [extract_drop]
      exact this)
    obtain ⟨m, hm⟩ : ∃ m, m = spaceN ((ls s).drop p) := ⟨_, rfl⟩
    rw [← hm] at SP hdrop hpm
    clear hm
    obtain ⟨u, hu⟩ : ∃ u, u = skip ((ls s).drop p) := ⟨_, rfl⟩
    rw [← hu] at hdrop
    have hx0 : s.extract (p + m) s.size = mk u := by rw [extract_drop, hdrop]
    obtain ⟨x, hx⟩ : ∃ x, x = mk u := ⟨_, rfl⟩
    rw [← hx] at hx0
    have hxs : x.size = u.length := by rw [hx, size_mk]
    have hlx : ls x = u := by rw [hx, ls_mk]
    have hul : u.length = s.size - (p + m) := by rw [← hdrop, List.length_drop, ls_length]
    have hxsz : x.size ≤ 32768 := by omega
    by_cases hn : u = []
    · have he : x.toList.isEmpty = true := by rw [show x.toList = ls x by rw [ByteArray.toList_eq]; rfl, hlx, hn]; rfl
      have HR2 : Hid (R = .ok D) := Lib.hid (by rw [HR.out, scan_nil (by rw [← hu, hn])]; simp [more])
      have hxl := Lib.hid hlx
      have hxl2 := Lib.hid hxs
      have hxl3 := Lib.hid hul
      clear hlx hxs hul hn hdrop hu hx HR
      go_wp2_with (go_at_call 16; (with_reducible refine (SP.out _).mono ?_); rintro e w' ⟨rfl, rfl⟩)
      (try rw [Exit.noGoto_ret])
      go_ret3
      exact ⟨⟨A, c, scan_ret_ok HR2.out, by rw [HR2.out]; exact ToksIn.of_own (HO.out.alloc _), head_own HO.out, by rw [HR2.out]; exact cap_own HO.out⟩, HB.out.alloc hsz _⟩
    · obtain ⟨b, r, hbr⟩ : ∃ b r, u = b :: r := by
        cases u with
        | nil => exact absurd rfl hn
        | cons b r => exact ⟨b, r, rfl⟩
      have he : x.toList.isEmpty = false := by rw [show x.toList = ls x by rw [ByteArray.toList_eq]; rfl, hlx, hbr]; rfl
      have h0 : 1 ≤ x.size := by rw [hxs, hbr]; simp
      have hxb : x[0] = b := by
        have := drop_at x 0 h0
        rw [hlx, hbr] at this
        simpa using this.symm
      have IL : Hid (∀ W, Calls Tryd.prog 17 #[.int .u8 (x[0].toNat : Int)] W fun e w' => e = .returned (.bool (isAl b)) ∧ W = w') := Lib.hid (fun W => by rw [hxb]; exact isLetter_any b W)
      have ID : Hid (∀ W, Calls Tryd.prog 19 #[.int .u8 (x[0].toNat : Int)] W fun e w' => e = .returned (.bool (isDg b)) ∧ W = w') := Lib.hid (fun W => by rw [hxb]; exact isDigit_any b W)
      have hq : ((x[0].toNat : Int) == 34) = (b == 34) := by rw [hxb]; exact (eq_nat 34 b (by decide)).symm
      have hLw : Lies (wr.alloc (.cells #[.int .i64 0, .string ⟨#[]⟩, .int .i64 0, .int .i64 0] 32)) := (HW.out.on HB.out).on ((Below.refl _ _).alloc (Nat.le_refl _) _)
      have hlx2 : ls x = b :: r := by rw [hlx, hbr]
      cases ha : isAl b with
      | true =>
        rw [ha] at IL
        have ht := tok_name b r ha
        have C0 := cutName_any x (wr.alloc (.cells #[.int .i64 0, .string ⟨#[]⟩, .int .i64 0, .int .i64 0] 32)) (by omega)
        rw [hlx2, ← hbr] at C0
        rw [← hbr] at ht
        obtain ⟨hstep, hlt, -⟩ := scan_step s p m D _ _ u hu hdrop ht
        have HR2 : Hid (R = more (D ++ [(⟨1, u.takeWhile isNm, 0⟩, s.size - (p + m))]) (scan ((ls s).drop (p + m + (u.length - (u.dropWhile isNm).length))))) := Lib.hid (by rw [HR.out, hstep])
        have hadd := tw_add isNm u
        rw [show u.length - (u.dropWhile isNm).length = (u.takeWhile isNm).length by omega] at HR2
        obtain ⟨z, hz⟩ : ∃ z, z = (u.takeWhile isNm).length := ⟨_, rfl⟩
        obtain ⟨tt, htt⟩ : ∃ tt, tt = u.takeWhile isNm := ⟨_, rfl⟩
        rw [← hz, ← htt] at HR2
        rw [← hz, ← htt] at C0
        have hz1 : 1 ≤ z := by omega
        have hz2 : p + m + z ≤ s.size := by omega
        have C : Hid (Calls Tryd.prog 18 #[.string x] (wr.alloc (.cells #[.int .i64 0, .string ⟨#[]⟩, .int .i64 0, .int .i64 0] 32)) fun e w' => e = .returned (.tuple #[.agg #[.int .i64 1, .string (mk tt), .int .i64 0, .int .i64 0], .int .i64 (z : Nat)]) ∧ Below (wr.alloc (.cells #[.int .i64 0, .string ⟨#[]⟩, .int .i64 0, .int .i64 0] 32)).heap.size (wr.alloc (.cells #[.int .i64 0, .string ⟨#[]⟩, .int .i64 0, .int .i64 0] 32)) w') := Lib.hid C0
        clear C0 hz htt hstep hlt hadd ht hq hlx2 hxb hbr hlx hxs hul hn hu hdrop hx HR hLw ha ID
        go_wp2_with (first
            | (go_at_call 16; (with_reducible refine (SP.out _).mono ?_); rintro e w' ⟨rfl, rfl⟩)
            | (go_at_call 17; (with_reducible refine (IL.out _).mono ?_); rintro e w' ⟨rfl, rfl⟩)
            | (go_at_call 19; (with_reducible refine (ID.out _).mono ?_); rintro e w' ⟨rfl, rfl⟩))
        refine (C.out).mono ?_
        rintro e w2 ⟨rfl, hb2⟩
        have J2 : Is w2 wr.heap.size 32 #[.int .i64 0, .string ⟨#[]⟩, .int .i64 0, .int .i64 0] := (Is.fresh wr 32 _).below hb2 (by simp)
        have y0 := J2.at_ 0
        have y1 := J2.at_ 1
        have y2 := J2.at_ 2
        have y3 := J2.at_ 3
        have fy0 := J2.open_ 0
        have fy1 := J2.open_ 1
        have fy2 := J2.open_ 2
        have fy3 := J2.open_ 3
        have hzl := J2.lt
        simp at y0 y1 y2 y3
        have B2 := Lib.hid (((Below.refl wr.heap.size wr).alloc (Nat.le_refl _) _).trans (hb2.mono (by simp)))
        clear hb2
        go_upto_region 18 with (fail)
        have B3 := Lib.hid ((((B2.out.setCell (p := ⟨wr.heap.size, 0, none⟩) (by simp) (.int .i64 1)).setCell (p := ⟨wr.heap.size, 1, none⟩) (by simp) (.string (mk tt))).setCell (p := ⟨wr.heap.size, 2, none⟩) (by simp) (.int .i64 0)).setCell (p := ⟨wr.heap.size, 3, none⟩) (by simp) (.int .i64 0))
        have K3 : Hid (Is _ wr.heap.size 32 #[.int .i64 1, .string (mk tt), .int .i64 0, .int .i64 0]) := Lib.hid ((((J2.put 0 (.int .i64 1)).put 1 (.string (mk tt))).put 2 (.int .i64 0)).put 3 (.int .i64 0))
        generalize World.setCell _ ⟨wr.heap.size, 3, none⟩ _ = W3 at B3 K3 ⊢
        have q3 := K3.out.at_ 3
        have f3 := K3.out.open_ 3
        have h3 := K3.out.lt
        simp at q3
        clear y0 y1 y2 y3 fy0 fy1 fy2 fy3 hzl J2 B2
        go_upto_region 21 with (fail)
        have B4 := Lib.hid (B3.out.setCell (p := ⟨wr.heap.size, 3, none⟩) (by simp) (.int .i64 ((p : Int) + (m : Int))))
        have K4 : Hid (Is _ wr.heap.size 32 #[.int .i64 1, .string (mk tt), .int .i64 0, .int .i64 ((p : Int) + (m : Int))]) := Lib.hid (K3.out.put 3 (.int .i64 ((p : Int) + (m : Int))))
        generalize World.setCell _ ⟨wr.heap.size, 3, none⟩ _ = W4 at B4 K4 ⊢
        have y0 := K4.out.at_ 0
        have y1 := K4.out.at_ 1
        have y2 := K4.out.at_ 2
        have y3 := K4.out.at_ 3
        have h4 := K4.out.lt
        simp at y0 y1 y2 y3
        clear q3 f3 h3 B3 K3
        have HB5 := Lib.hid ((own_below HO.out B4.out).alloc (.cells #[.int .i64 1, .string (mk tt), .int .i64 0, .int .i64 ((p : Int) + (m : Int))] 32))
        have HN := Lib.hid (World.news_of_block (cs := #[.int .i64 1, .string (mk tt), .int .i64 0, .int .i64 ((p : Int) + (m : Int))]) (t := 32) (fr := (0, 0)) (heap_alloc_new W4 _))
        have hsz4 : w.heap.size ≤ W4.heap.size := by omega
        go_wp2_with (at_builtin; refine wpList_append_own _ rfl (.tmp 67) (.tmp 69) 22 rfl w.heap.size 32 i0 _ 4 40 Tryd.underlying22 HI.out HZ0.out HZ1.out HZ2.out rfl (by decide) (.slice A D.length c) D.length (flatT (offs s.size D)) rfl HB5.out ⟨W4.heap.size, 0, none⟩ 1 1 [.int .i64 1, .string (mk tt), .int .i64 0, .int .i64 ((p : Int) + (m : Int))] rfl rfl HN.out ?c1 ?c3 ?c4 ?c5 ?_)
        case c1 => first | exact ⟨rfl, rfl, rfl, rfl⟩ | (intro v hv; simp at hv; rcases hv with rfl | rfl | rfl | rfl <;> rfl)
        case c3 => simp only [maxLen]; omega
        case c4 => omega
        case c5 => first | omega | (simp; omega)
        intro v6 w6 hown6 hgr6 _
        obtain ⟨g6, cap6, rfl, -⟩ := hown6.form (by omega)
        have B6 := Lib.hid (((HB.out.trans (B4.out.mono hsz)).alloc hsz4 (.cells #[.int .i64 1, .string (mk tt), .int .i64 0, .int .i64 ((p : Int) + (m : Int))] 32)).grown hgr6 (by simp; omega) (fun j hj => (HO.out.lt j hj).1))
        have O6 := Lib.hid hown6
        clear hown6 hgr6 HB5 HN y0 y1 y2 y3 h4 B4 K4
        go_wp2
        go_roundw
        case rel => exact ⟨p + m + z, D ++ [(⟨1, tt, 0⟩, s.size - (p + m))], some ⟨g6, 0, none⟩, cap6, by omega, by simp; omega, by go_num, by rw [List.length_append]; rfl, HR2, Lib.hid (own_next hpm O6.out rfl), B6⟩
        case measure => simp [intOf]; omega
      | false =>
        rw [ha] at IL
        cases hd : isDg b with
        | true =>
          rw [hd] at ID
          have C0 := cutInt_any x b r hlx2 hd (wr.alloc (.cells #[.int .i64 0, .string ⟨#[]⟩, .int .i64 0, .int .i64 0] 32)) hLw (by omega)
          rw [← tok_dig b r ha hd, ← hbr] at C0
          cases ht : L7.tok u with
          | ok y =>
            obtain ⟨⟨tk, tt, tn⟩, r2⟩ := y
            rw [ht] at C0
            obtain ⟨hstep, hlt, -⟩ := scan_step s p m D _ _ u hu hdrop ht
            have HR2 : Hid (R = more (D ++ [(⟨tk, tt, tn⟩, s.size - (p + m))]) (scan ((ls s).drop (p + m + (u.length - r2.length))))) := Lib.hid (by rw [HR.out, hstep])
            rw [show x.size = u.length from hxs] at C0
            obtain ⟨z, hz⟩ : ∃ z, z = u.length - r2.length := ⟨_, rfl⟩
            rw [← hz] at HR2
            have C : Hid (Calls Tryd.prog 20 #[.string x] (wr.alloc (.cells #[.int .i64 0, .string ⟨#[]⟩, .int .i64 0, .int .i64 0] 32)) fun e w' => e = .returned (.tuple #[.agg #[.int .i64 tk, .string (mk tt), .int .i64 tn, .int .i64 0], .int .i64 (z : Nat), .int .i64 0]) ∧ Below (wr.alloc (.cells #[.int .i64 0, .string ⟨#[]⟩, .int .i64 0, .int .i64 0] 32)).heap.size (wr.alloc (.cells #[.int .i64 0, .string ⟨#[]⟩, .int .i64 0, .int .i64 0] 32)) w') := Lib.hid (by rw [hz]; exact C0)
            have hz1 : 1 ≤ z := by omega
            have hz2 : p + m + z ≤ s.size := by omega
            clear C0 hz hstep hlt ht hq hlx2 hxb hbr hlx hxs hul hn hu hdrop hx HR hLw ha hd
            go_wp2_with (first
            | (go_at_call 16; (with_reducible refine (SP.out _).mono ?_); rintro e w' ⟨rfl, rfl⟩)
            | (go_at_call 17; (with_reducible refine (IL.out _).mono ?_); rintro e w' ⟨rfl, rfl⟩)
            | (go_at_call 19; (with_reducible refine (ID.out _).mono ?_); rintro e w' ⟨rfl, rfl⟩))
            refine (C.out).mono ?_
            rintro e w2 ⟨rfl, hb2⟩
            have J2 : Is w2 wr.heap.size 32 #[.int .i64 0, .string ⟨#[]⟩, .int .i64 0, .int .i64 0] := (Is.fresh wr 32 _).below hb2 (by simp)
            have y0 := J2.at_ 0
            have y1 := J2.at_ 1
            have y2 := J2.at_ 2
            have y3 := J2.at_ 3
            have fy0 := J2.open_ 0
            have fy1 := J2.open_ 1
            have fy2 := J2.open_ 2
            have fy3 := J2.open_ 3
            have hzl := J2.lt
            simp at y0 y1 y2 y3
            have B2 := Lib.hid (((Below.refl wr.heap.size wr).alloc (Nat.le_refl _) _).trans (hb2.mono (by simp)))
            clear hb2
            go_upto_region 18 with (fail)
            have B3 := Lib.hid ((((B2.out.setCell (p := ⟨wr.heap.size, 0, none⟩) (by simp) (.int .i64 tk)).setCell (p := ⟨wr.heap.size, 1, none⟩) (by simp) (.string (mk tt))).setCell (p := ⟨wr.heap.size, 2, none⟩) (by simp) (.int .i64 tn)).setCell (p := ⟨wr.heap.size, 3, none⟩) (by simp) (.int .i64 0))
            have K3 : Hid (Is _ wr.heap.size 32 #[.int .i64 tk, .string (mk tt), .int .i64 tn, .int .i64 0]) := Lib.hid ((((J2.put 0 (.int .i64 tk)).put 1 (.string (mk tt))).put 2 (.int .i64 tn)).put 3 (.int .i64 0))
            generalize World.setCell _ ⟨wr.heap.size, 3, none⟩ _ = W3 at B3 K3 ⊢
            have q3 := K3.out.at_ 3
            have f3 := K3.out.open_ 3
            have h3 := K3.out.lt
            simp at q3
            clear y0 y1 y2 y3 fy0 fy1 fy2 fy3 hzl J2 B2
            go_upto_region 21 with (fail)
            have B4 := Lib.hid (B3.out.setCell (p := ⟨wr.heap.size, 3, none⟩) (by simp) (.int .i64 ((p : Int) + (m : Int))))
            have K4 : Hid (Is _ wr.heap.size 32 #[.int .i64 tk, .string (mk tt), .int .i64 tn, .int .i64 ((p : Int) + (m : Int))]) := Lib.hid (K3.out.put 3 (.int .i64 ((p : Int) + (m : Int))))
            generalize World.setCell _ ⟨wr.heap.size, 3, none⟩ _ = W4 at B4 K4 ⊢
            have y0 := K4.out.at_ 0
            have y1 := K4.out.at_ 1
            have y2 := K4.out.at_ 2
            have y3 := K4.out.at_ 3
            have h4 := K4.out.lt
            simp at y0 y1 y2 y3
            clear q3 f3 h3 B3 K3
            have HB5 := Lib.hid ((own_below HO.out B4.out).alloc (.cells #[.int .i64 tk, .string (mk tt), .int .i64 tn, .int .i64 ((p : Int) + (m : Int))] 32))
            have HN := Lib.hid (World.news_of_block (cs := #[.int .i64 tk, .string (mk tt), .int .i64 tn, .int .i64 ((p : Int) + (m : Int))]) (t := 32) (fr := (0, 0)) (heap_alloc_new W4 _))
            have hsz4 : w.heap.size ≤ W4.heap.size := by omega
            go_wp2_with (at_builtin; refine wpList_append_own _ rfl (.tmp 67) (.tmp 69) 22 rfl w.heap.size 32 i0 _ 4 40 Tryd.underlying22 HI.out HZ0.out HZ1.out HZ2.out rfl (by decide) (.slice A D.length c) D.length (flatT (offs s.size D)) rfl HB5.out ⟨W4.heap.size, 0, none⟩ 1 1 [.int .i64 tk, .string (mk tt), .int .i64 tn, .int .i64 ((p : Int) + (m : Int))] rfl rfl HN.out ?c1 ?c3 ?c4 ?c5 ?_)
            case c1 => first | exact ⟨rfl, rfl, rfl, rfl⟩ | (intro v hv; simp at hv; rcases hv with rfl | rfl | rfl | rfl <;> rfl)
            case c3 => simp only [maxLen]; omega
            case c4 => omega
            case c5 => first | omega | (simp; omega)
            intro v6 w6 hown6 hgr6 _
            obtain ⟨g6, cap6, rfl, -⟩ := hown6.form (by omega)
            have B6 := Lib.hid (((HB.out.trans (B4.out.mono hsz)).alloc hsz4 (.cells #[.int .i64 tk, .string (mk tt), .int .i64 tn, .int .i64 ((p : Int) + (m : Int))] 32)).grown hgr6 (by simp; omega) (fun j hj => (HO.out.lt j hj).1))
            have O6 := Lib.hid hown6
            clear hown6 hgr6 HB5 HN y0 y1 y2 y3 h4 B4 K4
            go_wp2
            go_roundw
            case rel => exact ⟨p + m + z, D ++ [(⟨tk, tt, tn⟩, s.size - (p + m))], some ⟨g6, 0, none⟩, cap6, by omega, by simp; omega, by go_num, by rw [List.length_append]; rfl, HR2, Lib.hid (own_next hpm O6.out rfl), B6⟩
            case measure => simp [intOf]; omega
          | error er =>
            rw [ht] at C0
            have hne : ((er : Int) != 0) = true := tok_err ht
            have HR2 : Hid (R = .error (er, u.length)) := Lib.hid (by rw [HR.out]; exact scan_fail hu hn ht)
            have HP : Hid (s.size - u.length = p + m) := Lib.hid (by omega)
            have C : Hid (Calls Tryd.prog 20 #[.string x] (wr.alloc (.cells #[.int .i64 0, .string ⟨#[]⟩, .int .i64 0, .int .i64 0] 32)) fun e w' => e = .returned (.tuple #[.agg #[.int .i64 0, .string ⟨#[]⟩, .int .i64 0, .int .i64 0], .int .i64 0, .int .i64 (er : Nat)]) ∧ Below (wr.alloc (.cells #[.int .i64 0, .string ⟨#[]⟩, .int .i64 0, .int .i64 0] 32)).heap.size (wr.alloc (.cells #[.int .i64 0, .string ⟨#[]⟩, .int .i64 0, .int .i64 0] 32)) w') := Lib.hid C0
            clear C0 ht hq hlx2 hxb hbr hlx hxs hul hn hu hdrop hx HR hLw ha hd
            go_wp2_with (first
            | (go_at_call 16; (with_reducible refine (SP.out _).mono ?_); rintro e w' ⟨rfl, rfl⟩)
            | (go_at_call 17; (with_reducible refine (IL.out _).mono ?_); rintro e w' ⟨rfl, rfl⟩)
            | (go_at_call 19; (with_reducible refine (ID.out _).mono ?_); rintro e w' ⟨rfl, rfl⟩))
            refine (C.out).mono ?_
            rintro e w2 ⟨rfl, hb2⟩
            have J2 : Is w2 wr.heap.size 32 #[.int .i64 0, .string ⟨#[]⟩, .int .i64 0, .int .i64 0] := (Is.fresh wr 32 _).below hb2 (by simp)
            have y0 := J2.at_ 0
            have y1 := J2.at_ 1
            have y2 := J2.at_ 2
            have y3 := J2.at_ 3
            have fy0 := J2.open_ 0
            have fy1 := J2.open_ 1
            have fy2 := J2.open_ 2
            have fy3 := J2.open_ 3
            have hzl := J2.lt
            simp at y0 y1 y2 y3
            have B2 := Lib.hid (((Below.refl wr.heap.size wr).alloc (Nat.le_refl _) _).trans (hb2.mono (by simp)))
            clear hb2
            go_upto_region 18 with (fail)
            have B3 := Lib.hid ((((B2.out.setCell (p := ⟨wr.heap.size, 0, none⟩) (by simp) (.int .i64 0)).setCell (p := ⟨wr.heap.size, 1, none⟩) (by simp) (.string ⟨#[]⟩)).setCell (p := ⟨wr.heap.size, 2, none⟩) (by simp) (.int .i64 0)).setCell (p := ⟨wr.heap.size, 3, none⟩) (by simp) (.int .i64 0))
            have K3 : Hid (Is _ wr.heap.size 32 #[.int .i64 0, .string ⟨#[]⟩, .int .i64 0, .int .i64 0]) := Lib.hid ((((J2.put 0 (.int .i64 0)).put 1 (.string ⟨#[]⟩)).put 2 (.int .i64 0)).put 3 (.int .i64 0))
            generalize World.setCell _ ⟨wr.heap.size, 3, none⟩ _ = W3 at B3 K3 ⊢
            have q3 := K3.out.at_ 3
            have f3 := K3.out.open_ 3
            have h3 := K3.out.lt
            simp at q3
            clear y0 y1 y2 y3 fy0 fy1 fy2 fy3 hzl J2 B2
            have B4 := Lib.hid (HB.out.trans (B3.out.mono hsz))
            clear q3 f3 h3 B3 K3
            go_wp2
            (try rw [Exit.noGoto_ret])
            go_ret3
            exact ⟨⟨none, 0, scan_ret_err HR2.out HP.out, toks_none _ _ HR2.out, head_none, by rw [HR2.out]; exact Nat.le_refl 0⟩, B4.out⟩
        | false =>
          rw [hd] at ID
          by_cases h34 : b = 34
          · have hq1 : ((x[0].toNat : Int) == 34) = true := by rw [hq, h34]; rfl
            subst h34
            have C0 := cutText_any x r hlx2 (wr.alloc (.cells #[.int .i64 0, .string ⟨#[]⟩, .int .i64 0, .int .i64 0] 32)) (by omega)
            rw [← tok_str r, ← hbr] at C0
            cases ht : L7.tok u with
            | ok y =>
              obtain ⟨⟨tk, tt, tn⟩, r2⟩ := y
              rw [ht] at C0
              obtain ⟨hstep, hlt, -⟩ := scan_step s p m D _ _ u hu hdrop ht
              have HR2 : Hid (R = more (D ++ [(⟨tk, tt, tn⟩, s.size - (p + m))]) (scan ((ls s).drop (p + m + (u.length - r2.length))))) := Lib.hid (by rw [HR.out, hstep])
              rw [show x.size = u.length from hxs] at C0
              obtain ⟨z, hz⟩ : ∃ z, z = u.length - r2.length := ⟨_, rfl⟩
              rw [← hz] at HR2
              have C : Hid (Calls Tryd.prog 21 #[.string x] (wr.alloc (.cells #[.int .i64 0, .string ⟨#[]⟩, .int .i64 0, .int .i64 0] 32)) fun e w' => e = .returned (.tuple #[.agg #[.int .i64 tk, .string (mk tt), .int .i64 tn, .int .i64 0], .int .i64 (z : Nat), .int .i64 0]) ∧ Below (wr.alloc (.cells #[.int .i64 0, .string ⟨#[]⟩, .int .i64 0, .int .i64 0] 32)).heap.size (wr.alloc (.cells #[.int .i64 0, .string ⟨#[]⟩, .int .i64 0, .int .i64 0] 32)) w') := Lib.hid (by rw [hz]; exact C0)
              have hz1 : 1 ≤ z := by omega
              have hz2 : p + m + z ≤ s.size := by omega
              clear C0 hz hstep hlt ht hq hlx2 hxb hbr hlx hxs hul hn hu hdrop hx HR hLw ha hd
              go_wp2_with (first
            | (go_at_call 16; (with_reducible refine (SP.out _).mono ?_); rintro e w' ⟨rfl, rfl⟩)
            | (go_at_call 17; (with_reducible refine (IL.out _).mono ?_); rintro e w' ⟨rfl, rfl⟩)
            | (go_at_call 19; (with_reducible refine (ID.out _).mono ?_); rintro e w' ⟨rfl, rfl⟩))
              refine (C.out).mono ?_
              rintro e w2 ⟨rfl, hb2⟩
              have J2 : Is w2 wr.heap.size 32 #[.int .i64 0, .string ⟨#[]⟩, .int .i64 0, .int .i64 0] := (Is.fresh wr 32 _).below hb2 (by simp)
              have y0 := J2.at_ 0
              have y1 := J2.at_ 1
              have y2 := J2.at_ 2
              have y3 := J2.at_ 3
              have fy0 := J2.open_ 0
              have fy1 := J2.open_ 1
              have fy2 := J2.open_ 2
              have fy3 := J2.open_ 3
              have hzl := J2.lt
              simp at y0 y1 y2 y3
              have B2 := Lib.hid (((Below.refl wr.heap.size wr).alloc (Nat.le_refl _) _).trans (hb2.mono (by simp)))
              clear hb2
              go_upto_region 18 with (fail)
              have B3 := Lib.hid ((((B2.out.setCell (p := ⟨wr.heap.size, 0, none⟩) (by simp) (.int .i64 tk)).setCell (p := ⟨wr.heap.size, 1, none⟩) (by simp) (.string (mk tt))).setCell (p := ⟨wr.heap.size, 2, none⟩) (by simp) (.int .i64 tn)).setCell (p := ⟨wr.heap.size, 3, none⟩) (by simp) (.int .i64 0))
              have K3 : Hid (Is _ wr.heap.size 32 #[.int .i64 tk, .string (mk tt), .int .i64 tn, .int .i64 0]) := Lib.hid ((((J2.put 0 (.int .i64 tk)).put 1 (.string (mk tt))).put 2 (.int .i64 tn)).put 3 (.int .i64 0))
              generalize World.setCell _ ⟨wr.heap.size, 3, none⟩ _ = W3 at B3 K3 ⊢
              have q3 := K3.out.at_ 3
              have f3 := K3.out.open_ 3
              have h3 := K3.out.lt
              simp at q3
              clear y0 y1 y2 y3 fy0 fy1 fy2 fy3 hzl J2 B2
              go_upto_region 21 with (fail)
              have B4 := Lib.hid (B3.out.setCell (p := ⟨wr.heap.size, 3, none⟩) (by simp) (.int .i64 ((p : Int) + (m : Int))))
              have K4 : Hid (Is _ wr.heap.size 32 #[.int .i64 tk, .string (mk tt), .int .i64 tn, .int .i64 ((p : Int) + (m : Int))]) := Lib.hid (K3.out.put 3 (.int .i64 ((p : Int) + (m : Int))))
              generalize World.setCell _ ⟨wr.heap.size, 3, none⟩ _ = W4 at B4 K4 ⊢
              have y0 := K4.out.at_ 0
              have y1 := K4.out.at_ 1
              have y2 := K4.out.at_ 2
              have y3 := K4.out.at_ 3
              have h4 := K4.out.lt
              simp at y0 y1 y2 y3
              clear q3 f3 h3 B3 K3
              have HB5 := Lib.hid ((own_below HO.out B4.out).alloc (.cells #[.int .i64 tk, .string (mk tt), .int .i64 tn, .int .i64 ((p : Int) + (m : Int))] 32))
              have HN := Lib.hid (World.news_of_block (cs := #[.int .i64 tk, .string (mk tt), .int .i64 tn, .int .i64 ((p : Int) + (m : Int))]) (t := 32) (fr := (0, 0)) (heap_alloc_new W4 _))
              have hsz4 : w.heap.size ≤ W4.heap.size := by omega
              go_wp2_with (at_builtin; refine wpList_append_own _ rfl (.tmp 67) (.tmp 69) 22 rfl w.heap.size 32 i0 _ 4 40 Tryd.underlying22 HI.out HZ0.out HZ1.out HZ2.out rfl (by decide) (.slice A D.length c) D.length (flatT (offs s.size D)) rfl HB5.out ⟨W4.heap.size, 0, none⟩ 1 1 [.int .i64 tk, .string (mk tt), .int .i64 tn, .int .i64 ((p : Int) + (m : Int))] rfl rfl HN.out ?c1 ?c3 ?c4 ?c5 ?_)
              case c1 => first | exact ⟨rfl, rfl, rfl, rfl⟩ | (intro v hv; simp at hv; rcases hv with rfl | rfl | rfl | rfl <;> rfl)
              case c3 => simp only [maxLen]; omega
              case c4 => omega
              case c5 => first | omega | (simp; omega)
              intro v6 w6 hown6 hgr6 _
              obtain ⟨g6, cap6, rfl, -⟩ := hown6.form (by omega)
              have B6 := Lib.hid (((HB.out.trans (B4.out.mono hsz)).alloc hsz4 (.cells #[.int .i64 tk, .string (mk tt), .int .i64 tn, .int .i64 ((p : Int) + (m : Int))] 32)).grown hgr6 (by simp; omega) (fun j hj => (HO.out.lt j hj).1))
              have O6 := Lib.hid hown6
              clear hown6 hgr6 HB5 HN y0 y1 y2 y3 h4 B4 K4
              go_wp2
              go_roundw
              case rel => exact ⟨p + m + z, D ++ [(⟨tk, tt, tn⟩, s.size - (p + m))], some ⟨g6, 0, none⟩, cap6, by omega, by simp; omega, by go_num, by rw [List.length_append]; rfl, HR2, Lib.hid (own_next hpm O6.out rfl), B6⟩
              case measure => simp [intOf]; omega
            | error er =>
              rw [ht] at C0
              have hne : ((er : Int) != 0) = true := tok_err ht
              have HR2 : Hid (R = .error (er, u.length)) := Lib.hid (by rw [HR.out]; exact scan_fail hu hn ht)
              have HP : Hid (s.size - u.length = p + m) := Lib.hid (by omega)
              have C : Hid (Calls Tryd.prog 21 #[.string x] (wr.alloc (.cells #[.int .i64 0, .string ⟨#[]⟩, .int .i64 0, .int .i64 0] 32)) fun e w' => e = .returned (.tuple #[.agg #[.int .i64 0, .string ⟨#[]⟩, .int .i64 0, .int .i64 0], .int .i64 0, .int .i64 (er : Nat)]) ∧ Below (wr.alloc (.cells #[.int .i64 0, .string ⟨#[]⟩, .int .i64 0, .int .i64 0] 32)).heap.size (wr.alloc (.cells #[.int .i64 0, .string ⟨#[]⟩, .int .i64 0, .int .i64 0] 32)) w') := Lib.hid C0
              clear C0 ht hq hlx2 hxb hbr hlx hxs hul hn hu hdrop hx HR hLw ha hd
              go_wp2_with (first
            | (go_at_call 16; (with_reducible refine (SP.out _).mono ?_); rintro e w' ⟨rfl, rfl⟩)
            | (go_at_call 17; (with_reducible refine (IL.out _).mono ?_); rintro e w' ⟨rfl, rfl⟩)
            | (go_at_call 19; (with_reducible refine (ID.out _).mono ?_); rintro e w' ⟨rfl, rfl⟩))
              refine (C.out).mono ?_
              rintro e w2 ⟨rfl, hb2⟩
              have J2 : Is w2 wr.heap.size 32 #[.int .i64 0, .string ⟨#[]⟩, .int .i64 0, .int .i64 0] := (Is.fresh wr 32 _).below hb2 (by simp)
              have y0 := J2.at_ 0
              have y1 := J2.at_ 1
              have y2 := J2.at_ 2
              have y3 := J2.at_ 3
              have fy0 := J2.open_ 0
              have fy1 := J2.open_ 1
              have fy2 := J2.open_ 2
              have fy3 := J2.open_ 3
              have hzl := J2.lt
              simp at y0 y1 y2 y3
              have B2 := Lib.hid (((Below.refl wr.heap.size wr).alloc (Nat.le_refl _) _).trans (hb2.mono (by simp)))
              clear hb2
              go_upto_region 18 with (fail)
              have B3 := Lib.hid ((((B2.out.setCell (p := ⟨wr.heap.size, 0, none⟩) (by simp) (.int .i64 0)).setCell (p := ⟨wr.heap.size, 1, none⟩) (by simp) (.string ⟨#[]⟩)).setCell (p := ⟨wr.heap.size, 2, none⟩) (by simp) (.int .i64 0)).setCell (p := ⟨wr.heap.size, 3, none⟩) (by simp) (.int .i64 0))
              have K3 : Hid (Is _ wr.heap.size 32 #[.int .i64 0, .string ⟨#[]⟩, .int .i64 0, .int .i64 0]) := Lib.hid ((((J2.put 0 (.int .i64 0)).put 1 (.string ⟨#[]⟩)).put 2 (.int .i64 0)).put 3 (.int .i64 0))
              generalize World.setCell _ ⟨wr.heap.size, 3, none⟩ _ = W3 at B3 K3 ⊢
              have q3 := K3.out.at_ 3
              have f3 := K3.out.open_ 3
              have h3 := K3.out.lt
              simp at q3
              clear y0 y1 y2 y3 fy0 fy1 fy2 fy3 hzl J2 B2
              have B4 := Lib.hid (HB.out.trans (B3.out.mono hsz))
              clear q3 f3 h3 B3 K3
              go_wp2
              (try rw [Exit.noGoto_ret])
              go_ret3
              exact ⟨⟨none, 0, scan_ret_err HR2.out HP.out, toks_none _ _ HR2.out, head_none, by rw [HR2.out]; exact Nat.le_refl 0⟩, B4.out⟩
          · have hq1 : ((x[0].toNat : Int) == 34) = false := by rw [hq]; simpa using h34
            have C0 := cutMark_any x b r hlx2 (wr.alloc (.cells #[.int .i64 0, .string ⟨#[]⟩, .int .i64 0, .int .i64 0] 32)) (by omega)
            rw [← tok_mark b r ha hd h34, ← hbr] at C0
            cases ht : L7.tok u with
            | ok y =>
              obtain ⟨⟨tk, tt, tn⟩, r2⟩ := y
              rw [ht] at C0
              obtain ⟨hstep, hlt, -⟩ := scan_step s p m D _ _ u hu hdrop ht
              have HR2 : Hid (R = more (D ++ [(⟨tk, tt, tn⟩, s.size - (p + m))]) (scan ((ls s).drop (p + m + (u.length - r2.length))))) := Lib.hid (by rw [HR.out, hstep])
              rw [show x.size = u.length from hxs] at C0
              obtain ⟨z, hz⟩ : ∃ z, z = u.length - r2.length := ⟨_, rfl⟩
              rw [← hz] at HR2
              have C : Hid (Calls Tryd.prog 22 #[.string x] (wr.alloc (.cells #[.int .i64 0, .string ⟨#[]⟩, .int .i64 0, .int .i64 0] 32)) fun e w' => e = .returned (.tuple #[.agg #[.int .i64 tk, .string (mk tt), .int .i64 tn, .int .i64 0], .int .i64 (z : Nat), .int .i64 0]) ∧ Below (wr.alloc (.cells #[.int .i64 0, .string ⟨#[]⟩, .int .i64 0, .int .i64 0] 32)).heap.size (wr.alloc (.cells #[.int .i64 0, .string ⟨#[]⟩, .int .i64 0, .int .i64 0] 32)) w') := Lib.hid (by rw [hz]; exact C0)
              have hz1 : 1 ≤ z := by omega
              have hz2 : p + m + z ≤ s.size := by omega
              clear C0 hz hstep hlt ht hq hlx2 hxb hbr hlx hxs hul hn hu hdrop hx HR hLw ha hd h34
              go_wp2_with (first
            | (go_at_call 16; (with_reducible refine (SP.out _).mono ?_); rintro e w' ⟨rfl, rfl⟩)
            | (go_at_call 17; (with_reducible refine (IL.out _).mono ?_); rintro e w' ⟨rfl, rfl⟩)
            | (go_at_call 19; (with_reducible refine (ID.out _).mono ?_); rintro e w' ⟨rfl, rfl⟩))
              refine (C.out).mono ?_
              rintro e w2 ⟨rfl, hb2⟩
              have J2 : Is w2 wr.heap.size 32 #[.int .i64 0, .string ⟨#[]⟩, .int .i64 0, .int .i64 0] := (Is.fresh wr 32 _).below hb2 (by simp)
              have y0 := J2.at_ 0
              have y1 := J2.at_ 1
              have y2 := J2.at_ 2
              have y3 := J2.at_ 3
              have fy0 := J2.open_ 0
              have fy1 := J2.open_ 1
              have fy2 := J2.open_ 2
              have fy3 := J2.open_ 3
              have hzl := J2.lt
              simp at y0 y1 y2 y3
              have B2 := Lib.hid (((Below.refl wr.heap.size wr).alloc (Nat.le_refl _) _).trans (hb2.mono (by simp)))
              clear hb2
              go_upto_region 18 with (fail)
              have B3 := Lib.hid ((((B2.out.setCell (p := ⟨wr.heap.size, 0, none⟩) (by simp) (.int .i64 tk)).setCell (p := ⟨wr.heap.size, 1, none⟩) (by simp) (.string (mk tt))).setCell (p := ⟨wr.heap.size, 2, none⟩) (by simp) (.int .i64 tn)).setCell (p := ⟨wr.heap.size, 3, none⟩) (by simp) (.int .i64 0))
              have K3 : Hid (Is _ wr.heap.size 32 #[.int .i64 tk, .string (mk tt), .int .i64 tn, .int .i64 0]) := Lib.hid ((((J2.put 0 (.int .i64 tk)).put 1 (.string (mk tt))).put 2 (.int .i64 tn)).put 3 (.int .i64 0))
              generalize World.setCell _ ⟨wr.heap.size, 3, none⟩ _ = W3 at B3 K3 ⊢
              have q3 := K3.out.at_ 3
              have f3 := K3.out.open_ 3
              have h3 := K3.out.lt
              simp at q3
              clear y0 y1 y2 y3 fy0 fy1 fy2 fy3 hzl J2 B2
              go_upto_region 21 with (fail)
              have B4 := Lib.hid (B3.out.setCell (p := ⟨wr.heap.size, 3, none⟩) (by simp) (.int .i64 ((p : Int) + (m : Int))))
              have K4 : Hid (Is _ wr.heap.size 32 #[.int .i64 tk, .string (mk tt), .int .i64 tn, .int .i64 ((p : Int) + (m : Int))]) := Lib.hid (K3.out.put 3 (.int .i64 ((p : Int) + (m : Int))))
              generalize World.setCell _ ⟨wr.heap.size, 3, none⟩ _ = W4 at B4 K4 ⊢
              have y0 := K4.out.at_ 0
              have y1 := K4.out.at_ 1
              have y2 := K4.out.at_ 2
              have y3 := K4.out.at_ 3
              have h4 := K4.out.lt
              simp at y0 y1 y2 y3
              clear q3 f3 h3 B3 K3
              have HB5 := Lib.hid ((own_below HO.out B4.out).alloc (.cells #[.int .i64 tk, .string (mk tt), .int .i64 tn, .int .i64 ((p : Int) + (m : Int))] 32))
              have HN := Lib.hid (World.news_of_block (cs := #[.int .i64 tk, .string (mk tt), .int .i64 tn, .int .i64 ((p : Int) + (m : Int))]) (t := 32) (fr := (0, 0)) (heap_alloc_new W4 _))
              have hsz4 : w.heap.size ≤ W4.heap.size := by omega
              go_wp2_with (at_builtin; refine wpList_append_own _ rfl (.tmp 67) (.tmp 69) 22 rfl w.heap.size 32 i0 _ 4 40 Tryd.underlying22 HI.out HZ0.out HZ1.out HZ2.out rfl (by decide) (.slice A D.length c) D.length (flatT (offs s.size D)) rfl HB5.out ⟨W4.heap.size, 0, none⟩ 1 1 [.int .i64 tk, .string (mk tt), .int .i64 tn, .int .i64 ((p : Int) + (m : Int))] rfl rfl HN.out ?c1 ?c3 ?c4 ?c5 ?_)
              case c1 => first | exact ⟨rfl, rfl, rfl, rfl⟩ | (intro v hv; simp at hv; rcases hv with rfl | rfl | rfl | rfl <;> rfl)
              case c3 => simp only [maxLen]; omega
              case c4 => omega
              case c5 => first | omega | (simp; omega)
              intro v6 w6 hown6 hgr6 _
              obtain ⟨g6, cap6, rfl, -⟩ := hown6.form (by omega)
              have B6 := Lib.hid (((HB.out.trans (B4.out.mono hsz)).alloc hsz4 (.cells #[.int .i64 tk, .string (mk tt), .int .i64 tn, .int .i64 ((p : Int) + (m : Int))] 32)).grown hgr6 (by simp; omega) (fun j hj => (HO.out.lt j hj).1))
              have O6 := Lib.hid hown6
              clear hown6 hgr6 HB5 HN y0 y1 y2 y3 h4 B4 K4
              go_wp2
              go_roundw
              case rel => exact ⟨p + m + z, D ++ [(⟨tk, tt, tn⟩, s.size - (p + m))], some ⟨g6, 0, none⟩, cap6, by omega, by simp; omega, by go_num, by rw [List.length_append]; rfl, HR2, Lib.hid (own_next hpm O6.out rfl), B6⟩
              case measure => simp [intOf]; omega
            | error er =>
              rw [ht] at C0
              have hne : ((er : Int) != 0) = true := tok_err ht
              have HR2 : Hid (R = .error (er, u.length)) := Lib.hid (by rw [HR.out]; exact scan_fail hu hn ht)
              have HP : Hid (s.size - u.length = p + m) := Lib.hid (by omega)
              have C : Hid (Calls Tryd.prog 22 #[.string x] (wr.alloc (.cells #[.int .i64 0, .string ⟨#[]⟩, .int .i64 0, .int .i64 0] 32)) fun e w' => e = .returned (.tuple #[.agg #[.int .i64 0, .string ⟨#[]⟩, .int .i64 0, .int .i64 0], .int .i64 0, .int .i64 (er : Nat)]) ∧ Below (wr.alloc (.cells #[.int .i64 0, .string ⟨#[]⟩, .int .i64 0, .int .i64 0] 32)).heap.size (wr.alloc (.cells #[.int .i64 0, .string ⟨#[]⟩, .int .i64 0, .int .i64 0] 32)) w') := Lib.hid C0
              clear C0 ht hq hlx2 hxb hbr hlx hxs hul hn hu hdrop hx HR hLw ha hd h34
              go_wp2_with (first
            | (go_at_call 16; (with_reducible refine (SP.out _).mono ?_); rintro e w' ⟨rfl, rfl⟩)
            | (go_at_call 17; (with_reducible refine (IL.out _).mono ?_); rintro e w' ⟨rfl, rfl⟩)
            | (go_at_call 19; (with_reducible refine (ID.out _).mono ?_); rintro e w' ⟨rfl, rfl⟩))
              refine (C.out).mono ?_
              rintro e w2 ⟨rfl, hb2⟩
              have J2 : Is w2 wr.heap.size 32 #[.int .i64 0, .string ⟨#[]⟩, .int .i64 0, .int .i64 0] := (Is.fresh wr 32 _).below hb2 (by simp)
              have y0 := J2.at_ 0
              have y1 := J2.at_ 1
              have y2 := J2.at_ 2
              have y3 := J2.at_ 3
              have fy0 := J2.open_ 0
              have fy1 := J2.open_ 1
              have fy2 := J2.open_ 2
              have fy3 := J2.open_ 3
              have hzl := J2.lt
              simp at y0 y1 y2 y3
              have B2 := Lib.hid (((Below.refl wr.heap.size wr).alloc (Nat.le_refl _) _).trans (hb2.mono (by simp)))
              clear hb2
              go_upto_region 18 with (fail)
              have B3 := Lib.hid ((((B2.out.setCell (p := ⟨wr.heap.size, 0, none⟩) (by simp) (.int .i64 0)).setCell (p := ⟨wr.heap.size, 1, none⟩) (by simp) (.string ⟨#[]⟩)).setCell (p := ⟨wr.heap.size, 2, none⟩) (by simp) (.int .i64 0)).setCell (p := ⟨wr.heap.size, 3, none⟩) (by simp) (.int .i64 0))
              have K3 : Hid (Is _ wr.heap.size 32 #[.int .i64 0, .string ⟨#[]⟩, .int .i64 0, .int .i64 0]) := Lib.hid ((((J2.put 0 (.int .i64 0)).put 1 (.string ⟨#[]⟩)).put 2 (.int .i64 0)).put 3 (.int .i64 0))
              generalize World.setCell _ ⟨wr.heap.size, 3, none⟩ _ = W3 at B3 K3 ⊢
              have q3 := K3.out.at_ 3
              have f3 := K3.out.open_ 3
              have h3 := K3.out.lt
              simp at q3
              clear y0 y1 y2 y3 fy0 fy1 fy2 fy3 hzl J2 B2
              have B4 := Lib.hid (HB.out.trans (B3.out.mono hsz))
              clear q3 f3 h3 B3 K3
              go_wp2
              (try rw [Exit.noGoto_ret])
              go_ret3
              exact ⟨⟨none, 0, scan_ret_err HR2.out HP.out, toks_none _ _ HR2.out, head_none, by rw [HR2.out]; exact Nat.le_refl 0⟩, B4.out⟩
end Go.Proofs.YtkagfhfjomhkdaaDoor
