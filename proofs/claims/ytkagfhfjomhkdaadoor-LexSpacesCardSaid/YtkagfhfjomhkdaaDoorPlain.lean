/-! Tokens as mathematics: what a source scans to, what a list of tokens is written as. -/
namespace Go.Proofs.YtkagfhfjomhkdaaDoor.L7
abbrev Bs := List UInt8
/-- A token without its offset: its kind (1 name, 2 integer, 3 text, 4 mark), its text, its number. -/
structure Tk where
  k : Int
  t : Bs
  n : Int
deriving DecidableEq
def isAl (b : UInt8) : Bool := (97 ≤ b && b ≤ 122) || (65 ≤ b && b ≤ 90)
def isDg (b : UInt8) : Bool := 48 ≤ b && b ≤ 57
def isNm (b : UInt8) : Bool := isAl b || isDg b || b == 95
def isWs (b : UInt8) : Bool := b == 9 || b == 10 || b == 13 || b == 32
def notLf (b : UInt8) : Bool := b != 10
theorem drop_le {p : UInt8 → Bool} (s : Bs) : (s.dropWhile p).length ≤ s.length := by
  induction s with
  | nil => simp
  | cons a s ih => simp only [List.dropWhile]; split <;> simp <;> omega
/-- Without the white space and comments at its beginning. -/
def skip : Bs → Bs
  | [] => []
  | b :: s => if isWs b then skip s else if b == 47 && s.head? == some 47 then skip (s.dropWhile notLf) else b :: s
termination_by s => s.length
decreasing_by
  · simp
  · have := drop_le (p := notLf) s; simp; omega
/-- The one-byte marks. -/
def mark1 (b : UInt8) : Bool := b == 40 || b == 41 || b == 123 || b == 125 || b == 91 || b == 93 || b == 44 || b == 46 || b == 58 || b == 59 || b == 63 || b == 95 || b == 61 || b == 43 || b == 45 || b == 42 || b == 47 || b == 37 || b == 60 || b == 62
/-- The two-byte marks. -/
def mark2 (b c : UInt8) : Bool := (b == 61 && c == 61) || (b == 33 && c == 61) || (b == 60 && c == 61) || (b == 62 && c == 61) || (b == 43 && c == 43) || (b == 61 && c == 62) || (b == 58 && c == 45)
/-- The value of digits. -/
def val (s : Bs) : Nat := s.foldl (fun a b => a * 10 + (b.toNat - 48)) 0
/-- The byte that an escape stands for. -/
def esc (c : UInt8) : Option UInt8 := if c == 110 then some 10 else if c == 116 then some 9 else if c == 34 then some 34 else if c == 92 then some 92 else none
/-- What stands behind the opening quote: the text and what follows the closing quote. -/
def lit : Bs → Option (Bs × Bs)
  | [] => none
  | [b] => if b == 34 then some ([], []) else none
  | b :: c :: s =>
    if b == 34 then some ([], c :: s)
    else if b == 10 then none
    else if b == 92 then (esc c).bind fun e => (lit s).map fun x => (e :: x.1, x.2)
    else (lit (c :: s)).map fun x => (b :: x.1, x.2)
def headNm : Bs → Bool
  | [] => false
  | c :: _ => isNm c
def tokInt (d r : Bs) : Except Nat (Tk × Bs) :=
  if (d.head? == some 48 && decide (1 < d.length)) || headNm r then .error 2 else if 9007199254740992 < val d then .error 6 else .ok (⟨2, [], val d⟩, r)
def tokLit (o : Option (Bs × Bs)) : Except Nat (Tk × Bs) :=
  match o with
  | none => .error 2
  | some (x, r) => if 4096 < x.length then .error 15 else .ok (⟨3, x, 0⟩, r)
def tokMark (b : UInt8) : Bs → Except Nat (Tk × Bs)
  | [] => if mark1 b then .ok (⟨4, [b], 0⟩, []) else .error 2
  | c :: s => if mark2 b c then .ok (⟨4, [b, c], 0⟩, s) else if mark1 b then .ok (⟨4, [b], 0⟩, c :: s) else .error 2
/-- The token at the beginning, and what follows it; or the error. -/
def tok : Bs → Except Nat (Tk × Bs)
  | [] => .error 2
  | b :: s =>
    if isAl b then .ok (⟨1, b :: s.takeWhile isNm, 0⟩, s.dropWhile isNm)
    else if isDg b then tokInt (b :: s.takeWhile isDg) (s.dropWhile isDg)
    else if b == 34 then tokLit (lit s)
    else tokMark b s
theorem lit_lt' (n : Nat) : ∀ s : Bs, s.length ≤ n → ∀ x r, lit s = some (x, r) → r.length < s.length := by
  induction n with
  | zero =>
    intro s hs x r h
    have : s = [] := List.eq_nil_of_length_eq_zero (by omega)
    subst this
    simp [lit] at h
  | succ n ih =>
    intro s hs x r h
    match s, hs, h with
    | [], _, h => simp [lit] at h
    | [b], _, h =>
      simp only [lit] at h
      split at h
      · cases h; simp
      · cases h
    | b :: c :: s, hs, h =>
      simp only [lit] at h
      simp only [List.length_cons] at hs
      split at h
      · cases h; simp
      · split at h
        · cases h
        · split at h
          · cases he : esc c with
            | none => rw [he] at h; simp at h
            | some e =>
              rw [he] at h
              cases hl : lit s with
              | none => rw [hl] at h; simp at h
              | some y =>
                rw [hl] at h
                simp at h
                have := ih s (by omega) y.1 y.2 hl
                rw [← h.2]; simp; omega
          · cases hl : lit (c :: s) with
            | none => rw [hl] at h; simp at h
            | some y =>
              rw [hl] at h
              simp at h
              have := ih (c :: s) (by simp; omega) y.1 y.2 hl
              rw [← h.2]; simp at this ⊢; omega
theorem lit_lt (s : Bs) : ∀ x r, lit s = some (x, r) → r.length < s.length := lit_lt' _ s (Nat.le_refl _)
theorem tok_lt {s : Bs} {t : Tk} {r : Bs} (h : tok s = .ok (t, r)) : r.length < s.length := by
  cases s with
  | nil => simp [tok] at h
  | cons b s =>
    simp only [tok] at h
    split at h
    · cases h; have := drop_le (p := isNm) s; simp; omega
    · split at h
      · have := drop_le (p := isDg) s
        unfold tokInt at h
        split at h
        · cases h
        · split at h
          · cases h
          · cases h; simp; omega
      · split at h
        · unfold tokLit at h
          split at h
          · cases h
          · rename_i x r' hl
            split at h
            · cases h
            · cases h; have := lit_lt _ _ _ hl; simp; omega
        · cases s with
          | nil =>
            simp only [tokMark] at h
            split at h
            · cases h; simp
            · cases h
          | cons c s =>
            simp only [tokMark] at h
            split at h
            · cases h; simp; omega
            · split at h
              · cases h; simp
              · cases h
theorem skip_le (s : Bs) : (skip s).length ≤ s.length := by
  induction s using skip.induct with
  | case1 => simp [skip]
  | case2 b s h ih => rw [skip, if_pos h]; simp; omega
  | case3 b s h h2 ih => rw [skip, if_neg h, if_pos h2]; have := drop_le (p := notLf) s; simp; omega
  | case4 b s h h2 => rw [skip, if_neg h, if_neg h2]; simp
/-- The tokens, each with how many bytes remain where it begins; or the error with the bytes that remain at it. -/
def scan (s : Bs) : Except (Nat × Nat) (List (Tk × Nat)) :=
  match _h : skip s with
  | [] => .ok []
  | b :: s' =>
    match h2 : tok (b :: s') with
    | .error e => .error (e, s'.length + 1)
    | .ok (t, r) =>
      match scan r with
      | .error e => .error e
      | .ok l => .ok ((t, s'.length + 1) :: l)
termination_by s.length
decreasing_by
  have h3 := tok_lt h2
  have h4 := skip_le s
  rw [_h] at h4
  simp at h3 h4 ⊢
  omega

theorem scan_nil {s : Bs} (h : skip s = []) : scan s = .ok [] := by
  unfold scan
  split
  · rfl
  · rename_i b s' h2; rw [h] at h2; cases h2
theorem scan_err {s : Bs} {e : Nat} (hn : skip s ≠ []) (h : tok (skip s) = .error e) : scan s = .error (e, (skip s).length) := by
  unfold scan
  split
  · rename_i h2; exact absurd h2 hn
  · rename_i b s' h2
    rw [h2] at h
    split
    · rename_i e2 h3; rw [h] at h3; cases h3; rw [h2]; rfl
    · rename_i t r h3; rw [h] at h3; cases h3
theorem scan_ok {s r : Bs} {t : Tk} (h : tok (skip s) = .ok (t, r)) : scan s = (match scan r with | .error e => .error e | .ok l => .ok ((t, (skip s).length) :: l)) := by
  conv => lhs; unfold scan
  split
  · rename_i h2; rw [h2] at h; cases h
  · rename_i b s' h2
    rw [h2] at h
    split
    · rename_i e2 h3; rw [h] at h3; cases h3
    · rename_i t2 r2 h3
      rw [h] at h3
      cases h3
      rw [h2]
      rfl
theorem skip_ws {b : UInt8} (s : Bs) (h : isWs b = true) : skip (b :: s) = skip s := by rw [skip, if_pos h]
theorem skip_note (s : Bs) : skip (47 :: 47 :: s) = skip (s.dropWhile notLf) := by
  rw [skip, if_neg (by decide), if_pos (by simp)]
  rfl
theorem skip_self {b : UInt8} {s : Bs} (h : isWs b = false) (h2 : ¬ (b = 47 ∧ s.head? = some 47)) : skip (b :: s) = b :: s := by
  rw [skip, if_neg (by simp [h]), if_neg (by simpa using h2)]
theorem skip_skip (s : Bs) : skip (skip s) = skip s := by
  induction s using skip.induct with
  | case1 => simp [skip]
  | case2 b s h ih => rw [skip_ws s h]; exact ih
  | case3 b s h h2 ih =>
    have e : skip (b :: s) = skip (s.dropWhile notLf) := by rw [skip, if_neg h, if_pos h2]
    rw [e]; exact ih
  | case4 b s h h2 =>
    have e : skip (b :: s) = b :: s := by rw [skip, if_neg h, if_neg h2]
    rw [e, e]
theorem scan_skip (s : Bs) : scan (skip s) = scan s := by
  by_cases hn : skip s = []
  · rw [scan_nil (by rw [skip_skip]; exact hn), scan_nil hn]
  · cases ht : tok (skip s) with
    | error e => rw [scan_err hn ht, scan_err (by rw [skip_skip]; exact hn) (by rw [skip_skip]; exact ht), skip_skip]
    | ok x => rw [scan_ok (t := x.1) (r := x.2) ht, scan_ok (t := x.1) (r := x.2) (by rw [skip_skip]; exact ht), skip_skip]
/-- The tokens alone. -/
def toks (s : Bs) : Option (List Tk) := match scan s with | .error _ => none | .ok l => some (l.map Prod.fst)
theorem toks_skip (s : Bs) : toks (skip s) = toks s := by unfold toks; rw [scan_skip]
theorem toks_of_skip {s s' : Bs} (h : skip s = skip s') : toks s = toks s' := by rw [← toks_skip s, h, toks_skip]
theorem toks_nil {s : Bs} (h : skip s = []) : toks s = some [] := by unfold toks; rw [scan_nil h]; rfl
theorem toks_ok {s r : Bs} {t : Tk} (h : tok (skip s) = .ok (t, r)) : toks s = (toks r).map (t :: ·) := by
  unfold toks
  rw [scan_ok h]
  cases scan r <;> rfl
/-- What begins with white space, or nothing. -/
def Free (r : Bs) : Prop := r = [] ∨ ∃ b r', r = b :: r' ∧ isWs b = true
theorem ws_cases {b : UInt8} (h : isWs b = true) : b = 9 ∨ b = 10 ∨ b = 13 ∨ b = 32 := by
  simp only [isWs, Bool.or_eq_true, beq_iff_eq] at h
  rcases h with ((h | h) | h) | h
  · exact .inl h
  · exact .inr (.inl h)
  · exact .inr (.inr (.inl h))
  · exact .inr (.inr (.inr h))
theorem free_nm {r : Bs} (h : Free r) : headNm r = false := by
  rcases h with rfl | ⟨b, r', rfl, hb⟩
  · rfl
  · rcases ws_cases hb with rfl | rfl | rfl | rfl <;> rfl
theorem take_all {p : UInt8 → Bool} {x r : Bs} (hx : ∀ b ∈ x, p b = true) (hr : ∀ b r', r = b :: r' → p b = false) : (x ++ r).takeWhile p = x ∧ (x ++ r).dropWhile p = r := by
  induction x with
  | nil =>
    cases r with
    | nil => simp
    | cons b r' => have := hr b r' rfl; simp [this]
  | cons a x ih =>
    have h1 := hx a (by simp)
    have h2 := ih (fun b hb => hx b (by simp [hb]))
    simp [h1, h2]
theorem nm_of_dg {b : UInt8} (h : isDg b = true) : isNm b = true := by simp [isNm, h]
theorem not_nm_head {r : Bs} (h : headNm r = false) : ∀ b r', r = b :: r' → isNm b = false := fun b r' e => by subst e; exact h
def isName : Bs → Bool
  | [] => false
  | b :: s => isAl b && s.all isNm
def isMark : Bs → Bool
  | [b] => mark1 b
  | [b, c] => mark2 b c
  | _ => false
def qbyte (b : UInt8) : Bs := if b == 10 then [92, 110] else if b == 9 then [92, 116] else if b == 34 then [92, 34] else if b == 92 then [92, 92] else [b]
def qbody (x : Bs) : Bs := x.flatMap qbyte
/-- What a decimal form must be. -/
structure DecOk (dec : Nat → Bs) : Prop where
  all : ∀ n, ∀ b ∈ dec n, isDg b = true
  pos : ∀ n, dec n ≠ []
  val : ∀ n, val (dec n) = n
  lead : ∀ n, (dec n).head? = some 48 → (dec n).length ≤ 1
/-- A token as it is written, or nothing if it is invalid. -/
def written (dec : Nat → Bs) (t : Tk) : Option Bs :=
  if t.k = 2 then (if t.t = [] ∧ 0 ≤ t.n ∧ t.n ≤ 9007199254740992 then some (dec t.n.toNat) else none)
  else if t.n ≠ 0 then none
  else if t.k = 3 ∧ t.t.length ≤ 4096 then some (34 :: (qbody t.t ++ [34]))
  else if (t.k = 1 ∧ isName t.t = true) ∨ (t.k = 4 ∧ isMark t.t = true) then some t.t
  else none
theorem lit_body (x r : Bs) : lit (qbody x ++ 34 :: r) = some (x, r) := by
  induction x with
  | nil =>
    cases r with
    | nil => rfl
    | cons c r => simp [qbody, lit]
  | cons a x ih =>
    have e : qbody (a :: x) ++ 34 :: r = qbyte a ++ (qbody x ++ 34 :: r) := by simp [qbody]
    rw [e]
    obtain ⟨y, hy⟩ : ∃ y, y = qbody x ++ 34 :: r := ⟨_, rfl⟩
    rw [← hy] at ih ⊢
    have hne : ∃ c s, y = c :: s := by
      cases h : qbody x with
      | nil => exact ⟨34, r, by rw [hy, h]; rfl⟩
      | cons c s => exact ⟨c, s ++ 34 :: r, by rw [hy, h]; rfl⟩
    obtain ⟨c, s, rfl⟩ := hne
    unfold qbyte
    split
    · rename_i h; simp at h; subst h; simp [lit, esc, ih]
    · split
      · rename_i h; simp at h; subst h; simp [lit, esc, ih]
      · split
        · rename_i h; simp at h; subst h; simp [lit, esc, ih]
        · split
          · rename_i h; simp at h; subst h; simp [lit, esc, ih]
          · rename_i h1 h2 h3 h4
            simp at h1 h2 h3 h4
            simp [lit, h1, h3, h4, ih]
theorem mark1_plain {b : UInt8} (h : mark1 b = true) : isAl b = false ∧ isDg b = false ∧ (b == 34) = false ∧ isWs b = false := by
  simp only [mark1, Bool.or_eq_true, beq_iff_eq] at h
  rcases h with (((((((((((((((((((h | h) | h) | h) | h) | h) | h) | h) | h) | h) | h) | h) | h) | h) | h) | h) | h) | h) | h) | h) <;> subst h <;> decide
theorem mark2_plain {b c : UInt8} (h : mark2 b c = true) : isAl b = false ∧ isDg b = false ∧ (b == 34) = false ∧ isWs b = false ∧ b ≠ 47 ∧ isWs c = false := by
  simp only [mark2, Bool.or_eq_true, Bool.and_eq_true, beq_iff_eq] at h
  rcases h with (((((h | h) | h) | h) | h) | h) | h <;> obtain ⟨rfl, rfl⟩ := h <;> decide
theorem mark2_ws {b c : UInt8} (h : isWs c = true) : mark2 b c = false := by
  rcases ws_cases h with rfl | rfl | rfl | rfl <;> simp [mark2]
theorem al_plain {b : UInt8} (h : isAl b = true) : isWs b = false ∧ b ≠ 47 := by
  simp only [isAl, Bool.or_eq_true, Bool.and_eq_true, decide_eq_true_eq] at h
  simp only [isWs]
  constructor
  · simp; refine ⟨⟨⟨?_, ?_⟩, ?_⟩, ?_⟩ <;> rintro rfl <;> revert h <;> decide
  · rintro rfl; revert h; decide
theorem dg_plain {b : UInt8} (h : isDg b = true) : isAl b = false ∧ isWs b = false ∧ b ≠ 47 := by
  simp only [isDg, Bool.and_eq_true, decide_eq_true_eq] at h
  obtain ⟨h1, h2⟩ := h
  have h1 : 48 ≤ b.toNat := h1
  have h2 : b.toNat ≤ 57 := h2
  refine ⟨?_, ?_, ?_⟩
  · simp only [isAl, Bool.or_eq_false_iff, Bool.and_eq_false_iff, decide_eq_false_iff_not]
    refine ⟨.inl ?_, .inl ?_⟩
    · intro h; have h : 97 ≤ b.toNat := h; omega
    · intro h; have h : 65 ≤ b.toNat := h; omega
  · simp only [isWs, Bool.or_eq_false_iff, beq_eq_false_iff_ne, ne_eq]
    refine ⟨⟨⟨?_, ?_⟩, ?_⟩, ?_⟩ <;> rintro rfl <;> revert h1 <;> decide
  · rintro rfl; revert h1; decide
/-- A written token is read back, whatever white space follows. -/
theorem tok_written {dec : Nat → Bs} (hd : DecOk dec) {t : Tk} {x r : Bs} (h : written dec t = some x) (hr : Free r) : tok (x ++ r) = .ok (t, r) ∧ skip (x ++ r) = x ++ r := by
  unfold written at h
  split at h
  · rename_i hk
    split at h
    · rename_i hc
      obtain ⟨h1, h2, h3⟩ := hc
      cases h
      obtain ⟨n, hn⟩ := Int.eq_ofNat_of_zero_le h2
      rw [hn, Int.toNat_natCast]
      have ha := hd.all n
      have hp := hd.pos n
      have hv := hd.val n
      have hl := hd.lead n
      generalize dec n = d at ha hp hv hl
      cases d with
      | nil => exact absurd rfl hp
      | cons b d =>
        have hb := ha b (by simp)
        obtain ⟨p1, p2, p3⟩ := dg_plain hb
        have htk := take_all (p := isDg) (x := d) (r := r) (fun c hc => ha c (by simp [hc])) (fun c r' e => by
          have := not_nm_head (free_nm hr) c r' e
          cases hdg : isDg c with
          | false => rfl
          | true => rw [nm_of_dg hdg] at this; cases this)
        refine ⟨?_, skip_self p2 (fun hh => p3 hh.1)⟩
        rw [List.cons_append, tok, if_neg (by simp [p1]), if_pos hb, htk.1, htk.2]
        unfold tokInt
        rw [if_neg, if_neg (by rw [hv]; omega), hv]
        · obtain ⟨k, tt, nn⟩ := t
          simp at hk h1 hn
          subst hk h1 hn
          rfl
        · simp only [free_nm hr, Bool.or_false, Bool.and_eq_true, beq_iff_eq, decide_eq_true_eq]
          rintro ⟨h4, h5⟩
          have := hl h4
          omega
    · cases h
  · rename_i hk
    split at h
    · cases h
    · rename_i hn
      have hn : t.n = 0 := by simpa using hn
      split at h
      · rename_i hc
        cases h
        refine ⟨?_, skip_self (by decide) (by simp)⟩
        have e : 34 :: (qbody t.t ++ [34]) ++ r = 34 :: (qbody t.t ++ 34 :: r) := by simp
        rw [e, tok, if_neg (by decide), if_neg (by decide), if_pos (by decide), lit_body]
        unfold tokLit
        simp only
        rw [if_neg (by omega)]
        obtain ⟨k, tt, nn⟩ := t
        simp at hc hn
        rw [hc.1, hn]
      · split at h
        · rename_i hc
          cases h
          rcases hc with ⟨h1, h2⟩ | ⟨h1, h2⟩
          · obtain ⟨k, x, nn⟩ := t
            simp only at h1 h2
            have hn : nn = 0 := by simpa using hn
            subst h1 hn
            cases x with
            | nil => cases h2
            | cons b x =>
              simp only [isName, Bool.and_eq_true, List.all_eq_true] at h2
              have hp := al_plain h2.1
              have htk := take_all (p := isNm) (x := x) (r := r) h2.2 (not_nm_head (free_nm hr))
              refine ⟨?_, skip_self hp.1 (fun hh => hp.2 hh.1)⟩
              show tok (b :: (x ++ r)) = _
              rw [tok, if_pos h2.1, htk.1, htk.2]
          · obtain ⟨k, x, nn⟩ := t
            simp only at h1 h2
            have hn : nn = 0 := by simpa using hn
            subst h1 hn
            match x, h2 with
            | [b], h2 =>
              have h2 : mark1 b = true := h2
              obtain ⟨p1, p2, p3, p4⟩ := mark1_plain h2
              rcases hr with rfl | ⟨c, r', rfl, hc⟩
              · refine ⟨?_, skip_self p4 (by simp)⟩
                show tok [b] = _
                rw [tok, if_neg (by simp [p1]), if_neg (by simp [p2]), if_neg (by simp [p3]), tokMark, if_pos h2]
              · refine ⟨?_, skip_self p4 (fun hh => by
                  have : c = 47 := by simpa using hh.2
                  rw [this] at hc; revert hc; decide)⟩
                show tok (b :: c :: r') = _
                rw [tok, if_neg (by simp [p1]), if_neg (by simp [p2]), if_neg (by simp [p3]), tokMark, if_neg (by simp [mark2_ws hc]), if_pos h2]
            | [b, c], h2 =>
              have h2 : mark2 b c = true := h2
              obtain ⟨p1, p2, p3, p4, p5, p6⟩ := mark2_plain h2
              refine ⟨?_, skip_self p4 (fun hh => p5 hh.1)⟩
              show tok (b :: c :: r) = _
              rw [tok, if_neg (by simp [p1]), if_neg (by simp [p2]), if_neg (by simp [p3]), tokMark, if_pos h2]
        · cases h
theorem toks_written {dec : Nat → Bs} (hd : DecOk dec) {t : Tk} {x r : Bs} (h : written dec t = some x) (hr : Free r) : toks (x ++ r) = (toks r).map (t :: ·) := by
  obtain ⟨h1, h2⟩ := tok_written hd h hr
  exact toks_ok (by rw [h2]; exact h1)
/-- Written tokens, separated by single spaces. -/
def join : List Bs → Bs
  | [] => []
  | [x] => x
  | x :: y :: l => x ++ 32 :: join (y :: l)
/-- What each token is written as, if all are valid. -/
def forms (dec : Nat → Bs) : List Tk → Option (List Bs)
  | [] => some []
  | t :: l => (written dec t).bind fun x => (forms dec l).map (x :: ·)
theorem free_nil : Free [] := .inl rfl
theorem free_ws {b : UInt8} (r : Bs) (h : isWs b = true) : Free (b :: r) := .inr ⟨b, r, rfl, h⟩
theorem toks_sp {b : UInt8} (r : Bs) (h : isWs b = true) : toks (b :: r) = toks r := toks_of_skip (skip_ws r h)
theorem toks_join {dec : Nat → Bs} (hd : DecOk dec) : ∀ (l : List Tk) (xs : List Bs) (r : Bs), forms dec l = some xs → Free r → toks (join xs ++ r) = (toks r).map (l ++ ·)
  | [], xs, r, h, _ => by
    simp only [forms, Option.some.injEq] at h
    subst h
    simp [join]
  | t :: l, xs, r, h, hr => by
    simp only [forms] at h
    cases hx : written dec t with
    | none => rw [hx] at h; cases h
    | some x =>
      rw [hx] at h
      cases hl : forms dec l with
      | none => rw [hl] at h; cases h
      | some ys =>
        rw [hl] at h
        simp only [Option.bind_some, Option.map_some, Option.some.injEq] at h
        subst h
        have ih := toks_join hd l ys r hl hr
        cases ys with
        | nil =>
          have : l = [] := by
            cases l with
            | nil => rfl
            | cons t' l' =>
              simp only [forms] at hl
              cases h1 : written dec t' with
              | none => rw [h1] at hl; cases hl
              | some x' =>
                rw [h1] at hl
                cases h2 : forms dec l' with
                | none => rw [h2] at hl; cases hl
                | some z => rw [h2] at hl; cases hl
          subst this
          show toks (x ++ r) = _
          rw [toks_written hd hx hr]
          simp
        | cons y ys =>
          show toks ((x ++ 32 :: join (y :: ys)) ++ r) = _
          rw [List.append_assoc, List.cons_append, toks_written hd hx (free_ws _ (by decide)), toks_sp _ (by decide), ih]
          cases toks r <;> simp
theorem scan_written {dec : Nat → Bs} (hd : DecOk dec) {l : List Tk} {xs : List Bs} (h : forms dec l = some xs) : toks (join xs) = some l := by
  have := toks_join hd l xs [] h free_nil
  rw [List.append_nil] at this
  rw [this, toks_nil (by simp [skip])]
  simp
/-- A comment, closed by a line feed or by the end. -/
theorem skip_comment (note r : Bs) (h : ∀ b ∈ note, notLf b = true) : skip (47 :: 47 :: (note ++ 10 :: r)) = skip r := by
  rw [skip_note, (take_all (p := notLf) (x := note) (r := 10 :: r) h (fun b r' e => by cases e; rfl)).2, skip_ws _ (by decide)]
theorem skip_comment_end (note : Bs) (h : ∀ b ∈ note, notLf b = true) : skip (47 :: 47 :: note) = [] := by
  have := (take_all (p := notLf) (x := note) (r := []) h (fun b r' e => by cases e)).2
  rw [List.append_nil] at this
  rw [skip_note, this, skip]
theorem forms_append {dec : Nat → Bs} : ∀ (l m : List Tk) (xs : List Bs), forms dec (l ++ m) = some xs → ∃ ys zs, forms dec l = some ys ∧ forms dec m = some zs
  | [], m, xs, h => ⟨[], xs, rfl, h⟩
  | t :: l, m, xs, h => by
    simp only [List.cons_append, forms] at h
    cases hx : written dec t with
    | none => rw [hx] at h; cases h
    | some x =>
      rw [hx] at h
      cases hl : forms dec (l ++ m) with
      | none => rw [hl] at h; cases h
      | some ws =>
        obtain ⟨ys, zs, h1, h2⟩ := forms_append l m ws hl
        exact ⟨x :: ys, zs, by simp [forms, hx, h1], h2⟩
/-- White space and comments around and between the tokens change nothing. -/
theorem scan_spaces {dec : Nat → Bs} (hd : DecOk dec) {l m : List Tk} {ys zs : List Bs} (h1 : forms dec l = some ys) (h2 : forms dec m = some zs) (note : Bs) (hn : ∀ b ∈ note, notLf b = true) :
    toks (32 :: 47 :: 47 :: (note ++ 10 :: 9 :: (join ys ++ 13 :: 10 :: 32 :: 47 :: 47 :: (note ++ 10 :: (join zs ++ 32 :: 47 :: 47 :: note))))) = some (l ++ m) := by
  rw [toks_sp _ (by decide), toks_of_skip (skip_comment note _ hn), toks_sp _ (by decide), toks_join hd l ys _ h1 (free_ws _ (by decide)), toks_sp _ (by decide), toks_sp _ (by decide), toks_sp _ (by decide),
    toks_of_skip (skip_comment note _ hn), toks_join hd m zs _ h2 (free_ws _ (by decide)), toks_sp _ (by decide), toks_nil (skip_comment_end note hn)]
  simp
theorem tw_mem {p : UInt8 → Bool} {s : Bs} {c : UInt8} (h : c ∈ s.takeWhile p) : p c = true := by
  induction s with
  | nil => simp at h
  | cons a s ih =>
    simp only [List.takeWhile] at h
    split at h
    · rename_i ha
      rcases List.mem_cons.1 h with rfl | h
      · exact ha
      · exact ih h
    · simp at h
/-- What skip takes is blank by itself, and what it leaves is a suffix. -/
theorem skip_parts (s : Bs) : ∃ p, s = p ++ skip s ∧ skip p = [] := by
  induction s using skip.induct with
  | case1 => exact ⟨[], by simp [skip], by simp [skip]⟩
  | case2 b s h ih =>
    obtain ⟨p, h1, h2⟩ := ih
    rw [skip_ws s h]
    exact ⟨b :: p, by rw [List.cons_append, ← h1], by rw [skip_ws p h, h2]⟩
  | case3 b s h h2 ih =>
    obtain ⟨p, h3, h4⟩ := ih
    have e : skip (b :: s) = skip (s.dropWhile notLf) := by rw [skip, if_neg h, if_pos h2]
    have h2' : b = 47 ∧ s.head? = some 47 := by simpa using h2
    obtain ⟨rfl, hs⟩ := h2'
    have hsplit : s = s.takeWhile notLf ++ s.dropWhile notLf := (List.takeWhile_append_dropWhile (p := notLf) (l := s)).symm
    have hall : ∀ c ∈ s.takeWhile notLf, notLf c = true := fun c hc => tw_mem hc
    have hpre : ∀ c r', s.dropWhile notLf = c :: r' → notLf c = false := fun c r' e => by
      have := List.head?_dropWhile_not (p := notLf) (l := s)
      rw [e] at this
      simpa using this
    rw [e]
    refine ⟨47 :: (s.takeWhile notLf ++ p), by rw [List.cons_append, List.append_assoc, ← h3, ← hsplit], ?_⟩
    -- the first byte of the comment's tail is 47
    cases s with
    | nil => cases hs
    | cons c s =>
      have hc : c = 47 := by simpa using hs
      subst hc
      have e1 : (47 :: s : Bs).takeWhile notLf = 47 :: s.takeWhile notLf := by simp [List.takeWhile, notLf]
      have e2 : (47 :: s : Bs).dropWhile notLf = s.dropWhile notLf := by simp [List.dropWhile, notLf]
      rw [e1, List.cons_append]
      rw [e2] at h3 hpre
      have hp : p = [] ∨ ∃ p', p = 10 :: p' := by
        cases p with
        | nil => exact .inl rfl
        | cons q p' =>
          have := hpre q _ (h3.trans (List.cons_append ..))
          simp [notLf] at this
          exact .inr ⟨p', by rw [this]⟩
      have hn : ∀ c ∈ s.takeWhile notLf, notLf c = true := fun c hc => tw_mem hc
      rcases hp with rfl | ⟨p', rfl⟩
      · rw [List.append_nil]; exact skip_comment_end _ hn
      · rw [skip_comment _ _ hn]
        rw [skip_ws _ (by decide)] at h4
        exact h4
  | case4 b s h h2 =>
    have e : skip (b :: s) = b :: s := by rw [skip, if_neg h, if_neg h2]
    rw [e]
    exact ⟨[], rfl, by simp [skip]⟩
theorem lit_local (n : Nat) : ∀ s : Bs, s.length ≤ n → ∀ x r, lit s = some (x, r) → ∃ p, s = p ++ r ∧ ∀ r', lit (p ++ r') = some (x, r') := by
  induction n with
  | zero =>
    intro s hs x r h
    have : s = [] := List.eq_nil_of_length_eq_zero (by omega)
    subst this
    simp [lit] at h
  | succ n ih =>
    intro s hs x r h
    have quote : ∀ r', lit (34 :: r') = some ([], r') := fun r' => by cases r' <;> simp [lit]
    match s, hs, h with
    | [], _, h => simp [lit] at h
    | [b], _, h =>
      simp only [lit] at h
      split at h
      · rename_i hb
        simp at hb h
        obtain ⟨rfl, rfl⟩ := h
        subst hb
        exact ⟨[34], rfl, quote⟩
      · cases h
    | b :: c :: s, hs, h =>
      simp only [lit] at h
      simp only [List.length_cons] at hs
      split at h
      · rename_i hb
        simp at hb h
        obtain ⟨rfl, rfl⟩ := h
        subst hb
        exact ⟨[34], rfl, quote⟩
      · rename_i hb
        split at h
        · cases h
        · rename_i hb2
          split at h
          · rename_i hb3
            cases he : esc c with
            | none => rw [he] at h; simp at h
            | some e =>
              rw [he] at h
              cases hl : lit s with
              | none => rw [hl] at h; simp at h
              | some y =>
                rw [hl] at h
                simp at h
                obtain ⟨p, h1, h2⟩ := ih s (by omega) y.1 y.2 hl
                refine ⟨b :: c :: p, by rw [← h.2]; simp [← h1], fun r' => ?_⟩
                show lit (b :: c :: (p ++ r')) = _
                simp [lit, hb, hb2, hb3, he, h2, h.1]
          · rename_i hb3
            cases hl : lit (c :: s) with
            | none => rw [hl] at h; simp at h
            | some y =>
              rw [hl] at h
              simp at h
              obtain ⟨p, h1, h2⟩ := ih (c :: s) (by simp; omega) y.1 y.2 hl
              refine ⟨b :: p, by rw [← h.2]; simp [← h1], fun r' => ?_⟩
              have h3 := h2 r'
              show lit (b :: (p ++ r')) = _
              cases hq : p ++ r' with
              | nil => rw [hq] at h3; simp [lit] at h3
              | cons q t => rw [hq] at h3; simp [lit, hb, hb2, hb3, h3, h.1]
/-- A token is told by its own bytes: what follows may be cut, if it begins as it did or is gone. -/
theorem tok_local {s r : Bs} {t : Tk} (h : tok s = .ok (t, r)) : ∃ x, x ≠ [] ∧ s = x ++ r ∧ ∀ r', (r' = [] ∨ ∃ b q q', r' = b :: q ∧ r = b :: q') → tok (x ++ r') = .ok (t, r') := by
  have hh : ∀ (p : UInt8 → Bool) r', (r' = [] ∨ ∃ b q q', r' = b :: q ∧ r = b :: q') → (∀ b q, r = b :: q → p b = false) → ∀ b q, r' = b :: q → p b = false := by
    intro p r' hr hp b q e
    rcases hr with rfl | ⟨b', q1, q2, rfl, h2⟩
    · cases e
    · cases e; exact hp _ _ h2
  cases s with
  | nil => simp [tok] at h
  | cons b s =>
    simp only [tok] at h
    have hsplit : ∀ p : UInt8 → Bool, s = s.takeWhile p ++ s.dropWhile p := fun p => (List.takeWhile_append_dropWhile (p := p) (l := s)).symm
    have hhd : ∀ p : UInt8 → Bool, ∀ c q, s.dropWhile p = c :: q → p c = false := fun p c q e => by
      have := List.head?_dropWhile_not (p := p) (l := s)
      rw [e] at this
      simpa using this
    split at h
    · rename_i h1
      simp only [Except.ok.injEq, Prod.mk.injEq] at h
      obtain ⟨rfl, rfl⟩ := h
      refine ⟨b :: s.takeWhile isNm, by simp, by rw [List.cons_append, ← hsplit], fun r' hr => ?_⟩
      have htk := take_all (p := isNm) (x := s.takeWhile isNm) (r := r') (fun c hc => tw_mem hc) (hh _ r' hr (hhd isNm))
      rw [List.cons_append, tok, if_pos h1, htk.1, htk.2]
    · rename_i h1
      split at h
      · rename_i h2
        unfold tokInt at h
        split at h
        · cases h
        · rename_i h3
          split at h
          · cases h
          · rename_i h4
            simp only [Except.ok.injEq, Prod.mk.injEq] at h
            obtain ⟨rfl, rfl⟩ := h
            refine ⟨b :: s.takeWhile isDg, by simp, by rw [List.cons_append, ← hsplit], fun r' hr => ?_⟩
            have htk := take_all (p := isDg) (x := s.takeWhile isDg) (r := r') (fun c hc => tw_mem hc) (hh _ r' hr (hhd isDg))
            rw [List.cons_append, tok, if_neg h1, if_pos h2, htk.1, htk.2]
            unfold tokInt
            rw [if_neg, if_neg h4]
            simp only [Bool.or_eq_true, not_or] at h3 ⊢
            refine ⟨h3.1, ?_⟩
            rcases hr with rfl | ⟨c, q1, q2, rfl, h5⟩
            · simp [headNm]
            · have := h3.2
              rw [h5] at this
              exact this
      · rename_i h2
        split at h
        · rename_i h3
          unfold tokLit at h
          split at h
          · cases h
          · rename_i x r2 hl
            split at h
            · cases h
            · rename_i h4
              simp only [Except.ok.injEq, Prod.mk.injEq] at h
              obtain ⟨rfl, rfl⟩ := h
              obtain ⟨p, e1, e2⟩ := lit_local _ s (Nat.le_refl _) x r2 hl
              refine ⟨b :: p, by simp, by rw [List.cons_append, ← e1], fun r' _ => ?_⟩
              rw [List.cons_append, tok, if_neg h1, if_neg h2, if_pos h3, e2]
              unfold tokLit
              simp only
              rw [if_neg h4]
        · rename_i h3
          cases s with
          | nil =>
            simp only [tokMark] at h
            split at h
            · rename_i h4
              simp only [Except.ok.injEq, Prod.mk.injEq] at h
              obtain ⟨rfl, rfl⟩ := h
              refine ⟨[b], by simp, rfl, fun r' hr => ?_⟩
              rcases hr with rfl | ⟨c, q1, q2, rfl, h5⟩
              · show tok [b] = _
                rw [tok, if_neg h1, if_neg h2, if_neg h3, tokMark, if_pos h4]
              · cases h5
            · cases h
          | cons c s =>
            simp only [tokMark] at h
            split at h
            · rename_i h4
              simp only [Except.ok.injEq, Prod.mk.injEq] at h
              obtain ⟨rfl, rfl⟩ := h
              refine ⟨[b, c], by simp, rfl, fun r' _ => ?_⟩
              show tok (b :: c :: r') = _
              rw [tok, if_neg h1, if_neg h2, if_neg h3, tokMark, if_pos h4]
            · rename_i h4
              split at h
              · rename_i h5
                simp only [Except.ok.injEq, Prod.mk.injEq] at h
                obtain ⟨rfl, rfl⟩ := h
                refine ⟨[b], by simp, rfl, fun r' hr => ?_⟩
                rcases hr with rfl | ⟨c', q1, q2, rfl, h6⟩
                · show tok [b] = _
                  rw [tok, if_neg h1, if_neg h2, if_neg h3, tokMark, if_pos h5]
                · cases h6
                  show tok (b :: c :: q1) = _
                  rw [tok, if_neg h1, if_neg h2, if_neg h3, tokMark, if_neg h4, if_pos h5]
              · cases h
theorem skip_plain {b : UInt8} {y : Bs} (h : skip (b :: y) = b :: y) : isWs b = false ∧ ¬ (b = 47 ∧ y.head? = some 47) := by
  constructor
  · cases hb : isWs b with
    | false => rfl
    | true =>
      rw [skip_ws y hb] at h
      have := skip_le y
      rw [h] at this
      simp at this
      omega
  · rintro ⟨rfl, h2⟩
    cases y with
    | nil => cases h2
    | cons c y =>
      have : c = 47 := by simpa using h2
      subst this
      rw [skip_note] at h
      have h3 := skip_le (y.dropWhile notLf)
      have h4 := drop_le (p := notLf) y
      rw [h] at h3
      simp at h3
      omega
theorem skip_cut {b : UInt8} {y z : Bs} (h : skip (b :: y) = b :: y) (hz : z = [] ∨ z.head? = y.head?) : skip (b :: z) = b :: z := by
  obtain ⟨h1, h2⟩ := skip_plain h
  refine skip_self h1 ?_
  rintro ⟨rfl, h3⟩
  rcases hz with rfl | hz
  · cases h3
  · exact h2 ⟨rfl, hz ▸ h3⟩
theorem drop_suffix (p u : Bs) : (p ++ u).drop ((p ++ u).length - u.length) = u := by
  rw [List.length_append, Nat.add_sub_cancel, List.drop_left]
/-- What scan found first. -/
theorem scan_cons {s : Bs} {t : Tk} {n : Nat} {l : List (Tk × Nat)} (h : scan s = .ok ((t, n) :: l)) : ∃ r, n = (skip s).length ∧ tok (skip s) = .ok (t, r) ∧ scan r = .ok l := by
  by_cases hn : skip s = []
  · rw [scan_nil hn] at h; cases h
  · cases ht : tok (skip s) with
    | error e => rw [scan_err hn ht] at h; cases h
    | ok x =>
      obtain ⟨t', r⟩ := x
      rw [scan_ok ht] at h
      cases hr : scan r with
      | error e => rw [hr] at h; cases h
      | ok l' =>
        rw [hr] at h
        simp only [Except.ok.injEq, List.cons.injEq, Prod.mk.injEq] at h
        obtain ⟨⟨rfl, rfl⟩, rfl⟩ := h
        exact ⟨r, rfl, rfl, hr⟩
theorem scan_empty {s : Bs} (h : scan s = .ok []) : skip s = [] := by
  by_cases hn : skip s = []
  · exact hn
  · cases ht : tok (skip s) with
    | error e => rw [scan_err hn ht] at h; cases h
    | ok x =>
      obtain ⟨t', r⟩ := x
      rw [scan_ok ht] at h
      cases hr : scan r with
      | error e => rw [hr] at h; cases h
      | ok l' => rw [hr] at h; cases h
theorem toks_of_scan {s : Bs} {l : List (Tk × Nat)} (h : scan s = .ok l) : toks s = some (l.map Prod.fst) := by unfold toks; rw [h]
/-- The tokens with their places: each begins a suffix that scans to what remains; cut at the next, it scans to itself. -/
theorem scan_places : ∀ (l : List (Tk × Nat)) (s : Bs), scan s = .ok l → ∀ i (hi : i < l.length),
    (l[i]).2 ≤ s.length ∧ 0 < (l[i]).2 ∧ scan (s.drop (s.length - (l[i]).2)) = .ok (l.drop i) ∧
      (∀ hj : i + 1 < l.length, (l[i + 1]).2 < (l[i]).2 ∧ toks ((s.drop (s.length - (l[i]).2)).take ((l[i]).2 - (l[i + 1]).2)) = some [(l[i]).1]) ∧
      (i + 1 = l.length → toks (s.drop (s.length - (l[i]).2)) = some [(l[i]).1])
  | [], _, _, i, hi => absurd hi (by simp)
  | (t, n) :: l, s, h, i, hi => by
    obtain ⟨r, hn, ht, hr⟩ := scan_cons h
    obtain ⟨p, hs, hp⟩ := skip_parts s
    have hsc := scan_skip s
    have hss := skip_skip s
    obtain ⟨u, hu0⟩ : ∃ u, u = skip s := ⟨_, rfl⟩
    rw [← hu0] at hs hn ht hsc hss
    clear hu0 hp
    obtain ⟨x, hx, hu, hloc⟩ := tok_local ht
    have hxl : 0 < x.length := List.length_pos_iff.2 hx
    have hnl : n = x.length + r.length := by rw [hn, hu, List.length_append]
    have hd : s.drop (s.length - n) = u := by rw [hs, hn]; exact drop_suffix p u
    have hsl : s.length = p.length + n := by rw [hs, List.length_append, hn]
    cases i with
    | zero =>
      simp only [List.getElem_cons_zero, List.drop_zero]
      rw [hd]
      refine ⟨by omega, by omega, by rw [hsc]; exact h, fun hj => ?_, fun hl => ?_⟩
      · cases l with
        | nil => simp at hj
        | cons y l =>
          obtain ⟨t2, n2⟩ := y
          obtain ⟨r2, hn2, ht2, hr2⟩ := scan_cons hr
          obtain ⟨q, hq, hq2⟩ := skip_parts r
          have hql : r.length = q.length + n2 := by conv => lhs; rw [hq]
                                                    rw [List.length_append, ← hn2]
          show n2 < n ∧ toks (u.take (n - n2)) = some [t]
          refine ⟨?_, ?_⟩
          · omega
          · have e1 : u.take (n - n2) = x ++ q := by
              rw [hu, hq, ← List.append_assoc, show n - n2 = (x ++ q).length by rw [List.length_append]; omega, List.take_left]
            have hc : q = [] ∨ ∃ b q1 q2, q = b :: q1 ∧ r = b :: q2 := by
              cases q with
              | nil => exact .inl rfl
              | cons b q => exact .inr ⟨b, q, q ++ skip r, rfl, hq⟩
            have h1 := hloc q hc
            have h2 : skip (x ++ q) = x ++ q := by
              cases x with
              | nil => exact absurd rfl hx
              | cons b x =>
                rw [hu] at hss
                refine skip_cut (y := x ++ r) hss ?_
                cases x with
                | cons c x => exact .inr rfl
                | nil =>
                  rcases hc with rfl | ⟨b', q1, q2, rfl, h3⟩
                  · exact .inl rfl
                  · exact .inr (by rw [h3]; rfl)
            rw [e1, toks_ok (s := x ++ q) (r := q) (t := t) (by rw [h2]; exact h1), toks_nil hq2]
            rfl
      · cases l with
        | cons y l => simp at hl
        | nil => rw [toks_ok (s := u) (r := r) (t := t) (by rw [hss]; exact ht), toks_nil (scan_empty hr)]; rfl
    | succ i =>
      simp only [List.length_cons, Nat.add_lt_add_iff_right] at hi
      simp only [List.getElem_cons_succ, List.drop_succ_cons, List.length_cons, Nat.add_lt_add_iff_right, Nat.add_right_cancel_iff]
      obtain ⟨h1, h2, h3, h4, h5⟩ := scan_places l r hr i hi
      have e : s.drop (s.length - (l[i]).2) = r.drop (r.length - (l[i]).2) := by
        have : s = (p ++ x) ++ r := by rw [hs, hu, List.append_assoc]
        rw [this, List.length_append, show (p ++ x).length + r.length - (l[i]).2 = (p ++ x).length + (r.length - (l[i]).2) by omega, List.drop_append]
        simp
      rw [e]
      exact ⟨by omega, h2, h3, h4, h5⟩
/-- An error lies within the source. -/
theorem scan_error : ∀ (n : Nat) (s : Bs), s.length ≤ n → ∀ e k, scan s = .error (e, k) → 0 < k ∧ k ≤ s.length
  | 0, s, hs, e, k, h => by
    have : s = [] := List.eq_nil_of_length_eq_zero (by omega)
    subst this
    rw [scan_nil (by simp [skip])] at h
    cases h
  | n + 1, s, hs, e, k, h => by
    by_cases hn : skip s = []
    · rw [scan_nil hn] at h; cases h
    · have hl := skip_le s
      have hp := List.length_pos_iff.2 hn
      cases ht : tok (skip s) with
      | error e2 =>
        rw [scan_err hn ht] at h
        simp only [Except.error.injEq, Prod.mk.injEq] at h
        omega
      | ok x =>
        obtain ⟨t', r⟩ := x
        have hr := tok_lt ht
        rw [scan_ok ht] at h
        cases hr2 : scan r with
        | error y =>
          rw [hr2] at h
          simp only [Except.error.injEq] at h
          subst h
          have := scan_error n r (by omega) e k hr2
          omega
        | ok l' => rw [hr2] at h; cases h
/-- Every token that a source scans to can be written. -/
theorem tok_valid {dec : Nat → Bs} {s r : Bs} {t : Tk} (h : tok s = .ok (t, r)) : ∃ x, written dec t = some x := by
  cases s with
  | nil => simp [tok] at h
  | cons b s =>
    simp only [tok] at h
    split at h
    · rename_i h1
      simp only [Except.ok.injEq, Prod.mk.injEq] at h
      obtain ⟨rfl, rfl⟩ := h
      have : isName (b :: s.takeWhile isNm) = true := by simp only [isName, h1, Bool.true_and, List.all_eq_true]; exact fun c hc => tw_mem hc
      exact ⟨b :: s.takeWhile isNm, by simp [written, this]⟩
    · split at h
      · unfold tokInt at h
        split at h
        · cases h
        · split at h
          · cases h
          · simp only [Except.ok.injEq, Prod.mk.injEq] at h
            obtain ⟨rfl, rfl⟩ := h
            rename_i h4
            exact ⟨dec (val (b :: s.takeWhile isDg)), by unfold written; rw [if_pos rfl, if_pos ⟨rfl, Int.natCast_nonneg _, by show (val _ : Int) ≤ _; omega⟩]; rfl⟩
      · split at h
        · unfold tokLit at h
          split at h
          · cases h
          · split at h
            · cases h
            · simp only [Except.ok.injEq, Prod.mk.injEq] at h
              obtain ⟨rfl, rfl⟩ := h
              rename_i x r2 hl h4
              exact ⟨_, by simp [written, show x.length ≤ 4096 by omega]; rfl⟩
        · have mk : ∀ x : Bs, isMark x = true → ∃ y, written dec ⟨4, x, 0⟩ = some y := fun x hx => ⟨x, by simp [written, hx]⟩
          cases s with
          | nil =>
            simp only [tokMark] at h
            split at h
            · rename_i h4
              simp only [Except.ok.injEq, Prod.mk.injEq] at h
              obtain ⟨rfl, rfl⟩ := h
              exact mk [b] h4
            · cases h
          | cons c s =>
            simp only [tokMark] at h
            split at h
            · rename_i h4
              simp only [Except.ok.injEq, Prod.mk.injEq] at h
              obtain ⟨rfl, rfl⟩ := h
              exact mk [b, c] h4
            · split at h
              · rename_i h4
                simp only [Except.ok.injEq, Prod.mk.injEq] at h
                obtain ⟨rfl, rfl⟩ := h
                exact mk [b] h4
              · cases h
theorem scan_valid {dec : Nat → Bs} : ∀ (l : List (Tk × Nat)) (s : Bs), scan s = .ok l → ∃ xs, forms dec (l.map Prod.fst) = some xs
  | [], _, _ => ⟨[], rfl⟩
  | (t, n) :: l, s, h => by
    obtain ⟨r, _, ht, hr⟩ := scan_cons h
    obtain ⟨x, hx⟩ := tok_valid (dec := dec) ht
    obtain ⟨xs, hxs⟩ := scan_valid (dec := dec) l r hr
    exact ⟨x :: xs, by simp [forms, hx, hxs]⟩
end Go.Proofs.YtkagfhfjomhkdaaDoor.L7
