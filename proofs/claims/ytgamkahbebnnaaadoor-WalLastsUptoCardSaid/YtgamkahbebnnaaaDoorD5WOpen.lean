/-
  Open of a log, on a disk on which nothing fails.
-/
import Derived.Test.YtgamkahbebnnaaaDoorD5WRew
namespace Go.Proofs.YtgamkahbebnnaaaDoor.D5
open Go.RowKit WalPlain
set_option maxRecDepth 40000
theorem Is.below' {w w' : World} {g : Nat} {t : TypeId} {c : Array Value} (h : Is w g t c) (hb : Below w.heap.size w w') : Is w' g t c := (hb.block g h.lt).trans h
theorem flat_count (l : List Bs) : l.length ≤ (flat rec6 l).length := by
  induction l with
  | nil => exact Nat.le_refl _
  | cons a l ih =>
    have := rec_pos crcN a
    simp only [flat, List.length_cons, List.length_append]
    have e : (rec6 a).length = (recE crcN a).length := rfl
    omega
theorem andD_zero {x : Nat × Dk} {k : Dk → Nat × Dk} (h : (andD x k).1 = 0) : x.1 = 0 ∧ (k x.2).1 = 0 ∧ andD x k = k x.2 := by
  unfold andD at h ⊢
  by_cases hx : x.1 = 0
  · rw [if_pos hx] at h ⊢
    exact ⟨hx, h, rfl⟩
  · rw [if_neg hx] at h
    exact absurd h hx
def o1 (x : Option (Bs × Nat)) : Value := .string (mk ((x.map Prod.fst).getD []))
def o2 (x : Option (Bs × Nat)) : Value := .int .i64 (((x.map Prod.snd).getD 0 : Nat) : Int)
def o3 (x : Option (Bs × Nat)) : Value := .bool x.isSome
theorem outF_eq (x : Option (Bs × Nat)) : outF x = .tuple #[o1 x, o2 x, o3 x] := by
  cases x with
  | none => rfl
  | some x => rfl
theorem next_o (l : Bs) (q : Nat) (w : World) (h : Is w q 9 #[.string (mk l)]) (hT : S3.Tabs w) (hl : l.length ≤ 16777216) :
    Calls Tryd.prog 45 #[.pointer (some ⟨q, 0, none⟩)] w fun e w' => e = .returned (.tuple #[o1 (firstE crcN l), o2 (firstE crcN l), o3 (firstE crcN l)]) ∧ Is w' q 9 #[.string (mk (leftF l (firstE crcN l)))] ∧ Fr (fun k => k = q) w w' := by
  rw [← outF_eq]
  exact next_any l q w h hT hl
theorem Calm.read {D : Dk} (h : Calm D) {f : Int} (h0 : 0 ≤ f) (h8 : f < 8) : D.read f = (D.all f.toNat, 0) := by
  unfold Dk.read; rw [if_neg (by simp [h.up]), if_neg (by simp [isF_in h0 h8])]
/-- What lies in memory while a file is parsed: the log's block (the first new one), what is left of the file (the next one), the rows so far. -/
structure PMid (w : World) (b : Nat) (f : Int) (L : Bs) (l : List Bs) (v : Value) (x : Bs) (W : World) : Prop where
  laid ::
  ok : ∀ s ∈ l, small20 s
  pre : flat rec6 l <+: L
  cell : Is W (w.heap.size + 1) 9 #[.string (mk x)]
  log : Is W w.heap.size 65 #[.pointer (some ⟨b, 0, none⟩), .int .i64 f, v]
  own : W.ownsRow w.heap.size 9 1 v l.length (strs l)
  ne : v.ownBlock ≠ some (w.heap.size + 1)
  below : Below w.heap.size w W
theorem PMid.next {w W W' : World} {b : Nat} {f : Int} {L x x' : Bs} {l : List Bs} {v : Value} (h : PMid w b f L l v x W) (hI : Is W' (w.heap.size + 1) 9 #[.string (mk x')]) (hf : Fr (fun k => k = w.heap.size + 1) W W') : PMid w b f L l v x' W' :=
  ⟨h.ok, h.pre, hI, hf.is h.log (by omega), hf.own h.own (fun k hk e => h.ne (by rw [hk, e])), h.ne, h.below.trans (hf.below (fun k e => by omega) h.below.size)⟩
theorem PMid.append {w W W5 : World} {b : Nat} {f : Int} {L x s : Bs} {l : List Bs} {v v' : Value} (h : PMid w b f L l v x W) (o : Obj) (ho : W5.ownsRow 0 9 1 v' (l.length + 1) (strs l ++ strs [s])) (hg : (W.alloc o).grownBy W5 v.ownBlock)
    (hb : ∀ k, v'.ownBlock = some k → v.ownBlock = some k ∨ (W.alloc o).heap.size ≤ k) (h1 : ∀ s' ∈ l ++ [s], small20 s') (h2 : flat rec6 (l ++ [s]) <+: L) :
    W5.cell? ⟨w.heap.size, 2, none⟩ = some v ∧ W5.frozen? ⟨w.heap.size, 2, none⟩ = false ∧ PMid w b f L (l ++ [s]) v' x (W5.setCell ⟨w.heap.size, 2, none⟩ v') := by
  have hfr : Fr (fun k => v.ownBlock = some k) W W5 := ((Fr.refl _ W).alloc o).trans (Fr.of_grown (F := fun k => v.ownBlock = some k) hg (fun _ e => e)) (fun _ _ e => e)
  have hI : Is W5 w.heap.size 65 #[.pointer (some ⟨b, 0, none⟩), .int .i64 f, v] := hfr.is h.log (fun hk => Is.row_apart h.own h.log (by decide) hk)
  have hc : Is W5 (w.heap.size + 1) 9 #[.string (mk x)] := hfr.is h.cell (fun hk => h.ne hk)
  have hs : Fr (fun k => k = w.heap.size) W5 (W5.setCell ⟨w.heap.size, 2, none⟩ v') := (Fr.refl (fun k => k = w.heap.size) W5).set (b := w.heap.size) rfl 2 v'
  have hlt := h.cell.lt
  have hz : (W.alloc o).heap.size = W.heap.size + 1 := by simp
  refine ⟨hI.at_ 2, hI.open_ 2, h1, h2, hs.is hc (by omega), hI.put 2 v', ?_, ?_, ?_⟩
  · refine hs.own (own_base (own_cast ho (by simp) (strs_append l [s]).symm) (fun k hk => ?_)) (fun k hk e => ?_)
    · rcases hb k hk with h3 | h3
      · exact (h.own.lt k h3).1
      · omega
    · rw [e] at hk
      exact Is.row_apart ho hI (by decide) hk
  · intro e
    rcases hb _ e with h3 | h3
    · exact h.ne h3
    · omega
  · refine (h.below.trans (hfr.below (fun k hk => (h.own.lt k hk).1) h.below.size)).trans (hs.below (fun k e => by omega) ?_)
    exact Nat.le_trans h.below.size hfr.size
set_option maxHeartbeats 1000000 in
theorem wopen_any (b : Nat) (F : Nat → Prop) (D : Dk) (f : Int) (w : World) (hD : Has w b F D) (hC : Calm D) (hT : S3.Tabs w) (h0 : 0 ≤ f) (h7 : f < 7) (now : List Bs) (hv : Valid small20 rec6 (D.all f.toNat) now) :
    Calls Tryd.prog 10 #[.pointer (some ⟨b, 0, none⟩), .int .i64 f] w fun e w' => ∃ c, e = .returned (.tuple #[.pointer (some ⟨c, 0, none⟩), .int .i64 0]) ∧ StepW b c f F (fun _ => False) w w' (openD D f (flat rec6 now).length).2 now := by
  obtain ⟨L, hL⟩ : ∃ L, L = D.all f.toNat := ⟨_, rfl⟩
  have hlen : L.length = D.len f.toNat := by rw [hL, Dk.all_length]
  have hL24 : L.length ≤ 16777216 := by rw [hlen]; exact hD.ok.len _ (by omega)
  have RD : Hid (Calls Tryd.prog 26 #[.pointer (some ⟨b, 0, none⟩), .int .i64 f] w fun e w' => e = .returned (.tuple #[.string (mk L), .int .i64 0]) ∧ w = w') := Lib.hid (by
    have := read_any b D F f w hD
    rw [hC.read h0 (by omega), ← hL] at this
    exact this.mono fun e w' hh => ⟨hh.1, hh.2.symm⟩)
  rw [← hL] at hv
  have i1 : decide (f < 0) = false := by simp; omega
  have i2 : decide (6 < f) = false := by simp; omega
  have HD := Lib.hid hD
  have HC := Lib.hid hC
  have HT := Lib.hid hT
  have HV := Lib.hid hv
  have HL := Lib.hid hL
  have HN := Lib.hid hlen
  have RC : Hid (Calls Tryd.prog 29 #[.string (mk L)] (w.alloc (.cells #[.pointer (some ⟨b, 0, none⟩), .int .i64 f, .slice none 0 0] 65)) fun e w' => e = .returned (.func (.func 45) #[] #[.pointer (some ⟨w.heap.size + 1, 0, none⟩)]) ∧ PMid w b f L [] (.slice none 0 0) L w') := Lib.hid (by
    have hz : (w.alloc (.cells #[.pointer (some ⟨b, 0, none⟩), .int .i64 f, .slice none 0 0] 65)).heap.size = w.heap.size + 1 := by simp
    refine (records_any (mk L) _).mono fun e w' hh => ?_
    rw [hz] at hh
    obtain ⟨h1, h2, h3⟩ := hh
    exact ⟨h1, fun _ h => (by cases h), List.nil_prefix, h2, (h3.block w.heap.size (by omega)).trans (Is.fresh w 65 _), World.ownsRow_nil _ _ _ _, by simp [Value.ownBlock], ((Below.refl _ w).alloc (Nat.le_refl _) _).trans (h3.mono (by omega))⟩)
  have NX : Hid (∀ (l : List Bs) (x : Bs) (v : Value) (W : World), PMid w b f L l v x W → x.length ≤ L.length → Calls Tryd.prog 45 #[.pointer (some ⟨w.heap.size + 1, 0, none⟩)] W fun e w' => e = .returned (.tuple #[o1 (firstE crcN x), o2 (firstE crcN x), o3 (firstE crcN x)]) ∧ PMid w b f L l v (leftF x (firstE crcN x)) w') := Lib.hid (fun l x v W h hx =>
    (next_o x _ W h.cell (hT.below h.below hT.1) (by omega)).mono fun e w' hh => ⟨hh.1, h.next hh.2.1 hh.2.2⟩)
  obtain ⟨i0, hi, hz0, hz1, hz2⟩ := info_parts info9
  clear hD hC hT hv hL hlen
  go_enter Tryd.func10, Tryd.ntmps10
  go_wp2_with (first
    | (go_at_call 26; refine RD.out.mono ?_; rintro e w1 ⟨rfl, rfl⟩)
    | (go_at_call 29; go_must (refine RC.out.mono ?_); rintro e w2 ⟨rfl, h1⟩; have P2 := Lib.hid h1; clear h1)
    | (go_at_call 45; go_must (refine (NX.out [] L _ _ P2.out (Nat.le_refl _)).mono ?_); rintro e w3 ⟨rfl, h3⟩; have P3 := Lib.hid h3; clear h3))
  go_loopw [9, 11, 12, 13] (fun v9 v11 v12 v13 wr => ∃ (l : List Bs) (v : Value), v9 = .int .i64 ((flat rec6 l).length : Nat) ∧ v11 = o1 (firstE crcN (L.drop (flat rec6 l).length)) ∧ v12 = o2 (firstE crcN (L.drop (flat rec6 l).length)) ∧ v13 = o3 (firstE crcN (L.drop (flat rec6 l).length)) ∧
    Hid (PMid w b f L l v (leftF (L.drop (flat rec6 l).length) (firstE crcN (L.drop (flat rec6 l).length))) wr)) (fun v9 _ _ _ _ => L.length - (intOf v9).toNat)
  case atStart => exact ⟨[], _, rfl, rfl, rfl, rfl, P3⟩
  case round =>
    clear P2 P3 RC
    obtain ⟨l, v, rfl, rfl, rfl, rfl, HP⟩ := hrel
    cases hfe : firstE crcN (L.drop (flat rec6 l).length) with
    | some x =>
      obtain ⟨s, k⟩ := x
      obtain ⟨g1, g2, g3⟩ := parse_next crcN L l s k HP.out.ok HP.out.pre hfe
      have g2' : flat rec6 (l ++ [s]) <+: L := g2
      have g3' : (flat rec6 (l ++ [s])).length = (flat rec6 l).length + k := g3
      have hle := g2'.length_le
      obtain ⟨k5, k6, -⟩ := first_le _ s k hfe
      rw [hfe] at HP
      have HP2 : Hid (PMid w b f L l v (L.drop (flat rec6 (l ++ [s])).length) wr) := Lib.hid (by
        have := HP.out
        rw [show leftF (L.drop (flat rec6 l).length) (some (s, k)) = L.drop (flat rec6 (l ++ [s])).length by rw [g3']; show (L.drop _).drop k = _; rw [List.drop_drop]] at this
        exact this)
      have c2 := HP2.out.log.at_ 2
      have W1 : IntKind.i64.wrap (((flat rec6 l).length : Int) + (k : Int)) = ((flat rec6 l).length : Int) + (k : Int) := IntWalk.i64_in _ (by omega)
      have hll : l.length ≤ 16777216 := by
        have : l.length ≤ (flat rec6 l).length := flat_count l
        omega
      have NX2 : Hid (∀ (v' : Value) (W : World), PMid w b f L (l ++ [s]) v' (L.drop (flat rec6 (l ++ [s])).length) W → Calls Tryd.prog 45 #[.pointer (some ⟨w.heap.size + 1, 0, none⟩)] W fun e w' => e = .returned (.tuple #[o1 (firstE crcN (L.drop (flat rec6 (l ++ [s])).length)), o2 (firstE crcN (L.drop (flat rec6 (l ++ [s])).length)), o3 (firstE crcN (L.drop (flat rec6 (l ++ [s])).length))]) ∧ PMid w b f L (l ++ [s]) v' (leftF (L.drop (flat rec6 (l ++ [s])).length) (firstE crcN (L.drop (flat rec6 (l ++ [s])).length))) w') := Lib.hid (fun v' W h => NX.out _ _ v' W h (by rw [List.length_drop]; omega))
      have HK : Hid ((flat rec6 l).length + k ≤ L.length ∧ 5 ≤ k) := Lib.hid ⟨by omega, k5⟩
      have G1 := Lib.hid g1
      have G2 := Lib.hid g2'
      have G3 := Lib.hid g3'
      clear g1 g2 g2' g3' hfe HP
      rw [show o1 (some (s, k)) = .string (mk s) from rfl, show o2 (some (s, k)) = .int .i64 (k : Int) from rfl, show o3 (some (s, k)) = .bool true from rfl]
      go_wp2_with (first
        | (go_at_call 45; go_must (refine (NX2.out _ _ P5.out).mono ?_); rintro e w6 ⟨rfl, h6⟩; have P6 := Lib.hid h6; clear h6)
        | (refine wpList_append_row rfl (.tmp 59) (.tmp 61) 32 rfl 9 i0 _ 1 16 Tryd.underlying32 hi hz0 hz1 hz2 rfl (by decide) v l.length (strs l) rfl ((own_zero HP2.out.own).alloc _) (some ⟨wr.heap.size, 0, none⟩) 1 1 (strs [s]) rfl rfl (strs_lit wr s) (fun e => by cases e) (strs_one _) (by simp only [maxLen]; omega) (by omega) ?_; intro v' w5 hown hgr hbl; obtain ⟨a1, a2, a3⟩ := HP2.out.append _ hown hgr hbl G1.out G2.out; have P5 := Lib.hid a3; obtain ⟨A', cap', rfl, -⟩ := own_form hown; clear a3 hown hgr hbl))
      go_roundw
      case rel => exact ⟨l ++ [s], _, by rw [G3.out]; go_num, rfl, rfl, rfl, P6⟩
      case measure =>
        have := HK.out
        simp [intOf]
        omega
    | none =>
      have hval := parse_done crcN L l HP.out.ok HP.out.pre hfe
      obtain rfl : l = now := Valid.one (rec_form crcN) hval HV.out
      rw [hfe] at HP
      rw [show o1 none = .string ⟨#[]⟩ from rfl, show o2 none = .int .i64 0 from rfl, show o3 none = .bool false from rfl]
      have hpre : flat rec6 l <+: L := HP.out.pre
      have hle := hpre.length_le
      obtain ⟨n, hn⟩ : ∃ n, n = (flat rec6 l).length := ⟨_, rfl⟩
      rw [← hn] at hle
      obtain ⟨E1, hE1⟩ : ∃ E1, E1 = cut1 D f n := ⟨_, rfl⟩
      obtain ⟨E2, hE2⟩ : ∃ E2, E2 = cut2 E1.2 (f + 1) := ⟨_, rfl⟩
      obtain ⟨E3, hE3⟩ : ∃ E3, E3 = E2.2.flush f := ⟨_, rfl⟩
      have hz := (HC.out.open h0 h7 n (by rw [← HN.out]; exact hle)).1
      have hX : openD D f n = E3 ∧ E1.1 = 0 ∧ E2.1 = 0 ∧ E3.1 = 0 := by
        unfold openD at hz ⊢
        obtain ⟨a1, a2, a3⟩ := andD_zero hz
        obtain ⟨b1, b2, b3⟩ := andD_zero a1
        rw [a3, b3, ← hE1, ← hE2, ← hE3]
        rw [b3, ← hE1, ← hE2, ← hE3] at a2
        rw [← hE1] at b1 b2
        rw [← hE2] at b2
        exact ⟨rfl, b1, b2, a2⟩
      have HX : Hid ((openD D f (flat rec6 l).length).2 = E3.2) := Lib.hid (by rw [← hn, hX.1])
      have S0 : Hid (StepW b w.heap.size f F (fun _ => False) w wr D l) := Lib.hid (by
        have hB := HP.out.below
        have hF := HD.out.lt
        refine ⟨F, fun k => w.heap.size ≤ k ∧ k < wr.heap.size, HD.out.kept (Fr.of_below (F := fun _ => False) hB (Nat.le_refl _)) (fun _ _ h => h), ⟨v, HP.out.log, own_zero HP.out.own, ⟨Nat.le_refl _, HP.out.log.lt⟩, fun k hk => HP.out.own.lt k hk, fun k hk => hk.2⟩, fun k hk hg => by have := hF k hk; omega, fun _ h => .inl h, fun _ h => .inr h.1, Fr.of_below hB (Nat.le_refl _)⟩)
      have K1 : Hid (n < L.length → Calls Tryd.prog 30 #[.pointer (some ⟨b, 0, none⟩), .int .i64 f, .int .i64 (((flat rec6 l).length : Nat) : Int)] wr fun e w' => e = .returned (.int .i64 0) ∧ StepW b w.heap.size f F (fun _ => False) w w' E1.2 l) := Lib.hid (fun hlt => by
        have he : D.cut f n = E1 := by rw [hE1]; unfold cut1; rw [if_pos (by rw [← HN.out]; exact hlt)]
        have := S0.out.lift0 (X' := E1.2) (v := .returned (.int .i64 0)) (fn := 30) (args := #[.pointer (some ⟨b, 0, none⟩), .int .i64 f, .int .i64 (((flat rec6 l).length : Nat) : Int)]) (fun F' h => by
          have := cut_any b D F' f n wr h
          rw [he, hX.2.1, hn] at this
          exact this)
        exact this)
      have K0 : Hid (¬ n < L.length → StepW b w.heap.size f F (fun _ => False) w wr E1.2 l) := Lib.hid (fun hlt => by
        have he : E1 = (0, D) := by rw [hE1]; unfold cut1; rw [if_neg (by rw [← HN.out]; exact hlt)]
        rw [he]
        exact S0.out)
      have K2 : Hid (∀ W, StepW b w.heap.size f F (fun _ => False) w W E1.2 l → Calls Tryd.prog 31 #[.pointer (some ⟨w.heap.size, 0, none⟩)] W fun e w' => e = .returned (.int .i64 0) ∧ StepW b w.heap.size f F (fun _ => False) w w' E2.2 l) := Lib.hid (fun W S => by
        obtain ⟨F5, G5, a1, a2, a3, a4, a5, a6⟩ := S
        have := emptySpare_any w.heap.size b f F5 G5 E1.2 l W a1 a2 a3 h0 h7
        rw [← hE2, hX.2.2.1] at this
        exact this.mono fun e w' hh => ⟨hh.1, StepW.next a4 a5 a6 hh.2⟩)
      have K3 : Hid (∀ W, StepW b w.heap.size f F (fun _ => False) w W E2.2 l → Calls Tryd.prog 32 #[.pointer (some ⟨b, 0, none⟩), .int .i64 f] W fun e w' => e = .returned (.int .i64 0) ∧ StepW b w.heap.size f F (fun _ => False) w w' E3.2 l) := Lib.hid (fun W S => by
        refine S.lift0 (fun F' h => ?_)
        have := flush_any b E2.2 F' f W h
        rw [← hE3, hX.2.2.2] at this
        exact this)
      clear hX hz hE1 hE2 hE3 HP NX hfe hval hpre S0
      by_cases hlt : n < L.length
      · have j1 : decide ((((flat rec6 l).length : Nat) : Int) < (L.length : Int)) = true := by simp; omega
        have j2 : decide ((flat rec6 l).length < (mk L).size) = true := by rw [size_mk]; simp; omega
        have j3 : decide ((((flat rec6 l).length : Nat) : Int) < ((mk L).size : Int)) = true := by rw [size_mk]; simp; omega
        have K1' := Lib.hid (K1.out hlt)
        clear K1 K0 hlt
        go_wp2_with (first
          | (go_at_call 30; go_must (refine K1'.out.mono ?_); rintro e w4 ⟨rfl, h4⟩; have S4 := Lib.hid h4; clear h4)
          | (go_at_call 31; go_must (refine (K2.out _ S4.out).mono ?_); rintro e w5 ⟨rfl, h5⟩; have S5 := Lib.hid h5; clear h5)
          | (go_at_call 32; go_must (refine (K3.out _ S5.out).mono ?_); rintro e w6 ⟨rfl, h6⟩; have S6 := Lib.hid h6; clear h6))
        go_ret2
        exact ⟨_, rfl, by rw [HX.out]; exact S6.out⟩
      · have j1 : decide ((((flat rec6 l).length : Nat) : Int) < (L.length : Int)) = false := by simp; omega
        have j2 : decide ((flat rec6 l).length < (mk L).size) = false := by rw [size_mk]; simp; omega
        have j3 : decide ((((flat rec6 l).length : Nat) : Int) < ((mk L).size : Int)) = false := by rw [size_mk]; simp; omega
        have S4 := Lib.hid (K0.out hlt)
        clear K1 K0 hlt
        go_wp2_with (first
          | (go_at_call 31; go_must (refine (K2.out _ S4.out).mono ?_); rintro e w5 ⟨rfl, h5⟩; have S5 := Lib.hid h5; clear h5)
          | (go_at_call 32; go_must (refine (K3.out _ S5.out).mono ?_); rintro e w6 ⟨rfl, h6⟩; have S6 := Lib.hid h6; clear h6))
        go_ret2
        exact ⟨_, rfl, by rw [HX.out]; exact S6.out⟩
end Go.Proofs.YtgamkahbebnnaaaDoor.D5
