/-
  The record of a payload, as the code writes and reads it.
-/
import Derived.Test.YtgamkahbebnnaaaDoorWRec
import Derived.Test.YtgamkahbebnnaaaDoorPress
import Derived.Test.YtgamkahbebnnaaaDoorUnp
import Derived.Test.YtgamkahbebnnaaaDoorS3Crc
import Derived.Lib.QuietBelow
import Derived.Test.YtgamkahbebnnaaaDoorD5Own
import Derived.Test.YtgamkahbebnnaaaDoorUse
namespace Go.Proofs.YtgamkahbebnnaaaDoor
open Go.RowKit WalPlain
set_option maxRecDepth 40000
def crcN (l : List UInt8) : Nat := (S3.Math.crc l).toNat
theorem crcN_lt (l : List UInt8) : crcN l < 4294967296 := BitVec.isLt _
theorem left_any (b : Nat) (s : ByteArray) (f : Bool) (w : World) (h : Is w b 106 #[.string s, .bool f]) :
    Calls Tryd.prog 57 #[.pointer (some ⟨b, 0, none⟩)] w fun e w' => e = .returned (.int .i64 (s.size : Int)) ∧ w = w' := by
  have c0 : w.cell? ⟨b, 0, none⟩ = some (.string s) := h.at_ 0
  go_enter Tryd.func57, Tryd.ntmps57
  go_wp2
  go_ret
  exact ⟨rfl, rfl⟩
theorem checksum_any (s : ByteArray) (w : World) (hT : S3.Tabs w) (hs : s.size ≤ 9223372036854775807) :
    Calls Tryd.prog 50 #[.string s] w fun e w' => e = .returned (.string (mk (four (crcN (ls s))))) ∧ Below w.heap.size w w' := by
  obtain ⟨C, hC⟩ : ∃ C, C = crcN (ls s) := ⟨_, rfl⟩
  have hlt : C < 4294967296 := by rw [hC]; exact crcN_lt _
  have K : Hid (Calls Tryd.prog 64 #[.string s] w fun e w' => e = .returned (.int .u32 (C : Nat)) ∧ w = w') := Lib.hid (by rw [hC]; exact S3.crc_any s w hT hs)
  rw [← hC]
  clear hC hT
  have hcv : (convert 57 9 (.slice (some ⟨w.heap.size, 0, none⟩) 4 4)).run Tryd.prog (w.alloc (.cells #[.int .u8 ((C : Int) % 256), .int .u8 ((C : Int) / 256 % 256), .int .u8 ((C : Int) / 65536 % 256), .int .u8 ((C : Int) / 16777216)] 5)) = .ok (.string (mk (four C))) (w.alloc (.cells #[.int .u8 ((C : Int) % 256), .int .u8 ((C : Int) / 256 % 256), .int .u8 ((C : Int) / 65536 % 256), .int .u8 ((C : Int) / 16777216)] 5)) := by
    refine run_convert_bytes_back (P := Tryd.prog) _ 57 9 5 ⟨w.heap.size, 0, none⟩ 4 (four C) Tryd.underlying57 Tryd.underlying5 Tryd.underlying9 (fun j hj => ?_)
    rw [Addr.add_mid, cell_of_row _ _ _ _ _ _ (heap_alloc_new w _), Nat.zero_add]
    have h4 : j < 4 := hj
    have e : ∀ n : Nat, ((UInt8.ofNat (n % 256)).toNat : Int) = (n : Int) % 256 := fun n => by
      rw [toNat_ofNat _ (by omega)]; omega
    rcases (show j = 0 ∨ j = 1 ∨ j = 2 ∨ j = 3 by omega) with rfl | rfl | rfl | rfl
    · simp only [four, List.getElem_cons_zero, e]; rfl
    · simp only [four, List.getElem_cons_succ, List.getElem_cons_zero, e]; rfl
    · simp only [four, List.getElem_cons_succ, List.getElem_cons_zero, e]; rfl
    · have e2 : ((UInt8.ofNat (C / 16777216 % 256)).toNat : Int) = (C : Int) / 16777216 := by rw [e]; omega
      simp only [four, List.getElem_cons_succ, List.getElem_cons_zero, e2]; rfl
  go_enter Tryd.func50, Tryd.ntmps50
  go_wp2_with (go_at_call 64; refine K.out.mono ?_; rintro e w1 ⟨rfl, rfl⟩)
  go_ret
  exact ⟨rfl, (Below.refl _ _).alloc (Nat.le_refl _) _⟩
theorem isPayload_any (s : ByteArray) (w : World) : Calls Tryd.prog 33 #[.string s] w fun e w' => e = .returned (.bool (decide (s.size ≤ 1048576))) ∧ w' = w := by
  by_cases h : s.size ≤ 1048576
  · have h1 : decide ((s.size : Int) ≤ 1048576) = true := by simp; omega
    rw [decide_eq_true h]
    clear h
    go_enter Tryd.func33, Tryd.ntmps33
    go_wp2
    go_ret
    exact ⟨rfl, rfl⟩
  · have h1 : decide ((s.size : Int) ≤ 1048576) = false := by simp; omega
    rw [decide_eq_false h]
    clear h
    go_enter Tryd.func33, Tryd.ntmps33
    go_wp2
    go_ret
    exact ⟨rfl, rfl⟩
/-- The bytes of a record. -/
def rec6 (s : List UInt8) : List UInt8 := recE crcN s
theorem rec6_len (s : List UInt8) (h : small20 s) : (rec6 s).length ≤ 2 * s.length + 17 := rec_len crcN s h
theorem append_mk (a b : List UInt8) : mk a ++ mk b = mk (a ++ b) := by
  apply ls_inj
  simp [ls, mk]
theorem record_any (l : List UInt8) (w : World) (hT : S3.Tabs w) (hl : small20 l) :
    Calls Tryd.prog 34 #[.string (mk l)] w fun e w' => e = .returned (.string (mk (rec6 l))) ∧ Below w.heap.size w w' := by
  have hl' : l.length ≤ 1048576 := hl
  obtain ⟨P, hP⟩ : ∃ P, P = packE l := ⟨_, rfl⟩
  have hPl : P.length ≤ 2 * l.length + 4 := by rw [hP]; exact pack_le l (by omega)
  have e1 : rec6 l = vint P.length ++ (four (crcN P) ++ P) := by rw [hP]; rfl
  have K1 : Hid (Calls Tryd.prog 48 #[.string (mk l)] w fun e w' => e = .returned (.string (mk P)) ∧ Below w.heap.size w w') := Lib.hid (by rw [hP]; exact pack_any l w (by omega))
  have K2 : Hid (∀ W, Calls Tryd.prog 49 #[.int .i64 (P.length : Int)] W fun e w' => e = .returned (.string (mk (vint P.length))) ∧ Below W.heap.size W w') := Lib.hid (fun W => cnum_any _ W (by omega))
  have K3 : Hid (∀ W, Below w.heap.size w W → Calls Tryd.prog 50 #[.string (mk P)] W fun e w' => e = .returned (.string (mk (four (crcN P)))) ∧ Below W.heap.size W w') := Lib.hid (fun W h => checksum_any (mk P) W (hT.below h hT.1) (by rw [size_mk]; omega))
  have hv := vint_nine P.length (by omega)
  have z1 : (mk (vint P.length)).size = (vint P.length).length := rfl
  have z2 : (mk (four (crcN P))).size = 4 := rfl
  have z3 : (mk P).size = P.length := rfl
  obtain ⟨V, hV⟩ : ∃ V, V = mk (vint P.length) := ⟨_, rfl⟩
  obtain ⟨X, hX⟩ : ∃ X, X = mk (four (crcN P)) := ⟨_, rfl⟩
  obtain ⟨Y, hY⟩ : ∃ Y, Y = mk P := ⟨_, rfl⟩
  have e2 : (V ++ X) ++ Y = mk (rec6 l) := by rw [hV, hX, hY, append_mk, append_mk, e1, List.append_assoc]
  rw [← hV] at K2 z1
  rw [← hX, ← hY] at K3
  rw [← hX] at z2
  rw [← hY] at z3 K1
  have E2 := Lib.hid e2
  have zs : (V ++ X).size = V.size + X.size := by simp
  have zt : Y.size = P.length := z3
  have b1 : V.size ≤ 9 := by omega
  have b2 : (V ++ X).size ≤ 13 := by omega
  have b3 : Y.size ≤ 3000000 := by omega
  clear hP e1 e2 hV hX hY z1 hv hT hPl
  go_enter Tryd.func34, Tryd.ntmps34
  go_wp2_with (first
    | (go_at_call 48; refine K1.out.mono ?_; rintro e w1 ⟨rfl, h1⟩; have B1 := Lib.hid h1; clear h1)
    | (go_at_call 49; go_must (refine (K2.out _).mono ?_); rintro e w2 ⟨rfl, h1⟩; have B2 := Lib.hid (bw B1.out h1 B1.out.size); clear h1)
    | (go_at_call 50; go_must (refine (K3.out _ B2.out).mono ?_); rintro e w3 ⟨rfl, h1⟩; have B3 := Lib.hid (bw B2.out h1 B2.out.size); clear h1))
  go_ret
  exact ⟨by rw [← E2.out]; rfl, B3.out⟩
end Go.Proofs.YtgamkahbebnnaaaDoor
