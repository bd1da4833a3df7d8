/-
  CodeWrites' walk.
-/
import Derived.Test.YtjomkfiepmeplaaRefD
namespace Go.Proofs.Ytjomkfiepmeplaa
open Go.RowKit
theorem Row.up {w w' : World} {A : Option Addr} {xs : List Value} {B : Nat} (h : Row w B A xs) (hb : Below B w w') (hB : B ≤ w'.heap.size) : Row w' w'.heap.size A xs := (h.below hb).top hB
set_option maxHeartbeats 2000000 in
theorem writes_any (n : Int) (s : List UInt8) (A : Option Addr) (c : Nat) (l : List (List UInt8)) (B : Option Addr) (d : Nat) (m : List Int) (w : World) (hA : Row w w.heap.size A (strs l)) (hB : Row w w.heap.size B (ints m))
    (hn : n ≤ 9223372036854775807) (hs : s.length ≤ 140737488351232) (hl : l.length ≤ 8796093021952 ∧ ∀ s ∈ l, s.length ≤ 140737488351232) (hm : m.length ≤ 17592186043904) :
    Calls Try.prog 3 #[.int .i64 n, .string (mk s), .slice A l.length c, .slice B m.length d] w fun e w' => e = .returned (.bool true) ∧ Below w.heap.size w w' := by
  have RA := Lib.hid hA
  have RB := Lib.hid hB
  obtain ⟨hl1, hl2⟩ := hl
  have HL := Lib.hid hl2
  clear hA hB hl2
  go_enter Try.func3, Try.ntmps3
  go_wp2_with fail
  refine (small_any _).mono ?_
  rintro e w1 ⟨rfl, b1⟩
  have F1 := Lib.hid b1
  have z1 := b1.size
  clear b1
  have C := few_any A c _ l w1 (RA.out.below F1.out) (fun s hs => by have := HL.out s hs; omega) (by omega)
  rcases hf : fewB l with _ | _
  · rw [hf] at C
    have CC := Lib.hid C
    clear C hf
    go_wp2_with fail
    refine (CC.out).mono ?_
    rintro e w' ⟨rfl, rfl⟩
    go_wp2_with fail
    go_ret
    exact ⟨rfl, F1.out⟩
  · rw [hf] at C
    obtain ⟨l100, ltot⟩ := fewB_true l hf
    have CC := Lib.hid C
    clear C hf
    have hlf := texts_len l (fun s hs => by have := HL.out s hs; omega)
    by_cases hm100 : m.length ≤ 100
    · have j1 : decide ((100 : Int) < (m.length : Int)) = false := by simp; omega
      have j2 : decide (100 < m.length) = false := by simp; omega
      have hmf := ints_len m
      go_wp2_with fail
      refine (CC.out).mono ?_
      rintro e w' ⟨rfl, rfl⟩
      go_wp2_with fail
      refine (cnumE_any n w1 (by omega)).mono ?_
      rintro e w2 ⟨rfl, b2⟩
      have F2 := Lib.hid (bw F1.out b2 z1)
      have z2 := F2.out.size
      clear b2
      go_wp2_with fail
      refine (xwnumE_any n w2 (by omega)).mono ?_
      rintro e w3 ⟨rfl, b3⟩
      have F3 := Lib.hid (bw F2.out b3 z2)
      have z3 := F3.out.size
      clear b3
      go_wp2_with fail
      refine (cint_any n w3).mono ?_
      rintro e w4 ⟨rfl, b4⟩
      have F4 := Lib.hid (bw F3.out b4 z3)
      have z4 := F4.out.size
      clear b4
      go_wp2_with fail
      refine (xwint_any n w4).mono ?_
      rintro e w5 ⟨rfl, b5⟩
      have F5 := Lib.hid (bw F4.out b5 z4)
      have z5 := F5.out.size
      clear b5
      go_wp2_with fail
      refine (ctext_any s w5 (by omega)).mono ?_
      rintro e w6 ⟨rfl, b6⟩
      have F6 := Lib.hid (bw F5.out b6 z5)
      have z6 := F6.out.size
      clear b6
      go_wp2_with fail
      refine (xwtext_any s w6 (by omega)).mono ?_
      rintro e w7 ⟨rfl, b7⟩
      have F7 := Lib.hid (bw F6.out b7 z6)
      have z7 := F7.out.size
      clear b7
      go_wp2_with fail
      refine (clistE_any A c l w7 (RA.out.up F7.out z7) (by omega) (by omega)).mono ?_
      rintro e w8 ⟨rfl, b8⟩
      have F8 := Lib.hid (bw F7.out b8 z7)
      have z8 := F8.out.size
      clear b8
      go_wp2_with fail
      refine (xwlist_any A c l w8 (RA.out.up F8.out z8) (by omega) (by omega)).mono ?_
      rintro e w9 ⟨rfl, b9⟩
      have F9 := Lib.hid (bw F8.out b9 z8)
      have z9 := F9.out.size
      clear b9
      go_wp2_with fail
      refine (cnumsE_any B d m w9 (RB.out.up F9.out z9) (by omega) (by omega)).mono ?_
      rintro e w10 ⟨rfl, b10⟩
      have F10 := Lib.hid (bw F9.out b10 z9)
      have z10 := F10.out.size
      clear b10
      go_wp2_with fail
      refine (xwnums_any B d m w10 (RB.out.up F10.out z10) (by omega) (by omega)).mono ?_
      rintro e w11 ⟨rfl, b11⟩
      have F11 := Lib.hid (bw F10.out b11 z10)
      clear b11
      go_wp2_with fail
      go_ret
      exact ⟨rfl, F11.out⟩
    · have j1 : decide ((100 : Int) < (m.length : Int)) = true := by simp; omega
      have j2 : decide (100 < m.length) = true := by simp; omega
      go_wp2_with fail
      refine (CC.out).mono ?_
      rintro e w' ⟨rfl, rfl⟩
      go_wp2_with fail
      go_ret
      exact ⟨rfl, F1.out⟩
end Go.Proofs.Ytjomkfiepmeplaa
