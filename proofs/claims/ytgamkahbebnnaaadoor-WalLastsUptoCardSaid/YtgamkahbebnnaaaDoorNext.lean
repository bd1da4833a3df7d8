/-
  The parser of records: a closure over what is left of the file.
-/
import Derived.Test.YtgamkahbebnnaaaDoorFirst
namespace Go.Proofs.YtgamkahbebnnaaaDoor
open Go.RowKit WalPlain
set_option maxRecDepth 40000
theorem records_any (s : ByteArray) (w : World) : Calls Tryd.prog 29 #[.string s] w fun e w' => e = .returned (.func (.func 45) #[] #[.pointer (some ⟨w.heap.size, 0, none⟩)]) ∧ Is w' w.heap.size 9 #[.string s] ∧ Below w.heap.size w w' := by
  go_enter Tryd.func29, Tryd.ntmps29
  go_wp2
  go_ret
  exact ⟨rfl, Is.fresh w 9 _, (Below.refl _ _).alloc (Nat.le_refl _) _⟩
/-- What is left behind the record. -/
def leftF (l : List UInt8) : Option (List UInt8 × Nat) → List UInt8
  | some x => l.drop x.2
  | none => l
theorem next_any (l : List UInt8) (b : Nat) (w : World) (h : Is w b 9 #[.string (mk l)]) (hT : S3.Tabs w) (hl : l.length ≤ 16777216) :
    Calls Tryd.prog 45 #[.pointer (some ⟨b, 0, none⟩)] w fun e w' => e = .returned (outF (firstE crcN l)) ∧ Is w' b 9 #[.string (mk (leftF l (firstE crcN l)))] ∧ D5.Fr (fun k => k = b) w w' := by
  have K : Hid (Calls Tryd.prog 46 #[.string (mk l)] w fun e w' => e = .returned (outF (firstE crcN l)) ∧ Below w.heap.size w w') := Lib.hid (first_any l w hT hl)
  have c0 : w.cell? ⟨b, 0, none⟩ = some (.string (mk l)) := h.at_ 0
  have zl : (mk l).size = l.length := rfl
  have H := Lib.hid h
  cases hf : firstE crcN l with
  | none =>
    rw [hf] at K
    have K2 : Hid (Calls Tryd.prog 46 #[.string (mk l)] w fun e w' => e = .returned (.tuple #[.string ⟨#[]⟩, .int .i64 0, .bool false]) ∧ Below w.heap.size w w') := K
    clear K
    have e0 : (mk l).extract 0 l.length = mk l := by rw [extract_take, ls_mk, List.take_of_length_le (Nat.le_refl _)]
    have j1 : decide ((0 : Int) ≤ (l.length : Int)) = true := by simp
    clear hf h hT
    go_enter Tryd.func45, Tryd.ntmps45
    go_wp2_with (go_at_call 46; refine K2.out.mono ?_; rintro e w1 ⟨rfl, h1⟩; have I1 := Lib.hid (H.out.below h1 H.out.lt); have B1 := Lib.hid h1; have c1 : w1.cell? ⟨b, 0, none⟩ = some (.string (mk l)) := I1.out.at_ 0; have f1 := I1.out.open_ 0; clear h1)
    go_ret3
    exact ⟨rfl, I1.out.put 0 _, D5.Fr.set (F := fun k => k = b) (b := b) (D5.Fr.of_below B1.out (Nat.le_refl _)) rfl _ _⟩
  | some x =>
    obtain ⟨s, k⟩ := x
    rw [hf] at K
    obtain ⟨k1, k2, -⟩ := first_le l s k hf
    have K2 : Hid (Calls Tryd.prog 46 #[.string (mk l)] w fun e w' => e = .returned (.tuple #[.string (mk s), .int .i64 (k : Nat), .bool true]) ∧ Below w.heap.size w w') := K
    clear K
    have e0 : (mk l).extract k l.length = mk (l.drop k) := by have := extract_drop (mk l) k; rw [ls_mk] at this; exact this
    have j1 : decide ((k : Int) ≤ (l.length : Int)) = true := by simp; omega
    clear hf h hT
    go_enter Tryd.func45, Tryd.ntmps45
    go_wp2_with (go_at_call 46; refine K2.out.mono ?_; rintro e w1 ⟨rfl, h1⟩; have I1 := Lib.hid (H.out.below h1 H.out.lt); have B1 := Lib.hid h1; have c1 : w1.cell? ⟨b, 0, none⟩ = some (.string (mk l)) := I1.out.at_ 0; have f1 := I1.out.open_ 0; clear h1)
    go_ret3
    exact ⟨rfl, I1.out.put 0 _, D5.Fr.set (F := fun k => k = b) (b := b) (D5.Fr.of_below B1.out (Nat.le_refl _)) rfl _ _⟩
end Go.Proofs.YtgamkahbebnnaaaDoor
