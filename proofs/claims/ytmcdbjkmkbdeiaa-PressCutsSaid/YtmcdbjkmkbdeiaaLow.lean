/-
  Small facts that the texts of this stage share: parts of strings, a slice that the call made, the two results of Unpack.
-/
import Derived.Test.YtmcdbjkmkbdeiaaUse
import Derived.Test.YtmcdbjkmkbdeiaaPack
namespace Go.Proofs.Ytmcdbjkmkbdeiaa
open Go.RowKit
theorem at_s (s : ByteArray) (k : Nat) (h : k < s.size) : (ls s)[k]? = some s[k] := List.getElem?_eq_getElem (show k < (ls s).length from h)
theorem empty_iff (s : ByteArray) : s.toList.isEmpty = decide (ls s = []) := by
  have : s.toList = ls s := by rw [ByteArray.toList_eq]; rfl
  rw [this]; cases ls s <;> simp
theorem extract_mid (s : ByteArray) (f i : Nat) : ls (s.extract f i) = ((ls s).take i).drop f := by
  show (s.extract f i).data.toList = _
  rw [ByteArray.data_extract, Array.toList_extract, List.extract_eq_take_drop, List.drop_take]
  rfl
theorem extract_end (s : ByteArray) (f : Nat) : ls (s.extract f s.size) = (ls s).drop f := by
  rw [extract_drop]; rfl
theorem size_extract (s : ByteArray) (f i : Nat) (h : i ≤ s.size) : (s.extract f i).size = i - f := by
  rw [ByteArray.size_extract]; omega
theorem mk_append (a b : List UInt8) : mk a ++ mk b = mk (a ++ b) := by
  apply ls_inj
  show (mk a ++ mk b).data.toList = a ++ b
  rw [ByteArray.data_append, Array.toList_append]; rfl
theorem retN {R : Option (List UInt8)} (h : R = none) : Ending.returned (.tuple #[.string ⟨#[]⟩, .bool false]) = Ending.returned (.tuple #[.string (mk (R.getD [])), .bool R.isSome]) := by subst h; rfl
theorem retS {R : Option (List UInt8)} {l : List UInt8} (h : R = some l) : Ending.returned (.tuple #[.string (mk l), .bool true]) = Ending.returned (.tuple #[.string (mk (R.getD [])), .bool R.isSome]) := by subst h; rfl
theorem done_same (st : St) : doneB st = doneE st := by cases st <;> rfl
theorem own_slice {w : World} {base n : Nat} {e : TypeId} {v : Value} {xs : List Value} (h : w.ownsRow base e 1 v n xs) : ∃ A c, v = .slice A n c := by
  rcases h.2 with ⟨rfl, rfl⟩ | ⟨g, cap, cur, rfl, -, -, -⟩
  · exact ⟨none, 0, rfl⟩
  · exact ⟨_, cap, rfl⟩
theorem strCells_bytes (s : List UInt8) : Lib.strCells (mk s) = bytes s := by unfold bytes Lib.strCells mk; simp
theorem addr_add (g n : Nat) : (⟨g, 0, none⟩ : Addr).add n = ⟨g, n, none⟩ := by
  unfold Addr.add; simp; omega
def lenV : Value → Nat
  | .slice _ n _ => n
  | _ => 0
end Go.Proofs.Ytmcdbjkmkbdeiaa
