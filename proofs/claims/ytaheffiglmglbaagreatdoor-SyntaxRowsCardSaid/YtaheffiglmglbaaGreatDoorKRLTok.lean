import Derived.Test.YtaheffiglmglbaaGreatDoorKRXf
import Derived.Test.YtaheffiglmglbaaGreatDoorKRLPat
/- LTok. -/
set_option maxHeartbeats 8000000
set_option maxRecDepth 20000
namespace Go.Proofs.YtaheffiglmglbaaGreatDoor
open Go.Proofs.Tryz
open Go.RowKit L7
theorem ToksIn.drop {w:World} {top:Nat} {a:Addr} {L:List (Tk × Int)} (h:ToksIn w top (some a) L) (i:Nat):ToksIn w top (some (a.add (i * 4))) (L.drop i):=fun k x hk=>by
 obtain ⟨a',e,h1,h2⟩:=h (i + k) x (by rw [List.getElem?_drop] at hk;exact hk)
 cases e
 refine ⟨_,rfl,by rw [Go.Proofs.YtaheffiglmglbaaGreatDoor.Zdt];exact h1,fun j u hu=>?_⟩
 rw [ZsQ,show i * 4 + (k * 4 + j)=(i + k) * 4 + j by omega]
 exact h2 j u hu
theorem ToksIn.take {w:World} {top:Nat} {A:Option Addr} {L:List (Tk × Int)} (h:ToksIn w top A L) (n:Nat):ToksIn w top A (L.take n):=fun k x hk=>by
 have hn:k < n:=by
  apply Nat.lt_of_not_le
  intro hle
  rw [List.getElem?_eq_none (by rw [List.length_take];omega)] at hk
  cases hk
 exact h k x (by rw [List.getElem?_take_of_lt hn] at hk;exact hk)
theorem ZrD {n i:Nat} {l:List (Tk × Nat)} {t:Tk} {k:Nat} (h:l[i]?=some (t,k)):(offs n l)[i]?=some (t,((n - k:Nat):Int)):=by simp [offs,h]
end Go.Proofs.YtaheffiglmglbaaGreatDoor
