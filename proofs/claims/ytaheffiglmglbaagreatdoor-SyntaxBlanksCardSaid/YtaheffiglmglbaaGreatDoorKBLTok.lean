import Derived.Test.YtaheffiglmglbaaGreatDoorKBXf
import Derived.Test.YtaheffiglmglbaaGreatDoorKBLPat
/- LTok. -/
set_option maxHeartbeats 8000000
set_option maxRecDepth 20000
namespace Go.Proofs.YtaheffiglmglbaaGreatDoor
open Go.Proofs.Tryz
open Go.RowKit L7
theorem ToksIn.drop {w:World} {top:Nat} {a:Addr} {L:List (Tk × Int)} (h:ToksIn w top (some a) L) (i:Nat):ToksIn w top (some (a.add (i * 4))) (L.drop i):=fun k x hk=>by
 obtain ⟨a',e,h1,h2⟩:=h (i + k) x (by rw [List.getElem?_drop] at hk;exact hk)
 cases e
 refine ⟨_,rfl,by rw [Go.Proofs.YtaheffiglmglbaaGreatDoor.Zdt];exact h1,fun j u hu=>?_⟩
 rw [ZsQ,show i * 4 + (k * 4 + j)=(i + k) * 4 + j by omega]
 exact h2 j u hu
theorem ToksIn.take {w:World} {top:Nat} {A:Option Addr} {L:List (Tk × Int)} (h:ToksIn w top A L) (n:Nat):ToksIn w top A (L.take n):=fun k x hk=>by
 have hn:k < n:=by
  apply Nat.lt_of_not_le
  intro hle
  rw [List.getElem?_eq_none (by rw [List.length_take];omega)] at hk
  cases hk
 exact h k x (by rw [List.getElem?_take_of_lt hn] at hk;exact hk)
theorem ZrD {n i:Nat} {l:List (Tk × Nat)} {t:Tk} {k:Nat} (h:l[i]?=some (t,k)):(offs n l)[i]?=some (t,((n - k:Nat):Int)):=by simp [offs,h]
section
variable {s:ByteArray} {w:World}
theorem ZlV {l:List (Tk × Nat)} (hsc:scan (ls s)=.ok l) (hs:s.size≤32768) (hl:Lies w) :
  Calls prog 22 #[.string s] w fun e w'=>∃A c,e=.returned (.tuple #[.slice A l.length c,.int .i64 0,.int .i64 0])∧ToksIn w' w'.heap.size A (offs s.size l)∧l.length≤c∧Below w.heap.size w w':=by
 refine (ZkP s w hl hs).mono ?_
 rintro e w' ⟨⟨A,c,h1,h2,-,h3⟩,h4⟩
 rw [hsc] at h1 h2 h3
 exact ⟨A,c,h1,h2,h3,h4⟩
theorem ZjZ {en k:Nat} (hsc:scan (ls s)=.error (en,k)) (hs:s.size≤32768) (hl:Lies w) :
  Calls prog 22 #[.string s] w fun e w'=>e=.returned (.tuple #[.slice none 0 0,.int .i64 en,.int .i64 ((s.size - k:Nat):Int)])∧Below w.heap.size w w':=by
 refine (ZkP s w hl hs).mono ?_
 rintro e w' ⟨⟨A,c,h1,-,-,-⟩,h4⟩
 rw [hsc] at h1
 exact ⟨h1,h4⟩
theorem Zqz {a:Addr} {L:List (Tk × Int)} {x:Tk × Int} {i c top:Nat} {wd:Bs} (hT:ToksIn w top (some a) L) (htop:top≤w.heap.size) (hk:L[i]?=some x) (hw:L7.written dec x.1=some wd) (hn:x.1.t.length≤100000) (hl:Lies w) :
  Calls prog 23 #[.slice (some (a.add (i * 4))) 1 c] w fun e w'=>e=.returned (.string (mk wd))∧Below w.heap.size w w':=by
 have h1:(L.drop i).take 1=[x]:=by
  obtain ⟨hi,hx⟩:=List.getElem?_eq_some_iff.1 hk
  rw [List.drop_eq_getElem_cons hi,hx];rfl
 have h2:=(hT.drop i).take 1
 rw [h1] at h2
 have h3:=ZiW (some (a.add (i * 4))) c top [x] w hl h2 htop (by simp [tws,tw];omega)
 rw [show wrt ([x].map Prod.fst)=wd from Zxm (xs:=[wd]) (by simp [forms,hw])] at h3
 exact h3
end
theorem Zpt {s:Bs} {l:List (Tk × Nat)} (h:scan s=.ok l) {i:Nat} (hi:i < l.length):∃wd,L7.written dec (l[i]).1=some wd∧wd.length≤2 * s.length + 22:=by
 obtain ⟨wd,hw⟩:=S8.ZlK (S8.ZkN h _ (List.getElem_mem hi))
 have h1:=ZjK hw
 have h2:=S8.ZkM h _ (List.getElem_mem hi)
 exact ⟨wd,hw,by omega⟩
end Go.Proofs.YtaheffiglmglbaaGreatDoor
