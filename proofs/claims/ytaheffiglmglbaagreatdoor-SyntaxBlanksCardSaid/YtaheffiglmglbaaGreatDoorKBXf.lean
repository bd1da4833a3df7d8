import Derived.Test.YtaheffiglmglbaaGreatDoorKPa
import Derived.Test.YtaheffiglmglbaaGreatDoorKPb
import Derived.Test.YtaheffiglmglbaaGreatDoorKPc
import Derived.Test.YtaheffiglmglbaaGreatDoorKPd
import Derived.Test.YtaheffiglmglbaaGreatDoorKPe
import Derived.Test.YtaheffiglmglbaaGreatDoorKPf
import Derived.Test.YtaheffiglmglbaaGreatDoorKLa
import Derived.Test.YtaheffiglmglbaaGreatDoorKLb
import Derived.Test.YtaheffiglmglbaaGreatDoorKLc
import Derived.Test.YtaheffiglmglbaaGreatDoorKLd
import Derived.Test.YtaheffiglmglbaaGreatDoorKQa
import Derived.Test.YtaheffiglmglbaaGreatDoorKQb
import Derived.Test.YtaheffiglmglbaaGreatDoorKQc
import Derived.Test.YtaheffiglmglbaaGreatDoorKQd
import Derived.Test.YtaheffiglmglbaaGreatDoorKQe
import Derived.Test.YtaheffiglmglbaaGreatDoorKQf
import Derived.Test.YtaheffiglmglbaaGreatDoorKQg
import Derived.Test.YtaheffiglmglbaaGreatDoorKQh
import Derived.Test.YtaheffiglmglbaaGreatDoorKQi
import Derived.Test.YtaheffiglmglbaaGreatDoorKQj
import Derived.Test.YtaheffiglmglbaaGreatDoorKQk
import Derived.Test.YtaheffiglmglbaaGreatDoorKWa
import Derived.Test.YtaheffiglmglbaaGreatDoorKWb
import Derived.Test.YtaheffiglmglbaaGreatDoorKWc
import Derived.Test.YtaheffiglmglbaaGreatDoorKWd
import Derived.Test.YtaheffiglmglbaaGreatDoorKWe
import Derived.Test.YtaheffiglmglbaaGreatDoorKWf
import Derived.Test.YtaheffiglmglbaaGreatDoorKWg
import Derived.Test.YtaheffiglmglbaaGreatDoorKWh
import Derived.Test.YtaheffiglmglbaaGreatDoorKXa
import Derived.Test.YtaheffiglmglbaaGreatDoorKXb
import Derived.Test.YtaheffiglmglbaaGreatDoorKXc
import Derived.Test.YtaheffiglmglbaaGreatDoorKXd
import Derived.Test.YtaheffiglmglbaaGreatDoorKXe
/- LexM, LawS. -/
set_option maxHeartbeats 8000000
set_option maxRecDepth 20000
namespace Go.Proofs.YtaheffiglmglbaaGreatDoor.L7
open Go.Proofs.Tryz
structure Gap (g:Bs):Prop where
 free:∀r,Free (g++r)
 skip:∀r,skip (g++r)=skip r
theorem left_length (g:Bs):∀xs,(left g xs).length=xs.length
 | []=>rfl
 | x::l=>by rw [left,List.length_cons,left_length g l,List.length_cons]
theorem scan_gap {g:Bs} (hg:Gap g) {dec:Nat→Bs} (hd:ZsS dec):∀(l:List Tk) (xs:List Bs),forms dec l=some xs→scan (gapped g xs)=.ok (l.zip (left g xs))
 | [],xs,h=>by cases h;exact ZdD (by simp [gapped,skip])
 | t::l,xs,h=>by
  unfold forms at h
  cases hw:written dec t with
  | none=>rw [hw] at h;cases h
  | some x=>
   rw [hw] at h
   cases hf:forms dec l with
   | none=>rw [hf] at h;cases h
   | some ys=>
    rw [hf] at h
    cases h
    have ih:=scan_gap hg hd l ys hf
    obtain ⟨h1,h2⟩:=Zm9 hd hw (hg.free (gapped g ys))
    have e:scan (g++gapped g ys)=scan (gapped g ys):=by rw [← Zef,hg.skip,Zef]
    show scan (x++(g++gapped g ys))=_
    rw [Zet (t:=t) (r:=g++gapped g ys) (by rw [h2];exact h1),e,ih,h2]
    rfl
theorem scan_gap0 {g:Bs} (hg:Gap g) {dec:Nat→Bs} (hd:ZsS dec) {l:List Tk} {xs:List Bs} (h:forms dec l=some xs):scan (g++gapped g xs)=.ok (l.zip (left g xs)):=by
 rw [← Zef,hg.skip,Zef]
 exact scan_gap hg hd l xs h
theorem gap_sp:Gap [32]:=⟨fun r=>ZwM r rfl,fun r=>ZeP r rfl⟩
theorem gap_tab:Gap [9,13,10]:=⟨fun r=>ZwM _ rfl,fun r=>by
 show skip (9::13::10::r)=_
 rw [ZeP _ rfl,ZeP _ rfl,ZeP _ rfl]⟩
theorem gap_lf:Gap [10,10]:=⟨fun r=>ZwM _ rfl,fun r=>by
 show skip (10::10::r)=_
 rw [ZeP _ rfl,ZeP _ rfl]⟩
theorem gap_note:Gap [32,47,47,32,123,32,41,32,34,10]:=⟨fun r=>ZwM _ rfl,fun r=>by
 show skip (32::47::47::([32,123,32,41,32,34]++10::r))=_
 rw [ZeP _ rfl,ZlT _ _ (by decide)]⟩
end Go.Proofs.YtaheffiglmglbaaGreatDoor.L7
namespace Go.Proofs.YtaheffiglmglbaaGreatDoor.S8
open Go.Proofs.Tryz
open L7
theorem forms_all:∀{L:List Tk},(∀t∈L,okT t=true)→∃xs,forms dec L=some xs
 | [],_=>⟨[],rfl⟩
 | t::L,h=>by
  obtain ⟨x,hx⟩:=ZlK (h t (by simp))
  obtain ⟨xs,hxs⟩:=forms_all (L:=L) fun u hu=>h u (by simp [hu])
  exact ⟨x::xs,by simp [forms,hx,hxs]⟩
end Go.Proofs.YtaheffiglmglbaaGreatDoor.S8
