import Derived.Test.YtaheffiglmglbaaGreatDoorKRXf
/- LPat. -/
set_option maxHeartbeats 8000000
set_option maxRecDepth 20000
namespace Go.Proofs.YtaheffiglmglbaaGreatDoor
open Go.Proofs.Tryz
open Go.RowKit L7
theorem ZhI (a b:ByteArray):ls (a++b)=ls a++ls b:=by unfold ls;rw [ByteArray.data_append,Array.toList_append]
theorem Zv1 {c:List Nd} (h:wts c≤18000000):wt (S8.root c)≤18001000:=by rw [S8.root,S8.Zg3];simp;omega
theorem Zv3 {p:Bool} {s:Bs} (hs:s.length≤7100) {c:List Nd} {e a:Int} (h:S8.pv p s=(S8.root c,e,a)):wts c≤18000000:=by
 by_cases h0:(S8.pv p s).2.1=0
 ·obtain ⟨l,c',h1,h2,h3,h4,-⟩:=S8.ZoN h0 S8.codes
  rw [h] at h4
  have:c=c':=by injection h4 with h4 _;injection h4
  subst this
  exact S8.Zh3 hs l c [] h1 h2
 ·have:=S8.Zv2 h0
  rw [h] at this
  injection this with h1
  cases h1
theorem nz (e:Int) (h:e≠0):(e != 0)=true:=by simpa using h
end Go.Proofs.YtaheffiglmglbaaGreatDoor
