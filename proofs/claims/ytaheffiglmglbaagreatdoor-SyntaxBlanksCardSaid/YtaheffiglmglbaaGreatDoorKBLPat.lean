import Derived.Test.YtaheffiglmglbaaGreatDoorKBXf
/- LPat. -/
set_option maxHeartbeats 8000000
set_option maxRecDepth 20000
namespace Go.Proofs.YtaheffiglmglbaaGreatDoor
open Go.Proofs.Tryz
open Go.RowKit L7
theorem ZhI (a b:ByteArray):ls (a++b)=ls a++ls b:=by unfold ls;rw [ByteArray.data_append,Array.toList_append]
theorem Zv1 {c:List Nd} (h:wts c≤18000000):wt (S8.root c)≤18001000:=by rw [S8.root,S8.Zg3];simp;omega
theorem nz (e:Int) (h:e≠0):(e != 0)=true:=by simpa using h
end Go.Proofs.YtaheffiglmglbaaGreatDoor
