/-
  The two functions digit.
-/
import Derived.Test.YtmcdbjkmkbdeiaaDoorS3Mem
import Derived.Outline
namespace Go.Proofs.YtmcdbjkmkbdeiaaDoor.S3
open Go.RowKit
end Go.Proofs.YtmcdbjkmkbdeiaaDoor.S3
