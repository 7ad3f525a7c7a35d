/-
  Layer 8, plain: what was never made is not opened; with an error nothing is kept (of ideals that came of raw questions).
-/
import Derived.Test.YtfgdcpolfekgjaaGreatGIdy
import Derived.Test.YtfgdcpolfekgjaaGreatGIdP
namespace Go.Proofs.YtfgdcpolfekgjaaGreat
open Go.RowKit

section
variable {B : ByteArray} (hB : B.size = 2000) (R : List Raw8)
include hB
end
end Go.Proofs.YtfgdcpolfekgjaaGreat

