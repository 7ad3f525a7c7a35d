/-
  Layer 8: contract of clash, the document's own. Condition: the ideal's lists lie where the slices point to.
  Layer 8: contract of Right, the document's own. Condition: the ideal's lists lie where the slices point to.
  Layer 8: contracts of Own and New, the document's own. Condition (Own): the ideal's lists lie where the slices point to.
  Layer 8: contract of Label, the document's own, where it is asked what may not be. Condition: the ideal's lists lie where the slices point to.
  Layer 8, plain: what Label and Seal tell, by what is asked and what is there. Nothing of the program stands here.
  Layer 8: contract of Label, the document's own. Condition: the ideal's lists lie where the slices point to.
  Layer 8: contract of Seal, the document's own, where it is asked what may not be. Condition: the ideal's lists lie where the slices point to.
  Layer 8: contract of Seal, the document's own. Condition: the ideal's lists lie where the slices point to.
  Layer 8: contracts of Open, Label and Seal, the document's own, whatever they are asked; Same, where both are one ideal. Condition: the ideals' lists lie where the slices point to.
-/
import Derived.Test.YtfgdcpolfekgjaaGreatGId2
import Derived.Test.YtfgdcpolfekgjaaGreatGId3
namespace Go.Proofs.YtfgdcpolfekgjaaGreat
open Go.RowKit Go.Shelf

end Go.Proofs.YtfgdcpolfekgjaaGreat
namespace Go.Proofs.YtfgdcpolfekgjaaGreat
open Go.RowKit Go.Shelf

end Go.Proofs.YtfgdcpolfekgjaaGreat
namespace Go.Proofs.YtfgdcpolfekgjaaGreat
open Go.RowKit Go.Shelf

section
variable {P : Program} {w : World} {o : Oper} {a : Act} {Q : Exit → Act → World → Prop} {K : Act → World → Prop}
variable {md : Region.Mode} {ops : Array Oper} {S : World → Prop} {fuel i : Nat} {listed : Array Bool}
end

end Go.Proofs.YtfgdcpolfekgjaaGreat
namespace Go.Proofs.YtfgdcpolfekgjaaGreat
open Go.RowKit Go.Shelf

end Go.Proofs.YtfgdcpolfekgjaaGreat
namespace Go.Proofs.YtfgdcpolfekgjaaGreat
open Go.RowKit

structure LabOk (d : Ide) (i : ByteArray) : Prop where
  out : (right8 d && decide (i.size ≤ 100)) = true
section
variable {d : Ide} {i : ByteArray} (hz : LabOk d i)
include hz
end
structure SeaOk (d : Ide) (l t : ByteArray) : Prop where
  out : (right8 d && (decide (l.size = 16) && decide (t.size = 24))) = true
section
variable {d : Ide} {l t : ByteArray} (hz : SeaOk d l t)
include hz
end
end Go.Proofs.YtfgdcpolfekgjaaGreat
namespace Go.Proofs.YtfgdcpolfekgjaaGreat
open Go.RowKit Go.Shelf

end Go.Proofs.YtfgdcpolfekgjaaGreat
namespace Go.Proofs.YtfgdcpolfekgjaaGreat
open Go.RowKit Go.Shelf

end Go.Proofs.YtfgdcpolfekgjaaGreat
namespace Go.Proofs.YtfgdcpolfekgjaaGreat
open Go.RowKit Go.Shelf

end Go.Proofs.YtfgdcpolfekgjaaGreat
namespace Go.Proofs.YtfgdcpolfekgjaaGreat
open Go.RowKit Go.Shelf

end Go.Proofs.YtfgdcpolfekgjaaGreat

