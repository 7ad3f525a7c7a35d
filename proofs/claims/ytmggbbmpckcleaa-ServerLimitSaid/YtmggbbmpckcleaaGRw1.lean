/-
  What layer 10's rows share: the start; a cursor that came in by value, and a list of texts, opened.
  What layer 11's rows share: numbers, three numbers, requests and responses that came in by value, opened.
-/
import Derived.Test.YtmggbbmpckcleaaGCo3
import Derived.Test.YtmggbbmpckcleaaGWi2
import Derived.Test.YtmggbbmpckcleaaRows
import Derived.ProofKit
import Derived.OpenShut
import Derived.LaidMore
import Derived.Below
import Derived.ChangeSame
import Derived.ChangeOld
import Derived.Carry
import Derived.SliceStrings
import Derived.Laws.IdiomArrays
import Derived.Deep.Slices
namespace Go.Proofs.Ytmggbbmpckcleaa
open Go.ChangeShapes Go.WideShapes Go.ChangeAt Go.WideMaps Go.WideElems Go.RowKit

theorem own : ownKnob Try.prog.godebug = none := by kernel_rfl
theorem laidOut : laidOutB Try.prog = true := by kernel_rfl
section
variable {H : Type} {enc : TypeId × Value → H} {W : World} {base : Nat} {sp : Nat → Bool} {held : Bool}
end
end Go.Proofs.Ytmggbbmpckcleaa
namespace Go.Proofs.Ytmggbbmpckcleaa
open Go.ChangeShapes Go.WideShapes Go.ChangeAt Go.WideMaps Go.WideElems Go.RowKit

section
variable {H : Type} {enc : TypeId × Value → H} {W : World} {base : Nat} {sp : Nat → Bool} {held : Bool}
end
end Go.Proofs.Ytmggbbmpckcleaa

