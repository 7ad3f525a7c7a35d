/-
  What layer 13's rows share: rows of numbers, opened.
-/
import Derived.Test.YtmggbbmpckcleaaGRw1
import Derived.Deep.Matrix
namespace Go.Proofs.Ytmggbbmpckcleaa
open Go.ChangeShapes Go.WideShapes Go.ChangeAt Go.WideMaps Go.WideElems Go.RowKit

/-- a row: where it lies, its numbers, its room. -/
abbrev Row13 := Option Addr × List Int × Nat
def GrIn13 (W : World) (Rs : List Row13) : Prop := ∀ r ∈ Rs, InV W r.1 (iV11 r.2.1) ∧ Big11 r.2.1 ∧ r.2.1.length ≤ r.2.2 ∧ r.2.1.length ≤ maxLen
theorem GrIn13.keep {W W' : World} {Rs : List Row13} (h : GrIn13 W Rs) (hb : Below W.heap.size W W') : GrIn13 W' Rs := fun r hr => ⟨(h r hr).1.keep hb, (h r hr).2⟩
section
variable {H : Type} {enc : TypeId × Value → H} {W : World} {base : Nat} {held : Bool}
end
end Go.Proofs.Ytmggbbmpckcleaa

