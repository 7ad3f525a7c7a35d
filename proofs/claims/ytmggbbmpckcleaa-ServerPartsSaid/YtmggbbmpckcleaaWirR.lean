/-
  Contracts of the document's own Decode and Read: what decV11 and readV11 say.
-/
import Derived.Test.YtmggbbmpckcleaaWirM
import Derived.Test.YtmggbbmpckcleaaGWi3
import Derived.Test.YtmggbbmpckcleaaGCo3
import Derived.Deep.DeepCutAuto
namespace Go.Proofs.Ytmggbbmpckcleaa
open Go.RowKit Go.Shelf

/-- what Decode tells: a request in memory. -/
def DecPost11 (D : Req11 × Int) (w : World) (r : Ending) (w' : World) : Prop :=
  ∃ B1 d1 B2 d2, r = .returned (.tuple #[.agg #[.int .i64 D.1.k, .slice B1 D.1.L.length d1, .slice B2 D.1.C.length d2], .int .i64 D.2]) ∧ InV w' B1 (tL10 D.1.L) ∧ InV w' B2 (tL10 D.1.C) ∧ Below w.heap.size w w'
end Go.Proofs.Ytmggbbmpckcleaa

