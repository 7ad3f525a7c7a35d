/-
  Contracts of the document's own sized, once, Texts, Num and Whole.
-/
import Derived.Test.YtmggbbmpckcleaaGWi1
namespace Go.Proofs.Ytmggbbmpckcleaa
open Go.RowKit Go.Shelf

end Go.Proofs.Ytmggbbmpckcleaa

