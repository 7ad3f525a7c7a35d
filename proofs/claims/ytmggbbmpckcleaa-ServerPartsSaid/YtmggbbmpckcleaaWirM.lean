/-
  Contracts of the document's own Right and May, Same and Alike.
-/
import Derived.Test.YtmggbbmpckcleaaWirL
namespace Go.Proofs.Ytmggbbmpckcleaa
open Go.RowKit Go.Shelf

end Go.Proofs.Ytmggbbmpckcleaa

