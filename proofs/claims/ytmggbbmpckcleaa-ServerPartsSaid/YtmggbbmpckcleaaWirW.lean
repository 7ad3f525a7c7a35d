/-
  awake, the statements' own: it answers true. What Decode and Read of the program tell, in one form.
-/
import Derived.Test.YtmggbbmpckcleaaGWi2
import Derived.Test.YtmggbbmpckcleaaGWi3
import Derived.Test.YtmggbbmpckcleaaWirR
namespace Go.Proofs.Ytmggbbmpckcleaa
open Go.RowKit Go.Shelf

theorem wdec11 (s : ByteArray) (w : World) : Calls Try.prog 26 #[.string s] w fun r w' => DecPost11 (decV11 s) w r w' := wdec_any11 s w
end Go.Proofs.Ytmggbbmpckcleaa

