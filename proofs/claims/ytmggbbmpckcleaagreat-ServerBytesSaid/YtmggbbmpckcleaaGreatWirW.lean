import Derived.Test.YtmggbbmpckcleaaGreatGWi2
import Derived.Test.YtmggbbmpckcleaaGreatGWi3
import Derived.Test.YtmggbbmpckcleaaGreatWirR
set_option maxRecDepth 100000
set_option maxHeartbeats 16000000
namespace Go.Proofs.YtmggbbmpckcleaaGreat
open Go.RowKit Go.Shelf
theorem wdec11 (s:ByteArray) (w:World):Calls Tryz.prog 43 #[.string s] w fun r w'=>DecPost11 (decV11 s) w r w':=wdec_any11 s w
end Go.Proofs.YtmggbbmpckcleaaGreat
