import Derived.Test.YtmggbbmpckcleaaGreatBuxR
import Derived.Test.YtmggbbmpckcleaaGreatGCo1
import Derived.Test.YtmggbbmpckcleaaGreatGCo3
set_option maxRecDepth 100000
set_option maxHeartbeats 16000000
namespace Go.Proofs.YtmggbbmpckcleaaGreat
open Go.RowKit Go.Shelf
end Go.Proofs.YtmggbbmpckcleaaGreat
