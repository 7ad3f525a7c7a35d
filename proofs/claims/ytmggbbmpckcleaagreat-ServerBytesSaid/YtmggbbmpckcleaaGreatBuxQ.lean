import Derived.Test.YtmggbbmpckcleaaGreatGBx3
import Derived.Shelf.SlSortCmp.WholeK
import Derived.Shelf.SlSortCmp.NoneTotal
import Derived.Shelf.Small.Strs
set_option maxRecDepth 100000
set_option maxHeartbeats 16000000
namespace Go.Proofs.YtmggbbmpckcleaaGreat
open Go.RowKit Go.Shelf Go.Lib Go.Sort
end Go.Proofs.YtmggbbmpckcleaaGreat
