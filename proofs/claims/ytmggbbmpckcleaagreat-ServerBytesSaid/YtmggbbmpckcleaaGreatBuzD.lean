import Derived.Test.YtmggbbmpckcleaaGreatBuzC
import Derived.Deep.DeepCutAuto
set_option maxRecDepth 100000
set_option maxHeartbeats 16000000
namespace Go.Proofs.YtmggbbmpckcleaaGreat
open Go.RowKit Go.Shelf
theorem cell_below12 {W W':World} (hb:Below W.heap.size W W') {p:Addr} {v:Value} (h:W.cell? p=some v) (hp:p.block < W.heap.size):W'.cell? p=some v:=by
 rw [← h]
 simp only [World.cell?,hb.block _ hp]
end Go.Proofs.YtmggbbmpckcleaaGreat
