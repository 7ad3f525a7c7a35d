import Derived.Test.YtmggbbmpckcleaaGreatWirM
import Derived.Test.YtmggbbmpckcleaaGreatGWi3
import Derived.Test.YtmggbbmpckcleaaGreatGCo3
import Derived.Deep.DeepCutAuto
set_option maxRecDepth 100000
set_option maxHeartbeats 16000000
namespace Go.Proofs.YtmggbbmpckcleaaGreat
open Go.RowKit Go.Shelf
def DecPost11 (D : Req11 × Int) (w : World) (r : Ending) (w' : World) : Prop :=
 ∃ B1 d1 B2 d2, r = .returned (.tuple #[.agg #[.int .i64 D.1.k, .slice B1 D.1.L.length d1, .slice B2 D.1.C.length d2], .int .i64 D.2]) ∧ InV w' B1 (tL10 D.1.L) ∧ InV w' B2 (tL10 D.1.C) ∧ Below w.heap.size w w'
end Go.Proofs.YtmggbbmpckcleaaGreat
