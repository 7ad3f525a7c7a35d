import Derived.Test.YtmggbbmpckcleaaGreatBuxQ
set_option maxRecDepth 100000
set_option maxHeartbeats 16000000
namespace Go.Proofs.YtmggbbmpckcleaaGreat
open Go.RowKit Go.Shelf
attribute [local go_sem] Oper.semAt_some
theorem Is.row_of12 {A B:World} {g g':Nat} {t:TypeId} {cs:Array Value} (hg:A.grownBy B (some g)) (h:Is A g' t cs) (hne:g'≠g):Is B g' t cs:=(hg.block _ h.lt (by intro e;exact hne (Option.some.inj e))).trans h
end Go.Proofs.YtmggbbmpckcleaaGreat
