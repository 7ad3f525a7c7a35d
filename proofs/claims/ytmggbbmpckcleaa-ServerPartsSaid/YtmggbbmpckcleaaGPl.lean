/-
  Which of n things a raw number speaks of: the plain function. Nothing of the program stands here.
-/
import Derived.WalkKit
namespace Go.Proofs.Ytmggbbmpckcleaa

/-- which of n things a raw number speaks of. -/
def pickN (c n : Int) : Int := (if c < 0 then -(c + 1) else c) % n
theorem pickN_bd (c n : Int) (hn : 0 < n) : 0 ≤ pickN c n ∧ pickN c n < n := ⟨Int.emod_nonneg _ (by omega), Int.emod_lt_of_pos _ hn⟩
end Go.Proofs.Ytmggbbmpckcleaa

