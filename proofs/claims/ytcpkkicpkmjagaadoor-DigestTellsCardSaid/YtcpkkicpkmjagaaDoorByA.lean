/-
  Rows of bytes as cells. Nothing of the program stands here.
-/
import Derived.Test.YtcpkkicpkmjagaaDoorKit
namespace Go.Proofs.YtcpkkicpkmjagaaDoor

/-- bytes as cells. -/
def byA (X : List Int) : Array Value := (X.map (Value.int .u8)).toArray
theorem byA_size (X : List Int) : (byA X).size = X.length := by simp [byA]
theorem byA_one (X : List Int) : (byA X).all (·.oneCell') = true := by
  rw [Array.all_eq_true_iff_forall_mem]
  intro v hv
  simp only [byA, List.mem_toArray, List.mem_map] at hv
  obtain ⟨x, _, rfl⟩ := hv
  rfl
theorem byA_get (X : List Int) (j : Nat) (h : j < X.length) : (byA X)[j]? = some (.int .u8 (X.getD j 0)) := by
  simp [byA, h]
theorem byA_set (X : List Int) (j : Nat) (x : Int) : (byA X).setIfInBounds j (.int .u8 x) = byA (X.set j x) := by
  simp [byA, List.map_set]
end Go.Proofs.YtcpkkicpkmjagaaDoor
