/-
  Contracts of digest.turn and digest.round: each answers the plain function of the same kind; conditions: none beyond the shapes of the arguments.
-/
import Derived.Test.YtcpkkicpkmjagaaDoorProg
import Derived.Test.YtcpkkicpkmjagaaDoorDigP
import Derived.Test.YtcpkkicpkmjagaaDoorKit
namespace Go.Proofs.YtcpkkicpkmjagaaDoor
open Go.RowKit

set_option maxHeartbeats 400000 in
theorem turn_any (n x : Int) (w : World) (h0 : 0 ≤ n) (h1 : n ≤ 32) :
    Calls Tryd.prog 61 #[.int .u64 n, .int .u32 x] w fun e w' => e = .returned (.int .u32 (tw n x)) ∧ w = w' := by
  go_enter Tryd.func61, Tryd.ntmps61
  go_wp2
  go_ret
  exact ⟨rfl, rfl⟩

set_option maxHeartbeats 1000000 in
theorem round_any (s : S8) (m : Int) (w : World) :
    Calls Tryd.prog 52 #[.agg s.arr, .int .u32 m] w fun e w' => e = .returned (.agg (rnd s m).arr) ∧ Below w.heap.size w w' := by
  obtain ⟨a, b, c, d, e, f, g, h⟩ := s
  have hs : IntKind.u32.signed = false := rfl
  go_enter Tryd.func52, Tryd.ntmps52
  go_wp2
  go_quiet (fail)
  go_wp2
  go_quiet ((go_at_call 61; exact qadd (turn_any _ _ _ (by omega) (by omega))))
  go_wp2_with (go_at_call 61; refine (turn_any _ _ _ (by omega) (by omega)).mono ?_; rintro e w' ⟨rfl, rfl⟩)
  refine bodyPost_ret (results_cell_row Tryd.results52 _ _ (w.heap.size + 1) 23 (rnd ⟨a, b, c, d, e, f, g, h⟩ m).arr (0, 0) _ rfl (heap_alloc2_new w _ _) Tryd.underlying23 rfl (by kernel_rfl)) rfl ⟨rfl, ?_⟩
  exact belowN (((Below.refl _ _).alloc (Nat.le_refl _) _).alloc (by simp) _) _
end Go.Proofs.YtcpkkicpkmjagaaDoor
