/-
  Contracts of the document's own answer for layer 1: rounds.
-/
import Derived.Test.YtcpkkicpkmjagaaDoorDigM
namespace Go.Proofs.YtcpkkicpkmjagaaDoor
open Go.RowKit

theorem wpList_build_is {P : Program} {ops : Array Oper} {rest : List Oper} {o : Oper} {a : Act} {w : World} {Q : Exit → Act → World → Prop} (hg : o.guard = none) (t : TypeId) (parts : Array (Nat × Operand)) (ho : o.op = .build t parts) (cells : Array Value)
    (hf : P.built t (parts.map fun (i, x) => (i, a.eval x)).toList = some cells) (h : wpList P ops Q rest (a.put o.dst (.agg cells)) w) : wpList P ops Q (o :: rest) a w :=
  wpList_build hg t parts ho (by rw [hf]; rfl) (by rw [hf]; exact h)

set_option maxRecDepth 100000 in
set_option maxHeartbeats 1000000 in
theorem rrounds_any (w : World) :
    Calls Tryd.prog 37 #[] w fun e w' => e = .returned (.agg (row64 KW)) ∧ Below w.heap.size w w' := by
  go_enter Tryd.func37, Tryd.ntmps37
  go_wp2_with (first
    | (refine wpList_build_is rfl 58 _ rfl (row64 KW) (by kernel_rfl) ?_)
    | (refine wpList_store_row rfl 58 _ _ rfl w.heap.size (row64 KW) rfl rfl _ _ (heap_alloc_new w _) (by kernel_rfl) (by kernel_rfl) (row64_one _) ?_; rw [World.setRow_alloc_new]))
  exact bodyPost_ret (results_cell_row Tryd.results37 _ _ w.heap.size 58 (row64 KW) (0, 0) _ rfl (heap_alloc_new w _) Tryd.underlying58 rfl (by kernel_rfl)) rfl ⟨rfl, (Below.refl _ _).alloc (Nat.le_refl _) _⟩
end Go.Proofs.YtcpkkicpkmjagaaDoor
