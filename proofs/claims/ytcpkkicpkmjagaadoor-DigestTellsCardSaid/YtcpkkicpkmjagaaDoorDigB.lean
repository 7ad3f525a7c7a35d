/-
  The program's and the document's answers of layer 1 are the same: Compress, New, Right, Add, End, Sum. Conditions: words in their range; the tables hold what their initialisers lay.
-/
import Derived.Test.YtcpkkicpkmjagaaDoorRefS
import Derived.Test.YtcpkkicpkmjagaaDoorDigK
namespace Go.Proofs.YtcpkkicpkmjagaaDoor
open Go.RowKit

theorem right_small {x : Hs} (hr : rightB x = true) : x.r.size < 64 := by
  simp only [rightB, Bool.and_eq_true, decide_eq_true_eq, beq_iff_eq] at hr
  omega
theorem compress_both (h : S8) (hh : h.Ok) (b : ByteArray) : ∃ (r : S8) (e : Int),
    (∀ w, Tab w → Calls Tryd.prog 11 #[.agg h.arr, .string b] w fun x w' => x = .returned (.tuple #[.agg r.arr, .int .i64 e]) ∧ Below w.heap.size w w') ∧
    (∀ w, Calls Tryd.prog 12 #[.agg h.arr, .string b] w fun x w' => x = .returned (.tuple #[.agg r.arr, .int .i64 e]) ∧ Below w.heap.size w w') := by
  by_cases hb : b.size = 64
  · exact ⟨_, 0, fun w hT => compress_ok h b w hb hT, fun w => rcompress_ok h b w hb hh⟩
  · have hne : ((b.size : Int) != 64) = true := by simp; omega
    exact ⟨_, 1, fun w _ => compress_arg h b w hne, fun w => rcompress_arg h b w hne⟩
theorem add_both (x : Hs) (hh : x.h.Ok) (s : ByteArray) : ∃ (r : Hs) (e : Int),
    (∀ w, Tab w → Calls Tryd.prog 13 #[.agg x.arr, .string s] w fun v w' => v = .returned (.tuple #[.agg r.arr, .int .i64 e]) ∧ Below w.heap.size w w') ∧
    (∀ w, Calls Tryd.prog 15 #[.agg x.arr, .string s] w fun v w' => v = .returned (.tuple #[.agg r.arr, .int .i64 e]) ∧ Below w.heap.size w w') := by
  cases hr : rightB x with
  | false => exact ⟨_, 1, fun w _ => add_arg x s w hr, fun w => radd_arg x s w hr⟩
  | true =>
    by_cases hs : (s.size : Int) ≤ 1048576 - x.m
    · exact ⟨_, 0, fun w hT => add_ok x s w hT hr hs, fun w => radd_ok x s w hh hr hs⟩
    · exact ⟨_, 2, fun w _ => add_long x s w hr (by omega), fun w => radd_long x s w hr (by omega)⟩
theorem end_both (x : Hs) (hh : x.h.Ok) : ∃ (r : ByteArray) (e : Int),
    (∀ w, Tab w → Calls Tryd.prog 19 #[.agg x.arr] w fun v w' => v = .returned (.tuple #[.string r, .int .i64 e]) ∧ Below w.heap.size w w') ∧
    (∀ w, Calls Tryd.prog 20 #[.agg x.arr] w fun v w' => v = .returned (.tuple #[.string r, .int .i64 e]) ∧ Below w.heap.size w w') := by
  cases hr : rightB x with
  | false => exact ⟨_, 1, fun w _ => end_arg x w hr, fun w => rend_arg x w hr⟩
  | true => exact ⟨_, 0, fun w hT => end_ok x w hT hr, fun w => rend_ok x w hh hr⟩
end Go.Proofs.YtcpkkicpkmjagaaDoor
