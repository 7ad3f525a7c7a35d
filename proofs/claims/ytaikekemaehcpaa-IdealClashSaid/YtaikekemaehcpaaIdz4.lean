/-
  Layer 8, plain: a clash found place by place.
-/
import Derived.Test.YtaikekemaehcpaaIdz1
namespace Go.Proofs.Ytaikekemaehcpaa
open Go.RowKit

/-- one more place. -/
theorem any_step8 {α : Type} (p : α → Bool) (v : Bool) {l : List α} {k : Nat} {y : α} (hy : l[k]? = some y) : (v || (l.take (k + 1)).any p) = ((v || (l.take k).any p) || p y) := by
  rw [List.take_add_one, hy, List.any_append]
  simp [Bool.or_assoc]
theorem pairs_step8 {α : Type} (f : α → α → Bool) {l : List α} {i : Nat} {x : α} (hx : l[i]? = some x) : pairs8 f (l.take (i + 1)) = (pairs8 f (l.take i) || (l.take i).any fun y => f y x) := by
  rw [List.take_add_one, hx]
  exact pairs8_snoc f _ x
theorem or_step8 {α : Type} (f : α → α → Bool) (v : Bool) {l : List α} {i : Nat} {x : α} (hx : l[i]? = some x) : (v || pairs8 f (l.take (i + 1))) = ((v || pairs8 f (l.take i)) || (l.take i).any fun y => f y x) := by
  rw [pairs_step8 f hx, Bool.or_assoc]
theorem not_pair8 {α : Type} (f : α → α → Bool) {l : List α} (h : pairs8 f l = false) {k i : Nat} {x y : α} (hk : k < i) (hy : l[k]? = some y) (hx : l[i]? = some x) : f y x = false := by
  cases hf : f y x with
  | false => rfl
  | true =>
    have := (pairs8_iff f l).2 ⟨k, i, y, x, hk, hy, hx, hf⟩
    rw [h] at this
    cases this
end Go.Proofs.Ytaikekemaehcpaa
