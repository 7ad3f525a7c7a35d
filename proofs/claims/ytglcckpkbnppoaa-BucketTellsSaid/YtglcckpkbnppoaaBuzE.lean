/-
  Layer 12: numbers and raw steps that come in, as lists. Nothing of the program stands here.
-/
import Derived.Test.YtglcckpkbnppoaaBuxK
namespace Go.Proofs.Ytglcckpkbnppoaa
open Go.RowKit

abbrev iV12 (R : List Int) : List Value := R.map (Value.int .i64)
theorem InV.num12 {W : World} {A : Option Addr} {R : List Int} (h : InV W A (iV12 R)) {k : Nat} {x : Int} (hk : R[k]? = some x) : ∃ b off, A = some ⟨b, off, none⟩ ∧ b < W.heap.size ∧ W.cell? ⟨b, off + k, none⟩ = some (.int .i64 x) :=
  h k (.int .i64 x) (by rw [List.getElem?_map, hk]; rfl)
def Big12 (R : List Int) : Prop := ∀ y ∈ R, -9223372036854775808 ≤ y ∧ y ≤ 9223372036854775807
abbrev Raw12 := Int × Int × Int
abbrev flI12 (R : List Raw12) : List Value := R.flatMap fun n => [.int .i64 n.1, .int .i64 n.2.1, .int .i64 n.2.2]
theorem flI_at12 {R : List Raw12} {k : Nat} {x : Raw12} (h : R[k]? = some x) (j : Nat) (hj : j < 3) : (flI12 R)[k * 3 + j]? = ([.int .i64 x.1, .int .i64 x.2.1, .int .i64 x.2.2] : List Value)[j]? := by
  induction R generalizing k with
  | nil => rw [List.getElem?_nil] at h; cases h
  | cons y r ih =>
    rw [flI12, List.flatMap_cons, List.getElem?_append]
    cases k with
    | zero => cases h; rw [if_pos (by show 0 * 3 + j < 3; omega), Nat.zero_mul, Nat.zero_add]
    | succ k =>
      rw [List.getElem?_cons_succ] at h
      rw [if_neg (by show ¬ (k + 1) * 3 + j < 3; omega), ← ih h]
      congr 1
      show (k + 1) * 3 + j - 3 = _
      omega
def Bigr12 (n : Raw12) : Prop := (-9223372036854775808 ≤ n.1 ∧ n.1 ≤ 9223372036854775807) ∧ (-9223372036854775808 ≤ n.2.1 ∧ n.2.1 ≤ 9223372036854775807) ∧ (-9223372036854775808 ≤ n.2.2 ∧ n.2.2 ≤ 9223372036854775807)
end Go.Proofs.Ytglcckpkbnppoaa
