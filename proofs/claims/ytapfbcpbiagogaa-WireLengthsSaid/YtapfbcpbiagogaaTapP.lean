/-
  Layer 7, plain: numbers of two bytes, things that change places, lists that are turned. Nothing of the program stands here.
-/
import Derived.Test.YtapfbcpbiagogaaTapB
namespace Go.Proofs.Ytapfbcpbiagogaa
open Go.RowKit

/-- the number that two bytes are, the first one being the higher one. -/
def twoN (B : ByteArray) (a : Nat) : Nat := 256 * bt7 B a + bt7 B (a + 1)
theorem twoN_lt (B : ByteArray) (a : Nat) : twoN B a < 65536 := by
  have h1 := bt7_lt B a
  have h2 := bt7_lt B (a + 1)
  rw [twoN]; omega
/-- two places change what stands there. -/
def swpL (l : List Int) (i k : Nat) : List Int := (l.set i (l.getD k 0)).set k (l.getD i 0)
theorem swpL_len (l : List Int) (i k : Nat) : (swpL l i k).length = l.length := by rw [swpL, List.length_set, List.length_set]
theorem swpL_perm (l : List Int) (i k : Nat) (hi : i < l.length) (hk : k < l.length) : (swpL l i k).Perm l := by
  rw [swpL, List.getD_eq_getElem?_getD, List.getElem?_eq_getElem hk, List.getD_eq_getElem?_getD, List.getElem?_eq_getElem hi]
  exact List.set_set_perm hi hk
/-- the list behind j numbers: of each place from the last one down, what stands there and at the place that a number tells change places. -/
def trnL (B : ByteArray) (a : Nat) (l : List Int) : Nat → List Int
  | 0 => l
  | j + 1 => swpL (trnL B a l j) (l.length - 1 - j) (twoN B (a + 2 * j) % (l.length - 1 - j + 1))
theorem trnL_len (B : ByteArray) (a : Nat) (l : List Int) (j : Nat) : (trnL B a l j).length = l.length := by
  induction j with
  | zero => rfl
  | succ j ih => rw [trnL, swpL_len, ih]
theorem trnL_perm (B : ByteArray) (a : Nat) (l : List Int) (j : Nat) (hj : j < l.length ∨ j = 0) : (trnL B a l j).Perm l := by
  induction j with
  | zero => exact List.Perm.refl _
  | succ j ih =>
    have hl : j + 1 < l.length := by rcases hj with h | h <;> omega
    have hm : twoN B (a + 2 * j) % (l.length - 1 - j + 1) < l.length - 1 - j + 1 := Nat.mod_lt _ (by omega)
    rw [trnL]
    exact (swpL_perm _ _ _ (by rw [trnL_len]; omega) (by rw [trnL_len]; omega)).trans (ih (Or.inl (by omega)))
/-- the numbers below k, as a list. -/
def uptoL (k : Nat) : List Int := (List.range k).map fun (i : Nat) => (i : Int)
theorem uptoL_len (k : Nat) : (uptoL k).length = k := by simp [uptoL]
theorem uptoL_succ (k : Nat) : uptoL (k + 1) = uptoL k ++ [(k : Int)] := by simp [uptoL, List.range_succ]
theorem uptoL_nodup (k : Nat) : (uptoL k).Nodup := by
  rw [uptoL, List.nodup_iff_pairwise_ne, List.pairwise_map]
  exact List.nodup_range.imp (fun h e => h (by omega))
/-- a list that has each number below k once: each thing is one of these, and was not there ahead. -/
theorem each_once {k : Nat} {l : List Int} (h : l.Perm (uptoL k)) {i : Nat} (hi : i < l.length) :
    (0 ≤ l.getD i 0 ∧ l.getD i 0 < (k : Int)) ∧ l.getD i 0 ∉ l.take i := by
  have e : l.getD i 0 = l[i] := by rw [List.getD_eq_getElem?_getD, List.getElem?_eq_getElem hi]; rfl
  have hm : l[i] ∈ uptoL k := h.mem_iff.1 (List.getElem_mem hi)
  have hn : l.Nodup := h.symm.nodup (uptoL_nodup k)
  rw [e]
  refine ⟨?_, fun ht => ?_⟩
  · simp only [uptoL, List.mem_map, List.mem_range] at hm
    obtain ⟨j, hj, hj2⟩ := hm
    omega
  · obtain ⟨j, hj, hj2⟩ := List.getElem_of_mem ht
    have hjl : j < i := by rw [List.length_take] at hj; omega
    rw [List.getElem_take] at hj2
    exact List.pairwise_iff_getElem.1 hn j i (by omega) hi hjl hj2
end Go.Proofs.Ytapfbcpbiagogaa
