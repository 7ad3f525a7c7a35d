/-
  Layer 7, plain: bytes of a text by their number; texts that differ. Nothing of the program stands here.
  Layer 7, plain: numbers of two bytes, things that change places, lists that are turned. Nothing of the program stands here.
  Layer 7, plain: what is told of a tape, errors and all, as functions of its bytes and its place. Nothing of the program stands here.
-/
import Derived.Test.YtglcckpkbnppoaaGKit
import Derived.Test.YtglcckpkbnppoaaGPl
import Derived.Laws.BitsAllLaws
namespace Go.Proofs.Ytglcckpkbnppoaa
open Go.RowKit

/-- byte j of a text; 0 behind its end. -/
def bt7 (s : ByteArray) (j : Nat) : Nat := if h : j < s.size then s[j].toNat else 0
theorem bt7_get {s : ByteArray} {j : Nat} (h : j < s.size) : s[j].toNat = bt7 s j := by rw [bt7, dif_pos h]
theorem bt7_lt (s : ByteArray) (j : Nat) : bt7 s j < 256 := by
  unfold bt7
  split
  · exact UInt8.toNat_lt _
  · decide
theorem bt7_extract (s : ByteArray) (a b j : Nat) (h : j < b - a) (hb : b ≤ s.size) : bt7 (s.extract a b) j = bt7 s (a + j) := by
  have h1 : j < (s.extract a b).size := by rw [ByteArray.size_extract]; omega
  rw [← bt7_get h1, ← bt7_get (show a + j < s.size by omega), ByteArray.getElem_extract]
theorem ne7 {U E : ByteArray} (h : U ≠ E) : ¬ U.toList = E.toList := fun e => h (by
  rw [ByteArray.toList_eq, ByteArray.toList_eq] at e
  cases U; cases E
  exact congrArg ByteArray.mk (Array.toList_inj.1 e))
theorem beq7 {U E : ByteArray} (h : U ≠ E) : (U.toList == E.toList) = false := by simpa using ne7 h
theorem tor7 (y z : Nat) (hy : y < 256) (hz : z < 256) : bits .or .i64 ((y : Int) * 256) (z : Int) = ((256 * y + z : Nat) : Int) := by
  have h1 : (BitVec.ofInt 64 ((y : Int) * 256)).toNat = y * 256 := by
    rw [show (y : Int) * 256 = ((y * 256 : Nat) : Int) by omega, BitVec.ofInt_natCast, BitVec.toNat_ofNat]; exact Nat.mod_eq_of_lt (by omega)
  have h2 : (BitVec.ofInt 64 (z : Int)).toNat = z := by
    rw [BitVec.ofInt_natCast, BitVec.toNat_ofNat]; exact Nat.mod_eq_of_lt (by omega)
  have h3 : y * 256 ||| z = y * 256 + z := by
    rw [show y * 256 = 2 ^ 8 * y by omega, ← Nat.two_pow_add_eq_or_of_lt (by omega)]
  show IntKind.i64.wrap ((BitVec.ofInt 64 ((y : Int) * 256) ||| BitVec.ofInt 64 (z : Int)).toNat : Int) = _
  rw [BitVec.toNat_or, h1, h2, h3, IntWalk.i64_in _ (by omega)]
  omega
end Go.Proofs.Ytglcckpkbnppoaa
namespace Go.Proofs.Ytglcckpkbnppoaa
open Go.RowKit

/-- the number that two bytes are, the first one being the higher one. -/
def twoN (B : ByteArray) (a : Nat) : Nat := 256 * bt7 B a + bt7 B (a + 1)
theorem twoN_lt (B : ByteArray) (a : Nat) : twoN B a < 65536 := by
  have h1 := bt7_lt B a
  have h2 := bt7_lt B (a + 1)
  rw [twoN]; omega
/-- two places change what stands there. -/
def swpL (l : List Int) (i k : Nat) : List Int := (l.set i (l.getD k 0)).set k (l.getD i 0)
theorem swpL_len (l : List Int) (i k : Nat) : (swpL l i k).length = l.length := by rw [swpL, List.length_set, List.length_set]
theorem swpL_perm (l : List Int) (i k : Nat) (hi : i < l.length) (hk : k < l.length) : (swpL l i k).Perm l := by
  rw [swpL, List.getD_eq_getElem?_getD, List.getElem?_eq_getElem hk, List.getD_eq_getElem?_getD, List.getElem?_eq_getElem hi]
  exact List.set_set_perm hi hk
/-- the list behind j numbers: of each place from the last one down, what stands there and at the place that a number tells change places. -/
def trnL (B : ByteArray) (a : Nat) (l : List Int) : Nat → List Int
  | 0 => l
  | j + 1 => swpL (trnL B a l j) (l.length - 1 - j) (twoN B (a + 2 * j) % (l.length - 1 - j + 1))
theorem trnL_len (B : ByteArray) (a : Nat) (l : List Int) (j : Nat) : (trnL B a l j).length = l.length := by
  induction j with
  | zero => rfl
  | succ j ih => rw [trnL, swpL_len, ih]
theorem trnL_perm (B : ByteArray) (a : Nat) (l : List Int) (j : Nat) (hj : j < l.length ∨ j = 0) : (trnL B a l j).Perm l := by
  induction j with
  | zero => exact List.Perm.refl _
  | succ j ih =>
    have hl : j + 1 < l.length := by rcases hj with h | h <;> omega
    have hm : twoN B (a + 2 * j) % (l.length - 1 - j + 1) < l.length - 1 - j + 1 := Nat.mod_lt _ (by omega)
    rw [trnL]
    exact (swpL_perm _ _ _ (by rw [trnL_len]; omega) (by rw [trnL_len]; omega)).trans (ih (Or.inl (by omega)))
/-- the numbers below k, as a list. -/
def uptoL (k : Nat) : List Int := (List.range k).map fun (i : Nat) => (i : Int)
theorem uptoL_len (k : Nat) : (uptoL k).length = k := by simp [uptoL]
theorem uptoL_succ (k : Nat) : uptoL (k + 1) = uptoL k ++ [(k : Int)] := by simp [uptoL, List.range_succ]
theorem uptoL_nodup (k : Nat) : (uptoL k).Nodup := by
  rw [uptoL, List.nodup_iff_pairwise_ne, List.pairwise_map]
  exact List.nodup_range.imp (fun h e => h (by omega))
/-- a list that has each number below k once: each thing is one of these, and was not there ahead. -/
theorem each_once {k : Nat} {l : List Int} (h : l.Perm (uptoL k)) {i : Nat} (hi : i < l.length) :
    (0 ≤ l.getD i 0 ∧ l.getD i 0 < (k : Int)) ∧ l.getD i 0 ∉ l.take i := by
  have e : l.getD i 0 = l[i] := by rw [List.getD_eq_getElem?_getD, List.getElem?_eq_getElem hi]; rfl
  have hm : l[i] ∈ uptoL k := h.mem_iff.1 (List.getElem_mem hi)
  have hn : l.Nodup := h.symm.nodup (uptoL_nodup k)
  rw [e]
  refine ⟨?_, fun ht => ?_⟩
  · simp only [uptoL, List.mem_map, List.mem_range] at hm
    obtain ⟨j, hj, hj2⟩ := hm
    omega
  · obtain ⟨j, hj, hj2⟩ := List.getElem_of_mem ht
    have hjl : j < i := by rw [List.length_take] at hj; omega
    rw [List.getElem_take] at hj2
    exact List.pairwise_iff_getElem.1 hn j i (by omega) hi hjl hj2
end Go.Proofs.Ytglcckpkbnppoaa
namespace Go.Proofs.Ytglcckpkbnppoaa
open Go.RowKit

def rightV (B : ByteArray) (a : Int) : Bool := decide ((B.size : Int) ≤ 65536) && (decide (0 ≤ a) && decide (a ≤ (B.size : Int)))
theorem rightV_iff {B : ByteArray} {a : Int} : rightV B a = true ↔ B.size ≤ 65536 ∧ 0 ≤ a ∧ a ≤ (B.size : Int) := by
  simp only [rightV, Bool.and_eq_true, decide_eq_true_eq]; omega
def leftV (B : ByteArray) (a : Int) : Int := if rightV B a then (B.size : Int) - a else 0
/-- Take: its error; what is taken; where the tape stands behind it. -/
def takeE (B : ByteArray) (a n : Int) : Int := if rightV B a && decide (0 ≤ n) then (if leftV B a < n then 12 else 0) else 1
def takeS (B : ByteArray) (a n : Int) : ByteArray := if takeE B a n = 0 then B.extract a.toNat (a + n).toNat else ⟨#[]⟩
def takeA (B : ByteArray) (a n : Int) : Int := if takeE B a n = 0 then a + n else a
/-- Number: its error; the number; where the tape stands. -/
def numE (B : ByteArray) (a n : Int) : Int := if rightV B a && (decide (1 ≤ n) && decide (n ≤ 65536)) then (if leftV B a < 2 then 12 else 0) else 1
def numV (B : ByteArray) (a n : Int) : Int := if numE B a n = 0 then (twoN B a.toNat : Int) % n else 0
def numA (B : ByteArray) (a n : Int) : Int := if numE B a n = 0 then a + 2 else a
/-- Turn: its error; the list; where the tape stands. -/
def turnE (B : ByteArray) (a : Int) (l : List Int) : Int := if rightV B a then (if 1000 < l.length then 2 else if leftV B a < 2 * ((l.length - 1 : Nat) : Int) then 12 else 0) else 1
def turnV (B : ByteArray) (a : Int) (l : List Int) : List Int := if turnE B a l = 0 then trnL B a.toNat l (l.length - 1) else []
def turnA (B : ByteArray) (a : Int) (l : List Int) : Int := if turnE B a l = 0 then a + 2 * ((l.length - 1 : Nat) : Int) else a
theorem turnV_perm (B : ByteArray) (a : Int) (l : List Int) (h : turnE B a l = 0) : (turnV B a l).Perm l := by
  rw [turnV, if_pos h]
  exact trnL_perm _ _ _ _ (by omega)
end Go.Proofs.Ytglcckpkbnppoaa
