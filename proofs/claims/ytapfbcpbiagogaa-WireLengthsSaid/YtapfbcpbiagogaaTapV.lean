/-
  Layer 7, plain: what is told of a tape, errors and all, as functions of its bytes and its place. Nothing of the program stands here.
-/
import Derived.Test.YtapfbcpbiagogaaTapP
namespace Go.Proofs.Ytapfbcpbiagogaa
open Go.RowKit

def rightV (B : ByteArray) (a : Int) : Bool := decide ((B.size : Int) ≤ 65536) && (decide (0 ≤ a) && decide (a ≤ (B.size : Int)))
theorem rightV_iff {B : ByteArray} {a : Int} : rightV B a = true ↔ B.size ≤ 65536 ∧ 0 ≤ a ∧ a ≤ (B.size : Int) := by
  simp only [rightV, Bool.and_eq_true, decide_eq_true_eq]; omega
def leftV (B : ByteArray) (a : Int) : Int := if rightV B a then (B.size : Int) - a else 0
/-- Take: its error; what is taken; where the tape stands behind it. -/
def takeE (B : ByteArray) (a n : Int) : Int := if rightV B a && decide (0 ≤ n) then (if leftV B a < n then 12 else 0) else 1
def takeS (B : ByteArray) (a n : Int) : ByteArray := if takeE B a n = 0 then B.extract a.toNat (a + n).toNat else ⟨#[]⟩
def takeA (B : ByteArray) (a n : Int) : Int := if takeE B a n = 0 then a + n else a
/-- Number: its error; the number; where the tape stands. -/
def numE (B : ByteArray) (a n : Int) : Int := if rightV B a && (decide (1 ≤ n) && decide (n ≤ 65536)) then (if leftV B a < 2 then 12 else 0) else 1
def numV (B : ByteArray) (a n : Int) : Int := if numE B a n = 0 then (twoN B a.toNat : Int) % n else 0
def numA (B : ByteArray) (a n : Int) : Int := if numE B a n = 0 then a + 2 else a
/-- Turn: its error; the list; where the tape stands. -/
def turnE (B : ByteArray) (a : Int) (l : List Int) : Int := if rightV B a then (if 1000 < l.length then 2 else if leftV B a < 2 * ((l.length - 1 : Nat) : Int) then 12 else 0) else 1
def turnV (B : ByteArray) (a : Int) (l : List Int) : List Int := if turnE B a l = 0 then trnL B a.toNat l (l.length - 1) else []
def turnA (B : ByteArray) (a : Int) (l : List Int) : Int := if turnE B a l = 0 then a + 2 * ((l.length - 1 : Nat) : Int) else a
theorem turnV_perm (B : ByteArray) (a : Int) (l : List Int) (h : turnE B a l = 0) : (turnV B a l).Perm l := by
  rw [turnV, if_pos h]
  exact trnL_perm _ _ _ _ (by omega)
end Go.Proofs.Ytapfbcpbiagogaa
