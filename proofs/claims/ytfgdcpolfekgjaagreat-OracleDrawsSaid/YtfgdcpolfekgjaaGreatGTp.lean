/-
  Layer 7, plain: bytes of a text by their number; texts that differ. Nothing of the program stands here.
  Layer 7, plain: numbers of two bytes, things that change places, lists that are turned. Nothing of the program stands here.
  Layer 7, plain: what is told of a tape, errors and all, as functions of its bytes and its place. Nothing of the program stands here.
-/
import Derived.Test.YtfgdcpolfekgjaaGreatGKit
import Derived.Test.YtfgdcpolfekgjaaGreatGPl
import Derived.Laws.BitsAllLaws
namespace Go.Proofs.YtfgdcpolfekgjaaGreat
open Go.RowKit

theorem ne7 {U E : ByteArray} (h : U ≠ E) : ¬ U.toList = E.toList := fun e => h (by
  rw [ByteArray.toList_eq, ByteArray.toList_eq] at e
  cases U; cases E
  exact congrArg ByteArray.mk (Array.toList_inj.1 e))
theorem beq7 {U E : ByteArray} (h : U ≠ E) : (U.toList == E.toList) = false := by simpa using ne7 h
end Go.Proofs.YtfgdcpolfekgjaaGreat
namespace Go.Proofs.YtfgdcpolfekgjaaGreat
open Go.RowKit

end Go.Proofs.YtfgdcpolfekgjaaGreat
namespace Go.Proofs.YtfgdcpolfekgjaaGreat
open Go.RowKit

def rightV (B : ByteArray) (a : Int) : Bool := decide ((B.size : Int) ≤ 65536) && (decide (0 ≤ a) && decide (a ≤ (B.size : Int)))
theorem rightV_iff {B : ByteArray} {a : Int} : rightV B a = true ↔ B.size ≤ 65536 ∧ 0 ≤ a ∧ a ≤ (B.size : Int) := by
  simp only [rightV, Bool.and_eq_true, decide_eq_true_eq]; omega
def leftV (B : ByteArray) (a : Int) : Int := if rightV B a then (B.size : Int) - a else 0
/-- Take: its error; what is taken; where the tape stands behind it. -/
def takeE (B : ByteArray) (a n : Int) : Int := if rightV B a && decide (0 ≤ n) then (if leftV B a < n then 12 else 0) else 1
def takeS (B : ByteArray) (a n : Int) : ByteArray := if takeE B a n = 0 then B.extract a.toNat (a + n).toNat else ⟨#[]⟩
def takeA (B : ByteArray) (a n : Int) : Int := if takeE B a n = 0 then a + n else a
end Go.Proofs.YtfgdcpolfekgjaaGreat

