/-
  Layer 7, plain: bytes of a text by their number; texts that differ. Nothing of the program stands here.
-/
import Derived.Test.YtapfbcpbiagogaaKit
import Derived.Test.YtapfbcpbiagogaaPick
import Derived.Laws.BitsAllLaws
namespace Go.Proofs.Ytapfbcpbiagogaa
open Go.RowKit

/-- byte j of a text; 0 behind its end. -/
def bt7 (s : ByteArray) (j : Nat) : Nat := if h : j < s.size then s[j].toNat else 0
theorem bt7_get {s : ByteArray} {j : Nat} (h : j < s.size) : s[j].toNat = bt7 s j := by rw [bt7, dif_pos h]
theorem bt7_lt (s : ByteArray) (j : Nat) : bt7 s j < 256 := by
  unfold bt7
  split
  · exact UInt8.toNat_lt _
  · decide
theorem bt7_extract (s : ByteArray) (a b j : Nat) (h : j < b - a) (hb : b ≤ s.size) : bt7 (s.extract a b) j = bt7 s (a + j) := by
  have h1 : j < (s.extract a b).size := by rw [ByteArray.size_extract]; omega
  rw [← bt7_get h1, ← bt7_get (show a + j < s.size by omega), ByteArray.getElem_extract]
theorem ne7 {U E : ByteArray} (h : U ≠ E) : ¬ U.toList = E.toList := fun e => h (by
  rw [ByteArray.toList_eq, ByteArray.toList_eq] at e
  cases U; cases E
  exact congrArg ByteArray.mk (Array.toList_inj.1 e))
theorem beq7 {U E : ByteArray} (h : U ≠ E) : (U.toList == E.toList) = false := by simpa using ne7 h
theorem tor7 (y z : Nat) (hy : y < 256) (hz : z < 256) : bits .or .i64 ((y : Int) * 256) (z : Int) = ((256 * y + z : Nat) : Int) := by
  have h1 : (BitVec.ofInt 64 ((y : Int) * 256)).toNat = y * 256 := by
    rw [show (y : Int) * 256 = ((y * 256 : Nat) : Int) by omega, BitVec.ofInt_natCast, BitVec.toNat_ofNat]; exact Nat.mod_eq_of_lt (by omega)
  have h2 : (BitVec.ofInt 64 (z : Int)).toNat = z := by
    rw [BitVec.ofInt_natCast, BitVec.toNat_ofNat]; exact Nat.mod_eq_of_lt (by omega)
  have h3 : y * 256 ||| z = y * 256 + z := by
    rw [show y * 256 = 2 ^ 8 * y by omega, ← Nat.two_pow_add_eq_or_of_lt (by omega)]
  show IntKind.i64.wrap ((BitVec.ofInt 64 ((y : Int) * 256) ||| BitVec.ofInt 64 (z : Int)).toNat : Int) = _
  rw [BitVec.toNat_or, h1, h2, h3, IntWalk.i64_in _ (by omega)]
  omega
end Go.Proofs.Ytapfbcpbiagogaa
