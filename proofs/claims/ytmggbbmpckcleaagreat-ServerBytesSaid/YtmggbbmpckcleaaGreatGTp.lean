import Derived.Test.YtmggbbmpckcleaaGreatGKit
import Derived.Test.YtmggbbmpckcleaaGreatGPl
import Derived.Laws.BitsAllLaws
set_option maxRecDepth 100000
set_option maxHeartbeats 16000000
namespace Go.Proofs.YtmggbbmpckcleaaGreat
open Go.RowKit
def bt7 (s:ByteArray) (j:Nat):Nat:=if h:j < s.size then s[j].toNat else 0
theorem bt7_get {s:ByteArray} {j:Nat} (h:j < s.size):s[j].toNat=bt7 s j:=by rw [bt7,dif_pos h]
theorem bt7_lt (s:ByteArray) (j:Nat):bt7 s j < 256:=by
 unfold bt7
 split
 · exact UInt8.toNat_lt _
 · decide
theorem bt7_extract (s:ByteArray) (a b j:Nat) (h:j < b - a) (hb:b≤s.size):bt7 (s.extract a b) j=bt7 s (a + j):=by
 have h1:j < (s.extract a b).size:=by rw [ByteArray.size_extract];omega
 rw [← bt7_get h1,← bt7_get (show a + j < s.size by omega),ByteArray.getElem_extract]
theorem ne7 {U E:ByteArray} (h:U≠E):¬ U.toList=E.toList:=fun e=>h (by
 rw [ByteArray.toList_eq,ByteArray.toList_eq] at e
 cases U;cases E
 exact congrArg ByteArray.mk (Array.toList_inj.1 e))
theorem beq7 {U E:ByteArray} (h:U≠E):(U.toList == E.toList)=false:=by simpa using ne7 h
end Go.Proofs.YtmggbbmpckcleaaGreat
namespace Go.Proofs.YtmggbbmpckcleaaGreat
open Go.RowKit
end Go.Proofs.YtmggbbmpckcleaaGreat
namespace Go.Proofs.YtmggbbmpckcleaaGreat
open Go.RowKit
def rightV (B:ByteArray) (a:Int):Bool:=decide ((B.size:Int)≤65536) && (decide (0≤a) && decide (a≤(B.size:Int)))
theorem rightV_iff {B:ByteArray} {a:Int}:rightV B a=true↔B.size≤65536∧0≤a∧a≤(B.size:Int):=by
 simp only [rightV,Bool.and_eq_true,decide_eq_true_eq];omega
end Go.Proofs.YtmggbbmpckcleaaGreat
