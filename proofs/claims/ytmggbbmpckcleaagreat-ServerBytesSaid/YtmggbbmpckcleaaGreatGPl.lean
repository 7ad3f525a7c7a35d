import Derived.WalkKit
set_option maxRecDepth 100000
set_option maxHeartbeats 16000000
namespace Go.Proofs.YtmggbbmpckcleaaGreat
def pickN (c n:Int):Int:=(if c < 0 then -(c + 1) else c) % n
theorem pickN_bd (c n:Int) (hn:0 < n):0≤pickN c n∧pickN c n < n:=⟨Int.emod_nonneg _ (by omega),Int.emod_lt_of_pos _ hn⟩
end Go.Proofs.YtmggbbmpckcleaaGreat
