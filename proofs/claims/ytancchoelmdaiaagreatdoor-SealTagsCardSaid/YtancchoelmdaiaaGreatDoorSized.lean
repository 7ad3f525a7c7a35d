/-
  A text that came in is no longer than the form's own reach. Nothing of the program stands here.
-/
import Derived.Test.YtancchoelmdaiaaGreatDoorGKit
import Derived.SizedLaws
namespace Go.Proofs.YtancchoelmdaiaaGreatDoor
theorem sized_str {H : Type} {P : Program} {ts : List TypeId} {ds : List (DataW H)} (h : (DataW.weightsEach P ts ds).all (· ≤ reachBytes) = true) (j : Nat) {t : TypeId} {x : ByteArray} (ht : ts[j]? = some t)
    (hd : ds[j]? = some (.lit (.string x.data.toList))) : x.size ≤ reachBytes := by
  have := sized_string h ht hd
  rwa [Array.length_toList] at this
end Go.Proofs.YtancchoelmdaiaaGreatDoor
