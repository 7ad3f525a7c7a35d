/-
  No cell of these rows narrows 'for every input' (looked for: loops, veiled, ifaces, maps, wideKeys, modest, calm, conditions, laid).
  DERIVED. THE GIVEN ROWS OF THIS SEAT. 6 by the template 'for every input the law returns true; each argument reads behind the call as it read before'; 0 by the template 'total and deterministic' (their statements: YtglcckpkbnppoaaTotals.lean).
  GIVEN WITH THE SEED: the statements are not yours to turn. If you find one false, say at which input.
  Laid BY PROGRAM, IN A SANDBOX (cutbox-rows.mjs): the forced cells as the released guide's own fill.sh prints them over the translation 48deda7148fa06d1… (all of the seat's roots in one cut). By AI agents, Wed Nov 11 2026. No macro, syntax, notation, axiom, sorry.
-/
import Derived.Test.YtglcckpkbnppoaaChecked
import GoSem.Claim
import GoSem.ClaimJoined
import GoSem.ClaimMapViews
import Derived.JoinedTies
import Derived.KernelRfl
namespace Go.Proofs.Ytglcckpkbnppoaa
/- THE CELL 'sum', in the pinned program and in every row, IS THE sha256 OF THE DUMP (.gsa) THAT YtglcckpkbnppoaaProg.lean LOADS. Nothing in Lean hashes anything: it is a label: what it is worth is what the hold of that sum in a sandbox is worth. -/
noncomputable def Try.pinned : Pinned := { name := "ytglcckpkbnppoaa", sum := "48deda7148fa06d1ea5985a4ded84aa374485764ad9202e4df9edcd7fab0814d", checked := Try.checked }
namespace Rows
def none {H : Type} : Left H := { results := [], args := [] }

/-- 'columbariumlaw12.BucketTells': WHATEVER THE INPUT: true; the input reads as it did. -/
def bucketTellsSpec : ChangeSpec := { name := "bucketTells", fn := fun _ => fun
  | [d1, d2, d3, d4, d5, d6, d7] => { results := [.lit (.bool true)], args := [d1, d2, d3, d4, d5, d6, d7] }
  | _ => none }
def bucketTellsRow : OpenClaim := { program := "ytglcckpkbnppoaa", sum := "48deda7148fa06d1ea5985a4ded84aa374485764ad9202e4df9edcd7fab0814d", func := "columbarium/columbariumlaw12.BucketTells", spec := "bucketTells", inPlace := ["internal/bytealg.abigen_runtime_cmpstring"], unfollowed := true, recurses := true, apart := false }
def BucketTellsSaid : Prop := bucketTellsRow.holds Try.pinned (OpenSpec.ofChange bucketTellsSpec)

/-- ITS FALSE NEIGHBOUR: 'it returns false'. Refute it at one input. -/
def bucketTellsWrong : ChangeSpec := { name := "bucketTells", fn := fun _ => fun
  | [d1, d2, d3, d4, d5, d6, d7] => { results := [.lit (.bool false)], args := [d1, d2, d3, d4, d5, d6, d7] }
  | _ => none }
def BucketTellsWrongFalsely : Prop := bucketTellsRow.holds Try.pinned (OpenSpec.ofChange bucketTellsWrong)

/-- 'columbariumlaw12.BucketLast': WHATEVER THE INPUT: true; the input reads as it did. -/
def bucketLastSpec : ChangeSpec := { name := "bucketLast", fn := fun _ => fun
  | [d] => { results := [.lit (.bool true)], args := [d] }
  | _ => none }
def bucketLastRow : OpenClaim := { program := "ytglcckpkbnppoaa", sum := "48deda7148fa06d1ea5985a4ded84aa374485764ad9202e4df9edcd7fab0814d", func := "columbarium/columbariumlaw12.BucketLast", spec := "bucketLast", inPlace := ["internal/bytealg.abigen_runtime_cmpstring"], unfollowed := true, recurses := true, apart := false }
def BucketLastSaid : Prop := bucketLastRow.holds Try.pinned (OpenSpec.ofChange bucketLastSpec)

/-- ITS FALSE NEIGHBOUR: 'it returns false'. Refute it at one input. -/
def bucketLastWrong : ChangeSpec := { name := "bucketLast", fn := fun _ => fun
  | [d] => { results := [.lit (.bool false)], args := [d] }
  | _ => none }
def BucketLastWrongFalsely : Prop := bucketLastRow.holds Try.pinned (OpenSpec.ofChange bucketLastWrong)

/-- 'columbariumlaw12.BucketOrders': WHATEVER THE INPUT: true; the input reads as it did. -/
def bucketOrdersSpec : ChangeSpec := { name := "bucketOrders", fn := fun _ => fun
  | [d1, d2] => { results := [.lit (.bool true)], args := [d1, d2] }
  | _ => none }
def bucketOrdersRow : OpenClaim := { program := "ytglcckpkbnppoaa", sum := "48deda7148fa06d1ea5985a4ded84aa374485764ad9202e4df9edcd7fab0814d", func := "columbarium/columbariumlaw12.BucketOrders", spec := "bucketOrders", inPlace := ["internal/bytealg.abigen_runtime_cmpstring"], unfollowed := true, recurses := true, apart := false }
def BucketOrdersSaid : Prop := bucketOrdersRow.holds Try.pinned (OpenSpec.ofChange bucketOrdersSpec)

/-- ITS FALSE NEIGHBOUR: 'it returns false'. Refute it at one input. -/
def bucketOrdersWrong : ChangeSpec := { name := "bucketOrders", fn := fun _ => fun
  | [d1, d2] => { results := [.lit (.bool false)], args := [d1, d2] }
  | _ => none }
def BucketOrdersWrongFalsely : Prop := bucketOrdersRow.holds Try.pinned (OpenSpec.ofChange bucketOrdersWrong)

/-- 'columbariumlaw12.BucketRoom': WHATEVER THE INPUT: true; the input reads as it did. -/
def bucketRoomSpec : ChangeSpec := { name := "bucketRoom", fn := fun _ => fun
  | [d] => { results := [.lit (.bool true)], args := [d] }
  | _ => none }
def bucketRoomRow : OpenClaim := { program := "ytglcckpkbnppoaa", sum := "48deda7148fa06d1ea5985a4ded84aa374485764ad9202e4df9edcd7fab0814d", func := "columbarium/columbariumlaw12.BucketRoom", spec := "bucketRoom", inPlace := ["internal/bytealg.abigen_runtime_cmpstring"], unfollowed := true, recurses := true, apart := false }
def BucketRoomSaid : Prop := bucketRoomRow.holds Try.pinned (OpenSpec.ofChange bucketRoomSpec)

/-- ITS FALSE NEIGHBOUR: 'it returns false'. Refute it at one input. -/
def bucketRoomWrong : ChangeSpec := { name := "bucketRoom", fn := fun _ => fun
  | [d] => { results := [.lit (.bool false)], args := [d] }
  | _ => none }
def BucketRoomWrongFalsely : Prop := bucketRoomRow.holds Try.pinned (OpenSpec.ofChange bucketRoomWrong)

/-- 'columbariumlaw12.BucketWays': WHATEVER THE INPUT: true; the input reads as it did. -/
def bucketWaysSpec : ChangeSpec := { name := "bucketWays", fn := fun _ => fun
  | [d] => { results := [.lit (.bool true)], args := [d] }
  | _ => none }
def bucketWaysRow : OpenClaim := { program := "ytglcckpkbnppoaa", sum := "48deda7148fa06d1ea5985a4ded84aa374485764ad9202e4df9edcd7fab0814d", func := "columbarium/columbariumlaw12.BucketWays", spec := "bucketWays", inPlace := ["internal/bytealg.abigen_runtime_cmpstring"], unfollowed := true, recurses := true, apart := false }
def BucketWaysSaid : Prop := bucketWaysRow.holds Try.pinned (OpenSpec.ofChange bucketWaysSpec)

/-- ITS FALSE NEIGHBOUR: 'it returns false'. Refute it at one input. -/
def bucketWaysWrong : ChangeSpec := { name := "bucketWays", fn := fun _ => fun
  | [d] => { results := [.lit (.bool false)], args := [d] }
  | _ => none }
def BucketWaysWrongFalsely : Prop := bucketWaysRow.holds Try.pinned (OpenSpec.ofChange bucketWaysWrong)

/-- 'columbariumlaw12.BucketOver': WHATEVER THE INPUT: true; the input reads as it did. -/
def bucketOverSpec : ChangeSpec := { name := "bucketOver", fn := fun _ => fun
  | [d1, d2, d3] => { results := [.lit (.bool true)], args := [d1, d2, d3] }
  | _ => none }
def bucketOverRow : OpenClaim := { program := "ytglcckpkbnppoaa", sum := "48deda7148fa06d1ea5985a4ded84aa374485764ad9202e4df9edcd7fab0814d", func := "columbarium/columbariumlaw12.BucketOver", spec := "bucketOver", inPlace := ["internal/bytealg.abigen_runtime_cmpstring"], unfollowed := true, recurses := true, apart := false }
def BucketOverSaid : Prop := bucketOverRow.holds Try.pinned (OpenSpec.ofChange bucketOverSpec)

/-- ITS FALSE NEIGHBOUR: 'it returns false'. Refute it at one input. -/
def bucketOverWrong : ChangeSpec := { name := "bucketOver", fn := fun _ => fun
  | [d1, d2, d3] => { results := [.lit (.bool false)], args := [d1, d2, d3] }
  | _ => none }
def BucketOverWrongFalsely : Prop := bucketOverRow.holds Try.pinned (OpenSpec.ofChange bucketOverWrong)

/- THE SECOND FORM. 'bulk': how many values and letters a reading holds, each counted each time it is reached (what is shared counts as often as it is met; a slice's spare places count too). A statement '..UptoSaid' is the law's where the arguments, and the package variables that the reading takes, are together of bulk at most 1048576: NARROWER than '..Said'. Prove '..Said' where nothing that the law and all that it calls make is longer than what came in: it says more and counts as full. Else prove '..UptoSaid'. A law counts once. -/
mutual
def uptoBulk {H : Type} : DataW H → Nat
  | .lit (.string bytes) => bytes.length + 1
  | .lit _ => 1
  | .nil => 1
  | .ptr d => uptoBulk d + 1
  | .slice elems spare => uptoBulkAll elems + uptoBulkAll spare + 1
  | .agg parts => uptoBulkAll parts + 1
  | .iface _ d => uptoBulk d + 1
  | .map entries => uptoBulkEntries entries + 1
  | .held _ => 1
def uptoBulkAll {H : Type} : List (DataW H) → Nat
  | [] => 0
  | d :: r => uptoBulk d + uptoBulkAll r
def uptoBulkEntries {H : Type} : List (Lit × DataW H) → Nat
  | [] => 0
  | x :: r => uptoBulkEntry x + uptoBulkEntries r
def uptoBulkEntry {H : Type} : Lit × DataW H → Nat
  | (.string bytes, d) => bytes.length + uptoBulk d + 1
  | (_, d) => uptoBulk d + 1
 end
def uptoSmall : (H : Type) → List (DataW H) → Bool := fun _ ds => decide (uptoBulkAll ds ≤ 1048576)
def OpenSpec.upto (s : _root_.Go.ChangeSpec) : _root_.Go.OpenSpec := { _root_.Go.OpenSpec.ofChange s with cond := some uptoSmall }

/-- 'columbariumlaw12.BucketTells', WHERE WHAT IT READS IS OF BULK AT MOST 1048576: true; the input reads as it did. -/
def bucketTellsUptoRow : OpenClaim := { program := "ytglcckpkbnppoaa", sum := "48deda7148fa06d1ea5985a4ded84aa374485764ad9202e4df9edcd7fab0814d", func := "columbarium/columbariumlaw12.BucketTells", spec := "bucketTells", inPlace := ["internal/bytealg.abigen_runtime_cmpstring"], unfollowed := true, recurses := true, apart := false, narrowed := true }
def BucketTellsUptoSaid : Prop := bucketTellsUptoRow.holds Try.pinned (OpenSpec.upto bucketTellsSpec)

/-- 'columbariumlaw12.BucketLast', WHERE WHAT IT READS IS OF BULK AT MOST 1048576: true; the input reads as it did. -/
def bucketLastUptoRow : OpenClaim := { program := "ytglcckpkbnppoaa", sum := "48deda7148fa06d1ea5985a4ded84aa374485764ad9202e4df9edcd7fab0814d", func := "columbarium/columbariumlaw12.BucketLast", spec := "bucketLast", inPlace := ["internal/bytealg.abigen_runtime_cmpstring"], unfollowed := true, recurses := true, apart := false, narrowed := true }
def BucketLastUptoSaid : Prop := bucketLastUptoRow.holds Try.pinned (OpenSpec.upto bucketLastSpec)

/-- 'columbariumlaw12.BucketOrders', WHERE WHAT IT READS IS OF BULK AT MOST 1048576: true; the input reads as it did. -/
def bucketOrdersUptoRow : OpenClaim := { program := "ytglcckpkbnppoaa", sum := "48deda7148fa06d1ea5985a4ded84aa374485764ad9202e4df9edcd7fab0814d", func := "columbarium/columbariumlaw12.BucketOrders", spec := "bucketOrders", inPlace := ["internal/bytealg.abigen_runtime_cmpstring"], unfollowed := true, recurses := true, apart := false, narrowed := true }
def BucketOrdersUptoSaid : Prop := bucketOrdersUptoRow.holds Try.pinned (OpenSpec.upto bucketOrdersSpec)

/-- 'columbariumlaw12.BucketRoom', WHERE WHAT IT READS IS OF BULK AT MOST 1048576: true; the input reads as it did. -/
def bucketRoomUptoRow : OpenClaim := { program := "ytglcckpkbnppoaa", sum := "48deda7148fa06d1ea5985a4ded84aa374485764ad9202e4df9edcd7fab0814d", func := "columbarium/columbariumlaw12.BucketRoom", spec := "bucketRoom", inPlace := ["internal/bytealg.abigen_runtime_cmpstring"], unfollowed := true, recurses := true, apart := false, narrowed := true }
def BucketRoomUptoSaid : Prop := bucketRoomUptoRow.holds Try.pinned (OpenSpec.upto bucketRoomSpec)

/-- 'columbariumlaw12.BucketWays', WHERE WHAT IT READS IS OF BULK AT MOST 1048576: true; the input reads as it did. -/
def bucketWaysUptoRow : OpenClaim := { program := "ytglcckpkbnppoaa", sum := "48deda7148fa06d1ea5985a4ded84aa374485764ad9202e4df9edcd7fab0814d", func := "columbarium/columbariumlaw12.BucketWays", spec := "bucketWays", inPlace := ["internal/bytealg.abigen_runtime_cmpstring"], unfollowed := true, recurses := true, apart := false, narrowed := true }
def BucketWaysUptoSaid : Prop := bucketWaysUptoRow.holds Try.pinned (OpenSpec.upto bucketWaysSpec)

/-- 'columbariumlaw12.BucketOver', WHERE WHAT IT READS IS OF BULK AT MOST 1048576: true; the input reads as it did. -/
def bucketOverUptoRow : OpenClaim := { program := "ytglcckpkbnppoaa", sum := "48deda7148fa06d1ea5985a4ded84aa374485764ad9202e4df9edcd7fab0814d", func := "columbarium/columbariumlaw12.BucketOver", spec := "bucketOver", inPlace := ["internal/bytealg.abigen_runtime_cmpstring"], unfollowed := true, recurses := true, apart := false, narrowed := true }
def BucketOverUptoSaid : Prop := bucketOverUptoRow.holds Try.pinned (OpenSpec.upto bucketOverSpec)

end Rows
end Go.Proofs.Ytglcckpkbnppoaa
