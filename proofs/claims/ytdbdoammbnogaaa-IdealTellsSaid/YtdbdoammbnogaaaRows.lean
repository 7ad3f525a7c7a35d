/-
  No cell of these rows narrows 'for every input' (looked for: loops, veiled, ifaces, maps, wideKeys, modest, calm, conditions, laid).
  DERIVED. THE GIVEN ROWS OF THIS SEAT. 5 by the template 'for every input the law returns true; each argument reads behind the call as it read before'; 0 by the template 'total and deterministic' (their statements: YtdbdoammbnogaaaTotals.lean).
  GIVEN WITH THE SEED: the statements are not yours to turn. If you find one false, say at which input.
  Laid BY PROGRAM, IN A SANDBOX (cutbox-rows.mjs): the forced cells as the released guide's own fill.sh prints them over the translation 2f7fb81576277834… (all of the seat's roots in one cut). By AI agents, Wed Nov 11 2026. No macro, syntax, notation, axiom, sorry.
-/
import Derived.Test.YtdbdoammbnogaaaChecked
import GoSem.Claim
import GoSem.ClaimJoined
import GoSem.ClaimMapViews
import Derived.JoinedTies
import Derived.KernelRfl
namespace Go.Proofs.Ytdbdoammbnogaaa
/- THE CELL 'sum', in the pinned program and in every row, IS THE sha256 OF THE DUMP (.gsa) THAT YtdbdoammbnogaaaProg.lean LOADS. Nothing in Lean hashes anything: it is a label: what it is worth is what the hold of that sum in a sandbox is worth. -/
noncomputable def Try.pinned : Pinned := { name := "ytdbdoammbnogaaa", sum := "2f7fb81576277834413119b40cd388045ed0da5cdef16b81f328cef559780c54", checked := Try.checked }
namespace Rows
def none {H : Type} : Left H := { results := [], args := [] }

/-- 'columbariumlaw08.IdealTells': WHATEVER THE INPUT: true; the input reads as it did. -/
def idealTellsSpec : ChangeSpec := { name := "idealTells", fn := fun _ => fun
  | [d1, d2, d3, d4, d5, d6, d7] => { results := [.lit (.bool true)], args := [d1, d2, d3, d4, d5, d6, d7] }
  | _ => none }
def idealTellsRow : OpenClaim := { program := "ytdbdoammbnogaaa", sum := "2f7fb81576277834413119b40cd388045ed0da5cdef16b81f328cef559780c54", func := "columbarium/columbariumlaw08.IdealTells", spec := "idealTells", unfollowed := true, recurses := true, plainKeys := false, apart := false }
def IdealTellsSaid : Prop := idealTellsRow.holds Try.pinned (OpenSpec.ofChange idealTellsSpec)

/-- ITS FALSE NEIGHBOUR: 'it returns false'. Refute it at one input. -/
def idealTellsWrong : ChangeSpec := { name := "idealTells", fn := fun _ => fun
  | [d1, d2, d3, d4, d5, d6, d7] => { results := [.lit (.bool false)], args := [d1, d2, d3, d4, d5, d6, d7] }
  | _ => none }
def IdealTellsWrongFalsely : Prop := idealTellsRow.holds Try.pinned (OpenSpec.ofChange idealTellsWrong)

/-- 'columbariumlaw08.IdealKeeps': WHATEVER THE INPUT: true; the input reads as it did. -/
def idealKeepsSpec : ChangeSpec := { name := "idealKeeps", fn := fun _ => fun
  | [d1, d2, d3] => { results := [.lit (.bool true)], args := [d1, d2, d3] }
  | _ => none }
def idealKeepsRow : OpenClaim := { program := "ytdbdoammbnogaaa", sum := "2f7fb81576277834413119b40cd388045ed0da5cdef16b81f328cef559780c54", func := "columbarium/columbariumlaw08.IdealKeeps", spec := "idealKeeps", unfollowed := true, recurses := true, plainKeys := false, apart := false }
def IdealKeepsSaid : Prop := idealKeepsRow.holds Try.pinned (OpenSpec.ofChange idealKeepsSpec)

/-- ITS FALSE NEIGHBOUR: 'it returns false'. Refute it at one input. -/
def idealKeepsWrong : ChangeSpec := { name := "idealKeeps", fn := fun _ => fun
  | [d1, d2, d3] => { results := [.lit (.bool false)], args := [d1, d2, d3] }
  | _ => none }
def IdealKeepsWrongFalsely : Prop := idealKeepsRow.holds Try.pinned (OpenSpec.ofChange idealKeepsWrong)

/-- 'columbariumlaw08.IdealHangs': WHATEVER THE INPUT: true; the input reads as it did. -/
def idealHangsSpec : ChangeSpec := { name := "idealHangs", fn := fun _ => fun
  | [d1, d2, d3, d4] => { results := [.lit (.bool true)], args := [d1, d2, d3, d4] }
  | _ => none }
def idealHangsRow : OpenClaim := { program := "ytdbdoammbnogaaa", sum := "2f7fb81576277834413119b40cd388045ed0da5cdef16b81f328cef559780c54", func := "columbarium/columbariumlaw08.IdealHangs", spec := "idealHangs", unfollowed := true, recurses := true, plainKeys := false, apart := false }
def IdealHangsSaid : Prop := idealHangsRow.holds Try.pinned (OpenSpec.ofChange idealHangsSpec)

/-- ITS FALSE NEIGHBOUR: 'it returns false'. Refute it at one input. -/
def idealHangsWrong : ChangeSpec := { name := "idealHangs", fn := fun _ => fun
  | [d1, d2, d3, d4] => { results := [.lit (.bool false)], args := [d1, d2, d3, d4] }
  | _ => none }
def IdealHangsWrongFalsely : Prop := idealHangsRow.holds Try.pinned (OpenSpec.ofChange idealHangsWrong)

/-- 'columbariumlaw08.IdealClash': WHATEVER THE INPUT: true; the input reads as it did. -/
def idealClashSpec : ChangeSpec := { name := "idealClash", fn := fun _ => fun
  | [d1, d2, d3] => { results := [.lit (.bool true)], args := [d1, d2, d3] }
  | _ => none }
def idealClashRow : OpenClaim := { program := "ytdbdoammbnogaaa", sum := "2f7fb81576277834413119b40cd388045ed0da5cdef16b81f328cef559780c54", func := "columbarium/columbariumlaw08.IdealClash", spec := "idealClash", unfollowed := true, recurses := true, plainKeys := false, apart := false }
def IdealClashSaid : Prop := idealClashRow.holds Try.pinned (OpenSpec.ofChange idealClashSpec)

/-- ITS FALSE NEIGHBOUR: 'it returns false'. Refute it at one input. -/
def idealClashWrong : ChangeSpec := { name := "idealClash", fn := fun _ => fun
  | [d1, d2, d3] => { results := [.lit (.bool false)], args := [d1, d2, d3] }
  | _ => none }
def IdealClashWrongFalsely : Prop := idealClashRow.holds Try.pinned (OpenSpec.ofChange idealClashWrong)

/-- 'columbariumlaw08.IdealNone': WHATEVER THE INPUT: true; the input reads as it did. -/
def idealNoneSpec : ChangeSpec := { name := "idealNone", fn := fun _ => fun
  | [d1, d2, d3, d4] => { results := [.lit (.bool true)], args := [d1, d2, d3, d4] }
  | _ => none }
def idealNoneRow : OpenClaim := { program := "ytdbdoammbnogaaa", sum := "2f7fb81576277834413119b40cd388045ed0da5cdef16b81f328cef559780c54", func := "columbarium/columbariumlaw08.IdealNone", spec := "idealNone", unfollowed := true, recurses := true, plainKeys := false, apart := false }
def IdealNoneSaid : Prop := idealNoneRow.holds Try.pinned (OpenSpec.ofChange idealNoneSpec)

/-- ITS FALSE NEIGHBOUR: 'it returns false'. Refute it at one input. -/
def idealNoneWrong : ChangeSpec := { name := "idealNone", fn := fun _ => fun
  | [d1, d2, d3, d4] => { results := [.lit (.bool false)], args := [d1, d2, d3, d4] }
  | _ => none }
def IdealNoneWrongFalsely : Prop := idealNoneRow.holds Try.pinned (OpenSpec.ofChange idealNoneWrong)

/- THE SECOND FORM. 'bulk': how many values and letters a reading holds, each counted each time it is reached (what is shared counts as often as it is met; a slice's spare places count too). A statement '..UptoSaid' is the law's where the arguments, and the package variables that the reading takes, are together of bulk at most 1048576: NARROWER than '..Said'. Prove '..Said' where nothing that the law and all that it calls make is longer than what came in: it says more and counts as full. Else prove '..UptoSaid'. A law counts once. -/
mutual
def uptoBulk {H : Type} : DataW H → Nat
  | .lit (.string bytes) => bytes.length + 1
  | .lit _ => 1
  | .nil => 1
  | .ptr d => uptoBulk d + 1
  | .slice elems spare => uptoBulkAll elems + uptoBulkAll spare + 1
  | .agg parts => uptoBulkAll parts + 1
  | .iface _ d => uptoBulk d + 1
  | .map entries => uptoBulkEntries entries + 1
  | .held _ => 1
def uptoBulkAll {H : Type} : List (DataW H) → Nat
  | [] => 0
  | d :: r => uptoBulk d + uptoBulkAll r
def uptoBulkEntries {H : Type} : List (Lit × DataW H) → Nat
  | [] => 0
  | x :: r => uptoBulkEntry x + uptoBulkEntries r
def uptoBulkEntry {H : Type} : Lit × DataW H → Nat
  | (.string bytes, d) => bytes.length + uptoBulk d + 1
  | (_, d) => uptoBulk d + 1
 end
def uptoSmall : (H : Type) → List (DataW H) → Bool := fun _ ds => decide (uptoBulkAll ds ≤ 1048576)
def OpenSpec.upto (s : _root_.Go.ChangeSpec) : _root_.Go.OpenSpec := { _root_.Go.OpenSpec.ofChange s with cond := some uptoSmall }

/-- 'columbariumlaw08.IdealTells', WHERE WHAT IT READS IS OF BULK AT MOST 1048576: true; the input reads as it did. -/
def idealTellsUptoRow : OpenClaim := { program := "ytdbdoammbnogaaa", sum := "2f7fb81576277834413119b40cd388045ed0da5cdef16b81f328cef559780c54", func := "columbarium/columbariumlaw08.IdealTells", spec := "idealTells", unfollowed := true, recurses := true, plainKeys := false, apart := false, narrowed := true }
def IdealTellsUptoSaid : Prop := idealTellsUptoRow.holds Try.pinned (OpenSpec.upto idealTellsSpec)

/-- 'columbariumlaw08.IdealKeeps', WHERE WHAT IT READS IS OF BULK AT MOST 1048576: true; the input reads as it did. -/
def idealKeepsUptoRow : OpenClaim := { program := "ytdbdoammbnogaaa", sum := "2f7fb81576277834413119b40cd388045ed0da5cdef16b81f328cef559780c54", func := "columbarium/columbariumlaw08.IdealKeeps", spec := "idealKeeps", unfollowed := true, recurses := true, plainKeys := false, apart := false, narrowed := true }
def IdealKeepsUptoSaid : Prop := idealKeepsUptoRow.holds Try.pinned (OpenSpec.upto idealKeepsSpec)

/-- 'columbariumlaw08.IdealHangs', WHERE WHAT IT READS IS OF BULK AT MOST 1048576: true; the input reads as it did. -/
def idealHangsUptoRow : OpenClaim := { program := "ytdbdoammbnogaaa", sum := "2f7fb81576277834413119b40cd388045ed0da5cdef16b81f328cef559780c54", func := "columbarium/columbariumlaw08.IdealHangs", spec := "idealHangs", unfollowed := true, recurses := true, plainKeys := false, apart := false, narrowed := true }
def IdealHangsUptoSaid : Prop := idealHangsUptoRow.holds Try.pinned (OpenSpec.upto idealHangsSpec)

/-- 'columbariumlaw08.IdealClash', WHERE WHAT IT READS IS OF BULK AT MOST 1048576: true; the input reads as it did. -/
def idealClashUptoRow : OpenClaim := { program := "ytdbdoammbnogaaa", sum := "2f7fb81576277834413119b40cd388045ed0da5cdef16b81f328cef559780c54", func := "columbarium/columbariumlaw08.IdealClash", spec := "idealClash", unfollowed := true, recurses := true, plainKeys := false, apart := false, narrowed := true }
def IdealClashUptoSaid : Prop := idealClashUptoRow.holds Try.pinned (OpenSpec.upto idealClashSpec)

/-- 'columbariumlaw08.IdealNone', WHERE WHAT IT READS IS OF BULK AT MOST 1048576: true; the input reads as it did. -/
def idealNoneUptoRow : OpenClaim := { program := "ytdbdoammbnogaaa", sum := "2f7fb81576277834413119b40cd388045ed0da5cdef16b81f328cef559780c54", func := "columbarium/columbariumlaw08.IdealNone", spec := "idealNone", unfollowed := true, recurses := true, plainKeys := false, apart := false, narrowed := true }
def IdealNoneUptoSaid : Prop := idealNoneUptoRow.holds Try.pinned (OpenSpec.upto idealNoneSpec)

end Rows
end Go.Proofs.Ytdbdoammbnogaaa
