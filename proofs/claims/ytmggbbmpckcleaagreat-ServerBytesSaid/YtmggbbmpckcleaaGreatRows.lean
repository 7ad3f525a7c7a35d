/-
  No cell of these rows narrows 'for every input' (looked for: loops, veiled, ifaces, maps, wideKeys, modest, calm, conditions, laid).
  DERIVED. THE GIVEN ROWS OF THIS SEAT. 3 by the template 'for every input the law returns true; each argument reads behind the call as it read before'; 0 by the template 'total and deterministic' (their statements: YtmggbbmpckcleaaGreatTotals.lean).
  GIVEN WITH THE SEED: the statements are not yours to turn. If you find one false, say at which input.
  Laid BY PROGRAM, IN A SANDBOX (cutbox-rows.mjs): the forced cells as the released guide's own fill.sh prints them over the translation 68b202443494bedc… (all of the seat's roots in one cut). By AI agents, Wed Nov 11 2026. No macro, syntax, notation, axiom, sorry.
-/
import Derived.Test.YtmggbbmpckcleaaGreatChecked
import GoSem.Claim
import GoSem.ClaimJoined
import GoSem.ClaimMapViews
import Derived.JoinedTies
import Derived.KernelRfl
namespace Go.Proofs.YtmggbbmpckcleaaGreat
/- THE CELL 'sum', in the pinned program and in every row, IS THE sha256 OF THE DUMP (.gsa) THAT YtmggbbmpckcleaaGreatProg.lean LOADS. Nothing in Lean hashes anything: it is a label: what it is worth is what the hold of that sum in a sandbox is worth. -/
noncomputable def Tryz.pinned : Pinned := { name := "ytmggbbmpckcleaagreat", sum := "68b202443494bedc6eaa5ee0d5af89c89ba156046fb72e7c04017f92ade2d2e3", checked := Tryz.checked }
namespace Rows
def none {H : Type} : Left H := { results := [], args := [] }

/-- 'columbariumlaw13.ServerTells': WHATEVER THE INPUT: true; the input reads as it did. -/
def serverTellsSpec : ChangeSpec := { name := "serverTells", fn := fun _ => fun
  | [d1, d2, d3, d4, d5, d6] => { results := [.lit (.bool true)], args := [d1, d2, d3, d4, d5, d6] }
  | _ => none }
def serverTellsRow : OpenClaim := { program := "ytmggbbmpckcleaagreat", sum := "68b202443494bedc6eaa5ee0d5af89c89ba156046fb72e7c04017f92ade2d2e3", func := "columbarium/columbariumlaw13.ServerTells", spec := "serverTells", inPlace := ["internal/abi.NoEscape", "internal/bytealg.MakeNoZero"], unfollowed := true, recurses := true, apart := false }
def ServerTellsSaid : Prop := serverTellsRow.holds Tryz.pinned (OpenSpec.ofChange serverTellsSpec)

/-- ITS FALSE NEIGHBOUR: 'it returns false'. Refute it at one input. -/
def serverTellsWrong : ChangeSpec := { name := "serverTells", fn := fun _ => fun
  | [d1, d2, d3, d4, d5, d6] => { results := [.lit (.bool false)], args := [d1, d2, d3, d4, d5, d6] }
  | _ => none }
def ServerTellsWrongFalsely : Prop := serverTellsRow.holds Tryz.pinned (OpenSpec.ofChange serverTellsWrong)

/-- 'columbariumlaw13.ServerTwice': WHATEVER THE INPUT: true; the input reads as it did. -/
def serverTwiceSpec : ChangeSpec := { name := "serverTwice", fn := fun _ => fun
  | [d1, d2, d3] => { results := [.lit (.bool true)], args := [d1, d2, d3] }
  | _ => none }
def serverTwiceRow : OpenClaim := { program := "ytmggbbmpckcleaagreat", sum := "68b202443494bedc6eaa5ee0d5af89c89ba156046fb72e7c04017f92ade2d2e3", func := "columbarium/columbariumlaw13.ServerTwice", spec := "serverTwice", inPlace := ["internal/abi.NoEscape", "internal/bytealg.MakeNoZero"], unfollowed := true, recurses := true, apart := false }
def ServerTwiceSaid : Prop := serverTwiceRow.holds Tryz.pinned (OpenSpec.ofChange serverTwiceSpec)

/-- ITS FALSE NEIGHBOUR: 'it returns false'. Refute it at one input. -/
def serverTwiceWrong : ChangeSpec := { name := "serverTwice", fn := fun _ => fun
  | [d1, d2, d3] => { results := [.lit (.bool false)], args := [d1, d2, d3] }
  | _ => none }
def ServerTwiceWrongFalsely : Prop := serverTwiceRow.holds Tryz.pinned (OpenSpec.ofChange serverTwiceWrong)

/-- 'columbariumlaw13.ServerBytes': WHATEVER THE INPUT: true; the input reads as it did. -/
def serverBytesSpec : ChangeSpec := { name := "serverBytes", fn := fun _ => fun
  | [d1, d2, d3, d4, d5] => { results := [.lit (.bool true)], args := [d1, d2, d3, d4, d5] }
  | _ => none }
def serverBytesRow : OpenClaim := { program := "ytmggbbmpckcleaagreat", sum := "68b202443494bedc6eaa5ee0d5af89c89ba156046fb72e7c04017f92ade2d2e3", func := "columbarium/columbariumlaw13.ServerBytes", spec := "serverBytes", inPlace := ["internal/abi.NoEscape", "internal/bytealg.MakeNoZero"], unfollowed := true, recurses := true, apart := false }
def ServerBytesSaid : Prop := serverBytesRow.holds Tryz.pinned (OpenSpec.ofChange serverBytesSpec)

/-- ITS FALSE NEIGHBOUR: 'it returns false'. Refute it at one input. -/
def serverBytesWrong : ChangeSpec := { name := "serverBytes", fn := fun _ => fun
  | [d1, d2, d3, d4, d5] => { results := [.lit (.bool false)], args := [d1, d2, d3, d4, d5] }
  | _ => none }
def ServerBytesWrongFalsely : Prop := serverBytesRow.holds Tryz.pinned (OpenSpec.ofChange serverBytesWrong)

/- THE SECOND FORM. 'bulk': how many values and letters a reading holds, each counted each time it is reached (what is shared counts as often as it is met; a slice's spare places count too). A statement '..UptoSaid' is the law's where the arguments, and the package variables that the reading takes, are together of bulk at most 1048576: NARROWER than '..Said'. Prove '..Said' where nothing that the law and all that it calls make is longer than what came in: it says more and counts as full. Else prove '..UptoSaid'. A law counts once. -/
mutual
def uptoBulk {H : Type} : DataW H → Nat
  | .lit (.string bytes) => bytes.length + 1
  | .lit _ => 1
  | .nil => 1
  | .ptr d => uptoBulk d + 1
  | .slice elems spare => uptoBulkAll elems + uptoBulkAll spare + 1
  | .agg parts => uptoBulkAll parts + 1
  | .iface _ d => uptoBulk d + 1
  | .map entries => uptoBulkEntries entries + 1
  | .held _ => 1
def uptoBulkAll {H : Type} : List (DataW H) → Nat
  | [] => 0
  | d :: r => uptoBulk d + uptoBulkAll r
def uptoBulkEntries {H : Type} : List (Lit × DataW H) → Nat
  | [] => 0
  | x :: r => uptoBulkEntry x + uptoBulkEntries r
def uptoBulkEntry {H : Type} : Lit × DataW H → Nat
  | (.string bytes, d) => bytes.length + uptoBulk d + 1
  | (_, d) => uptoBulk d + 1
 end
def uptoSmall : (H : Type) → List (DataW H) → Bool := fun _ ds => decide (uptoBulkAll ds ≤ 1048576)
def OpenSpec.upto (s : _root_.Go.ChangeSpec) : _root_.Go.OpenSpec := { _root_.Go.OpenSpec.ofChange s with cond := some uptoSmall }

/-- 'columbariumlaw13.ServerTells', WHERE WHAT IT READS IS OF BULK AT MOST 1048576: true; the input reads as it did. -/
def serverTellsUptoRow : OpenClaim := { program := "ytmggbbmpckcleaagreat", sum := "68b202443494bedc6eaa5ee0d5af89c89ba156046fb72e7c04017f92ade2d2e3", func := "columbarium/columbariumlaw13.ServerTells", spec := "serverTells", inPlace := ["internal/abi.NoEscape", "internal/bytealg.MakeNoZero"], unfollowed := true, recurses := true, apart := false, narrowed := true }
def ServerTellsUptoSaid : Prop := serverTellsUptoRow.holds Tryz.pinned (OpenSpec.upto serverTellsSpec)

/-- 'columbariumlaw13.ServerTwice', WHERE WHAT IT READS IS OF BULK AT MOST 1048576: true; the input reads as it did. -/
def serverTwiceUptoRow : OpenClaim := { program := "ytmggbbmpckcleaagreat", sum := "68b202443494bedc6eaa5ee0d5af89c89ba156046fb72e7c04017f92ade2d2e3", func := "columbarium/columbariumlaw13.ServerTwice", spec := "serverTwice", inPlace := ["internal/abi.NoEscape", "internal/bytealg.MakeNoZero"], unfollowed := true, recurses := true, apart := false, narrowed := true }
def ServerTwiceUptoSaid : Prop := serverTwiceUptoRow.holds Tryz.pinned (OpenSpec.upto serverTwiceSpec)

/-- 'columbariumlaw13.ServerBytes', WHERE WHAT IT READS IS OF BULK AT MOST 1048576: true; the input reads as it did. -/
def serverBytesUptoRow : OpenClaim := { program := "ytmggbbmpckcleaagreat", sum := "68b202443494bedc6eaa5ee0d5af89c89ba156046fb72e7c04017f92ade2d2e3", func := "columbarium/columbariumlaw13.ServerBytes", spec := "serverBytes", inPlace := ["internal/abi.NoEscape", "internal/bytealg.MakeNoZero"], unfollowed := true, recurses := true, apart := false, narrowed := true }
def ServerBytesUptoSaid : Prop := serverBytesUptoRow.holds Tryz.pinned (OpenSpec.upto serverBytesSpec)

end Rows
end Go.Proofs.YtmggbbmpckcleaaGreat
