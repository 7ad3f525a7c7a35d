/-
  No cell of these rows narrows 'for every input' (looked for: loops, veiled, ifaces, maps, wideKeys, modest, calm, conditions, laid).
  DERIVED. THE GIVEN ROWS OF THIS SEAT. 3 by the template 'for every input the law returns true; each argument reads behind the call as it read before'; 0 by the template 'total and deterministic' (their statements: YtmggbbmpckcleaaTotals.lean).
  GIVEN WITH THE SEED: the statements are not yours to turn. If you find one false, say at which input.
  Laid BY PROGRAM, IN A SANDBOX (cutbox-rows.mjs): the forced cells as the released guide's own fill.sh prints them over the translation a763e315e4b86504… (all of the seat's roots in one cut). By AI agents, Wed Nov 11 2026. No macro, syntax, notation, axiom, sorry.
-/
import Derived.Test.YtmggbbmpckcleaaChecked
import GoSem.Claim
import GoSem.ClaimJoined
import GoSem.ClaimMapViews
import Derived.JoinedTies
import Derived.KernelRfl
namespace Go.Proofs.Ytmggbbmpckcleaa
/- THE CELL 'sum', in the pinned program and in every row, IS THE sha256 OF THE DUMP (.gsa) THAT YtmggbbmpckcleaaProg.lean LOADS. Nothing in Lean hashes anything: it is a label: what it is worth is what the hold of that sum in a sandbox is worth. -/
noncomputable def Try.pinned : Pinned := { name := "ytmggbbmpckcleaa", sum := "a763e315e4b865045fb5297dfed1cc48ac72b1e924b27219d6a13efafac42ff5", checked := Try.checked }
namespace Rows
def none {H : Type} : Left H := { results := [], args := [] }

/-- 'columbariumlaw13.ServerKeeps': WHATEVER THE INPUT: true; the input reads as it did. -/
def serverKeepsSpec : ChangeSpec := { name := "serverKeeps", fn := fun _ => fun
  | [d1, d2] => { results := [.lit (.bool true)], args := [d1, d2] }
  | _ => none }
def serverKeepsRow : OpenClaim := { program := "ytmggbbmpckcleaa", sum := "a763e315e4b865045fb5297dfed1cc48ac72b1e924b27219d6a13efafac42ff5", func := "columbarium/columbariumlaw13.ServerKeeps", spec := "serverKeeps", inPlace := ["internal/abi.NoEscape", "internal/bytealg.MakeNoZero"], unfollowed := true, recurses := true, apart := false }
def ServerKeepsSaid : Prop := serverKeepsRow.holds Try.pinned (OpenSpec.ofChange serverKeepsSpec)

/-- ITS FALSE NEIGHBOUR: 'it returns false'. Refute it at one input. -/
def serverKeepsWrong : ChangeSpec := { name := "serverKeeps", fn := fun _ => fun
  | [d1, d2] => { results := [.lit (.bool false)], args := [d1, d2] }
  | _ => none }
def ServerKeepsWrongFalsely : Prop := serverKeepsRow.holds Try.pinned (OpenSpec.ofChange serverKeepsWrong)

/-- 'columbariumlaw13.ServerLimit': WHATEVER THE INPUT: true; the input reads as it did. -/
def serverLimitSpec : ChangeSpec := { name := "serverLimit", fn := fun _ => fun
  | [d1, d2] => { results := [.lit (.bool true)], args := [d1, d2] }
  | _ => none }
def serverLimitRow : OpenClaim := { program := "ytmggbbmpckcleaa", sum := "a763e315e4b865045fb5297dfed1cc48ac72b1e924b27219d6a13efafac42ff5", func := "columbarium/columbariumlaw13.ServerLimit", spec := "serverLimit", inPlace := ["internal/abi.NoEscape", "internal/bytealg.MakeNoZero"], unfollowed := true, recurses := true, apart := false }
def ServerLimitSaid : Prop := serverLimitRow.holds Try.pinned (OpenSpec.ofChange serverLimitSpec)

/-- ITS FALSE NEIGHBOUR: 'it returns false'. Refute it at one input. -/
def serverLimitWrong : ChangeSpec := { name := "serverLimit", fn := fun _ => fun
  | [d1, d2] => { results := [.lit (.bool false)], args := [d1, d2] }
  | _ => none }
def ServerLimitWrongFalsely : Prop := serverLimitRow.holds Try.pinned (OpenSpec.ofChange serverLimitWrong)

/-- 'columbariumlaw13.ServerParts': WHATEVER THE INPUT: true; the input reads as it did. -/
def serverPartsSpec : ChangeSpec := { name := "serverParts", fn := fun _ => fun
  | [d1, d2] => { results := [.lit (.bool true)], args := [d1, d2] }
  | _ => none }
def serverPartsRow : OpenClaim := { program := "ytmggbbmpckcleaa", sum := "a763e315e4b865045fb5297dfed1cc48ac72b1e924b27219d6a13efafac42ff5", func := "columbarium/columbariumlaw13.ServerParts", spec := "serverParts", inPlace := ["internal/abi.NoEscape", "internal/bytealg.MakeNoZero"], unfollowed := true, recurses := true, apart := false }
def ServerPartsSaid : Prop := serverPartsRow.holds Try.pinned (OpenSpec.ofChange serverPartsSpec)

/-- ITS FALSE NEIGHBOUR: 'it returns false'. Refute it at one input. -/
def serverPartsWrong : ChangeSpec := { name := "serverParts", fn := fun _ => fun
  | [d1, d2] => { results := [.lit (.bool false)], args := [d1, d2] }
  | _ => none }
def ServerPartsWrongFalsely : Prop := serverPartsRow.holds Try.pinned (OpenSpec.ofChange serverPartsWrong)

/- THE SECOND FORM. 'bulk': how many values and letters a reading holds, each counted each time it is reached (what is shared counts as often as it is met; a slice's spare places count too). A statement '..UptoSaid' is the law's where the arguments, and the package variables that the reading takes, are together of bulk at most 1048576: NARROWER than '..Said'. Prove '..Said' where nothing that the law and all that it calls make is longer than what came in: it says more and counts as full. Else prove '..UptoSaid'. A law counts once. -/
mutual
def uptoBulk {H : Type} : DataW H → Nat
  | .lit (.string bytes) => bytes.length + 1
  | .lit _ => 1
  | .nil => 1
  | .ptr d => uptoBulk d + 1
  | .slice elems spare => uptoBulkAll elems + uptoBulkAll spare + 1
  | .agg parts => uptoBulkAll parts + 1
  | .iface _ d => uptoBulk d + 1
  | .map entries => uptoBulkEntries entries + 1
  | .held _ => 1
def uptoBulkAll {H : Type} : List (DataW H) → Nat
  | [] => 0
  | d :: r => uptoBulk d + uptoBulkAll r
def uptoBulkEntries {H : Type} : List (Lit × DataW H) → Nat
  | [] => 0
  | x :: r => uptoBulkEntry x + uptoBulkEntries r
def uptoBulkEntry {H : Type} : Lit × DataW H → Nat
  | (.string bytes, d) => bytes.length + uptoBulk d + 1
  | (_, d) => uptoBulk d + 1
 end
def uptoSmall : (H : Type) → List (DataW H) → Bool := fun _ ds => decide (uptoBulkAll ds ≤ 1048576)
def OpenSpec.upto (s : _root_.Go.ChangeSpec) : _root_.Go.OpenSpec := { _root_.Go.OpenSpec.ofChange s with cond := some uptoSmall }

/-- 'columbariumlaw13.ServerKeeps', WHERE WHAT IT READS IS OF BULK AT MOST 1048576: true; the input reads as it did. -/
def serverKeepsUptoRow : OpenClaim := { program := "ytmggbbmpckcleaa", sum := "a763e315e4b865045fb5297dfed1cc48ac72b1e924b27219d6a13efafac42ff5", func := "columbarium/columbariumlaw13.ServerKeeps", spec := "serverKeeps", inPlace := ["internal/abi.NoEscape", "internal/bytealg.MakeNoZero"], unfollowed := true, recurses := true, apart := false, narrowed := true }
def ServerKeepsUptoSaid : Prop := serverKeepsUptoRow.holds Try.pinned (OpenSpec.upto serverKeepsSpec)

/-- 'columbariumlaw13.ServerLimit', WHERE WHAT IT READS IS OF BULK AT MOST 1048576: true; the input reads as it did. -/
def serverLimitUptoRow : OpenClaim := { program := "ytmggbbmpckcleaa", sum := "a763e315e4b865045fb5297dfed1cc48ac72b1e924b27219d6a13efafac42ff5", func := "columbarium/columbariumlaw13.ServerLimit", spec := "serverLimit", inPlace := ["internal/abi.NoEscape", "internal/bytealg.MakeNoZero"], unfollowed := true, recurses := true, apart := false, narrowed := true }
def ServerLimitUptoSaid : Prop := serverLimitUptoRow.holds Try.pinned (OpenSpec.upto serverLimitSpec)

/-- 'columbariumlaw13.ServerParts', WHERE WHAT IT READS IS OF BULK AT MOST 1048576: true; the input reads as it did. -/
def serverPartsUptoRow : OpenClaim := { program := "ytmggbbmpckcleaa", sum := "a763e315e4b865045fb5297dfed1cc48ac72b1e924b27219d6a13efafac42ff5", func := "columbarium/columbariumlaw13.ServerParts", spec := "serverParts", inPlace := ["internal/abi.NoEscape", "internal/bytealg.MakeNoZero"], unfollowed := true, recurses := true, apart := false, narrowed := true }
def ServerPartsUptoSaid : Prop := serverPartsUptoRow.holds Try.pinned (OpenSpec.upto serverPartsSpec)

end Rows
end Go.Proofs.Ytmggbbmpckcleaa
