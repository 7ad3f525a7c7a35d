/-
  No cell of these rows narrows 'for every input' (looked for: loops, veiled, ifaces, maps, wideKeys, modest, calm, conditions, laid).
  DERIVED. THE GIVEN ROWS OF THIS SEAT. 6 by the template 'for every input the law returns true; each argument reads behind the call as it read before'; 0 by the template 'total and deterministic' (their statements: YtfgdcpolfekgjaaGreatTotals.lean).
  GIVEN WITH THE SEED: the statements are not yours to turn. If you find one false, say at which input.
  Laid BY PROGRAM, IN A SANDBOX (cutbox-rows.mjs): the forced cells as the released guide's own fill.sh prints them over the translation c2a7b967c346e00c… (all of the seat's roots in one cut). By AI agents, Wed Nov 11 2026. No macro, syntax, notation, axiom, sorry.
-/
import Derived.Test.YtfgdcpolfekgjaaGreatChecked
import GoSem.Claim
import GoSem.ClaimJoined
import GoSem.ClaimMapViews
import Derived.JoinedTies
import Derived.KernelRfl
namespace Go.Proofs.YtfgdcpolfekgjaaGreat
/- THE CELL 'sum', in the pinned program and in every row, IS THE sha256 OF THE DUMP (.gsa) THAT YtfgdcpolfekgjaaGreatProg.lean LOADS. Nothing in Lean hashes anything: it is a label: what it is worth is what the hold of that sum in a sandbox is worth. -/
noncomputable def Tryz.pinned : Pinned := { name := "ytfgdcpolfekgjaagreat", sum := "c2a7b967c346e00c6b461dc9f384d4685f9186fe8367dc2a9d840176de654565", checked := Tryz.checked }
namespace Rows
def none {H : Type} : Left H := { results := [], args := [] }

/-- 'columbariumlaw09.OracleTells': WHATEVER THE INPUT: true; the input reads as it did. -/
def oracleTellsSpec : ChangeSpec := { name := "oracleTells", fn := fun _ => fun
  | [d1, d2, d3, d4, d5, d6, d7] => { results := [.lit (.bool true)], args := [d1, d2, d3, d4, d5, d6, d7] }
  | _ => none }
def oracleTellsRow : OpenClaim := { program := "ytfgdcpolfekgjaagreat", sum := "c2a7b967c346e00c6b461dc9f384d4685f9186fe8367dc2a9d840176de654565", func := "columbarium/columbariumlaw09.OracleTells", spec := "oracleTells", unfollowed := true, recurses := true, plainKeys := false, apart := false }
def OracleTellsSaid : Prop := oracleTellsRow.holds Tryz.pinned (OpenSpec.ofChange oracleTellsSpec)

/-- ITS FALSE NEIGHBOUR: 'it returns false'. Refute it at one input. -/
def oracleTellsWrong : ChangeSpec := { name := "oracleTells", fn := fun _ => fun
  | [d1, d2, d3, d4, d5, d6, d7] => { results := [.lit (.bool false)], args := [d1, d2, d3, d4, d5, d6, d7] }
  | _ => none }
def OracleTellsWrongFalsely : Prop := oracleTellsRow.holds Tryz.pinned (OpenSpec.ofChange oracleTellsWrong)

/-- 'columbariumlaw09.OracleAsks': WHATEVER THE INPUT: true; the input reads as it did. -/
def oracleAsksSpec : ChangeSpec := { name := "oracleAsks", fn := fun _ => fun
  | [d1, d2, d3, d4] => { results := [.lit (.bool true)], args := [d1, d2, d3, d4] }
  | _ => none }
def oracleAsksRow : OpenClaim := { program := "ytfgdcpolfekgjaagreat", sum := "c2a7b967c346e00c6b461dc9f384d4685f9186fe8367dc2a9d840176de654565", func := "columbarium/columbariumlaw09.OracleAsks", spec := "oracleAsks", unfollowed := true, recurses := true, plainKeys := false, apart := false }
def OracleAsksSaid : Prop := oracleAsksRow.holds Tryz.pinned (OpenSpec.ofChange oracleAsksSpec)

/-- ITS FALSE NEIGHBOUR: 'it returns false'. Refute it at one input. -/
def oracleAsksWrong : ChangeSpec := { name := "oracleAsks", fn := fun _ => fun
  | [d1, d2, d3, d4] => { results := [.lit (.bool false)], args := [d1, d2, d3, d4] }
  | _ => none }
def OracleAsksWrongFalsely : Prop := oracleAsksRow.holds Tryz.pinned (OpenSpec.ofChange oracleAsksWrong)

/-- 'columbariumlaw09.OracleKeeps': WHATEVER THE INPUT: true; the input reads as it did. -/
def oracleKeepsSpec : ChangeSpec := { name := "oracleKeeps", fn := fun _ => fun
  | [d1, d2, d3, d4, d5] => { results := [.lit (.bool true)], args := [d1, d2, d3, d4, d5] }
  | _ => none }
def oracleKeepsRow : OpenClaim := { program := "ytfgdcpolfekgjaagreat", sum := "c2a7b967c346e00c6b461dc9f384d4685f9186fe8367dc2a9d840176de654565", func := "columbarium/columbariumlaw09.OracleKeeps", spec := "oracleKeeps", unfollowed := true, recurses := true, plainKeys := false, apart := false }
def OracleKeepsSaid : Prop := oracleKeepsRow.holds Tryz.pinned (OpenSpec.ofChange oracleKeepsSpec)

/-- ITS FALSE NEIGHBOUR: 'it returns false'. Refute it at one input. -/
def oracleKeepsWrong : ChangeSpec := { name := "oracleKeeps", fn := fun _ => fun
  | [d1, d2, d3, d4, d5] => { results := [.lit (.bool false)], args := [d1, d2, d3, d4, d5] }
  | _ => none }
def OracleKeepsWrongFalsely : Prop := oracleKeepsRow.holds Tryz.pinned (OpenSpec.ofChange oracleKeepsWrong)

/-- 'columbariumlaw09.OracleKeyed': WHATEVER THE INPUT: true; the input reads as it did. -/
def oracleKeyedSpec : ChangeSpec := { name := "oracleKeyed", fn := fun _ => fun
  | [d1, d2, d3, d4, d5] => { results := [.lit (.bool true)], args := [d1, d2, d3, d4, d5] }
  | _ => none }
def oracleKeyedRow : OpenClaim := { program := "ytfgdcpolfekgjaagreat", sum := "c2a7b967c346e00c6b461dc9f384d4685f9186fe8367dc2a9d840176de654565", func := "columbarium/columbariumlaw09.OracleKeyed", spec := "oracleKeyed", unfollowed := true, recurses := true, plainKeys := false, apart := false }
def OracleKeyedSaid : Prop := oracleKeyedRow.holds Tryz.pinned (OpenSpec.ofChange oracleKeyedSpec)

/-- ITS FALSE NEIGHBOUR: 'it returns false'. Refute it at one input. -/
def oracleKeyedWrong : ChangeSpec := { name := "oracleKeyed", fn := fun _ => fun
  | [d1, d2, d3, d4, d5] => { results := [.lit (.bool false)], args := [d1, d2, d3, d4, d5] }
  | _ => none }
def OracleKeyedWrongFalsely : Prop := oracleKeyedRow.holds Tryz.pinned (OpenSpec.ofChange oracleKeyedWrong)

/-- 'columbariumlaw09.OracleDraws': WHATEVER THE INPUT: true; the input reads as it did. -/
def oracleDrawsSpec : ChangeSpec := { name := "oracleDraws", fn := fun _ => fun
  | [d1, d2, d3, d4] => { results := [.lit (.bool true)], args := [d1, d2, d3, d4] }
  | _ => none }
def oracleDrawsRow : OpenClaim := { program := "ytfgdcpolfekgjaagreat", sum := "c2a7b967c346e00c6b461dc9f384d4685f9186fe8367dc2a9d840176de654565", func := "columbarium/columbariumlaw09.OracleDraws", spec := "oracleDraws", unfollowed := true, recurses := true, plainKeys := false, apart := false }
def OracleDrawsSaid : Prop := oracleDrawsRow.holds Tryz.pinned (OpenSpec.ofChange oracleDrawsSpec)

/-- ITS FALSE NEIGHBOUR: 'it returns false'. Refute it at one input. -/
def oracleDrawsWrong : ChangeSpec := { name := "oracleDraws", fn := fun _ => fun
  | [d1, d2, d3, d4] => { results := [.lit (.bool false)], args := [d1, d2, d3, d4] }
  | _ => none }
def OracleDrawsWrongFalsely : Prop := oracleDrawsRow.holds Tryz.pinned (OpenSpec.ofChange oracleDrawsWrong)

/-- 'columbariumlaw09.OracleOpens': WHATEVER THE INPUT: true; the input reads as it did. -/
def oracleOpensSpec : ChangeSpec := { name := "oracleOpens", fn := fun _ => fun
  | [d1, d2, d3, d4] => { results := [.lit (.bool true)], args := [d1, d2, d3, d4] }
  | _ => none }
def oracleOpensRow : OpenClaim := { program := "ytfgdcpolfekgjaagreat", sum := "c2a7b967c346e00c6b461dc9f384d4685f9186fe8367dc2a9d840176de654565", func := "columbarium/columbariumlaw09.OracleOpens", spec := "oracleOpens", unfollowed := true, recurses := true, plainKeys := false, apart := false }
def OracleOpensSaid : Prop := oracleOpensRow.holds Tryz.pinned (OpenSpec.ofChange oracleOpensSpec)

/-- ITS FALSE NEIGHBOUR: 'it returns false'. Refute it at one input. -/
def oracleOpensWrong : ChangeSpec := { name := "oracleOpens", fn := fun _ => fun
  | [d1, d2, d3, d4] => { results := [.lit (.bool false)], args := [d1, d2, d3, d4] }
  | _ => none }
def OracleOpensWrongFalsely : Prop := oracleOpensRow.holds Tryz.pinned (OpenSpec.ofChange oracleOpensWrong)

/- THE SECOND FORM. 'bulk': how many values and letters a reading holds, each counted each time it is reached (what is shared counts as often as it is met; a slice's spare places count too). A statement '..UptoSaid' is the law's where the arguments, and the package variables that the reading takes, are together of bulk at most 1048576: NARROWER than '..Said'. Prove '..Said' where nothing that the law and all that it calls make is longer than what came in: it says more and counts as full. Else prove '..UptoSaid'. A law counts once. -/
mutual
def uptoBulk {H : Type} : DataW H → Nat
  | .lit (.string bytes) => bytes.length + 1
  | .lit _ => 1
  | .nil => 1
  | .ptr d => uptoBulk d + 1
  | .slice elems spare => uptoBulkAll elems + uptoBulkAll spare + 1
  | .agg parts => uptoBulkAll parts + 1
  | .iface _ d => uptoBulk d + 1
  | .map entries => uptoBulkEntries entries + 1
  | .held _ => 1
def uptoBulkAll {H : Type} : List (DataW H) → Nat
  | [] => 0
  | d :: r => uptoBulk d + uptoBulkAll r
def uptoBulkEntries {H : Type} : List (Lit × DataW H) → Nat
  | [] => 0
  | x :: r => uptoBulkEntry x + uptoBulkEntries r
def uptoBulkEntry {H : Type} : Lit × DataW H → Nat
  | (.string bytes, d) => bytes.length + uptoBulk d + 1
  | (_, d) => uptoBulk d + 1
 end
def uptoSmall : (H : Type) → List (DataW H) → Bool := fun _ ds => decide (uptoBulkAll ds ≤ 1048576)
def OpenSpec.upto (s : _root_.Go.ChangeSpec) : _root_.Go.OpenSpec := { _root_.Go.OpenSpec.ofChange s with cond := some uptoSmall }

/-- 'columbariumlaw09.OracleTells', WHERE WHAT IT READS IS OF BULK AT MOST 1048576: true; the input reads as it did. -/
def oracleTellsUptoRow : OpenClaim := { program := "ytfgdcpolfekgjaagreat", sum := "c2a7b967c346e00c6b461dc9f384d4685f9186fe8367dc2a9d840176de654565", func := "columbarium/columbariumlaw09.OracleTells", spec := "oracleTells", unfollowed := true, recurses := true, plainKeys := false, apart := false, narrowed := true }
def OracleTellsUptoSaid : Prop := oracleTellsUptoRow.holds Tryz.pinned (OpenSpec.upto oracleTellsSpec)

/-- 'columbariumlaw09.OracleAsks', WHERE WHAT IT READS IS OF BULK AT MOST 1048576: true; the input reads as it did. -/
def oracleAsksUptoRow : OpenClaim := { program := "ytfgdcpolfekgjaagreat", sum := "c2a7b967c346e00c6b461dc9f384d4685f9186fe8367dc2a9d840176de654565", func := "columbarium/columbariumlaw09.OracleAsks", spec := "oracleAsks", unfollowed := true, recurses := true, plainKeys := false, apart := false, narrowed := true }
def OracleAsksUptoSaid : Prop := oracleAsksUptoRow.holds Tryz.pinned (OpenSpec.upto oracleAsksSpec)

/-- 'columbariumlaw09.OracleKeeps', WHERE WHAT IT READS IS OF BULK AT MOST 1048576: true; the input reads as it did. -/
def oracleKeepsUptoRow : OpenClaim := { program := "ytfgdcpolfekgjaagreat", sum := "c2a7b967c346e00c6b461dc9f384d4685f9186fe8367dc2a9d840176de654565", func := "columbarium/columbariumlaw09.OracleKeeps", spec := "oracleKeeps", unfollowed := true, recurses := true, plainKeys := false, apart := false, narrowed := true }
def OracleKeepsUptoSaid : Prop := oracleKeepsUptoRow.holds Tryz.pinned (OpenSpec.upto oracleKeepsSpec)

/-- 'columbariumlaw09.OracleKeyed', WHERE WHAT IT READS IS OF BULK AT MOST 1048576: true; the input reads as it did. -/
def oracleKeyedUptoRow : OpenClaim := { program := "ytfgdcpolfekgjaagreat", sum := "c2a7b967c346e00c6b461dc9f384d4685f9186fe8367dc2a9d840176de654565", func := "columbarium/columbariumlaw09.OracleKeyed", spec := "oracleKeyed", unfollowed := true, recurses := true, plainKeys := false, apart := false, narrowed := true }
def OracleKeyedUptoSaid : Prop := oracleKeyedUptoRow.holds Tryz.pinned (OpenSpec.upto oracleKeyedSpec)

/-- 'columbariumlaw09.OracleDraws', WHERE WHAT IT READS IS OF BULK AT MOST 1048576: true; the input reads as it did. -/
def oracleDrawsUptoRow : OpenClaim := { program := "ytfgdcpolfekgjaagreat", sum := "c2a7b967c346e00c6b461dc9f384d4685f9186fe8367dc2a9d840176de654565", func := "columbarium/columbariumlaw09.OracleDraws", spec := "oracleDraws", unfollowed := true, recurses := true, plainKeys := false, apart := false, narrowed := true }
def OracleDrawsUptoSaid : Prop := oracleDrawsUptoRow.holds Tryz.pinned (OpenSpec.upto oracleDrawsSpec)

/-- 'columbariumlaw09.OracleOpens', WHERE WHAT IT READS IS OF BULK AT MOST 1048576: true; the input reads as it did. -/
def oracleOpensUptoRow : OpenClaim := { program := "ytfgdcpolfekgjaagreat", sum := "c2a7b967c346e00c6b461dc9f384d4685f9186fe8367dc2a9d840176de654565", func := "columbarium/columbariumlaw09.OracleOpens", spec := "oracleOpens", unfollowed := true, recurses := true, plainKeys := false, apart := false, narrowed := true }
def OracleOpensUptoSaid : Prop := oracleOpensUptoRow.holds Tryz.pinned (OpenSpec.upto oracleOpensSpec)

end Rows
end Go.Proofs.YtfgdcpolfekgjaaGreat
