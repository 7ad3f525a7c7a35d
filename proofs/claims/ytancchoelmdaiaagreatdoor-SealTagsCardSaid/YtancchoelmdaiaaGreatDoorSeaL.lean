/-
  From the rows' condition on the two tables to what the walks ask; the start for the rows' witness; the step from 'nothing that lay has turned' to a row's end.
-/
import Derived.Test.YtancchoelmdaiaaGreatDoorGDig
import Derived.Test.YtancchoelmdaiaaGreatDoorCards
import Derived.Test.YtancchoelmdaiaaGreatDoorTie
import Derived.ProofKit
import Derived.OpenShut
import Derived.LaidMore
import Derived.Stop.LaidErr
import Derived.Stop.Joined
import Derived.Lib.LaidTab
import Derived.Below
import Derived.ChangeSame
import Derived.ChangeOld
namespace Go.Proofs.YtancchoelmdaiaaGreatDoor
open Go.ChangeShapes Go.WideShapes Go.ChangeAt Go.WideMaps Go.WideElems Go.RowKit

theorem own : ownKnob Tryz.prog.godebug = none := by kernel_rfl
theorem gFirst : Tryz.prog.globalNamed "columbarium/digest.firstWords" = some 0 := by kernel_rfl
theorem gRound : Tryz.prog.globalNamed "columbarium/digest.roundWords" = some 1 := by kernel_rfl
theorem tFirst : (Tryz.prog.globals[0]?).map (·.type) = some 116 := by kernel_rfl
theorem tRound : (Tryz.prog.globals[1]?).map (·.type) = some 153 := by kernel_rfl
theorem cells22 : Tryz.prog.cellsOf 59 = 1 := by kernel_rfl
theorem cells23 : Tryz.prog.cellsOf 116 = 8 := by kernel_rfl
theorem cells49 : Tryz.prog.cellsOf 153 = 64 := by kernel_rfl
abbrev laidL : List (String × DataW Unit) := [("columbarium/digest.firstWords", Rows.laid_columbarium_digest_firstWords), ("columbarium/digest.roundWords", Rows.laid_columbarium_digest_roundWords)]

theorem tab_of_laid {W : World} (h : laidMetH Tryz.prog laidL W) : Tab W := by
  rw [MakeChecks.laidMetH_plain _ _ _ (by kernel_rfl)] at h
  have h0 : Lib.TabIs Tryz.prog W "columbarium/digest.firstWords" .u32 [H0.a, H0.b, H0.c, H0.d, H0.e, H0.f, H0.g, H0.h] :=
    Lib.tabIs_of_head gFirst tFirst Tryz.underlying116 Tryz.underlying59 cells22 cells23 h
  have h1 : Lib.TabIs Tryz.prog W "columbarium/digest.roundWords" .u32 KW :=
    Lib.tabIs_of_head gRound tRound Tryz.underlying153 Tryz.underlying59 cells22 cells49 h.tail
  refine ⟨fun i hi => ?_, fun i hi => ?_, ?_⟩
  · have := h1.cell gRound i (by simpa [KW] using hi)
    rw [this, at_, List.getD_eq_getElem?_getD]
  · have := h0.cell gFirst i (by simpa using hi)
    rw [this]
    rcases (by omega : i = 0 ∨ i = 1 ∨ i = 2 ∨ i = 3 ∨ i = 4 ∨ i = 5 ∨ i = 6 ∨ i = 7) with rfl | rfl | rfl | rfl | rfl | rfl | rfl | rfl <;> rfl
  · have := block_lt_of_cell (h1.cell gRound 0 (by decide))
    have h2 : 1 < W.heap.size := this
    omega

theorem door_met (os : Os) (args : Array Value) : laidMetH Tryz.prog laidL ((World.doorLaid Tryz.prog 400 os).forCall (fun _ _ => 0) ⟨#[], args, []⟩).memory :=
  laidMetH_of_parts3 (fuel := 8) (laidMet_of_run' 8 (by kernel_rfl) (by kernel_rfl)) (by kernel_rfl) (by kernel_rfl)

theorem laidOut : laidOutB Tryz.prog = true := by kernel_rfl
end Go.Proofs.YtancchoelmdaiaaGreatDoor
