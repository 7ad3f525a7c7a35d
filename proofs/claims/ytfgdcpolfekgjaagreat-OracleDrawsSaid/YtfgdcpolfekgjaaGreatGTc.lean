/-
  Contracts of slices.Clone at numbers, and of tape.change: a list is copied into new memory; two things change places. Conditions: a list of at most 1000; places within it.
-/
import Derived.Test.YtfgdcpolfekgjaaGreatTapA
import Derived.Lib.SliceRun
namespace Go.Proofs.YtfgdcpolfekgjaaGreat
open Go.RowKit Go.Shelf

/-- what lies where a slice points to. -/
def InL (W : World) (A : Option Addr) (L : List Int) : Prop :=
  ∀ j, j < L.length → ∃ b off, A = some ⟨b, off, none⟩ ∧ b < W.heap.size ∧ W.cell? ⟨b, off + j, none⟩ = some (.int .i64 (L.getD j 0))
theorem InL.below {W W' : World} {A : Option Addr} {L : List Int} (h : InL W A L) {B : Nat} (hb : Below B W W') (hlt : ∀ p, A = some p → p.block < B) : InL W' A L := fun j hj => by
  obtain ⟨b, off, rfl, h1, h2⟩ := h j hj
  exact ⟨b, off, rfl, Nat.lt_of_lt_of_le h1 hb.size, (hb.cell (p := ⟨b, off + j, none⟩) (hlt ⟨b, off, none⟩ rfl)).trans h2⟩
theorem InL.keep {W W' : World} {A : Option Addr} {L : List Int} (h : InL W A L) (hb : Below W.heap.size W W') : InL W' A L := fun j hj => by
  obtain ⟨b, off, rfl, h1, h2⟩ := h j hj
  exact ⟨b, off, rfl, Nat.lt_of_lt_of_le h1 hb.size, (hb.cell (p := ⟨b, off + j, none⟩) h1).trans h2⟩
/-- numbers, as cells. -/
abbrev iL (L : List Int) : List Value := L.map (Value.int .i64)
end Go.Proofs.YtfgdcpolfekgjaaGreat

