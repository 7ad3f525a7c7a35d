/-
  Contracts of slices.Clone at numbers, and of tape.change: a list is copied into new memory; two things change places. Conditions: a list of at most 1000; places within it.
-/
import Derived.Test.YtdbdoammbnogaaaTapA
import Derived.Lib.SliceRun
namespace Go.Proofs.Ytdbdoammbnogaaa
open Go.RowKit Go.Shelf

/-- what lies where a slice points to. -/
def InL (W : World) (A : Option Addr) (L : List Int) : Prop :=
  ∀ j, j < L.length → ∃ b off, A = some ⟨b, off, none⟩ ∧ b < W.heap.size ∧ W.cell? ⟨b, off + j, none⟩ = some (.int .i64 (L.getD j 0))
theorem InL.below {W W' : World} {A : Option Addr} {L : List Int} (h : InL W A L) {B : Nat} (hb : Below B W W') (hlt : ∀ p, A = some p → p.block < B) : InL W' A L := fun j hj => by
  obtain ⟨b, off, rfl, h1, h2⟩ := h j hj
  exact ⟨b, off, rfl, Nat.lt_of_lt_of_le h1 hb.size, (hb.cell (p := ⟨b, off + j, none⟩) (hlt ⟨b, off, none⟩ rfl)).trans h2⟩
theorem InL.keep {W W' : World} {A : Option Addr} {L : List Int} (h : InL W A L) (hb : Below W.heap.size W W') : InL W' A L := fun j hj => by
  obtain ⟨b, off, rfl, h1, h2⟩ := h j hj
  exact ⟨b, off, rfl, Nat.lt_of_lt_of_le h1 hb.size, (hb.cell (p := ⟨b, off + j, none⟩) h1).trans h2⟩
/-- numbers, as cells. -/
abbrev iL (L : List Int) : List Value := L.map (Value.int .i64)
theorem infoInt7 : (Try.prog.info? 3).map (fun i => (i.zero, i.size, i.bytes)) = some (some (.int .i64 0), 1, 8) := by kernel_rfl

theorem owns_slice7 {w : World} {base : Nat} {e : TypeId} {size n : Nat} {v : Value} {xs : List Value} (h : w.ownsRow base e size v n xs) : ∃ A' c', v = .slice A' n c' := by
  rcases h.2 with ⟨rfl, rfl⟩ | ⟨g, cap, cur, rfl, _⟩
  · exact ⟨_, _, rfl⟩
  · exact ⟨_, _, rfl⟩

end Go.Proofs.Ytdbdoammbnogaaa
