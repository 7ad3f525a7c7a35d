/-
  What the rows' proofs share: a list of answers that came in, opened.
-/
import Derived.Test.YtjfeloimlgfocaaRowO
import Derived.Test.YtjfeloimlgfocaaLawALines
import Derived.Deep.Grids
namespace Go.Proofs.Ytjfeloimlgfocaa
open Go.ChangeShapes Go.WideShapes Go.ChangeAt Go.WideMaps Go.WideElems Go.RowKit Go.Deep

theorem bools_in {H : Type} {enc : TypeId × Value → H} {W : World} {base : Nat} {held : Bool} {fuel : Nat} {A : Option Addr} {len cap : Nat} {x : DataW H × List MemPlace}
    (hf : DataW.trod enc Try.prog W base (fun _ => true) held fuel 36 (Value.slice A len cap).cells.toList = some x) : len ≤ maxLen ∧ ∃ c, BoolsIn W A len c := by
  rcases open_bools Try.underlying36 Try.underlying4 (by kernel_rfl) hf with ⟨hcs, _⟩ | ⟨y, l, c, B, hcs, _, hl, hm, _, hcell⟩
  · simp [Value.cells] at hcs
    obtain ⟨rfl, rfl, rfl⟩ := hcs
    exact ⟨by simp [maxLen], fun _ => false, fun j hj => by omega⟩
  · simp [Value.cells] at hcs
    obtain ⟨rfl, rfl, rfl⟩ := hcs
    refine ⟨Nat.le_trans hl hm, B, fun j hj => ?_⟩
    have h0 := hcell 0 (by omega)
    have hj' := hcell j (by omega)
    obtain ⟨b, off, spot⟩ := y
    obtain rfl : spot = none := by simpa [Addr.add] using World.cell?_spot h0
    have e : (⟨b, off, none⟩ : Addr).add j = ⟨b, off + j, none⟩ := by unfold Addr.add; split <;> simp_all
    rw [e] at hj'
    exact ⟨b, off, rfl, block_lt_of_cell hj', hj'⟩
end Go.Proofs.Ytjfeloimlgfocaa
