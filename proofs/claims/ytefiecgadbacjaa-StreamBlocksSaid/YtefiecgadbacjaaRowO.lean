/-
  What the rows' proofs share: the start; four bytes that came in by value, opened.
-/
import Derived.Test.YtefiecgadbacjaaGFld
import Derived.Test.YtefiecgadbacjaaRows
import Derived.ProofKit
import Derived.OpenShut
import Derived.LaidMore
import Derived.Below
import Derived.ChangeSame
import Derived.ChangeOld
import Derived.Carry
namespace Go.Proofs.Ytefiecgadbacjaa
open Go.ChangeShapes Go.WideShapes Go.ChangeAt Go.WideMaps Go.WideElems Go.RowKit

theorem own : ownKnob Try.prog.godebug = none := by kernel_rfl
theorem laidOut : laidOutB Try.prog = true := by kernel_rfl
theorem cellsB : Try.prog.cellsOf 5 = 1 := by kernel_rfl
theorem cellsQ : Try.prog.cellsOf 73 = 4 := by kernel_rfl
section
variable {H : Type} {enc : TypeId × Value → H} {W : World} {base : Nat} {sp : Nat → Bool} {held : Bool}
set_option maxRecDepth 100000 in
theorem quad_of {fuel : Nat} {cs : List Value} {x : DataW H × List MemPlace} (hf : DataW.trod enc Try.prog W base sp held fuel 73 cs = some x) : ∃ s : C4, cs = s.arr.toList ∧ s.Ok := by
  obtain ⟨xs, m, _, _, hcl, hxl, hel⟩ := DataW.trod_array Try.underlying73 hf
  rw [cellsQ] at hcl
  have key : ∀ i, i < 4 → ∃ a : Nat, cs[i]? = some (.int .u8 (a : Int)) ∧ a < 256 := fun i hi => by
    have h1 := hel i hi
    rw [cellsB, List.getElem?_eq_getElem (by omega)] at h1
    obtain ⟨z, hc, _, hw⟩ := DataW.trod_int Try.underlying5 h1
    have hb := bounds_u8 hw
    obtain ⟨a, rfl⟩ := Int.eq_ofNat_of_zero_le hb.1
    refine ⟨a, ?_, by omega⟩
    have := congrArg (·[0]?) hc
    simpa [List.getElem?_take, List.getElem?_drop, Value.cells] using this
  match cs, hcl, key with
  | [c0, c1, c2, c3], _, key =>
    obtain ⟨x0, e0, k0⟩ := key 0 (by omega)
    obtain ⟨x1, e1, k1⟩ := key 1 (by omega)
    obtain ⟨x2, e2, k2⟩ := key 2 (by omega)
    obtain ⟨x3, e3, k3⟩ := key 3 (by omega)
    simp at e0 e1 e2 e3
    subst e0 e1 e2 e3
    exact ⟨⟨x0, x1, x2, x3⟩, rfl, k0, k1, k2, k3⟩
set_option maxRecDepth 100000 in
theorem quad_ok {r : Reach} {b0 : Nat} {v : Value} {d : DataW H} {p : List MemPlace}
    (hv : Value.okWide Try.prog W r b0 73 v) (h : DataW.Trod enc Try.prog W base sp held 73 v d p) : ∃ s : C4, v = .agg s.arr ∧ s.Ok := by
  obtain ⟨cs, rfl, hsz⟩ : ∃ cs, v = .agg cs ∧ cs.size = 4 := by
    simp only [Value.okWide, Try.underlying73] at hv
    obtain ⟨cs, h1, h2, _⟩ := hv
    exact ⟨cs, h1, h2.trans cellsQ⟩
  obtain ⟨fuel, hf⟩ := h
  obtain ⟨s, hs, hok⟩ := quad_of hf
  refine ⟨s, ?_, hok⟩
  congr 1
  apply Array.toList_inj.1
  exact hs
end
end Go.Proofs.Ytefiecgadbacjaa
