/-
  A bucket that came in by value, opened.
-/
import Derived.Test.YtglcckpkbnppoaaRowX
import Derived.Test.YtglcckpkbnppoaaBuxA
namespace Go.Proofs.Ytglcckpkbnppoaa
open Go.ChangeShapes Go.WideShapes Go.ChangeAt Go.WideMaps Go.WideElems Go.RowKit

theorem cellsS12 : Try.prog.cellsOf 9 = 1 := by kernel_rfl
theorem cellsK12 : Try.prog.cellsOf 25 = 3 := by kernel_rfl
section
variable {H : Type} {enc : TypeId × Value → H} {W : World} {base : Nat} {sp : Nat → Bool} {held : Bool}
set_option maxRecDepth 100000 in
theorem bucket_ok12 {r : Reach} {b0 : Nat} {v : Value} {d : DataW H} {p : List MemPlace}
    (hv : Value.okWide Try.prog W r b0 25 v) (h : DataW.Trod enc Try.prog W base sp held 25 v d p) :
    ∃ b : Bkt12, v = .agg (bktA b) ∧ (-9223372036854775808 ≤ b.st ∧ b.st ≤ 9223372036854775807) := by
  obtain ⟨cs, rfl, hsz⟩ : ∃ cs, v = .agg cs ∧ cs.size = 3 := by
    simp only [Value.okWide, Try.underlying25] at hv
    obtain ⟨cs, h1, h2, _⟩ := hv
    exact ⟨cs, h1, h2.trans cellsK12⟩
  obtain ⟨fuel, hf⟩ := h
  obtain ⟨xs, m, _, _, _, hxl, hel⟩ := DataW.trod_struct Try.underlying25 hf
  have hxl2 : xs.length = 3 := hxl
  have f0 : DataW.trod enc Try.prog W base sp held m 3 ((((Value.agg cs).cells.toList).drop 0).take (Try.prog.cellsOf 3)) = xs[0]? := hel 0 _ rfl
  have f1 : DataW.trod enc Try.prog W base sp held m 9 ((((Value.agg cs).cells.toList).drop 1).take (Try.prog.cellsOf 9)) = xs[1]? := hel 1 _ rfl
  have f2 : DataW.trod enc Try.prog W base sp held m 9 ((((Value.agg cs).cells.toList).drop 2).take (Try.prog.cellsOf 9)) = xs[2]? := hel 2 _ rfl
  rw [cellsI12, List.getElem?_eq_getElem (by omega)] at f0
  rw [cellsS12, List.getElem?_eq_getElem (by omega)] at f1
  rw [cellsS12, List.getElem?_eq_getElem (by omega)] at f2
  obtain ⟨a, ha, _, hw⟩ := DataW.trod_int Try.underlying3 f0
  obtain ⟨B, hB, _, _⟩ := DataW.trod_string Try.underlying9 f1
  obtain ⟨C, hC, _, _⟩ := DataW.trod_string Try.underlying9 f2
  obtain ⟨l⟩ := cs
  have hl : l.length = 3 := hsz
  refine ⟨⟨a, B, C⟩, ?_, bounds_i64 hw⟩
  match l, hl with
  | [c0, c1, c2], _ =>
    simp [Value.cells] at ha hB hC
    subst ha hB hC
    rfl
end
end Go.Proofs.Ytglcckpkbnppoaa
