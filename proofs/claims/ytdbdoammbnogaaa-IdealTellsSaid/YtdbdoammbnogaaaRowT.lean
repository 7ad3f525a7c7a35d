/-
  What layer 7's rows share: the start; a tape that came in by value, and a list of numbers, opened.
-/
import Derived.Test.YtdbdoammbnogaaaGTc
import Derived.Test.YtdbdoammbnogaaaRows
import Derived.ProofKit
import Derived.OpenShut
import Derived.LaidMore
import Derived.Below
import Derived.ChangeSame
import Derived.ChangeOld
import Derived.Carry
namespace Go.Proofs.Ytdbdoammbnogaaa
open Go.ChangeShapes Go.WideShapes Go.ChangeAt Go.WideMaps Go.WideElems Go.RowKit

theorem own : ownKnob Try.prog.godebug = none := by kernel_rfl
theorem laidOut : laidOutB Try.prog = true := by kernel_rfl
theorem cells7S : Try.prog.cellsOf 9 = 1 := by kernel_rfl
theorem cells7I : Try.prog.cellsOf 3 = 1 := by kernel_rfl
theorem cells7T : Try.prog.cellsOf 26 = 2 := by kernel_rfl
section
variable {H : Type} {enc : TypeId × Value → H} {W : World} {base : Nat} {sp : Nat → Bool} {held : Bool}
theorem tape_ok {r : Reach} {b0 : Nat} {v : Value} {d : DataW H} {p : List MemPlace}
    (hv : Value.okWide Try.prog W r b0 26 v) (h : DataW.Trod enc Try.prog W base sp held 26 v d p) :
    ∃ (B : ByteArray) (a : Int), v = .agg #[.string B, .int .i64 a] ∧ B.size ≤ maxLen ∧ (-9223372036854775808 ≤ a ∧ a ≤ 9223372036854775807) := by
  obtain ⟨cs, rfl, hsz⟩ : ∃ cs, v = .agg cs ∧ cs.size = 2 := by
    simp only [Value.okWide, Try.underlying26] at hv
    obtain ⟨cs, h1, h2, _⟩ := hv
    exact ⟨cs, h1, h2.trans cells7T⟩
  obtain ⟨fuel, hf⟩ := h
  obtain ⟨xs, m, _, _, _, hxl, hel⟩ := DataW.trod_struct Try.underlying26 hf
  have hxl2 : xs.length = 2 := hxl
  have f0 : DataW.trod enc Try.prog W base sp held m 9 ((((Value.agg cs).cells.toList).drop 0).take (Try.prog.cellsOf 9)) = xs[0]? := hel 0 _ rfl
  have f1 : DataW.trod enc Try.prog W base sp held m 3 ((((Value.agg cs).cells.toList).drop 1).take (Try.prog.cellsOf 3)) = xs[1]? := hel 1 _ rfl
  rw [cells7S, List.getElem?_eq_getElem (by omega)] at f0
  rw [cells7I, List.getElem?_eq_getElem (by omega)] at f1
  obtain ⟨B, hB, _, hBl⟩ := DataW.trod_string Try.underlying9 f0
  obtain ⟨a, ha, _, hw⟩ := DataW.trod_int Try.underlying3 f1
  obtain ⟨l⟩ := cs
  have hl : l.length = 2 := hsz
  refine ⟨B, a, ?_, hBl, bounds_i64 hw⟩
  match l, hl with
  | [c0, c1], _ =>
    simp [Value.cells] at hB ha
    subst hB ha
    rfl
end
theorem ints7 {H : Type} {enc : TypeId × Value → H} {W : World} {base : Nat} {sp : Nat → Bool} {held : Bool} {fuel : Nat} {A : Option Addr} {len cap : Nat} {x : DataW H × List MemPlace}
    (hf : DataW.trod enc Try.prog W base sp held fuel 22 (Value.slice A len cap).cells.toList = some x) : (len ≤ maxLen ∧ len ≤ cap) ∧ (A = none → cap = 0) ∧ ∃ L : List Int, L.length = len ∧ InL W A L ∧ ∀ y ∈ L, -9223372036854775808 ≤ y ∧ y ≤ 9223372036854775807 := by
  rcases open_ints Try.underlying22 Try.underlying3 (by kernel_rfl) hf with ⟨hcs, _⟩ | ⟨y, l, c, zs, hcs, _, hl, hm, hz, _, hcell, hwz⟩
  · simp [Value.cells] at hcs
    obtain ⟨rfl, rfl, rfl⟩ := hcs
    exact ⟨⟨by simp [maxLen], by omega⟩, fun _ => rfl, [], rfl, fun j hj => absurd hj (by simp), fun y hy => by cases hy⟩
  · simp [Value.cells] at hcs
    obtain ⟨rfl, rfl, rfl⟩ := hcs
    have hzl : len ≤ zs.length := by rw [hz]; split <;> omega
    refine ⟨⟨Nat.le_trans hl hm, hl⟩, fun e => (by cases e), zs.take len, by rw [List.length_take]; omega, fun j hj => ?_, fun u hu => ?_⟩
    · have hj2 : j < len := by rw [List.length_take] at hj; omega
      obtain ⟨b, off, rfl, hc⟩ := ints_at hcell (by omega)
      have hcj := hc j (by omega)
      refine ⟨b, off, rfl, block_lt_of_cell hcj, ?_⟩
      rw [hcj, List.getD_eq_getElem?_getD, List.getD_eq_getElem?_getD, List.getElem?_take, if_pos hj2]
    · obtain ⟨j, hj, rfl⟩ := List.getElem_of_mem hu
      have hj2 : j < zs.length := by rw [List.length_take] at hj; omega
      have := range_i64 hwz j
      rw [List.getElem?_eq_getElem hj2] at this
      rw [List.getElem_take]
      exact this
end Go.Proofs.Ytdbdoammbnogaaa
