/-
  What layer 10's rows share: the start; a cursor that came in by value, and a list of texts, opened.
-/
import Derived.Test.YtapfbcpbiagogaaCoeD
import Derived.Test.YtapfbcpbiagogaaRows
import Derived.ProofKit
import Derived.OpenShut
import Derived.LaidMore
import Derived.Below
import Derived.ChangeSame
import Derived.ChangeOld
import Derived.Carry
import Derived.SliceStrings
namespace Go.Proofs.Ytapfbcpbiagogaa
open Go.ChangeShapes Go.WideShapes Go.ChangeAt Go.WideMaps Go.WideElems Go.RowKit

theorem own : ownKnob Try.prog.godebug = none := by kernel_rfl
theorem laidOut : laidOutB Try.prog = true := by kernel_rfl
theorem cellsS10 : Try.prog.cellsOf 9 = 1 := by kernel_rfl
theorem cellsI10 : Try.prog.cellsOf 3 = 1 := by kernel_rfl
theorem cellsC10 : Try.prog.cellsOf 64 = 2 := by kernel_rfl
section
variable {H : Type} {enc : TypeId × Value → H} {W : World} {base : Nat} {sp : Nat → Bool} {held : Bool}
set_option maxRecDepth 100000 in
theorem cursor_ok {r : Reach} {b0 : Nat} {v : Value} {d : DataW H} {p : List MemPlace}
    (hv : Value.okWide Try.prog W r b0 64 v) (h : DataW.Trod enc Try.prog W base sp held 64 v d p) :
    ∃ (B : ByteArray) (a : Int), v = .agg #[.string B, .int .i64 a] ∧ B.size ≤ maxLen ∧ (-9223372036854775808 ≤ a ∧ a ≤ 9223372036854775807) := by
  obtain ⟨cs, rfl, hsz⟩ : ∃ cs, v = .agg cs ∧ cs.size = 2 := by
    simp only [Value.okWide, Try.underlying64] at hv
    obtain ⟨cs, h1, h2, _⟩ := hv
    exact ⟨cs, h1, h2.trans cellsC10⟩
  obtain ⟨fuel, hf⟩ := h
  obtain ⟨xs, m, _, _, _, hxl, hel⟩ := DataW.trod_struct Try.underlying64 hf
  have hxl2 : xs.length = 2 := hxl
  have f0 : DataW.trod enc Try.prog W base sp held m 9 ((((Value.agg cs).cells.toList).drop 0).take (Try.prog.cellsOf 9)) = xs[0]? := hel 0 _ rfl
  have f1 : DataW.trod enc Try.prog W base sp held m 3 ((((Value.agg cs).cells.toList).drop 1).take (Try.prog.cellsOf 3)) = xs[1]? := hel 1 _ rfl
  rw [cellsS10, List.getElem?_eq_getElem (by omega)] at f0
  rw [cellsI10, List.getElem?_eq_getElem (by omega)] at f1
  obtain ⟨B, hB, _, hBl⟩ := DataW.trod_string Try.underlying9 f0
  obtain ⟨a, ha, _, hw⟩ := DataW.trod_int Try.underlying3 f1
  obtain ⟨l⟩ := cs
  have hl : l.length = 2 := hsz
  refine ⟨B, a, ?_, hBl, bounds_i64 hw⟩
  match l, hl with
  | [c0, c1], _ =>
    simp [Value.cells] at hB ha
    subst hB ha
    rfl
end
theorem strs10 {H : Type} {enc : TypeId × Value → H} {W : World} {base : Nat} {sp : Nat → Bool} {held : Bool} {fuel : Nat} {A : Option Addr} {len cap : Nat} {x : DataW H × List MemPlace}
    (hf : DataW.trod enc Try.prog W base sp held fuel 24 (Value.slice A len cap).cells.toList = some x) : len ≤ maxLen ∧ ∃ L : List ByteArray, L.length = len ∧ InV W A (tL10 L) := by
  rcases open_strings Try.underlying24 Try.underlying9 (by kernel_rfl) hf with ⟨hcs, _⟩ | ⟨y, l, c, zs, hcs, _, hl, hm, hz, _, hcell, _⟩
  · simp [Value.cells] at hcs
    obtain ⟨rfl, rfl, rfl⟩ := hcs
    exact ⟨by simp [maxLen], [], rfl, fun j u hj => (by cases hj)⟩
  · simp [Value.cells] at hcs
    obtain ⟨rfl, rfl, rfl⟩ := hcs
    have hzl : len ≤ zs.length := by rw [hz]; split <;> omega
    refine ⟨Nat.le_trans hl hm, zs.take len, by rw [List.length_take]; omega, fun j u hj => ?_⟩
    have hj2 : j < len := by
      have := (List.getElem?_eq_some_iff.1 hj).1
      rw [List.length_map, List.length_take] at this
      omega
    have hc0 := hcell 0 (by omega)
    obtain ⟨b, off, spot⟩ := y
    have hspot : spot = none := by simpa [Addr.add] using World.cell?_spot hc0
    subst hspot
    have hcj := hcell j (by omega)
    rw [Go.WideShapes.add_plain] at hcj
    refine ⟨b, off, rfl, block_lt_of_cell hcj, ?_⟩
    rw [hcj, ← hj, List.getElem?_map, List.getElem?_take, if_pos hj2, List.getElem?_eq_getElem (by omega), List.getD_eq_getElem?_getD, List.getElem?_eq_getElem (by omega)]
    rfl
end Go.Proofs.Ytapfbcpbiagogaa
