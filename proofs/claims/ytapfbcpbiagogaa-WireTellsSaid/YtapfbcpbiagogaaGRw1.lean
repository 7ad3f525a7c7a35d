/-
  What layer 10's rows share: the start; a cursor that came in by value, and a list of texts, opened.
  What layer 11's rows share: numbers, three numbers, requests and responses that came in by value, opened.
-/
import Derived.Test.YtapfbcpbiagogaaGCo3
import Derived.Test.YtapfbcpbiagogaaGWi2
import Derived.Test.YtapfbcpbiagogaaRows
import Derived.ProofKit
import Derived.OpenShut
import Derived.LaidMore
import Derived.Below
import Derived.ChangeSame
import Derived.ChangeOld
import Derived.Carry
import Derived.SliceStrings
import Derived.Laws.IdiomArrays
import Derived.Deep.Slices
namespace Go.Proofs.Ytapfbcpbiagogaa
open Go.ChangeShapes Go.WideShapes Go.ChangeAt Go.WideMaps Go.WideElems Go.RowKit

theorem own : ownKnob Try.prog.godebug = none := by kernel_rfl
theorem laidOut : laidOutB Try.prog = true := by kernel_rfl
theorem cellsS10 : Try.prog.cellsOf 9 = 1 := by kernel_rfl
theorem cellsI10 : Try.prog.cellsOf 3 = 1 := by kernel_rfl
theorem cellsC10 : Try.prog.cellsOf 64 = 2 := by kernel_rfl
section
variable {H : Type} {enc : TypeId × Value → H} {W : World} {base : Nat} {sp : Nat → Bool} {held : Bool}
set_option maxRecDepth 100000 in
theorem cursor_ok {r : Reach} {b0 : Nat} {v : Value} {d : DataW H} {p : List MemPlace}
    (hv : Value.okWide Try.prog W r b0 64 v) (h : DataW.Trod enc Try.prog W base sp held 64 v d p) :
    ∃ (B : ByteArray) (a : Int), v = .agg #[.string B, .int .i64 a] ∧ B.size ≤ maxLen ∧ (-9223372036854775808 ≤ a ∧ a ≤ 9223372036854775807) := by
  obtain ⟨cs, rfl, hsz⟩ : ∃ cs, v = .agg cs ∧ cs.size = 2 := by
    simp only [Value.okWide, Try.underlying64] at hv
    obtain ⟨cs, h1, h2, _⟩ := hv
    exact ⟨cs, h1, h2.trans cellsC10⟩
  obtain ⟨fuel, hf⟩ := h
  obtain ⟨xs, m, _, _, _, hxl, hel⟩ := DataW.trod_struct Try.underlying64 hf
  have hxl2 : xs.length = 2 := hxl
  have f0 : DataW.trod enc Try.prog W base sp held m 9 ((((Value.agg cs).cells.toList).drop 0).take (Try.prog.cellsOf 9)) = xs[0]? := hel 0 _ rfl
  have f1 : DataW.trod enc Try.prog W base sp held m 3 ((((Value.agg cs).cells.toList).drop 1).take (Try.prog.cellsOf 3)) = xs[1]? := hel 1 _ rfl
  rw [cellsS10, List.getElem?_eq_getElem (by omega)] at f0
  rw [cellsI10, List.getElem?_eq_getElem (by omega)] at f1
  obtain ⟨B, hB, _, hBl⟩ := DataW.trod_string Try.underlying9 f0
  obtain ⟨a, ha, _, hw⟩ := DataW.trod_int Try.underlying3 f1
  obtain ⟨l⟩ := cs
  have hl : l.length = 2 := hsz
  refine ⟨B, a, ?_, hBl, bounds_i64 hw⟩
  match l, hl with
  | [c0, c1], _ =>
    simp [Value.cells] at hB ha
    subst hB ha
    rfl
end
theorem strs10 {H : Type} {enc : TypeId × Value → H} {W : World} {base : Nat} {sp : Nat → Bool} {held : Bool} {fuel : Nat} {A : Option Addr} {len cap : Nat} {x : DataW H × List MemPlace}
    (hf : DataW.trod enc Try.prog W base sp held fuel 24 (Value.slice A len cap).cells.toList = some x) : len ≤ maxLen ∧ ∃ L : List ByteArray, L.length = len ∧ InV W A (tL10 L) := by
  rcases open_strings Try.underlying24 Try.underlying9 (by kernel_rfl) hf with ⟨hcs, _⟩ | ⟨y, l, c, zs, hcs, _, hl, hm, hz, _, hcell, _⟩
  · simp [Value.cells] at hcs
    obtain ⟨rfl, rfl, rfl⟩ := hcs
    exact ⟨by simp [maxLen], [], rfl, fun j u hj => (by cases hj)⟩
  · simp [Value.cells] at hcs
    obtain ⟨rfl, rfl, rfl⟩ := hcs
    have hzl : len ≤ zs.length := by rw [hz]; split <;> omega
    refine ⟨Nat.le_trans hl hm, zs.take len, by rw [List.length_take]; omega, fun j u hj => ?_⟩
    have hj2 : j < len := by
      have := (List.getElem?_eq_some_iff.1 hj).1
      rw [List.length_map, List.length_take] at this
      omega
    have hc0 := hcell 0 (by omega)
    obtain ⟨b, off, spot⟩ := y
    have hspot : spot = none := by simpa [Addr.add] using World.cell?_spot hc0
    subst hspot
    have hcj := hcell j (by omega)
    rw [Go.WideShapes.add_plain] at hcj
    refine ⟨b, off, rfl, block_lt_of_cell hcj, ?_⟩
    rw [hcj, ← hj, List.getElem?_map, List.getElem?_take, if_pos hj2, List.getElem?_eq_getElem (by omega), List.getD_eq_getElem?_getD, List.getElem?_eq_getElem (by omega)]
    rfl
end Go.Proofs.Ytapfbcpbiagogaa
namespace Go.Proofs.Ytapfbcpbiagogaa
open Go.ChangeShapes Go.WideShapes Go.ChangeAt Go.WideMaps Go.WideElems Go.RowKit

theorem cellsL11 : Try.prog.cellsOf 24 = 1 := by kernel_rfl
section
variable {H : Type} {enc : TypeId × Value → H} {W : World} {base : Nat} {sp : Nat → Bool} {held : Bool}
theorem ints11 {fuel : Nat} {A : Option Addr} {len cap : Nat} {x : DataW H × List MemPlace}
    (hf : DataW.trod enc Try.prog W base sp held fuel 22 (Value.slice A len cap).cells.toList = some x) : len ≤ maxLen ∧ ∃ L : List Int, L.length = len ∧ InV W A (iV11 L) ∧ Big11 L := by
  rcases open_ints Try.underlying22 Try.underlying3 (by kernel_rfl) hf with ⟨hcs, _⟩ | ⟨y, l, c, zs, hcs, _, hl, hm, hz, _, hcell, hwz⟩
  · simp [Value.cells] at hcs
    obtain ⟨rfl, rfl, rfl⟩ := hcs
    exact ⟨by simp [maxLen], [], rfl, fun j u hj => (by cases hj), fun y hy => by cases hy⟩
  · simp [Value.cells] at hcs
    obtain ⟨rfl, rfl, rfl⟩ := hcs
    have hzl : len ≤ zs.length := by rw [hz]; split <;> omega
    refine ⟨Nat.le_trans hl hm, zs.take len, by rw [List.length_take]; omega, fun j u hj => ?_, fun u hu => ?_⟩
    · have hj2 : j < len := by
        have := (List.getElem?_eq_some_iff.1 hj).1
        rw [List.length_map, List.length_take] at this
        omega
      obtain ⟨b, off, rfl, hc⟩ := ints_at hcell (by omega)
      have hcj := hc j (by omega)
      refine ⟨b, off, rfl, block_lt_of_cell hcj, ?_⟩
      rw [hcj, ← hj, List.getElem?_map, List.getElem?_take, if_pos hj2, List.getElem?_eq_getElem (by omega), List.getD_eq_getElem?_getD, List.getElem?_eq_getElem (by omega)]
      rfl
    · obtain ⟨j, hj, rfl⟩ := List.getElem_of_mem hu
      have hj2 : j < zs.length := by rw [List.length_take] at hj; omega
      have := range_i64 hwz j
      rw [List.getElem?_eq_getElem hj2] at this
      rw [List.getElem_take]
      exact this
theorem cells3_11 : Try.prog.cellsOf 23 = 3 := by kernel_rfl
set_option maxRecDepth 100000 in
theorem three11 {r : Reach} {b0 : Nat} {v : Value} {d : DataW H} {p : List MemPlace}
    (hv : Value.okWide Try.prog W r b0 23 v) (h : DataW.Trod enc Try.prog W base sp held 23 v d p) :
    ∃ a b c : Int, v = .agg #[.int .i64 a, .int .i64 b, .int .i64 c] ∧ (-9223372036854775808 ≤ a ∧ a ≤ 9223372036854775807) ∧ (-9223372036854775808 ≤ b ∧ b ≤ 9223372036854775807) ∧ (-9223372036854775808 ≤ c ∧ c ≤ 9223372036854775807) := by
  obtain ⟨cs, rfl, hsz⟩ : ∃ cs, v = .agg cs ∧ cs.size = 3 := by
    simp only [Value.okWide, Try.underlying23] at hv
    obtain ⟨cs, h1, h2, _⟩ := hv
    exact ⟨cs, h1, h2.trans cells3_11⟩
  obtain ⟨fuel, hf⟩ := h
  obtain ⟨l⟩ := cs
  obtain ⟨c0, c1, c2, rfl⟩ : ∃ a b c, l = [a, b, c] := by
    match l, (show l.length = 3 from hsz) with
    | [a, b, c], _ => exact ⟨a, b, c, rfl⟩
  obtain ⟨y0, y1, y2, n', _, t0, t1, t2⟩ := trod_array3 Try.underlying23 cellsI10 hf
  obtain ⟨z0, e0, _, w0⟩ := DataW.trod_int Try.underlying3 t0
  obtain ⟨z1, e1, _, w1⟩ := DataW.trod_int Try.underlying3 t1
  obtain ⟨z2, e2, _, w2⟩ := DataW.trod_int Try.underlying3 t2
  cases e0; cases e1; cases e2
  exact ⟨z0, z1, z2, rfl, bounds_i64 w0, bounds_i64 w1, bounds_i64 w2⟩
theorem strs11 {fuel : Nat} {v : Value} {x : DataW H × List MemPlace} (hf : DataW.trod enc Try.prog W base sp held fuel 24 [v] = some x) :
    ∃ (A : Option Addr) (c : Nat) (L : List ByteArray), v = .slice A L.length c ∧ L.length ≤ maxLen ∧ InV W A (tL10 L) := by
  obtain ⟨A, len, cap, rfl⟩ : ∃ A len cap, v = .slice A len cap := by
    rcases open_strings Try.underlying24 Try.underlying9 (by kernel_rfl) hf with ⟨hcs, _⟩ | ⟨y, l, c, zs, hcs, _⟩
    · simp at hcs; exact ⟨_, _, _, hcs⟩
    · simp at hcs; exact ⟨_, _, _, hcs⟩
  obtain ⟨h1, L, h2, h3⟩ := strs10 (A := A) (len := len) (cap := cap) hf
  exact ⟨A, cap, L, by rw [h2], by omega, h3⟩
theorem cellsQ11 : Try.prog.cellsOf 26 = 3 := by kernel_rfl
theorem cellsR11 : Try.prog.cellsOf 28 = 5 := by kernel_rfl
set_option maxRecDepth 100000 in
theorem request11 {r : Reach} {b0 : Nat} {v : Value} {d : DataW H} {p : List MemPlace}
    (hv : Value.okWide Try.prog W r b0 26 v) (h : DataW.Trod enc Try.prog W base sp held 26 v d p) :
    ∃ (k : Int) (A1 : Option Addr) (c1 : Nat) (L : List ByteArray) (A2 : Option Addr) (c2 : Nat) (C : List ByteArray), v = .agg #[.int .i64 k, .slice A1 L.length c1, .slice A2 C.length c2] ∧ (-9223372036854775808 ≤ k ∧ k ≤ 9223372036854775807) ∧ (L.length ≤ maxLen ∧ InV W A1 (tL10 L)) ∧ (C.length ≤ maxLen ∧ InV W A2 (tL10 C)) := by
  obtain ⟨cs, rfl, hsz⟩ : ∃ cs, v = .agg cs ∧ cs.size = 3 := by
    simp only [Value.okWide, Try.underlying26] at hv
    obtain ⟨cs, h1, h2, _⟩ := hv
    exact ⟨cs, h1, h2.trans cellsQ11⟩
  obtain ⟨fuel, hf⟩ := h
  obtain ⟨l⟩ := cs
  obtain ⟨x0, x1, x2, rfl⟩ : ∃ a b c, l = [a, b, c] := by
    match l, (show l.length = 3 from hsz) with
    | [a, b, c], _ => exact ⟨a, b, c, rfl⟩
  obtain ⟨xs, m, _, _, _, hxl, hel⟩ := DataW.trod_struct Try.underlying26 hf
  have hxl2 : xs.length = 3 := hxl
  have f0 : DataW.trod enc Try.prog W base sp held m 3 ((([x0, x1, x2] : List Value).drop 0).take (Try.prog.cellsOf 3)) = xs[0]? := hel 0 _ rfl
  have f1 : DataW.trod enc Try.prog W base sp held m 24 ((([x0, x1, x2] : List Value).drop 1).take (Try.prog.cellsOf 24)) = xs[1]? := hel 1 _ rfl
  have f2 : DataW.trod enc Try.prog W base sp held m 24 ((([x0, x1, x2] : List Value).drop 2).take (Try.prog.cellsOf 24)) = xs[2]? := hel 2 _ rfl
  rw [cellsI10, List.getElem?_eq_getElem (by omega)] at f0
  rw [cellsL11, List.getElem?_eq_getElem (by omega)] at f1
  rw [cellsL11, List.getElem?_eq_getElem (by omega)] at f2
  obtain ⟨k, hk, _, hw⟩ := DataW.trod_int Try.underlying3 f0
  obtain ⟨A1, c1, L, hL, q1, q2⟩ := strs11 f1
  obtain ⟨A2, c2, C, hC, q3, q4⟩ := strs11 f2
  cases hk
  subst hL
  subst hC
  exact ⟨k, A1, c1, L, A2, c2, C, rfl, bounds_i64 hw, ⟨q1, q2⟩, ⟨q3, q4⟩⟩
set_option maxRecDepth 100000 in
theorem response11 {r : Reach} {b0 : Nat} {v : Value} {d : DataW H} {p : List MemPlace}
    (hv : Value.okWide Try.prog W r b0 28 v) (h : DataW.Trod enc Try.prog W base sp held 28 v d p) :
    ∃ (k st : Int) (A : Option Addr) (c : Nat) (C : List ByteArray) (mm rm : Int), v = .agg #[.int .i64 k, .int .i64 st, .slice A C.length c, .int .i64 mm, .int .i64 rm] ∧ (C.length ≤ maxLen ∧ InV W A (tL10 C)) := by
  obtain ⟨cs, rfl, hsz⟩ : ∃ cs, v = .agg cs ∧ cs.size = 5 := by
    simp only [Value.okWide, Try.underlying28] at hv
    obtain ⟨cs, h1, h2, _⟩ := hv
    exact ⟨cs, h1, h2.trans cellsR11⟩
  obtain ⟨fuel, hf⟩ := h
  obtain ⟨l⟩ := cs
  obtain ⟨x0, x1, x2, x3, x4, rfl⟩ : ∃ a b c d e, l = [a, b, c, d, e] := by
    match l, (show l.length = 5 from hsz) with
    | [a, b, c, d, e], _ => exact ⟨a, b, c, d, e, rfl⟩
  obtain ⟨xs, m, _, _, _, hxl, hel⟩ := DataW.trod_struct Try.underlying28 hf
  have hxl2 : xs.length = 5 := hxl
  have f0 : DataW.trod enc Try.prog W base sp held m 3 ((([x0, x1, x2, x3, x4] : List Value).drop 0).take (Try.prog.cellsOf 3)) = xs[0]? := hel 0 _ rfl
  have f1 : DataW.trod enc Try.prog W base sp held m 3 ((([x0, x1, x2, x3, x4] : List Value).drop 1).take (Try.prog.cellsOf 3)) = xs[1]? := hel 1 _ rfl
  have f2 : DataW.trod enc Try.prog W base sp held m 24 ((([x0, x1, x2, x3, x4] : List Value).drop 2).take (Try.prog.cellsOf 24)) = xs[2]? := hel 2 _ rfl
  have f3 : DataW.trod enc Try.prog W base sp held m 3 ((([x0, x1, x2, x3, x4] : List Value).drop 3).take (Try.prog.cellsOf 3)) = xs[3]? := hel 3 _ rfl
  have f4 : DataW.trod enc Try.prog W base sp held m 3 ((([x0, x1, x2, x3, x4] : List Value).drop 4).take (Try.prog.cellsOf 3)) = xs[4]? := hel 4 _ rfl
  rw [cellsI10, List.getElem?_eq_getElem (by omega)] at f0
  rw [cellsI10, List.getElem?_eq_getElem (by omega)] at f1
  rw [cellsL11, List.getElem?_eq_getElem (by omega)] at f2
  rw [cellsI10, List.getElem?_eq_getElem (by omega)] at f3
  rw [cellsI10, List.getElem?_eq_getElem (by omega)] at f4
  obtain ⟨k, hk, _, hw⟩ := DataW.trod_int Try.underlying3 f0
  obtain ⟨st, hs, _, _⟩ := DataW.trod_int Try.underlying3 f1
  obtain ⟨A2, c2, C, hC, q3, q4⟩ := strs11 f2
  obtain ⟨mm, hm, _, _⟩ := DataW.trod_int Try.underlying3 f3
  obtain ⟨rm, hr, _, _⟩ := DataW.trod_int Try.underlying3 f4
  cases hk; cases hs; cases hm; cases hr
  subst hC
  exact ⟨k, st, A2, c2, C, mm, rm, rfl, ⟨q3, q4⟩⟩
end
end Go.Proofs.Ytapfbcpbiagogaa
