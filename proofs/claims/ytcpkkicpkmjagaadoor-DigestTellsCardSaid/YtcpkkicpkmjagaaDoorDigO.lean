/-
  What came in by value, opened: eight words in their range; a sum on its way.
-/
import Derived.Test.YtcpkkicpkmjagaaDoorDigL
import Derived.Test.YtcpkkicpkmjagaaDoorDigH
import Derived.Test.YtcpkkicpkmjagaaDoorRefP
namespace Go.Proofs.YtcpkkicpkmjagaaDoor
open Go.ChangeShapes Go.WideShapes Go.ChangeAt Go.WideMaps Go.WideElems Go.RowKit

theorem okW_wf {x : Int} (h : (Lit.int .u32 x).wf = true) : okW x := by
  have := bounds_u32 h
  exact ⟨this.1, by omega⟩
section
variable {H : Type} {enc : TypeId × Value → H} {W : World} {base : Nat} {sp : Nat → Bool} {held : Bool}
theorem eight_of {fuel : Nat} {cs : List Value} {x : DataW H × List MemPlace} (hf : DataW.trod enc Tryd.prog W base sp held fuel 23 cs = some x) : ∃ s : S8, cs = s.arr.toList ∧ s.Ok := by
  obtain ⟨xs, m, _, _, hcl, hxl, hel⟩ := DataW.trod_array Tryd.underlying23 hf
  rw [cells23] at hcl
  have key : ∀ i, i < 8 → ∃ a, cs[i]? = some (.int .u32 a) ∧ okW a := fun i hi => by
    have h1 := hel i hi
    rw [cells22, List.getElem?_eq_getElem (by omega)] at h1
    obtain ⟨z, hc, _, hw⟩ := DataW.trod_int Tryd.underlying22 h1
    refine ⟨z, ?_, okW_wf hw⟩
    have := congrArg (·[0]?) hc
    simpa [List.getElem?_take, List.getElem?_drop, Value.cells] using this
  match cs, hcl, key with
  | [c0, c1, c2, c3, c4, c5, c6, c7], _, key =>
    obtain ⟨x0, e0, k0⟩ := key 0 (by omega)
    obtain ⟨x1, e1, k1⟩ := key 1 (by omega)
    obtain ⟨x2, e2, k2⟩ := key 2 (by omega)
    obtain ⟨x3, e3, k3⟩ := key 3 (by omega)
    obtain ⟨x4, e4, k4⟩ := key 4 (by omega)
    obtain ⟨x5, e5, k5⟩ := key 5 (by omega)
    obtain ⟨x6, e6, k6⟩ := key 6 (by omega)
    obtain ⟨x7, e7, k7⟩ := key 7 (by omega)
    simp at e0 e1 e2 e3 e4 e5 e6 e7
    subst e0 e1 e2 e3 e4 e5 e6 e7
    exact ⟨⟨x0, x1, x2, x3, x4, x5, x6, x7⟩, rfl, k0, k1, k2, k3, k4, k5, k6, k7⟩
theorem words_ok {r : Reach} {b0 : Nat} {v : Value} {d : DataW H} {p : List MemPlace}
    (hv : Value.okWide Tryd.prog W r b0 23 v) (h : DataW.Trod enc Tryd.prog W base sp held 23 v d p) : ∃ s : S8, v = .agg s.arr ∧ s.Ok := by
  obtain ⟨cs, rfl, hsz⟩ : ∃ cs, v = .agg cs ∧ cs.size = 8 := by
    simp only [Value.okWide, Tryd.underlying23] at hv
    obtain ⟨cs, h1, h2, _⟩ := hv
    exact ⟨cs, h1, h2.trans cells23⟩
  obtain ⟨fuel, hf⟩ := h
  obtain ⟨s, hs, hok⟩ := eight_of hf
  refine ⟨s, ?_, hok⟩
  congr 1
  apply Array.toList_inj.1
  exact hs
theorem cellsHash : Tryd.prog.cellsOf 25 = 10 := by kernel_rfl
theorem cellsStr : Tryd.prog.cellsOf 9 = 1 := by kernel_rfl
theorem cellsInt : Tryd.prog.cellsOf 3 = 1 := by kernel_rfl
theorem hash_ok {r : Reach} {b0 : Nat} {v : Value} {d : DataW H} {p : List MemPlace}
    (hv : Value.okWide Tryd.prog W r b0 25 v) (h : DataW.Trod enc Tryd.prog W base sp held 25 v d p) :
    ∃ x : Hs, v = .agg x.arr ∧ x.h.Ok ∧ x.r.size ≤ maxLen ∧ (-9223372036854775808 ≤ x.m ∧ x.m ≤ 9223372036854775807) := by
  obtain ⟨cs, rfl, hsz⟩ : ∃ cs, v = .agg cs ∧ cs.size = 10 := by
    simp only [Value.okWide, Tryd.underlying25] at hv
    obtain ⟨cs, h1, h2, _⟩ := hv
    exact ⟨cs, h1, h2.trans cellsHash⟩
  obtain ⟨fuel, hf⟩ := h
  obtain ⟨xs, m, _, _, _, hxl, hel⟩ := DataW.trod_struct Tryd.underlying25 hf
  have hxl3 : xs.length = 3 := hxl
  have f0 : DataW.trod enc Tryd.prog W base sp held m 23 ((((Value.agg cs).cells.toList).drop 0).take (Tryd.prog.cellsOf 23)) = xs[0]? := hel 0 _ rfl
  have f1 : DataW.trod enc Tryd.prog W base sp held m 9 ((((Value.agg cs).cells.toList).drop 8).take (Tryd.prog.cellsOf 9)) = xs[1]? := hel 1 _ rfl
  have f2 : DataW.trod enc Tryd.prog W base sp held m 3 ((((Value.agg cs).cells.toList).drop 9).take (Tryd.prog.cellsOf 3)) = xs[2]? := hel 2 _ rfl
  rw [cells23, List.getElem?_eq_getElem (by omega)] at f0
  rw [cellsStr, List.getElem?_eq_getElem (by omega)] at f1
  rw [cellsInt, List.getElem?_eq_getElem (by omega)] at f2
  obtain ⟨s, hs, hok⟩ := eight_of f0
  obtain ⟨r, hr, _, hrl⟩ := DataW.trod_string Tryd.underlying9 f1
  obtain ⟨n, hn, _, hw⟩ := DataW.trod_int Tryd.underlying3 f2
  obtain ⟨l⟩ := cs
  have hl : l.length = 10 := hsz
  refine ⟨⟨s, r, n⟩, ?_, hok, hrl, bounds_i64 hw⟩
  match l, hl with
  | [c0, c1, c2, c3, c4, c5, c6, c7, c8, c9], _ =>
    simp [Value.cells] at hs hr hn
    obtain ⟨rfl, rfl, rfl, rfl, rfl, rfl, rfl, rfl⟩ := hs
    subst hr hn
    rfl
end
end Go.Proofs.YtcpkkicpkmjagaaDoor
