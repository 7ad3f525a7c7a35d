/-
  What layer 8's rows share: an ideal that came in, opened.
-/
import Derived.Test.YtdbdoammbnogaaaRow8
import Derived.Test.YtdbdoammbnogaaaIdw1
namespace Go.Proofs.Ytdbdoammbnogaaa
open Go.ChangeShapes Go.WideShapes Go.ChangeAt Go.WideMaps Go.WideElems Go.RowKit

section
variable {H : Type} {enc : TypeId × Value → H} {W : World} {base : Nat} {sp : Nat → Bool} {held : Bool}
theorem names8 {fuel : Nat} {cs : List Value} {x : DataW H × List MemPlace}
    (hf : DataW.trod enc Try.prog W base sp held fuel 27 cs = some x) : ∃ A cap, ∃ N : List Nam8, cs = [.slice A N.length cap] ∧ InV W A (flN N) ∧ (A = none → cap = 0) ∧ N.length ≤ cap := by
  rcases Go.Deep.open_slice Try.underlying27 hf with ⟨hcs, _⟩ | ⟨a, len, cap, m, n, D, Pl, hcs, hb, hl, hm, hmm, _, hx⟩
  · exact ⟨none, 0, [], hcs, fun j u hj => (by cases hj), fun _ => rfl, Nat.le_refl _⟩
  · have hlm : len ≤ m := by rw [hmm]; split <;> omega
    rw [cells8N] at hx
    obtain ⟨q, hq⟩ := Go.Deep.choose_lt (α := Nam8) (n := len) (p := fun i r => W.cells? base (a.add (i * 2)) 2 = some [.string r.1, .string r.2]) (fun i hi => by
      obtain ⟨cs', h1, h2⟩ := hx i (by omega)
      obtain ⟨c0, c1, rfl⟩ := two_list (World.cells?_some h1).2.1
      obtain ⟨xs, k, _, _, _, hxl, hel⟩ := DataW.trod_struct Try.underlying55 h2
      have hxl2 : xs.length = 2 := hxl
      have f0 : DataW.trod enc Try.prog W base sp held k 9 ((([c0, c1] : List Value).drop 0).take (Try.prog.cellsOf 9)) = xs[0]? := hel 0 _ rfl
      have f1 : DataW.trod enc Try.prog W base sp held k 9 ((([c0, c1] : List Value).drop 1).take (Try.prog.cellsOf 9)) = xs[1]? := hel 1 _ rfl
      rw [cells7S, List.getElem?_eq_getElem (by omega)] at f0 f1
      obtain ⟨z0, e0, _, _⟩ := DataW.trod_string Try.underlying9 f0
      obtain ⟨z1, e1, _, _⟩ := DataW.trod_string Try.underlying9 f1
      cases e0; cases e1
      exact ⟨(z0, z1), h1⟩)
    have hat : ∀ i z, ((List.range len).map q)[i]? = some z → i < len ∧ z = q i := fun i z h => by
      rw [List.getElem?_map] at h
      obtain ⟨k, hk, e⟩ := Option.map_eq_some_iff.1 h
      obtain ⟨h1, h2⟩ := List.getElem?_eq_some_iff.1 hk
      rw [List.length_range] at h1
      rw [List.getElem_range] at h2
      exact ⟨h1, by rw [← e, h2]⟩
    refine ⟨some a, cap, (List.range len).map q, by rw [hcs]; simp, inV_of (base := base) (s := 2) (f := fun r : Nam8 => [.string r.1, .string r.2]) (by decide) (fun _ => rfl) (len := len) (by simp) (fun i z h => ?_), fun h => (by cases h), by simpa using hl⟩
    obtain ⟨h1, rfl⟩ := hat i z h
    exact hq i h1
theorem mades8 {fuel : Nat} {cs : List Value} {x : DataW H × List MemPlace}
    (hf : DataW.trod enc Try.prog W base sp held fuel 28 cs = some x) : ∃ A cap, ∃ K : List Cel8, cs = [.slice A K.length cap] ∧ InV W A (flK K) ∧ (A = none → cap = 0) ∧ K.length ≤ cap := by
  rcases Go.Deep.open_slice Try.underlying28 hf with ⟨hcs, _⟩ | ⟨a, len, cap, m, n, D, Pl, hcs, hb, hl, hm, hmm, _, hx⟩
  · exact ⟨none, 0, [], hcs, fun j u hj => (by cases hj), fun _ => rfl, Nat.le_refl _⟩
  · have hlm : len ≤ m := by rw [hmm]; split <;> omega
    rw [cells8K] at hx
    obtain ⟨q, hq⟩ := Go.Deep.choose_lt (α := Cel8) (n := len) (p := fun i r => W.cells? base (a.add (i * 3)) 3 = some [.string r.1, .string r.2.1, .string r.2.2]) (fun i hi => by
      obtain ⟨cs', h1, h2⟩ := hx i (by omega)
      obtain ⟨c0, c1, c2, rfl⟩ := three_list (World.cells?_some h1).2.1
      obtain ⟨xs, k, _, _, _, hxl, hel⟩ := DataW.trod_struct Try.underlying57 h2
      have hxl2 : xs.length = 3 := hxl
      have f0 : DataW.trod enc Try.prog W base sp held k 9 ((([c0, c1, c2] : List Value).drop 0).take (Try.prog.cellsOf 9)) = xs[0]? := hel 0 _ rfl
      have f1 : DataW.trod enc Try.prog W base sp held k 9 ((([c0, c1, c2] : List Value).drop 1).take (Try.prog.cellsOf 9)) = xs[1]? := hel 1 _ rfl
      have f2 : DataW.trod enc Try.prog W base sp held k 9 ((([c0, c1, c2] : List Value).drop 2).take (Try.prog.cellsOf 9)) = xs[2]? := hel 2 _ rfl
      rw [cells7S, List.getElem?_eq_getElem (by omega)] at f0 f1 f2
      obtain ⟨z0, e0, _, _⟩ := DataW.trod_string Try.underlying9 f0
      obtain ⟨z1, e1, _, _⟩ := DataW.trod_string Try.underlying9 f1
      obtain ⟨z2, e2, _, _⟩ := DataW.trod_string Try.underlying9 f2
      cases e0; cases e1; cases e2
      exact ⟨(z0, z1, z2), h1⟩)
    have hat : ∀ i z, ((List.range len).map q)[i]? = some z → i < len ∧ z = q i := fun i z h => by
      rw [List.getElem?_map] at h
      obtain ⟨k, hk, e⟩ := Option.map_eq_some_iff.1 h
      obtain ⟨h1, h2⟩ := List.getElem?_eq_some_iff.1 hk
      rw [List.length_range] at h1
      rw [List.getElem_range] at h2
      exact ⟨h1, by rw [← e, h2]⟩
    refine ⟨some a, cap, (List.range len).map q, by rw [hcs]; simp, inV_of (base := base) (s := 3) (f := fun r : Cel8 => [.string r.1, .string r.2.1, .string r.2.2]) (by decide) (fun _ => rfl) (len := len) (by simp) (fun i z h => ?_), fun h => (by cases h), by simpa using hl⟩
    obtain ⟨h1, rfl⟩ := hat i z h
    exact hq i h1
theorem five_list {l : List Value} (h : l.length = 5) : ∃ a b c d e, l = [a, b, c, d, e] := by
  match l, h with
  | [a, b, c, d, e], _ => exact ⟨a, b, c, d, e, rfl⟩
theorem ideal_ok {r : Reach} {b0 : Nat} {v : Value} {d : DataW H} {p : List MemPlace}
    (hv : Value.okWide Try.prog W r b0 30 v) (h : DataW.Trod enc Try.prog W base sp held 30 v d p) :
    ∃ (D : Ide) (A : Option Addr) (c : Nat) (A' : Option Addr) (c' : Nat), v = ideV D A c A' c' ∧ Odd8 W D A c A' c' := by
  obtain ⟨cs, rfl, hsz⟩ : ∃ cs, v = .agg cs ∧ cs.size = 5 := by
    simp only [Value.okWide, Try.underlying30] at hv
    obtain ⟨cs, h1, h2, _⟩ := hv
    exact ⟨cs, h1, h2.trans cells8D⟩
  obtain ⟨fuel, hf⟩ := h
  obtain ⟨l⟩ := cs
  obtain ⟨x0, x1, x2, x3, x4, rfl⟩ := five_list (show l.length = 5 from hsz)
  obtain ⟨xs, m, _, _, _, hxl, hel⟩ := DataW.trod_struct Try.underlying30 hf
  have hxl2 : xs.length = 4 := hxl
  have f0 : DataW.trod enc Try.prog W base sp held m 26 ((([x0, x1, x2, x3, x4] : List Value).drop 0).take (Try.prog.cellsOf 26)) = xs[0]? := hel 0 _ rfl
  have f1 : DataW.trod enc Try.prog W base sp held m 27 ((([x0, x1, x2, x3, x4] : List Value).drop 2).take (Try.prog.cellsOf 27)) = xs[1]? := hel 1 _ rfl
  have f2 : DataW.trod enc Try.prog W base sp held m 28 ((([x0, x1, x2, x3, x4] : List Value).drop 3).take (Try.prog.cellsOf 28)) = xs[2]? := hel 2 _ rfl
  have f3 : DataW.trod enc Try.prog W base sp held m 4 ((([x0, x1, x2, x3, x4] : List Value).drop 4).take (Try.prog.cellsOf 4)) = xs[3]? := hel 3 _ rfl
  rw [cells8T, List.getElem?_eq_getElem (by omega)] at f0
  rw [cells8nn, List.getElem?_eq_getElem (by omega)] at f1
  rw [cells8kk, List.getElem?_eq_getElem (by omega)] at f2
  rw [cells8b, List.getElem?_eq_getElem (by omega)] at f3
  obtain ⟨ys, m2, _, _, _, hyl, hey⟩ := DataW.trod_struct Try.underlying26 f0
  have hyl2 : ys.length = 2 := hyl
  have g0 : DataW.trod enc Try.prog W base sp held m2 9 ((([x0, x1] : List Value).drop 0).take (Try.prog.cellsOf 9)) = ys[0]? := hey 0 _ rfl
  have g1 : DataW.trod enc Try.prog W base sp held m2 3 ((([x0, x1] : List Value).drop 1).take (Try.prog.cellsOf 3)) = ys[1]? := hey 1 _ rfl
  rw [cells7S, List.getElem?_eq_getElem (by omega)] at g0
  rw [cells7I, List.getElem?_eq_getElem (by omega)] at g1
  obtain ⟨B, hB, _, _⟩ := DataW.trod_string Try.underlying9 g0
  obtain ⟨a, ha, _, _⟩ := DataW.trod_int Try.underlying3 g1
  obtain ⟨A, c, N, hN, n1, n2, n3⟩ := names8 f1
  obtain ⟨A', c', K, hK, k1, k2, k3⟩ := mades8 f2
  obtain ⟨b, hb, _⟩ := DataW.trod_bool Try.underlying4 f3
  cases hB; cases ha; cases hN; cases hK; cases hb
  exact ⟨⟨B, a, N, K, b⟩, A, c, A', c', rfl, ⟨n1, k1, n2, k2, n3, k3⟩⟩
end
end Go.Proofs.Ytdbdoammbnogaaa
