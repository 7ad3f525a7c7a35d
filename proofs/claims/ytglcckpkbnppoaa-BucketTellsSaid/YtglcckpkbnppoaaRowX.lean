/-
  What layer 12's rows share: the start; numbers, raw steps and three numbers that came in, opened.
-/
import Derived.Test.YtglcckpkbnppoaaBuzD
import Derived.Test.YtglcckpkbnppoaaBuzE
import Derived.Test.YtglcckpkbnppoaaRows
import Derived.ProofKit
import Derived.OpenShut
import Derived.LaidMore
import Derived.Below
import Derived.ChangeSame
import Derived.ChangeOld
import Derived.Carry
import Derived.SliceStrings
import Derived.Laws.IdiomArrays
import Derived.Deep.Slices
namespace Go.Proofs.Ytglcckpkbnppoaa
open Go.ChangeShapes Go.WideShapes Go.ChangeAt Go.WideMaps Go.WideElems Go.RowKit

theorem own : ownKnob Try.prog.godebug = none := by kernel_rfl
theorem laidOut : laidOutB Try.prog = true := by kernel_rfl
theorem cellsI12 : Try.prog.cellsOf 3 = 1 := by kernel_rfl
theorem cellsT12 : Try.prog.cellsOf 23 = 3 := by kernel_rfl
theorem three_list12 {l : List Value} (h : l.length = 3) : ∃ a b c, l = [a, b, c] := by
  match l, h with
  | [a, b, c], _ => exact ⟨a, b, c, rfl⟩
theorem inV_of12 {α : Type} {W : World} {base s len : Nat} {a : Addr} (hs : 0 < s) {f : α → List Value} (hfs : ∀ x, (f x).length = s) {L : List α} (_hL : L.length = len) (hC : ∀ i x, L[i]? = some x → W.cells? base (a.add (i * s)) s = some (f x)) : InV W (some a) (L.flatMap f) := by
  have hlen : ∀ l : List α, (l.flatMap f).length = l.length * s := fun l => by
    induction l with
    | nil => simp
    | cons x r ih => rw [List.flatMap_cons, List.length_append, ih, hfs, List.length_cons, Nat.add_mul, Nat.one_mul, Nat.add_comm]
  have hat : ∀ (l : List α) (i : Nat) (x : α), l[i]? = some x → ∀ k, k < s → (l.flatMap f)[i * s + k]? = (f x)[k]? := fun l => by
    induction l with
    | nil => intro i x h; rw [List.getElem?_nil] at h; cases h
    | cons y r ih =>
      intro i x h k hk
      rw [List.flatMap_cons, List.getElem?_append]
      cases i with
      | zero => cases h; rw [Nat.zero_mul, Nat.zero_add, if_pos (by rw [hfs]; exact hk)]
      | succ i =>
        rw [List.getElem?_cons_succ] at h
        rw [hfs, if_neg (by rw [Nat.add_mul, Nat.one_mul]; omega), ← ih i x h k hk]
        congr 1
        rw [Nat.add_mul, Nat.one_mul]
        omega
  intro j u hj
  have hjl := (List.getElem?_eq_some_iff.1 hj).1
  rw [hlen] at hjl
  have hi : j / s < L.length := by rw [Nat.div_lt_iff_lt_mul hs]; exact hjl
  have hx : L[j / s]? = some L[j / s] := List.getElem?_eq_getElem hi
  have h0 : 0 < L.length := Nat.lt_of_le_of_lt (Nat.zero_le _) hi
  have hc : ∀ i x k, L[i]? = some x → k < s → W.cell? (a.add (i * s + k)) = (f x)[k]? := fun i x k hx hk => by
    have := (World.cells?_some (hC i x hx)).2.2 k hk
    rw [← this]
    congr 1
    unfold Addr.add
    by_cases h1 : i * s = 0 <;> by_cases h2 : k = 0 <;> simp [h1, h2, Nat.add_assoc]
  have hj1 := hat L (j / s) _ hx (j % s) (Nat.mod_lt _ hs)
  rw [show j / s * s + j % s = j by rw [Nat.mul_comm]; exact Nat.div_add_mod j s, hj] at hj1
  have hcj := hc (j / s) _ (j % s) hx (Nat.mod_lt _ hs)
  rw [← hj1, show j / s * s + j % s = j by rw [Nat.mul_comm]; exact Nat.div_add_mod j s] at hcj
  have hf0 : ∃ v, (f L[0])[0]? = some v := ⟨(f L[0])[0]'(by rw [hfs]; exact hs), List.getElem?_eq_getElem _⟩
  obtain ⟨v0, hv0⟩ := hf0
  have hc0 := hc 0 _ 0 (List.getElem?_eq_getElem h0) hs
  rw [hv0] at hc0
  obtain ⟨b, off, spot⟩ := a
  have hspot : spot = none := by simpa [Addr.add] using World.cell?_spot hc0
  subst hspot
  rw [Go.WideShapes.add_plain] at hcj
  exact ⟨b, off, rfl, block_lt_of_cell hcj, hcj⟩
section
variable {H : Type} {enc : TypeId × Value → H} {W : World} {base : Nat} {sp : Nat → Bool} {held : Bool}
theorem ints12 {fuel : Nat} {A : Option Addr} {len cap : Nat} {x : DataW H × List MemPlace}
    (hf : DataW.trod enc Try.prog W base sp held fuel 28 (Value.slice A len cap).cells.toList = some x) : len ≤ maxLen ∧ ∃ L : List Int, L.length = len ∧ InV W A (iV12 L) ∧ Big12 L := by
  rcases open_ints Try.underlying28 Try.underlying3 (by kernel_rfl) hf with ⟨hcs, _⟩ | ⟨y, l, c, zs, hcs, _, hl, hm, hz, _, hcell, hwz⟩
  · simp [Value.cells] at hcs
    obtain ⟨rfl, rfl, rfl⟩ := hcs
    exact ⟨by simp [maxLen], [], rfl, fun j u hj => (by cases hj), fun y hy => by cases hy⟩
  · simp [Value.cells] at hcs
    obtain ⟨rfl, rfl, rfl⟩ := hcs
    have hzl : len ≤ zs.length := by rw [hz]; split <;> omega
    refine ⟨Nat.le_trans hl hm, zs.take len, by rw [List.length_take]; omega, fun j u hj => ?_, fun u hu => ?_⟩
    · have hj2 : j < len := by
        have := (List.getElem?_eq_some_iff.1 hj).1
        rw [List.length_map, List.length_take] at this
        omega
      obtain ⟨b, off, rfl, hc⟩ := ints_at hcell (by omega)
      have hcj := hc j (by omega)
      refine ⟨b, off, rfl, block_lt_of_cell hcj, ?_⟩
      rw [hcj, ← hj, List.getElem?_map, List.getElem?_take, if_pos hj2, List.getElem?_eq_getElem (by omega), List.getD_eq_getElem?_getD, List.getElem?_eq_getElem (by omega)]
      rfl
    · obtain ⟨j, hj, rfl⟩ := List.getElem_of_mem hu
      have hj2 : j < zs.length := by rw [List.length_take] at hj; omega
      have := range_i64 hwz j
      rw [List.getElem?_eq_getElem hj2] at this
      rw [List.getElem_take]
      exact this
set_option maxRecDepth 100000 in
theorem raws12 {fuel : Nat} {A : Option Addr} {len cap : Nat} {x : DataW H × List MemPlace}
    (hf : DataW.trod enc Try.prog W base sp held fuel 22 (Value.slice A len cap).cells.toList = some x) : len ≤ maxLen ∧ ∃ R : List Raw12, R.length = len ∧ InV W A (flI12 R) ∧ ∀ n ∈ R, Bigr12 n := by
  rcases Go.Deep.open_slice Try.underlying22 hf with ⟨hcs, _⟩ | ⟨a, l, c, m, n, D, Pl, hcs, hb, hl, hm, hmm, _, hx⟩
  · simp [Value.cells] at hcs
    obtain ⟨rfl, rfl, rfl⟩ := hcs
    exact ⟨by simp [maxLen], [], rfl, fun j u hj => (by cases hj), fun n hn => (by cases hn)⟩
  · simp [Value.cells] at hcs
    obtain ⟨rfl, rfl, rfl⟩ := hcs
    have hlm : len ≤ m := by rw [hmm]; split <;> omega
    rw [cellsT12] at hx
    obtain ⟨q, hq⟩ := Go.Deep.choose_lt (α := Raw12) (n := len) (p := fun i r => W.cells? base (a.add (i * 3)) 3 = some [.int .i64 r.1, .int .i64 r.2.1, .int .i64 r.2.2] ∧ Bigr12 r) (fun i hi => by
      obtain ⟨cs', h1, h2⟩ := hx i (by omega)
      obtain ⟨c0, c1, c2, rfl⟩ := three_list12 (World.cells?_some h1).2.1
      obtain ⟨y0, y1, y2, n', _, t0, t1, t2⟩ := trod_array3 Try.underlying23 cellsI12 h2
      obtain ⟨z0, e0, _, w0⟩ := DataW.trod_int Try.underlying3 t0
      obtain ⟨z1, e1, _, w1⟩ := DataW.trod_int Try.underlying3 t1
      obtain ⟨z2, e2, _, w2⟩ := DataW.trod_int Try.underlying3 t2
      cases e0; cases e1; cases e2
      exact ⟨(z0, z1, z2), h1, bounds_i64 w0, bounds_i64 w1, bounds_i64 w2⟩)
    have hat : ∀ i z, ((List.range len).map q)[i]? = some z → i < len ∧ z = q i := fun i z h => by
      rw [List.getElem?_map] at h
      obtain ⟨k, hk, e⟩ := Option.map_eq_some_iff.1 h
      obtain ⟨h1, h2⟩ := List.getElem?_eq_some_iff.1 hk
      rw [List.length_range] at h1
      rw [List.getElem_range] at h2
      exact ⟨h1, by rw [← e, h2]⟩
    refine ⟨Nat.le_trans hl hm, (List.range len).map q, by simp, inV_of12 (base := base) (s := 3) (f := fun n : Raw12 => [.int .i64 n.1, .int .i64 n.2.1, .int .i64 n.2.2]) (by decide) (fun _ => rfl) (len := len) (by simp) (fun i z h => ?_), fun n hn => ?_⟩
    · obtain ⟨h1, rfl⟩ := hat i z h
      exact (hq i h1).1
    · obtain ⟨i, hi⟩ := List.getElem?_of_mem hn
      obtain ⟨h1, rfl⟩ := hat i n hi
      exact (hq i h1).2
set_option maxRecDepth 100000 in
theorem three12 {r : Reach} {b0 : Nat} {v : Value} {d : DataW H} {p : List MemPlace}
    (hv : Value.okWide Try.prog W r b0 23 v) (h : DataW.Trod enc Try.prog W base sp held 23 v d p) :
    ∃ n : Raw12, v = .agg #[.int .i64 n.1, .int .i64 n.2.1, .int .i64 n.2.2] ∧ Bigr12 n := by
  obtain ⟨cs, rfl, hsz⟩ : ∃ cs, v = .agg cs ∧ cs.size = 3 := by
    simp only [Value.okWide, Try.underlying23] at hv
    obtain ⟨cs, h1, h2, _⟩ := hv
    exact ⟨cs, h1, h2.trans cellsT12⟩
  obtain ⟨fuel, hf⟩ := h
  obtain ⟨l⟩ := cs
  obtain ⟨c0, c1, c2, rfl⟩ := three_list12 (show l.length = 3 from hsz)
  obtain ⟨y0, y1, y2, n', _, t0, t1, t2⟩ := trod_array3 Try.underlying23 cellsI12 hf
  obtain ⟨z0, e0, _, w0⟩ := DataW.trod_int Try.underlying3 t0
  obtain ⟨z1, e1, _, w1⟩ := DataW.trod_int Try.underlying3 t1
  obtain ⟨z2, e2, _, w2⟩ := DataW.trod_int Try.underlying3 t2
  cases e0; cases e1; cases e2
  exact ⟨(z0, z1, z2), rfl, bounds_i64 w0, bounds_i64 w1, bounds_i64 w2⟩
end
end Go.Proofs.Ytglcckpkbnppoaa
