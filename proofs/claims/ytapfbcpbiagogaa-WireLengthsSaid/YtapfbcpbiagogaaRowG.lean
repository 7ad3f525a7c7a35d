/-
  Lists of things of several cells in memory: what lies where a slice points to; rows of one's own; copies and one thing more. Nothing of the program stands here.
-/
import Derived.Test.YtapfbcpbiagogaaKit
import Derived.Laws.AppendOwnNone
import Derived.OwnWalk
import Derived.Lib.OthersKept
import Derived.RangeFuncKeeps
namespace Go.Proofs.Ytapfbcpbiagogaa
open Go.RowKit

theorem is_neG {W : World} {g g' : Nat} {t t' : TypeId} {cs cs' : Array Value} (h : Is W g t cs) (h' : Is W g' t' cs') (hne : t ≠ t') : g ≠ g' := fun e => by
  subst e
  have := h.symm.trans h'
  cases this
  exact hne rfl
theorem grownG {W W1 : World} (hb : Below W.heap.size W W1) : W.grownBy W1 none := ⟨hb.os, hb.tape, hb.output, hb.size, fun k hk _ => hb.block k hk⟩
theorem grownSetG (w : World) (p : Addr) (v : Value) : w.grownBy (w.setCell p v) (some p.block) :=
  ⟨rfl, rfl, rfl, by simp [World.setCell], fun k _ hne => heap_setCell_other w p k v (fun e => hne (by rw [e]))⟩
theorem grownRowG (w : World) (g : Nat) (cs : Array Value) : w.grownBy (w.setRow g cs) (some g) := ⟨rfl, rfl, rfl, by simp, fun k _ hne => setRow_other w g k cs (fun e => hne (by rw [e]))⟩
/-- values that lie where a slice points to. -/
def InV (W : World) (A : Option Addr) (vs : List Value) : Prop :=
  ∀ j u, vs[j]? = some u → ∃ b off, A = some ⟨b, off, none⟩ ∧ b < W.heap.size ∧ W.cell? ⟨b, off + j, none⟩ = some u
theorem InV.keep {W W' : World} {A : Option Addr} {vs : List Value} (h : InV W A vs) (hb : Below W.heap.size W W') : InV W' A vs := fun j u hj => by
  obtain ⟨b, off, rfl, h1, h2⟩ := h j u hj
  exact ⟨b, off, rfl, Nat.lt_of_lt_of_le h1 hb.size, (hb.cell (p := ⟨b, off + j, none⟩) h1).trans h2⟩
theorem InV.nil_of {W : World} {vs : List Value} (h : InV W none vs) : vs = [] := by
  cases vs with
  | nil => rfl
  | cons x l =>
    obtain ⟨b, off, h1, _⟩ := h 0 x rfl
    cases h1
/-- a row of one's own: n things of so many cells. -/
def RowV (W : World) (base : Nat) (e : TypeId) (size : Nat) (A : Option Addr) (c n : Nat) (xs : List Value) : Prop := W.ownsRow base e size (.slice A n c) n xs
section
variable {W W' : World} {base size : Nat} {e : TypeId} {A : Option Addr} {c n : Nat} {xs : List Value}
theorem owns_sliceG {v : Value} (h : W.ownsRow base e size v n xs) : ∃ A' c', v = .slice A' n c' := by
  rcases h.2 with ⟨rfl, rfl⟩ | ⟨g, cap, cur, rfl, _⟩
  · exact ⟨_, _, rfl⟩
  · exact ⟨_, _, rfl⟩
theorem RowV.grown (h : RowV W base e size A c n xs) {row : Option Nat} (hg : W.grownBy W' row) (hr : ∀ r, row = some r → ∃ t cs, Is W r t cs ∧ t ≠ e) : RowV W' base e size A c n xs := by
  refine h.kept hg ?_
  rcases h.2 with ⟨h0, _⟩ | ⟨g, cap, cur, h0, _, hi, _⟩
  · rw [h0]; exact .inl rfl
  · rw [h0]
    refine .inr fun e2 => ?_
    obtain ⟨t, cs, h1, h2⟩ := hr g e2.symm
    exact is_neG h1 (show Is W g e cur from hi) h2 rfl
theorem RowV.keptT (h : RowV W base e size A c n xs) {row : Option Nat} (hg : W.grownBy W' row) (hr : ∀ r, row = some r → ∃ o : Obj, W.heap[r]? = some o ∧ o.isCells = false) : RowV W' base e size A c n xs := by
  refine h.kept hg ?_
  rcases h.2 with ⟨h0, _⟩ | ⟨g, cap, cur, h0, _, hi, _⟩
  · rw [h0]; exact .inl rfl
  · rw [h0]
    refine .inr fun e2 => ?_
    obtain ⟨o, h1, h2⟩ := hr g e2.symm
    rw [hi] at h1
    cases h1
    cases h2
theorem RowV.below (h : RowV W base e size A c n xs) (hb : Below W.heap.size W W') : RowV W' base e size A c n xs := h.grown (grownG hb) (fun r e => by cases e)
theorem RowV.alloc (h : RowV W base e size A c n xs) (o : Obj) : RowV (W.alloc o) base e size A c n xs := h.grown (World.grownBy_alloc W o none) (fun r e => by cases e)
theorem RowV.far (h : RowV W base e size A c n xs) {p : Addr} {t : TypeId} {cs : Array Value} (hp : Is W p.block t cs) (ht : t ≠ e) (v : Value) : RowV (W.setCell p v) base e size A c n xs :=
  h.grown (grownSetG _ _ _) (fun r e => by cases e; exact ⟨t, cs, hp, ht⟩)
theorem RowV.rowFar (h : RowV W base e size A c n xs) {g : Nat} {t : TypeId} {cs : Array Value} (hp : Is W g t cs) (ht : t ≠ e) (v : Array Value) : RowV (W.setRow g v) base e size A c n xs :=
  h.grown (grownRowG _ _ _) (fun r e => by cases e; exact ⟨t, cs, hp, ht⟩)
theorem RowV.drewN (h : RowV W base e size A c n xs) (m : Nat) : RowV (W.drewN m) base e size A c n xs := h
theorem RowV.nil (W : World) (base : Nat) (e : TypeId) (size : Nat) : RowV W base e size none 0 0 [] := World.ownsRow_nil _ _ _ _
theorem RowV.mono {b2 : Nat} (h : RowV W base e size A c n xs) (hb : b2 ≤ base) : RowV W b2 e size A c n xs := by
  refine ⟨h.1, ?_⟩
  rcases h.2 with h0 | ⟨g, cap, cur, h0, hg, rest⟩
  · exact .inl h0
  · exact .inr ⟨g, cap, cur, h0, Nat.le_trans hb hg, rest⟩
theorem RowV.inV (h : RowV W base e size A c n xs) : InV W A xs := fun j u hj => by
  rcases h.2 with ⟨_, h0⟩ | ⟨g, cap, cur, h0, _, hi, _, _, _, ht⟩
  · subst h0
    have hl := h.1
    rw [Nat.zero_mul] at hl
    rw [List.length_eq_zero_iff.1 hl] at hj
    cases hj
  · injection h0 with h0 h1 h2
    subst h0
    refine ⟨g, 0, rfl, (Array.getElem?_eq_some_iff.1 hi).1, ?_⟩
    have hlt : j < n * size := by
      have := (List.getElem?_eq_some_iff.1 hj).1
      rw [h.1] at this
      exact this
    rw [← ht, List.getElem?_take, if_pos hlt, Array.getElem?_toList] at hj
    rw [Nat.zero_add]
    exact (Is.cell (show Is W g e cur from hi) j).trans hj
/-- a change in the row itself leaves blocks of other types alone. -/
theorem RowV.isFar (h : RowV W base e size A c n xs) (hg : W.grownBy W' (Value.slice A n c).ownBlock) {g : Nat} {t : TypeId} {cs : Array Value} (hi : Is W g t cs) (ht : t ≠ e) : Is W' g t cs := by
  refine (hg.block g hi.lt (fun e2 => ?_)).trans hi
  rcases h.2 with ⟨h0, _⟩ | ⟨g2, cap, cur, h0, _, hi2, _⟩
  · rw [h0] at e2; cases e2
  · rw [h0] at e2
    cases e2
    exact is_neG hi (show Is W g2 e cur from hi2) ht rfl
theorem RowV.belowG {w : World} (h : RowV W w.heap.size e size A c n xs) (hB : Below w.heap.size w W) (hg : W.grownBy W' (Value.slice A n c).ownBlock) : Below w.heap.size w W' :=
  hB.grown hg hB.size (fun q e2 => (World.ownsRow.lt h q e2).1)
end
section
variable {P : Program} {w : World} {ops : Array Oper} {rest : List Oper} {o : Oper} {a : Act} {Q : Exit → Act → World → Prop}
/-- nothing, and a list behind it: a copy. -/
theorem wpList_copyV (hgd : o.guard = none) (s x : Operand) (t e : TypeId) (i0 : TypeInfo) (z : Value) (size bytes : Nat)
    (ho : o.op = .call { callee := .builtin .append, args := #[s, x], argTypes := #[t, t] }) (ht : P.underlying t = some (.slice e)) (hi : P.info? e = some i0) (hz : i0.zero = some z) (hz1 : i0.size = size) (hz2 : i0.bytes = bytes) (hzs : z.cells.size = size) (hpos : 0 < size)
    (A : Option Addr) (cap n : Nat) (xs : List Value) (hl : xs.length = n * size) (h1 : ∀ u ∈ xs, u.oneCell' = true) (hc : InV w A xs) (hn : A = none → cap = 0) (hm : n ≤ maxLen) (hby : n * bytes ≤ 140737488355328)
    (hs : a.eval s = .slice none 0 0 ∧ a.eval x = .slice A n cap) (base : Nat) (hb : base ≤ w.heap.size)
    (h : ∀ A' c' w', RowV w' base e size A' c' n xs → Below w.heap.size w w' → wpList P ops Q rest (a.put o.dst (.slice A' n c')) w') : wpList P ops Q (o :: rest) a w := by
  cases A with
  | none =>
    obtain rfl : xs = [] := hc.nil_of
    obtain rfl : cap = 0 := hn rfl
    obtain rfl : n = 0 := by
      rcases Nat.eq_zero_or_pos n with h0 | h0
      · exact h0
      · have := Nat.mul_pos h0 hpos
        rw [← hl] at this
        cases this
    exact wpList_append_own_none hgd s x t ho base e i0 size ht hi (.slice none 0 0) 0 [] hs.1 (World.ownsRow_nil _ _ _ _) hs.2 (h none 0 w (World.ownsRow_nil _ _ _ _) (Below.refl _ _))
  | some p =>
    refine wpList_append_own w hgd s x t ho base e i0 z size bytes ht hi hz hz1 hz2 hzs hpos (.slice none 0 0) 0 [] hs.1 (World.ownsRow_nil _ _ _ _) p n cap xs hs.2 hl (fun j u hj => ?_) h1 (by omega) (by rw [Nat.zero_add]; exact hby) hb ?_
    · obtain ⟨b, off, e2, _, h2⟩ := hc j u hj
      cases e2
      rw [Addr.add_lit]
      exact h2
    · intro v' w1 hown hgrow _
      obtain ⟨A', c', rfl⟩ := owns_sliceG hown
      rw [Nat.zero_add] at hown ⊢
      exact h A' c' w1 hown ((Below.refl _ w).grown hgrow (Nat.le_refl _) (fun k e => by cases e))
/-- one thing more behind a row of one's own. -/
theorem wpList_pushV (hgd : o.guard = none) (s x : Operand) (t e : TypeId) (i0 : TypeInfo) (z : Value) (size bytes : Nat)
    (ho : o.op = .call { callee := .builtin .append, args := #[s, x], argTypes := #[t, t] }) (ht : P.underlying t = some (.slice e)) (hi : P.info? e = some i0) (hz : i0.zero = some z) (hz1 : i0.size = size) (hz2 : i0.bytes = bytes) (hzs : z.cells.size = size) (hpos : 0 < size)
    (base : Nat) (A : Option Addr) (c n : Nat) (xs : List Value) (hO : RowV w base e size A c n xs) (g : Nat) (t2 : TypeId) (ys : Array Value) (hg : Is w g t2 ys) (hys : ys.size = size) (h1 : ∀ u ∈ ys.toList, u.oneCell' = true) (hm : n + 1 ≤ maxLen) (hby : (n + 1) * bytes ≤ 140737488355328)
    (hs : a.eval s = .slice A n c ∧ a.eval x = .slice (some ⟨g, 0, none⟩) 1 1) (hb : base ≤ w.heap.size)
    (h : ∀ A' c' w', RowV w' base e size A' c' (n + 1) (xs ++ ys.toList) → w.grownBy w' (Value.slice A n c).ownBlock → wpList P ops Q rest (a.put o.dst (.slice A' (n + 1) c')) w') : wpList P ops Q (o :: rest) a w := by
  refine wpList_append_own w hgd s x t ho base e i0 z size bytes ht hi hz hz1 hz2 hzs hpos (.slice A n c) n xs hs.1 hO ⟨g, 0, none⟩ 1 1 ys.toList hs.2 (by rw [Array.length_toList, hys, Nat.one_mul]) (fun j u hj => ?_) h1 hm hby hb ?_
  · rw [Addr.add_lit, Nat.zero_add, hg.cell, ← Array.getElem?_toList]
    exact hj
  · intro v' w1 hown hgrow _
    obtain ⟨A', c', rfl⟩ := owns_sliceG hown
    exact h A' c' w1 hown hgrow
end
end Go.Proofs.Ytapfbcpbiagogaa
