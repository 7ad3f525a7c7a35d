/-
  Layer 8: rows that grow side by side, and lists elsewhere. Nothing of the program stands here but ideals in memory.
-/
import Derived.Test.YtdbdoammbnogaaaIdz6
import Derived.Test.YtdbdoammbnogaaaIdeL
import Derived.Maps.AppendAt
namespace Go.Proofs.Ytdbdoammbnogaaa
open Go.RowKit

/-- where a list lies: as before, or in what is new since there were n blocks. -/
def OwnB (n : Nat) (W : World) (A F : Option Addr) : Prop := F = A ∨ ∀ p, F = some p → n ≤ p.block ∧ p.block < W.heap.size
theorem Own8.ownB {w w' : World} {A F : Option Addr} (h : Own8 w w' A F) {n : Nat} (hn : n ≤ w.heap.size) : OwnB n w' A F := h.imp id fun h p hp => ⟨Nat.le_trans hn (h p hp).1, (h p hp).2⟩
theorem OwnB.row {n : Nat} {W : World} {A F : Option Addr} (h : OwnB n W A F) (g : Nat) (cs : Array Value) : OwnB n (W.setRow g cs) A F := h.imp id fun h p hp => ⟨(h p hp).1, by simpa using (h p hp).2⟩
theorem grownT {W W1 : World} (hb : Below W.heap.size W W1) (row : Option Nat) : W.grownBy W1 row := ⟨hb.os, hb.tape, hb.output, hb.size, fun k hk _ => hb.block k hk⟩
/-- no two of them in one block. -/
structure Sep8 (n : Nat) (AI AO A1 A2 : Option Addr) : Prop where
  io : ∀ p q, AI = some p → AO = some q → p.block ≠ q.block
  i1 : ∀ p q, AI = some p → A1 = some q → p.block ≠ q.block
  i2 : ∀ p q, AI = some p → A2 = some q → p.block ≠ q.block
  o1 : ∀ p q, AO = some p → A1 = some q → p.block ≠ q.block
  o2 : ∀ p q, AO = some p → A2 = some q → p.block ≠ q.block
  lI : ∀ p, AI = some p → p.block < n
  lO : ∀ p, AO = some p → p.block < n
  l1 : ∀ p, A1 = some p → p.block < n
  l2 : ∀ p, A2 = some p → p.block < n
theorem Sep8.none (n : Nat) : Sep8 n none none none none := by
  refine ⟨?_, ?_, ?_, ?_, ?_, ?_, ?_, ?_, ?_⟩ <;> intro p <;> first | (intro q h; cases h) | (intro h; cases h)
theorem Sep8.mono {n m : Nat} {AI AO A1 A2 : Option Addr} (h : Sep8 n AI AO A1 A2) (hm : n ≤ m) : Sep8 m AI AO A1 A2 :=
  ⟨h.io, h.i1, h.i2, h.o1, h.o2, fun p e => Nat.lt_of_lt_of_le (h.lI p e) hm, fun p e => Nat.lt_of_lt_of_le (h.lO p e) hm, fun p e => Nat.lt_of_lt_of_le (h.l1 p e) hm, fun p e => Nat.lt_of_lt_of_le (h.l2 p e) hm⟩
theorem Sep8.ask {n : Nat} {W : World} {AI AO A1 A2 F1 F2 : Option Addr} (h : Sep8 n AI AO A1 A2) (hn : n ≤ W.heap.size) (h1 : OwnB n W A1 F1) (h2 : OwnB n W A2 F2) : Sep8 W.heap.size AI AO F1 F2 := by
  have ne : ∀ {B F A : Option Addr} (_ : ∀ p q, B = some p → A = some q → p.block ≠ q.block) (_ : ∀ p, B = some p → p.block < n) (_ : OwnB n W A F), ∀ p q, B = some p → F = some q → p.block ≠ q.block := fun ha hl ho p q hp hq => by
    rcases ho with rfl | ho
    · exact ha p q hp hq
    · have := hl p hp
      have := (ho q hq).1
      omega
  have lt : ∀ {A F : Option Addr} (_ : ∀ p, A = some p → p.block < n) (_ : OwnB n W A F), ∀ p, F = some p → p.block < W.heap.size := fun hl ho p hp => by
    rcases ho with rfl | ho
    · exact Nat.lt_of_lt_of_le (hl p hp) hn
    · exact (ho p hp).2
  exact ⟨h.io, ne h.i1 h.lI h1, ne h.i2 h.lI h2, ne h.o1 h.lO h1, ne h.o2 h.lO h2, fun p e => Nat.lt_of_lt_of_le (h.lI p e) hn, fun p e => Nat.lt_of_lt_of_le (h.lO p e) hn, lt h.l1 h1, lt h.l2 h2⟩
/-- a row that grew lies where it did, or in a new block. -/
def Atn (n : Nat) (A B : Option Addr) : Prop := ∀ q, B = some q → (∃ p, A = some p ∧ p.block = q.block) ∨ q.block = n
theorem Sep8.pushI {n m : Nat} {AI AO A1 A2 B : Option Addr} (h : Sep8 n AI AO A1 A2) (ht : Atn n AI B) (hm : n ≤ m) (hl : ∀ p, B = some p → p.block < m) : Sep8 m B AO A1 A2 := by
  have ne : ∀ {C : Option Addr} (_ : ∀ p q, AI = some p → C = some q → p.block ≠ q.block) (_ : ∀ p, C = some p → p.block < n), ∀ p q, B = some p → C = some q → p.block ≠ q.block := fun ha hl p q hp hq => by
    rcases ht p hp with ⟨r, hr, e⟩ | e
    · rw [← e]; exact ha r q hr hq
    · have := hl q hq; omega
  exact ⟨ne h.io h.lO, ne h.i1 h.l1, ne h.i2 h.l2, h.o1, h.o2, hl, fun p e => Nat.lt_of_lt_of_le (h.lO p e) hm, fun p e => Nat.lt_of_lt_of_le (h.l1 p e) hm, fun p e => Nat.lt_of_lt_of_le (h.l2 p e) hm⟩
theorem Sep8.swap {n : Nat} {AI AO A1 A2 : Option Addr} (h : Sep8 n AI AO A1 A2) : Sep8 n AO AI A1 A2 := ⟨fun p q hp hq e => h.io q p hq hp e.symm, h.o1, h.o2, h.i1, h.i2, h.lO, h.lI, h.l1, h.l2⟩
theorem InV.apart {W W' : World} {A : Option Addr} {vs : List Value} {row : Option Nat} (h : InV W A vs) (hg : W.grownBy W' row) (hr : ∀ p, A = some p → row ≠ some p.block) : InV W' A vs := fun j u hj => by
  obtain ⟨b, off, rfl, h1, h2⟩ := h j u hj
  have hb := hg.block b h1 (fun e => hr _ rfl (by rw [← e]))
  refine ⟨b, off, rfl, Nat.lt_of_lt_of_le h1 hg.size, ?_⟩
  rw [← h2]
  simp only [World.cell?, hb]
theorem InI.apart {W W' : World} {d : Ide} {A : Option Addr} {c : Nat} {A' : Option Addr} {c' : Nat} {row : Option Nat} (h : InI W d A c A' c') (hg : W.grownBy W' row) (hr : ∀ p, A = some p → row ≠ some p.block) (hr' : ∀ p, A' = some p → row ≠ some p.block) : InI W' d A c A' c' :=
  ⟨h.n.apart hg hr, h.k.apart hg hr', h.nil, h.nilK, h.fit, h.fitK⟩
theorem RowV.apart {W W' : World} {base n size c : Nat} {e : TypeId} {A : Option Addr} {xs : List Value} {row : Option Nat} (h : RowV W base e size A c n xs) (hg : W.grownBy W' row) (hr : ∀ p, A = some p → row ≠ some p.block) : RowV W' base e size A c n xs := by
  refine h.kept hg ?_
  cases A with
  | none => exact .inl rfl
  | some p => exact .inr fun e2 => hr p rfl e2.symm
theorem RowV.grownS {W W' : World} {base n size c : Nat} {e : TypeId} {A : Option Addr} {xs : List Value} (h : RowV W base e size A c n xs) {g : Nat} {t : TypeId} {cs : Array Value} (hg : W.grownBy W' (some g)) (hi : Is W g t cs) (ht : t ≠ e) : RowV W' base e size A c n xs := h.grown hg (fun r e => by cases e; exact ⟨t, cs, hi, ht⟩)
section
variable {P : Program} {w : World} {ops : Array Oper} {rest : List Oper} {o : Oper} {a : Act} {Q : Exit → Act → World → Prop}
/-- one thing more behind a row of one's own; where it lies is told. -/
theorem wpList_pushA (hgd : o.guard = none) (s x : Operand) (t e : TypeId) (i0 : TypeInfo) (z : Value) (size bytes : Nat)
    (ho : o.op = .call { callee := .builtin .append, args := #[s, x], argTypes := #[t, t] }) (ht : P.underlying t = some (.slice e)) (hi : P.info? e = some i0) (hz : i0.zero = some z) (hz1 : i0.size = size) (hz2 : i0.bytes = bytes) (hzs : z.cells.size = size) (hpos : 0 < size)
    (base : Nat) (A : Option Addr) (c n : Nat) (xs : List Value) (hO : RowV w base e size A c n xs) (g : Nat) (t2 : TypeId) (ys : Array Value) (hg : Is w g t2 ys) (hys : ys.size = size) (h1 : ∀ u ∈ ys.toList, u.oneCell' = true) (hm : n + 1 ≤ maxLen) (hby : (n + 1) * bytes ≤ 140737488355328)
    (hs : a.eval s = .slice A n c ∧ a.eval x = .slice (some ⟨g, 0, none⟩) 1 1) (hb : base ≤ w.heap.size)
    (h : ∀ A' c' w', RowV w' base e size A' c' (n + 1) (xs ++ ys.toList) → w.grownBy w' (Value.slice A n c).ownBlock → Atn w.heap.size A A' → wpList P ops Q rest (a.put o.dst (.slice A' (n + 1) c')) w') : wpList P ops Q (o :: rest) a w := by
  refine wpList_append_own_at w hgd s x t ho base e i0 z size bytes ht hi hz hz1 hz2 hzs hpos (.slice A n c) n xs hs.1 hO ⟨g, 0, none⟩ 1 1 ys.toList hs.2 (by rw [Array.length_toList, hys, Nat.one_mul]) (fun j u hj => ?_) h1 hm hby hb ?_
  · rw [Addr.add_lit, Nat.zero_add, hg.cell, ← Array.getElem?_toList]
    exact hj
  · intro v' w1 hown hgrow _ hat
    obtain ⟨A', c', rfl⟩ := owns_sliceG hown
    refine h A' c' w1 hown hgrow (fun q hq => ?_)
    subst hq
    rcases hat with e | e
    · cases A with
      | none => cases e
      | some p =>
        injection e with e
        exact .inl ⟨p, rfl, e.symm⟩
    · injection e with e
      exact .inr e
end
end Go.Proofs.Ytdbdoammbnogaaa
