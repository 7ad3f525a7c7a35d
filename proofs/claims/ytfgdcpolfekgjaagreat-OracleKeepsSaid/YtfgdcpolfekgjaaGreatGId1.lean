/-
  Lists of things of several cells in memory: what lies where a slice points to; rows of one's own; copies and one thing more. Nothing of the program stands here.
  A law for 'for .. := range it', where the iterator tells a list that is known ahead, and stops where the body ends; an iterator may itself range over such a one. Nothing of the program stands here.
  Layer 8: ideals as values and in memory; contracts of ideal.names and ideal.cells and of the iterators that they return: what lies where the slice points to is told, one thing after another. Condition: it lies there.
  Layer 8: contracts of the iterators that ideal.outs and ideal.texts return: what names and cells tell, the other way round. Condition: the ideal's lists lie where its slices point to.
  Layer 8: contracts of ideal.find, the program's: what is told first of what is asked, of whatever tells a list. Condition: it tells that list.
-/
import Derived.Test.YtfgdcpolfekgjaaGreatGKit
import Derived.Test.YtfgdcpolfekgjaaGreatGIdP
import Derived.Test.YtfgdcpolfekgjaaGreatTapA
import Derived.Laws.AppendOwnNone
import Derived.OwnWalk
import Derived.Lib.OthersKept
import Derived.RangeFuncKeeps
import Derived.RangeFuncNested
import Derived.RangeFuncFrom
import Derived.RangeFuncLeaves
import Derived.RangeFuncBound
import Derived.Lib.BufStepsIn
namespace Go.Proofs.YtfgdcpolfekgjaaGreat
open Go.RowKit

theorem is_neG {W : World} {g g' : Nat} {t t' : TypeId} {cs cs' : Array Value} (h : Is W g t cs) (h' : Is W g' t' cs') (hne : t ≠ t') : g ≠ g' := fun e => by
  subst e
  have := h.symm.trans h'
  cases this
  exact hne rfl
theorem grownG {W W1 : World} (hb : Below W.heap.size W W1) : W.grownBy W1 none := ⟨hb.os, hb.tape, hb.output, hb.size, fun k hk _ => hb.block k hk⟩
theorem grownSetG (w : World) (p : Addr) (v : Value) : w.grownBy (w.setCell p v) (some p.block) :=
  ⟨rfl, rfl, rfl, by simp [World.setCell], fun k _ hne => heap_setCell_other w p k v (fun e => hne (by rw [e]))⟩
theorem grownRowG (w : World) (g : Nat) (cs : Array Value) : w.grownBy (w.setRow g cs) (some g) := ⟨rfl, rfl, rfl, by simp, fun k _ hne => setRow_other w g k cs (fun e => hne (by rw [e]))⟩
/-- values that lie where a slice points to. -/
def InV (W : World) (A : Option Addr) (vs : List Value) : Prop :=
  ∀ j u, vs[j]? = some u → ∃ b off, A = some ⟨b, off, none⟩ ∧ b < W.heap.size ∧ W.cell? ⟨b, off + j, none⟩ = some u
theorem InV.keep {W W' : World} {A : Option Addr} {vs : List Value} (h : InV W A vs) (hb : Below W.heap.size W W') : InV W' A vs := fun j u hj => by
  obtain ⟨b, off, rfl, h1, h2⟩ := h j u hj
  exact ⟨b, off, rfl, Nat.lt_of_lt_of_le h1 hb.size, (hb.cell (p := ⟨b, off + j, none⟩) h1).trans h2⟩
theorem InV.nil_of {W : World} {vs : List Value} (h : InV W none vs) : vs = [] := by
  cases vs with
  | nil => rfl
  | cons x l =>
    obtain ⟨b, off, h1, _⟩ := h 0 x rfl
    cases h1
/-- a row of one's own: n things of so many cells. -/
def RowV (W : World) (base : Nat) (e : TypeId) (size : Nat) (A : Option Addr) (c n : Nat) (xs : List Value) : Prop := W.ownsRow base e size (.slice A n c) n xs
section
variable {W W' : World} {base size : Nat} {e : TypeId} {A : Option Addr} {c n : Nat} {xs : List Value}
theorem owns_sliceG {v : Value} (h : W.ownsRow base e size v n xs) : ∃ A' c', v = .slice A' n c' := by
  rcases h.2 with ⟨rfl, rfl⟩ | ⟨g, cap, cur, rfl, _⟩
  · exact ⟨_, _, rfl⟩
  · exact ⟨_, _, rfl⟩
theorem RowV.grown (h : RowV W base e size A c n xs) {row : Option Nat} (hg : W.grownBy W' row) (hr : ∀ r, row = some r → ∃ t cs, Is W r t cs ∧ t ≠ e) : RowV W' base e size A c n xs := by
  refine h.kept hg ?_
  rcases h.2 with ⟨h0, _⟩ | ⟨g, cap, cur, h0, _, hi, _⟩
  · rw [h0]; exact .inl rfl
  · rw [h0]
    refine .inr fun e2 => ?_
    obtain ⟨t, cs, h1, h2⟩ := hr g e2.symm
    exact is_neG h1 (show Is W g e cur from hi) h2 rfl
theorem RowV.below (h : RowV W base e size A c n xs) (hb : Below W.heap.size W W') : RowV W' base e size A c n xs := h.grown (grownG hb) (fun r e => by cases e)
theorem RowV.alloc (h : RowV W base e size A c n xs) (o : Obj) : RowV (W.alloc o) base e size A c n xs := h.grown (World.grownBy_alloc W o none) (fun r e => by cases e)
theorem RowV.far (h : RowV W base e size A c n xs) {p : Addr} {t : TypeId} {cs : Array Value} (hp : Is W p.block t cs) (ht : t ≠ e) (v : Value) : RowV (W.setCell p v) base e size A c n xs :=
  h.grown (grownSetG _ _ _) (fun r e => by cases e; exact ⟨t, cs, hp, ht⟩)
theorem RowV.rowFar (h : RowV W base e size A c n xs) {g : Nat} {t : TypeId} {cs : Array Value} (hp : Is W g t cs) (ht : t ≠ e) (v : Array Value) : RowV (W.setRow g v) base e size A c n xs :=
  h.grown (grownRowG _ _ _) (fun r e => by cases e; exact ⟨t, cs, hp, ht⟩)
theorem RowV.drewN (h : RowV W base e size A c n xs) (m : Nat) : RowV (W.drewN m) base e size A c n xs := h
theorem RowV.nil (W : World) (base : Nat) (e : TypeId) (size : Nat) : RowV W base e size none 0 0 [] := World.ownsRow_nil _ _ _ _
theorem RowV.mono {b2 : Nat} (h : RowV W base e size A c n xs) (hb : b2 ≤ base) : RowV W b2 e size A c n xs := by
  refine ⟨h.1, ?_⟩
  rcases h.2 with h0 | ⟨g, cap, cur, h0, hg, rest⟩
  · exact .inl h0
  · exact .inr ⟨g, cap, cur, h0, Nat.le_trans hb hg, rest⟩
theorem RowV.inV (h : RowV W base e size A c n xs) : InV W A xs := fun j u hj => by
  rcases h.2 with ⟨_, h0⟩ | ⟨g, cap, cur, h0, _, hi, _, _, _, ht⟩
  · subst h0
    have hl := h.1
    rw [Nat.zero_mul] at hl
    rw [List.length_eq_zero_iff.1 hl] at hj
    cases hj
  · injection h0 with h0 h1 h2
    subst h0
    refine ⟨g, 0, rfl, (Array.getElem?_eq_some_iff.1 hi).1, ?_⟩
    have hlt : j < n * size := by
      have := (List.getElem?_eq_some_iff.1 hj).1
      rw [h.1] at this
      exact this
    rw [← ht, List.getElem?_take, if_pos hlt, Array.getElem?_toList] at hj
    rw [Nat.zero_add]
    exact (Is.cell (show Is W g e cur from hi) j).trans hj
/-- a change in the row itself leaves blocks of other types alone. -/
theorem RowV.isFar (h : RowV W base e size A c n xs) (hg : W.grownBy W' (Value.slice A n c).ownBlock) {g : Nat} {t : TypeId} {cs : Array Value} (hi : Is W g t cs) (ht : t ≠ e) : Is W' g t cs := by
  refine (hg.block g hi.lt (fun e2 => ?_)).trans hi
  rcases h.2 with ⟨h0, _⟩ | ⟨g2, cap, cur, h0, _, hi2, _⟩
  · rw [h0] at e2; cases e2
  · rw [h0] at e2
    cases e2
    exact is_neG hi (show Is W g2 e cur from hi2) ht rfl
theorem RowV.belowG {w : World} (h : RowV W w.heap.size e size A c n xs) (hB : Below w.heap.size w W) (hg : W.grownBy W' (Value.slice A n c).ownBlock) : Below w.heap.size w W' :=
  hB.grown hg hB.size (fun q e2 => (World.ownsRow.lt h q e2).1)
end
section
variable {P : Program} {w : World} {ops : Array Oper} {rest : List Oper} {o : Oper} {a : Act} {Q : Exit → Act → World → Prop}
/-- one thing more behind a row of one's own. -/
theorem wpList_pushV (hgd : o.guard = none) (s x : Operand) (t e : TypeId) (i0 : TypeInfo) (z : Value) (size bytes : Nat)
    (ho : o.op = .call { callee := .builtin .append, args := #[s, x], argTypes := #[t, t] }) (ht : P.underlying t = some (.slice e)) (hi : P.info? e = some i0) (hz : i0.zero = some z) (hz1 : i0.size = size) (hz2 : i0.bytes = bytes) (hzs : z.cells.size = size) (hpos : 0 < size)
    (base : Nat) (A : Option Addr) (c n : Nat) (xs : List Value) (hO : RowV w base e size A c n xs) (g : Nat) (t2 : TypeId) (ys : Array Value) (hg : Is w g t2 ys) (hys : ys.size = size) (h1 : ∀ u ∈ ys.toList, u.oneCell' = true) (hm : n + 1 ≤ maxLen) (hby : (n + 1) * bytes ≤ 140737488355328)
    (hs : a.eval s = .slice A n c ∧ a.eval x = .slice (some ⟨g, 0, none⟩) 1 1) (hb : base ≤ w.heap.size)
    (h : ∀ A' c' w', RowV w' base e size A' c' (n + 1) (xs ++ ys.toList) → w.grownBy w' (Value.slice A n c).ownBlock → wpList P ops Q rest (a.put o.dst (.slice A' (n + 1) c')) w') : wpList P ops Q (o :: rest) a w := by
  refine wpList_append_own w hgd s x t ho base e i0 z size bytes ht hi hz hz1 hz2 hzs hpos (.slice A n c) n xs hs.1 hO ⟨g, 0, none⟩ 1 1 ys.toList hs.2 (by rw [Array.length_toList, hys, Nat.one_mul]) (fun j u hj => ?_) h1 hm hby hb ?_
  · rw [Addr.add_lit, Nat.zero_add, hg.cell, ← Array.getElem?_toList]
    exact hj
  · intro v' w1 hown hgrow _
    obtain ⟨A', c', rfl⟩ := owns_sliceG hown
    exact h A' c' w1 hown hgrow
end
end Go.Proofs.YtfgdcpolfekgjaaGreat
namespace Go.Proofs.YtfgdcpolfekgjaaGreat
open Go.RowKit

/-- these blocks are as they were. -/
structure Stay (S : Nat → Prop) (W W' : World) : Prop where
  size : W.heap.size ≤ W'.heap.size
  same : ∀ (k : Nat) (o : Obj), S k → W.heap[k]? = some o → W'.heap[k]? = some o
theorem Stay.refl (S : Nat → Prop) (W : World) : Stay S W W := ⟨Nat.le_refl _, fun _ _ _ h => h⟩
theorem Stay.trans {S : Nat → Prop} {A B C : World} (h : Stay S A B) (k : Stay S B C) : Stay S A C := ⟨Nat.le_trans h.size k.size, fun i o hi hb => k.same i o hi (h.same i o hi hb)⟩
theorem Stay.mono {S T : Nat → Prop} {A B : World} (h : Stay S A B) (hT : ∀ k, T k → S k) : Stay T A B := ⟨h.size, fun i o hi hb => h.same i o (hT i hi) hb⟩
theorem Stay.grown {S : Nat → Prop} {A B C : World} {row : Option Nat} (h : Stay S A B) (hg : B.grownBy C row) (hr : ∀ r, row = some r → ¬ S r ∨ A.heap.size ≤ r) : Stay S A C := ⟨Nat.le_trans h.size hg.size, fun i o hi hb => by
  have h2 := h.same i o hi hb
  refine (hg.block i (Array.getElem?_eq_some_iff.1 h2).1 (fun e => ?_)).trans h2
  rcases hr i e.symm with h3 | h3
  · exact h3 hi
  · have := (Array.getElem?_eq_some_iff.1 hb).1
    omega⟩
theorem Stay.below {S : Nat → Prop} {A B : World} (h : Below A.heap.size A B) : Stay S A B := ⟨h.size, fun i _ _ hi => (h.block i (Array.getElem?_eq_some_iff.1 hi).1).trans hi⟩
theorem Stay.of {n : Nat} {S : Nat → Prop} {A B : World} (h : Below n A B) (hS : ∀ k, S k → k < n) : Stay S A B := ⟨h.size, fun i _ hs hi => (h.block i (hS i hs)).trans hi⟩
theorem Stay.is {S : Nat → Prop} {A B : World} (h : Stay S A B) {g : Nat} {t : TypeId} {cs : Array Value} (hg : Is A g t cs) (hs : S g) : Is B g t cs := h.same g _ hs hg
theorem Stay.putObj {S : Nat → Prop} {A B : World} {l : Nat} (h : Stay S A B) (o' : Obj) (hs : ¬ S l) : Stay S A (B.putObj l o') :=
  h.grown (grownBy_putObj' B l o') (fun r e => by cases e; exact .inl hs)
/-- what an iterator tells: the list xs; S: the blocks that its rounds must leave alone (and all that are new since it was called). -/
def SeqL {α : Type} (F : Fence) (n : Nat) (P : Program) (gf : Nat) (lb : Array Value) (encs : α → Array Value) (xs : List α) (S : Nat → Prop) (w : World) : Prop :=
  ∀ (l : Nat) (J Jx : Nat → World → Prop) (W : World), Stay S w W → OwnFrom W.heap.size J → OwnFrom W.heap.size Jx →
    (∀ i x W1, xs[i]? = some x → J i W1 → YieldAt F (n - 1) P l (encs x) W1 fun e W' =>
      (e = .returned (.bool true) ∧ J (i + 1) W' ∧ Stay (fun k => S k ∨ W.heap.size ≤ k) W1 W') ∨ (e = .returned (.bool false) ∧ Jx i W' ∧ Stay (fun k => S k ∨ W.heap.size ≤ k) W1 W')) →
    J 0 W →
    CallsIn F n P gf (#[.func (.yield l) #[] #[]] ++ lb) W fun e W' => (∃ v, e = .returned v) ∧ (J xs.length W' ∨ ∃ i, Jx i W')

/-- how the body of a round may be left. -/
def ownPostL (T : Nat → Prop) (I : Nat → World → Prop) (Ix : Code → Nat → World → Prop) (i : Nat) (W : World) : Exit → Act → World → Prop
  | .normal, _, W' => Stay T W W' ∧ I (i + 1) W'
  | .ret, _, W' => Stay T W W' ∧ Ix .ret i W'
  | .exit id, _, W' => Stay T W W' ∧ Ix (.exit id) i W'
  | .goto t, _, W' => Stay T W W' ∧ Ix (.goto t) i W'
  | .panic _, _, _ => False
  | .outgrown, _, _ => False

theorem wpIn_rangeL {α : Type} {F : Fence} {n : Nat} {P : Program} {g : Operand} {ps : Array Tmp} {assign body : Code} {Q : Exit → Act → World → Prop} {a : Act} {w : World}
    (hro : F.round = none) (h1 : 1 ≤ n) {gf : Nat} {lb : Array Value} (hg : a.eval g = .func (.func gf) #[] lb) (hFg : F.fn gf) (eg : ∀ args w, (callFunc gf args).run P w = .ok (.enter gf args) w)
    {encs : α → Array Value} {xs : List α} {S : Nat → Prop} {w0 : World} (hseq : SeqL F (n - 1) P gf lb encs xs S w0) (hb0 : Stay S w0 w) (hSl : ∀ k, S k → k < w.heap.size) (hps : ∀ x, (encs x).size = ps.size)
    (I : Nat → World → Prop) (Ix : Code → Nat → World → Prop) (hI : OwnFrom w.heap.size I) (hIx : ∀ c, OwnFrom w.heap.size (Ix c)) (h0 : I 0 w)
    (hround : ∀ (l i : Nat) (x : α) (W : World), w.heap.size ≤ l → l < W.heap.size → xs[i]? = some x → I i W →
      assign.wpIn (F.inRound l) (n - 1 - 1) P (Exit.then (fun a' W' => Stay (fun k => S k ∨ w.heap.size ≤ k) W W' ∧ I i W' ∧ ∃ Ax : World → Prop, OwnFrom w.heap.size (fun (_ : Unit) W => Ax W) ∧ Ax W' ∧
          ∀ W'' : World, l < W''.heap.size → I i W'' → Ax W'' → body.wpIn (F.inRound l) (n - 1 - 1) P (ownPostL (fun k => S k ∨ w.heap.size ≤ k) I Ix i W'') a' W'') (fun _ _ _ => False))
        { tmps := (ps.zip (encs x)).foldl (fun t (p, v) => t.setIfInBounds p v) a.tmps, defers := [] } W)
    (hdone : ∀ (D : Nat) (W : World), w.heap.size ≤ D → I xs.length W → W.heap[D]? = some (.deferred (some [])) → Q .normal { a with defers := { target := .collected D, args := #[] } :: a.defers } W)
    (hstop : ∀ (D : Nat) (c : Code) (i : Nat) (W : World), w.heap.size ≤ D → Ix c i W → W.heap[D]? = some (.deferred (some [])) → c.wpIn F n P Q { a with defers := { target := .collected D, args := #[] } :: a.defers } W) :
    (Code.rangeFunc g ps assign body).wpIn F n P Q a w := by
  refine wpIn_rangeFunc fun fn hfn => ?_
  rw [hro]
  obtain ⟨rec, hrec⟩ : ∃ rec : LoopState → Option Code → Loop, rec = fun st pe => { state := st, pending := pe, fn, tmps := a.tmps, params := ps, assign, body, defers := w.heap.size } := ⟨_, rfl⟩
  obtain ⟨W1, hW1⟩ : ∃ W1, (w.alloc (.deferred (some []))).alloc (.loop (rec .ready none)) = W1 := ⟨_, rfl⟩
  have hL1 : W1.heap[w.heap.size + 1]? = some (.loop (rec .ready none)) := by
    rw [← hW1]; have := World.alloc_heap_new (w.alloc (.deferred (some []))) (.loop (rec .ready none)); rwa [World.size_alloc] at this
  have hK1 : W1.heap[w.heap.size]? = some (.deferred (some [])) := by
    rw [← hW1]; exact (Below.heap_alloc _ _ _ (by simp)).trans (World.alloc_heap_new w _)
  have hI1 : I 0 W1 := by rw [← hW1]; exact hI.alloc _ (hI.alloc _ h0)
  have hs1 : W1.heap.size = w.heap.size + 1 + 1 := by rw [← hW1]; simp
  have hb1 : Stay S w0 W1 := by
    rw [← hW1]; exact (hb0.grown (World.grownBy_alloc w _ none) (fun r e => by cases e)).grown (World.grownBy_alloc _ _ none) (fun r e => by cases e)
  refine ⟨w.heap.size + 1, [{ target := .collected w.heap.size, args := #[] }], W1, { target := .fn (.func gf) lb, args := #[.func (.yield (w.heap.size + 1)) #[] #[]] }, W1, gf,
    #[.func (.yield (w.heap.size + 1)) #[] #[]] ++ lb, W1, ?_, ?_, ?_, ?_, fun _ => h1, ?_⟩
  · rw [← hW1, hrec]; exact run_enterLoop_outer _ _ _ _ _
  · simp only [resolve, hg]
    simp [go_sem]
  · intro f' hf'; simp [Target.leads] at hf'; subst hf'; exact hFg
  · simp [invoke, go_sem, eg]
  · have keep : ∀ {A B : World} {row : Option Nat} {k : Nat} {o : Obj}, A.grownBy B row → (∀ r, row = some r → W1.heap.size ≤ r ∧ ∃ o : Obj, A.heap[r]? = some o ∧ o.isCells = false) → k < W1.heap.size → A.heap[k]? = some o → B.heap[k]? = some o := fun hg' hr hk ho =>
      (hg'.block _ (Array.getElem?_eq_some_iff.1 ho).1 (fun e => by have := (hr _ e.symm).1; omega)).trans ho
    have hfr : ∀ {A : World} {row : Option Nat}, (∀ r, row = some r → W1.heap.size ≤ r ∧ ∃ o : Obj, A.heap[r]? = some o ∧ o.isCells = false) → (∀ r, row = some r → w.heap.size ≤ r ∧ ∃ o : Obj, A.heap[r]? = some o ∧ o.isCells = false) := fun hr r e =>
      ⟨by have := (hr r e).1; omega, (hr r e).2⟩
    refine (hseq (w.heap.size + 1)
      (fun i W => I i W ∧ W.heap[w.heap.size + 1]? = some (.loop (rec .ready none)) ∧ W.heap[w.heap.size]? = some (.deferred (some [])))
      (fun i W => ∃ c, Ix c i W ∧ W.heap[w.heap.size + 1]? = some (.loop (rec .done (some c))) ∧ W.heap[w.heap.size]? = some (.deferred (some [])))
      W1 hb1
      (fun s A B row hs hg' hr => ⟨hI s A B row hs.1 hg' (hfr (A := A) hr), keep hg' hr (by omega) hs.2.1, keep hg' hr (by omega) hs.2.2⟩)
      (fun s A B row hs hg' hr => by
        obtain ⟨c, hc, hl, hk⟩ := hs
        exact ⟨c, hIx c s A B row hc hg' (hfr (A := A) hr), keep hg' hr (by omega) hl, keep hg' hr (by omega) hk⟩)
      ?_ ⟨hI1, hL1, hK1⟩).mono ?_
    · rintro i x W hx ⟨hi, hl, hk⟩
      have hlt : w.heap.size + 1 < W.heap.size := (Array.getElem?_eq_some_iff.1 hl).1
      have hy := run_yield (P := P) (args := encs x) hl (by rw [hrec]; exact hps x)
      rw [hrec] at hy
      refine ⟨fn, _, assign, body, hy, roundIn_of_wpIn hfn (wpIn_mono (hround (w.heap.size + 1) i x W (by omega) hlt hx hi) ?_)⟩
      clear hy
      intro e a' Wa hp
      cases e with
      | normal =>
       obtain ⟨hst, hia, Ax, hAx, hax, hbody⟩ := hp
       replace hl := hst.same _ _ (.inr (by omega)) hl
       replace hk := hst.same _ _ (.inr (Nat.le_refl _)) hk
       replace hlt : w.heap.size + 1 < Wa.heap.size := (Array.getElem?_eq_some_iff.1 hl).1
       replace hi := hia
       clear hia
       revert hst
       generalize W = Wb
       intro hst
       obtain ⟨W, rfl⟩ : ∃ W, W = Wa := ⟨_, rfl⟩
       have hst2 : Stay (fun k => S k ∨ W1.heap.size ≤ k) Wb W := hst.mono (fun k hk => hk.imp id (fun h => by omega))
       have hno : ¬ (S (w.heap.size + 1) ∨ W1.heap.size ≤ w.heap.size + 1) := fun h => by
         rcases h with h | h
         · have := hSl _ h; omega
         · omega
       refine ⟨_, run_beginRound hl (by rw [hrec]), ?_⟩
       have hl2 : (W.putObj (w.heap.size + 1) (.loop { rec .ready none with state := .busy })).heap[w.heap.size + 1]? = some (.loop { rec .ready none with state := .busy }) := World.putObj_heap_same hlt
       have hk2 : (W.putObj (w.heap.size + 1) (.loop { rec .ready none with state := .busy })).heap[w.heap.size]? = some (.deferred (some [])) := (World.putObj_heap_other (by omega)).trans hk
       have hw2 := hst2.putObj (.loop { rec .ready none with state := .busy }) hno
       refine wpIn_mono (hbody _ (by rw [World.putObj_size]; exact hlt) (hI.putObj _ hi (by omega) hl rfl) (hAx.putObj (s := ()) _ hax (by omega) hl rfl)) ?_
       have fin : ∀ (jump : Option Code) (W3 : World), Stay (fun k => S k ∨ w.heap.size ≤ k) (W.putObj (w.heap.size + 1) (.loop { rec .ready none with state := .busy })) W3 →
           (Instr.endRound (w.heap.size + 1) jump).run P W3 = .ok (.bool jump.isNone) (W3.putObj (w.heap.size + 1) (.loop (rec (if jump.isNone then .ready else .done) jump))) ∧
           W3.heap[w.heap.size + 1]? = some (.loop { rec .ready none with state := .busy }) ∧
           (W3.putObj (w.heap.size + 1) (.loop (rec (if jump.isNone then .ready else .done) jump))).heap[w.heap.size + 1]? = some (.loop (rec (if jump.isNone then .ready else .done) jump)) ∧
           (W3.putObj (w.heap.size + 1) (.loop (rec (if jump.isNone then .ready else .done) jump))).heap[w.heap.size]? = some (.deferred (some [])) := fun jump W3 hk3 => by
         have hl3 := hk3.same _ _ (.inr (by omega)) hl2
         have := run_endRound (P := P) jump hl3
         rw [hrec] at this ⊢
         exact ⟨this, by rw [hrec] at hl3; exact hl3, World.putObj_heap_same (Array.getElem?_eq_some_iff.1 hl3).1, (World.putObj_heap_other (by omega)).trans (hk3.same _ _ (.inr (Nat.le_refl _)) hk2)⟩
       rintro e a3 W3 hp
       cases e with
       | normal =>
         obtain ⟨hk3, hi3⟩ := hp
         obtain ⟨hr, hl3, hl4, hk4⟩ := fin none W3 hk3
         exact ⟨_, _, hr, .inl ⟨rfl, ⟨hI.putObj _ hi3 (by omega) hl3 rfl, hl4, hk4⟩, (hw2.trans (hk3.mono (fun k hk => hk.imp (fun h => h) (fun h => by omega)))).putObj _ hno⟩⟩
       | ret =>
         obtain ⟨hk3, hi3⟩ := hp
         obtain ⟨hr, hl3, hl4, hk4⟩ := fin (some .ret) W3 hk3
         exact ⟨_, _, hr, .inr ⟨rfl, ⟨.ret, (hIx _).putObj _ hi3 (by omega) hl3 rfl, hl4, hk4⟩, (hw2.trans (hk3.mono (fun k hk => hk.imp (fun h => h) (fun h => by omega)))).putObj _ hno⟩⟩
       | exit id =>
         obtain ⟨hk3, hi3⟩ := hp
         obtain ⟨hr, hl3, hl4, hk4⟩ := fin (some (.exit id)) W3 hk3
         exact ⟨_, _, hr, .inr ⟨rfl, ⟨.exit id, (hIx _).putObj _ hi3 (by omega) hl3 rfl, hl4, hk4⟩, (hw2.trans (hk3.mono (fun k hk => hk.imp (fun h => h) (fun h => by omega)))).putObj _ hno⟩⟩
       | goto t =>
         obtain ⟨hk3, hi3⟩ := hp
         obtain ⟨hr, hl3, hl4, hk4⟩ := fin (some (.goto t)) W3 hk3
         exact ⟨_, _, hr, .inr ⟨rfl, ⟨.goto t, (hIx _).putObj _ hi3 (by omega) hl3 rfl, hl4, hk4⟩, (hw2.trans (hk3.mono (fun k hk => hk.imp (fun h => h) (fun h => by omega)))).putObj _ hno⟩⟩
       | panic ch => exact hp.elim
       | outgrown => exact hp.elim
      | _ => exact hp.elim
    · rintro e W2 ⟨⟨v, rfl⟩, (⟨hi, hl, hk⟩ | ⟨i, c, hi, hl, hk⟩)⟩
      · exact ⟨none, _, by have := run_endLoop (P := P) hl (by rw [hrec]; simp); rw [hrec] at this; exact this, hdone _ _ (Nat.le_refl _) (hI.putObj _ hi (by omega) hl rfl) ((World.putObj_heap_other (by omega)).trans hk)⟩
      · exact ⟨some c, _, by have := run_endLoop (P := P) hl (by rw [hrec]; simp); rw [hrec] at this; exact this, hstop _ c i _ (Nat.le_refl _) ((hIx c).putObj _ hi (by omega) hl rfl) ((World.putObj_heap_other (by omega)).trans hk)⟩
end Go.Proofs.YtfgdcpolfekgjaaGreat
namespace Go.Proofs.YtfgdcpolfekgjaaGreat
open Go.RowKit Go.Shelf
attribute [local go_sem] Oper.semAt_some

abbrev flN (N : List Nam8) : List Value := N.flatMap fun x => [.string x.1, .string x.2]
abbrev flK (K : List Cel8) : List Value := K.flatMap fun x => [.string x.1, .string x.2.1, .string x.2.2]
theorem flN_len (N : List Nam8) : (flN N).length = N.length * 2 := by
  induction N with
  | nil => rfl
  | cons x r ih => rw [flN, List.flatMap_cons, List.length_append, ih, List.length_cons]; simp only [List.length_cons, List.length_nil]; omega
theorem flK_len (K : List Cel8) : (flK K).length = K.length * 3 := by
  induction K with
  | nil => rfl
  | cons x r ih => rw [flK, List.flatMap_cons, List.length_append, ih, List.length_cons]; simp only [List.length_cons, List.length_nil]; omega
theorem flN_at {N : List Nam8} {k : Nat} {x : Nam8} (h : N[k]? = some x) (j : Nat) (hj : j < 2) : (flN N)[k * 2 + j]? = ([.string x.1, .string x.2] : List Value)[j]? := by
  induction N generalizing k with
  | nil => rw [List.getElem?_nil] at h; cases h
  | cons y r ih =>
    rw [flN, List.flatMap_cons, List.getElem?_append]
    cases k with
    | zero => cases h; rw [if_pos (by show 0 * 2 + j < 2; omega), Nat.zero_mul, Nat.zero_add]
    | succ k =>
      rw [List.getElem?_cons_succ] at h
      rw [if_neg (by show ¬ (k + 1) * 2 + j < 2; omega), ← ih h]
      congr 1
      show (k + 1) * 2 + j - 2 = _
      omega
theorem flK_at {K : List Cel8} {k : Nat} {x : Cel8} (h : K[k]? = some x) (j : Nat) (hj : j < 3) : (flK K)[k * 3 + j]? = ([.string x.1, .string x.2.1, .string x.2.2] : List Value)[j]? := by
  induction K generalizing k with
  | nil => rw [List.getElem?_nil] at h; cases h
  | cons y r ih =>
    rw [flK, List.flatMap_cons, List.getElem?_append]
    cases k with
    | zero => cases h; rw [if_pos (by show 0 * 3 + j < 3; omega), Nat.zero_mul, Nat.zero_add]
    | succ k =>
      rw [List.getElem?_cons_succ] at h
      rw [if_neg (by show ¬ (k + 1) * 3 + j < 3; omega), ← ih h]
      congr 1
      show (k + 1) * 3 + j - 3 = _
      omega
theorem flN_one (N : List Nam8) : ∀ u ∈ flN N, u.oneCell' = true := fun u hu => by
  obtain ⟨x, _, hx⟩ := List.mem_flatMap.1 hu
  simp only [List.mem_cons, List.not_mem_nil, or_false] at hx
  rcases hx with rfl | rfl <;> rfl
theorem flK_one (K : List Cel8) : ∀ u ∈ flK K, u.oneCell' = true := fun u hu => by
  obtain ⟨x, _, hx⟩ := List.mem_flatMap.1 hu
  simp only [List.mem_cons, List.not_mem_nil, or_false] at hx
  rcases hx with rfl | rfl | rfl <;> rfl
/-- where a name lies, where a cell. -/
theorem InV.nam {W : World} {A : Option Addr} {N : List Nam8} (h : InV W A (flN N)) {k : Nat} {x : Nam8} (hx : N[k]? = some x) :
    ∃ b off, A = some ⟨b, off, none⟩ ∧ b < W.heap.size ∧ W.rangeAt b (off + k * 2) [.string x.1, .string x.2] := by
  obtain ⟨b, off, rfl, hb, h0⟩ := h (k * 2 + 0) (.string x.1) ((flN_at hx 0 (by omega)).trans rfl)
  refine ⟨b, off, rfl, hb, fun j v hj => ?_⟩
  have hj2 : j < 2 := (List.getElem?_eq_some_iff.1 hj).1
  obtain ⟨b2, off2, e, _, h1⟩ := h (k * 2 + j) v ((flN_at hx j hj2).trans hj)
  cases e
  rw [← h1, Nat.add_assoc]
theorem InV.cel {W : World} {A : Option Addr} {K : List Cel8} (h : InV W A (flK K)) {k : Nat} {x : Cel8} (hx : K[k]? = some x) :
    ∃ b off, A = some ⟨b, off, none⟩ ∧ b < W.heap.size ∧ W.rangeAt b (off + k * 3) [.string x.1, .string x.2.1, .string x.2.2] := by
  obtain ⟨b, off, rfl, hb, h0⟩ := h (k * 3 + 0) (.string x.1) ((flK_at hx 0 (by omega)).trans rfl)
  refine ⟨b, off, rfl, hb, fun j v hj => ?_⟩
  have hj2 : j < 3 := (List.getElem?_eq_some_iff.1 hj).1
  obtain ⟨b2, off2, e, _, h1⟩ := h (k * 3 + j) v ((flK_at hx j hj2).trans hj)
  cases e
  rw [← h1, Nat.add_assoc]
/-- an ideal, as a value, and its cells. -/
abbrev ideL (d : Ide) (A : Option Addr) (c : Nat) (A' : Option Addr) (c' : Nat) : Array Value := #[.string d.B, .int .i64 d.a, .slice A d.N.length c, .slice A' d.K.length c', .bool d.c]
abbrev ideV (d : Ide) (A : Option Addr) (c : Nat) (A' : Option Addr) (c' : Nat) : Value := .agg (ideL d A c A' c')
/-- what lies where its lists point to. -/
structure InI (W : World) (d : Ide) (A : Option Addr) (c : Nat) (A' : Option Addr) (c' : Nat) : Prop where
  n : InV W A (flN d.N)
  k : InV W A' (flK d.K)
  nil : A = none → c = 0
  nilK : A' = none → c' = 0
  fit : d.N.length * 32 ≤ 140737488355328
  fitK : d.K.length * 48 ≤ 140737488355328
theorem InI.keep {W W' : World} {d : Ide} {A : Option Addr} {c : Nat} {A' : Option Addr} {c' : Nat} (h : InI W d A c A' c') (hb : Below W.heap.size W W') : InI W' d A c A' c' :=
  ⟨h.n.keep hb, h.k.keep hb, h.nil, h.nilK, h.fit, h.fitK⟩
theorem infoIde : (Tryz.prog.info? 29).map (·.size) = some 5 := by kernel_rfl
theorem infoNam : (Tryz.prog.info? 89).map (·.size) = some 2 := by kernel_rfl
theorem infoMad : (Tryz.prog.info? 91).map (·.size) = some 3 := by kernel_rfl
theorem infoAsk : (Tryz.prog.info? 104).map (·.size) = some 2 := by kernel_rfl
theorem infoOpn : (Tryz.prog.info? 122).map (·.size) = some 2 := by kernel_rfl
/-- a question of a cell, and the cell. -/
def askK (x : Cel8) : (ByteArray × ByteArray) × ByteArray := ((x.1, x.2.1), x.2.2)
/-- what a text is asked by, and the text. -/
def opnK (x : Cel8) : (ByteArray × ByteArray) × ByteArray := ((x.1, x.2.2), x.2.1)
def outN (x : Nam8) : Nam8 := (x.2, x.1)
abbrev encN8 (x : Nam8) : Array Value := #[.string x.1, .string x.2]
abbrev encP8 (x : (ByteArray × ByteArray) × ByteArray) : Array Value := #[.agg #[.string x.1.1, .string x.1.2], .string x.2]
theorem roundIn_any {m m' l' : Nat} {P : Program} {l : Nat} {fn : FuncId} {tmps : Array Value} {assign body : Code} {W : World} {R : Ending → World → Prop} (h : RoundIn Fence.wide m P l fn tmps assign body W R) : RoundIn (Fence.wide.inRound l') m' P l fn tmps assign body W R :=
  ⟨h.1, fun c cs _ => h.2 c cs (room_wide _)⟩
theorem rangeS {S : Nat → Prop} {W W' : World} {b o : Nat} {cs : List Value} (h : W.rangeAt b o cs) (hs : Stay S W W') (hb : S b) : W'.rangeAt b o cs := fun j v hj => by
  have h1 := h j v hj
  obtain ⟨ob, ho, _⟩ := cells_of_cell h1
  have h2 := hs.same b ob hb ho
  rw [← h1]
  simp only [World.cell?, h2, show W.heap[b]? = some ob from ho]
set_option maxRecDepth 100000 in
set_option maxHeartbeats 1000000 in
theorem names_any (c0 c1 c2 c3 c4 : Value) (w : World) :
    Calls Tryz.prog 58 #[.agg #[c0, c1, c2, c3, c4]] w fun e w' => e = .returned (.func (.func 69) #[] #[.pointer (some ⟨w.heap.size, 0, none⟩)]) ∧ w' = w.alloc (.cells #[c0, c1, c2, c3, c4] 29) := by
  go_enter Tryz.func58, Tryz.ntmps58
  go_wp2
  go_ret
  exact ⟨rfl, rfl⟩

set_option maxRecDepth 100000 in
set_option maxHeartbeats 1000000 in
theorem cells_any (c0 c1 c2 c3 c4 : Value) (w : World) :
    Calls Tryz.prog 60 #[.agg #[c0, c1, c2, c3, c4]] w fun e w' => e = .returned (.func (.func 70) #[] #[.pointer (some ⟨w.heap.size, 0, none⟩)]) ∧ w' = w.alloc (.cells #[c0, c1, c2, c3, c4] 29) := by
  go_enter Tryz.func60, Tryz.ntmps60
  go_wp2
  go_ret
  exact ⟨rfl, rfl⟩

set_option maxRecDepth 100000 in
set_option maxHeartbeats 2000000 in
theorem names_seq (n : Nat) (hn : 1 ≤ n) (Bd : Nat) (c0 c1 c2 c3 c4 : Value) (A : Option Addr) (c : Nat) (N : List Nam8) (w : World) (hBd : Is w Bd 29 #[c0, c1, c2, c3, c4]) (hsl : c2 = .slice A N.length c) (hc : InV w A (flN N)) (hfit : N.length ≤ 140737488355328) (S : Nat → Prop) (hS : S Bd) (hSA : ∀ p, A = some p → N ≠ [] → S p.block) :
    SeqL Fence.wide n Tryz.prog 69 #[.pointer (some ⟨Bd, 0, none⟩)] encN8 N S w := by
  intro l J Jx W hW hJ hJx hY h0
  refine callsIn_of_wp Tryz.func69 rfl trivial ?_ rfl
  simp only [Tryz.ntmps69, List.size_toArray, List.length_cons, List.length_nil, Nat.reduceAdd, Nat.reduceSub, Array.replicate_succ, Array.replicate_zero, List.push_toArray, List.append_toArray, List.nil_append, List.cons_append]
  have cN : W.cell? ⟨Bd, 2, none⟩ = some (.slice A N.length c) := by rw [(hW.is hBd hS).cell 2, ← hsl]; rfl
  have HY := Lib.hid hY
  have HJ := Lib.hid hJ
  have HC := Lib.hid hc
  clear hY hJ hJx hc hBd hsl
  gi_wp2
  clear cN
  gi_loopw [8] (fun i wr => ∃ k : Nat, k ≤ N.length ∧ i = .int .i64 (k : Int) ∧ J k wr ∧ Stay S w wr ∧ W.heap.size ≤ wr.heap.size) (fun i _ => N.length - (intOf i).toNat)
  case atStart => exact ⟨0, by omega, rfl, h0, hW, Nat.le_refl _⟩
  case round =>
    clear h0
    obtain ⟨k, hk, rfl, hJk, hB, hs⟩ := hrel
    by_cases hlt : k < N.length
    · have hkx : N[k]? = some N[k] := List.getElem?_eq_getElem hlt
      generalize N[k] = x at hkx
      obtain ⟨b, off, rfl, hb, hr⟩ := HC.out.nam hkx
      have hr := rangeS hr hB (hSA _ rfl (fun e => by rw [e] at hlt; cases hlt))
      obtain ⟨fn, tmps, assign, body, hy, hR⟩ := HY.out k x (wr.alloc (.cells #[.string x.1, .string x.2] 89)) hkx (HJ.out.alloc _ hJk)
      simp only [encN8] at hy
      have w1i := IntWalk.i64_in ((k : Int) + 1) (by omega)
      have HR := Lib.hid hR
      have HK := Lib.hid hkx
      have hk1 : (k : Int) < (N.length : Int) := by omega
      have iX := Is.new wr 89 #[.string x.1, .string x.2]
      have x0 : (wr.alloc (.cells #[.string x.1, .string x.2] 89)).cell? ⟨wr.heap.size, 0, none⟩ = some (.string x.1) := iX.cell 0
      have x1 : (wr.alloc (.cells #[.string x.1, .string x.2] 89)).cell? ⟨wr.heap.size, 1, none⟩ = some (.string x.2) := iX.cell 1
      clear hR hkx
      gi_wp2_with (refine wpListIn_load_midI rfl 89 _ rfl b (off + k * 2) rfl _ hr Tryz.underlying89 rfl infoNam ?_)
      refine HR.out.mono ?_
      rintro e W3 (⟨rfl, hJ3, hB3⟩ | ⟨rfl, hJx3, _⟩)
      · gi_wp2
        go_roundw
        case rel => exact ⟨k + 1, by omega, by go_num, hJ3, (hB.grown (World.grownBy_alloc wr _ none) (fun r e => by cases e)).trans (hB3.mono (fun k hk => .inl hk)), Nat.le_trans hs (Nat.le_trans (by simp) hB3.size)⟩
        case measure => simp [intOf]; omega
      · gi_wp2
        refine bodyPost_ret (results_none rfl _ _ _) rfl ?_
        exact ⟨⟨_, rfl⟩, .inr ⟨_, hJx3⟩⟩
    · have hk1 : ¬ (k : Int) < (N.length : Int) := by omega
      obtain rfl : k = N.length := by omega
      gi_wp2
      go_end0
      exact ⟨⟨_, rfl⟩, .inl hJk⟩

set_option maxRecDepth 100000 in
set_option maxHeartbeats 2000000 in
theorem cells_seq (n : Nat) (hn : 1 ≤ n) (Bd : Nat) (c0 c1 c2 c3 c4 : Value) (A : Option Addr) (c : Nat) (N : List Cel8) (w : World) (hBd : Is w Bd 29 #[c0, c1, c2, c3, c4]) (hsl : c3 = .slice A N.length c) (hc : InV w A (flK N)) (hfit : N.length ≤ 140737488355328) (S : Nat → Prop) (hS : S Bd) (hSA : ∀ p, A = some p → N ≠ [] → S p.block) :
    SeqL Fence.wide n Tryz.prog 70 #[.pointer (some ⟨Bd, 0, none⟩)] encP8 (N.map askK) S w := by
  intro l J Jx W hW hJ hJx hY h0
  refine callsIn_of_wp Tryz.func70 rfl trivial ?_ rfl
  simp only [Tryz.ntmps70, List.size_toArray, List.length_cons, List.length_nil, Nat.reduceAdd, Nat.reduceSub, Array.replicate_succ, Array.replicate_zero, List.push_toArray, List.append_toArray, List.nil_append, List.cons_append]
  have cN : W.cell? ⟨Bd, 3, none⟩ = some (.slice A N.length c) := by rw [(hW.is hBd hS).cell 3, ← hsl]; rfl
  have HY := Lib.hid hY
  have HJ := Lib.hid hJ
  have HC := Lib.hid hc
  clear hY hJ hJx hc hBd hsl
  gi_wp2
  clear cN
  gi_loopw [8] (fun i wr => ∃ k : Nat, k ≤ N.length ∧ i = .int .i64 (k : Int) ∧ J k wr ∧ Stay S w wr ∧ W.heap.size ≤ wr.heap.size) (fun i _ => N.length - (intOf i).toNat)
  case atStart => exact ⟨0, by omega, rfl, h0, hW, Nat.le_refl _⟩
  case round =>
    clear h0
    obtain ⟨k, hk, rfl, hJk, hB, hs⟩ := hrel
    by_cases hlt : k < N.length
    · have hkx : N[k]? = some N[k] := List.getElem?_eq_getElem hlt
      generalize N[k] = x at hkx
      obtain ⟨b, off, rfl, hb, hr⟩ := HC.out.cel hkx
      have hr := rangeS hr hB (hSA _ rfl (fun e => by rw [e] at hlt; cases hlt))
      obtain ⟨fn, tmps, assign, body, hy, hR⟩ := HY.out k (askK x) (wr.alloc (.cells #[.string x.1, .string x.2.1, .string x.2.2] 91)) (by rw [List.getElem?_map, hkx]; rfl) (HJ.out.alloc _ hJk)
      simp only [encP8, askK] at hy
      have w1i := IntWalk.i64_in ((k : Int) + 1) (by omega)
      have HR := Lib.hid hR
      have HK := Lib.hid hkx
      have hk1 : (k : Int) < (N.length : Int) := by omega
      have iX := Is.new wr 91 #[.string x.1, .string x.2.1, .string x.2.2]
      have x0 : (wr.alloc (.cells #[.string x.1, .string x.2.1, .string x.2.2] 91)).cell? ⟨wr.heap.size, 0, none⟩ = some (.string x.1) := iX.cell 0
      have x1 : (wr.alloc (.cells #[.string x.1, .string x.2.1, .string x.2.2] 91)).cell? ⟨wr.heap.size, 1, none⟩ = some (.string x.2.1) := iX.cell 1
      have x2 : (wr.alloc (.cells #[.string x.1, .string x.2.1, .string x.2.2] 91)).cell? ⟨wr.heap.size, 2, none⟩ = some (.string x.2.2) := iX.cell 2
      clear hR hkx
      gi_wp2_with (refine wpListIn_load_midI rfl 91 _ rfl b (off + k * 3) rfl _ hr Tryz.underlying91 rfl infoMad ?_)
      refine HR.out.mono ?_
      rintro e W3 (⟨rfl, hJ3, hB3⟩ | ⟨rfl, hJx3, _⟩)
      · gi_wp2
        go_roundw
        case rel => exact ⟨k + 1, by omega, by go_num, hJ3, (hB.grown (World.grownBy_alloc wr _ none) (fun r e => by cases e)).trans (hB3.mono (fun k hk => .inl hk)), Nat.le_trans hs (Nat.le_trans (by simp) hB3.size)⟩
        case measure => simp [intOf]; omega
      · gi_wp2
        refine bodyPost_ret (results_none rfl _ _ _) rfl ?_
        exact ⟨⟨_, rfl⟩, .inr ⟨_, hJx3⟩⟩
    · have hk1 : ¬ (k : Int) < (N.length : Int) := by omega
      obtain rfl : k = N.length := by omega
      gi_wp2
      go_end0
      exact ⟨⟨_, rfl⟩, .inl hJk⟩
end Go.Proofs.YtfgdcpolfekgjaaGreat
namespace Go.Proofs.YtfgdcpolfekgjaaGreat
open Go.RowKit Go.Shelf
attribute [local go_sem] Oper.semAt_some
theorem InV.stay {S : Nat → Prop} {W W' : World} {A : Option Addr} {vs : List Value} (h : InV W A vs) (hs : Stay S W W') (hA : ∀ p, A = some p → vs ≠ [] → S p.block) : InV W' A vs := fun j u hj => by
  obtain ⟨b, off, rfl, h1, h2⟩ := h j u hj
  obtain ⟨ob, ho, _⟩ := cells_of_cell h2
  have h3 := hs.same b ob (hA _ rfl (fun e => by rw [e] at hj; cases hj)) ho
  refine ⟨b, off, rfl, Nat.lt_of_lt_of_le h1 hs.size, ?_⟩
  rw [← h2]
  simp only [World.cell?, h3, show W.heap[b]? = some ob from ho]
set_option maxRecDepth 100000 in
set_option maxHeartbeats 2000000 in
theorem outs_seq (n : Nat) (hn : 3 ≤ n) (Bd : Nat) (c0 c1 c2 c3 c4 : Value) (A : Option Addr) (c : Nat) (N : List Nam8) (w : World) (hBd : Is w Bd 29 #[c0, c1, c2, c3, c4]) (hsl : c2 = .slice A N.length c) (hc : InV w A (flN N)) (hfit : N.length ≤ 140737488355328) (S : Nat → Prop) (hS : S Bd) (hSA : ∀ p, A = some p → N ≠ [] → S p.block) (hSb : ∀ k, S k → k < w.heap.size) :
    SeqL Fence.wide n Tryz.prog 78 #[.pointer (some ⟨Bd, 0, none⟩)] encN8 (N.map outN) S w := by
  intro l J Jx W hW hJ hJx hY h0
  have HY := Lib.hid hY
  have HJ := Lib.hid hJ
  have HJx := Lib.hid hJx
  have HC := Lib.hid (hc.stay hW (fun p e h => hSA p e (fun e2 => h (by rw [e2]; rfl))))
  have HSL := Lib.hid hsl
  have HSB := Lib.hid hSb
  have HWS := Lib.hid hW.size
  have iB := hW.is hBd hS
  clear hY hJ hJx hc hBd hsl hSb
  refine callsIn_of_wp_marks Tryz.func78 rfl trivial ?_ rfl
  simp only [Tryz.ntmps78, List.size_toArray, List.length_cons, List.length_nil, Nat.reduceAdd, Nat.reduceSub, Array.replicate_succ, Array.replicate_zero, List.push_toArray, List.append_toArray, List.nil_append, List.cons_append]
  have iB1 := iB.alloc (.cells #[.func (.yield l) #[] #[]] 117)
  gi_wp2_with (refine wpListIn_load_rowI rfl 29 _ rfl Bd rfl iB1 Tryz.underlying29 rfl infoIde ?_)
  refine ⟨trivial, fun _ => by omega, (callsIn_wide.2 (names_any c0 c1 c2 c3 c4 _)).mono ?_⟩
  rintro e W' ⟨rfl, rfl⟩
  gi_wp2_with fail
  have iY : Is ((W.alloc (.cells #[.func (.yield l) #[] #[]] 117)).alloc (.cells #[c0, c1, c2, c3, c4] 29)) W.heap.size 117 #[.func (.yield l) #[] #[]] := (Is.new W _ _).alloc _
  have iN : Is ((W.alloc (.cells #[.func (.yield l) #[] #[]] 117)).alloc (.cells #[c0, c1, c2, c3, c4] 29)) (W.heap.size + 1) 29 #[c0, c1, c2, c3, c4] := heap_alloc2_new W _ _
  have hst : Stay S W ((W.alloc (.cells #[.func (.yield l) #[] #[]] 117)).alloc (.cells #[c0, c1, c2, c3, c4] 29)) := ((Stay.refl S W).grown (World.grownBy_alloc _ _ none) (fun r e => by cases e)).grown (World.grownBy_alloc _ _ none) (fun r e => by cases e)
  have j0 : J 0 ((W.alloc (.cells #[.func (.yield l) #[] #[]] 117)).alloc (.cells #[c0, c1, c2, c3, c4] 29)) := HJ.out.alloc _ (HJ.out.alloc _ h0)
  have hsz : ((W.alloc (.cells #[.func (.yield l) #[] #[]] 117)).alloc (.cells #[c0, c1, c2, c3, c4] 29)).heap.size = W.heap.size + 2 := by simp
  generalize (W.alloc (.cells #[.func (.yield l) #[] #[]] 117)).alloc (.cells #[c0, c1, c2, c3, c4] 29) = W2 at *
  refine wpIn_rangeL rfl (by omega) (gf := 69) (lb := #[.pointer (some ⟨W.heap.size + 1, 0, none⟩)]) rfl trivial (enters_of Tryz.func69 (by kernel_rfl) rfl)
    (S := fun k => S k ∨ (W.heap.size ≤ k ∧ k < W2.heap.size))
    (names_seq (n - 1) (by omega) (W.heap.size + 1) c0 c1 c2 c3 c4 A c N W2 iN HSL.out (HC.out.stay hst (fun p e h => hSA p e (fun e2 => h (by rw [e2]; rfl)))) hfit _ (.inr ⟨by omega, by omega⟩) (fun p e h => .inl (hSA p e h)))
    (Stay.refl _ _) (fun k hk => by rcases hk with h | h; (have := HSB.out k h; have := HWS.out; omega); exact h.2) (fun _ => rfl)
    (fun i W3 => J i W3 ∧ Is W3 W.heap.size 117 #[.func (.yield l) #[] #[]])
    (fun c i W3 => c = .ret ∧ Jx i W3)
    (fun s X Y row hs hg hr => ⟨HJ.out s X Y row hs.1 hg (fun r e => ⟨by have := (hr r e).1; omega, (hr r e).2⟩), (grownBy_keeps_cells hg (fun r e => (hr r e).2) hs.2 rfl).trans hs.2⟩)
    (fun c s X Y row hs hg hr => ⟨hs.1, HJx.out s X Y row hs.2 hg (fun r e => ⟨by have := (hr r e).1; omega, (hr r e).2⟩)⟩)
    ⟨j0, iY⟩ ?round ?done ?stop
  have hT : ∀ k, ((S k ∨ (W.heap.size ≤ k ∧ k < W2.heap.size)) ∨ W2.heap.size ≤ k) → (S k ∨ W.heap.size ≤ k) := fun k hk => by
    rcases hk with (h | h) | h
    · exact .inl h
    · exact .inr h.1
    · exact .inr (by omega)
  case round =>
    rintro l2 i x W3 hl2 hl3 hx ⟨hj, iY3⟩
    obtain ⟨y, hy, rfl⟩ := (show ∃ y, N[i]? = some y ∧ y = x from ⟨x, hx, rfl⟩)
    obtain ⟨x1, x2⟩ := y
    gi_wp2
    refine ⟨Stay.refl _ _, ⟨hj, iY3⟩, fun _ => True, fun _ _ _ _ _ _ _ => trivial, trivial, ?_⟩
    rintro W4 hl4 ⟨hj4, iY4⟩ _
    obtain ⟨fn, tmps, assign, body, hyd, hR⟩ := HY.out i (outN (x1, x2)) W4 (by rw [List.getElem?_map, hy]; rfl) hj4
    simp only [encN8, outN] at hyd
    have HR := Lib.hid hR
    have cY : W4.cell? ⟨W.heap.size, 0, none⟩ = some (.func (.yield l) #[] #[]) := iY4.cell 0
    clear hR
    gi_wp2
    refine ⟨fun _ => by omega, (roundIn_any HR.out).mono ?_⟩
    rintro e W5 (⟨rfl, hJ5, hS5⟩ | ⟨rfl, hJx5, hS5⟩)
    · gi_wp2
      exact ⟨hS5.mono hT, hJ5, hS5.is iY4 (.inr (Nat.le_refl _))⟩
    · gi_wp2
      exact ⟨hS5.mono hT, rfl, hJx5⟩
  case done =>
    rintro D W4 hD ⟨hj, _⟩ hK
    gi_wp2
    refine ⟨by simp, .inl ⟨_, _, rfl, run_takeDeferred hK, ?_⟩⟩
    exact ⟨_, results_none rfl _ _ _, ⟨_, rfl⟩, .inl (HJ.out.putObj _ (by simpa using hj) (by omega) hK rfl)⟩
  case stop =>
    rintro D c i W4 hD ⟨rfl, hj⟩ hK
    gi_wp2
    refine ⟨by simp, .inl ⟨_, _, rfl, run_takeDeferred hK, ?_⟩⟩
    exact ⟨_, results_none rfl _ _ _, ⟨_, rfl⟩, .inr ⟨i, HJx.out.putObj _ hj (by omega) hK rfl⟩⟩

set_option maxRecDepth 100000 in
set_option maxHeartbeats 2000000 in
theorem texts_seq (n : Nat) (hn : 3 ≤ n) (Bd : Nat) (c0 c1 c2 c3 c4 : Value) (A : Option Addr) (c : Nat) (N : List Cel8) (w : World) (hBd : Is w Bd 29 #[c0, c1, c2, c3, c4]) (hsl : c3 = .slice A N.length c) (hc : InV w A (flK N)) (hfit : N.length ≤ 140737488355328) (S : Nat → Prop) (hS : S Bd) (hSA : ∀ p, A = some p → N ≠ [] → S p.block) (hSb : ∀ k, S k → k < w.heap.size) :
    SeqL Fence.wide n Tryz.prog 79 #[.pointer (some ⟨Bd, 0, none⟩)] encP8 (N.map opnK) S w := by
  intro l J Jx W hW hJ hJx hY h0
  have HY := Lib.hid hY
  have HJ := Lib.hid hJ
  have HJx := Lib.hid hJx
  have HC := Lib.hid (hc.stay hW (fun p e h => hSA p e (fun e2 => h (by rw [e2]; rfl))))
  have HSL := Lib.hid hsl
  have HSB := Lib.hid hSb
  have HWS := Lib.hid hW.size
  have iB := hW.is hBd hS
  clear hY hJ hJx hc hBd hsl hSb
  refine callsIn_of_wp_marks Tryz.func79 rfl trivial ?_ rfl
  simp only [Tryz.ntmps79, List.size_toArray, List.length_cons, List.length_nil, Nat.reduceAdd, Nat.reduceSub, Array.replicate_succ, Array.replicate_zero, List.push_toArray, List.append_toArray, List.nil_append, List.cons_append]
  have iB1 := iB.alloc (.cells #[.func (.yield l) #[] #[]] 131)
  gi_wp2_with (refine wpListIn_load_rowI rfl 29 _ rfl Bd rfl iB1 Tryz.underlying29 rfl infoIde ?_)
  refine ⟨trivial, fun _ => by omega, (callsIn_wide.2 (cells_any c0 c1 c2 c3 c4 _)).mono ?_⟩
  rintro e W' ⟨rfl, rfl⟩
  gi_wp2_with fail
  have iY : Is ((W.alloc (.cells #[.func (.yield l) #[] #[]] 131)).alloc (.cells #[c0, c1, c2, c3, c4] 29)) W.heap.size 131 #[.func (.yield l) #[] #[]] := (Is.new W _ _).alloc _
  have iN : Is ((W.alloc (.cells #[.func (.yield l) #[] #[]] 131)).alloc (.cells #[c0, c1, c2, c3, c4] 29)) (W.heap.size + 1) 29 #[c0, c1, c2, c3, c4] := heap_alloc2_new W _ _
  have hst : Stay S W ((W.alloc (.cells #[.func (.yield l) #[] #[]] 131)).alloc (.cells #[c0, c1, c2, c3, c4] 29)) := ((Stay.refl S W).grown (World.grownBy_alloc _ _ none) (fun r e => by cases e)).grown (World.grownBy_alloc _ _ none) (fun r e => by cases e)
  have j0 : J 0 ((W.alloc (.cells #[.func (.yield l) #[] #[]] 131)).alloc (.cells #[c0, c1, c2, c3, c4] 29)) := HJ.out.alloc _ (HJ.out.alloc _ h0)
  have hsz : ((W.alloc (.cells #[.func (.yield l) #[] #[]] 131)).alloc (.cells #[c0, c1, c2, c3, c4] 29)).heap.size = W.heap.size + 2 := by simp
  generalize (W.alloc (.cells #[.func (.yield l) #[] #[]] 131)).alloc (.cells #[c0, c1, c2, c3, c4] 29) = W2 at *
  refine wpIn_rangeL rfl (by omega) (gf := 70) (lb := #[.pointer (some ⟨W.heap.size + 1, 0, none⟩)]) rfl trivial (enters_of Tryz.func70 (by kernel_rfl) rfl)
    (S := fun k => S k ∨ (W.heap.size ≤ k ∧ k < W2.heap.size))
    (cells_seq (n - 1) (by omega) (W.heap.size + 1) c0 c1 c2 c3 c4 A c N W2 iN HSL.out (HC.out.stay hst (fun p e h => hSA p e (fun e2 => h (by rw [e2]; rfl)))) hfit _ (.inr ⟨by omega, by omega⟩) (fun p e h => .inl (hSA p e h)))
    (Stay.refl _ _) (fun k hk => by rcases hk with h | h; (have := HSB.out k h; have := HWS.out; omega); exact h.2) (fun _ => rfl)
    (fun i W3 => J i W3 ∧ Is W3 W.heap.size 131 #[.func (.yield l) #[] #[]])
    (fun c i W3 => c = .ret ∧ Jx i W3)
    (fun s X Y row hs hg hr => ⟨HJ.out s X Y row hs.1 hg (fun r e => ⟨by have := (hr r e).1; omega, (hr r e).2⟩), (grownBy_keeps_cells hg (fun r e => (hr r e).2) hs.2 rfl).trans hs.2⟩)
    (fun c s X Y row hs hg hr => ⟨hs.1, HJx.out s X Y row hs.2 hg (fun r e => ⟨by have := (hr r e).1; omega, (hr r e).2⟩)⟩)
    ⟨j0, iY⟩ ?round ?done ?stop
  have hT : ∀ k, ((S k ∨ (W.heap.size ≤ k ∧ k < W2.heap.size)) ∨ W2.heap.size ≤ k) → (S k ∨ W.heap.size ≤ k) := fun k hk => by
    rcases hk with (h | h) | h
    · exact .inl h
    · exact .inr h.1
    · exact .inr (by omega)
  case round =>
    rintro l2 i x W3 hl2 hl3 hx ⟨hj, iY3⟩
    obtain ⟨y, hy, rfl⟩ := (show ∃ y, N[i]? = some y ∧ askK y = x by rw [List.getElem?_map] at hx; cases hy : N[i]? with | none => rw [hy] at hx; cases hx | some y => rw [hy] at hx; cases hx; exact ⟨y, rfl, rfl⟩)
    obtain ⟨x1, x2, x3⟩ := y
    simp only [askK]
    gi_wp2
    refine ⟨(Stay.refl _ _).grown (World.grownBy_alloc _ _ none) (fun r e => by cases e), ⟨HJ.out.alloc _ hj, iY3.alloc _⟩, fun W => Is W W3.heap.size 104 #[.string x1, .string x2], fun _ X Y row hs hg hr => (grownBy_keeps_cells hg (fun r e => (hr r e).2) hs rfl).trans hs, Is.new _ _ _, ?_⟩
    rintro W4 hl4 ⟨hj4, iY4⟩ iX4
    have q1 : W4.cell? ⟨W3.heap.size, 0, none⟩ = some (.string x1) := iX4.cell 0
    have q2 : W4.cell? ⟨W3.heap.size, 1, none⟩ = some (.string x2) := iX4.cell 1
    obtain ⟨fn, tmps, assign, body, hyd, hR⟩ := HY.out i (opnK (x1, x2, x3)) W4 (by rw [List.getElem?_map, hy]; rfl) hj4
    simp only [encP8, opnK] at hyd
    have HR := Lib.hid hR
    have cY : W4.cell? ⟨W.heap.size, 0, none⟩ = some (.func (.yield l) #[] #[]) := iY4.cell 0
    clear hR
    gi_wp2
    refine ⟨fun _ => by omega, (roundIn_any HR.out).mono ?_⟩
    rintro e W5 (⟨rfl, hJ5, hS5⟩ | ⟨rfl, hJx5, hS5⟩)
    · gi_wp2
      exact ⟨hS5.mono hT, hJ5, hS5.is iY4 (.inr (Nat.le_refl _))⟩
    · gi_wp2
      exact ⟨hS5.mono hT, rfl, hJx5⟩
  case done =>
    rintro D W4 hD ⟨hj, _⟩ hK
    gi_wp2
    refine ⟨by simp, .inl ⟨_, _, rfl, run_takeDeferred hK, ?_⟩⟩
    exact ⟨_, results_none rfl _ _ _, ⟨_, rfl⟩, .inl (HJ.out.putObj _ (by simpa using hj) (by omega) hK rfl)⟩
  case stop =>
    rintro D c i W4 hD ⟨rfl, hj⟩ hK
    gi_wp2
    refine ⟨by simp, .inl ⟨_, _, rfl, run_takeDeferred hK, ?_⟩⟩
    exact ⟨_, results_none rfl _ _ _, ⟨_, rfl⟩, .inr ⟨i, HJx.out.putObj _ hj (by omega) hK rfl⟩⟩
end Go.Proofs.YtfgdcpolfekgjaaGreat
namespace Go.Proofs.YtfgdcpolfekgjaaGreat
open Go.RowKit Go.Shelf
attribute [local go_sem] Oper.semAt_some

def find8 {κ : Type} [DecidableEq κ] (l : List (κ × ByteArray)) (k : κ) : ByteArray × Bool :=
  match l.find? fun x => decide (x.1 = k) with
  | some x => (x.2, true)
  | none => (⟨#[]⟩, false)
theorem find8_hit {κ : Type} [DecidableEq κ] {l : List (κ × ByteArray)} {k : κ} {i : Nat} {y : ByteArray} (hx : l[i]? = some (k, y)) (hn : (l.take i).find? (fun x => decide (x.1 = k)) = none) : find8 l k = (y, true) := by
  have h : l.find? (fun x => decide (x.1 = k)) = some (k, y) := by
    have hi : i < l.length := (List.getElem?_eq_some_iff.1 hx).1
    have hd : l.drop i = (k, y) :: l.drop (i + 1) := by
      rw [List.drop_eq_getElem_cons hi]
      rw [List.getElem?_eq_getElem hi] at hx
      rw [Option.some.inj hx]
    rw [← List.take_append_drop i l, List.find?_append, hn, hd]
    simp
  rw [find8, h]
theorem find8_miss {κ : Type} [DecidableEq κ] {l : List (κ × ByteArray)} {k : κ} (hn : l.find? (fun x => decide (x.1 = k)) = none) : find8 l k = (⟨#[]⟩, false) := by
  rw [find8, hn]
theorem take_none {κ : Type} [DecidableEq κ] {l : List (κ × ByteArray)} {k : κ} {i : Nat} {x : κ × ByteArray} (hx : l[i]? = some x) (hn : (l.take i).find? (fun x => decide (x.1 = k)) = none) (hne : x.1 ≠ k) : (l.take (i + 1)).find? (fun x => decide (x.1 = k)) = none := by
  have hi : i < l.length := (List.getElem?_eq_some_iff.1 hx).1
  rw [List.getElem?_eq_getElem hi] at hx
  rw [List.take_add_one, List.find?_append, hn, List.getElem?_eq_getElem hi]
  cases hx
  simp [hne]
theorem results_cc {fn : Func} {s p : Tmp} {t0 t1 : TypeId} (h : fn.results = #[.cell s t0, .cell p t1]) (tmps : Array Value) (P : Program) (w : World) (g0 g1 : Nat) (y0 y1 : Value) (T0 T1 : TypeId)
    (hs : tmps.getD s undef = .pointer (some ⟨g0, 0, none⟩)) (hp : tmps.getD p undef = .pointer (some ⟨g1, 0, none⟩))
    (i0 : Is w g0 T0 #[y0]) (i1 : Is w g1 T1 #[y1]) (a0 : (isAgg t0).run P w = .ok false w) (a1 : (isAgg t1).run P w = .ok false w) :
    (results fn tmps).run P w = .ok (.tuple #[y0, y1]) w := by
  have e : (results fn tmps).run P w = ((asAddr (tmps.getD s undef)).run P w).andThen fun b w0 => ((loadVar t0 b).run P w0).andThen fun v0 w1 => ((asAddr (tmps.getD p undef)).run P w1).andThen fun b w2 => ((loadVar t1 b).run P w2).andThen fun v1 w3 => .ok (.tuple #[v0, v1]) w3 := by
    simp only [results, h]
    simp [Sem.run_bind, Result.andThen]
  have c0 := i0.cell 0
  have c1 := i1.cell 0
  have l0 : (loadVar t0 ⟨g0, 0, none⟩).run P w = .ok y0 w := by
    simp only [loadVar, Sem.run_bind, a0, Result.andThen_ok]
    simp [go_sem, c0]
  have l1 : (loadVar t1 ⟨g1, 0, none⟩).run P w = .ok y1 w := by
    simp only [loadVar, Sem.run_bind, a1, Result.andThen_ok]
    simp [go_sem, c1]
  rw [e, hs, hp]
  simp [asAddr, l0, l1]
theorem aggS8 (w : World) : (isAgg 9).run Tryz.prog w = .ok false w := by go_simp
theorem aggB8 (w : World) : (isAgg 4).run Tryz.prog w = .ok false w := by go_simp
theorem eqS8 (a b c d : ByteArray) (w : World) : (binOp .eql 104 (.agg #[.string a, .string b]) (.agg #[.string c, .string d])).run Tryz.prog w = .ok (.bool (decide ((a, b) = (c, d)))) w := by
  by_cases h1 : a = c
  · by_cases h2 : b = d
    · subst h1; subst h2; rw [decide_eq_true rfl]; go_simp
    · have n1 := ne7 h2
      have n2 := beq7 h2
      rw [decide_eq_false (fun e => h2 (Prod.mk.inj e).2)]; subst h1; go_simp
  · have n1 := ne7 h1
    have n2 := beq7 h1
    rw [decide_eq_false (fun e => h1 (Prod.mk.inj e).1)]; go_simp
theorem eqO8 (a b c d : ByteArray) (w : World) : (binOp .eql 122 (.agg #[.string a, .string b]) (.agg #[.string c, .string d])).run Tryz.prog w = .ok (.bool (decide ((a, b) = (c, d)))) w := by
  by_cases h1 : a = c
  · by_cases h2 : b = d
    · subst h1; subst h2; rw [decide_eq_true rfl]; go_simp
    · have n1 := ne7 h2
      have n2 := beq7 h2
      rw [decide_eq_false (fun e => h2 (Prod.mk.inj e).2)]; subst h1; go_simp
  · have n1 := ne7 h1
    have n2 := beq7 h1
    rw [decide_eq_false (fun e => h1 (Prod.mk.inj e).1)]; go_simp
/-- a block of one's own that a range does not turn. -/
theorem isOwn8 {B : Nat} {g : Nat} {t : TypeId} {cs : Array Value} {X Y : World} {row : Option Nat} (h : Is X g t cs) (hg : X.grownBy Y row) (hr : ∀ r, row = some r → B ≤ r ∧ ∃ o : Obj, X.heap[r]? = some o ∧ o.isCells = false) : Is Y g t cs :=
  (grownBy_keeps_cells hg (fun r e => (hr r e).2) h rfl).trans h
theorem belowOwn8 {n B : Nat} {w X Y : World} {row : Option Nat} (h : Below n w X) (hx : n ≤ X.heap.size) (hn : n ≤ B) (hg : X.grownBy Y row) (hr : ∀ r, row = some r → B ≤ r ∧ ∃ o : Obj, X.heap[r]? = some o ∧ o.isCells = false) : Below n w Y :=
  h.grown hg hx (fun k e => Nat.le_trans hn (hr k e).1)

set_option maxRecDepth 100000 in
set_option maxHeartbeats 4000000 in
theorem findS_any (gf : Nat) (lb : Array Value) (xs : List Nam8) (s : ByteArray) (w : World) (eg : ∀ args w, (callFunc gf args).run Tryz.prog w = .ok (.enter gf args) w)
    (hseq : SeqL Fence.wide 4 Tryz.prog gf lb encN8 xs (fun k => k < w.heap.size) w) :
    Calls Tryz.prog 142 #[.func (.func gf) #[] lb, .string s] w fun e w' => e = .returned (.tuple #[.string (find8 xs s).1, .bool (find8 xs s).2]) ∧ Below w.heap.size w w' := by
  have HS := Lib.hid hseq
  clear hseq
  refine (callsIn_wide (n := 5)).1 ?_
  refine callsIn_of_wp_marks Tryz.func142 rfl trivial ?_ rfl
  simp only [Tryz.ntmps142, List.size_toArray, List.length_cons, List.length_nil, Nat.reduceAdd, Nat.reduceSub, Array.replicate_succ, Array.replicate_zero, List.push_toArray, List.append_toArray, List.nil_append, List.cons_append]
  gi_wp2_with fail
  have i3 : Is (((w.alloc (.cells #[.string s] 9)).alloc (.cells #[.string ⟨#[]⟩] 9)).alloc (.cells #[.bool false] 4)) w.heap.size 9 #[.string s] := ((Is.new w _ _).alloc _).alloc _
  have i4 : Is (((w.alloc (.cells #[.string s] 9)).alloc (.cells #[.string ⟨#[]⟩] 9)).alloc (.cells #[.bool false] 4)) (w.heap.size + 1) 9 #[.string ⟨#[]⟩] := Is.alloc (heap_alloc2_new w _ _) _
  have i5 : Is (((w.alloc (.cells #[.string s] 9)).alloc (.cells #[.string ⟨#[]⟩] 9)).alloc (.cells #[.bool false] 4)) (w.heap.size + 1 + 1) 4 #[.bool false] := by
    have := Is.new ((w.alloc (.cells #[.string s] 9)).alloc (.cells #[.string ⟨#[]⟩] 9)) 4 #[.bool false]
    simpa using this
  have hB : Below w.heap.size w (((w.alloc (.cells #[.string s] 9)).alloc (.cells #[.string ⟨#[]⟩] 9)).alloc (.cells #[.bool false] 4)) := (((Below.refl _ _).alloc (Nat.le_refl _) _).alloc (by simp) _).alloc (by simp; omega) _
  have hsz : (((w.alloc (.cells #[.string s] 9)).alloc (.cells #[.string ⟨#[]⟩] 9)).alloc (.cells #[.bool false] 4)).heap.size = w.heap.size + 3 := by simp
  generalize ((w.alloc (.cells #[.string s] 9)).alloc (.cells #[.string ⟨#[]⟩] 9)).alloc (.cells #[.bool false] 4) = W0 at *
  refine wpIn_rangeL rfl (by omega) (gf := gf) (lb := lb) rfl trivial eg HS.out (Stay.below hB) (fun k hk => by omega) (fun _ => rfl)
    (fun i W => Below w.heap.size w W ∧ Is W w.heap.size 9 #[.string s] ∧ Is W (w.heap.size + 1) 9 #[.string ⟨#[]⟩] ∧ Is W (w.heap.size + 1 + 1) 4 #[.bool false] ∧ (xs.take i).find? (fun x => decide (x.1 = s)) = none)
    (fun c _ W => c = .ret ∧ Below w.heap.size w W ∧ Is W (w.heap.size + 1) 9 #[.string (find8 xs s).1] ∧ Is W (w.heap.size + 1 + 1) 4 #[.bool (find8 xs s).2])
    (fun s X Y row hs hg hr => ⟨belowOwn8 hs.1 hs.1.size (by omega) hg hr, isOwn8 hs.2.1 hg hr, isOwn8 hs.2.2.1 hg hr, isOwn8 hs.2.2.2.1 hg hr, hs.2.2.2.2⟩)
    (fun c s X Y row hs hg hr => ⟨hs.1, belowOwn8 hs.2.1 hs.2.1.size (by omega) hg hr, isOwn8 hs.2.2.1 hg hr, isOwn8 hs.2.2.2 hg hr⟩)
    ⟨hB, i3, i4, i5, rfl⟩ ?round ?done ?stop
  case round =>
    rintro l i ⟨x, y⟩ W hl hlt hx ⟨hb, j3, j4, j5, hn⟩
    gi_wp2
    refine ⟨Stay.refl _ _, ⟨hb, j3, j4, j5, hn⟩, fun _ => True, fun _ _ _ _ _ _ _ => trivial, trivial, ?_⟩
    clear hb j3 j4 j5
    rintro W4 hl4 ⟨hb, j3, j4, j5, _⟩ hax
    have hi := Lib.hid hx
    have HN := Lib.hid hn
    have q4 := j4.frozen 0
    have q5 := j5.frozen 0
    have r4 : W4.cell? ⟨w.heap.size + 1, 0, none⟩ = some (.string ⟨#[]⟩) := j4.cell 0
    have r5 : W4.cell? ⟨w.heap.size + 1 + 1, 0, none⟩ = some (.bool false) := j5.cell 0
    have q3 : W4.cell? ⟨w.heap.size, 0, none⟩ = some (.string s) := j3.cell 0
    by_cases he : x = s
    · subst he
      have hf := Lib.hid (find8_hit hx hn)
      clear hx hn
      gi_wp2_with fail
      refine ⟨((Stay.refl _ _).grown (grownSetG _ _ _) (fun r e => by cases e; exact .inl (by simp only []; omega))).grown (grownSetG _ _ _) (fun r e => by cases e; exact .inl (by simp only []; omega)), rfl,
        (hb.setCell (p := ⟨w.heap.size + 1, 0, none⟩) (by simp) _).setCell (p := ⟨w.heap.size + 1 + 1, 0, none⟩) (by simp; omega) _, ?_, ?_⟩
      · rw [hf.out]; exact (j4.set 0 _).far (p := ⟨w.heap.size + 1 + 1, 0, none⟩) (by simp) _
      · rw [hf.out]; exact (j5.far (p := ⟨w.heap.size + 1, 0, none⟩) (by simp) _).set 0 _
    · have n1 := ne7 he
      have n2 := beq7 he
      have hf := Lib.hid (take_none hx hn he)
      clear hx hn
      gi_wp2_with fail
      exact ⟨Stay.refl _ _, hb, j3, j4, j5, hf.out⟩
  case done =>
    rintro D W hD ⟨hb, j3, j4, j5, hn⟩ hK
    rw [List.take_length] at hn
    have hf := Lib.hid (find8_miss hn)
    have q4 := j4.frozen 0
    have q5 := j5.frozen 0
    have r4 : W.cell? ⟨w.heap.size + 1, 0, none⟩ = some (.string ⟨#[]⟩) := j4.cell 0
    have r5 : W.cell? ⟨w.heap.size + 1 + 1, 0, none⟩ = some (.bool false) := j5.cell 0
    have hK2 : ((W.setCell ⟨w.heap.size + 1, 0, none⟩ (.string ⟨#[]⟩)).setCell ⟨w.heap.size + 1 + 1, 0, none⟩ (.bool false)).heap[D]? = some (.deferred (some [])) :=
      ((heap_setCell_other _ _ D _ (by simp only []; omega)).trans (heap_setCell_other _ _ D _ (by simp only []; omega))).trans hK
    have HK := Lib.hid hK2
    clear hn hK hK2
    gi_wp2
    refine ⟨by simp, .inl ⟨_, _, rfl, run_takeDeferred HK.out, ?_⟩⟩
    have hgr := grownBy_putObj' ((W.setCell ⟨w.heap.size + 1, 0, none⟩ (.string ⟨#[]⟩)).setCell ⟨w.heap.size + 1 + 1, 0, none⟩ (.bool false)) D (.deferred none)
    have hrr : ∀ r, some D = some r → W0.heap.size ≤ r ∧ ∃ o : Obj, ((W.setCell ⟨w.heap.size + 1, 0, none⟩ (.string ⟨#[]⟩)).setCell ⟨w.heap.size + 1 + 1, 0, none⟩ (.bool false)).heap[r]? = some o ∧ o.isCells = false := fun r e => by cases e; exact ⟨hD, _, HK.out, rfl⟩
    have z4 : Is ((W.setCell ⟨w.heap.size + 1, 0, none⟩ (.string ⟨#[]⟩)).setCell ⟨w.heap.size + 1 + 1, 0, none⟩ (.bool false)) (w.heap.size + 1) 9 #[.string ⟨#[]⟩] := (j4.set 0 _).far (p := ⟨w.heap.size + 1 + 1, 0, none⟩) (by simp) _
    have z5 : Is ((W.setCell ⟨w.heap.size + 1, 0, none⟩ (.string ⟨#[]⟩)).setCell ⟨w.heap.size + 1 + 1, 0, none⟩ (.bool false)) (w.heap.size + 1 + 1) 4 #[.bool false] := (j5.far (p := ⟨w.heap.size + 1, 0, none⟩) (by simp) _).set 0 _
    have zb : Below w.heap.size w ((W.setCell ⟨w.heap.size + 1, 0, none⟩ (.string ⟨#[]⟩)).setCell ⟨w.heap.size + 1 + 1, 0, none⟩ (.bool false)) := (hb.setCell (p := ⟨w.heap.size + 1, 0, none⟩) (by simp) _).setCell (p := ⟨w.heap.size + 1 + 1, 0, none⟩) (by simp; omega) _
    exact ⟨_, results_cc Tryz.results142 _ _ _ (w.heap.size + 1) (w.heap.size + 1 + 1) (.string ⟨#[]⟩) (.bool false) 9 4 rfl rfl (isOwn8 z4 hgr hrr) (isOwn8 z5 hgr hrr) (aggS8 _) (aggB8 _), by rw [hf.out], belowOwn8 zb zb.size (by omega) hgr hrr⟩
  case stop =>
    rintro D c i W hD ⟨rfl, hb, j4, j5⟩ hK
    gi_wp2
    refine ⟨by simp, .inl ⟨_, _, rfl, run_takeDeferred hK, ?_⟩⟩
    have hgr := grownBy_putObj' W D (.deferred none)
    have hrr : ∀ r, some D = some r → W0.heap.size ≤ r ∧ ∃ o : Obj, W.heap[r]? = some o ∧ o.isCells = false := fun r e => by cases e; exact ⟨hD, _, hK, rfl⟩
    exact ⟨_, results_cc Tryz.results142 _ _ _ (w.heap.size + 1) (w.heap.size + 1 + 1) _ _ 9 4 rfl rfl (isOwn8 j4 hgr hrr) (isOwn8 j5 hgr hrr) (aggS8 _) (aggB8 _), rfl, belowOwn8 hb hb.size (by omega) hgr hrr⟩

set_option maxRecDepth 100000 in
set_option maxHeartbeats 4000000 in
theorem findK_any (gf : Nat) (lb : Array Value) (xs : List ((ByteArray × ByteArray) × ByteArray)) (s1 s2 : ByteArray) (w : World) (eg : ∀ args w, (callFunc gf args).run Tryz.prog w = .ok (.enter gf args) w)
    (hseq : SeqL Fence.wide 4 Tryz.prog gf lb encP8 xs (fun k => k < w.heap.size) w) :
    Calls Tryz.prog 135 #[.func (.func gf) #[] lb, .agg #[.string s1, .string s2]] w fun e w' => e = .returned (.tuple #[.string (find8 xs (s1, s2)).1, .bool (find8 xs (s1, s2)).2]) ∧ Below w.heap.size w w' := by
  have HS := Lib.hid hseq
  clear hseq
  refine (callsIn_wide (n := 5)).1 ?_
  refine callsIn_of_wp_marks Tryz.func135 rfl trivial ?_ rfl
  simp only [Tryz.ntmps135, List.size_toArray, List.length_cons, List.length_nil, Nat.reduceAdd, Nat.reduceSub, Array.replicate_succ, Array.replicate_zero, List.push_toArray, List.append_toArray, List.nil_append, List.cons_append]
  gi_wp2_with fail
  have i3 : Is (((w.alloc (.cells #[.string s1, .string s2] 104)).alloc (.cells #[.string ⟨#[]⟩] 9)).alloc (.cells #[.bool false] 4)) w.heap.size 104 #[.string s1, .string s2] := ((Is.new w _ _).alloc _).alloc _
  have i4 : Is (((w.alloc (.cells #[.string s1, .string s2] 104)).alloc (.cells #[.string ⟨#[]⟩] 9)).alloc (.cells #[.bool false] 4)) (w.heap.size + 1) 9 #[.string ⟨#[]⟩] := Is.alloc (heap_alloc2_new w _ _) _
  have i5 : Is (((w.alloc (.cells #[.string s1, .string s2] 104)).alloc (.cells #[.string ⟨#[]⟩] 9)).alloc (.cells #[.bool false] 4)) (w.heap.size + 1 + 1) 4 #[.bool false] := by
    have := Is.new ((w.alloc (.cells #[.string s1, .string s2] 104)).alloc (.cells #[.string ⟨#[]⟩] 9)) 4 #[.bool false]
    simpa using this
  have hB : Below w.heap.size w (((w.alloc (.cells #[.string s1, .string s2] 104)).alloc (.cells #[.string ⟨#[]⟩] 9)).alloc (.cells #[.bool false] 4)) := (((Below.refl _ _).alloc (Nat.le_refl _) _).alloc (by simp) _).alloc (by simp; omega) _
  have hsz : (((w.alloc (.cells #[.string s1, .string s2] 104)).alloc (.cells #[.string ⟨#[]⟩] 9)).alloc (.cells #[.bool false] 4)).heap.size = w.heap.size + 3 := by simp
  generalize ((w.alloc (.cells #[.string s1, .string s2] 104)).alloc (.cells #[.string ⟨#[]⟩] 9)).alloc (.cells #[.bool false] 4) = W0 at *
  refine wpIn_rangeL rfl (by omega) (gf := gf) (lb := lb) rfl trivial eg HS.out (Stay.below hB) (fun k hk => by omega) (fun _ => rfl)
    (fun i W => Below w.heap.size w W ∧ Is W w.heap.size 104 #[.string s1, .string s2] ∧ Is W (w.heap.size + 1) 9 #[.string ⟨#[]⟩] ∧ Is W (w.heap.size + 1 + 1) 4 #[.bool false] ∧ (xs.take i).find? (fun x => decide (x.1 = (s1, s2))) = none)
    (fun c _ W => c = .ret ∧ Below w.heap.size w W ∧ Is W (w.heap.size + 1) 9 #[.string (find8 xs (s1, s2)).1] ∧ Is W (w.heap.size + 1 + 1) 4 #[.bool (find8 xs (s1, s2)).2])
    (fun s X Y row hs hg hr => ⟨belowOwn8 hs.1 hs.1.size (by omega) hg hr, isOwn8 hs.2.1 hg hr, isOwn8 hs.2.2.1 hg hr, isOwn8 hs.2.2.2.1 hg hr, hs.2.2.2.2⟩)
    (fun c s X Y row hs hg hr => ⟨hs.1, belowOwn8 hs.2.1 hs.2.1.size (by omega) hg hr, isOwn8 hs.2.2.1 hg hr, isOwn8 hs.2.2.2 hg hr⟩)
    ⟨hB, i3, i4, i5, rfl⟩ ?round ?done ?stop
  case round =>
    rintro l i ⟨⟨x1, x2⟩, y⟩ W hl hlt hx ⟨hb, j3, j4, j5, hn⟩
    gi_wp2
    refine ⟨(Stay.refl _ _).grown (World.grownBy_alloc _ _ none) (fun r e => by cases e), ⟨hb.alloc hb.size _, j3.alloc _, j4.alloc _, j5.alloc _, hn⟩, fun W' => Is W' W.heap.size 104 #[.string x1, .string x2], fun _ X Y row hs hg hr => isOwn8 hs hg hr, Is.new _ _ _, ?_⟩
    clear hb j3 j4 j5
    rintro W4 hl4 ⟨hb, j3, j4, j5, _⟩ hax
    have hi := Lib.hid hx
    have HN := Lib.hid hn
    have q4 := j4.frozen 0
    have q5 := j5.frozen 0
    have r4 : W4.cell? ⟨w.heap.size + 1, 0, none⟩ = some (.string ⟨#[]⟩) := j4.cell 0
    have r5 : W4.cell? ⟨w.heap.size + 1 + 1, 0, none⟩ = some (.bool false) := j5.cell 0
    have qe := eqS8 x1 x2 s1 s2
    by_cases he : (x1, x2) = (s1, s2)
    · obtain ⟨rfl, rfl⟩ := Prod.mk.inj he
      have hd : decide ((x1, x2) = (x1, x2)) = true := decide_eq_true rfl
      have hf := Lib.hid (find8_hit hx hn)
      clear hx hn
      gi_wp2_with (first | (refine wpListIn_load_rowI rfl 104 _ rfl W.heap.size rfl hax Tryz.underlying104 rfl infoAsk ?_) | (refine wpListIn_load_rowI rfl 104 _ rfl w.heap.size rfl j3 Tryz.underlying104 rfl infoAsk ?_))
      refine ⟨((Stay.refl _ _).grown (grownSetG _ _ _) (fun r e => by cases e; exact .inl (by simp only []; omega))).grown (grownSetG _ _ _) (fun r e => by cases e; exact .inl (by simp only []; omega)), rfl,
        (hb.setCell (p := ⟨w.heap.size + 1, 0, none⟩) (by simp) _).setCell (p := ⟨w.heap.size + 1 + 1, 0, none⟩) (by simp; omega) _, ?_, ?_⟩
      · rw [hf.out]; exact (j4.set 0 _).far (p := ⟨w.heap.size + 1 + 1, 0, none⟩) (by simp) _
      · rw [hf.out]; exact (j5.far (p := ⟨w.heap.size + 1, 0, none⟩) (by simp) _).set 0 _
    · have hd : decide ((x1, x2) = (s1, s2)) = false := decide_eq_false he
      have hf := Lib.hid (take_none hx hn he)
      clear hx hn
      gi_wp2_with (first | (refine wpListIn_load_rowI rfl 104 _ rfl W.heap.size rfl hax Tryz.underlying104 rfl infoAsk ?_) | (refine wpListIn_load_rowI rfl 104 _ rfl w.heap.size rfl j3 Tryz.underlying104 rfl infoAsk ?_))
      exact ⟨Stay.refl _ _, hb, j3, j4, j5, hf.out⟩
  case done =>
    rintro D W hD ⟨hb, j3, j4, j5, hn⟩ hK
    rw [List.take_length] at hn
    have hf := Lib.hid (find8_miss hn)
    have q4 := j4.frozen 0
    have q5 := j5.frozen 0
    have r4 : W.cell? ⟨w.heap.size + 1, 0, none⟩ = some (.string ⟨#[]⟩) := j4.cell 0
    have r5 : W.cell? ⟨w.heap.size + 1 + 1, 0, none⟩ = some (.bool false) := j5.cell 0
    have hK2 : ((W.setCell ⟨w.heap.size + 1, 0, none⟩ (.string ⟨#[]⟩)).setCell ⟨w.heap.size + 1 + 1, 0, none⟩ (.bool false)).heap[D]? = some (.deferred (some [])) :=
      ((heap_setCell_other _ _ D _ (by simp only []; omega)).trans (heap_setCell_other _ _ D _ (by simp only []; omega))).trans hK
    have HK := Lib.hid hK2
    clear hn hK hK2
    gi_wp2
    refine ⟨by simp, .inl ⟨_, _, rfl, run_takeDeferred HK.out, ?_⟩⟩
    have hgr := grownBy_putObj' ((W.setCell ⟨w.heap.size + 1, 0, none⟩ (.string ⟨#[]⟩)).setCell ⟨w.heap.size + 1 + 1, 0, none⟩ (.bool false)) D (.deferred none)
    have hrr : ∀ r, some D = some r → W0.heap.size ≤ r ∧ ∃ o : Obj, ((W.setCell ⟨w.heap.size + 1, 0, none⟩ (.string ⟨#[]⟩)).setCell ⟨w.heap.size + 1 + 1, 0, none⟩ (.bool false)).heap[r]? = some o ∧ o.isCells = false := fun r e => by cases e; exact ⟨hD, _, HK.out, rfl⟩
    have z4 : Is ((W.setCell ⟨w.heap.size + 1, 0, none⟩ (.string ⟨#[]⟩)).setCell ⟨w.heap.size + 1 + 1, 0, none⟩ (.bool false)) (w.heap.size + 1) 9 #[.string ⟨#[]⟩] := (j4.set 0 _).far (p := ⟨w.heap.size + 1 + 1, 0, none⟩) (by simp) _
    have z5 : Is ((W.setCell ⟨w.heap.size + 1, 0, none⟩ (.string ⟨#[]⟩)).setCell ⟨w.heap.size + 1 + 1, 0, none⟩ (.bool false)) (w.heap.size + 1 + 1) 4 #[.bool false] := (j5.far (p := ⟨w.heap.size + 1, 0, none⟩) (by simp) _).set 0 _
    have zb : Below w.heap.size w ((W.setCell ⟨w.heap.size + 1, 0, none⟩ (.string ⟨#[]⟩)).setCell ⟨w.heap.size + 1 + 1, 0, none⟩ (.bool false)) := (hb.setCell (p := ⟨w.heap.size + 1, 0, none⟩) (by simp) _).setCell (p := ⟨w.heap.size + 1 + 1, 0, none⟩) (by simp; omega) _
    exact ⟨_, results_cc Tryz.results135 _ _ _ (w.heap.size + 1) (w.heap.size + 1 + 1) (.string ⟨#[]⟩) (.bool false) 9 4 rfl rfl (isOwn8 z4 hgr hrr) (isOwn8 z5 hgr hrr) (aggS8 _) (aggB8 _), by rw [hf.out], belowOwn8 zb zb.size (by omega) hgr hrr⟩
  case stop =>
    rintro D c i W hD ⟨rfl, hb, j4, j5⟩ hK
    gi_wp2
    refine ⟨by simp, .inl ⟨_, _, rfl, run_takeDeferred hK, ?_⟩⟩
    have hgr := grownBy_putObj' W D (.deferred none)
    have hrr : ∀ r, some D = some r → W0.heap.size ≤ r ∧ ∃ o : Obj, W.heap[r]? = some o ∧ o.isCells = false := fun r e => by cases e; exact ⟨hD, _, hK, rfl⟩
    exact ⟨_, results_cc Tryz.results135 _ _ _ (w.heap.size + 1) (w.heap.size + 1 + 1) _ _ 9 4 rfl rfl (isOwn8 j4 hgr hrr) (isOwn8 j5 hgr hrr) (aggS8 _) (aggB8 _), rfl, belowOwn8 hb hb.size (by omega) hgr hrr⟩

set_option maxRecDepth 100000 in
set_option maxHeartbeats 4000000 in
theorem findO_any (gf : Nat) (lb : Array Value) (xs : List ((ByteArray × ByteArray) × ByteArray)) (s1 s2 : ByteArray) (w : World) (eg : ∀ args w, (callFunc gf args).run Tryz.prog w = .ok (.enter gf args) w)
    (hseq : SeqL Fence.wide 4 Tryz.prog gf lb encP8 xs (fun k => k < w.heap.size) w) :
    Calls Tryz.prog 138 #[.func (.func gf) #[] lb, .agg #[.string s1, .string s2]] w fun e w' => e = .returned (.tuple #[.string (find8 xs (s1, s2)).1, .bool (find8 xs (s1, s2)).2]) ∧ Below w.heap.size w w' := by
  have HS := Lib.hid hseq
  clear hseq
  refine (callsIn_wide (n := 5)).1 ?_
  refine callsIn_of_wp_marks Tryz.func138 rfl trivial ?_ rfl
  simp only [Tryz.ntmps138, List.size_toArray, List.length_cons, List.length_nil, Nat.reduceAdd, Nat.reduceSub, Array.replicate_succ, Array.replicate_zero, List.push_toArray, List.append_toArray, List.nil_append, List.cons_append]
  gi_wp2_with fail
  have i3 : Is (((w.alloc (.cells #[.string s1, .string s2] 122)).alloc (.cells #[.string ⟨#[]⟩] 9)).alloc (.cells #[.bool false] 4)) w.heap.size 122 #[.string s1, .string s2] := ((Is.new w _ _).alloc _).alloc _
  have i4 : Is (((w.alloc (.cells #[.string s1, .string s2] 122)).alloc (.cells #[.string ⟨#[]⟩] 9)).alloc (.cells #[.bool false] 4)) (w.heap.size + 1) 9 #[.string ⟨#[]⟩] := Is.alloc (heap_alloc2_new w _ _) _
  have i5 : Is (((w.alloc (.cells #[.string s1, .string s2] 122)).alloc (.cells #[.string ⟨#[]⟩] 9)).alloc (.cells #[.bool false] 4)) (w.heap.size + 1 + 1) 4 #[.bool false] := by
    have := Is.new ((w.alloc (.cells #[.string s1, .string s2] 122)).alloc (.cells #[.string ⟨#[]⟩] 9)) 4 #[.bool false]
    simpa using this
  have hB : Below w.heap.size w (((w.alloc (.cells #[.string s1, .string s2] 122)).alloc (.cells #[.string ⟨#[]⟩] 9)).alloc (.cells #[.bool false] 4)) := (((Below.refl _ _).alloc (Nat.le_refl _) _).alloc (by simp) _).alloc (by simp; omega) _
  have hsz : (((w.alloc (.cells #[.string s1, .string s2] 122)).alloc (.cells #[.string ⟨#[]⟩] 9)).alloc (.cells #[.bool false] 4)).heap.size = w.heap.size + 3 := by simp
  generalize ((w.alloc (.cells #[.string s1, .string s2] 122)).alloc (.cells #[.string ⟨#[]⟩] 9)).alloc (.cells #[.bool false] 4) = W0 at *
  refine wpIn_rangeL rfl (by omega) (gf := gf) (lb := lb) rfl trivial eg HS.out (Stay.below hB) (fun k hk => by omega) (fun _ => rfl)
    (fun i W => Below w.heap.size w W ∧ Is W w.heap.size 122 #[.string s1, .string s2] ∧ Is W (w.heap.size + 1) 9 #[.string ⟨#[]⟩] ∧ Is W (w.heap.size + 1 + 1) 4 #[.bool false] ∧ (xs.take i).find? (fun x => decide (x.1 = (s1, s2))) = none)
    (fun c _ W => c = .ret ∧ Below w.heap.size w W ∧ Is W (w.heap.size + 1) 9 #[.string (find8 xs (s1, s2)).1] ∧ Is W (w.heap.size + 1 + 1) 4 #[.bool (find8 xs (s1, s2)).2])
    (fun s X Y row hs hg hr => ⟨belowOwn8 hs.1 hs.1.size (by omega) hg hr, isOwn8 hs.2.1 hg hr, isOwn8 hs.2.2.1 hg hr, isOwn8 hs.2.2.2.1 hg hr, hs.2.2.2.2⟩)
    (fun c s X Y row hs hg hr => ⟨hs.1, belowOwn8 hs.2.1 hs.2.1.size (by omega) hg hr, isOwn8 hs.2.2.1 hg hr, isOwn8 hs.2.2.2 hg hr⟩)
    ⟨hB, i3, i4, i5, rfl⟩ ?round ?done ?stop
  case round =>
    rintro l i ⟨⟨x1, x2⟩, y⟩ W hl hlt hx ⟨hb, j3, j4, j5, hn⟩
    gi_wp2
    refine ⟨(Stay.refl _ _).grown (World.grownBy_alloc _ _ none) (fun r e => by cases e), ⟨hb.alloc hb.size _, j3.alloc _, j4.alloc _, j5.alloc _, hn⟩, fun W' => Is W' W.heap.size 122 #[.string x1, .string x2], fun _ X Y row hs hg hr => isOwn8 hs hg hr, Is.new _ _ _, ?_⟩
    clear hb j3 j4 j5
    rintro W4 hl4 ⟨hb, j3, j4, j5, _⟩ hax
    have hi := Lib.hid hx
    have HN := Lib.hid hn
    have q4 := j4.frozen 0
    have q5 := j5.frozen 0
    have r4 : W4.cell? ⟨w.heap.size + 1, 0, none⟩ = some (.string ⟨#[]⟩) := j4.cell 0
    have r5 : W4.cell? ⟨w.heap.size + 1 + 1, 0, none⟩ = some (.bool false) := j5.cell 0
    have qe := eqO8 x1 x2 s1 s2
    by_cases he : (x1, x2) = (s1, s2)
    · obtain ⟨rfl, rfl⟩ := Prod.mk.inj he
      have hd : decide ((x1, x2) = (x1, x2)) = true := decide_eq_true rfl
      have hf := Lib.hid (find8_hit hx hn)
      clear hx hn
      gi_wp2_with (first | (refine wpListIn_load_rowI rfl 122 _ rfl W.heap.size rfl hax Tryz.underlying122 rfl infoOpn ?_) | (refine wpListIn_load_rowI rfl 122 _ rfl w.heap.size rfl j3 Tryz.underlying122 rfl infoOpn ?_))
      refine ⟨((Stay.refl _ _).grown (grownSetG _ _ _) (fun r e => by cases e; exact .inl (by simp only []; omega))).grown (grownSetG _ _ _) (fun r e => by cases e; exact .inl (by simp only []; omega)), rfl,
        (hb.setCell (p := ⟨w.heap.size + 1, 0, none⟩) (by simp) _).setCell (p := ⟨w.heap.size + 1 + 1, 0, none⟩) (by simp; omega) _, ?_, ?_⟩
      · rw [hf.out]; exact (j4.set 0 _).far (p := ⟨w.heap.size + 1 + 1, 0, none⟩) (by simp) _
      · rw [hf.out]; exact (j5.far (p := ⟨w.heap.size + 1, 0, none⟩) (by simp) _).set 0 _
    · have hd : decide ((x1, x2) = (s1, s2)) = false := decide_eq_false he
      have hf := Lib.hid (take_none hx hn he)
      clear hx hn
      gi_wp2_with (first | (refine wpListIn_load_rowI rfl 122 _ rfl W.heap.size rfl hax Tryz.underlying122 rfl infoOpn ?_) | (refine wpListIn_load_rowI rfl 122 _ rfl w.heap.size rfl j3 Tryz.underlying122 rfl infoOpn ?_))
      exact ⟨Stay.refl _ _, hb, j3, j4, j5, hf.out⟩
  case done =>
    rintro D W hD ⟨hb, j3, j4, j5, hn⟩ hK
    rw [List.take_length] at hn
    have hf := Lib.hid (find8_miss hn)
    have q4 := j4.frozen 0
    have q5 := j5.frozen 0
    have r4 : W.cell? ⟨w.heap.size + 1, 0, none⟩ = some (.string ⟨#[]⟩) := j4.cell 0
    have r5 : W.cell? ⟨w.heap.size + 1 + 1, 0, none⟩ = some (.bool false) := j5.cell 0
    have hK2 : ((W.setCell ⟨w.heap.size + 1, 0, none⟩ (.string ⟨#[]⟩)).setCell ⟨w.heap.size + 1 + 1, 0, none⟩ (.bool false)).heap[D]? = some (.deferred (some [])) :=
      ((heap_setCell_other _ _ D _ (by simp only []; omega)).trans (heap_setCell_other _ _ D _ (by simp only []; omega))).trans hK
    have HK := Lib.hid hK2
    clear hn hK hK2
    gi_wp2
    refine ⟨by simp, .inl ⟨_, _, rfl, run_takeDeferred HK.out, ?_⟩⟩
    have hgr := grownBy_putObj' ((W.setCell ⟨w.heap.size + 1, 0, none⟩ (.string ⟨#[]⟩)).setCell ⟨w.heap.size + 1 + 1, 0, none⟩ (.bool false)) D (.deferred none)
    have hrr : ∀ r, some D = some r → W0.heap.size ≤ r ∧ ∃ o : Obj, ((W.setCell ⟨w.heap.size + 1, 0, none⟩ (.string ⟨#[]⟩)).setCell ⟨w.heap.size + 1 + 1, 0, none⟩ (.bool false)).heap[r]? = some o ∧ o.isCells = false := fun r e => by cases e; exact ⟨hD, _, HK.out, rfl⟩
    have z4 : Is ((W.setCell ⟨w.heap.size + 1, 0, none⟩ (.string ⟨#[]⟩)).setCell ⟨w.heap.size + 1 + 1, 0, none⟩ (.bool false)) (w.heap.size + 1) 9 #[.string ⟨#[]⟩] := (j4.set 0 _).far (p := ⟨w.heap.size + 1 + 1, 0, none⟩) (by simp) _
    have z5 : Is ((W.setCell ⟨w.heap.size + 1, 0, none⟩ (.string ⟨#[]⟩)).setCell ⟨w.heap.size + 1 + 1, 0, none⟩ (.bool false)) (w.heap.size + 1 + 1) 4 #[.bool false] := (j5.far (p := ⟨w.heap.size + 1, 0, none⟩) (by simp) _).set 0 _
    have zb : Below w.heap.size w ((W.setCell ⟨w.heap.size + 1, 0, none⟩ (.string ⟨#[]⟩)).setCell ⟨w.heap.size + 1 + 1, 0, none⟩ (.bool false)) := (hb.setCell (p := ⟨w.heap.size + 1, 0, none⟩) (by simp) _).setCell (p := ⟨w.heap.size + 1 + 1, 0, none⟩) (by simp; omega) _
    exact ⟨_, results_cc Tryz.results138 _ _ _ (w.heap.size + 1) (w.heap.size + 1 + 1) (.string ⟨#[]⟩) (.bool false) 9 4 rfl rfl (isOwn8 z4 hgr hrr) (isOwn8 z5 hgr hrr) (aggS8 _) (aggB8 _), by rw [hf.out], belowOwn8 zb zb.size (by omega) hgr hrr⟩
  case stop =>
    rintro D c i W hD ⟨rfl, hb, j4, j5⟩ hK
    gi_wp2
    refine ⟨by simp, .inl ⟨_, _, rfl, run_takeDeferred hK, ?_⟩⟩
    have hgr := grownBy_putObj' W D (.deferred none)
    have hrr : ∀ r, some D = some r → W0.heap.size ≤ r ∧ ∃ o : Obj, W.heap[r]? = some o ∧ o.isCells = false := fun r e => by cases e; exact ⟨hD, _, hK, rfl⟩
    exact ⟨_, results_cc Tryz.results138 _ _ _ (w.heap.size + 1) (w.heap.size + 1 + 1) _ _ 9 4 rfl rfl (isOwn8 j4 hgr hrr) (isOwn8 j5 hgr hrr) (aggS8 _) (aggB8 _), rfl, belowOwn8 hb hb.size (by omega) hgr hrr⟩
end Go.Proofs.YtfgdcpolfekgjaaGreat

