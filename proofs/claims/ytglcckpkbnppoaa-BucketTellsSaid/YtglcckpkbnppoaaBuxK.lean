/-
  Layer 12's kit: rows and iterators, in a round too; a region that draws its order, in a round. Nothing of the program stands here.
-/
import Derived.Test.YtglcckpkbnppoaaGBu1
import Derived.Test.YtglcckpkbnppoaaGId1
import Derived.Test.YtglcckpkbnppoaaGKit
import Derived.Lib.BufStepsIn
import Derived.Lib.SliceRun
import Derived.Maps.OwnIn
import Derived.DeepKeys4
import Derived.StringKeys
namespace Go.Proofs.Ytglcckpkbnppoaa
open Go.RowKit Go.Shelf
attribute [local go_sem] Oper.semAt_some

theorem InV.stay12 {S : Nat → Prop} {W W' : World} {A : Option Addr} {vs : List Value} (h : InV W A vs) (hs : Stay S W W') (hA : ∀ p, A = some p → vs ≠ [] → S p.block) : InV W' A vs := fun j u hj => by
  obtain ⟨b, off, rfl, h1, h2⟩ := h j u hj
  obtain ⟨ob, ho, _⟩ := cells_of_cell h2
  have h3 := hs.same b ob (hA _ rfl (fun e => by rw [e] at hj; cases hj)) ho
  refine ⟨b, off, rfl, Nat.lt_of_lt_of_le h1 hs.size, ?_⟩
  rw [← h2]
  simp only [World.cell?, h3, show W.heap[b]? = some ob from ho]
theorem callsIn_round12 {n l : Nat} {P : Program} {f : FuncId} {args : Array Value} {w : World} {R : Ending → World → Prop} (h : Calls P f args w R) : CallsIn (Fence.wide.inRound l) n P f args w R := (callsIn_wide.2 h).inRound l
theorem roundIn_any12 {m m' l' : Nat} {P : Program} {l : Nat} {fn : FuncId} {tmps : Array Value} {assign body : Code} {W : World} {R : Ending → World → Prop} (h : RoundIn Fence.wide m P l fn tmps assign body W R) : RoundIn (Fence.wide.inRound l') m' P l fn tmps assign body W R :=
  ⟨h.1, fun c cs _ => h.2 c cs (room_wide _)⟩
theorem rangeS12 {S : Nat → Prop} {W W' : World} {b o : Nat} {cs : List Value} (h : W.rangeAt b o cs) (hs : Stay S W W') (hb : S b) : W'.rangeAt b o cs := fun j v hj => by
  have h1 := h j v hj
  obtain ⟨ob, ho, _⟩ := cells_of_cell h1
  have h2 := hs.same b ob hb ho
  rw [← h1]
  simp only [World.cell?, h2, show W.heap[b]? = some ob from ho]
theorem yieldAt_any12 {m m' : Nat} {P : Program} {l : Nat} {args : Array Value} {W : World} {R : Ending → World → Prop} (h : YieldAt Fence.wide m P l args W R) : YieldAt Fence.wide m' P l args W R := by
  obtain ⟨fn, tmps, assign, body, h1, h2, h3⟩ := h
  exact ⟨fn, tmps, assign, body, h1, h2, fun c cs _ => h3 c cs (room_wide _)⟩
theorem results_cc12 {fn : Func} {s p : Tmp} {t0 t1 : TypeId} (h : fn.results = #[.cell s t0, .cell p t1]) (tmps : Array Value) (P : Program) (w : World) (g0 g1 : Nat) (y0 y1 : Value) (T0 T1 : TypeId)
    (hs : tmps.getD s undef = .pointer (some ⟨g0, 0, none⟩)) (hp : tmps.getD p undef = .pointer (some ⟨g1, 0, none⟩))
    (i0 : Is w g0 T0 #[y0]) (i1 : Is w g1 T1 #[y1]) (a0 : (isAgg t0).run P w = .ok false w) (a1 : (isAgg t1).run P w = .ok false w) :
    (results fn tmps).run P w = .ok (.tuple #[y0, y1]) w := by
  have e : (results fn tmps).run P w = ((asAddr (tmps.getD s undef)).run P w).andThen fun b w0 => ((loadVar t0 b).run P w0).andThen fun v0 w1 => ((asAddr (tmps.getD p undef)).run P w1).andThen fun b w2 => ((loadVar t1 b).run P w2).andThen fun v1 w3 => .ok (.tuple #[v0, v1]) w3 := by
    simp only [results, h]
    simp [Sem.run_bind, Result.andThen]
  have c0 := i0.cell 0
  have c1 := i1.cell 0
  have l0 : (loadVar t0 ⟨g0, 0, none⟩).run P w = .ok y0 w := by
    simp only [loadVar, Sem.run_bind, a0, Result.andThen_ok]
    simp [go_sem, c0]
  have l1 : (loadVar t1 ⟨g1, 0, none⟩).run P w = .ok y1 w := by
    simp only [loadVar, Sem.run_bind, a1, Result.andThen_ok]
    simp [go_sem, c1]
  rw [e, hs, hp]
  simp [asAddr, l0, l1]
theorem isOwn12 {B : Nat} {g : Nat} {t : TypeId} {cs : Array Value} {X Y : World} {row : Option Nat} (h : Is X g t cs) (hg : X.grownBy Y row) (hr : ∀ r, row = some r → B ≤ r ∧ ∃ o : Obj, X.heap[r]? = some o ∧ o.isCells = false) : Is Y g t cs :=
  (grownBy_keeps_cells hg (fun r e => (hr r e).2) h rfl).trans h
theorem belowOwn12 {n B : Nat} {w X Y : World} {row : Option Nat} (h : Below n w X) (hx : n ≤ X.heap.size) (hn : n ≤ B) (hg : X.grownBy Y row) (hr : ∀ r, row = some r → B ≤ r ∧ ∃ o : Obj, X.heap[r]? = some o ∧ o.isCells = false) : Below n w Y :=
  h.grown hg hx (fun k e => Nat.le_trans hn (hr k e).1)
theorem all_miss12 {α : Type} {p : α → Bool} {l : List α} {i : Nat} {x : α} (hx : l[i]? = some x) (hp : p x = false) : l.all p = false := by
  rw [List.all_eq_false]
  exact ⟨x, List.mem_of_getElem? hx, by rw [hp]; decide⟩
structure All12 {α : Type} (p : α → Bool) (l : List α) : Prop where
  out : l.all p = true
structure Not12 {α : Type} (p : α → Bool) (l : List α) : Prop where
  out : l.all p = false
theorem dfr12 {B : Nat} {X Y : World} {row : Option Nat} {D : Nat} {o : Obj} (h : X.heap[D]? = some o) (hD : D < B) (hg : X.grownBy Y row) (hr : ∀ r, row = some r → B ≤ r ∧ ∃ o : Obj, X.heap[r]? = some o ∧ o.isCells = false) : Y.heap[D]? = some o :=
  (hg.block D (Array.getElem?_eq_some_iff.1 h).1 (fun e => by have := (hr D e.symm).1; omega)).trans h
theorem results_c12 {fn : Func} {s : Tmp} {t0 : TypeId} (h : fn.results = #[.cell s t0]) (tmps : Array Value) (P : Program) (w : World) (g0 : Nat) (y0 : Value) (T0 : TypeId)
    (hs : tmps.getD s undef = .pointer (some ⟨g0, 0, none⟩)) (i0 : Is w g0 T0 #[y0]) (a0 : (isAgg t0).run P w = .ok false w) :
    (results fn tmps).run P w = .ok y0 w := by
  have e : (results fn tmps).run P w = ((asAddr (tmps.getD s undef)).run P w).andThen fun b w0 => (loadVar t0 b).run P w0 := by
    simp only [results, h]
    simp [Sem.run_bind, Result.andThen]
  have c0 := i0.cell 0
  have l0 : (loadVar t0 ⟨g0, 0, none⟩).run P w = .ok y0 w := by
    simp only [loadVar, Sem.run_bind, a0, Result.andThen_ok]
    simp [go_sem, c0]
  rw [e, hs]
  simp [asAddr, l0]
section
variable {P : Program} {w : World} {o : Oper} {a : Act} {Q : Exit → Act → World → Prop} {K : Act → World → Prop}
variable {md : Region.Mode} {ops : Array Oper} {S : World → Prop} {fuel i : Nat} {listed : Array Bool}
theorem wp_copyV12 (s x : Operand) (t e : TypeId) (i0 : TypeInfo) (z : Value) (size bytes : Nat)
    (ho : o.op = .call { callee := .builtin .append, args := #[s, x], argTypes := #[t, t] }) (ht : P.underlying t = some (.slice e)) (hi : P.info? e = some i0) (hz : i0.zero = some z) (hz1 : i0.size = size) (hz2 : i0.bytes = bytes) (hzs : z.cells.size = size) (hpos : 0 < size)
    (A : Option Addr) (cap n : Nat) (xs : List Value) (hl : xs.length = n * size) (h1 : ∀ u ∈ xs, u.oneCell' = true) (hc : InV w A xs) (hn : A = none → cap = 0) (hm : n ≤ maxLen) (hby : n * bytes ≤ 140737488355328)
    (hs : a.eval s = .slice none 0 0 ∧ a.eval x = .slice A n cap) (base : Nat) (hb : base ≤ w.heap.size)
    (h : ∀ A' c' w', RowV w' base e size A' c' n xs → Below w.heap.size w w' → K (a.put o.dst (.slice A' n c')) w') : o.wp P a w K Q := by
  cases A with
  | none =>
    obtain rfl : xs = [] := hc.nil_of
    obtain rfl : cap = 0 := hn rfl
    obtain rfl : n = 0 := by
      rcases Nat.eq_zero_or_pos n with h0 | h0
      · exact h0
      · have := Nat.mul_pos h0 hpos
        rw [← hl] at this
        cases this
    have hrun := run_append_owned_none (P := P) (w := w) base t o.type e i0 size ht hi (.slice none 0 0) 0 [] (World.ownsRow_nil _ _ _ _)
    unfold Oper.wp
    simp [execOp, ho, resolve, invoke, builtin, hs.1, hs.2, hrun, Result.andThen]
    exact h none 0 w (World.ownsRow_nil _ _ _ _) (Below.refl _ _)
  | some p =>
    refine wp_append_own w s x t ho base e i0 z size bytes ht hi hz hz1 hz2 hzs hpos (.slice none 0 0) 0 [] hs.1 (World.ownsRow_nil _ _ _ _) p n cap xs hs.2 hl (fun j u hj => ?_) h1 (by omega) (by rw [Nat.zero_add]; exact hby) hb ?_
    · obtain ⟨b, off, e2, _, h2⟩ := hc j u hj
      cases e2
      rw [Addr.add_lit]
      exact h2
    · intro v' w1 hown hgrow _
      obtain ⟨A', c', rfl⟩ := owns_sliceG hown
      rw [Nat.zero_add] at hown ⊢
      exact h A' c' w1 hown ((Below.refl _ w).grown hgrow (Nat.le_refl _) (fun k e => by cases e))
end
section
variable {P : Program} {w : World} {o : Oper} {a : Act} {Q : Exit → Act → World → Prop} {K : Act → World → Prop}
variable {md : Region.Mode} {ops : Array Oper} {S : World → Prop} {fuel i : Nat} {listed : Array Bool}
theorem wp_moreV12 (s x : Operand) (t e : TypeId) (i0 : TypeInfo) (z : Value) (size bytes : Nat)
    (ho : o.op = .call { callee := .builtin .append, args := #[s, x], argTypes := #[t, t] }) (ht : P.underlying t = some (.slice e)) (hi : P.info? e = some i0) (hz : i0.zero = some z) (hz1 : i0.size = size) (hz2 : i0.bytes = bytes) (hzs : z.cells.size = size) (hpos : 0 < size)
    (base : Nat) (A : Option Addr) (c n : Nat) (xs : List Value) (hO : RowV w base e size A c n xs) (B : Option Addr) (cap m : Nat) (ys : List Value) (hl : ys.length = m * size) (h1 : ∀ u ∈ ys, u.oneCell' = true) (hc : InV w B ys) (hn : B = none → m = 0 ∧ cap = 0) (hm : n + m ≤ maxLen) (hby : (n + m) * bytes ≤ 140737488355328)
    (hs : a.eval s = .slice A n c ∧ a.eval x = .slice B m cap) (hb : base ≤ w.heap.size)
    (h : ∀ A' c' w', RowV w' base e size A' c' (n + m) (xs ++ ys) → w.grownBy w' (Value.slice A n c).ownBlock → K (a.put o.dst (.slice A' (n + m) c')) w') : o.wp P a w K Q := by
  cases B with
  | none =>
    obtain ⟨rfl, rfl⟩ := hn rfl
    obtain rfl : ys = [] := hc.nil_of
    have hrun := run_append_owned_none (P := P) (w := w) base t o.type e i0 size ht hi (.slice A n c) n xs hO
    unfold Oper.wp
    simp [execOp, ho, resolve, invoke, builtin, hs.1, hs.2, hrun, Result.andThen]
    exact h A c w (by rw [List.append_nil]; exact hO) ⟨rfl, rfl, rfl, Nat.le_refl _, fun _ _ _ => rfl⟩
  | some p =>
    refine wp_append_own w s x t ho base e i0 z size bytes ht hi hz hz1 hz2 hzs hpos (.slice A n c) n xs hs.1 hO p m cap ys hs.2 hl (fun j u hj => ?_) h1 hm hby hb ?_
    · obtain ⟨b, off, e2, _, h2⟩ := hc j u hj
      cases e2
      rw [Addr.add_lit]
      exact h2
    · intro v' w1 hown hgrow _
      obtain ⟨A', c', rfl⟩ := owns_sliceG hown
      exact h A' c' w1 hown hgrow
end
section
variable {P : Program} {w : World} {o : Oper} {a : Act} {Q : Exit → Act → World → Prop} {K : Act → World → Prop}
variable {md : Region.Mode} {ops : Array Oper} {S : World → Prop} {fuel i : Nat} {listed : Array Bool}
theorem arm_copyV12 (hw : Region.wanted o (yielded ops a.tmps) = true) (s x : Operand) (t e : TypeId) (i0 : TypeInfo) (z : Value) (size bytes : Nat)
    (ho : o.op = .call { callee := .builtin .append, args := #[s, x], argTypes := #[t, t] }) (ht : P.underlying t = some (.slice e)) (hi : P.info? e = some i0) (hz : i0.zero = some z) (hz1 : i0.size = size) (hz2 : i0.bytes = bytes) (hzs : z.cells.size = size) (hpos : 0 < size)
    (A : Option Addr) (cap n : Nat) (xs : List Value) (hl : xs.length = n * size) (h1 : ∀ u ∈ xs, u.oneCell' = true) (hc : InV w A xs) (hn : A = none → cap = 0) (hm : n ≤ maxLen) (hby : n * bytes ≤ 140737488355328)
    (hs : a.eval s = .slice none 0 0 ∧ a.eval x = .slice A n cap) (base : Nat) (hb : base ≤ w.heap.size)
    (h : ∀ A' c' w', RowV w' base e size A' c' n xs → Below w.heap.size w w' → S w' ∧ wpAnyH P md ops Q S fuel (listed.setIfInBounds i true) (a.put o.dst (.slice A' n c')) w') :
    ∀ K' : Act → World → Prop, Shut (∀ a w, S w → (S w → wpAnyH P md ops Q S fuel (listed.setIfInBounds i true) a w) → K' a w) → if Region.wanted o (yielded ops a.tmps) = true then Oper.wp P o a w K' Q else K' (a.put o.dst undef) w := fun K' hK => by
  rw [if_pos hw]
  exact wp_copyV12 s x t e i0 z size bytes ho ht hi hz hz1 hz2 hzs hpos A cap n xs hl h1 hc hn hm hby hs base hb (fun A' c' w' hr' hb' => hK.out _ _ (h A' c' w' hr' hb').1 fun _ => (h A' c' w' hr' hb').2)
end
section
variable {P : Program} {w : World} {o : Oper} {a : Act} {Q : Exit → Act → World → Prop} {K : Act → World → Prop}
variable {md : Region.Mode} {ops : Array Oper} {S : World → Prop} {fuel i : Nat} {listed : Array Bool}
theorem arm_moreV12 (hw : Region.wanted o (yielded ops a.tmps) = true) (s x : Operand) (t e : TypeId) (i0 : TypeInfo) (z : Value) (size bytes : Nat)
    (ho : o.op = .call { callee := .builtin .append, args := #[s, x], argTypes := #[t, t] }) (ht : P.underlying t = some (.slice e)) (hi : P.info? e = some i0) (hz : i0.zero = some z) (hz1 : i0.size = size) (hz2 : i0.bytes = bytes) (hzs : z.cells.size = size) (hpos : 0 < size)
    (base : Nat) (A : Option Addr) (c n : Nat) (xs : List Value) (hO : RowV w base e size A c n xs) (B : Option Addr) (cap m : Nat) (ys : List Value) (hl : ys.length = m * size) (h1 : ∀ u ∈ ys, u.oneCell' = true) (hc : InV w B ys) (hn : B = none → m = 0 ∧ cap = 0) (hm : n + m ≤ maxLen) (hby : (n + m) * bytes ≤ 140737488355328)
    (hs : a.eval s = .slice A n c ∧ a.eval x = .slice B m cap) (hb : base ≤ w.heap.size)
    (h : ∀ A' c' w', RowV w' base e size A' c' (n + m) (xs ++ ys) → w.grownBy w' (Value.slice A n c).ownBlock → S w' ∧ wpAnyH P md ops Q S fuel (listed.setIfInBounds i true) (a.put o.dst (.slice A' (n + m) c')) w') :
    ∀ K' : Act → World → Prop, Shut (∀ a w, S w → (S w → wpAnyH P md ops Q S fuel (listed.setIfInBounds i true) a w) → K' a w) → if Region.wanted o (yielded ops a.tmps) = true then Oper.wp P o a w K' Q else K' (a.put o.dst undef) w := fun K' hK => by
  rw [if_pos hw]
  exact wp_moreV12 s x t e i0 z size bytes ho ht hi hz hz1 hz2 hzs hpos base A c n xs hO B cap m ys hl h1 hc hn hm hby hs hb (fun A' c' w' hr' hg' => hK.out _ _ (h A' c' w' hr' hg').1 fun _ => (h A' c' w' hr' hg').2)
end
theorem add_zero12 (p : Addr) : p.add 0 = p := by
  simp [Addr.add]
theorem InV.take12 {W : World} {A : Option Addr} {vs : List Value} (h : InV W A vs) (k : Nat) : InV W A (vs.take k) := fun j u hj => by
  rw [List.getElem?_take] at hj
  split at hj
  · exact h j u hj
  · cases hj
/-- a region that draws its order, in a round: as elsewhere. -/
theorem rowsIn_of12 {n l : Nat} {P : Program} {row : String} {args : Array Value} {w : World} {R : Value → World → Prop} (h : Rows P row args w R) : RowsIn (Fence.wide.inRound l) n P row args w R :=
  fun c cs _ => let ⟨v, w', r, s⟩ := h c cs; ⟨v, w', r, stepsIn_wide.2 s⟩
theorem operIn_of12 {n l : Nat} {P : Program} {o : Oper} {a : Act} {w : World} {K : Act → World → Prop} {Q : Exit → Act → World → Prop} (hd : ∀ c, o.op ≠ .defer c) (h : o.wp P a w K Q) : o.wpIn (Fence.wide.inRound l) n P a w K Q := by
  refine ⟨fun _ _ => trivial, ?_⟩
  rw [Oper.semAt_plain _ _ _ hd]
  unfold Oper.wp at h
  generalize (execOp a.eval o).run P w = r at *
  cases r with
  | ok x w' =>
    cases x <;> simp only [Oper.upon, Oper.uponIn] at h ⊢ <;> first
      | exact h
      | exact h.elim
      | exact ⟨fun e => absurd e (by simp [Fence.wide]), callsIn_round12 h⟩
      | exact ⟨fun e => absurd e (by simp [Fence.wide]), rowsIn_of12 h⟩
  | halt x w' => cases x <;> simp only [Oper.upon, Oper.uponIn] at h ⊢ <;> exact h
theorem anyIn_of12 {n l : Nat} {P : Program} {md : Region.Mode} {ops : Array Oper} {Q : Exit → Act → World → Prop} (hd : ∀ (i : Nat) (o : Oper), ops[i]? = some o → ∀ c, o.op ≠ .defer c) (hQ : ¬ LetsOut Q) :
    ∀ (fuel : Nat) (listed : Array Bool) (a : Act) (w : World), wpAny P md ops Q fuel listed a w → wpAnyIn (Fence.wide.inRound l) n P md ops Q fuel listed a w
  | 0, _, _, _, h => h
  | fuel + 1, listed, a, w, h => ⟨h.1, fun i hi => by
    have h2 := h.2 i hi
    unfold wpOp at h2
    unfold wpOpIn
    cases ho : ops[i]? with
    | none => rw [ho] at h2; exact anyIn_of12 hd hQ fuel _ a w h2
    | some o =>
      rw [ho] at h2
      simp only [] at h2 ⊢
      split
      · rename_i hw
        rw [if_pos hw] at h2
        rcases h2 with h2 | h2
        · exact Oper.wpIn_mono (fun a w => anyIn_of12 hd hQ fuel _ a w) (operIn_of12 (hd i o ho) h2)
        · exact absurd h2.2 hQ
      · rename_i hw
        rw [if_neg hw] at h2
        exact ⟨fun _ _ => trivial, anyIn_of12 hd hQ fuel _ _ w h2⟩⟩
/-- none defers. -/
def noDefer12 (ops : Array Oper) : Bool := ops.all fun o => match o.op with | .defer _ => false | _ => true
theorem noDefer_out12 {ops : Array Oper} (h : noDefer12 ops = true) (i : Nat) (o : Oper) (ho : ops[i]? = some o) : ∀ c, o.op ≠ .defer c := fun c e => by
  obtain ⟨h1, h2⟩ := Array.getElem?_eq_some_iff.1 ho
  have := (Array.all_eq_true.1 h) i h1
  rw [h2, e] at this
  cases this
theorem regIn_of12 {n l id : Nat} {P : Program} {ops : Array Oper} {Q : Exit → Act → World → Prop} {S : World → Prop} {a : Act} {w : World} (hm : P.follows .mixedOrders = true) (hd : noDefer12 ops = true) (hQ : ¬ LetsOut Q)
    (h : wpAnyH P .any ops Q S ops.size (Array.replicate ops.size false) a { w with drawn := w.drawn + 1 }) : (Code.region id ops true).wpIn (Fence.wide.inRound l) n P Q a w :=
  wpIn_region_any hm (anyIn_of12 (noDefer_out12 hd) hQ _ _ _ _ (wpAny_of_held _ _ _ _ h))
end Go.Proofs.Ytglcckpkbnppoaa
