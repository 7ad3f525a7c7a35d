/-
  Layer 8: a list behind a row of one's own, where the order is drawn; the first three things of a list. Nothing of the program stands here.
-/
import Derived.Test.YtdbdoammbnogaaaIdx2
import Derived.Test.YtdbdoammbnogaaaGTc
import Derived.Lib.MinMax
namespace Go.Proofs.Ytdbdoammbnogaaa
open Go.RowKit Go.Shelf

section
variable {P : Program} {w : World} {o : Oper} {a : Act} {Q : Exit → Act → World → Prop} {K : Act → World → Prop}
theorem wp_moreV (s x : Operand) (t e : TypeId) (i0 : TypeInfo) (z : Value) (size bytes : Nat)
    (ho : o.op = .call { callee := .builtin .append, args := #[s, x], argTypes := #[t, t] }) (ht : P.underlying t = some (.slice e)) (hi : P.info? e = some i0) (hz : i0.zero = some z) (hz1 : i0.size = size) (hz2 : i0.bytes = bytes) (hzs : z.cells.size = size) (hpos : 0 < size)
    (base : Nat) (A : Option Addr) (c n : Nat) (xs : List Value) (hO : RowV w base e size A c n xs) (B : Option Addr) (cap m : Nat) (ys : List Value) (hl : ys.length = m * size) (h1 : ∀ u ∈ ys, u.oneCell' = true) (hc : InV w B ys) (hn : B = none → m = 0 ∧ cap = 0) (hm : n + m ≤ maxLen) (hby : (n + m) * bytes ≤ 140737488355328)
    (hs : a.eval s = .slice A n c ∧ a.eval x = .slice B m cap) (hb : base ≤ w.heap.size)
    (h : ∀ A' c' w', RowV w' base e size A' c' (n + m) (xs ++ ys) → w.grownBy w' (Value.slice A n c).ownBlock → K (a.put o.dst (.slice A' (n + m) c')) w') : o.wp P a w K Q := by
  cases B with
  | none =>
    obtain ⟨rfl, rfl⟩ := hn rfl
    obtain rfl : ys = [] := hc.nil_of
    have hrun := run_append_owned_none (P := P) (w := w) base t o.type e i0 size ht hi (.slice A n c) n xs hO
    unfold Oper.wp
    simp [execOp, ho, resolve, invoke, builtin, hs.1, hs.2, hrun, Result.andThen]
    exact h A c w (by rw [List.append_nil]; exact hO) ⟨rfl, rfl, rfl, Nat.le_refl _, fun _ _ _ => rfl⟩
  | some p =>
    refine wp_append_own w s x t ho base e i0 z size bytes ht hi hz hz1 hz2 hzs hpos (.slice A n c) n xs hs.1 hO p m cap ys hs.2 hl (fun j u hj => ?_) h1 hm hby hb ?_
    · obtain ⟨b, off, e2, _, h2⟩ := hc j u hj
      cases e2
      rw [Addr.add_lit]
      exact h2
    · intro v' w1 hown hgrow _
      obtain ⟨A', c', rfl⟩ := owns_sliceG hown
      exact h A' c' w1 hown hgrow
variable {md : Region.Mode} {ops : Array Oper} {S : World → Prop} {fuel i : Nat} {listed : Array Bool}
theorem arm_copyV (hw : Region.wanted o (yielded ops a.tmps) = true) (s x : Operand) (t e : TypeId) (i0 : TypeInfo) (z : Value) (size bytes : Nat)
    (ho : o.op = .call { callee := .builtin .append, args := #[s, x], argTypes := #[t, t] }) (ht : P.underlying t = some (.slice e)) (hi : P.info? e = some i0) (hz : i0.zero = some z) (hz1 : i0.size = size) (hz2 : i0.bytes = bytes) (hzs : z.cells.size = size) (hpos : 0 < size)
    (A : Option Addr) (cap n : Nat) (xs : List Value) (hl : xs.length = n * size) (h1 : ∀ u ∈ xs, u.oneCell' = true) (hc : InV w A xs) (hn : A = none → cap = 0) (hm : n ≤ maxLen) (hby : n * bytes ≤ 140737488355328)
    (hs : a.eval s = .slice none 0 0 ∧ a.eval x = .slice A n cap) (base : Nat) (hb : base ≤ w.heap.size)
    (h : ∀ A' c' w', RowV w' base e size A' c' n xs → Below w.heap.size w w' → S w' ∧ wpAnyH P md ops Q S fuel (listed.setIfInBounds i true) (a.put o.dst (.slice A' n c')) w') :
    ∀ K' : Act → World → Prop, Shut (∀ a w, S w → (S w → wpAnyH P md ops Q S fuel (listed.setIfInBounds i true) a w) → K' a w) → if Region.wanted o (yielded ops a.tmps) = true then Oper.wp P o a w K' Q else K' (a.put o.dst undef) w := fun K' hK => by
  rw [if_pos hw]
  exact wp_copyV s x t e i0 z size bytes ho ht hi hz hz1 hz2 hzs hpos A cap n xs hl h1 hc hn hm hby hs base hb (fun A' c' w' hr' hb' => hK.out _ _ (h A' c' w' hr' hb').1 fun _ => (h A' c' w' hr' hb').2)
theorem arm_moreV (hw : Region.wanted o (yielded ops a.tmps) = true) (s x : Operand) (t e : TypeId) (i0 : TypeInfo) (z : Value) (size bytes : Nat)
    (ho : o.op = .call { callee := .builtin .append, args := #[s, x], argTypes := #[t, t] }) (ht : P.underlying t = some (.slice e)) (hi : P.info? e = some i0) (hz : i0.zero = some z) (hz1 : i0.size = size) (hz2 : i0.bytes = bytes) (hzs : z.cells.size = size) (hpos : 0 < size)
    (base : Nat) (A : Option Addr) (c n : Nat) (xs : List Value) (hO : RowV w base e size A c n xs) (B : Option Addr) (cap m : Nat) (ys : List Value) (hl : ys.length = m * size) (h1 : ∀ u ∈ ys, u.oneCell' = true) (hc : InV w B ys) (hn : B = none → m = 0 ∧ cap = 0) (hm : n + m ≤ maxLen) (hby : (n + m) * bytes ≤ 140737488355328)
    (hs : a.eval s = .slice A n c ∧ a.eval x = .slice B m cap) (hb : base ≤ w.heap.size)
    (h : ∀ A' c' w', RowV w' base e size A' c' (n + m) (xs ++ ys) → w.grownBy w' (Value.slice A n c).ownBlock → S w' ∧ wpAnyH P md ops Q S fuel (listed.setIfInBounds i true) (a.put o.dst (.slice A' (n + m) c')) w') :
    ∀ K' : Act → World → Prop, Shut (∀ a w, S w → (S w → wpAnyH P md ops Q S fuel (listed.setIfInBounds i true) a w) → K' a w) → if Region.wanted o (yielded ops a.tmps) = true then Oper.wp P o a w K' Q else K' (a.put o.dst undef) w := fun K' hK => by
  rw [if_pos hw]
  exact wp_moreV s x t e i0 z size bytes ho ht hi hz hz1 hz2 hzs hpos base A c n xs hO B cap m ys hl h1 hc hn hm hby hs hb (fun A' c' w' hr' hg' => hK.out _ _ (h A' c' w' hr' hg').1 fun _ => (h A' c' w' hr' hg').2)
end
theorem add_zero8 (p : Addr) : p.add 0 = p := by
  simp [Addr.add]
/-- the first three of a list, or all. -/
theorem slice3_run {P : Program} {t : TypeId} {k : Nat} (ht : P.underlying t = some (.slice (P.elem t))) (hk : ∀ w, (sizeOf (P.elem t)).run P w = .ok k w) (A : Option Addr) (n cap : Nat) (hc : n ≤ cap) (w : World) :
    (Instr.slice t (.slice A n cap) none (some (.int .i64 (min (n : Int) 3))) none).run P w = .ok (.slice A (min n 3) cap) w := by
  rw [run_slice_h w t A n cap ht .i64 (min (n : Int) 3) (by omega) (by omega)]
  simp only [hk, Result.andThen_ok, sliced, Nat.zero_mul, Nat.sub_zero]
  rw [show (min (n : Int) 3).toNat = min n 3 by omega]
  cases A with
  | none => simp
  | some p => simp [add_zero8]
theorem InV.take {W : World} {A : Option Addr} {vs : List Value} (h : InV W A vs) (k : Nat) : InV W A (vs.take k) := fun j u hj => by
  rw [List.getElem?_take] at hj
  split at hj
  · exact h j u hj
  · cases hj
theorem flN_take (N : List Nam8) : ∀ k, flN (N.take k) = (flN N).take (k * 2) := by
  induction N with
  | nil => intro k; simp [flN]
  | cons x r ih =>
    intro k
    cases k with
    | zero => simp [flN]
    | succ k =>
      have := ih k
      simp only [flN] at this
      simp only [flN, List.take_succ_cons, List.flatMap_cons, this]
      rw [show (k + 1) * 2 = k * 2 + 2 by omega]
      rfl
theorem flK_take (N : List Cel8) : ∀ k, flK (N.take k) = (flK N).take (k * 3) := by
  induction N with
  | nil => intro k; simp [flK]
  | cons x r ih =>
    intro k
    cases k with
    | zero => simp [flK]
    | succ k =>
      have := ih k
      simp only [flK] at this
      simp only [flK, List.take_succ_cons, List.flatMap_cons, this]
      rw [show (k + 1) * 3 = k * 3 + 3 by omega]
      rfl
theorem flN_app (N M : List Nam8) : flN (N ++ M) = flN N ++ flN M := by simp [flN]
theorem flK_app (N M : List Cel8) : flK (N ++ M) = flK N ++ flK M := by simp [flK]
/-- an ideal that came in: its lists may be long. -/
structure Odd8 (W : World) (d : Ide) (A : Option Addr) (c : Nat) (A' : Option Addr) (c' : Nat) : Prop where
  n : InV W A (flN d.N)
  k : InV W A' (flK d.K)
  nil : A = none → c = 0
  nilK : A' = none → c' = 0
  cap : d.N.length ≤ c
  capK : d.K.length ≤ c'
theorem Odd8.keep {W W' : World} {d : Ide} {A : Option Addr} {c : Nat} {A' : Option Addr} {c' : Nat} (h : Odd8 W d A c A' c') (hb : Below W.heap.size W W') : Odd8 W' d A c A' c' :=
  ⟨h.n.keep hb, h.k.keep hb, h.nil, h.nilK, h.cap, h.capK⟩
end Go.Proofs.Ytdbdoammbnogaaa
