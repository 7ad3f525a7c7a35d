/-
  BucketOrders: rows of numbers, cut and put together; what stays where one box is written into.
-/
import Derived.Test.YtglcckpkbnppoaaBuzD
import Derived.Test.YtglcckpkbnppoaaBuzE
import Derived.Test.YtglcckpkbnppoaaGBr1
namespace Go.Proofs.Ytglcckpkbnppoaa
open Go.RowKit Go.Shelf

/-- a part of a row, from a place on. -/
theorem InV.drop12 {W : World} {A : Option Addr} {xs : List Value} (h : InV W A xs) {n c K size : Nat} (hl : xs.length = n * size) (hn : n ≤ c) : InV W (if c = K then A else A.map (·.add (K * size))) (xs.drop (K * size)) := fun j u hj => by
  rw [List.getElem?_drop] at hj
  have hlt := (List.getElem?_eq_some_iff.1 hj).1
  obtain ⟨b, off, rfl, hb, hc⟩ := h _ u hj
  have hK : K * size < n * size := by omega
  have hK2 : K < n := Nat.lt_of_mul_lt_mul_right hK
  rw [if_neg (by omega)]
  refine ⟨b, off + K * size, congrArg some (Addr.add_lit _ _ _), hb, ?_⟩
  rw [← hc, Nat.add_assoc]
theorem RowV.nil12 {W : World} {base : Nat} {e : TypeId} {size : Nat} {A : Option Addr} {c n : Nat} {xs : List Value} (h : RowV W base e size A c n xs) : (A = none → c = 0) ∧ n ≤ c := by
  obtain ⟨_, ⟨h1, h2⟩ | ⟨g, cap, cur, h1, _, _, h3, _⟩⟩ := h
  · cases h1; exact ⟨fun _ => rfl, by omega⟩
  · cases h1; exact ⟨fun e => absurd e (by simp), h3⟩
theorem RowV.nilDrop12 {W : World} {base : Nat} {e : TypeId} {size : Nat} {A : Option Addr} {c n : Nat} {xs : List Value} (h : RowV W base e size A c n xs) (K s : Nat) (hn : (if c = K then A else A.map (·.add (K * s))) = none) : c - K = 0 := by
  split at hn
  · omega
  · have := h.nil12.1 (Option.map_eq_none_iff.1 hn)
    omega
/-- a row stays where a box of another kind is written into. -/
theorem RowV.grown12 {W W' : World} {base : Nat} {e : TypeId} {size : Nat} {A : Option Addr} {c n : Nat} {xs : List Value} (h : RowV W base e size A c n xs) {D : Nat} {t : TypeId} {cs : Array Value} (i : Is W D t cs) (ht : t ≠ e) (hg : W.grownBy W' (some D)) : RowV W' base e size A c n xs := by
  obtain ⟨hl, ⟨h1, h2⟩ | ⟨g, cap, cur, h1, hb, h2, h3⟩⟩ := h
  · exact ⟨hl, .inl ⟨h1, h2⟩⟩
  · refine ⟨hl, .inr ⟨g, cap, cur, h1, hb, ?_, h3⟩⟩
    have hne : g ≠ D := by
      rintro rfl
      have i : W.heap[g]? = some (.cells cs t (0, 0)) := i
      rw [h2] at i
      cases i
      exact ht rfl
    rw [hg.block g (Array.getElem?_eq_some_iff.1 h2).1 (fun e => hne (Option.some.inj e))]
    exact h2
theorem InS.grown12 {W W' : World} {s : Sto12} {A : Option Addr} {c D : Nat} {v0 v1 v2 : Value} (h : InS W s A c) (i : Is W D 31 #[v0, v1, v2]) (hg : W.grownBy W' (some D)) (h1 : ∀ b, v1 ≠ .string b := by simp) (h2 : ∀ b, v2 ≠ .string b := by simp) : InS W' s A c := by
  refine ⟨fun j u hj => ?_, h.nil, h.cap, h.fit⟩
  obtain ⟨b, off, rfl, hb, hc⟩ := h.b j u hj
  have hne : b ≠ D := by
    rintro rfl
    have hlen : 1 < (flB s.B).length := by
      rw [flB_len]
      have := (List.getElem?_eq_some_iff.1 hj).1
      rw [flB_len] at this
      omega
    cases hB : s.B with
    | nil => rw [hB] at hlen; exact absurd hlen (by decide)
    | cons x r =>
      obtain ⟨b2, off2, e, _, hc2⟩ := h.b 1 (.string x.l) (by rw [hB]; rfl)
      cases e
      rw [i.cell] at hc2
      have : off + 1 < 3 := by
        have := (Array.getElem?_eq_some_iff.1 hc2).1
        simpa using this
      rcases (by omega : off = 0 ∨ off = 1) with rfl | rfl
      · exact h1 x.l (by simpa using hc2)
      · exact h2 x.l (by simpa using hc2)
  refine ⟨b, off, rfl, Nat.lt_of_lt_of_le hb hg.size, ?_⟩
  rw [← hc]
  simp only [World.cell?, hg.block b hb (fun e => hne (Option.some.inj e))]
theorem Is.grown12 {W W' : World} {D g : Nat} {t : TypeId} {cs : Array Value} (i : Is W g t cs) (hg : W.grownBy W' (some D)) (hne : g ≠ D) : Is W' g t cs := by
  have h : W.heap[g]? = some (.cells cs t (0, 0)) := i
  exact (hg.block g (Array.getElem?_eq_some_iff.1 h).1 (fun e => hne (Option.some.inj e))).trans h
theorem cell_grown12 {W W' : World} {D : Nat} (hg : W.grownBy W' (some D)) {p : Addr} {v : Value} (h : W.cell? p = some v) (hp : p.block < W.heap.size) (hne : p.block ≠ D) : W'.cell? p = some v := by
  rw [← h]
  simp only [World.cell?, hg.block _ hp (fun e => hne (Option.some.inj e))]
theorem grown_setR12 {A B : World} {g : Nat} (h : A.grownBy B (some g)) (v : Array Value) : A.grownBy (B.setRow g v) (some g) :=
  ⟨h.os, h.tape, h.output, by have := h.size; simpa using this, fun i hi hne => (setRow_other B g i v (fun e => hne (by rw [e]))).trans (h.block i hi hne)⟩
theorem Below.grownB12 {B : Nat} {w W W' : World} (h : Below B w W) (hB : B ≤ W.heap.size) {D : Nat} (hg : W.grownBy W' (some D)) (hD : B ≤ D) : Below B w W' := h.grown hg hB (fun k e => by have := Option.some.inj e; omega)
/-- where a number of a row of one's own lies; not in a box of another kind. -/
theorem RowV.num12 {W : World} {base : Nat} {A : Option Addr} {c n : Nat} {R : List Int} (h : RowV W base 3 1 A c n (iV12 R)) {k : Nat} {x : Int} (hk : R[k]? = some x) : ∃ b off, A = some ⟨b, off, none⟩ ∧ b < W.heap.size ∧ W.cell? ⟨b, off + k, none⟩ = some (.int .i64 x) :=
  h.inV.num12 hk
theorem RowV.far12 {W : World} {base : Nat} {e : TypeId} {size b off : Nat} {c n : Nat} {xs : List Value} (h : RowV W base e size (some ⟨b, off, none⟩) c n xs) {D : Nat} {t : TypeId} {cs : Array Value} (i : Is W D t cs) (ht : t ≠ e) : b ≠ D := by
  rintro rfl
  obtain ⟨hl, ⟨h1, _⟩ | ⟨g, cap, cur, h1, _, h2, _⟩⟩ := h
  · cases h1
  · cases h1
    have i : W.heap[b]? = some (.cells cs t (0, 0)) := i
    rw [h2] at i
    cases i
    exact ht rfl
theorem RowV.own12 {W : World} {base : Nat} {e : TypeId} {size : Nat} {A : Option Addr} {c n : Nat} {xs : List Value} (h : RowV W base e size A c n xs) : ∀ k, (Value.slice A n c).ownBlock = some k → base ≤ k := fun k hk => by
  obtain ⟨_, ⟨h1, _⟩ | ⟨g, cap, cur, h1, hb, _⟩⟩ := h
  · cases h1; exact absurd hk (by simp [Value.ownBlock])
  · cases h1; cases hk; exact hb
theorem RowV.belowK {W W' : World} {base : Nat} {e : TypeId} {size : Nat} {A : Option Addr} {c n : Nat} {xs : List Value} (h : RowV W base e size A c n xs) (hb : Below W.heap.size W W') : RowV W' base e size A c n xs := by
  obtain ⟨hl, ⟨h1, h2⟩ | ⟨g, cap, cur, h1, hbs, h2, h3⟩⟩ := h
  · exact ⟨hl, .inl ⟨h1, h2⟩⟩
  · exact ⟨hl, .inr ⟨g, cap, cur, h1, hbs, (hb.block g (Array.getElem?_eq_some_iff.1 h2).1).trans h2, h3⟩⟩
theorem inV_new12 (W : World) (z : Int) : InV (W.alloc (.cells #[.int .i64 z] 3)) (some ⟨W.heap.size, 0, none⟩) [.int .i64 z] := fun j u hj => by
  have i := Is.new W 3 #[.int .i64 z]
  obtain ⟨h1, h2⟩ := List.getElem?_eq_some_iff.1 hj
  have : j = 0 := by simp at h1; omega
  subst this
  cases hj
  exact ⟨_, _, rfl, by simp, i.cell 0⟩
/-! ### Slices of slices -/
theorem run_from12 (A : Option Addr) (n c K : Nat) (hK : K ≤ n) (W : World) : (Instr.slice 28 (.slice A n c) (some (.int .i64 (K : Int))) none none).run Try.prog W = .ok (.slice (if c = K then A else A.map (·.add (K * 1))) (n - K) (c - K)) W := by
  have h1 : (0 : Int) ≤ (K : Int) := by omega
  have h2 : (K : Int) ≤ (n : Int) := by omega
  go_simp
theorem run_to12 (A : Option Addr) (n c K : Nat) (hK : K ≤ n) (hc : n ≤ c) (W : World) : (Instr.slice 28 (.slice A n c) none (some (.int .i64 (K : Int))) none).run Try.prog W = .ok (.slice A K c) W := by
  have h1 : (0 : Int) ≤ (K : Int) := by omega
  have h2 : (K : Int) ≤ (c : Int) := by omega
  have h3 : (if c = 0 then A else A.map (·.add (0 * 1))) = A := by
    split
    · rfl
    · cases A with
      | none => rfl
      | some p => simp [Addr.add]
  go_simp
theorem run_fromP12 (A : Option Addr) (n c K : Nat) (hK : K ≤ n) (W : World) : (Instr.slice 42 (.slice A n c) (some (.int .i64 (K : Int))) none none).run Try.prog W = .ok (.slice (if c = K then A else A.map (·.add (K * 2))) (n - K) (c - K)) W := by
  have h1 : (0 : Int) ≤ (K : Int) := by omega
  have h2 : (K : Int) ≤ (n : Int) := by omega
  go_simp
theorem run_toP12 (A : Option Addr) (n c K : Nat) (hK : K ≤ n) (hc : n ≤ c) (W : World) : (Instr.slice 42 (.slice A n c) none (some (.int .i64 (K : Int))) none).run Try.prog W = .ok (.slice A K c) W := by
  have h1 : (0 : Int) ≤ (K : Int) := by omega
  have h2 : (K : Int) ≤ (c : Int) := by omega
  have h3 : (if c = 0 then A else A.map (·.add (0 * 2))) = A := by
    split
    · rfl
    · cases A with
      | none => rfl
      | some p => simp [Addr.add]
  go_simp
theorem gtI_yes12 {a b : Int} (h : b < a) (W : World) : (binOp .gtr 3 (.int .i64 a) (.int .i64 b)).run Try.prog W = .ok (.bool true) W := by
  have h2 : decide (b < a) = true := decide_eq_true h
  go_simp
theorem subJ12 {m j : Nat} (hm : m = j + 1) (h : m ≤ 1000000) (W : World) : (binOp .sub 3 (.int .i64 (m : Int)) (.int .i64 1)).run Try.prog W = .ok (.int .i64 (j : Int)) W := by
  rw [subI10 (by omega), show (m : Int) - 1 = (j : Int) by omega]
theorem gtS12 (x y : ByteArray) (W : World) : (binOp .gtr 9 (.string x) (.string y)).run Try.prog W = .ok (.bool (ls12 y x)) W := by
  have hb : binOp .gtr 9 (.string x) (.string y) = pure (.bool !(Op.bytesLess x.toList y.toList || x.toList == y.toList)) := by simp [binOp, Op.stringOp]
  have he : (!(Op.bytesLess x.toList y.toList || x.toList == y.toList)) = ls12 y x := by
    by_cases e : x = y
    · subst e
      rw [ls_irr12]
      simp
    · have hne : (x.toList == y.toList) = false := by
        rw [beq_eq_false_iff_ne, ByteArray.toList_eq, ByteArray.toList_eq]
        intro h
        exact e (ByteArray.ext (Array.toList_inj.1 h))
      rw [hne, Bool.or_false]
      show (!ls12 x y) = ls12 y x
      cases h : ls12 x y with
      | false => rw [ls_tot12 h e]; rfl
      | true =>
        cases h2 : ls12 y x with
        | false => rfl
        | true => exact absurd ((ls_irr12 x).symm.trans (ls_trans12 h h2)) (by decide)
  rw [hb, he]
  rfl
theorem inV_pair12 (W : World) (l x : ByteArray) : InV (W.alloc (.cells #[.string l, .string x] 53)) (some ⟨W.heap.size, 0, none⟩) [.string l, .string x] := fun j u hj => by
  have i := Is.new W 53 #[.string l, .string x]
  obtain ⟨h1, h2⟩ := List.getElem?_eq_some_iff.1 hj
  have hj2 : j = 0 ∨ j = 1 := by simp at h1; omega
  rcases hj2 with rfl | rfl
  · cases hj
    exact ⟨_, _, rfl, by simp, i.cell 0⟩
  · cases hj
    exact ⟨_, _, rfl, by simp, (i.cell 1).trans rfl⟩
/-! ### A region that draws no order: steps that make memory -/
theorem line_step12 {P : Program} {ops : Array Oper} {Q : Exit → Act → World → Prop} {i : Nat} {a : Act} {w w' : World} {o : Oper} {v : Value} (hi : ops[i]? = some o) (hw : Region.wanted o (yielded ops a.tmps) = true) (hx : (execOp a.eval o).run P w = .ok (.value v) w')
    (h : Line10 P ops Q (i + 1) (a.put o.dst v) w') : Line10 P ops Q i a w := by
  refine ⟨?_⟩
  rw [drop_nth10 hi]
  refine wpList_step fun K hK => ?_
  rw [if_pos hw]
  unfold Oper.wp
  rw [hx, Oper.upon_value]
  exact hK _ _ h.out
theorem line_more12 {P : Program} {ops : Array Oper} {Q : Exit → Act → World → Prop} {i : Nat} {a : Act} {w : World} {o : Oper} (hi : ops[i]? = some o) (hw : Region.wanted o (yielded ops a.tmps) = true) (s x : Operand) (t e : TypeId) (i0 : TypeInfo) (z : Value) (size bytes : Nat)
    (ho : o.op = .call { callee := .builtin .append, args := #[s, x], argTypes := #[t, t] }) (ht : P.underlying t = some (.slice e)) (hi0 : P.info? e = some i0) (hz : i0.zero = some z) (hz1 : i0.size = size) (hz2 : i0.bytes = bytes) (hzs : z.cells.size = size) (hpos : 0 < size)
    (base : Nat) (A : Option Addr) (c n : Nat) (xs : List Value) (hO : RowV w base e size A c n xs) (B : Option Addr) (cap m : Nat) (ys : List Value) (hl : ys.length = m * size) (h1 : ∀ u ∈ ys, u.oneCell' = true) (hc : InV w B ys) (hn : B = none → m = 0 ∧ cap = 0) (hm : n + m ≤ maxLen) (hby : (n + m) * bytes ≤ 140737488355328)
    (hs : a.eval s = .slice A n c ∧ a.eval x = .slice B m cap) (hb : base ≤ w.heap.size)
    (h : ∀ A' c' w', RowV w' base e size A' c' (n + m) (xs ++ ys) → w.grownBy w' (Value.slice A n c).ownBlock → Line10 P ops Q (i + 1) (a.put o.dst (.slice A' (n + m) c')) w') : Line10 P ops Q i a w := by
  refine ⟨?_⟩
  rw [drop_nth10 hi]
  refine wpList_step fun K hK => ?_
  rw [if_pos hw]
  exact wp_moreV12 s x t e i0 z size bytes ho ht hi0 hz hz1 hz2 hzs hpos base A c n xs hO B cap m ys hl h1 hc hn hm hby hs hb (fun A' c' w' hr' hg' => hK _ _ (h A' c' w' hr' hg').out)
theorem infoInt12 : (Try.prog.info? 3).map (fun i => (i.zero, i.size, i.bytes)) = some (some (.int .i64 0), 1, 8) := by kernel_rfl
theorem iV_one12 (R : List Int) : ∀ u ∈ iV12 R, u.oneCell' = true := fun u hu => by
  obtain ⟨x, _, rfl⟩ := List.mem_map.1 hu
  rfl
end Go.Proofs.Ytglcckpkbnppoaa
