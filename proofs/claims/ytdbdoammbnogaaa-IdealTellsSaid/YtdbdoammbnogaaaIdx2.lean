/-
  Layer 8: contracts of Own and New, the document's own. Condition (Own): the ideal's lists lie where the slices point to.
-/
import Derived.Test.YtdbdoammbnogaaaIdx1
import Derived.Test.YtdbdoammbnogaaaIdeM
namespace Go.Proofs.Ytdbdoammbnogaaa
open Go.RowKit Go.Shelf

section
variable {P : Program} {w : World} {o : Oper} {a : Act} {Q : Exit → Act → World → Prop} {K : Act → World → Prop}
theorem wp_copyV (s x : Operand) (t e : TypeId) (i0 : TypeInfo) (z : Value) (size bytes : Nat)
    (ho : o.op = .call { callee := .builtin .append, args := #[s, x], argTypes := #[t, t] }) (ht : P.underlying t = some (.slice e)) (hi : P.info? e = some i0) (hz : i0.zero = some z) (hz1 : i0.size = size) (hz2 : i0.bytes = bytes) (hzs : z.cells.size = size) (hpos : 0 < size)
    (A : Option Addr) (cap n : Nat) (xs : List Value) (hl : xs.length = n * size) (h1 : ∀ u ∈ xs, u.oneCell' = true) (hc : InV w A xs) (hn : A = none → cap = 0) (hm : n ≤ maxLen) (hby : n * bytes ≤ 140737488355328)
    (hs : a.eval s = .slice none 0 0 ∧ a.eval x = .slice A n cap) (base : Nat) (hb : base ≤ w.heap.size)
    (h : ∀ A' c' w', RowV w' base e size A' c' n xs → Below w.heap.size w w' → K (a.put o.dst (.slice A' n c')) w') : o.wp P a w K Q := by
  cases A with
  | none =>
    obtain rfl : xs = [] := hc.nil_of
    obtain rfl : cap = 0 := hn rfl
    obtain rfl : n = 0 := by
      rcases Nat.eq_zero_or_pos n with h0 | h0
      · exact h0
      · have := Nat.mul_pos h0 hpos
        rw [← hl] at this
        cases this
    have hrun := run_append_owned_none (P := P) (w := w) base t o.type e i0 size ht hi (.slice none 0 0) 0 [] (World.ownsRow_nil _ _ _ _)
    unfold Oper.wp
    simp [execOp, ho, resolve, invoke, builtin, hs.1, hs.2, hrun, Result.andThen]
    exact h none 0 w (World.ownsRow_nil _ _ _ _) (Below.refl _ _)
  | some p =>
    refine wp_append_own w s x t ho base e i0 z size bytes ht hi hz hz1 hz2 hzs hpos (.slice none 0 0) 0 [] hs.1 (World.ownsRow_nil _ _ _ _) p n cap xs hs.2 hl (fun j u hj => ?_) h1 (by omega) (by rw [Nat.zero_add]; exact hby) hb ?_
    · obtain ⟨b, off, e2, _, h2⟩ := hc j u hj
      cases e2
      rw [Addr.add_lit]
      exact h2
    · intro v' w1 hown hgrow _
      obtain ⟨A', c', rfl⟩ := owns_sliceG hown
      rw [Nat.zero_add] at hown ⊢
      exact h A' c' w1 hown ((Below.refl _ w).grown hgrow (Nat.le_refl _) (fun k e => by cases e))
variable {md : Region.Mode} {ops : Array Oper} {S : World → Prop} {fuel i : Nat} {listed : Array Bool}
theorem wpAnyH_copyV (hr : Region.ready md ops listed = [i]) (hoi : ops[i]? = some o) (hw : Region.wanted o (yielded ops a.tmps) = true) (s x : Operand) (t e : TypeId) (i0 : TypeInfo) (z : Value) (size bytes : Nat)
    (ho : o.op = .call { callee := .builtin .append, args := #[s, x], argTypes := #[t, t] }) (ht : P.underlying t = some (.slice e)) (hi : P.info? e = some i0) (hz : i0.zero = some z) (hz1 : i0.size = size) (hz2 : i0.bytes = bytes) (hzs : z.cells.size = size) (hpos : 0 < size)
    (A : Option Addr) (cap n : Nat) (xs : List Value) (hl : xs.length = n * size) (h1 : ∀ u ∈ xs, u.oneCell' = true) (hc : InV w A xs) (hn : A = none → cap = 0) (hm : n ≤ maxLen) (hby : n * bytes ≤ 140737488355328)
    (hs : a.eval s = .slice none 0 0 ∧ a.eval x = .slice A n cap) (base : Nat) (hb : base ≤ w.heap.size)
    (h : ∀ A' c' w', RowV w' base e size A' c' n xs → Below w.heap.size w w' → S w' ∧ wpAnyH P md ops Q S fuel (listed.setIfInBounds i true) (a.put o.dst (.slice A' n c')) w') : wpAnyH P md ops Q S (fuel + 1) listed a w :=
  wpAnyH_step hr hoi hw fun _ hK => wp_copyV s x t e i0 z size bytes ho ht hi hz hz1 hz2 hzs hpos A cap n xs hl h1 hc hn hm hby hs base hb (fun A' c' w' hr' hb' => hK.out _ _ (h A' c' w' hr' hb').1 fun _ => (h A' c' w' hr' hb').2)
end

set_option maxRecDepth 100000 in
set_option maxHeartbeats 4000000 in
theorem own8_any (d : Ide) (A : Option Addr) (c : Nat) (A' : Option Addr) (c' : Nat) (w : World) (h : InI w d A c A' c') :
    Calls Try.prog 33 #[ideV d A c A' c'] w fun e w' => ∃ A1 c1 A2 c2, e = .returned (ideV d A1 c1 A2 c2) ∧ RowV w' w.heap.size 55 2 A1 c1 d.N.length (flN d.N) ∧ RowV w' w.heap.size 57 3 A2 c2 d.K.length (flK d.K) ∧ Below w.heap.size w w' := by
  have HI := Lib.hid h
  clear h
  obtain ⟨j1, hi1, hz01, hz11, hz21⟩ := info_parts infoNam8
  obtain ⟨j2, hi2, hz02, hz12, hz22⟩ := info_parts infoMad8
  obtain ⟨W0, hW0⟩ : ∃ W, W = (w.alloc (.cells (ideL d A c A' c') 30)).alloc (.cells zer8 30) := ⟨_, rfl⟩
  have i1 : Is W0 w.heap.size 30 (ideL d A c A' c') := by rw [hW0]; exact heap_alloc2_old w _ _
  have i2 : Is W0 (w.heap.size + 1) 30 zer8 := by rw [hW0]; exact heap_alloc2_new w _ _
  have hB : Below w.heap.size w W0 := by rw [hW0]; exact ((Below.refl _ _).alloc (Nat.le_refl _) _).alloc (by simp) _
  go_enter Try.func33, Try.ntmps33
  go_wp2_with fail
  rw [← hW0]
  clear hW0
  refine wp_region_held_drew (S := fun W => Is W w.heap.size 30 (ideL d A c A' c')) (by kernel_rfl) i1 (fun hS => ?_)
  change wpAnyH _ _ (opsOf Try.f33 1) _ _ 12 (Array.replicate 12 false) _ _
  have hB0 : Below w.heap.size w W0.drew := belowN hB 1
  have i1d : Is W0.drew w.heap.size 30 (ideL d A c A' c') := i1
  have i2d : Is W0.drew (w.heap.size + 1) 30 zer8 := i2
  clear hS i1 i2 hB
  generalize W0.drew = V0 at *
  refine wpAnyH_pure (i := 0) (o := { dst := some 3, op := Op.fieldAddr 30 (Operand.tmp 1) 0, type := 0, pos := "ref.go:59", after := #[], guard := none }) (v := .pointer (some ⟨w.heap.size, 0, none⟩)) (by kernel_rfl) (by kernel_rfl) (by kernel_rfl) (by kernel_rfl) (fun _ _ _ h => h) (by kernel_rfl) (fun w hSw => by go_simp) i1d ?_
  simp only [Act.put, List.setIfInBounds_toArray, List.set_cons_succ, List.set_cons_zero]
  refine wpAnyH_pure (i := 1) (o := { dst := some 4, op := Op.load 26 (Operand.tmp 3), type := 26, pos := "ref.go:59", after := #[{ on := 0, ground := Ground.data }], guard := none }) (v := .agg #[.string d.B, .int .i64 d.a]) (by kernel_rfl) (by kernel_rfl) (by kernel_rfl) (by kernel_rfl) (fun _ _ _ h => h) (by kernel_rfl) (fun w hSw => by exact exec_load rfl rfl (run_loadVar_mid _ _ 0 26 [.string d.B, .int .i64 d.a] _ (World.rangeAt_of_block hSw 0 2) Try.underlying26 rfl infoTape)) i1d ?_
  simp only [Act.put, List.setIfInBounds_toArray, List.set_cons_succ, List.set_cons_zero]
  refine wpAnyH_pure (i := 2) (o := { dst := some 5, op := Op.fieldAddr 30 (Operand.tmp 1) 1, type := 0, pos := "ref.go:59", after := #[], guard := none }) (v := .pointer (some ⟨w.heap.size, 2, none⟩)) (by kernel_rfl) (by kernel_rfl) (by kernel_rfl) (by kernel_rfl) (fun _ _ _ h => h) (by kernel_rfl) (fun w hSw => by go_simp) i1d ?_
  simp only [Act.put, List.setIfInBounds_toArray, List.set_cons_succ, List.set_cons_zero]
  refine wpAnyH_pure (i := 3) (o := { dst := some 6, op := Op.load 27 (Operand.tmp 5), type := 27, pos := "ref.go:59", after := #[{ on := 2, ground := Ground.data }], guard := none }) (v := .slice A d.N.length c) (by kernel_rfl) (by kernel_rfl) (by kernel_rfl) (by kernel_rfl) (fun _ _ _ h => h) (by kernel_rfl) (fun w hSw => by (have hc := Is.cell hSw 2; go_simp)) i1d ?_
  simp only [Act.put, List.setIfInBounds_toArray, List.set_cons_succ, List.set_cons_zero]
  refine wpAnyH_pure (i := 5) (o := { dst := some 8, op := Op.fieldAddr 30 (Operand.tmp 1) 2, type := 0, pos := "ref.go:59", after := #[], guard := none }) (v := .pointer (some ⟨w.heap.size, 3, none⟩)) (by kernel_rfl) (by kernel_rfl) (by kernel_rfl) (by kernel_rfl) (fun _ _ _ h => h) (by kernel_rfl) (fun w hSw => by go_simp) i1d ?_
  simp only [Act.put, List.setIfInBounds_toArray, List.set_cons_succ, List.set_cons_zero]
  refine wpAnyH_pure (i := 6) (o := { dst := some 9, op := Op.load 28 (Operand.tmp 8), type := 28, pos := "ref.go:59", after := #[{ on := 5, ground := Ground.data }], guard := none }) (v := .slice A' d.K.length c') (by kernel_rfl) (by kernel_rfl) (by kernel_rfl) (by kernel_rfl) (fun _ _ _ h => h) (by kernel_rfl) (fun w hSw => by (have hc := Is.cell hSw 3; go_simp)) i1d ?_
  simp only [Act.put, List.setIfInBounds_toArray, List.set_cons_succ, List.set_cons_zero]
  refine wpAnyH_pure (i := 8) (o := { dst := some 11, op := Op.fieldAddr 30 (Operand.tmp 1) 3, type := 0, pos := "ref.go:59", after := #[], guard := none }) (v := .pointer (some ⟨w.heap.size, 4, none⟩)) (by kernel_rfl) (by kernel_rfl) (by kernel_rfl) (by kernel_rfl) (fun _ _ _ h => h) (by kernel_rfl) (fun w hSw => by go_simp) i1d ?_
  simp only [Act.put, List.setIfInBounds_toArray, List.set_cons_succ, List.set_cons_zero]
  refine wpAnyH_pure (i := 9) (o := { dst := some 12, op := Op.load 4 (Operand.tmp 11), type := 4, pos := "ref.go:59", after := #[{ on := 8, ground := Ground.data }], guard := none }) (v := .bool d.c) (by kernel_rfl) (by kernel_rfl) (by kernel_rfl) (by kernel_rfl) (fun _ _ _ h => h) (by kernel_rfl) (fun w hSw => by (have hc := Is.cell hSw 4; go_simp)) i1d ?_
  simp only [Act.put, List.setIfInBounds_toArray, List.set_cons_succ, List.set_cons_zero]
  refine wpAnyH_copyV (i := 4) (o := { dst := some 7, op := Op.call { callee := Callee.builtin Builtin.append, args := #[Operand.const (Value.slice none 0 0), Operand.tmp 6], argTypes := #[27, 27] }, type := 27, pos := "ref.go:59", after := #[{ on := 3, ground := Ground.data }], guard := none }) (by kernel_rfl) (by kernel_rfl) (by kernel_rfl) _ _ 27 55 _ (.agg #[.string ⟨#[]⟩, .string ⟨#[]⟩]) 2 32 rfl Try.underlying27 hi1 hz01 hz11 hz21 rfl (by decide) A c d.N.length (flN d.N) (flN_len _) (flN_one _) (HI.out.n.keep hB0) HI.out.nil (by unfold maxLen; have := HI.out.fit; omega) HI.out.fit ⟨rfl, rfl⟩ w.heap.size hB0.size ?_
  rintro A1 c1 V1 r1 hx1
  have hB1 := hB0.trans (hx1.mono hB0.size)
  have i1a := i1d.below hx1 i1d.lt
  have i2a := i2d.below hx1 i2d.lt
  refine ⟨i1a, ?_⟩
  try simp only [Act.put, List.setIfInBounds_toArray, List.set_cons_succ, List.set_cons_zero]
  refine wpAnyH_copyV (i := 7) (o := { dst := some 10, op := Op.call { callee := Callee.builtin Builtin.append, args := #[Operand.const (Value.slice none 0 0), Operand.tmp 9], argTypes := #[28, 28] }, type := 28, pos := "ref.go:59", after := #[{ on := 6, ground := Ground.data }, { on := 4, ground := Ground.chain }], guard := none }) (by kernel_rfl) (by kernel_rfl) (by kernel_rfl) _ _ 28 57 _ (.agg #[.string ⟨#[]⟩, .string ⟨#[]⟩, .string ⟨#[]⟩]) 3 48 rfl Try.underlying28 hi2 hz02 hz12 hz22 rfl (by decide) A' c' d.K.length (flK d.K) (flK_len _) (flK_one _) (HI.out.k.keep hB1) HI.out.nilK (by unfold maxLen; have := HI.out.fitK; omega) HI.out.fitK ⟨rfl, rfl⟩ w.heap.size hB1.size ?_
  rintro A2 c2 V2 r2 hx2
  have hB2 := hB1.trans (hx2.mono hB1.size)
  have i1b := i1a.below hx2 i1a.lt
  have i2b := i2a.below hx2 i2a.lt
  have r1 := r1.below hx2
  refine ⟨i1b, ?_⟩
  try simp only [Act.put, List.setIfInBounds_toArray, List.set_cons_succ, List.set_cons_zero]
  refine wpAnyH_pure (i := 10) (o := { dst := some 13, op := Op.build 30 #[(0, Operand.tmp 4), (1, Operand.tmp 7), (2, Operand.tmp 10), (3, Operand.tmp 12)], type := 30, pos := "ref.go:59", after := #[{ on := 1, ground := Ground.data }, { on := 4, ground := Ground.data }, { on := 7, ground := Ground.data }, { on := 9, ground := Ground.data }], guard := none }) (v := .agg #[.string d.B, .int .i64 d.a, .slice A1 d.N.length c1, .slice A2 d.K.length c2, .bool d.c]) (by kernel_rfl) (by kernel_rfl) (by kernel_rfl) (by kernel_rfl) (fun _ _ _ h => h) (by kernel_rfl) (fun w hSw => by go_simp) i1b ?_
  simp only [Act.put, List.setIfInBounds_toArray, List.set_cons_succ, List.set_cons_zero]
  have i1z : Is (V2.setRow (w.heap.size + 1) (ideL d A1 c1 A2 c2)) w.heap.size 30 (ideL d A c A' c') := i1b.rowFar (by omega) _
  refine wpAnyH_storerow (i := 11) (o := { dst := none, op := Op.store 30 (Operand.tmp 2) (Operand.tmp 13), type := 0, pos := "ref.go:59", after := #[{ on := 10, ground := Ground.data }, { on := 7, ground := Ground.chain }, { on := 0, ground := Ground.phase }, { on := 1, ground := Ground.phase }, { on := 2, ground := Ground.phase }, { on := 3, ground := Ground.phase }, { on := 4, ground := Ground.phase }, { on := 5, ground := Ground.phase }, { on := 6, ground := Ground.phase }, { on := 7, ground := Ground.phase }, { on := 8, ground := Ground.phase }, { on := 9, ground := Ground.phase }, { on := 10, ground := Ground.phase }], guard := none }) (g := w.heap.size + 1) (cs := (ideL d A1 c1 A2 c2)) (t := 30) (old := zer8) (by kernel_rfl) (by kernel_rfl) (by kernel_rfl) rfl (by kernel_rfl) (by kernel_rfl) i2b infoIde rfl (ideL_one _ _ _ _ _) i1z ?_
  simp only [Act.put]
  refine wpAnyH_done (by kernel_rfl) ?_ _
  go_wp2_with fail
  exact bodyPost_ret (results_cell_row Try.results33 _ _ (w.heap.size + 1) 30 _ (0, 0) _ rfl (i2b.row _) Try.underlying30 rfl infoIde) rfl ⟨A1, c1, A2, c2, rfl, r1.rowFar i2b (by decide) _, r2.rowFar i2b (by decide) _, belowRow hB2 (by simp) _⟩

set_option maxRecDepth 100000 in
set_option maxHeartbeats 2000000 in
theorem dnew_any (B : ByteArray) (a : Int) (w : World) :
    Calls Try.prog 11 #[.agg #[.string B, .int .i64 a]] w fun e w' => e = .returned (.tuple #[ideV (new8 B a).1 none 0 none 0, .int .i64 (new8 B a).2]) ∧ Below w.heap.size w w' := by
  have C := Lib.hid (dright_any B a)
  obtain ⟨W1, hW1⟩ : ∃ W, W = (w.alloc (.cells #[.string B, .int .i64 a] 26)).alloc (.cells zer8 30) := ⟨_, rfl⟩
  have i1 : Is W1 w.heap.size 26 #[.string B, .int .i64 a] := by rw [hW1]; exact heap_alloc2_old w _ _
  have i2 : Is W1 (w.heap.size + 1) 30 zer8 := by rw [hW1]; exact heap_alloc2_new w _ _
  have hB : Below w.heap.size w W1 := by rw [hW1]; exact ((Below.refl _ _).alloc (Nat.le_refl _) _).alloc (by simp) _
  have k0 : W1.cell? ⟨w.heap.size, 0, none⟩ = some (.string B) := i1.cell 0
  have k1 : W1.cell? ⟨w.heap.size, 1, none⟩ = some (.int .i64 a) := i1.cell 1
  cases hr : rightV B a with
  | false =>
    have hz : new8 B a = (⟨⟨#[]⟩, 0, [], [], false⟩, 1) := by rw [new8, hr]; rfl
    rw [hz]
    rw [hr] at C
    clear hz hr
    go_enter Try.func11, Try.ntmps11
    go_wp2_with fail
    rw [← hW1]
    clear hW1
    go_wp2_with fail
    refine (C.out _).mono ?_
    rintro e W2 ⟨rfl, hb⟩
    have j2 := i2.below hb i2.lt
    have hB2 := hB.trans (hb.mono hB.size)
    clear k0 k1
    go_wp2_with (first | (refine wpList_store_row rfl 30 _ _ rfl (w.heap.size + 1) zer8 rfl rfl 30 _ j2 infoIde rfl (by rw [← Array.all_toList]; rfl) ?_))
    exact bodyPost_ret (results_row_tmp Try.results11 _ _ (w.heap.size + 1) 30 _ (0, 0) _ rfl (j2.row _) Try.underlying30 rfl infoIde) rfl ⟨rfl, belowRow hB2 (by simp) _⟩
  | true =>
    have hz : new8 B a = (⟨B, a, [], [], false⟩, 0) := by rw [new8, hr]; rfl
    rw [hz]
    rw [hr] at C
    clear hz hr
    go_enter Try.func11, Try.ntmps11
    go_wp2_with fail
    rw [← hW1]
    clear hW1
    go_wp2_with fail
    refine (C.out _).mono ?_
    rintro e W2 ⟨rfl, hb⟩
    have j1 := i1.below hb i1.lt
    have j2 := i2.below hb i2.lt
    have hB2 := hB.trans (hb.mono hB.size)
    clear k0 k1
    have k0 : W2.cell? ⟨w.heap.size, 0, none⟩ = some (.string B) := j1.cell 0
    have k1 : W2.cell? ⟨w.heap.size, 1, none⟩ = some (.int .i64 a) := j1.cell 1
    go_wp2_with (first | (refine wpList_store_row rfl 30 _ _ rfl (w.heap.size + 1) #[.string B, .int .i64 a, .slice none 0 0, .slice none 0 0, .bool false] rfl rfl 30 _ j2 infoIde rfl (by rw [← Array.all_toList]; rfl) ?_))
    exact bodyPost_ret (results_row_tmp Try.results11 _ _ (w.heap.size + 1) 30 _ (0, 0) _ rfl (j2.row _) Try.underlying30 rfl infoIde) rfl ⟨rfl, belowRow hB2 (by simp) _⟩
end Go.Proofs.Ytdbdoammbnogaaa
