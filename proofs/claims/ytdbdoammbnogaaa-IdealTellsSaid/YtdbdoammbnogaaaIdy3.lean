/-
  Layer 8: contract of the statements' own Ask: a raw question, by the document. Condition: the ideal's lists lie where its slices point to.
-/
import Derived.Test.YtdbdoammbnogaaaIdy2
import Derived.Test.YtdbdoammbnogaaaIdeL
namespace Go.Proofs.Ytdbdoammbnogaaa
open Go.RowKit Go.Shelf

theorem wpAnyH_loadrow {P : Program} {md : Region.Mode} {ops : Array Oper} {Q : Exit → Act → World → Prop} {S : World → Prop} {fuel i : Nat} {listed : Array Bool} {a : Act} {w : World} {o : Oper} {ty : TypeId} {x : Operand} {g : Nat} {t : TypeId} {cs : Array Value} {d : TypeDesc}
    (hr : Region.ready md ops listed = [i]) (hoi : ops[i]? = some o) (hw : Region.wanted o (yielded ops a.tmps) = true) (ho : o.op = .load ty x) (hx : a.eval x = .pointer (some ⟨g, 0, none⟩)) (hg : Is w g t cs)
    (hu : P.underlying ty = some d) (hd : (match d with | .struct _ | .array _ _ => true | _ => false) = true) (hi : (P.info? ty).map (·.size) = some cs.size) (hS : S w)
    (h : wpAnyH P md ops Q S fuel (listed.setIfInBounds i true) (a.put o.dst (.agg cs)) w) : wpAnyH P md ops Q S (fuel + 1) listed a w :=
  wpAnyH_step hr hoi hw fun _ hK => wp_load_row ty x ho g hx t cs (0, 0) d hg hu hd hi (hK.out _ _ hS fun _ => h)
/-- texts that lie where a slice points to don't lie in a block that holds an ideal. -/
theorem InV.off8 {W W' : World} {A : Option Addr} {vs : List Value} (h : InV W A vs) (hs : ∀ u ∈ vs, ∃ s, u = .string s) (h2 : vs.length ≠ 1) {G : Nat} {t : TypeId} {d' : Ide} {E : Option Addr} {e : Nat} {E' : Option Addr} {e' : Nat} (hG : Is W G t (ideL d' E e E' e'))
    (hz : W.heap.size ≤ W'.heap.size) (hk : ∀ k, k ≠ G → W'.heap[k]? = W.heap[k]?) : InV W' A vs := fun j u hj => by
  obtain ⟨b, off, rfl, h1, h3⟩ := h j u hj
  refine ⟨b, off, rfl, Nat.lt_of_lt_of_le h1 hz, ?_⟩
  have hne : b ≠ G := fun eb => by
    have hj1 := (List.getElem?_eq_some_iff.1 hj).1
    have hcell : ∀ k, k < vs.length → ∃ s, (ideL d' E e E' e')[off + k]? = some (.string s) := fun k hkl => by
      obtain ⟨s, hs0⟩ := hs _ (List.getElem_mem hkl)
      obtain ⟨b2, off2, e2, _, h4⟩ := h k vs[k] (List.getElem?_eq_getElem hkl)
      cases e2
      rw [eb, hG.cell, hs0] at h4
      exact ⟨s, h4⟩
    obtain ⟨s0, g0⟩ := hcell 0 (by omega)
    obtain ⟨s1, g1⟩ := hcell 1 (by omega)
    have big : ∀ k, 5 ≤ k → (ideL d' E e E' e')[k]? = none := fun k hk5 => by rw [Array.getElem?_eq_none]; exact hk5
    rcases (show off + 1 = 1 ∨ off + 1 = 2 ∨ off + 1 = 3 ∨ off + 1 = 4 ∨ 5 ≤ off + 1 by omega) with e1 | e1 | e1 | e1 | e1
    · rw [e1] at g1; cases g1
    · rw [e1] at g1; cases g1
    · rw [e1] at g1; cases g1
    · rw [e1] at g1; cases g1
    · rw [big _ e1] at g1; cases g1
  rw [← h3]
  simp only [World.cell?, hk b hne]
theorem flN_str (N : List Nam8) : ∀ u ∈ flN N, ∃ s, u = .string s := fun u hu => by
  obtain ⟨x, _, hx⟩ := List.mem_flatMap.1 hu
  simp only [List.mem_cons, List.not_mem_nil, or_false] at hx
  rcases hx with rfl | rfl <;> exact ⟨_, rfl⟩
theorem flK_str (K : List Cel8) : ∀ u ∈ flK K, ∃ s, u = .string s := fun u hu => by
  obtain ⟨x, _, hx⟩ := List.mem_flatMap.1 hu
  simp only [List.mem_cons, List.not_mem_nil, or_false] at hx
  rcases hx with rfl | rfl | rfl <;> exact ⟨_, rfl⟩
theorem InI.off {W W' : World} {d : Ide} {A : Option Addr} {c : Nat} {A' : Option Addr} {c' : Nat} (h : InI W d A c A' c') {G : Nat} {t : TypeId} {d' : Ide} {E : Option Addr} {e : Nat} {E' : Option Addr} {e' : Nat} (hG : Is W G t (ideL d' E e E' e'))
    (hz : W.heap.size ≤ W'.heap.size) (hk : ∀ k, k ≠ G → W'.heap[k]? = W.heap[k]?) : InI W' d A c A' c' :=
  ⟨h.n.off8 (flN_str _) (by rw [flN_len]; omega) hG hz hk, h.k.off8 (flK_str _) (by rw [flK_len]; omega) hG hz hk, h.nil, h.nilK, h.fit, h.fitK⟩
theorem InI.offRow {W : World} {d : Ide} {A : Option Addr} {c : Nat} {A' : Option Addr} {c' : Nat} (h : InI W d A c A' c') {G : Nat} {t : TypeId} {d' : Ide} {E : Option Addr} {e : Nat} {E' : Option Addr} {e' : Nat} (hG : Is W G t (ideL d' E e E' e')) (cs : Array Value) : InI (W.setRow G cs) d A c A' c' :=
  h.off hG (by simp) (fun k hk => setRow_other W G k cs hk)
theorem InI.offCell {W : World} {d : Ide} {A : Option Addr} {c : Nat} {A' : Option Addr} {c' : Nat} (h : InI W d A c A' c') {p : Addr} {t : TypeId} {d' : Ide} {E : Option Addr} {e : Nat} {E' : Option Addr} {e' : Nat} (hG : Is W p.block t (ideL d' E e E' e')) (v : Value) : InI (W.setCell p v) d A c A' c' :=
  h.off hG (by simp [World.setCell]) (fun k hk => heap_setCell_other W p k v hk)
theorem InI.drewN {W : World} {d : Ide} {A : Option Addr} {c : Nat} {A' : Option Addr} {c' : Nat} (h : InI W d A c A' c') (n : Nat) : InI (W.drewN n) d A c A' c' := ⟨h.n, h.k, h.nil, h.nilK, h.fit, h.fitK⟩
/-- a raw question. -/
def que8 (n0 n1 n2 : Int) : Q8 := if pickN n0 2 = 0 then .nam (strOfNums [pickN n1 6]) else .cel (label8 n1) (text8 n2)
theorem que8_ok (n0 n1 n2 : Int) : (que8 n0 n1 n2).Ok := by
  unfold que8
  split
  · show (strOfNums [pickN n1 6]).size ≤ 100
    rw [strOfNums_size]; simp
  · exact ⟨label8_size _, text8_size _⟩

set_option maxRecDepth 100000 in
set_option maxHeartbeats 4000000 in
theorem ask_any (d : Ide) (A : Option Addr) (c : Nat) (A' : Option Addr) (c' : Nat) (n0 n1 n2 : Int) (w : World) (h : InI w d A c A' c') (h0 : -9223372036854775808 ≤ n0 ∧ n0 ≤ 9223372036854775807) (h1 : -9223372036854775808 ≤ n1 ∧ n1 ≤ 9223372036854775807) (h2 : -9223372036854775808 ≤ n2 ∧ n2 ≤ 9223372036854775807) :
    Calls Try.prog 27 #[ideV d A c A' c', .agg #[.int .i64 n0, .int .i64 n1, .int .i64 n2]] w fun e w' => ∃ A1 c1 A2 c2, e = .returned (ideV (ask8 d (que8 n0 n1 n2)).2.1 A1 c1 A2 c2) ∧ InI w' (ask8 d (que8 n0 n1 n2)).2.1 A1 c1 A2 c2 ∧ Below w.heap.size w w' := by
  have P2 := Lib.hid (fun w => pick8_any n0 2 w h0.1 h0.2 (by omega) (by omega))
  have P6 := Lib.hid (fun w => pick8_any n1 6 w h1.1 h1.2 (by omega) (by omega))
  have LN := Lib.hid (fun (W : World) (hb : Below w.heap.size w W) => dlabel_any d A c A' c' (strOfNums [pickN n1 6]) W (h.keep hb))
  have LC := Lib.hid (fun (W : World) (hb : Below w.heap.size w W) => dseal_any d A c A' c' (label8 n1) (text8 n2) W (h.keep hb))
  have LB := Lib.hid (fun w => qlabel_any n1 w h1)
  have TX := Lib.hid (fun w => qtext_any n2 w h2)
  have hp6 := pickN_bd n1 6 (by omega)
  have hqe : que8 n0 n1 n2 = if pickN n0 2 = 0 then .nam (strOfNums [pickN n1 6]) else .cel (label8 n1) (text8 n2) := rfl
  generalize que8 n0 n1 n2 = q at *
  generalize pickN n0 2 = p2 at *
  generalize label8 n1 = lb at *
  generalize text8 n2 = tx at *
  generalize pickN n1 6 = p6 at *
  have hpu : IntKind.u8.wrap p6 = p6 := by rw [show IntKind.u8.wrap p6 = p6 % 256 from rfl]; omega
  clear h h0 h1 h2
  obtain ⟨X, hX⟩ : ∃ X, X = ask8 d q := ⟨_, rfl⟩
  rw [← hX]
  have HX := Lib.hid hX
  have HQ := Lib.hid hqe
  clear hX hqe
  obtain ⟨V1, hV1⟩ : ∃ W, W = ((w.alloc (.cells (ideL d A c A' c') 30)).alloc (.cells #[.int .i64 n0, .int .i64 n1, .int .i64 n2] 24)).alloc (.cells zer8 30) := ⟨_, rfl⟩
  have iD : Is V1 w.heap.size 30 (ideL d A c A' c') := by rw [hV1]; exact (heap_alloc2_old w _ _ |> fun h => Is.alloc h _)
  have iN : Is V1 (w.heap.size + 1) 24 #[.int .i64 n0, .int .i64 n1, .int .i64 n2] := by rw [hV1]; exact (heap_alloc2_new w _ _ |> fun h => Is.alloc h _)
  have iR : Is V1 (w.heap.size + 1 + 1) 30 zer8 := by
    rw [hV1]
    have hh := Is.new ((w.alloc (.cells (ideL d A c A' c') 30)).alloc (.cells #[.int .i64 n0, .int .i64 n1, .int .i64 n2] 24)) 30 zer8
    rw [World.size_alloc, World.size_alloc] at hh
    exact hh
  have hB : Below w.heap.size w V1 := by rw [hV1]; exact (((Below.refl _ _).alloc (Nat.le_refl _) _).alloc (by simp) _).alloc (by simp; omega) _
  have hsz : V1.heap.size = w.heap.size + 1 + 1 + 1 := by rw [hV1, World.size_alloc, World.size_alloc, World.size_alloc]
  go_enter Try.func27, Try.ntmps27
  go_wp2_with fail
  rw [← hV1]
  clear hV1
  have c0 : (V1.alloc (.cells (ideL d A c A' c') 30)).cell? ⟨w.heap.size + 1, 0, none⟩ = some (.int .i64 n0) := (iN.alloc _).cell 0
  go_wp2_with (refine wpList_load_row rfl 30 _ rfl w.heap.size rfl 30 _ (0, 0) _ iD Try.underlying30 rfl infoIde ?_)
  clear c0
  have iG : Is (V1.alloc (.cells (ideL d A c A' c') 30)) (w.heap.size + 1 + 1 + 1) 30 (ideL d A c A' c') := by rw [← hsz]; exact Is.new _ _ _
  replace iD := iD.alloc (.cells (ideL d A c A' c') 30)
  replace iN := iN.alloc (.cells (ideL d A c A' c') 30)
  replace iR := iR.alloc (.cells (ideL d A c A' c') 30)
  replace hB := hB.alloc hB.size (.cells (ideL d A c A' c') 30)
  try rw [hsz]
  clear hsz
  generalize V1.alloc (.cells (ideL d A c A' c') 30) = V at *
  refine (P2.out _).mono ?_
  rintro e Vp ⟨rfl, rfl⟩
  by_cases hz : p2 = 0
  · have hX := HX.out
    have hqe := HQ.out
    rw [if_pos hz] at hqe
    clear HX HQ
    subst hz
    have hX2 : lab8 d (strOfNums [p6]) = X := by rw [hX, hqe]; rfl
    rw [hX2] at LN
    clear hX hX2 hqe
    go_wp2
    refine wp_region_held_drew (S := fun W => Is W w.heap.size 30 (ideL d A c A' c') ∧ Is W (w.heap.size + 1) 24 #[.int .i64 n0, .int .i64 n1, .int .i64 n2]) (by kernel_rfl) ⟨iD.drewN 1, iN.drewN 1⟩ (fun hS => ?_)
    change wpAnyH _ _ (opsOf Try.f27 3) _ _ 13 (Array.replicate 13 false) _ _
    clear hS
    replace iD := iD.drewN 1
    replace iN := iN.drewN 1
    replace iR := iR.drewN 1
    replace iG := iG.drewN 1
    replace hB := belowN hB 1
    change wpAnyH _ _ _ _ _ _ _ _ (V.drewN 1)
    generalize V.drewN 1 = V at *
    refine wpAnyH_pure (i := 0) (o := { dst := some 12, op := Op.load 30 (Operand.tmp 2), type := 30, pos := "law.go:61", after := #[], guard := none }) (v := (.agg (ideL d A c A' c'))) (by kernel_rfl) (by kernel_rfl) (by kernel_rfl) (by kernel_rfl) (fun _ _ _ h => h) (by kernel_rfl) (fun w hSw => by exact exec_load rfl rfl (run_loadVar_row _ _ 30 30 _ (0, 0) _ hSw.1 Try.underlying30 rfl infoIde)) ⟨iD, iN⟩ ?_
    simp only [Act.put, List.setIfInBounds_toArray, List.set_cons_succ, List.set_cons_zero]
    refine wpAnyH_pure (i := 1) (o := { dst := some 13, op := Op.indexAddr 24 (Operand.tmp 3) (Operand.const (Value.int IntKind.i64 1)), type := 0, pos := "law.go:61", after := #[], guard := none }) (v := .pointer (some ⟨w.heap.size + 1, 1, none⟩)) (by kernel_rfl) (by kernel_rfl) (by kernel_rfl) (by kernel_rfl) (fun _ _ _ h => h) (by kernel_rfl) (fun w hSw => by go_simp) ⟨iD, iN⟩ ?_
    simp only [Act.put, List.setIfInBounds_toArray, List.set_cons_succ, List.set_cons_zero]
    refine wpAnyH_pure (i := 2) (o := { dst := some 14, op := Op.load 3 (Operand.tmp 13), type := 3, pos := "law.go:61", after := #[{ on := 1, ground := Ground.data }], guard := none }) (v := .int .i64 n1) (by kernel_rfl) (by kernel_rfl) (by kernel_rfl) (by kernel_rfl) (fun _ _ _ h => h) (by kernel_rfl) (fun w hSw => by (have hc := Is.cell hSw.2 1; go_simp)) ⟨iD, iN⟩ ?_
    simp only [Act.put, List.setIfInBounds_toArray, List.set_cons_succ, List.set_cons_zero]
    refine wpAnyH_call (i := 3) (o := { dst := some 15, op := Op.call { callee := Callee.value (Operand.func 14), args := #[Operand.tmp 14, Operand.const (Value.int IntKind.i64 6)], argTypes := #[3, 3] }, type := 3, pos := "law.go:61", after := #[{ on := 2, ground := Ground.data }], guard := none }) (by kernel_rfl) (by kernel_rfl) (by kernel_rfl) (fun w => by kernel_rfl) ((P6.out _).mono ?_)
    rintro e Vp ⟨rfl, rfl⟩
    refine ⟨_, rfl, ⟨iD, iN⟩, ?_⟩
    try simp only [Act.put, List.setIfInBounds_toArray, List.set_cons_succ, List.set_cons_zero]
    refine wpAnyH_pure (i := 4) (o := { dst := some 16, op := Op.convert 3 5 (Operand.tmp 15), type := 5, pos := "law.go:61", after := #[{ on := 3, ground := Ground.data }], guard := none }) (v := .int .u8 p6) (by kernel_rfl) (by kernel_rfl) (by kernel_rfl) (by kernel_rfl) (fun _ _ _ h => h) (by kernel_rfl) (fun w hSw => by go_simp) ⟨iD, iN⟩ ?_
    simp only [Act.put, List.setIfInBounds_toArray, List.set_cons_succ, List.set_cons_zero]
    have HVO := (convL8 [p6] (n := 1) (by rfl) (show Is (V.alloc (.cells #[.int .u8 p6] 5)) V.heap.size 5 #[.int .u8 p6] from Is.new V _ _))
    refine wpAnyH_step (i := 5) (o := { dst := some 17, op := Op.buildSlice 40 1 #[(0, Operand.tmp 16)], type := 40, pos := "law.go:61", after := #[{ on := 4, ground := Ground.data }], guard := none }) (by kernel_rfl) (by kernel_rfl) (by kernel_rfl) (fun Kc hKc => ?_)
    go_simp
    refine hKc.out _ _ ⟨iD.alloc _, iN.alloc _⟩ (fun _ => ?_)
    clear hKc Kc
    try simp only [Act.put, List.setIfInBounds_toArray, List.set_cons_succ, List.set_cons_zero]
    replace iD := iD.alloc (.cells #[.int .u8 p6] 5)
    replace iN := iN.alloc (.cells #[.int .u8 p6] 5)
    replace iR := iR.alloc (.cells #[.int .u8 p6] 5)
    replace iG := iG.alloc (.cells #[.int .u8 p6] 5)
    replace hB := hB.alloc hB.size (.cells #[.int .u8 p6] 5)
    generalize V.alloc (.cells #[.int .u8 p6] 5) = V2 at *
    refine wpAnyH_step (i := 6) (o := { dst := some 18, op := Op.convert 40 9 (Operand.tmp 17), type := 9, pos := "law.go:61", after := #[{ on := 5, ground := Ground.data }], guard := none }) (by kernel_rfl) (by kernel_rfl) (by kernel_rfl) (fun Kc hKc => ?_)
    go_simp
    refine hKc.out _ _ ⟨iD, iN⟩ (fun _ => ?_)
    clear hKc Kc
    try simp only [Act.put, List.setIfInBounds_toArray, List.set_cons_succ, List.set_cons_zero]
    clear HVO
    refine wpAnyH_call (i := 7) (o := { dst := some 19, op := Op.call { callee := Callee.value (Operand.func 16), args := #[Operand.tmp 12, Operand.tmp 18], argTypes := #[30, 9] }, type := 42, pos := "law.go:61", after := #[{ on := 0, ground := Ground.data }, { on := 6, ground := Ground.data }, { on := 3, ground := Ground.chain }], guard := none }) (by kernel_rfl) (by kernel_rfl) (by kernel_rfl) (fun w => by kernel_rfl) ((LN.out _ hB).mono ?_)
    rintro e VL ⟨A1, c1, A2, c2, rfl, hI, hb⟩
    replace iD := iD.below hb iD.lt
    replace iN := iN.below hb iN.lt
    replace iR := iR.below hb iR.lt
    replace iG := iG.below hb iG.lt
    replace hB := hB.trans (hb.mono hB.size)
    clear hb
    refine ⟨_, rfl, ⟨iD, iN⟩, ?_⟩
    try simp only [Act.put, List.setIfInBounds_toArray, List.set_cons_succ, List.set_cons_zero]
    refine wpAnyH_pure (i := 8) (o := { dst := some 11, op := Op.move (Operand.tmp 19), type := 42, pos := "law.go:61", after := #[{ on := 7, ground := Ground.data }], guard := none }) (v := .tuple #[.string X.1, (.agg (ideL X.2.1 A1 c1 A2 c2)), .int .i64 X.2.2]) (by kernel_rfl) (by kernel_rfl) (by kernel_rfl) (by kernel_rfl) (fun _ _ _ h => h) (by kernel_rfl) (fun w hSw => by kernel_rfl) ⟨iD, iN⟩ ?_
    simp only [Act.put, List.setIfInBounds_toArray, List.set_cons_succ, List.set_cons_zero]
    refine wpAnyH_pure (i := 9) (o := { dst := some 20, op := Op.extract (Operand.tmp 11) 0, type := 9, pos := "law.go:61", after := #[{ on := 8, ground := Ground.data }], guard := none }) (v := .string X.1) (by kernel_rfl) (by kernel_rfl) (by kernel_rfl) (by kernel_rfl) (fun _ _ _ h => h) (by kernel_rfl) (fun w hSw => by kernel_rfl) ⟨iD, iN⟩ ?_
    simp only [Act.put, List.setIfInBounds_toArray, List.set_cons_succ, List.set_cons_zero]
    refine wpAnyH_pure (i := 10) (o := { dst := some 21, op := Op.extract (Operand.tmp 11) 1, type := 30, pos := "law.go:61", after := #[{ on := 8, ground := Ground.data }], guard := none }) (v := (.agg (ideL X.2.1 A1 c1 A2 c2))) (by kernel_rfl) (by kernel_rfl) (by kernel_rfl) (by kernel_rfl) (fun _ _ _ h => h) (by kernel_rfl) (fun w hSw => by kernel_rfl) ⟨iD, iN⟩ ?_
    simp only [Act.put, List.setIfInBounds_toArray, List.set_cons_succ, List.set_cons_zero]
    refine wpAnyH_pure (i := 11) (o := { dst := some 22, op := Op.extract (Operand.tmp 11) 2, type := 33, pos := "law.go:61", after := #[{ on := 8, ground := Ground.data }, { on := 12, ground := Ground.gcOnly Departure.lateStores }], guard := none }) (v := .int .i64 X.2.2) (by kernel_rfl) (by kernel_rfl) (by kernel_rfl) (by kernel_rfl) (fun _ _ _ h => h) (by kernel_rfl) (fun w hSw => by kernel_rfl) ⟨iD, iN⟩ ?_
    simp only [Act.put, List.setIfInBounds_toArray, List.set_cons_succ, List.set_cons_zero]
    have jD := iD.rowFar (k := w.heap.size + 1 + 1 + 1) (by omega) (ideL X.2.1 A1 c1 A2 c2)
    have jN := iN.rowFar (k := w.heap.size + 1 + 1 + 1) (by omega) (ideL X.2.1 A1 c1 A2 c2)
    have jR := iR.rowFar (k := w.heap.size + 1 + 1 + 1) (by omega) (ideL X.2.1 A1 c1 A2 c2)
    have jG := iG.row (ideL X.2.1 A1 c1 A2 c2)
    have jB := belowRow hB (g := w.heap.size + 1 + 1 + 1) (by omega) (ideL X.2.1 A1 c1 A2 c2)
    have jI := hI.offRow iG (ideL X.2.1 A1 c1 A2 c2)
    refine wpAnyH_storerow (i := 12) (o := { dst := none, op := Op.store 30 (Operand.tmp 5) (Operand.tmp 21), type := 0, pos := "law.go:61", after := #[{ on := 10, ground := Ground.data }, { on := 7, ground := Ground.chain }, { on := 0, ground := Ground.phase }, { on := 1, ground := Ground.phase }, { on := 2, ground := Ground.phase }, { on := 3, ground := Ground.phase }, { on := 4, ground := Ground.phase }, { on := 5, ground := Ground.phase }, { on := 6, ground := Ground.phase }, { on := 7, ground := Ground.phase }, { on := 8, ground := Ground.phase }, { on := 9, ground := Ground.phase }, { on := 10, ground := Ground.phase }, { on := 11, ground := Ground.textOnly Departure.lateStores }], guard := none }) (g := w.heap.size + 1 + 1 + 1) (cs := (ideL X.2.1 A1 c1 A2 c2)) (t := 30) (old := (ideL d A c A' c')) (by kernel_rfl) (by kernel_rfl) (by kernel_rfl) rfl (by kernel_rfl) (by kernel_rfl) iG infoIde rfl (ideL_one _ _ _ _ _) ⟨jD, jN⟩ ?_
    simp only [Act.put]
    refine wpAnyH_done (by kernel_rfl) ?_ _
    go_wp2_with (first | (refine wpList_load_row rfl 30 _ rfl (w.heap.size + 1 + 1 + 1) rfl 30 _ (0, 0) _ jG Try.underlying30 rfl infoIde ?_) | (refine wpList_store_row rfl 30 _ _ rfl (w.heap.size + 1 + 1) (ideL X.2.1 A1 c1 A2 c2) rfl rfl 30 _ jR infoIde rfl (ideL_one _ _ _ _ _) ?_))
    exact bodyPost_ret (results_cell_row Try.results27 _ _ (w.heap.size + 1 + 1) 30 _ (0, 0) _ rfl (jR.row _) Try.underlying30 rfl infoIde) rfl ⟨A1, c1, A2, c2, rfl, jI.offRow (d' := (⟨⟨#[]⟩, 0, [], [], false⟩ : Ide)) (E := none) (e := 0) (E' := none) (e' := 0) jR _, belowRow jB (by omega) _⟩
  · have hX := HX.out
    have hqe := HQ.out
    rw [if_neg hz] at hqe
    have hX2 : sea8 d lb tx = X := by rw [hX, hqe]; rfl
    rw [hX2] at LC
    clear hX hX2 hqe
    go_wp2
    refine wp_region_held_drew (S := fun W => Is W w.heap.size 30 (ideL d A c A' c') ∧ Is W (w.heap.size + 1) 24 #[.int .i64 n0, .int .i64 n1, .int .i64 n2]) (by kernel_rfl) ⟨iD.drewN 1, iN.drewN 1⟩ (fun hS => ?_)
    change wpAnyH _ _ (opsOf Try.f27 4) _ _ 13 (Array.replicate 13 false) _ _
    clear hS
    replace iD := iD.drewN 1
    replace iN := iN.drewN 1
    replace iR := iR.drewN 1
    replace iG := iG.drewN 1
    replace hB := belowN hB 1
    change wpAnyH _ _ _ _ _ _ _ _ (V.drewN 1)
    generalize V.drewN 1 = V at *
    refine wpAnyH_pure (i := 0) (o := { dst := some 24, op := Op.load 30 (Operand.tmp 2), type := 30, pos := "law.go:63", after := #[], guard := none }) (v := (.agg (ideL d A c A' c'))) (by kernel_rfl) (by kernel_rfl) (by kernel_rfl) (by kernel_rfl) (fun _ _ _ h => h) (by kernel_rfl) (fun w hSw => by exact exec_load rfl rfl (run_loadVar_row _ _ 30 30 _ (0, 0) _ hSw.1 Try.underlying30 rfl infoIde)) ⟨iD, iN⟩ ?_
    simp only [Act.put, List.setIfInBounds_toArray, List.set_cons_succ, List.set_cons_zero]
    refine wpAnyH_pure (i := 1) (o := { dst := some 25, op := Op.indexAddr 24 (Operand.tmp 3) (Operand.const (Value.int IntKind.i64 1)), type := 0, pos := "law.go:63", after := #[], guard := none }) (v := .pointer (some ⟨w.heap.size + 1, 1, none⟩)) (by kernel_rfl) (by kernel_rfl) (by kernel_rfl) (by kernel_rfl) (fun _ _ _ h => h) (by kernel_rfl) (fun w hSw => by go_simp) ⟨iD, iN⟩ ?_
    simp only [Act.put, List.setIfInBounds_toArray, List.set_cons_succ, List.set_cons_zero]
    refine wpAnyH_pure (i := 2) (o := { dst := some 26, op := Op.load 3 (Operand.tmp 25), type := 3, pos := "law.go:63", after := #[{ on := 1, ground := Ground.data }], guard := none }) (v := .int .i64 n1) (by kernel_rfl) (by kernel_rfl) (by kernel_rfl) (by kernel_rfl) (fun _ _ _ h => h) (by kernel_rfl) (fun w hSw => by (have hc := Is.cell hSw.2 1; go_simp)) ⟨iD, iN⟩ ?_
    simp only [Act.put, List.setIfInBounds_toArray, List.set_cons_succ, List.set_cons_zero]
    refine wpAnyH_pure (i := 4) (o := { dst := some 28, op := Op.indexAddr 24 (Operand.tmp 3) (Operand.const (Value.int IntKind.i64 2)), type := 0, pos := "law.go:63", after := #[], guard := none }) (v := .pointer (some ⟨w.heap.size + 1, 2, none⟩)) (by kernel_rfl) (by kernel_rfl) (by kernel_rfl) (by kernel_rfl) (fun _ _ _ h => h) (by kernel_rfl) (fun w hSw => by go_simp) ⟨iD, iN⟩ ?_
    simp only [Act.put, List.setIfInBounds_toArray, List.set_cons_succ, List.set_cons_zero]
    refine wpAnyH_pure (i := 5) (o := { dst := some 29, op := Op.load 3 (Operand.tmp 28), type := 3, pos := "law.go:63", after := #[{ on := 4, ground := Ground.data }], guard := none }) (v := .int .i64 n2) (by kernel_rfl) (by kernel_rfl) (by kernel_rfl) (by kernel_rfl) (fun _ _ _ h => h) (by kernel_rfl) (fun w hSw => by (have hc := Is.cell hSw.2 2; go_simp)) ⟨iD, iN⟩ ?_
    simp only [Act.put, List.setIfInBounds_toArray, List.set_cons_succ, List.set_cons_zero]
    refine wpAnyH_call (i := 3) (o := { dst := some 27, op := Op.call { callee := Callee.value (Operand.func 19), args := #[Operand.tmp 26], argTypes := #[3] }, type := 9, pos := "law.go:63", after := #[{ on := 2, ground := Ground.data }], guard := none }) (by kernel_rfl) (by kernel_rfl) (by kernel_rfl) (fun w => by kernel_rfl) ((LB.out _).mono ?_)
    rintro e VB ⟨rfl, hb⟩
    replace iD := iD.below hb iD.lt
    replace iN := iN.below hb iN.lt
    replace iR := iR.below hb iR.lt
    replace iG := iG.below hb iG.lt
    replace hB := hB.trans (hb.mono hB.size)
    clear hb
    refine ⟨_, rfl, ⟨iD, iN⟩, ?_⟩
    try simp only [Act.put, List.setIfInBounds_toArray, List.set_cons_succ, List.set_cons_zero]
    refine wpAnyH_call (i := 6) (o := { dst := some 30, op := Op.call { callee := Callee.value (Operand.func 20), args := #[Operand.tmp 29], argTypes := #[3] }, type := 9, pos := "law.go:63", after := #[{ on := 5, ground := Ground.data }, { on := 3, ground := Ground.chain }], guard := none }) (by kernel_rfl) (by kernel_rfl) (by kernel_rfl) (fun w => by kernel_rfl) ((TX.out _).mono ?_)
    rintro e VT ⟨rfl, hb⟩
    replace iD := iD.below hb iD.lt
    replace iN := iN.below hb iN.lt
    replace iR := iR.below hb iR.lt
    replace iG := iG.below hb iG.lt
    replace hB := hB.trans (hb.mono hB.size)
    clear hb
    refine ⟨_, rfl, ⟨iD, iN⟩, ?_⟩
    try simp only [Act.put, List.setIfInBounds_toArray, List.set_cons_succ, List.set_cons_zero]
    refine wpAnyH_call (i := 7) (o := { dst := some 31, op := Op.call { callee := Callee.value (Operand.func 22), args := #[Operand.tmp 24, Operand.tmp 27, Operand.tmp 30], argTypes := #[30, 9, 9] }, type := 42, pos := "law.go:63", after := #[{ on := 0, ground := Ground.data }, { on := 3, ground := Ground.data }, { on := 6, ground := Ground.data }, { on := 6, ground := Ground.chain }], guard := none }) (by kernel_rfl) (by kernel_rfl) (by kernel_rfl) (fun w => by kernel_rfl) ((LC.out _ hB).mono ?_)
    rintro e VL ⟨A1, c1, A2, c2, rfl, hI, hb⟩
    replace iD := iD.below hb iD.lt
    replace iN := iN.below hb iN.lt
    replace iR := iR.below hb iR.lt
    replace iG := iG.below hb iG.lt
    replace hB := hB.trans (hb.mono hB.size)
    clear hb
    refine ⟨_, rfl, ⟨iD, iN⟩, ?_⟩
    try simp only [Act.put, List.setIfInBounds_toArray, List.set_cons_succ, List.set_cons_zero]
    refine wpAnyH_pure (i := 8) (o := { dst := some 23, op := Op.move (Operand.tmp 31), type := 42, pos := "law.go:63", after := #[{ on := 7, ground := Ground.data }], guard := none }) (v := .tuple #[.string X.1, (.agg (ideL X.2.1 A1 c1 A2 c2)), .int .i64 X.2.2]) (by kernel_rfl) (by kernel_rfl) (by kernel_rfl) (by kernel_rfl) (fun _ _ _ h => h) (by kernel_rfl) (fun w hSw => by kernel_rfl) ⟨iD, iN⟩ ?_
    simp only [Act.put, List.setIfInBounds_toArray, List.set_cons_succ, List.set_cons_zero]
    refine wpAnyH_pure (i := 9) (o := { dst := some 32, op := Op.extract (Operand.tmp 23) 0, type := 9, pos := "law.go:63", after := #[{ on := 8, ground := Ground.data }], guard := none }) (v := .string X.1) (by kernel_rfl) (by kernel_rfl) (by kernel_rfl) (by kernel_rfl) (fun _ _ _ h => h) (by kernel_rfl) (fun w hSw => by kernel_rfl) ⟨iD, iN⟩ ?_
    simp only [Act.put, List.setIfInBounds_toArray, List.set_cons_succ, List.set_cons_zero]
    refine wpAnyH_pure (i := 10) (o := { dst := some 33, op := Op.extract (Operand.tmp 23) 1, type := 30, pos := "law.go:63", after := #[{ on := 8, ground := Ground.data }], guard := none }) (v := (.agg (ideL X.2.1 A1 c1 A2 c2))) (by kernel_rfl) (by kernel_rfl) (by kernel_rfl) (by kernel_rfl) (fun _ _ _ h => h) (by kernel_rfl) (fun w hSw => by kernel_rfl) ⟨iD, iN⟩ ?_
    simp only [Act.put, List.setIfInBounds_toArray, List.set_cons_succ, List.set_cons_zero]
    refine wpAnyH_pure (i := 11) (o := { dst := some 34, op := Op.extract (Operand.tmp 23) 2, type := 33, pos := "law.go:63", after := #[{ on := 8, ground := Ground.data }, { on := 12, ground := Ground.gcOnly Departure.lateStores }], guard := none }) (v := .int .i64 X.2.2) (by kernel_rfl) (by kernel_rfl) (by kernel_rfl) (by kernel_rfl) (fun _ _ _ h => h) (by kernel_rfl) (fun w hSw => by kernel_rfl) ⟨iD, iN⟩ ?_
    simp only [Act.put, List.setIfInBounds_toArray, List.set_cons_succ, List.set_cons_zero]
    have jD := iD.rowFar (k := w.heap.size + 1 + 1 + 1) (by omega) (ideL X.2.1 A1 c1 A2 c2)
    have jN := iN.rowFar (k := w.heap.size + 1 + 1 + 1) (by omega) (ideL X.2.1 A1 c1 A2 c2)
    have jR := iR.rowFar (k := w.heap.size + 1 + 1 + 1) (by omega) (ideL X.2.1 A1 c1 A2 c2)
    have jG := iG.row (ideL X.2.1 A1 c1 A2 c2)
    have jB := belowRow hB (g := w.heap.size + 1 + 1 + 1) (by omega) (ideL X.2.1 A1 c1 A2 c2)
    have jI := hI.offRow iG (ideL X.2.1 A1 c1 A2 c2)
    refine wpAnyH_storerow (i := 12) (o := { dst := none, op := Op.store 30 (Operand.tmp 5) (Operand.tmp 33), type := 0, pos := "law.go:63", after := #[{ on := 10, ground := Ground.data }, { on := 7, ground := Ground.chain }, { on := 0, ground := Ground.phase }, { on := 1, ground := Ground.phase }, { on := 2, ground := Ground.phase }, { on := 3, ground := Ground.phase }, { on := 4, ground := Ground.phase }, { on := 5, ground := Ground.phase }, { on := 6, ground := Ground.phase }, { on := 7, ground := Ground.phase }, { on := 8, ground := Ground.phase }, { on := 9, ground := Ground.phase }, { on := 10, ground := Ground.phase }, { on := 11, ground := Ground.textOnly Departure.lateStores }], guard := none }) (g := w.heap.size + 1 + 1 + 1) (cs := (ideL X.2.1 A1 c1 A2 c2)) (t := 30) (old := (ideL d A c A' c')) (by kernel_rfl) (by kernel_rfl) (by kernel_rfl) rfl (by kernel_rfl) (by kernel_rfl) iG infoIde rfl (ideL_one _ _ _ _ _) ⟨jD, jN⟩ ?_
    simp only [Act.put]
    refine wpAnyH_done (by kernel_rfl) ?_ _
    go_wp2_with (first | (refine wpList_load_row rfl 30 _ rfl (w.heap.size + 1 + 1 + 1) rfl 30 _ (0, 0) _ jG Try.underlying30 rfl infoIde ?_) | (refine wpList_store_row rfl 30 _ _ rfl (w.heap.size + 1 + 1) (ideL X.2.1 A1 c1 A2 c2) rfl rfl 30 _ jR infoIde rfl (ideL_one _ _ _ _ _) ?_))
    exact bodyPost_ret (results_cell_row Try.results27 _ _ (w.heap.size + 1 + 1) 30 _ (0, 0) _ rfl (jR.row _) Try.underlying30 rfl infoIde) rfl ⟨A1, c1, A2, c2, rfl, jI.offRow (d' := (⟨⟨#[]⟩, 0, [], [], false⟩ : Ide)) (E := none) (e := 0) (E' := none) (e' := 0) jR _, belowRow jB (by omega) _⟩
end Go.Proofs.Ytdbdoammbnogaaa
