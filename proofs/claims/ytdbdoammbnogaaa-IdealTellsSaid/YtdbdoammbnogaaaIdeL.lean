/-
  Layer 8: contract of ideal.Label, the program's, where it ends early or was asked before. Condition: the ideal's lists lie where the slices point to.
-/
import Derived.Test.YtdbdoammbnogaaaIdeK
namespace Go.Proofs.Ytdbdoammbnogaaa
open Go.RowKit Go.Shelf

/-- a list is where it was, or in new memory. -/
def Own8 (w w' : World) (A A1 : Option Addr) : Prop := A1 = A ∨ ∀ p, A1 = some p → w.heap.size ≤ p.block ∧ p.block < w'.heap.size
theorem RowV.own8 {W : World} {base n size c : Nat} {e : TypeId} {A : Option Addr} {xs : List Value} (h : RowV W base e size A c n xs) : ∀ p, A = some p → base ≤ p.block ∧ p.block < W.heap.size := fun p hp => by
  rcases h.2 with ⟨h0, _⟩ | ⟨g, cap, cur, h0, hg, hi, _⟩
  · injection h0 with h1
    rw [h1] at hp
    cases hp
  · injection h0 with h1
    rw [h1] at hp
    cases hp
    exact ⟨hg, (Array.getElem?_eq_some_iff.1 hi).1⟩
theorem rowNil {W : World} {base n size c : Nat} {e : TypeId} {A : Option Addr} {xs : List Value} (h : RowV W base e size A c n xs) : A = none → c = 0 := fun hA => by
  rcases h.2 with ⟨h0, _⟩ | ⟨g, cap, cur, h0, _⟩
  · cases h0; rfl
  · rw [hA] at h0; cases h0
/-- the store of a row that comes next. -/
theorem wpAnyH_storerow {P : Program} {md : Region.Mode} {ops : Array Oper} {Q : Exit → Act → World → Prop} {S : World → Prop} {fuel i : Nat} {listed : Array Bool} {a : Act} {w : World} {o : Oper} {ty : TypeId} {x y : Operand} {g : Nat} {cs : Array Value} {t : TypeId} {old : Array Value} (hr : Region.ready md ops listed = [i]) (ho : ops[i]? = some o) (hw : Region.wanted o (yielded ops a.tmps) = true)
    (hop : o.op = .store ty x y) (hx : a.eval x = .pointer (some ⟨g, 0, none⟩)) (hy : a.eval y = .agg cs) (hg : Is w g t old) (hi : (P.info? ty).map (·.size) = some cs.size) (hold : old.size = cs.size) (h1 : cs.all (·.oneCell') = true)
    (hS : S (w.setRow g cs)) (h : wpAnyH P md ops Q S fuel (listed.setIfInBounds i true) (a.put o.dst undef) (w.setRow g cs)) : wpAnyH P md ops Q S (fuel + 1) listed a w :=
  wpAnyH_step hr ho hw fun _ hK => wp_store_row ty x y hop g cs hx hy t old hg hi hold h1 (hK.out _ _ hS fun _ => h)

set_option maxRecDepth 100000 in
set_option maxHeartbeats 4000000 in
theorem label_a (d : Ide) (A : Option Addr) (c : Nat) (A' : Option Addr) (c' : Nat) (i : ByteArray) (w : World) (h : InI w d A c A' c') (hr : right8 d = false) :
    Calls Try.prog 15 #[ideV d A c A' c', .string i] w fun e w' => ∃ A1 c1 A2 c2, e = .returned (.tuple #[.string ⟨#[]⟩, ideV d A1 c1 A2 c2, .int .i64 1]) ∧ InI w' d A1 c1 A2 c2 ∧ Below w.heap.size w w' ∧ Own8 w w' A A1 ∧ Own8 w w' A' A2 := by
  have HI := Lib.hid h
  have C := Lib.hid (fun (W : World) (hb : Below w.heap.size w W) => right_any d A c A' c' W (h.keep hb))
  rw [hr] at C
  clear hr
  clear h
  obtain ⟨V1, hV1⟩ : ∃ W, W = (w.alloc (.cells (ideL d A c A' c') 30)).alloc (.cells zer8 30) := ⟨_, rfl⟩
  have iD1 : Is V1 w.heap.size 30 (ideL d A c A' c') := by rw [hV1]; exact heap_alloc2_old w _ _
  have iR1 : Is V1 (w.heap.size + 1) 30 zer8 := by rw [hV1]; exact heap_alloc2_new w _ _
  have hB1 : Below w.heap.size w V1 := by rw [hV1]; exact ((Below.refl _ _).alloc (Nat.le_refl _) _).alloc (by simp) _
  go_enter Try.func15, Try.ntmps15
  go_wp2_with fail
  rw [← hV1]
  clear hV1
  go_wp2_with (refine wpList_load_row rfl 30 _ rfl w.heap.size rfl 30 _ (0, 0) _ iD1 Try.underlying30 rfl infoIde ?_)
  refine (C.out _ hB1).mono ?_
  rintro e V2 ⟨rfl, hx⟩
  have iD2 := iD1.below hx iD1.lt
  have iR2 := iR1.below hx iR1.lt
  have hB2 := hB1.trans (hx.mono hB1.size)
  clear hx
  clear iD1 iR1 hB1
  go_wp2
  have iDd : Is V2.drew w.heap.size 30 (ideL d A c A' c') := iD2
  have iRd : Is V2.drew (w.heap.size + 1) 30 zer8 := iR2
  have hBd : Below w.heap.size w V2.drew := belowN hB2 1
  refine wp_region_held_drew (S := fun W => Is W w.heap.size 30 (ideL d A c A' c')) (by kernel_rfl) iDd (fun hS => ?_)
  change wpAnyH _ _ (opsOf Try.f15 2) _ _ 4 (Array.replicate 4 false) _ _
  clear hS iD2 iR2 hB2
  generalize V2.drew = V at *
  refine wpAnyH_pure (i := 0) (o := { dst := some 23, op := Op.load 30 (Operand.tmp 2), type := 30, pos := "ideal.go:34", after := #[{ on := 1, ground := Ground.gcOnly Departure.lateStores }], guard := none }) (v := .agg (ideL d A c A' c')) (by kernel_rfl) (by kernel_rfl) (by kernel_rfl) (by kernel_rfl) (fun _ _ _ h => h) (by kernel_rfl) (fun w hSw => by exact exec_load rfl rfl (run_loadVar_row _ _ 30 30 _ (0, 0) _ hSw Try.underlying30 rfl infoIde)) iDd ?_
  simp only [Act.put, List.setIfInBounds_toArray, List.set_cons_succ, List.set_cons_zero]
  refine wpAnyH_pure (i := 1) (o := { dst := some 4, op := Op.assign (Operand.const (Value.string { data := #[] })), type := 9, pos := "ideal.go:34", after := #[{ on := 0, ground := Ground.textOnly Departure.lateStores }], guard := none }) (v := .string { data := #[] }) (by kernel_rfl) (by kernel_rfl) (by kernel_rfl) (by kernel_rfl) (fun _ _ _ h => h) (by kernel_rfl) (fun w hSw => by kernel_rfl) iDd ?_
  simp only [Act.put, List.setIfInBounds_toArray, List.set_cons_succ, List.set_cons_zero]
  have iDz : Is (V.setRow (w.heap.size + 1) (ideL d A c A' c')) w.heap.size 30 (ideL d A c A' c') := iDd.rowFar (by omega) _
  refine wpAnyH_storerow (i := 2) (o := { dst := none, op := Op.store 30 (Operand.tmp 5) (Operand.tmp 23), type := 0, pos := "ideal.go:34", after := #[{ on := 0, ground := Ground.data }, { on := 1, ground := Ground.chain }, { on := 0, ground := Ground.phase }, { on := 1, ground := Ground.phase }], guard := none }) (g := w.heap.size + 1) (cs := (ideL d A c A' c')) (t := 30) (old := zer8) (by kernel_rfl) (by kernel_rfl) (by kernel_rfl) rfl (by kernel_rfl) (by kernel_rfl) iRd infoIde rfl (ideL_one _ _ _ _ _) iDz ?_
  simp only [Act.put]
  refine wpAnyH_pure (i := 3) (o := { dst := some 6, op := Op.assign (Operand.const (Value.int IntKind.i64 1)), type := 33, pos := "ideal.go:34", after := #[{ on := 2, ground := Ground.chain }, { on := 0, ground := Ground.phase }, { on := 1, ground := Ground.phase }, { on := 2, ground := Ground.phase }], guard := none }) (v := .int .i64 1) (by kernel_rfl) (by kernel_rfl) (by kernel_rfl) (by kernel_rfl) (fun _ _ _ h => h) (by kernel_rfl) (fun w hSw => by kernel_rfl) iDz ?_
  simp only [Act.put, List.setIfInBounds_toArray, List.set_cons_succ, List.set_cons_zero]
  refine wpAnyH_done (by kernel_rfl) ?_ _
  go_wp2
  exact bodyPost_ret (results_tct Try.results15 _ _ _ (w.heap.size + 1) 30 _ (0, 0) _ rfl (iRd.row _) Try.underlying30 infoIde) rfl ⟨A, c, A', c', rfl, HI.out.keep (belowRow hBd (by simp) _), belowRow hBd (by simp) _, Or.inl rfl, Or.inl rfl⟩

set_option maxRecDepth 100000 in
set_option maxHeartbeats 4000000 in
theorem label_b (d : Ide) (A : Option Addr) (c : Nat) (A' : Option Addr) (c' : Nat) (i : ByteArray) (w : World) (h : InI w d A c A' c') (hr : right8 d = true) (hi : 100 < (i.size : Int)) :
    Calls Try.prog 15 #[ideV d A c A' c', .string i] w fun e w' => ∃ A1 c1 A2 c2, e = .returned (.tuple #[.string ⟨#[]⟩, ideV d A1 c1 A2 c2, .int .i64 1]) ∧ InI w' d A1 c1 A2 c2 ∧ Below w.heap.size w w' ∧ Own8 w w' A A1 ∧ Own8 w w' A' A2 := by
  have HI := Lib.hid h
  have C := Lib.hid (fun (W : World) (hb : Below w.heap.size w W) => right_any d A c A' c' W (h.keep hb))
  rw [hr] at C
  clear hr
  clear h
  obtain ⟨V1, hV1⟩ : ∃ W, W = (w.alloc (.cells (ideL d A c A' c') 30)).alloc (.cells zer8 30) := ⟨_, rfl⟩
  have iD1 : Is V1 w.heap.size 30 (ideL d A c A' c') := by rw [hV1]; exact heap_alloc2_old w _ _
  have iR1 : Is V1 (w.heap.size + 1) 30 zer8 := by rw [hV1]; exact heap_alloc2_new w _ _
  have hB1 : Below w.heap.size w V1 := by rw [hV1]; exact ((Below.refl _ _).alloc (Nat.le_refl _) _).alloc (by simp) _
  go_enter Try.func15, Try.ntmps15
  go_wp2_with fail
  rw [← hV1]
  clear hV1
  go_wp2_with (refine wpList_load_row rfl 30 _ rfl w.heap.size rfl 30 _ (0, 0) _ iD1 Try.underlying30 rfl infoIde ?_)
  refine (C.out _ hB1).mono ?_
  rintro e V2 ⟨rfl, hx⟩
  have iD2 := iD1.below hx iD1.lt
  have iR2 := iR1.below hx iR1.lt
  have hB2 := hB1.trans (hx.mono hB1.size)
  clear hx
  clear iD1 iR1 hB1
  go_wp2
  have iDd : Is V2.drew w.heap.size 30 (ideL d A c A' c') := iD2
  have iRd : Is V2.drew (w.heap.size + 1) 30 zer8 := iR2
  have hBd : Below w.heap.size w V2.drew := belowN hB2 1
  refine wp_region_held_drew (S := fun W => Is W w.heap.size 30 (ideL d A c A' c')) (by kernel_rfl) iDd (fun hS => ?_)
  change wpAnyH _ _ (opsOf Try.f15 2) _ _ 4 (Array.replicate 4 false) _ _
  clear hS iD2 iR2 hB2
  generalize V2.drew = V at *
  refine wpAnyH_pure (i := 0) (o := { dst := some 23, op := Op.load 30 (Operand.tmp 2), type := 30, pos := "ideal.go:34", after := #[{ on := 1, ground := Ground.gcOnly Departure.lateStores }], guard := none }) (v := .agg (ideL d A c A' c')) (by kernel_rfl) (by kernel_rfl) (by kernel_rfl) (by kernel_rfl) (fun _ _ _ h => h) (by kernel_rfl) (fun w hSw => by exact exec_load rfl rfl (run_loadVar_row _ _ 30 30 _ (0, 0) _ hSw Try.underlying30 rfl infoIde)) iDd ?_
  simp only [Act.put, List.setIfInBounds_toArray, List.set_cons_succ, List.set_cons_zero]
  refine wpAnyH_pure (i := 1) (o := { dst := some 4, op := Op.assign (Operand.const (Value.string { data := #[] })), type := 9, pos := "ideal.go:34", after := #[{ on := 0, ground := Ground.textOnly Departure.lateStores }], guard := none }) (v := .string { data := #[] }) (by kernel_rfl) (by kernel_rfl) (by kernel_rfl) (by kernel_rfl) (fun _ _ _ h => h) (by kernel_rfl) (fun w hSw => by kernel_rfl) iDd ?_
  simp only [Act.put, List.setIfInBounds_toArray, List.set_cons_succ, List.set_cons_zero]
  have iDz : Is (V.setRow (w.heap.size + 1) (ideL d A c A' c')) w.heap.size 30 (ideL d A c A' c') := iDd.rowFar (by omega) _
  refine wpAnyH_storerow (i := 2) (o := { dst := none, op := Op.store 30 (Operand.tmp 5) (Operand.tmp 23), type := 0, pos := "ideal.go:34", after := #[{ on := 0, ground := Ground.data }, { on := 1, ground := Ground.chain }, { on := 0, ground := Ground.phase }, { on := 1, ground := Ground.phase }], guard := none }) (g := w.heap.size + 1) (cs := (ideL d A c A' c')) (t := 30) (old := zer8) (by kernel_rfl) (by kernel_rfl) (by kernel_rfl) rfl (by kernel_rfl) (by kernel_rfl) iRd infoIde rfl (ideL_one _ _ _ _ _) iDz ?_
  simp only [Act.put]
  refine wpAnyH_pure (i := 3) (o := { dst := some 6, op := Op.assign (Operand.const (Value.int IntKind.i64 1)), type := 33, pos := "ideal.go:34", after := #[{ on := 2, ground := Ground.chain }, { on := 0, ground := Ground.phase }, { on := 1, ground := Ground.phase }, { on := 2, ground := Ground.phase }], guard := none }) (v := .int .i64 1) (by kernel_rfl) (by kernel_rfl) (by kernel_rfl) (by kernel_rfl) (fun _ _ _ h => h) (by kernel_rfl) (fun w hSw => by kernel_rfl) iDz ?_
  simp only [Act.put, List.setIfInBounds_toArray, List.set_cons_succ, List.set_cons_zero]
  refine wpAnyH_done (by kernel_rfl) ?_ _
  go_wp2
  exact bodyPost_ret (results_tct Try.results15 _ _ _ (w.heap.size + 1) 30 _ (0, 0) _ rfl (iRd.row _) Try.underlying30 infoIde) rfl ⟨A, c, A', c', rfl, HI.out.keep (belowRow hBd (by simp) _), belowRow hBd (by simp) _, Or.inl rfl, Or.inl rfl⟩

set_option maxRecDepth 100000 in
set_option maxHeartbeats 4000000 in
theorem label_c (d : Ide) (A : Option Addr) (c : Nat) (A' : Option Addr) (c' : Nat) (i : ByteArray) (w : World) (h : InI w d A c A' c') (hr : right8 d = true) (hi : ¬ (100 < (i.size : Int))) (y : ByteArray) (hf : find8 d.N i = (y, true)) :
    Calls Try.prog 15 #[ideV d A c A' c', .string i] w fun e w' => ∃ A1 c1 A2 c2, e = .returned (.tuple #[.string y, ideV d A1 c1 A2 c2, .int .i64 0]) ∧ InI w' d A1 c1 A2 c2 ∧ Below w.heap.size w w' ∧ Own8 w w' A A1 ∧ Own8 w w' A' A2 := by
  have HI := Lib.hid h
  have C := Lib.hid (fun (W : World) (hb : Below w.heap.size w W) => right_any d A c A' c' W (h.keep hb))
  rw [hr] at C
  have CF := Lib.hid (fun (W : World) (Bd : Nat) (hb : Below w.heap.size w W) (hBd : Is W Bd 30 (ideL d A c A' c')) => h.fiN Bd hb hBd i)
  rw [hf] at CF
  clear hr hf
  clear h
  obtain ⟨V1, hV1⟩ : ∃ W, W = (w.alloc (.cells (ideL d A c A' c') 30)).alloc (.cells zer8 30) := ⟨_, rfl⟩
  have iD1 : Is V1 w.heap.size 30 (ideL d A c A' c') := by rw [hV1]; exact heap_alloc2_old w _ _
  have iR1 : Is V1 (w.heap.size + 1) 30 zer8 := by rw [hV1]; exact heap_alloc2_new w _ _
  have hB1 : Below w.heap.size w V1 := by rw [hV1]; exact ((Below.refl _ _).alloc (Nat.le_refl _) _).alloc (by simp) _
  go_enter Try.func15, Try.ntmps15
  go_wp2_with fail
  rw [← hV1]
  clear hV1
  go_wp2_with (refine wpList_load_row rfl 30 _ rfl w.heap.size rfl 30 _ (0, 0) _ iD1 Try.underlying30 rfl infoIde ?_)
  refine (C.out _ hB1).mono ?_
  rintro e V2 ⟨rfl, hx⟩
  have iD2 := iD1.below hx iD1.lt
  have iR2 := iR1.below hx iR1.lt
  have hB2 := hB1.trans (hx.mono hB1.size)
  clear hx
  clear iD1 iR1 hB1
  go_wp2_with (refine wpList_load_row rfl 30 _ rfl w.heap.size rfl 30 _ (0, 0) _ iD2 Try.underlying30 rfl infoIde ?_)
  refine (names_any _ _ _ _ _ _).mono ?_
  rintro e V ⟨rfl, rfl⟩
  have iC3 : Is (V2.alloc (.cells (ideL d A c A' c') 30)) V2.heap.size 30 (ideL d A c A' c') := Is.new _ _ _
  have iD3 := iD2.alloc (.cells (ideL d A c A' c') 30)
  have iR3 := iR2.alloc (.cells (ideL d A c A' c') 30)
  have hB3 := hB2.alloc hB2.size (.cells (ideL d A c A' c') 30)
  have hC : w.heap.size + 1 < V2.heap.size := iR2.lt
  clear iD2 iR2 hB2
  generalize V2.alloc (.cells (ideL d A c A' c') 30) = V3 at *
  generalize V2.heap.size = BC at *
  go_wp2_with fail
  refine (CF.out _ BC hB3 iC3).mono ?_
  rintro e V4 ⟨rfl, hx⟩
  have iD4 := iD3.below hx iD3.lt
  have iR4 := iR3.below hx iR3.lt
  have hB4 := hB3.trans (hx.mono hB3.size)
  clear iC3
  clear hx
  clear iD3 iR3 hB3
  go_wp2_with (refine wpList_load_row rfl 30 _ rfl w.heap.size rfl 30 _ (0, 0) _ iD4 Try.underlying30 rfl infoIde ?_)
  refine (copy_any d A c A' c' _ (HI.out.keep hB4)).mono ?_
  rintro e V5 ⟨A1, c1, A2, c2, rfl, r1, r2, hx⟩
  have O1 := Lib.hid (r1.mono hB4.size)
  have O2 := Lib.hid (r2.mono hB4.size)
  have iD5 := iD4.below hx iD4.lt
  have iR5 := iR4.below hx iR4.lt
  have hB5 := hB4.trans (hx.mono hB4.size)
  clear hx
  clear iD4 iR4 hB4
  go_wp2_with (refine wpList_store_row rfl 30 _ _ rfl (w.heap.size + 1) (ideL d A1 c1 A2 c2) rfl rfl 30 _ iR5 infoIde rfl (ideL_one _ _ _ _ _) ?_)
  have z1 := (r1.rowFar iR5 (by decide) (ideL d A1 c1 A2 c2)).inV
  have z2 := (r2.rowFar iR5 (by decide) (ideL d A1 c1 A2 c2)).inV
  have n1 := rowNil r1
  have n2 := rowNil r2
  exact bodyPost_ret (results_tct Try.results15 _ _ _ (w.heap.size + 1) 30 _ (0, 0) _ rfl (iR5.row _) Try.underlying30 infoIde) rfl ⟨A1, c1, A2, c2, rfl, ⟨z1, z2, n1, n2, HI.out.fit, HI.out.fitK⟩, belowRow hB5 (by simp) _, Or.inr (O1.out.rowFar iR5 (by decide) _).own8, Or.inr (O2.out.rowFar iR5 (by decide) _).own8⟩

set_option maxRecDepth 100000 in
set_option maxHeartbeats 4000000 in
theorem label_d (d : Ide) (A : Option Addr) (c : Nat) (A' : Option Addr) (c' : Nat) (i : ByteArray) (w : World) (h : InI w d A c A' c') (hr : right8 d = true) (hi : ¬ (100 < (i.size : Int))) (y : ByteArray) (hf : find8 d.N i = (y, false)) (hl : 2000 ≤ (d.N.length : Int)) :
    Calls Try.prog 15 #[ideV d A c A' c', .string i] w fun e w' => ∃ A1 c1 A2 c2, e = .returned (.tuple #[.string ⟨#[]⟩, ideV d A1 c1 A2 c2, .int .i64 2]) ∧ InI w' d A1 c1 A2 c2 ∧ Below w.heap.size w w' ∧ Own8 w w' A A1 ∧ Own8 w w' A' A2 := by
  have HI := Lib.hid h
  have C := Lib.hid (fun (W : World) (hb : Below w.heap.size w W) => right_any d A c A' c' W (h.keep hb))
  rw [hr] at C
  have CF := Lib.hid (fun (W : World) (Bd : Nat) (hb : Below w.heap.size w W) (hBd : Is W Bd 30 (ideL d A c A' c')) => h.fiN Bd hb hBd i)
  rw [hf] at CF
  clear hr hf
  clear h
  obtain ⟨V1, hV1⟩ : ∃ W, W = (w.alloc (.cells (ideL d A c A' c') 30)).alloc (.cells zer8 30) := ⟨_, rfl⟩
  have iD1 : Is V1 w.heap.size 30 (ideL d A c A' c') := by rw [hV1]; exact heap_alloc2_old w _ _
  have iR1 : Is V1 (w.heap.size + 1) 30 zer8 := by rw [hV1]; exact heap_alloc2_new w _ _
  have hB1 : Below w.heap.size w V1 := by rw [hV1]; exact ((Below.refl _ _).alloc (Nat.le_refl _) _).alloc (by simp) _
  go_enter Try.func15, Try.ntmps15
  go_wp2_with fail
  rw [← hV1]
  clear hV1
  go_wp2_with (refine wpList_load_row rfl 30 _ rfl w.heap.size rfl 30 _ (0, 0) _ iD1 Try.underlying30 rfl infoIde ?_)
  refine (C.out _ hB1).mono ?_
  rintro e V2 ⟨rfl, hx⟩
  have iD2 := iD1.below hx iD1.lt
  have iR2 := iR1.below hx iR1.lt
  have hB2 := hB1.trans (hx.mono hB1.size)
  clear hx
  clear iD1 iR1 hB1
  go_wp2_with (refine wpList_load_row rfl 30 _ rfl w.heap.size rfl 30 _ (0, 0) _ iD2 Try.underlying30 rfl infoIde ?_)
  refine (names_any _ _ _ _ _ _).mono ?_
  rintro e V ⟨rfl, rfl⟩
  have iC3 : Is (V2.alloc (.cells (ideL d A c A' c') 30)) V2.heap.size 30 (ideL d A c A' c') := Is.new _ _ _
  have iD3 := iD2.alloc (.cells (ideL d A c A' c') 30)
  have iR3 := iR2.alloc (.cells (ideL d A c A' c') 30)
  have hB3 := hB2.alloc hB2.size (.cells (ideL d A c A' c') 30)
  have hC : w.heap.size + 1 < V2.heap.size := iR2.lt
  clear iD2 iR2 hB2
  generalize V2.alloc (.cells (ideL d A c A' c') 30) = V3 at *
  generalize V2.heap.size = BC at *
  go_wp2_with fail
  refine (CF.out _ BC hB3 iC3).mono ?_
  rintro e V4 ⟨rfl, hx⟩
  have iD4 := iD3.below hx iD3.lt
  have iR4 := iR3.below hx iR3.lt
  have hB4 := hB3.trans (hx.mono hB3.size)
  clear iC3
  clear hx
  clear iD3 iR3 hB3
  have q2 : V4.cell? ⟨w.heap.size, 2, none⟩ = some (.slice A d.N.length c) := iD4.cell 2
  go_wp2
  have iDd : Is V4.drew w.heap.size 30 (ideL d A c A' c') := iD4
  have iRd : Is V4.drew (w.heap.size + 1) 30 zer8 := iR4
  have hBd : Below w.heap.size w V4.drew := belowN hB4 1
  refine wp_region_held_drew (S := fun W => Is W w.heap.size 30 (ideL d A c A' c')) (by kernel_rfl) iDd (fun hS => ?_)
  change wpAnyH _ _ (opsOf Try.f15 7) _ _ 4 (Array.replicate 4 false) _ _
  clear hS iD4 iR4 hB4
  generalize V4.drew = V at *
  refine wpAnyH_pure (i := 0) (o := { dst := some 39, op := Op.load 30 (Operand.tmp 2), type := 30, pos := "ideal.go:40", after := #[{ on := 1, ground := Ground.gcOnly Departure.lateStores }], guard := none }) (v := .agg (ideL d A c A' c')) (by kernel_rfl) (by kernel_rfl) (by kernel_rfl) (by kernel_rfl) (fun _ _ _ h => h) (by kernel_rfl) (fun w hSw => by exact exec_load rfl rfl (run_loadVar_row _ _ 30 30 _ (0, 0) _ hSw Try.underlying30 rfl infoIde)) iDd ?_
  simp only [Act.put, List.setIfInBounds_toArray, List.set_cons_succ, List.set_cons_zero]
  refine wpAnyH_pure (i := 1) (o := { dst := some 4, op := Op.assign (Operand.const (Value.string { data := #[] })), type := 9, pos := "ideal.go:40", after := #[{ on := 0, ground := Ground.textOnly Departure.lateStores }], guard := none }) (v := .string { data := #[] }) (by kernel_rfl) (by kernel_rfl) (by kernel_rfl) (by kernel_rfl) (fun _ _ _ h => h) (by kernel_rfl) (fun w hSw => by kernel_rfl) iDd ?_
  simp only [Act.put, List.setIfInBounds_toArray, List.set_cons_succ, List.set_cons_zero]
  have iDz : Is (V.setRow (w.heap.size + 1) (ideL d A c A' c')) w.heap.size 30 (ideL d A c A' c') := iDd.rowFar (by omega) _
  refine wpAnyH_storerow (i := 2) (o := { dst := none, op := Op.store 30 (Operand.tmp 5) (Operand.tmp 39), type := 0, pos := "ideal.go:40", after := #[{ on := 0, ground := Ground.data }, { on := 1, ground := Ground.chain }, { on := 0, ground := Ground.phase }, { on := 1, ground := Ground.phase }], guard := none }) (g := w.heap.size + 1) (cs := (ideL d A c A' c')) (t := 30) (old := zer8) (by kernel_rfl) (by kernel_rfl) (by kernel_rfl) rfl (by kernel_rfl) (by kernel_rfl) iRd infoIde rfl (ideL_one _ _ _ _ _) iDz ?_
  simp only [Act.put]
  refine wpAnyH_pure (i := 3) (o := { dst := some 6, op := Op.assign (Operand.const (Value.int IntKind.i64 2)), type := 33, pos := "ideal.go:40", after := #[{ on := 2, ground := Ground.chain }, { on := 0, ground := Ground.phase }, { on := 1, ground := Ground.phase }, { on := 2, ground := Ground.phase }], guard := none }) (v := .int .i64 2) (by kernel_rfl) (by kernel_rfl) (by kernel_rfl) (by kernel_rfl) (fun _ _ _ h => h) (by kernel_rfl) (fun w hSw => by kernel_rfl) iDz ?_
  simp only [Act.put, List.setIfInBounds_toArray, List.set_cons_succ, List.set_cons_zero]
  refine wpAnyH_done (by kernel_rfl) ?_ _
  go_wp2
  exact bodyPost_ret (results_tct Try.results15 _ _ _ (w.heap.size + 1) 30 _ (0, 0) _ rfl (iRd.row _) Try.underlying30 infoIde) rfl ⟨A, c, A', c', rfl, HI.out.keep (belowRow hBd (by simp) _), belowRow hBd (by simp) _, Or.inl rfl, Or.inl rfl⟩
end Go.Proofs.Ytdbdoammbnogaaa
