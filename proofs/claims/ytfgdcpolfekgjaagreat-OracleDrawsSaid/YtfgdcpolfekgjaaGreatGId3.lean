/-
  Layer 8: contract of ideal.Label, the program's, where it ends early or was asked before. Condition: the ideal's lists lie where the slices point to.
  Layer 8: contract of ideal.Label, the program's, where the tape has no more. Condition: the ideal's lists lie where the slices point to.
  Layer 8: contract of ideal.Label, the program's, where it draws, behind a clash. Condition: the ideal's lists lie where the slices point to.
  Layer 8: contract of ideal.Label, the program's, where it draws, without a clash. Condition: the ideal's lists lie where the slices point to.
  Layer 8: contract of ideal.Seal, the program's, where it ends early or was asked before. Condition: the ideal's lists lie where the slices point to.
  Layer 8: contract of ideal.Seal, the program's, where the tape has no more. Condition: the ideal's lists lie where the slices point to.
  Layer 8: contract of ideal.Seal, the program's, where it draws, behind a clash. Condition: the ideal's lists lie where the slices point to.
  Layer 8: contract of ideal.Seal, the program's, where it draws, without a clash. Condition: the ideal's lists lie where the slices point to.
  Layer 8: contracts of ideal.Label and ideal.Seal, the program's, whatever they are asked. Condition: the ideal's lists lie where the slices point to.
-/
import Derived.Test.YtfgdcpolfekgjaaGreatGId2
namespace Go.Proofs.YtfgdcpolfekgjaaGreat
open Go.RowKit Go.Shelf

/-- a list is where it was, or in new memory. -/
def Own8 (w w' : World) (A A1 : Option Addr) : Prop := A1 = A ∨ ∀ p, A1 = some p → w.heap.size ≤ p.block ∧ p.block < w'.heap.size
theorem RowV.own8 {W : World} {base n size c : Nat} {e : TypeId} {A : Option Addr} {xs : List Value} (h : RowV W base e size A c n xs) : ∀ p, A = some p → base ≤ p.block ∧ p.block < W.heap.size := fun p hp => by
  rcases h.2 with ⟨h0, _⟩ | ⟨g, cap, cur, h0, hg, hi, _⟩
  · injection h0 with h1
    rw [h1] at hp
    cases hp
  · injection h0 with h1
    rw [h1] at hp
    cases hp
    exact ⟨hg, (Array.getElem?_eq_some_iff.1 hi).1⟩
theorem rowNil {W : World} {base n size c : Nat} {e : TypeId} {A : Option Addr} {xs : List Value} (h : RowV W base e size A c n xs) : A = none → c = 0 := fun hA => by
  rcases h.2 with ⟨h0, _⟩ | ⟨g, cap, cur, h0, _⟩
  · cases h0; rfl
  · rw [hA] at h0; cases h0
/-- the store of a row that comes next. -/
theorem wpAnyH_storerow {P : Program} {md : Region.Mode} {ops : Array Oper} {Q : Exit → Act → World → Prop} {S : World → Prop} {fuel i : Nat} {listed : Array Bool} {a : Act} {w : World} {o : Oper} {ty : TypeId} {x y : Operand} {g : Nat} {cs : Array Value} {t : TypeId} {old : Array Value} (hr : Region.ready md ops listed = [i]) (ho : ops[i]? = some o) (hw : Region.wanted o (yielded ops a.tmps) = true)
    (hop : o.op = .store ty x y) (hx : a.eval x = .pointer (some ⟨g, 0, none⟩)) (hy : a.eval y = .agg cs) (hg : Is w g t old) (hi : (P.info? ty).map (·.size) = some cs.size) (hold : old.size = cs.size) (h1 : cs.all (·.oneCell') = true)
    (hS : S (w.setRow g cs)) (h : wpAnyH P md ops Q S fuel (listed.setIfInBounds i true) (a.put o.dst undef) (w.setRow g cs)) : wpAnyH P md ops Q S (fuel + 1) listed a w :=
  wpAnyH_step hr ho hw fun _ hK => wp_store_row ty x y hop g cs hx hy t old hg hi hold h1 (hK.out _ _ hS fun _ => h)

set_option maxRecDepth 100000 in
set_option maxHeartbeats 4000000 in
theorem label_a (d : Ide) (A : Option Addr) (c : Nat) (A' : Option Addr) (c' : Nat) (i : ByteArray) (w : World) (h : InI w d A c A' c') (hr : right8 d = false) :
    Calls Tryz.prog 127 #[ideV d A c A' c', .string i] w fun e w' => ∃ A1 c1 A2 c2, e = .returned (.tuple #[.string ⟨#[]⟩, ideV d A1 c1 A2 c2, .int .i64 1]) ∧ InI w' d A1 c1 A2 c2 ∧ Below w.heap.size w w' ∧ Own8 w w' A A1 ∧ Own8 w w' A' A2 := by
  have HI := Lib.hid h
  have C := Lib.hid (fun (W : World) (hb : Below w.heap.size w W) => iright_any d A c A' c' W (h.keep hb))
  rw [hr] at C
  clear hr
  clear h
  obtain ⟨V1, hV1⟩ : ∃ W, W = (w.alloc (.cells (ideL d A c A' c') 29)).alloc (.cells zer8 29) := ⟨_, rfl⟩
  have iD1 : Is V1 w.heap.size 29 (ideL d A c A' c') := by rw [hV1]; exact heap_alloc2_old w _ _
  have iR1 : Is V1 (w.heap.size + 1) 29 zer8 := by rw [hV1]; exact heap_alloc2_new w _ _
  have hB1 : Below w.heap.size w V1 := by rw [hV1]; exact ((Below.refl _ _).alloc (Nat.le_refl _) _).alloc (by simp) _
  go_enter Tryz.func127, Tryz.ntmps127
  go_wp2_with fail
  rw [← hV1]
  clear hV1
  go_wp2_with (refine wpList_load_row rfl 29 _ rfl w.heap.size rfl 29 _ (0, 0) _ iD1 Tryz.underlying29 rfl infoIde ?_)
  refine (C.out _ hB1).mono ?_
  rintro e V2 ⟨rfl, hx⟩
  have iD2 := iD1.below hx iD1.lt
  have iR2 := iR1.below hx iR1.lt
  have hB2 := hB1.trans (hx.mono hB1.size)
  clear hx
  clear iD1 iR1 hB1
  go_wp2
  have iDd : Is V2.drew w.heap.size 29 (ideL d A c A' c') := iD2
  have iRd : Is V2.drew (w.heap.size + 1) 29 zer8 := iR2
  have hBd : Below w.heap.size w V2.drew := belowN hB2 1
  refine wp_region_held_drew (S := fun W => Is W w.heap.size 29 (ideL d A c A' c')) (by kernel_rfl) iDd (fun hS => ?_)
  change wpAnyH _ _ (opsOf Tryz.f127 2) _ _ 4 (Array.replicate 4 false) _ _
  clear hS iD2 iR2 hB2
  generalize V2.drew = V at *
  refine wpAnyH_pure (i := 0) (v := .agg (ideL d A c A' c')) (at_nth rfl) (by kernel_rfl) (by kernel_rfl) (by kernel_rfl) (fun _ _ _ h => h) (by kernel_rfl) (fun w hSw => by exact exec_load rfl rfl (run_loadVar_row _ _ 29 29 _ (0, 0) _ hSw Tryz.underlying29 rfl infoIde)) iDd ?_
  simp only [Act.put, List.setIfInBounds_toArray, List.set_cons_succ, List.set_cons_zero]
  refine wpAnyH_pure (i := 1) (v := .string { data := #[] }) (at_nth rfl) (by kernel_rfl) (by kernel_rfl) (by kernel_rfl) (fun _ _ _ h => h) (by kernel_rfl) (fun w hSw => by kernel_rfl) iDd ?_
  simp only [Act.put, List.setIfInBounds_toArray, List.set_cons_succ, List.set_cons_zero]
  have iDz : Is (V.setRow (w.heap.size + 1) (ideL d A c A' c')) w.heap.size 29 (ideL d A c A' c') := iDd.rowFar (by omega) _
  refine wpAnyH_storerow (i := 2) (g := w.heap.size + 1) (cs := (ideL d A c A' c')) (t := 29) (old := zer8) (by kernel_rfl) (at_nth rfl) (by kernel_rfl) rfl (by kernel_rfl) (by kernel_rfl) iRd infoIde rfl (ideL_one _ _ _ _ _) iDz ?_
  simp only [Act.put]
  refine wpAnyH_pure (i := 3) (v := .int .i64 1) (at_nth rfl) (by kernel_rfl) (by kernel_rfl) (by kernel_rfl) (fun _ _ _ h => h) (by kernel_rfl) (fun w hSw => by kernel_rfl) iDz ?_
  simp only [Act.put, List.setIfInBounds_toArray, List.set_cons_succ, List.set_cons_zero]
  refine wpAnyH_done (by kernel_rfl) ?_ _
  go_wp2
  exact bodyPost_ret (results_tct Tryz.results127 _ _ _ (w.heap.size + 1) 29 _ (0, 0) _ rfl (iRd.row _) Tryz.underlying29 infoIde) rfl ⟨A, c, A', c', rfl, HI.out.keep (belowRow hBd (by simp) _), belowRow hBd (by simp) _, Or.inl rfl, Or.inl rfl⟩

set_option maxRecDepth 100000 in
set_option maxHeartbeats 4000000 in
theorem label_b (d : Ide) (A : Option Addr) (c : Nat) (A' : Option Addr) (c' : Nat) (i : ByteArray) (w : World) (h : InI w d A c A' c') (hr : right8 d = true) (hi : 100 < (i.size : Int)) :
    Calls Tryz.prog 127 #[ideV d A c A' c', .string i] w fun e w' => ∃ A1 c1 A2 c2, e = .returned (.tuple #[.string ⟨#[]⟩, ideV d A1 c1 A2 c2, .int .i64 1]) ∧ InI w' d A1 c1 A2 c2 ∧ Below w.heap.size w w' ∧ Own8 w w' A A1 ∧ Own8 w w' A' A2 := by
  have HI := Lib.hid h
  have C := Lib.hid (fun (W : World) (hb : Below w.heap.size w W) => iright_any d A c A' c' W (h.keep hb))
  rw [hr] at C
  clear hr
  clear h
  obtain ⟨V1, hV1⟩ : ∃ W, W = (w.alloc (.cells (ideL d A c A' c') 29)).alloc (.cells zer8 29) := ⟨_, rfl⟩
  have iD1 : Is V1 w.heap.size 29 (ideL d A c A' c') := by rw [hV1]; exact heap_alloc2_old w _ _
  have iR1 : Is V1 (w.heap.size + 1) 29 zer8 := by rw [hV1]; exact heap_alloc2_new w _ _
  have hB1 : Below w.heap.size w V1 := by rw [hV1]; exact ((Below.refl _ _).alloc (Nat.le_refl _) _).alloc (by simp) _
  go_enter Tryz.func127, Tryz.ntmps127
  go_wp2_with fail
  rw [← hV1]
  clear hV1
  go_wp2_with (refine wpList_load_row rfl 29 _ rfl w.heap.size rfl 29 _ (0, 0) _ iD1 Tryz.underlying29 rfl infoIde ?_)
  refine (C.out _ hB1).mono ?_
  rintro e V2 ⟨rfl, hx⟩
  have iD2 := iD1.below hx iD1.lt
  have iR2 := iR1.below hx iR1.lt
  have hB2 := hB1.trans (hx.mono hB1.size)
  clear hx
  clear iD1 iR1 hB1
  go_wp2
  have iDd : Is V2.drew w.heap.size 29 (ideL d A c A' c') := iD2
  have iRd : Is V2.drew (w.heap.size + 1) 29 zer8 := iR2
  have hBd : Below w.heap.size w V2.drew := belowN hB2 1
  refine wp_region_held_drew (S := fun W => Is W w.heap.size 29 (ideL d A c A' c')) (by kernel_rfl) iDd (fun hS => ?_)
  change wpAnyH _ _ (opsOf Tryz.f127 2) _ _ 4 (Array.replicate 4 false) _ _
  clear hS iD2 iR2 hB2
  generalize V2.drew = V at *
  refine wpAnyH_pure (i := 0) (v := .agg (ideL d A c A' c')) (at_nth rfl) (by kernel_rfl) (by kernel_rfl) (by kernel_rfl) (fun _ _ _ h => h) (by kernel_rfl) (fun w hSw => by exact exec_load rfl rfl (run_loadVar_row _ _ 29 29 _ (0, 0) _ hSw Tryz.underlying29 rfl infoIde)) iDd ?_
  simp only [Act.put, List.setIfInBounds_toArray, List.set_cons_succ, List.set_cons_zero]
  refine wpAnyH_pure (i := 1) (v := .string { data := #[] }) (at_nth rfl) (by kernel_rfl) (by kernel_rfl) (by kernel_rfl) (fun _ _ _ h => h) (by kernel_rfl) (fun w hSw => by kernel_rfl) iDd ?_
  simp only [Act.put, List.setIfInBounds_toArray, List.set_cons_succ, List.set_cons_zero]
  have iDz : Is (V.setRow (w.heap.size + 1) (ideL d A c A' c')) w.heap.size 29 (ideL d A c A' c') := iDd.rowFar (by omega) _
  refine wpAnyH_storerow (i := 2) (g := w.heap.size + 1) (cs := (ideL d A c A' c')) (t := 29) (old := zer8) (by kernel_rfl) (at_nth rfl) (by kernel_rfl) rfl (by kernel_rfl) (by kernel_rfl) iRd infoIde rfl (ideL_one _ _ _ _ _) iDz ?_
  simp only [Act.put]
  refine wpAnyH_pure (i := 3) (v := .int .i64 1) (at_nth rfl) (by kernel_rfl) (by kernel_rfl) (by kernel_rfl) (fun _ _ _ h => h) (by kernel_rfl) (fun w hSw => by kernel_rfl) iDz ?_
  simp only [Act.put, List.setIfInBounds_toArray, List.set_cons_succ, List.set_cons_zero]
  refine wpAnyH_done (by kernel_rfl) ?_ _
  go_wp2
  exact bodyPost_ret (results_tct Tryz.results127 _ _ _ (w.heap.size + 1) 29 _ (0, 0) _ rfl (iRd.row _) Tryz.underlying29 infoIde) rfl ⟨A, c, A', c', rfl, HI.out.keep (belowRow hBd (by simp) _), belowRow hBd (by simp) _, Or.inl rfl, Or.inl rfl⟩

set_option maxRecDepth 100000 in
set_option maxHeartbeats 4000000 in
theorem label_c (d : Ide) (A : Option Addr) (c : Nat) (A' : Option Addr) (c' : Nat) (i : ByteArray) (w : World) (h : InI w d A c A' c') (hr : right8 d = true) (hi : ¬ (100 < (i.size : Int))) (y : ByteArray) (hf : find8 d.N i = (y, true)) :
    Calls Tryz.prog 127 #[ideV d A c A' c', .string i] w fun e w' => ∃ A1 c1 A2 c2, e = .returned (.tuple #[.string y, ideV d A1 c1 A2 c2, .int .i64 0]) ∧ InI w' d A1 c1 A2 c2 ∧ Below w.heap.size w w' ∧ Own8 w w' A A1 ∧ Own8 w w' A' A2 := by
  have HI := Lib.hid h
  have C := Lib.hid (fun (W : World) (hb : Below w.heap.size w W) => iright_any d A c A' c' W (h.keep hb))
  rw [hr] at C
  have CF := Lib.hid (fun (W : World) (Bd : Nat) (hb : Below w.heap.size w W) (hBd : Is W Bd 29 (ideL d A c A' c')) => h.fiN Bd hb hBd i)
  rw [hf] at CF
  clear hr hf
  clear h
  obtain ⟨V1, hV1⟩ : ∃ W, W = (w.alloc (.cells (ideL d A c A' c') 29)).alloc (.cells zer8 29) := ⟨_, rfl⟩
  have iD1 : Is V1 w.heap.size 29 (ideL d A c A' c') := by rw [hV1]; exact heap_alloc2_old w _ _
  have iR1 : Is V1 (w.heap.size + 1) 29 zer8 := by rw [hV1]; exact heap_alloc2_new w _ _
  have hB1 : Below w.heap.size w V1 := by rw [hV1]; exact ((Below.refl _ _).alloc (Nat.le_refl _) _).alloc (by simp) _
  go_enter Tryz.func127, Tryz.ntmps127
  go_wp2_with fail
  rw [← hV1]
  clear hV1
  go_wp2_with (refine wpList_load_row rfl 29 _ rfl w.heap.size rfl 29 _ (0, 0) _ iD1 Tryz.underlying29 rfl infoIde ?_)
  refine (C.out _ hB1).mono ?_
  rintro e V2 ⟨rfl, hx⟩
  have iD2 := iD1.below hx iD1.lt
  have iR2 := iR1.below hx iR1.lt
  have hB2 := hB1.trans (hx.mono hB1.size)
  clear hx
  clear iD1 iR1 hB1
  go_wp2_with (refine wpList_load_row rfl 29 _ rfl w.heap.size rfl 29 _ (0, 0) _ iD2 Tryz.underlying29 rfl infoIde ?_)
  refine (names_any _ _ _ _ _ _).mono ?_
  rintro e V ⟨rfl, rfl⟩
  have iC3 : Is (V2.alloc (.cells (ideL d A c A' c') 29)) V2.heap.size 29 (ideL d A c A' c') := Is.new _ _ _
  have iD3 := iD2.alloc (.cells (ideL d A c A' c') 29)
  have iR3 := iR2.alloc (.cells (ideL d A c A' c') 29)
  have hB3 := hB2.alloc hB2.size (.cells (ideL d A c A' c') 29)
  have hC : w.heap.size + 1 < V2.heap.size := iR2.lt
  clear iD2 iR2 hB2
  generalize V2.alloc (.cells (ideL d A c A' c') 29) = V3 at *
  generalize V2.heap.size = BC at *
  go_wp2_with fail
  refine (CF.out _ BC hB3 iC3).mono ?_
  rintro e V4 ⟨rfl, hx⟩
  have iD4 := iD3.below hx iD3.lt
  have iR4 := iR3.below hx iR3.lt
  have hB4 := hB3.trans (hx.mono hB3.size)
  clear iC3
  clear hx
  clear iD3 iR3 hB3
  go_wp2_with (refine wpList_load_row rfl 29 _ rfl w.heap.size rfl 29 _ (0, 0) _ iD4 Tryz.underlying29 rfl infoIde ?_)
  refine (copy_any d A c A' c' _ (HI.out.keep hB4)).mono ?_
  rintro e V5 ⟨A1, c1, A2, c2, rfl, r1, r2, hx⟩
  have O1 := Lib.hid (r1.mono hB4.size)
  have O2 := Lib.hid (r2.mono hB4.size)
  have iD5 := iD4.below hx iD4.lt
  have iR5 := iR4.below hx iR4.lt
  have hB5 := hB4.trans (hx.mono hB4.size)
  clear hx
  clear iD4 iR4 hB4
  go_wp2_with (refine wpList_store_row rfl 29 _ _ rfl (w.heap.size + 1) (ideL d A1 c1 A2 c2) rfl rfl 29 _ iR5 infoIde rfl (ideL_one _ _ _ _ _) ?_)
  have z1 := (r1.rowFar iR5 (by decide) (ideL d A1 c1 A2 c2)).inV
  have z2 := (r2.rowFar iR5 (by decide) (ideL d A1 c1 A2 c2)).inV
  have n1 := rowNil r1
  have n2 := rowNil r2
  exact bodyPost_ret (results_tct Tryz.results127 _ _ _ (w.heap.size + 1) 29 _ (0, 0) _ rfl (iR5.row _) Tryz.underlying29 infoIde) rfl ⟨A1, c1, A2, c2, rfl, ⟨z1, z2, n1, n2, HI.out.fit, HI.out.fitK⟩, belowRow hB5 (by simp) _, Or.inr (O1.out.rowFar iR5 (by decide) _).own8, Or.inr (O2.out.rowFar iR5 (by decide) _).own8⟩

set_option maxRecDepth 100000 in
set_option maxHeartbeats 4000000 in
theorem label_d (d : Ide) (A : Option Addr) (c : Nat) (A' : Option Addr) (c' : Nat) (i : ByteArray) (w : World) (h : InI w d A c A' c') (hr : right8 d = true) (hi : ¬ (100 < (i.size : Int))) (y : ByteArray) (hf : find8 d.N i = (y, false)) (hl : 2000 ≤ (d.N.length : Int)) :
    Calls Tryz.prog 127 #[ideV d A c A' c', .string i] w fun e w' => ∃ A1 c1 A2 c2, e = .returned (.tuple #[.string ⟨#[]⟩, ideV d A1 c1 A2 c2, .int .i64 2]) ∧ InI w' d A1 c1 A2 c2 ∧ Below w.heap.size w w' ∧ Own8 w w' A A1 ∧ Own8 w w' A' A2 := by
  have HI := Lib.hid h
  have C := Lib.hid (fun (W : World) (hb : Below w.heap.size w W) => iright_any d A c A' c' W (h.keep hb))
  rw [hr] at C
  have CF := Lib.hid (fun (W : World) (Bd : Nat) (hb : Below w.heap.size w W) (hBd : Is W Bd 29 (ideL d A c A' c')) => h.fiN Bd hb hBd i)
  rw [hf] at CF
  clear hr hf
  clear h
  obtain ⟨V1, hV1⟩ : ∃ W, W = (w.alloc (.cells (ideL d A c A' c') 29)).alloc (.cells zer8 29) := ⟨_, rfl⟩
  have iD1 : Is V1 w.heap.size 29 (ideL d A c A' c') := by rw [hV1]; exact heap_alloc2_old w _ _
  have iR1 : Is V1 (w.heap.size + 1) 29 zer8 := by rw [hV1]; exact heap_alloc2_new w _ _
  have hB1 : Below w.heap.size w V1 := by rw [hV1]; exact ((Below.refl _ _).alloc (Nat.le_refl _) _).alloc (by simp) _
  go_enter Tryz.func127, Tryz.ntmps127
  go_wp2_with fail
  rw [← hV1]
  clear hV1
  go_wp2_with (refine wpList_load_row rfl 29 _ rfl w.heap.size rfl 29 _ (0, 0) _ iD1 Tryz.underlying29 rfl infoIde ?_)
  refine (C.out _ hB1).mono ?_
  rintro e V2 ⟨rfl, hx⟩
  have iD2 := iD1.below hx iD1.lt
  have iR2 := iR1.below hx iR1.lt
  have hB2 := hB1.trans (hx.mono hB1.size)
  clear hx
  clear iD1 iR1 hB1
  go_wp2_with (refine wpList_load_row rfl 29 _ rfl w.heap.size rfl 29 _ (0, 0) _ iD2 Tryz.underlying29 rfl infoIde ?_)
  refine (names_any _ _ _ _ _ _).mono ?_
  rintro e V ⟨rfl, rfl⟩
  have iC3 : Is (V2.alloc (.cells (ideL d A c A' c') 29)) V2.heap.size 29 (ideL d A c A' c') := Is.new _ _ _
  have iD3 := iD2.alloc (.cells (ideL d A c A' c') 29)
  have iR3 := iR2.alloc (.cells (ideL d A c A' c') 29)
  have hB3 := hB2.alloc hB2.size (.cells (ideL d A c A' c') 29)
  have hC : w.heap.size + 1 < V2.heap.size := iR2.lt
  clear iD2 iR2 hB2
  generalize V2.alloc (.cells (ideL d A c A' c') 29) = V3 at *
  generalize V2.heap.size = BC at *
  go_wp2_with fail
  refine (CF.out _ BC hB3 iC3).mono ?_
  rintro e V4 ⟨rfl, hx⟩
  have iD4 := iD3.below hx iD3.lt
  have iR4 := iR3.below hx iR3.lt
  have hB4 := hB3.trans (hx.mono hB3.size)
  clear iC3
  clear hx
  clear iD3 iR3 hB3
  have q2 : V4.cell? ⟨w.heap.size, 2, none⟩ = some (.slice A d.N.length c) := iD4.cell 2
  go_wp2
  have iDd : Is V4.drew w.heap.size 29 (ideL d A c A' c') := iD4
  have iRd : Is V4.drew (w.heap.size + 1) 29 zer8 := iR4
  have hBd : Below w.heap.size w V4.drew := belowN hB4 1
  refine wp_region_held_drew (S := fun W => Is W w.heap.size 29 (ideL d A c A' c')) (by kernel_rfl) iDd (fun hS => ?_)
  change wpAnyH _ _ (opsOf Tryz.f127 7) _ _ 4 (Array.replicate 4 false) _ _
  clear hS iD4 iR4 hB4
  generalize V4.drew = V at *
  refine wpAnyH_pure (i := 0) (v := .agg (ideL d A c A' c')) (at_nth rfl) (by kernel_rfl) (by kernel_rfl) (by kernel_rfl) (fun _ _ _ h => h) (by kernel_rfl) (fun w hSw => by exact exec_load rfl rfl (run_loadVar_row _ _ 29 29 _ (0, 0) _ hSw Tryz.underlying29 rfl infoIde)) iDd ?_
  simp only [Act.put, List.setIfInBounds_toArray, List.set_cons_succ, List.set_cons_zero]
  refine wpAnyH_pure (i := 1) (v := .string { data := #[] }) (at_nth rfl) (by kernel_rfl) (by kernel_rfl) (by kernel_rfl) (fun _ _ _ h => h) (by kernel_rfl) (fun w hSw => by kernel_rfl) iDd ?_
  simp only [Act.put, List.setIfInBounds_toArray, List.set_cons_succ, List.set_cons_zero]
  have iDz : Is (V.setRow (w.heap.size + 1) (ideL d A c A' c')) w.heap.size 29 (ideL d A c A' c') := iDd.rowFar (by omega) _
  refine wpAnyH_storerow (i := 2) (g := w.heap.size + 1) (cs := (ideL d A c A' c')) (t := 29) (old := zer8) (by kernel_rfl) (at_nth rfl) (by kernel_rfl) rfl (by kernel_rfl) (by kernel_rfl) iRd infoIde rfl (ideL_one _ _ _ _ _) iDz ?_
  simp only [Act.put]
  refine wpAnyH_pure (i := 3) (v := .int .i64 2) (at_nth rfl) (by kernel_rfl) (by kernel_rfl) (by kernel_rfl) (fun _ _ _ h => h) (by kernel_rfl) (fun w hSw => by kernel_rfl) iDz ?_
  simp only [Act.put, List.setIfInBounds_toArray, List.set_cons_succ, List.set_cons_zero]
  refine wpAnyH_done (by kernel_rfl) ?_ _
  go_wp2
  exact bodyPost_ret (results_tct Tryz.results127 _ _ _ (w.heap.size + 1) 29 _ (0, 0) _ rfl (iRd.row _) Tryz.underlying29 infoIde) rfl ⟨A, c, A', c', rfl, HI.out.keep (belowRow hBd (by simp) _), belowRow hBd (by simp) _, Or.inl rfl, Or.inl rfl⟩
end Go.Proofs.YtfgdcpolfekgjaaGreat
namespace Go.Proofs.YtfgdcpolfekgjaaGreat
open Go.RowKit Go.Shelf

theorem flN_snoc {N : List Nam8} {i S : ByteArray} : flN (N ++ [(i, S)]) = flN N ++ (#[.string i, .string S] : Array Value).toList := by simp [flN]
theorem flK_snoc {K : List Cel8} {l t S : ByteArray} : flK (K ++ [(l, t, S)]) = flK K ++ (#[.string l, .string t, .string S] : Array Value).toList := by simp [flK]
theorem rowOther {W W' : World} {base base2 size size2 c c2 n n2 : Nat} {e e2 : TypeId} {A A2 : Option Addr} {xs xs2 : List Value} (h : RowV W base e size A c n xs) (hg : W.grownBy W' (Value.slice A n c).ownBlock) (h2 : RowV W base2 e2 size2 A2 c2 n2 xs2) (hne : e ≠ e2) : RowV W' base2 e2 size2 A2 c2 n2 xs2 :=
  h2.grown hg (fun r e3 => by
    rcases h.2 with ⟨h0, _⟩ | ⟨g, cap, cur, h0, _, hi, _⟩
    · rw [h0] at e3; cases e3
    · rw [h0] at e3
      cases e3
      exact ⟨e, cur, hi, hne⟩)

set_option maxRecDepth 100000 in
set_option maxHeartbeats 4000000 in
theorem label_e (d : Ide) (A : Option Addr) (c : Nat) (A' : Option Addr) (c' : Nat) (i : ByteArray) (w : World) (h : InI w d A c A' c') (hr : right8 d = true) (hi : ¬ (100 < (i.size : Int))) (y : ByteArray) (hf : find8 d.N i = (y, false)) (hl : ¬ (2000 ≤ (d.N.length : Int))) (E : Int) (hE : ¬ (E = 0)) (ht : takeR d.B d.a 16 = .tuple #[.string ⟨#[]⟩, .agg #[.string d.B, .int .i64 d.a], .int .i64 E]) :
    Calls Tryz.prog 127 #[ideV d A c A' c', .string i] w fun e w' => ∃ A1 c1 A2 c2, e = .returned (.tuple #[.string ⟨#[]⟩, ideV d A1 c1 A2 c2, .int .i64 E]) ∧ InI w' d A1 c1 A2 c2 ∧ Below w.heap.size w w' ∧ Own8 w w' A A1 ∧ Own8 w w' A' A2 := by
  have HI := Lib.hid h
  have C := Lib.hid (fun (W : World) (hb : Below w.heap.size w W) => iright_any d A c A' c' W (h.keep hb))
  rw [hr] at C
  have CF := Lib.hid (fun (W : World) (Bd : Nat) (hb : Below w.heap.size w W) (hBd : Is W Bd 29 (ideL d A c A' c')) => h.fiN Bd hb hBd i)
  rw [hf] at CF
  clear hr hf
  have HT := Lib.hid (fun W => ttake_any d.B d.a 16 W)
  rw [ht] at HT
  clear ht
  clear h
  obtain ⟨V1, hV1⟩ : ∃ W, W = (w.alloc (.cells (ideL d A c A' c') 29)).alloc (.cells zer8 29) := ⟨_, rfl⟩
  have iD1 : Is V1 w.heap.size 29 (ideL d A c A' c') := by rw [hV1]; exact heap_alloc2_old w _ _
  have iR1 : Is V1 (w.heap.size + 1) 29 zer8 := by rw [hV1]; exact heap_alloc2_new w _ _
  have hB1 : Below w.heap.size w V1 := by rw [hV1]; exact ((Below.refl _ _).alloc (Nat.le_refl _) _).alloc (by simp) _
  go_enter Tryz.func127, Tryz.ntmps127
  go_wp2_with fail
  rw [← hV1]
  clear hV1
  go_wp2_with (refine wpList_load_row rfl 29 _ rfl w.heap.size rfl 29 _ (0, 0) _ iD1 Tryz.underlying29 rfl infoIde ?_)
  refine (C.out _ hB1).mono ?_
  rintro e V2 ⟨rfl, hx⟩
  have iD2 := iD1.below hx iD1.lt
  have iR2 := iR1.below hx iR1.lt
  have hB2 := hB1.trans (hx.mono hB1.size)
  clear hx
  clear iD1 iR1 hB1
  go_wp2_with (refine wpList_load_row rfl 29 _ rfl w.heap.size rfl 29 _ (0, 0) _ iD2 Tryz.underlying29 rfl infoIde ?_)
  refine (names_any _ _ _ _ _ _).mono ?_
  rintro e V ⟨rfl, rfl⟩
  have iC3 : Is (V2.alloc (.cells (ideL d A c A' c') 29)) V2.heap.size 29 (ideL d A c A' c') := Is.new _ _ _
  have iD3 := iD2.alloc (.cells (ideL d A c A' c') 29)
  have iR3 := iR2.alloc (.cells (ideL d A c A' c') 29)
  have hB3 := hB2.alloc hB2.size (.cells (ideL d A c A' c') 29)
  have hC : w.heap.size + 1 < V2.heap.size := iR2.lt
  clear iD2 iR2 hB2
  generalize V2.alloc (.cells (ideL d A c A' c') 29) = V3 at *
  generalize V2.heap.size = BC at *
  go_wp2_with fail
  refine (CF.out _ BC hB3 iC3).mono ?_
  rintro e V4 ⟨rfl, hx⟩
  have iD4 := iD3.below hx iD3.lt
  have iR4 := iR3.below hx iR3.lt
  have hB4 := hB3.trans (hx.mono hB3.size)
  clear iC3
  clear hx
  clear iD3 iR3 hB3
  have q2 : V4.cell? ⟨w.heap.size, 2, none⟩ = some (.slice A d.N.length c) := iD4.cell 2
  have q0 : V4.cell? ⟨w.heap.size, 0, none⟩ = some (.string d.B) := iD4.cell 0
  have q1 : V4.cell? ⟨w.heap.size, 1, none⟩ = some (.int .i64 d.a) := iD4.cell 1
  go_wp2_with fail
  clear q0 q1 q2
  refine (HT.out _).mono ?_
  rintro e V5 ⟨rfl, hx⟩
  have iD5 := iD4.below hx iD4.lt
  have iR5 := iR4.below hx iR4.lt
  have hB5 := hB4.trans (hx.mono hB4.size)
  clear hx
  clear iD4 iR4 hB4
  go_wp2_with fail
  have iT6 : Is (V5.alloc (.cells #[.string d.B, .int .i64 d.a] 23)) V5.heap.size 23 #[.string d.B, .int .i64 d.a] := Is.new _ _ _
  have iD6 := iD5.alloc (.cells #[.string d.B, .int .i64 d.a] 23)
  have iR6 := iR5.alloc (.cells #[.string d.B, .int .i64 d.a] 23)
  have hB6 := hB5.alloc hB5.size (.cells #[.string d.B, .int .i64 d.a] 23)
  have hT : w.heap.size + 1 < V5.heap.size := iR5.lt
  clear iD5 iR5 hB5
  generalize V5.alloc (.cells #[.string d.B, .int .i64 d.a] 23) = V6 at *
  generalize V5.heap.size = BT at *
  clear iT6
  go_wp2
  have iDd : Is V6.drew w.heap.size 29 (ideL d A c A' c') := iD6
  have iRd : Is V6.drew (w.heap.size + 1) 29 zer8 := iR6
  have hBd : Below w.heap.size w V6.drew := belowN hB6 1
  refine wp_region_held_drew (S := fun W => Is W w.heap.size 29 (ideL d A c A' c')) (by kernel_rfl) iDd (fun hS => ?_)
  change wpAnyH _ _ (opsOf Tryz.f127 10) _ _ 5 (Array.replicate 5 false) _ _
  clear hS iD6 iR6 hB6
  generalize V6.drew = V at *
  refine wpAnyH_pure (i := 0) (v := .agg (ideL d A c A' c')) (at_nth rfl) (by kernel_rfl) (by kernel_rfl) (by kernel_rfl) (fun _ _ _ h => h) (by kernel_rfl) (fun w hSw => by exact exec_load rfl rfl (run_loadVar_row _ _ 29 29 _ (0, 0) _ hSw Tryz.underlying29 rfl infoIde)) iDd ?_
  simp only [Act.put, List.setIfInBounds_toArray, List.set_cons_succ, List.set_cons_zero]
  refine wpAnyH_pure (i := 1) (v := .int .i64 E) (at_nth rfl) (by kernel_rfl) (by kernel_rfl) (by kernel_rfl) (fun _ _ _ h => h) (by kernel_rfl) (fun w hSw => by kernel_rfl) iDd ?_
  simp only [Act.put, List.setIfInBounds_toArray, List.set_cons_succ, List.set_cons_zero]
  refine wpAnyH_pure (i := 2) (v := .string { data := #[] }) (at_nth rfl) (by kernel_rfl) (by kernel_rfl) (by kernel_rfl) (fun _ _ _ h => h) (by kernel_rfl) (fun w hSw => by kernel_rfl) iDd ?_
  simp only [Act.put, List.setIfInBounds_toArray, List.set_cons_succ, List.set_cons_zero]
  have iDz : Is (V.setRow (w.heap.size + 1) (ideL d A c A' c')) w.heap.size 29 (ideL d A c A' c') := iDd.rowFar (by omega) _
  refine wpAnyH_storerow (i := 3) (g := w.heap.size + 1) (cs := (ideL d A c A' c')) (t := 29) (old := zer8) (by kernel_rfl) (at_nth rfl) (by kernel_rfl) rfl (by kernel_rfl) (by kernel_rfl) iRd infoIde rfl (ideL_one _ _ _ _ _) iDz ?_
  simp only [Act.put]
  refine wpAnyH_pure (i := 4) (v := .int .i64 E) (at_nth rfl) (by kernel_rfl) (by kernel_rfl) (by kernel_rfl) (fun _ _ _ h => h) (by kernel_rfl) (fun w hSw => by kernel_rfl) iDz ?_
  simp only [Act.put, List.setIfInBounds_toArray, List.set_cons_succ, List.set_cons_zero]
  refine wpAnyH_done (by kernel_rfl) ?_ _
  go_wp2
  exact bodyPost_ret (results_tct Tryz.results127 _ _ _ (w.heap.size + 1) 29 _ (0, 0) _ rfl (iRd.row _) Tryz.underlying29 infoIde) rfl ⟨A, c, A', c', rfl, HI.out.keep (belowRow hBd (by simp) _), belowRow hBd (by simp) _, Or.inl rfl, Or.inl rfl⟩
end Go.Proofs.YtfgdcpolfekgjaaGreat
namespace Go.Proofs.YtfgdcpolfekgjaaGreat
open Go.RowKit Go.Shelf

set_option maxRecDepth 100000 in
set_option maxHeartbeats 4000000 in
theorem label_ft (d : Ide) (A : Option Addr) (c : Nat) (A' : Option Addr) (c' : Nat) (i : ByteArray) (w : World) (h : InI w d A c A' c') (hr : right8 d = true) (hi : ¬ (100 < (i.size : Int))) (y : ByteArray) (hf : find8 d.N i = (y, false)) (hl : ¬ (2000 ≤ (d.N.length : Int))) (S : ByteArray) (b : Int) (ht : takeR d.B d.a 16 = .tuple #[.string S, .agg #[.string d.B, .int .i64 b], .int .i64 0]) (z : ByteArray) (q : Bool) (hq : find8 (d.N.map outN) S = (z, q)) (hc : d.c = true) :
    Calls Tryz.prog 127 #[ideV d A c A' c', .string i] w fun e w' => ∃ A1 c1 A2 c2, e = .returned (.tuple #[.string S, ideV ⟨d.B, b, d.N ++ [(i, S)], d.K, true⟩ A1 c1 A2 c2, .int .i64 0]) ∧ InI w' ⟨d.B, b, d.N ++ [(i, S)], d.K, true⟩ A1 c1 A2 c2 ∧ Below w.heap.size w w' ∧ Own8 w w' A A1 ∧ Own8 w w' A' A2 := by
  have HI := Lib.hid h
  have C := Lib.hid (fun (W : World) (hb : Below w.heap.size w W) => iright_any d A c A' c' W (h.keep hb))
  rw [hr] at C
  have CF := Lib.hid (fun (W : World) (Bd : Nat) (hb : Below w.heap.size w W) (hBd : Is W Bd 29 (ideL d A c A' c')) => h.fiN Bd hb hBd i)
  rw [hf] at CF
  clear hr hf
  have HT := Lib.hid (fun W => ttake_any d.B d.a 16 W)
  rw [ht] at HT
  clear ht
  have CG := Lib.hid (fun (W : World) (Bd : Nat) (hb : Below w.heap.size w W) (hBd : Is W Bd 29 (ideL d A c A' c')) => h.fiO Bd hb hBd S)
  rw [hq] at CG
  clear hq
  have HC := Lib.hid hc
  clear hc
  clear h
  obtain ⟨V1, hV1⟩ : ∃ W, W = (w.alloc (.cells (ideL d A c A' c') 29)).alloc (.cells zer8 29) := ⟨_, rfl⟩
  have iD1 : Is V1 w.heap.size 29 (ideL d A c A' c') := by rw [hV1]; exact heap_alloc2_old w _ _
  have iR1 : Is V1 (w.heap.size + 1) 29 zer8 := by rw [hV1]; exact heap_alloc2_new w _ _
  have hB1 : Below w.heap.size w V1 := by rw [hV1]; exact ((Below.refl _ _).alloc (Nat.le_refl _) _).alloc (by simp) _
  go_enter Tryz.func127, Tryz.ntmps127
  go_wp2_with fail
  rw [← hV1]
  clear hV1
  go_wp2_with (refine wpList_load_row rfl 29 _ rfl w.heap.size rfl 29 _ (0, 0) _ iD1 Tryz.underlying29 rfl infoIde ?_)
  refine (C.out _ hB1).mono ?_
  rintro e V2 ⟨rfl, hx⟩
  have iD2 := iD1.below hx iD1.lt
  have iR2 := iR1.below hx iR1.lt
  have hB2 := hB1.trans (hx.mono hB1.size)
  clear hx
  clear iD1 iR1 hB1
  go_wp2_with (refine wpList_load_row rfl 29 _ rfl w.heap.size rfl 29 _ (0, 0) _ iD2 Tryz.underlying29 rfl infoIde ?_)
  refine (names_any _ _ _ _ _ _).mono ?_
  rintro e V ⟨rfl, rfl⟩
  have iC3 : Is (V2.alloc (.cells (ideL d A c A' c') 29)) V2.heap.size 29 (ideL d A c A' c') := Is.new _ _ _
  have iD3 := iD2.alloc (.cells (ideL d A c A' c') 29)
  have iR3 := iR2.alloc (.cells (ideL d A c A' c') 29)
  have hB3 := hB2.alloc hB2.size (.cells (ideL d A c A' c') 29)
  have hC : w.heap.size + 1 < V2.heap.size := iR2.lt
  clear iD2 iR2 hB2
  generalize V2.alloc (.cells (ideL d A c A' c') 29) = V3 at *
  generalize V2.heap.size = BC at *
  go_wp2_with fail
  refine (CF.out _ BC hB3 iC3).mono ?_
  rintro e V4 ⟨rfl, hx⟩
  have iD4 := iD3.below hx iD3.lt
  have iR4 := iR3.below hx iR3.lt
  have hB4 := hB3.trans (hx.mono hB3.size)
  clear iC3
  clear hx
  clear iD3 iR3 hB3
  have q2 : V4.cell? ⟨w.heap.size, 2, none⟩ = some (.slice A d.N.length c) := iD4.cell 2
  have q0 : V4.cell? ⟨w.heap.size, 0, none⟩ = some (.string d.B) := iD4.cell 0
  have q1 : V4.cell? ⟨w.heap.size, 1, none⟩ = some (.int .i64 d.a) := iD4.cell 1
  go_wp2_with fail
  clear q0 q1 q2
  refine (HT.out _).mono ?_
  rintro e V5 ⟨rfl, hx⟩
  have iD5 := iD4.below hx iD4.lt
  have iR5 := iR4.below hx iR4.lt
  have hB5 := hB4.trans (hx.mono hB4.size)
  clear hx
  clear iD4 iR4 hB4
  have iT6 : Is (V5.alloc (.cells #[.string d.B, .int .i64 b] 23)) V5.heap.size 23 #[.string d.B, .int .i64 b] := Is.new _ _ _
  have iD6 := iD5.alloc (.cells #[.string d.B, .int .i64 b] 23)
  have iR6 := iR5.alloc (.cells #[.string d.B, .int .i64 b] 23)
  have hB6 := hB5.alloc hB5.size (.cells #[.string d.B, .int .i64 b] 23)
  have hT : w.heap.size + 1 < V5.heap.size := iR5.lt
  clear iD5 iR5 hB5
  go_wp2_with (refine wpList_load_row rfl 29 _ rfl w.heap.size rfl 29 _ (0, 0) _ iD6 Tryz.underlying29 rfl infoIde ?_)
  generalize V5.alloc (.cells #[.string d.B, .int .i64 b] 23) = V6 at *
  generalize V5.heap.size = BT at *
  refine (outs_any _ _ _ _ _ _).mono ?_
  rintro e V ⟨rfl, rfl⟩
  have iC7 : Is (V6.alloc (.cells (ideL d A c A' c') 29)) V6.heap.size 29 (ideL d A c A' c') := Is.new _ _ _
  have iD7 := iD6.alloc (.cells (ideL d A c A' c') 29)
  have iR7 := iR6.alloc (.cells (ideL d A c A' c') 29)
  have iT7 := iT6.alloc (.cells (ideL d A c A' c') 29)
  have hB7 := hB6.alloc hB6.size (.cells (ideL d A c A' c') 29)
  have hC : w.heap.size + 1 < V6.heap.size := iR6.lt
  clear iD6 iR6 iT6 hB6
  generalize V6.alloc (.cells (ideL d A c A' c') 29) = V7 at *
  generalize V6.heap.size = BC at *
  go_wp2_with fail
  refine (CG.out _ BC hB7 iC7).mono ?_
  rintro e V8 ⟨rfl, hx⟩
  have iD8 := iD7.below hx iD7.lt
  have iR8 := iR7.below hx iR7.lt
  have iT8 := iT7.below hx iT7.lt
  have hB8 := hB7.trans (hx.mono hB7.size)
  clear iC7
  clear hx
  clear iD7 iR7 iT7 hB7
  go_wp2_with (refine wpList_load_row rfl 29 _ rfl w.heap.size rfl 29 _ (0, 0) _ iD8 Tryz.underlying29 rfl infoIde ?_)
  refine (copy_any d A c A' c' _ (HI.out.keep hB8)).mono ?_
  rintro e V9 ⟨A1, c1, A2, c2, rfl, r1, r2, hx⟩
  have iD9 := iD8.below hx iD8.lt
  have iR9 := iR8.below hx iR8.lt
  have iT9 := iT8.below hx iT8.lt
  have hB9 := hB8.trans (hx.mono hB8.size)
  have r1 := r1.mono hB8.size
  have r2 := r2.mono hB8.size
  clear hx
  clear iD8 iR8 iT8 hB8
  have hG : w.heap.size + 1 < V9.heap.size := iR9.lt
  have hGT : BT < V9.heap.size := iT9.lt
  have iGX : Is (V9.alloc (.cells #[.string d.B, .int .i64 b, .slice A1 d.N.length c1, .slice A2 d.K.length c2, .bool d.c] 29)) V9.heap.size 29 #[.string d.B, .int .i64 b, .slice A1 d.N.length c1, .slice A2 d.K.length c2, .bool d.c] := Is.new _ _ _
  have iTa := iT9.alloc (.cells (ideL d A1 c1 A2 c2) 29)
  have iDX := iD9.alloc (.cells #[.string d.B, .int .i64 b, .slice A1 d.N.length c1, .slice A2 d.K.length c2, .bool d.c] 29)
  have iRX := iR9.alloc (.cells #[.string d.B, .int .i64 b, .slice A1 d.N.length c1, .slice A2 d.K.length c2, .bool d.c] 29)
  have hBX := hB9.alloc hB9.size (.cells #[.string d.B, .int .i64 b, .slice A1 d.N.length c1, .slice A2 d.K.length c2, .bool d.c] 29)
  have r1X := r1.alloc (.cells #[.string d.B, .int .i64 b, .slice A1 d.N.length c1, .slice A2 d.K.length c2, .bool d.c] 29)
  have r2X := r2.alloc (.cells #[.string d.B, .int .i64 b, .slice A1 d.N.length c1, .slice A2 d.K.length c2, .bool d.c] 29)
  have t0 : (V9.alloc (.cells (ideL d A1 c1 A2 c2) 29)).cell? ⟨BT, 0, none⟩ = some (.string d.B) := iTa.cell 0
  have t1 : (V9.alloc (.cells (ideL d A1 c1 A2 c2) 29)).cell? ⟨BT, 1, none⟩ = some (.int .i64 b) := iTa.cell 1
  have iY : Is ((V9.alloc (.cells #[.string d.B, .int .i64 b, .slice A1 d.N.length c1, .slice A2 d.K.length c2, .bool d.c] 29)).alloc (.cells #[.string i, .string S] 89)) (V9.alloc (.cells #[.string d.B, .int .i64 b, .slice A1 d.N.length c1, .slice A2 d.K.length c2, .bool d.c] 29)).heap.size 89 #[.string i, .string S] := Is.new _ _ _
  have hXs : (V9.alloc (.cells #[.string d.B, .int .i64 b, .slice A1 d.N.length c1, .slice A2 d.K.length c2, .bool d.c] 29)).heap.size = V9.heap.size + 1 := by simp
  rw [hXs] at iY
  have iGXy := iGX.alloc (.cells #[.string i, .string S] 89)
  have iDXy := iDX.alloc (.cells #[.string i, .string S] 89)
  have iRXy := iRX.alloc (.cells #[.string i, .string S] 89)
  have r1Xy := r1X.alloc (.cells #[.string i, .string S] 89)
  have r2Xy := r2X.alloc (.cells #[.string i, .string S] 89)
  have hBy := hBX.alloc hBX.size (.cells #[.string i, .string S] 89)
  obtain ⟨i0, hi0, hz0, hz1, hz2⟩ := info_parts infoNam8
  clear iD9 iR9 iT9 hB9 r1 r2 iTa iGX iDX iRX r1X r2X hBX hXs
  have ysBy : (d.N.length + 1) * 32 ≤ 140737488355328 := by omega
  have ysLen : d.N.length + 1 ≤ maxLen := by unfold maxLen; omega
  have ysOne : ∀ u ∈ (#[.string i, .string S] : Array Value).toList, u.oneCell' = true := fun u hu => by simp only [List.mem_cons, List.not_mem_nil, or_false] at hu; rcases hu with rfl | rfl <;> rfl
  go_wp2_with (at_builtin; refine wpList_pushV rfl _ _ 26 89 i0 (.agg #[.string ⟨#[]⟩, .string ⟨#[]⟩]) 2 32 rfl Tryz.underlying26 hi0 hz0 hz1 hz2 rfl (by decide) w.heap.size A1 c1 d.N.length (flN d.N) r1Xy (V9.heap.size + 1) 89 #[.string i, .string S] iY rfl ysOne ysLen ysBy ⟨rfl, rfl⟩ hBy.size ?_; intro A3 c3 V r3 hg3; have jG := r1Xy.isFar hg3 iGXy (by decide); have jD := r1Xy.isFar hg3 iDXy (by decide); have jR := r1Xy.isFar hg3 iRXy (by decide); have jB := r1Xy.belowG hBy hg3; have jX := rowOther r1Xy hg3 r2Xy (by decide); have e2 : V.cell? ⟨V9.heap.size, 2, none⟩ = some (.slice A1 d.N.length c1) := jG.cell 2; have u2 := jG.frozen 2; have jG2 := jG.set 2 (.slice A3 (d.N.length + 1) c3); have jD2 := jD.far (p := ⟨V9.heap.size, 2, none⟩) (by show w.heap.size ≠ V9.heap.size; omega) (.slice A3 (d.N.length + 1) c3); have e4 : (V.setCell ⟨V9.heap.size, 2, none⟩ (.slice A3 (d.N.length + 1) c3)).cell? ⟨w.heap.size, 4, none⟩ = some (.bool true) := (jD2.cell 4).trans (congrArg (fun b => some (Value.bool b)) HC.out); have e5 : (V.setCell ⟨V9.heap.size, 2, none⟩ (.slice A3 (d.N.length + 1) c3)).cell? ⟨V9.heap.size, 4, none⟩ = some (.bool d.c) := jG2.cell 4; have u5 := jG2.frozen 4)
  have zG : Is ((V.setCell ⟨V9.heap.size, 2, none⟩ (.slice A3 (d.N.length + 1) c3)).setCell ⟨V9.heap.size, 4, none⟩ (.bool true)).drew V9.heap.size 29 #[.string d.B, .int .i64 b, .slice A3 (d.N.length + 1) c3, .slice A2 d.K.length c2, .bool true] := jG2.set 4 _
  have zR : Is ((V.setCell ⟨V9.heap.size, 2, none⟩ (.slice A3 (d.N.length + 1) c3)).setCell ⟨V9.heap.size, 4, none⟩ (.bool true)).drew (w.heap.size + 1) 29 zer8 := (jR.far (p := ⟨V9.heap.size, 2, none⟩) (by show w.heap.size + 1 ≠ V9.heap.size; omega) (.slice A3 (d.N.length + 1) c3)).far (p := ⟨V9.heap.size, 4, none⟩) (by show w.heap.size + 1 ≠ V9.heap.size; omega) _
  have z3 : RowV ((V.setCell ⟨V9.heap.size, 2, none⟩ (.slice A3 (d.N.length + 1) c3)).setCell ⟨V9.heap.size, 4, none⟩ (.bool true)).drew w.heap.size 89 2 A3 c3 (d.N.length + 1) (flN d.N ++ (#[.string i, .string S] : Array Value).toList) := (r3.far (p := ⟨V9.heap.size, 2, none⟩) jG (by decide) (.slice A3 (d.N.length + 1) c3)).far (p := ⟨V9.heap.size, 4, none⟩) jG2 (by decide) _
  have zX : RowV ((V.setCell ⟨V9.heap.size, 2, none⟩ (.slice A3 (d.N.length + 1) c3)).setCell ⟨V9.heap.size, 4, none⟩ (.bool true)).drew w.heap.size 91 3 A2 c2 d.K.length (flK d.K) := (jX.far (p := ⟨V9.heap.size, 2, none⟩) jG (by decide) (.slice A3 (d.N.length + 1) c3)).far (p := ⟨V9.heap.size, 4, none⟩) jG2 (by decide) _
  have zB : Below w.heap.size w ((V.setCell ⟨V9.heap.size, 2, none⟩ (.slice A3 (d.N.length + 1) c3)).setCell ⟨V9.heap.size, 4, none⟩ (.bool true)).drew := belowN ((jB.setCell (p := ⟨V9.heap.size, 2, none⟩) (by show w.heap.size ≤ V9.heap.size; omega) (.slice A3 (d.N.length + 1) c3)).setCell (p := ⟨V9.heap.size, 4, none⟩) (by show w.heap.size ≤ V9.heap.size; omega) (.bool true)) 1
  have hG2 := hG
  clear jG2 jG jD jD2 jR jB jX e2 e4 e5 u2 u5 r3 hg3
  refine wp_region_held_drew (S := fun W => Is W V9.heap.size 29 #[.string d.B, .int .i64 b, .slice A3 (d.N.length + 1) c3, .slice A2 d.K.length c2, .bool true]) (by kernel_rfl) zG (fun hS => ?_)
  change wpAnyH _ _ (opsOf Tryz.f127 16) _ _ 5 (Array.replicate 5 false) _ _
  clear hS
  generalize ((V.setCell ⟨V9.heap.size, 2, none⟩ (.slice A3 (d.N.length + 1) c3)).setCell ⟨V9.heap.size, 4, none⟩ (.bool true)).drew = VZ at *
  refine wpAnyH_pure (i := 0) (v := .string S) (at_nth rfl) (by kernel_rfl) (by kernel_rfl) (by kernel_rfl) (fun _ _ _ h => h) (by kernel_rfl) (fun w hSw => by kernel_rfl) zG ?_
  simp only [Act.put, List.setIfInBounds_toArray, List.set_cons_succ, List.set_cons_zero]
  refine wpAnyH_pure (i := 1) (v := .agg #[.string d.B, .int .i64 b, .slice A3 (d.N.length + 1) c3, .slice A2 d.K.length c2, .bool true]) (at_nth rfl) (by kernel_rfl) (by kernel_rfl) (by kernel_rfl) (fun _ _ _ h => h) (by kernel_rfl) (fun w hSw => by exact exec_load rfl rfl (run_loadVar_row _ _ 29 29 _ (0, 0) _ hSw Tryz.underlying29 rfl infoIde)) zG ?_
  simp only [Act.put, List.setIfInBounds_toArray, List.set_cons_succ, List.set_cons_zero]
  refine wpAnyH_pure (i := 2) (v := .string S) (at_nth rfl) (by kernel_rfl) (by kernel_rfl) (by kernel_rfl) (fun _ _ _ h => h) (by kernel_rfl) (fun w hSw => by kernel_rfl) zG ?_
  simp only [Act.put, List.setIfInBounds_toArray, List.set_cons_succ, List.set_cons_zero]
  have zGz : Is (VZ.setRow (w.heap.size + 1) #[.string d.B, .int .i64 b, .slice A3 (d.N.length + 1) c3, .slice A2 d.K.length c2, .bool true]) V9.heap.size 29 #[.string d.B, .int .i64 b, .slice A3 (d.N.length + 1) c3, .slice A2 d.K.length c2, .bool true] := zG.rowFar (by omega) _
  refine wpAnyH_storerow (i := 3) (g := w.heap.size + 1) (cs := #[.string d.B, .int .i64 b, .slice A3 (d.N.length + 1) c3, .slice A2 d.K.length c2, .bool true]) (t := 29) (old := zer8) (by kernel_rfl) (at_nth rfl) (by kernel_rfl) rfl (by kernel_rfl) (by kernel_rfl) zR infoIde rfl (by rw [← Array.all_toList]; rfl) zGz ?_
  simp only [Act.put]
  refine wpAnyH_pure (i := 4) (v := .int .i64 0) (at_nth rfl) (by kernel_rfl) (by kernel_rfl) (by kernel_rfl) (fun _ _ _ h => h) (by kernel_rfl) (fun w hSw => by kernel_rfl) zGz ?_
  simp only [Act.put, List.setIfInBounds_toArray, List.set_cons_succ, List.set_cons_zero]
  refine wpAnyH_done (by kernel_rfl) ?_ _
  go_wp2
  have m3 := (z3.rowFar zR (by decide) #[.string d.B, .int .i64 b, .slice A3 (d.N.length + 1) c3, .slice A2 d.K.length c2, .bool true]).inV
  have mX := (zX.rowFar zR (by decide) #[.string d.B, .int .i64 b, .slice A3 (d.N.length + 1) c3, .slice A2 d.K.length c2, .bool true]).inV
  have n3 := rowNil z3
  have nX := rowNil zX
  have fN := HI.out.fit
  have fK := HI.out.fitK
  rw [← flN_snoc] at m3
  have hw : (d.N ++ [(i, S)]).length = d.N.length + 1 := by rw [List.length_append]; rfl
  have hv : ideV (⟨d.B, b, (d.N ++ [(i, S)]), d.K, true⟩ : Ide) A3 c3 A2 c2 = .agg #[.string d.B, .int .i64 b, .slice A3 (d.N.length + 1) c3, .slice A2 d.K.length c2, .bool true] := by show Value.agg #[.string d.B, .int .i64 b, .slice A3 (d.N ++ [(i, S)]).length c3, .slice A2 d.K.length c2, .bool true] = _; rw [hw]
  exact bodyPost_ret (results_tct Tryz.results127 _ _ _ (w.heap.size + 1) 29 _ (0, 0) _ rfl (zR.row _) Tryz.underlying29 infoIde) rfl ⟨A3, c3, A2, c2, by rw [hv]; rfl, ⟨m3, mX, n3, nX, by show (d.N ++ [(i, S)]).length * 32 ≤ _; rw [hw]; omega, fK⟩, belowRow zB (by simp) _, Or.inr (z3.rowFar zR (by decide) _).own8, Or.inr (zX.rowFar zR (by decide) _).own8⟩
end Go.Proofs.YtfgdcpolfekgjaaGreat
namespace Go.Proofs.YtfgdcpolfekgjaaGreat
open Go.RowKit Go.Shelf

set_option maxRecDepth 100000 in
set_option maxHeartbeats 4000000 in
theorem label_ff (d : Ide) (A : Option Addr) (c : Nat) (A' : Option Addr) (c' : Nat) (i : ByteArray) (w : World) (h : InI w d A c A' c') (hr : right8 d = true) (hi : ¬ (100 < (i.size : Int))) (y : ByteArray) (hf : find8 d.N i = (y, false)) (hl : ¬ (2000 ≤ (d.N.length : Int))) (S : ByteArray) (b : Int) (ht : takeR d.B d.a 16 = .tuple #[.string S, .agg #[.string d.B, .int .i64 b], .int .i64 0]) (z : ByteArray) (q : Bool) (hq : find8 (d.N.map outN) S = (z, q)) (hc : d.c = false) :
    Calls Tryz.prog 127 #[ideV d A c A' c', .string i] w fun e w' => ∃ A1 c1 A2 c2, e = .returned (.tuple #[.string S, ideV ⟨d.B, b, d.N ++ [(i, S)], d.K, q⟩ A1 c1 A2 c2, .int .i64 0]) ∧ InI w' ⟨d.B, b, d.N ++ [(i, S)], d.K, q⟩ A1 c1 A2 c2 ∧ Below w.heap.size w w' ∧ Own8 w w' A A1 ∧ Own8 w w' A' A2 := by
  have HI := Lib.hid h
  have C := Lib.hid (fun (W : World) (hb : Below w.heap.size w W) => iright_any d A c A' c' W (h.keep hb))
  rw [hr] at C
  have CF := Lib.hid (fun (W : World) (Bd : Nat) (hb : Below w.heap.size w W) (hBd : Is W Bd 29 (ideL d A c A' c')) => h.fiN Bd hb hBd i)
  rw [hf] at CF
  clear hr hf
  have HT := Lib.hid (fun W => ttake_any d.B d.a 16 W)
  rw [ht] at HT
  clear ht
  have CG := Lib.hid (fun (W : World) (Bd : Nat) (hb : Below w.heap.size w W) (hBd : Is W Bd 29 (ideL d A c A' c')) => h.fiO Bd hb hBd S)
  rw [hq] at CG
  clear hq
  have HC := Lib.hid hc
  clear hc
  clear h
  obtain ⟨V1, hV1⟩ : ∃ W, W = (w.alloc (.cells (ideL d A c A' c') 29)).alloc (.cells zer8 29) := ⟨_, rfl⟩
  have iD1 : Is V1 w.heap.size 29 (ideL d A c A' c') := by rw [hV1]; exact heap_alloc2_old w _ _
  have iR1 : Is V1 (w.heap.size + 1) 29 zer8 := by rw [hV1]; exact heap_alloc2_new w _ _
  have hB1 : Below w.heap.size w V1 := by rw [hV1]; exact ((Below.refl _ _).alloc (Nat.le_refl _) _).alloc (by simp) _
  go_enter Tryz.func127, Tryz.ntmps127
  go_wp2_with fail
  rw [← hV1]
  clear hV1
  go_wp2_with (refine wpList_load_row rfl 29 _ rfl w.heap.size rfl 29 _ (0, 0) _ iD1 Tryz.underlying29 rfl infoIde ?_)
  refine (C.out _ hB1).mono ?_
  rintro e V2 ⟨rfl, hx⟩
  have iD2 := iD1.below hx iD1.lt
  have iR2 := iR1.below hx iR1.lt
  have hB2 := hB1.trans (hx.mono hB1.size)
  clear hx
  clear iD1 iR1 hB1
  go_wp2_with (refine wpList_load_row rfl 29 _ rfl w.heap.size rfl 29 _ (0, 0) _ iD2 Tryz.underlying29 rfl infoIde ?_)
  refine (names_any _ _ _ _ _ _).mono ?_
  rintro e V ⟨rfl, rfl⟩
  have iC3 : Is (V2.alloc (.cells (ideL d A c A' c') 29)) V2.heap.size 29 (ideL d A c A' c') := Is.new _ _ _
  have iD3 := iD2.alloc (.cells (ideL d A c A' c') 29)
  have iR3 := iR2.alloc (.cells (ideL d A c A' c') 29)
  have hB3 := hB2.alloc hB2.size (.cells (ideL d A c A' c') 29)
  have hC : w.heap.size + 1 < V2.heap.size := iR2.lt
  clear iD2 iR2 hB2
  generalize V2.alloc (.cells (ideL d A c A' c') 29) = V3 at *
  generalize V2.heap.size = BC at *
  go_wp2_with fail
  refine (CF.out _ BC hB3 iC3).mono ?_
  rintro e V4 ⟨rfl, hx⟩
  have iD4 := iD3.below hx iD3.lt
  have iR4 := iR3.below hx iR3.lt
  have hB4 := hB3.trans (hx.mono hB3.size)
  clear iC3
  clear hx
  clear iD3 iR3 hB3
  have q2 : V4.cell? ⟨w.heap.size, 2, none⟩ = some (.slice A d.N.length c) := iD4.cell 2
  have q0 : V4.cell? ⟨w.heap.size, 0, none⟩ = some (.string d.B) := iD4.cell 0
  have q1 : V4.cell? ⟨w.heap.size, 1, none⟩ = some (.int .i64 d.a) := iD4.cell 1
  go_wp2_with fail
  clear q0 q1 q2
  refine (HT.out _).mono ?_
  rintro e V5 ⟨rfl, hx⟩
  have iD5 := iD4.below hx iD4.lt
  have iR5 := iR4.below hx iR4.lt
  have hB5 := hB4.trans (hx.mono hB4.size)
  clear hx
  clear iD4 iR4 hB4
  have iT6 : Is (V5.alloc (.cells #[.string d.B, .int .i64 b] 23)) V5.heap.size 23 #[.string d.B, .int .i64 b] := Is.new _ _ _
  have iD6 := iD5.alloc (.cells #[.string d.B, .int .i64 b] 23)
  have iR6 := iR5.alloc (.cells #[.string d.B, .int .i64 b] 23)
  have hB6 := hB5.alloc hB5.size (.cells #[.string d.B, .int .i64 b] 23)
  have hT : w.heap.size + 1 < V5.heap.size := iR5.lt
  clear iD5 iR5 hB5
  go_wp2_with (refine wpList_load_row rfl 29 _ rfl w.heap.size rfl 29 _ (0, 0) _ iD6 Tryz.underlying29 rfl infoIde ?_)
  generalize V5.alloc (.cells #[.string d.B, .int .i64 b] 23) = V6 at *
  generalize V5.heap.size = BT at *
  refine (outs_any _ _ _ _ _ _).mono ?_
  rintro e V ⟨rfl, rfl⟩
  have iC7 : Is (V6.alloc (.cells (ideL d A c A' c') 29)) V6.heap.size 29 (ideL d A c A' c') := Is.new _ _ _
  have iD7 := iD6.alloc (.cells (ideL d A c A' c') 29)
  have iR7 := iR6.alloc (.cells (ideL d A c A' c') 29)
  have iT7 := iT6.alloc (.cells (ideL d A c A' c') 29)
  have hB7 := hB6.alloc hB6.size (.cells (ideL d A c A' c') 29)
  have hC : w.heap.size + 1 < V6.heap.size := iR6.lt
  clear iD6 iR6 iT6 hB6
  generalize V6.alloc (.cells (ideL d A c A' c') 29) = V7 at *
  generalize V6.heap.size = BC at *
  go_wp2_with fail
  refine (CG.out _ BC hB7 iC7).mono ?_
  rintro e V8 ⟨rfl, hx⟩
  have iD8 := iD7.below hx iD7.lt
  have iR8 := iR7.below hx iR7.lt
  have iT8 := iT7.below hx iT7.lt
  have hB8 := hB7.trans (hx.mono hB7.size)
  clear iC7
  clear hx
  clear iD7 iR7 iT7 hB7
  go_wp2_with (refine wpList_load_row rfl 29 _ rfl w.heap.size rfl 29 _ (0, 0) _ iD8 Tryz.underlying29 rfl infoIde ?_)
  refine (copy_any d A c A' c' _ (HI.out.keep hB8)).mono ?_
  rintro e V9 ⟨A1, c1, A2, c2, rfl, r1, r2, hx⟩
  have iD9 := iD8.below hx iD8.lt
  have iR9 := iR8.below hx iR8.lt
  have iT9 := iT8.below hx iT8.lt
  have hB9 := hB8.trans (hx.mono hB8.size)
  have r1 := r1.mono hB8.size
  have r2 := r2.mono hB8.size
  clear hx
  clear iD8 iR8 iT8 hB8
  have hG : w.heap.size + 1 < V9.heap.size := iR9.lt
  have hGT : BT < V9.heap.size := iT9.lt
  have iGX : Is (V9.alloc (.cells #[.string d.B, .int .i64 b, .slice A1 d.N.length c1, .slice A2 d.K.length c2, .bool d.c] 29)) V9.heap.size 29 #[.string d.B, .int .i64 b, .slice A1 d.N.length c1, .slice A2 d.K.length c2, .bool d.c] := Is.new _ _ _
  have iTa := iT9.alloc (.cells (ideL d A1 c1 A2 c2) 29)
  have iDX := iD9.alloc (.cells #[.string d.B, .int .i64 b, .slice A1 d.N.length c1, .slice A2 d.K.length c2, .bool d.c] 29)
  have iRX := iR9.alloc (.cells #[.string d.B, .int .i64 b, .slice A1 d.N.length c1, .slice A2 d.K.length c2, .bool d.c] 29)
  have hBX := hB9.alloc hB9.size (.cells #[.string d.B, .int .i64 b, .slice A1 d.N.length c1, .slice A2 d.K.length c2, .bool d.c] 29)
  have r1X := r1.alloc (.cells #[.string d.B, .int .i64 b, .slice A1 d.N.length c1, .slice A2 d.K.length c2, .bool d.c] 29)
  have r2X := r2.alloc (.cells #[.string d.B, .int .i64 b, .slice A1 d.N.length c1, .slice A2 d.K.length c2, .bool d.c] 29)
  have t0 : (V9.alloc (.cells (ideL d A1 c1 A2 c2) 29)).cell? ⟨BT, 0, none⟩ = some (.string d.B) := iTa.cell 0
  have t1 : (V9.alloc (.cells (ideL d A1 c1 A2 c2) 29)).cell? ⟨BT, 1, none⟩ = some (.int .i64 b) := iTa.cell 1
  have iY : Is ((V9.alloc (.cells #[.string d.B, .int .i64 b, .slice A1 d.N.length c1, .slice A2 d.K.length c2, .bool d.c] 29)).alloc (.cells #[.string i, .string S] 89)) (V9.alloc (.cells #[.string d.B, .int .i64 b, .slice A1 d.N.length c1, .slice A2 d.K.length c2, .bool d.c] 29)).heap.size 89 #[.string i, .string S] := Is.new _ _ _
  have hXs : (V9.alloc (.cells #[.string d.B, .int .i64 b, .slice A1 d.N.length c1, .slice A2 d.K.length c2, .bool d.c] 29)).heap.size = V9.heap.size + 1 := by simp
  rw [hXs] at iY
  have iGXy := iGX.alloc (.cells #[.string i, .string S] 89)
  have iDXy := iDX.alloc (.cells #[.string i, .string S] 89)
  have iRXy := iRX.alloc (.cells #[.string i, .string S] 89)
  have r1Xy := r1X.alloc (.cells #[.string i, .string S] 89)
  have r2Xy := r2X.alloc (.cells #[.string i, .string S] 89)
  have hBy := hBX.alloc hBX.size (.cells #[.string i, .string S] 89)
  obtain ⟨i0, hi0, hz0, hz1, hz2⟩ := info_parts infoNam8
  clear iD9 iR9 iT9 hB9 r1 r2 iTa iGX iDX iRX r1X r2X hBX hXs
  have ysBy : (d.N.length + 1) * 32 ≤ 140737488355328 := by omega
  have ysLen : d.N.length + 1 ≤ maxLen := by unfold maxLen; omega
  have ysOne : ∀ u ∈ (#[.string i, .string S] : Array Value).toList, u.oneCell' = true := fun u hu => by simp only [List.mem_cons, List.not_mem_nil, or_false] at hu; rcases hu with rfl | rfl <;> rfl
  go_wp2_with (at_builtin; refine wpList_pushV rfl _ _ 26 89 i0 (.agg #[.string ⟨#[]⟩, .string ⟨#[]⟩]) 2 32 rfl Tryz.underlying26 hi0 hz0 hz1 hz2 rfl (by decide) w.heap.size A1 c1 d.N.length (flN d.N) r1Xy (V9.heap.size + 1) 89 #[.string i, .string S] iY rfl ysOne ysLen ysBy ⟨rfl, rfl⟩ hBy.size ?_; intro A3 c3 V r3 hg3; have jG := r1Xy.isFar hg3 iGXy (by decide); have jD := r1Xy.isFar hg3 iDXy (by decide); have jR := r1Xy.isFar hg3 iRXy (by decide); have jB := r1Xy.belowG hBy hg3; have jX := rowOther r1Xy hg3 r2Xy (by decide); have e2 : V.cell? ⟨V9.heap.size, 2, none⟩ = some (.slice A1 d.N.length c1) := jG.cell 2; have u2 := jG.frozen 2; have jG2 := jG.set 2 (.slice A3 (d.N.length + 1) c3); have jD2 := jD.far (p := ⟨V9.heap.size, 2, none⟩) (by show w.heap.size ≠ V9.heap.size; omega) (.slice A3 (d.N.length + 1) c3); have e4 : (V.setCell ⟨V9.heap.size, 2, none⟩ (.slice A3 (d.N.length + 1) c3)).cell? ⟨w.heap.size, 4, none⟩ = some (.bool false) := (jD2.cell 4).trans (congrArg (fun b => some (Value.bool b)) HC.out); have e5 : (V.setCell ⟨V9.heap.size, 2, none⟩ (.slice A3 (d.N.length + 1) c3)).cell? ⟨V9.heap.size, 4, none⟩ = some (.bool d.c) := jG2.cell 4; have u5 := jG2.frozen 4)
  have zG : Is ((V.setCell ⟨V9.heap.size, 2, none⟩ (.slice A3 (d.N.length + 1) c3)).setCell ⟨V9.heap.size, 4, none⟩ (.bool q)).drew V9.heap.size 29 #[.string d.B, .int .i64 b, .slice A3 (d.N.length + 1) c3, .slice A2 d.K.length c2, .bool q] := jG2.set 4 _
  have zR : Is ((V.setCell ⟨V9.heap.size, 2, none⟩ (.slice A3 (d.N.length + 1) c3)).setCell ⟨V9.heap.size, 4, none⟩ (.bool q)).drew (w.heap.size + 1) 29 zer8 := (jR.far (p := ⟨V9.heap.size, 2, none⟩) (by show w.heap.size + 1 ≠ V9.heap.size; omega) (.slice A3 (d.N.length + 1) c3)).far (p := ⟨V9.heap.size, 4, none⟩) (by show w.heap.size + 1 ≠ V9.heap.size; omega) _
  have z3 : RowV ((V.setCell ⟨V9.heap.size, 2, none⟩ (.slice A3 (d.N.length + 1) c3)).setCell ⟨V9.heap.size, 4, none⟩ (.bool q)).drew w.heap.size 89 2 A3 c3 (d.N.length + 1) (flN d.N ++ (#[.string i, .string S] : Array Value).toList) := (r3.far (p := ⟨V9.heap.size, 2, none⟩) jG (by decide) (.slice A3 (d.N.length + 1) c3)).far (p := ⟨V9.heap.size, 4, none⟩) jG2 (by decide) _
  have zX : RowV ((V.setCell ⟨V9.heap.size, 2, none⟩ (.slice A3 (d.N.length + 1) c3)).setCell ⟨V9.heap.size, 4, none⟩ (.bool q)).drew w.heap.size 91 3 A2 c2 d.K.length (flK d.K) := (jX.far (p := ⟨V9.heap.size, 2, none⟩) jG (by decide) (.slice A3 (d.N.length + 1) c3)).far (p := ⟨V9.heap.size, 4, none⟩) jG2 (by decide) _
  have zB : Below w.heap.size w ((V.setCell ⟨V9.heap.size, 2, none⟩ (.slice A3 (d.N.length + 1) c3)).setCell ⟨V9.heap.size, 4, none⟩ (.bool q)).drew := belowN ((jB.setCell (p := ⟨V9.heap.size, 2, none⟩) (by show w.heap.size ≤ V9.heap.size; omega) (.slice A3 (d.N.length + 1) c3)).setCell (p := ⟨V9.heap.size, 4, none⟩) (by show w.heap.size ≤ V9.heap.size; omega) (.bool q)) 1
  have hG2 := hG
  clear jG2 jG jD jD2 jR jB jX e2 e4 e5 u2 u5 r3 hg3
  refine wp_region_held_drew (S := fun W => Is W V9.heap.size 29 #[.string d.B, .int .i64 b, .slice A3 (d.N.length + 1) c3, .slice A2 d.K.length c2, .bool q]) (by kernel_rfl) zG (fun hS => ?_)
  change wpAnyH _ _ (opsOf Tryz.f127 16) _ _ 5 (Array.replicate 5 false) _ _
  clear hS
  generalize ((V.setCell ⟨V9.heap.size, 2, none⟩ (.slice A3 (d.N.length + 1) c3)).setCell ⟨V9.heap.size, 4, none⟩ (.bool q)).drew = VZ at *
  refine wpAnyH_pure (i := 0) (v := .string S) (at_nth rfl) (by kernel_rfl) (by kernel_rfl) (by kernel_rfl) (fun _ _ _ h => h) (by kernel_rfl) (fun w hSw => by kernel_rfl) zG ?_
  simp only [Act.put, List.setIfInBounds_toArray, List.set_cons_succ, List.set_cons_zero]
  refine wpAnyH_pure (i := 1) (v := .agg #[.string d.B, .int .i64 b, .slice A3 (d.N.length + 1) c3, .slice A2 d.K.length c2, .bool q]) (at_nth rfl) (by kernel_rfl) (by kernel_rfl) (by kernel_rfl) (fun _ _ _ h => h) (by kernel_rfl) (fun w hSw => by exact exec_load rfl rfl (run_loadVar_row _ _ 29 29 _ (0, 0) _ hSw Tryz.underlying29 rfl infoIde)) zG ?_
  simp only [Act.put, List.setIfInBounds_toArray, List.set_cons_succ, List.set_cons_zero]
  refine wpAnyH_pure (i := 2) (v := .string S) (at_nth rfl) (by kernel_rfl) (by kernel_rfl) (by kernel_rfl) (fun _ _ _ h => h) (by kernel_rfl) (fun w hSw => by kernel_rfl) zG ?_
  simp only [Act.put, List.setIfInBounds_toArray, List.set_cons_succ, List.set_cons_zero]
  have zGz : Is (VZ.setRow (w.heap.size + 1) #[.string d.B, .int .i64 b, .slice A3 (d.N.length + 1) c3, .slice A2 d.K.length c2, .bool q]) V9.heap.size 29 #[.string d.B, .int .i64 b, .slice A3 (d.N.length + 1) c3, .slice A2 d.K.length c2, .bool q] := zG.rowFar (by omega) _
  refine wpAnyH_storerow (i := 3) (g := w.heap.size + 1) (cs := #[.string d.B, .int .i64 b, .slice A3 (d.N.length + 1) c3, .slice A2 d.K.length c2, .bool q]) (t := 29) (old := zer8) (by kernel_rfl) (at_nth rfl) (by kernel_rfl) rfl (by kernel_rfl) (by kernel_rfl) zR infoIde rfl (by rw [← Array.all_toList]; rfl) zGz ?_
  simp only [Act.put]
  refine wpAnyH_pure (i := 4) (v := .int .i64 0) (at_nth rfl) (by kernel_rfl) (by kernel_rfl) (by kernel_rfl) (fun _ _ _ h => h) (by kernel_rfl) (fun w hSw => by kernel_rfl) zGz ?_
  simp only [Act.put, List.setIfInBounds_toArray, List.set_cons_succ, List.set_cons_zero]
  refine wpAnyH_done (by kernel_rfl) ?_ _
  go_wp2
  have m3 := (z3.rowFar zR (by decide) #[.string d.B, .int .i64 b, .slice A3 (d.N.length + 1) c3, .slice A2 d.K.length c2, .bool q]).inV
  have mX := (zX.rowFar zR (by decide) #[.string d.B, .int .i64 b, .slice A3 (d.N.length + 1) c3, .slice A2 d.K.length c2, .bool q]).inV
  have n3 := rowNil z3
  have nX := rowNil zX
  have fN := HI.out.fit
  have fK := HI.out.fitK
  rw [← flN_snoc] at m3
  have hw : (d.N ++ [(i, S)]).length = d.N.length + 1 := by rw [List.length_append]; rfl
  have hv : ideV (⟨d.B, b, (d.N ++ [(i, S)]), d.K, q⟩ : Ide) A3 c3 A2 c2 = .agg #[.string d.B, .int .i64 b, .slice A3 (d.N.length + 1) c3, .slice A2 d.K.length c2, .bool q] := by show Value.agg #[.string d.B, .int .i64 b, .slice A3 (d.N ++ [(i, S)]).length c3, .slice A2 d.K.length c2, .bool q] = _; rw [hw]
  exact bodyPost_ret (results_tct Tryz.results127 _ _ _ (w.heap.size + 1) 29 _ (0, 0) _ rfl (zR.row _) Tryz.underlying29 infoIde) rfl ⟨A3, c3, A2, c2, by rw [hv]; rfl, ⟨m3, mX, n3, nX, by show (d.N ++ [(i, S)]).length * 32 ≤ _; rw [hw]; omega, fK⟩, belowRow zB (by simp) _, Or.inr (z3.rowFar zR (by decide) _).own8, Or.inr (zX.rowFar zR (by decide) _).own8⟩
end Go.Proofs.YtfgdcpolfekgjaaGreat
namespace Go.Proofs.YtfgdcpolfekgjaaGreat
open Go.RowKit Go.Shelf

set_option maxRecDepth 100000 in
set_option maxHeartbeats 4000000 in
theorem seal_a (d : Ide) (A : Option Addr) (c : Nat) (A' : Option Addr) (c' : Nat) (l t : ByteArray) (w : World) (h : InI w d A c A' c') (hr : right8 d = false) :
    Calls Tryz.prog 123 #[ideV d A c A' c', .string l, .string t] w fun e w' => ∃ A1 c1 A2 c2, e = .returned (.tuple #[.string ⟨#[]⟩, ideV d A1 c1 A2 c2, .int .i64 1]) ∧ InI w' d A1 c1 A2 c2 ∧ Below w.heap.size w w' ∧ Own8 w w' A A1 ∧ Own8 w w' A' A2 := by
  have HI := Lib.hid h
  have C := Lib.hid (fun (W : World) (hb : Below w.heap.size w W) => iright_any d A c A' c' W (h.keep hb))
  rw [hr] at C
  clear hr
  clear h
  obtain ⟨V1, hV1⟩ : ∃ W, W = (w.alloc (.cells (ideL d A c A' c') 29)).alloc (.cells zer8 29) := ⟨_, rfl⟩
  have iD1 : Is V1 w.heap.size 29 (ideL d A c A' c') := by rw [hV1]; exact heap_alloc2_old w _ _
  have iR1 : Is V1 (w.heap.size + 1) 29 zer8 := by rw [hV1]; exact heap_alloc2_new w _ _
  have hB1 : Below w.heap.size w V1 := by rw [hV1]; exact ((Below.refl _ _).alloc (Nat.le_refl _) _).alloc (by simp) _
  go_enter Tryz.func123, Tryz.ntmps123
  go_wp2_with fail
  rw [← hV1]
  clear hV1
  go_wp2_with (refine wpList_load_row rfl 29 _ rfl w.heap.size rfl 29 _ (0, 0) _ iD1 Tryz.underlying29 rfl infoIde ?_)
  refine (C.out _ hB1).mono ?_
  rintro e V2 ⟨rfl, hx⟩
  have iD2 := iD1.below hx iD1.lt
  have iR2 := iR1.below hx iR1.lt
  have hB2 := hB1.trans (hx.mono hB1.size)
  clear hx
  clear iD1 iR1 hB1
  go_wp2
  have iDd : Is V2.drew w.heap.size 29 (ideL d A c A' c') := iD2
  have iRd : Is V2.drew (w.heap.size + 1) 29 zer8 := iR2
  have hBd : Below w.heap.size w V2.drew := belowN hB2 1
  refine wp_region_held_drew (S := fun W => Is W w.heap.size 29 (ideL d A c A' c')) (by kernel_rfl) iDd (fun hS => ?_)
  change wpAnyH _ _ (opsOf Tryz.f123 2) _ _ 4 (Array.replicate 4 false) _ _
  clear hS iD2 iR2 hB2
  generalize V2.drew = V at *
  refine wpAnyH_pure (i := 0) (v := .agg (ideL d A c A' c')) (at_nth rfl) (by kernel_rfl) (by kernel_rfl) (by kernel_rfl) (fun _ _ _ h => h) (by kernel_rfl) (fun w hSw => by exact exec_load rfl rfl (run_loadVar_row _ _ 29 29 _ (0, 0) _ hSw Tryz.underlying29 rfl infoIde)) iDd ?_
  simp only [Act.put, List.setIfInBounds_toArray, List.set_cons_succ, List.set_cons_zero]
  refine wpAnyH_pure (i := 1) (v := .string { data := #[] }) (at_nth rfl) (by kernel_rfl) (by kernel_rfl) (by kernel_rfl) (fun _ _ _ h => h) (by kernel_rfl) (fun w hSw => by kernel_rfl) iDd ?_
  simp only [Act.put, List.setIfInBounds_toArray, List.set_cons_succ, List.set_cons_zero]
  have iDz : Is (V.setRow (w.heap.size + 1) (ideL d A c A' c')) w.heap.size 29 (ideL d A c A' c') := iDd.rowFar (by omega) _
  refine wpAnyH_storerow (i := 2) (g := w.heap.size + 1) (cs := (ideL d A c A' c')) (t := 29) (old := zer8) (by kernel_rfl) (at_nth rfl) (by kernel_rfl) rfl (by kernel_rfl) (by kernel_rfl) iRd infoIde rfl (ideL_one _ _ _ _ _) iDz ?_
  simp only [Act.put]
  refine wpAnyH_pure (i := 3) (v := .int .i64 1) (at_nth rfl) (by kernel_rfl) (by kernel_rfl) (by kernel_rfl) (fun _ _ _ h => h) (by kernel_rfl) (fun w hSw => by kernel_rfl) iDz ?_
  simp only [Act.put, List.setIfInBounds_toArray, List.set_cons_succ, List.set_cons_zero]
  refine wpAnyH_done (by kernel_rfl) ?_ _
  go_wp2
  exact bodyPost_ret (results_tct Tryz.results123 _ _ _ (w.heap.size + 1) 29 _ (0, 0) _ rfl (iRd.row _) Tryz.underlying29 infoIde) rfl ⟨A, c, A', c', rfl, HI.out.keep (belowRow hBd (by simp) _), belowRow hBd (by simp) _, Or.inl rfl, Or.inl rfl⟩

set_option maxRecDepth 100000 in
set_option maxHeartbeats 4000000 in
theorem seal_b (d : Ide) (A : Option Addr) (c : Nat) (A' : Option Addr) (c' : Nat) (l t : ByteArray) (w : World) (h : InI w d A c A' c') (hr : right8 d = true) (hi : ¬ ((l.size : Int) = 16)) :
    Calls Tryz.prog 123 #[ideV d A c A' c', .string l, .string t] w fun e w' => ∃ A1 c1 A2 c2, e = .returned (.tuple #[.string ⟨#[]⟩, ideV d A1 c1 A2 c2, .int .i64 1]) ∧ InI w' d A1 c1 A2 c2 ∧ Below w.heap.size w w' ∧ Own8 w w' A A1 ∧ Own8 w w' A' A2 := by
  have HI := Lib.hid h
  have C := Lib.hid (fun (W : World) (hb : Below w.heap.size w W) => iright_any d A c A' c' W (h.keep hb))
  rw [hr] at C
  clear hr
  clear h
  obtain ⟨V1, hV1⟩ : ∃ W, W = (w.alloc (.cells (ideL d A c A' c') 29)).alloc (.cells zer8 29) := ⟨_, rfl⟩
  have iD1 : Is V1 w.heap.size 29 (ideL d A c A' c') := by rw [hV1]; exact heap_alloc2_old w _ _
  have iR1 : Is V1 (w.heap.size + 1) 29 zer8 := by rw [hV1]; exact heap_alloc2_new w _ _
  have hB1 : Below w.heap.size w V1 := by rw [hV1]; exact ((Below.refl _ _).alloc (Nat.le_refl _) _).alloc (by simp) _
  go_enter Tryz.func123, Tryz.ntmps123
  go_wp2_with fail
  rw [← hV1]
  clear hV1
  go_wp2_with (refine wpList_load_row rfl 29 _ rfl w.heap.size rfl 29 _ (0, 0) _ iD1 Tryz.underlying29 rfl infoIde ?_)
  refine (C.out _ hB1).mono ?_
  rintro e V2 ⟨rfl, hx⟩
  have iD2 := iD1.below hx iD1.lt
  have iR2 := iR1.below hx iR1.lt
  have hB2 := hB1.trans (hx.mono hB1.size)
  clear hx
  clear iD1 iR1 hB1
  go_wp2
  have iDd : Is V2.drew w.heap.size 29 (ideL d A c A' c') := iD2
  have iRd : Is V2.drew (w.heap.size + 1) 29 zer8 := iR2
  have hBd : Below w.heap.size w V2.drew := belowN hB2 1
  refine wp_region_held_drew (S := fun W => Is W w.heap.size 29 (ideL d A c A' c')) (by kernel_rfl) iDd (fun hS => ?_)
  change wpAnyH _ _ (opsOf Tryz.f123 2) _ _ 4 (Array.replicate 4 false) _ _
  clear hS iD2 iR2 hB2
  generalize V2.drew = V at *
  refine wpAnyH_pure (i := 0) (v := .agg (ideL d A c A' c')) (at_nth rfl) (by kernel_rfl) (by kernel_rfl) (by kernel_rfl) (fun _ _ _ h => h) (by kernel_rfl) (fun w hSw => by exact exec_load rfl rfl (run_loadVar_row _ _ 29 29 _ (0, 0) _ hSw Tryz.underlying29 rfl infoIde)) iDd ?_
  simp only [Act.put, List.setIfInBounds_toArray, List.set_cons_succ, List.set_cons_zero]
  refine wpAnyH_pure (i := 1) (v := .string { data := #[] }) (at_nth rfl) (by kernel_rfl) (by kernel_rfl) (by kernel_rfl) (fun _ _ _ h => h) (by kernel_rfl) (fun w hSw => by kernel_rfl) iDd ?_
  simp only [Act.put, List.setIfInBounds_toArray, List.set_cons_succ, List.set_cons_zero]
  have iDz : Is (V.setRow (w.heap.size + 1) (ideL d A c A' c')) w.heap.size 29 (ideL d A c A' c') := iDd.rowFar (by omega) _
  refine wpAnyH_storerow (i := 2) (g := w.heap.size + 1) (cs := (ideL d A c A' c')) (t := 29) (old := zer8) (by kernel_rfl) (at_nth rfl) (by kernel_rfl) rfl (by kernel_rfl) (by kernel_rfl) iRd infoIde rfl (ideL_one _ _ _ _ _) iDz ?_
  simp only [Act.put]
  refine wpAnyH_pure (i := 3) (v := .int .i64 1) (at_nth rfl) (by kernel_rfl) (by kernel_rfl) (by kernel_rfl) (fun _ _ _ h => h) (by kernel_rfl) (fun w hSw => by kernel_rfl) iDz ?_
  simp only [Act.put, List.setIfInBounds_toArray, List.set_cons_succ, List.set_cons_zero]
  refine wpAnyH_done (by kernel_rfl) ?_ _
  go_wp2
  exact bodyPost_ret (results_tct Tryz.results123 _ _ _ (w.heap.size + 1) 29 _ (0, 0) _ rfl (iRd.row _) Tryz.underlying29 infoIde) rfl ⟨A, c, A', c', rfl, HI.out.keep (belowRow hBd (by simp) _), belowRow hBd (by simp) _, Or.inl rfl, Or.inl rfl⟩

set_option maxRecDepth 100000 in
set_option maxHeartbeats 4000000 in
theorem seal_b2 (d : Ide) (A : Option Addr) (c : Nat) (A' : Option Addr) (c' : Nat) (l t : ByteArray) (w : World) (h : InI w d A c A' c') (hr : right8 d = true) (hi : (l.size : Int) = 16) (hj : ¬ ((t.size : Int) = 24)) :
    Calls Tryz.prog 123 #[ideV d A c A' c', .string l, .string t] w fun e w' => ∃ A1 c1 A2 c2, e = .returned (.tuple #[.string ⟨#[]⟩, ideV d A1 c1 A2 c2, .int .i64 1]) ∧ InI w' d A1 c1 A2 c2 ∧ Below w.heap.size w w' ∧ Own8 w w' A A1 ∧ Own8 w w' A' A2 := by
  have HI := Lib.hid h
  have C := Lib.hid (fun (W : World) (hb : Below w.heap.size w W) => iright_any d A c A' c' W (h.keep hb))
  rw [hr] at C
  clear hr
  clear h
  obtain ⟨V1, hV1⟩ : ∃ W, W = (w.alloc (.cells (ideL d A c A' c') 29)).alloc (.cells zer8 29) := ⟨_, rfl⟩
  have iD1 : Is V1 w.heap.size 29 (ideL d A c A' c') := by rw [hV1]; exact heap_alloc2_old w _ _
  have iR1 : Is V1 (w.heap.size + 1) 29 zer8 := by rw [hV1]; exact heap_alloc2_new w _ _
  have hB1 : Below w.heap.size w V1 := by rw [hV1]; exact ((Below.refl _ _).alloc (Nat.le_refl _) _).alloc (by simp) _
  go_enter Tryz.func123, Tryz.ntmps123
  go_wp2_with fail
  rw [← hV1]
  clear hV1
  go_wp2_with (refine wpList_load_row rfl 29 _ rfl w.heap.size rfl 29 _ (0, 0) _ iD1 Tryz.underlying29 rfl infoIde ?_)
  refine (C.out _ hB1).mono ?_
  rintro e V2 ⟨rfl, hx⟩
  have iD2 := iD1.below hx iD1.lt
  have iR2 := iR1.below hx iR1.lt
  have hB2 := hB1.trans (hx.mono hB1.size)
  clear hx
  clear iD1 iR1 hB1
  go_wp2
  have iDd : Is V2.drew w.heap.size 29 (ideL d A c A' c') := iD2
  have iRd : Is V2.drew (w.heap.size + 1) 29 zer8 := iR2
  have hBd : Below w.heap.size w V2.drew := belowN hB2 1
  refine wp_region_held_drew (S := fun W => Is W w.heap.size 29 (ideL d A c A' c')) (by kernel_rfl) iDd (fun hS => ?_)
  change wpAnyH _ _ (opsOf Tryz.f123 2) _ _ 4 (Array.replicate 4 false) _ _
  clear hS iD2 iR2 hB2
  generalize V2.drew = V at *
  refine wpAnyH_pure (i := 0) (v := .agg (ideL d A c A' c')) (at_nth rfl) (by kernel_rfl) (by kernel_rfl) (by kernel_rfl) (fun _ _ _ h => h) (by kernel_rfl) (fun w hSw => by exact exec_load rfl rfl (run_loadVar_row _ _ 29 29 _ (0, 0) _ hSw Tryz.underlying29 rfl infoIde)) iDd ?_
  simp only [Act.put, List.setIfInBounds_toArray, List.set_cons_succ, List.set_cons_zero]
  refine wpAnyH_pure (i := 1) (v := .string { data := #[] }) (at_nth rfl) (by kernel_rfl) (by kernel_rfl) (by kernel_rfl) (fun _ _ _ h => h) (by kernel_rfl) (fun w hSw => by kernel_rfl) iDd ?_
  simp only [Act.put, List.setIfInBounds_toArray, List.set_cons_succ, List.set_cons_zero]
  have iDz : Is (V.setRow (w.heap.size + 1) (ideL d A c A' c')) w.heap.size 29 (ideL d A c A' c') := iDd.rowFar (by omega) _
  refine wpAnyH_storerow (i := 2) (g := w.heap.size + 1) (cs := (ideL d A c A' c')) (t := 29) (old := zer8) (by kernel_rfl) (at_nth rfl) (by kernel_rfl) rfl (by kernel_rfl) (by kernel_rfl) iRd infoIde rfl (ideL_one _ _ _ _ _) iDz ?_
  simp only [Act.put]
  refine wpAnyH_pure (i := 3) (v := .int .i64 1) (at_nth rfl) (by kernel_rfl) (by kernel_rfl) (by kernel_rfl) (fun _ _ _ h => h) (by kernel_rfl) (fun w hSw => by kernel_rfl) iDz ?_
  simp only [Act.put, List.setIfInBounds_toArray, List.set_cons_succ, List.set_cons_zero]
  refine wpAnyH_done (by kernel_rfl) ?_ _
  go_wp2
  exact bodyPost_ret (results_tct Tryz.results123 _ _ _ (w.heap.size + 1) 29 _ (0, 0) _ rfl (iRd.row _) Tryz.underlying29 infoIde) rfl ⟨A, c, A', c', rfl, HI.out.keep (belowRow hBd (by simp) _), belowRow hBd (by simp) _, Or.inl rfl, Or.inl rfl⟩

set_option maxRecDepth 100000 in
set_option maxHeartbeats 4000000 in
theorem seal_c (d : Ide) (A : Option Addr) (c : Nat) (A' : Option Addr) (c' : Nat) (l t : ByteArray) (w : World) (h : InI w d A c A' c') (hr : right8 d = true) (hi : (l.size : Int) = 16) (hj : (t.size : Int) = 24) (y : ByteArray) (hf : find8 (d.K.map askK) (l, t) = (y, true)) :
    Calls Tryz.prog 123 #[ideV d A c A' c', .string l, .string t] w fun e w' => ∃ A1 c1 A2 c2, e = .returned (.tuple #[.string y, ideV d A1 c1 A2 c2, .int .i64 0]) ∧ InI w' d A1 c1 A2 c2 ∧ Below w.heap.size w w' ∧ Own8 w w' A A1 ∧ Own8 w w' A' A2 := by
  have HI := Lib.hid h
  have C := Lib.hid (fun (W : World) (hb : Below w.heap.size w W) => iright_any d A c A' c' W (h.keep hb))
  rw [hr] at C
  have CF := Lib.hid (fun (W : World) (Bd : Nat) (hb : Below w.heap.size w W) (hBd : Is W Bd 29 (ideL d A c A' c')) => h.fiK Bd hb hBd l t)
  rw [hf] at CF
  clear hr hf
  clear h
  obtain ⟨V1, hV1⟩ : ∃ W, W = (w.alloc (.cells (ideL d A c A' c') 29)).alloc (.cells zer8 29) := ⟨_, rfl⟩
  have iD1 : Is V1 w.heap.size 29 (ideL d A c A' c') := by rw [hV1]; exact heap_alloc2_old w _ _
  have iR1 : Is V1 (w.heap.size + 1) 29 zer8 := by rw [hV1]; exact heap_alloc2_new w _ _
  have hB1 : Below w.heap.size w V1 := by rw [hV1]; exact ((Below.refl _ _).alloc (Nat.le_refl _) _).alloc (by simp) _
  go_enter Tryz.func123, Tryz.ntmps123
  go_wp2_with fail
  rw [← hV1]
  clear hV1
  go_wp2_with (refine wpList_load_row rfl 29 _ rfl w.heap.size rfl 29 _ (0, 0) _ iD1 Tryz.underlying29 rfl infoIde ?_)
  refine (C.out _ hB1).mono ?_
  rintro e V2 ⟨rfl, hx⟩
  have iD2 := iD1.below hx iD1.lt
  have iR2 := iR1.below hx iR1.lt
  have hB2 := hB1.trans (hx.mono hB1.size)
  clear hx
  clear iD1 iR1 hB1
  go_wp2_with (refine wpList_load_row rfl 29 _ rfl w.heap.size rfl 29 _ (0, 0) _ iD2 Tryz.underlying29 rfl infoIde ?_)
  refine (cells_any _ _ _ _ _ _).mono ?_
  rintro e V ⟨rfl, rfl⟩
  have iC3 : Is (V2.alloc (.cells (ideL d A c A' c') 29)) V2.heap.size 29 (ideL d A c A' c') := Is.new _ _ _
  have iD3 := iD2.alloc (.cells (ideL d A c A' c') 29)
  have iR3 := iR2.alloc (.cells (ideL d A c A' c') 29)
  have hB3 := hB2.alloc hB2.size (.cells (ideL d A c A' c') 29)
  have hC : w.heap.size + 1 < V2.heap.size := iR2.lt
  clear iD2 iR2 hB2
  generalize V2.alloc (.cells (ideL d A c A' c') 29) = V3 at *
  generalize V2.heap.size = BC at *
  go_wp2_with fail
  refine (CF.out _ BC hB3 iC3).mono ?_
  rintro e V4 ⟨rfl, hx⟩
  have iD4 := iD3.below hx iD3.lt
  have iR4 := iR3.below hx iR3.lt
  have hB4 := hB3.trans (hx.mono hB3.size)
  clear iC3
  clear hx
  clear iD3 iR3 hB3
  go_wp2_with (refine wpList_load_row rfl 29 _ rfl w.heap.size rfl 29 _ (0, 0) _ iD4 Tryz.underlying29 rfl infoIde ?_)
  refine (copy_any d A c A' c' _ (HI.out.keep hB4)).mono ?_
  rintro e V5 ⟨A1, c1, A2, c2, rfl, r1, r2, hx⟩
  have O1 := Lib.hid (r1.mono hB4.size)
  have O2 := Lib.hid (r2.mono hB4.size)
  have iD5 := iD4.below hx iD4.lt
  have iR5 := iR4.below hx iR4.lt
  have hB5 := hB4.trans (hx.mono hB4.size)
  clear hx
  clear iD4 iR4 hB4
  go_wp2_with (refine wpList_store_row rfl 29 _ _ rfl (w.heap.size + 1) (ideL d A1 c1 A2 c2) rfl rfl 29 _ iR5 infoIde rfl (ideL_one _ _ _ _ _) ?_)
  have z1 := (r1.rowFar iR5 (by decide) (ideL d A1 c1 A2 c2)).inV
  have z2 := (r2.rowFar iR5 (by decide) (ideL d A1 c1 A2 c2)).inV
  have n1 := rowNil r1
  have n2 := rowNil r2
  exact bodyPost_ret (results_tct Tryz.results123 _ _ _ (w.heap.size + 1) 29 _ (0, 0) _ rfl (iR5.row _) Tryz.underlying29 infoIde) rfl ⟨A1, c1, A2, c2, rfl, ⟨z1, z2, n1, n2, HI.out.fit, HI.out.fitK⟩, belowRow hB5 (by simp) _, Or.inr (O1.out.rowFar iR5 (by decide) _).own8, Or.inr (O2.out.rowFar iR5 (by decide) _).own8⟩

set_option maxRecDepth 100000 in
set_option maxHeartbeats 4000000 in
theorem seal_d (d : Ide) (A : Option Addr) (c : Nat) (A' : Option Addr) (c' : Nat) (l t : ByteArray) (w : World) (h : InI w d A c A' c') (hr : right8 d = true) (hi : (l.size : Int) = 16) (hj : (t.size : Int) = 24) (y : ByteArray) (hf : find8 (d.K.map askK) (l, t) = (y, false)) (hl : 2000 ≤ (d.K.length : Int)) :
    Calls Tryz.prog 123 #[ideV d A c A' c', .string l, .string t] w fun e w' => ∃ A1 c1 A2 c2, e = .returned (.tuple #[.string ⟨#[]⟩, ideV d A1 c1 A2 c2, .int .i64 2]) ∧ InI w' d A1 c1 A2 c2 ∧ Below w.heap.size w w' ∧ Own8 w w' A A1 ∧ Own8 w w' A' A2 := by
  have HI := Lib.hid h
  have C := Lib.hid (fun (W : World) (hb : Below w.heap.size w W) => iright_any d A c A' c' W (h.keep hb))
  rw [hr] at C
  have CF := Lib.hid (fun (W : World) (Bd : Nat) (hb : Below w.heap.size w W) (hBd : Is W Bd 29 (ideL d A c A' c')) => h.fiK Bd hb hBd l t)
  rw [hf] at CF
  clear hr hf
  clear h
  obtain ⟨V1, hV1⟩ : ∃ W, W = (w.alloc (.cells (ideL d A c A' c') 29)).alloc (.cells zer8 29) := ⟨_, rfl⟩
  have iD1 : Is V1 w.heap.size 29 (ideL d A c A' c') := by rw [hV1]; exact heap_alloc2_old w _ _
  have iR1 : Is V1 (w.heap.size + 1) 29 zer8 := by rw [hV1]; exact heap_alloc2_new w _ _
  have hB1 : Below w.heap.size w V1 := by rw [hV1]; exact ((Below.refl _ _).alloc (Nat.le_refl _) _).alloc (by simp) _
  go_enter Tryz.func123, Tryz.ntmps123
  go_wp2_with fail
  rw [← hV1]
  clear hV1
  go_wp2_with (refine wpList_load_row rfl 29 _ rfl w.heap.size rfl 29 _ (0, 0) _ iD1 Tryz.underlying29 rfl infoIde ?_)
  refine (C.out _ hB1).mono ?_
  rintro e V2 ⟨rfl, hx⟩
  have iD2 := iD1.below hx iD1.lt
  have iR2 := iR1.below hx iR1.lt
  have hB2 := hB1.trans (hx.mono hB1.size)
  clear hx
  clear iD1 iR1 hB1
  go_wp2_with (refine wpList_load_row rfl 29 _ rfl w.heap.size rfl 29 _ (0, 0) _ iD2 Tryz.underlying29 rfl infoIde ?_)
  refine (cells_any _ _ _ _ _ _).mono ?_
  rintro e V ⟨rfl, rfl⟩
  have iC3 : Is (V2.alloc (.cells (ideL d A c A' c') 29)) V2.heap.size 29 (ideL d A c A' c') := Is.new _ _ _
  have iD3 := iD2.alloc (.cells (ideL d A c A' c') 29)
  have iR3 := iR2.alloc (.cells (ideL d A c A' c') 29)
  have hB3 := hB2.alloc hB2.size (.cells (ideL d A c A' c') 29)
  have hC : w.heap.size + 1 < V2.heap.size := iR2.lt
  clear iD2 iR2 hB2
  generalize V2.alloc (.cells (ideL d A c A' c') 29) = V3 at *
  generalize V2.heap.size = BC at *
  go_wp2_with fail
  refine (CF.out _ BC hB3 iC3).mono ?_
  rintro e V4 ⟨rfl, hx⟩
  have iD4 := iD3.below hx iD3.lt
  have iR4 := iR3.below hx iR3.lt
  have hB4 := hB3.trans (hx.mono hB3.size)
  clear iC3
  clear hx
  clear iD3 iR3 hB3
  have q2 : V4.cell? ⟨w.heap.size, 3, none⟩ = some (.slice A' d.K.length c') := iD4.cell 3
  go_wp2
  have iDd : Is V4.drew w.heap.size 29 (ideL d A c A' c') := iD4
  have iRd : Is V4.drew (w.heap.size + 1) 29 zer8 := iR4
  have hBd : Below w.heap.size w V4.drew := belowN hB4 1
  refine wp_region_held_drew (S := fun W => Is W w.heap.size 29 (ideL d A c A' c')) (by kernel_rfl) iDd (fun hS => ?_)
  change wpAnyH _ _ (opsOf Tryz.f123 7) _ _ 4 (Array.replicate 4 false) _ _
  clear hS iD4 iR4 hB4
  generalize V4.drew = V at *
  refine wpAnyH_pure (i := 0) (v := .agg (ideL d A c A' c')) (at_nth rfl) (by kernel_rfl) (by kernel_rfl) (by kernel_rfl) (fun _ _ _ h => h) (by kernel_rfl) (fun w hSw => by exact exec_load rfl rfl (run_loadVar_row _ _ 29 29 _ (0, 0) _ hSw Tryz.underlying29 rfl infoIde)) iDd ?_
  simp only [Act.put, List.setIfInBounds_toArray, List.set_cons_succ, List.set_cons_zero]
  refine wpAnyH_pure (i := 1) (v := .string { data := #[] }) (at_nth rfl) (by kernel_rfl) (by kernel_rfl) (by kernel_rfl) (fun _ _ _ h => h) (by kernel_rfl) (fun w hSw => by kernel_rfl) iDd ?_
  simp only [Act.put, List.setIfInBounds_toArray, List.set_cons_succ, List.set_cons_zero]
  have iDz : Is (V.setRow (w.heap.size + 1) (ideL d A c A' c')) w.heap.size 29 (ideL d A c A' c') := iDd.rowFar (by omega) _
  refine wpAnyH_storerow (i := 2) (g := w.heap.size + 1) (cs := (ideL d A c A' c')) (t := 29) (old := zer8) (by kernel_rfl) (at_nth rfl) (by kernel_rfl) rfl (by kernel_rfl) (by kernel_rfl) iRd infoIde rfl (ideL_one _ _ _ _ _) iDz ?_
  simp only [Act.put]
  refine wpAnyH_pure (i := 3) (v := .int .i64 2) (at_nth rfl) (by kernel_rfl) (by kernel_rfl) (by kernel_rfl) (fun _ _ _ h => h) (by kernel_rfl) (fun w hSw => by kernel_rfl) iDz ?_
  simp only [Act.put, List.setIfInBounds_toArray, List.set_cons_succ, List.set_cons_zero]
  refine wpAnyH_done (by kernel_rfl) ?_ _
  go_wp2
  exact bodyPost_ret (results_tct Tryz.results123 _ _ _ (w.heap.size + 1) 29 _ (0, 0) _ rfl (iRd.row _) Tryz.underlying29 infoIde) rfl ⟨A, c, A', c', rfl, HI.out.keep (belowRow hBd (by simp) _), belowRow hBd (by simp) _, Or.inl rfl, Or.inl rfl⟩
end Go.Proofs.YtfgdcpolfekgjaaGreat
namespace Go.Proofs.YtfgdcpolfekgjaaGreat
open Go.RowKit Go.Shelf

set_option maxRecDepth 100000 in
set_option maxHeartbeats 4000000 in
theorem seal_e (d : Ide) (A : Option Addr) (c : Nat) (A' : Option Addr) (c' : Nat) (l t : ByteArray) (w : World) (h : InI w d A c A' c') (hr : right8 d = true) (hi : (l.size : Int) = 16) (hj : (t.size : Int) = 24) (y : ByteArray) (hf : find8 (d.K.map askK) (l, t) = (y, false)) (hl : ¬ (2000 ≤ (d.K.length : Int))) (E : Int) (hE : ¬ (E = 0)) (ht : takeR d.B d.a 40 = .tuple #[.string ⟨#[]⟩, .agg #[.string d.B, .int .i64 d.a], .int .i64 E]) :
    Calls Tryz.prog 123 #[ideV d A c A' c', .string l, .string t] w fun e w' => ∃ A1 c1 A2 c2, e = .returned (.tuple #[.string ⟨#[]⟩, ideV d A1 c1 A2 c2, .int .i64 E]) ∧ InI w' d A1 c1 A2 c2 ∧ Below w.heap.size w w' ∧ Own8 w w' A A1 ∧ Own8 w w' A' A2 := by
  have HI := Lib.hid h
  have C := Lib.hid (fun (W : World) (hb : Below w.heap.size w W) => iright_any d A c A' c' W (h.keep hb))
  rw [hr] at C
  have CF := Lib.hid (fun (W : World) (Bd : Nat) (hb : Below w.heap.size w W) (hBd : Is W Bd 29 (ideL d A c A' c')) => h.fiK Bd hb hBd l t)
  rw [hf] at CF
  clear hr hf
  have HT := Lib.hid (fun W => ttake_any d.B d.a 40 W)
  rw [ht] at HT
  clear ht
  clear h
  obtain ⟨V1, hV1⟩ : ∃ W, W = (w.alloc (.cells (ideL d A c A' c') 29)).alloc (.cells zer8 29) := ⟨_, rfl⟩
  have iD1 : Is V1 w.heap.size 29 (ideL d A c A' c') := by rw [hV1]; exact heap_alloc2_old w _ _
  have iR1 : Is V1 (w.heap.size + 1) 29 zer8 := by rw [hV1]; exact heap_alloc2_new w _ _
  have hB1 : Below w.heap.size w V1 := by rw [hV1]; exact ((Below.refl _ _).alloc (Nat.le_refl _) _).alloc (by simp) _
  go_enter Tryz.func123, Tryz.ntmps123
  go_wp2_with fail
  rw [← hV1]
  clear hV1
  go_wp2_with (refine wpList_load_row rfl 29 _ rfl w.heap.size rfl 29 _ (0, 0) _ iD1 Tryz.underlying29 rfl infoIde ?_)
  refine (C.out _ hB1).mono ?_
  rintro e V2 ⟨rfl, hx⟩
  have iD2 := iD1.below hx iD1.lt
  have iR2 := iR1.below hx iR1.lt
  have hB2 := hB1.trans (hx.mono hB1.size)
  clear hx
  clear iD1 iR1 hB1
  go_wp2_with (refine wpList_load_row rfl 29 _ rfl w.heap.size rfl 29 _ (0, 0) _ iD2 Tryz.underlying29 rfl infoIde ?_)
  refine (cells_any _ _ _ _ _ _).mono ?_
  rintro e V ⟨rfl, rfl⟩
  have iC3 : Is (V2.alloc (.cells (ideL d A c A' c') 29)) V2.heap.size 29 (ideL d A c A' c') := Is.new _ _ _
  have iD3 := iD2.alloc (.cells (ideL d A c A' c') 29)
  have iR3 := iR2.alloc (.cells (ideL d A c A' c') 29)
  have hB3 := hB2.alloc hB2.size (.cells (ideL d A c A' c') 29)
  have hC : w.heap.size + 1 < V2.heap.size := iR2.lt
  clear iD2 iR2 hB2
  generalize V2.alloc (.cells (ideL d A c A' c') 29) = V3 at *
  generalize V2.heap.size = BC at *
  go_wp2_with fail
  refine (CF.out _ BC hB3 iC3).mono ?_
  rintro e V4 ⟨rfl, hx⟩
  have iD4 := iD3.below hx iD3.lt
  have iR4 := iR3.below hx iR3.lt
  have hB4 := hB3.trans (hx.mono hB3.size)
  clear iC3
  clear hx
  clear iD3 iR3 hB3
  have q2 : V4.cell? ⟨w.heap.size, 3, none⟩ = some (.slice A' d.K.length c') := iD4.cell 3
  have q0 : V4.cell? ⟨w.heap.size, 0, none⟩ = some (.string d.B) := iD4.cell 0
  have q1 : V4.cell? ⟨w.heap.size, 1, none⟩ = some (.int .i64 d.a) := iD4.cell 1
  go_wp2_with fail
  clear q0 q1 q2
  refine (HT.out _).mono ?_
  rintro e V5 ⟨rfl, hx⟩
  have iD5 := iD4.below hx iD4.lt
  have iR5 := iR4.below hx iR4.lt
  have hB5 := hB4.trans (hx.mono hB4.size)
  clear hx
  clear iD4 iR4 hB4
  go_wp2_with fail
  have iT6 : Is (V5.alloc (.cells #[.string d.B, .int .i64 d.a] 23)) V5.heap.size 23 #[.string d.B, .int .i64 d.a] := Is.new _ _ _
  have iD6 := iD5.alloc (.cells #[.string d.B, .int .i64 d.a] 23)
  have iR6 := iR5.alloc (.cells #[.string d.B, .int .i64 d.a] 23)
  have hB6 := hB5.alloc hB5.size (.cells #[.string d.B, .int .i64 d.a] 23)
  have hT : w.heap.size + 1 < V5.heap.size := iR5.lt
  clear iD5 iR5 hB5
  generalize V5.alloc (.cells #[.string d.B, .int .i64 d.a] 23) = V6 at *
  generalize V5.heap.size = BT at *
  clear iT6
  go_wp2
  have iDd : Is V6.drew w.heap.size 29 (ideL d A c A' c') := iD6
  have iRd : Is V6.drew (w.heap.size + 1) 29 zer8 := iR6
  have hBd : Below w.heap.size w V6.drew := belowN hB6 1
  refine wp_region_held_drew (S := fun W => Is W w.heap.size 29 (ideL d A c A' c')) (by kernel_rfl) iDd (fun hS => ?_)
  change wpAnyH _ _ (opsOf Tryz.f123 10) _ _ 5 (Array.replicate 5 false) _ _
  clear hS iD6 iR6 hB6
  generalize V6.drew = V at *
  refine wpAnyH_pure (i := 0) (v := .agg (ideL d A c A' c')) (at_nth rfl) (by kernel_rfl) (by kernel_rfl) (by kernel_rfl) (fun _ _ _ h => h) (by kernel_rfl) (fun w hSw => by exact exec_load rfl rfl (run_loadVar_row _ _ 29 29 _ (0, 0) _ hSw Tryz.underlying29 rfl infoIde)) iDd ?_
  simp only [Act.put, List.setIfInBounds_toArray, List.set_cons_succ, List.set_cons_zero]
  refine wpAnyH_pure (i := 1) (v := .int .i64 E) (at_nth rfl) (by kernel_rfl) (by kernel_rfl) (by kernel_rfl) (fun _ _ _ h => h) (by kernel_rfl) (fun w hSw => by kernel_rfl) iDd ?_
  simp only [Act.put, List.setIfInBounds_toArray, List.set_cons_succ, List.set_cons_zero]
  refine wpAnyH_pure (i := 2) (v := .string { data := #[] }) (at_nth rfl) (by kernel_rfl) (by kernel_rfl) (by kernel_rfl) (fun _ _ _ h => h) (by kernel_rfl) (fun w hSw => by kernel_rfl) iDd ?_
  simp only [Act.put, List.setIfInBounds_toArray, List.set_cons_succ, List.set_cons_zero]
  have iDz : Is (V.setRow (w.heap.size + 1) (ideL d A c A' c')) w.heap.size 29 (ideL d A c A' c') := iDd.rowFar (by omega) _
  refine wpAnyH_storerow (i := 3) (g := w.heap.size + 1) (cs := (ideL d A c A' c')) (t := 29) (old := zer8) (by kernel_rfl) (at_nth rfl) (by kernel_rfl) rfl (by kernel_rfl) (by kernel_rfl) iRd infoIde rfl (ideL_one _ _ _ _ _) iDz ?_
  simp only [Act.put]
  refine wpAnyH_pure (i := 4) (v := .int .i64 E) (at_nth rfl) (by kernel_rfl) (by kernel_rfl) (by kernel_rfl) (fun _ _ _ h => h) (by kernel_rfl) (fun w hSw => by kernel_rfl) iDz ?_
  simp only [Act.put, List.setIfInBounds_toArray, List.set_cons_succ, List.set_cons_zero]
  refine wpAnyH_done (by kernel_rfl) ?_ _
  go_wp2
  exact bodyPost_ret (results_tct Tryz.results123 _ _ _ (w.heap.size + 1) 29 _ (0, 0) _ rfl (iRd.row _) Tryz.underlying29 infoIde) rfl ⟨A, c, A', c', rfl, HI.out.keep (belowRow hBd (by simp) _), belowRow hBd (by simp) _, Or.inl rfl, Or.inl rfl⟩
end Go.Proofs.YtfgdcpolfekgjaaGreat
namespace Go.Proofs.YtfgdcpolfekgjaaGreat
open Go.RowKit Go.Shelf

set_option maxRecDepth 100000 in
set_option maxHeartbeats 4000000 in
theorem seal_ft (d : Ide) (A : Option Addr) (c : Nat) (A' : Option Addr) (c' : Nat) (l t : ByteArray) (w : World) (h : InI w d A c A' c') (hr : right8 d = true) (hi : (l.size : Int) = 16) (hj : (t.size : Int) = 24) (y : ByteArray) (hf : find8 (d.K.map askK) (l, t) = (y, false)) (hl : ¬ (2000 ≤ (d.K.length : Int))) (S : ByteArray) (b : Int) (ht : takeR d.B d.a 40 = .tuple #[.string S, .agg #[.string d.B, .int .i64 b], .int .i64 0]) (z : ByteArray) (q : Bool) (hq : find8 (d.K.map opnK) (l, S) = (z, q)) (hc : d.c = true) :
    Calls Tryz.prog 123 #[ideV d A c A' c', .string l, .string t] w fun e w' => ∃ A1 c1 A2 c2, e = .returned (.tuple #[.string S, ideV ⟨d.B, b, d.N, d.K ++ [(l, t, S)], true⟩ A1 c1 A2 c2, .int .i64 0]) ∧ InI w' ⟨d.B, b, d.N, d.K ++ [(l, t, S)], true⟩ A1 c1 A2 c2 ∧ Below w.heap.size w w' ∧ Own8 w w' A A1 ∧ Own8 w w' A' A2 := by
  have HI := Lib.hid h
  have C := Lib.hid (fun (W : World) (hb : Below w.heap.size w W) => iright_any d A c A' c' W (h.keep hb))
  rw [hr] at C
  have CF := Lib.hid (fun (W : World) (Bd : Nat) (hb : Below w.heap.size w W) (hBd : Is W Bd 29 (ideL d A c A' c')) => h.fiK Bd hb hBd l t)
  rw [hf] at CF
  clear hr hf
  have HT := Lib.hid (fun W => ttake_any d.B d.a 40 W)
  rw [ht] at HT
  clear ht
  have CG := Lib.hid (fun (W : World) (Bd : Nat) (hb : Below w.heap.size w W) (hBd : Is W Bd 29 (ideL d A c A' c')) => h.fiT Bd hb hBd l S)
  rw [hq] at CG
  clear hq
  have HC := Lib.hid hc
  clear hc
  clear h
  obtain ⟨V1, hV1⟩ : ∃ W, W = (w.alloc (.cells (ideL d A c A' c') 29)).alloc (.cells zer8 29) := ⟨_, rfl⟩
  have iD1 : Is V1 w.heap.size 29 (ideL d A c A' c') := by rw [hV1]; exact heap_alloc2_old w _ _
  have iR1 : Is V1 (w.heap.size + 1) 29 zer8 := by rw [hV1]; exact heap_alloc2_new w _ _
  have hB1 : Below w.heap.size w V1 := by rw [hV1]; exact ((Below.refl _ _).alloc (Nat.le_refl _) _).alloc (by simp) _
  go_enter Tryz.func123, Tryz.ntmps123
  go_wp2_with fail
  rw [← hV1]
  clear hV1
  go_wp2_with (refine wpList_load_row rfl 29 _ rfl w.heap.size rfl 29 _ (0, 0) _ iD1 Tryz.underlying29 rfl infoIde ?_)
  refine (C.out _ hB1).mono ?_
  rintro e V2 ⟨rfl, hx⟩
  have iD2 := iD1.below hx iD1.lt
  have iR2 := iR1.below hx iR1.lt
  have hB2 := hB1.trans (hx.mono hB1.size)
  clear hx
  clear iD1 iR1 hB1
  go_wp2_with (refine wpList_load_row rfl 29 _ rfl w.heap.size rfl 29 _ (0, 0) _ iD2 Tryz.underlying29 rfl infoIde ?_)
  refine (cells_any _ _ _ _ _ _).mono ?_
  rintro e V ⟨rfl, rfl⟩
  have iC3 : Is (V2.alloc (.cells (ideL d A c A' c') 29)) V2.heap.size 29 (ideL d A c A' c') := Is.new _ _ _
  have iD3 := iD2.alloc (.cells (ideL d A c A' c') 29)
  have iR3 := iR2.alloc (.cells (ideL d A c A' c') 29)
  have hB3 := hB2.alloc hB2.size (.cells (ideL d A c A' c') 29)
  have hC : w.heap.size + 1 < V2.heap.size := iR2.lt
  clear iD2 iR2 hB2
  generalize V2.alloc (.cells (ideL d A c A' c') 29) = V3 at *
  generalize V2.heap.size = BC at *
  go_wp2_with fail
  refine (CF.out _ BC hB3 iC3).mono ?_
  rintro e V4 ⟨rfl, hx⟩
  have iD4 := iD3.below hx iD3.lt
  have iR4 := iR3.below hx iR3.lt
  have hB4 := hB3.trans (hx.mono hB3.size)
  clear iC3
  clear hx
  clear iD3 iR3 hB3
  have q2 : V4.cell? ⟨w.heap.size, 3, none⟩ = some (.slice A' d.K.length c') := iD4.cell 3
  have q0 : V4.cell? ⟨w.heap.size, 0, none⟩ = some (.string d.B) := iD4.cell 0
  have q1 : V4.cell? ⟨w.heap.size, 1, none⟩ = some (.int .i64 d.a) := iD4.cell 1
  go_wp2_with fail
  clear q0 q1 q2
  refine (HT.out _).mono ?_
  rintro e V5 ⟨rfl, hx⟩
  have iD5 := iD4.below hx iD4.lt
  have iR5 := iR4.below hx iR4.lt
  have hB5 := hB4.trans (hx.mono hB4.size)
  clear hx
  clear iD4 iR4 hB4
  have iT6 : Is (V5.alloc (.cells #[.string d.B, .int .i64 b] 23)) V5.heap.size 23 #[.string d.B, .int .i64 b] := Is.new _ _ _
  have iD6 := iD5.alloc (.cells #[.string d.B, .int .i64 b] 23)
  have iR6 := iR5.alloc (.cells #[.string d.B, .int .i64 b] 23)
  have hB6 := hB5.alloc hB5.size (.cells #[.string d.B, .int .i64 b] 23)
  have hT : w.heap.size + 1 < V5.heap.size := iR5.lt
  clear iD5 iR5 hB5
  go_wp2_with (refine wpList_load_row rfl 29 _ rfl w.heap.size rfl 29 _ (0, 0) _ iD6 Tryz.underlying29 rfl infoIde ?_)
  generalize V5.alloc (.cells #[.string d.B, .int .i64 b] 23) = V6 at *
  generalize V5.heap.size = BT at *
  refine (texts_any _ _ _ _ _ _).mono ?_
  rintro e V ⟨rfl, rfl⟩
  have iC7 : Is (V6.alloc (.cells (ideL d A c A' c') 29)) V6.heap.size 29 (ideL d A c A' c') := Is.new _ _ _
  have iD7 := iD6.alloc (.cells (ideL d A c A' c') 29)
  have iR7 := iR6.alloc (.cells (ideL d A c A' c') 29)
  have iT7 := iT6.alloc (.cells (ideL d A c A' c') 29)
  have hB7 := hB6.alloc hB6.size (.cells (ideL d A c A' c') 29)
  have hC : w.heap.size + 1 < V6.heap.size := iR6.lt
  clear iD6 iR6 iT6 hB6
  generalize V6.alloc (.cells (ideL d A c A' c') 29) = V7 at *
  generalize V6.heap.size = BC at *
  go_wp2_with fail
  refine (CG.out _ BC hB7 iC7).mono ?_
  rintro e V8 ⟨rfl, hx⟩
  have iD8 := iD7.below hx iD7.lt
  have iR8 := iR7.below hx iR7.lt
  have iT8 := iT7.below hx iT7.lt
  have hB8 := hB7.trans (hx.mono hB7.size)
  clear iC7
  clear hx
  clear iD7 iR7 iT7 hB7
  go_wp2_with (refine wpList_load_row rfl 29 _ rfl w.heap.size rfl 29 _ (0, 0) _ iD8 Tryz.underlying29 rfl infoIde ?_)
  refine (copy_any d A c A' c' _ (HI.out.keep hB8)).mono ?_
  rintro e V9 ⟨A1, c1, A2, c2, rfl, r1, r2, hx⟩
  have iD9 := iD8.below hx iD8.lt
  have iR9 := iR8.below hx iR8.lt
  have iT9 := iT8.below hx iT8.lt
  have hB9 := hB8.trans (hx.mono hB8.size)
  have r1 := r1.mono hB8.size
  have r2 := r2.mono hB8.size
  clear hx
  clear iD8 iR8 iT8 hB8
  have hG : w.heap.size + 1 < V9.heap.size := iR9.lt
  have hGT : BT < V9.heap.size := iT9.lt
  have iGX : Is (V9.alloc (.cells #[.string d.B, .int .i64 b, .slice A1 d.N.length c1, .slice A2 d.K.length c2, .bool d.c] 29)) V9.heap.size 29 #[.string d.B, .int .i64 b, .slice A1 d.N.length c1, .slice A2 d.K.length c2, .bool d.c] := Is.new _ _ _
  have iTa := iT9.alloc (.cells (ideL d A1 c1 A2 c2) 29)
  have iDX := iD9.alloc (.cells #[.string d.B, .int .i64 b, .slice A1 d.N.length c1, .slice A2 d.K.length c2, .bool d.c] 29)
  have iRX := iR9.alloc (.cells #[.string d.B, .int .i64 b, .slice A1 d.N.length c1, .slice A2 d.K.length c2, .bool d.c] 29)
  have hBX := hB9.alloc hB9.size (.cells #[.string d.B, .int .i64 b, .slice A1 d.N.length c1, .slice A2 d.K.length c2, .bool d.c] 29)
  have r1X := r1.alloc (.cells #[.string d.B, .int .i64 b, .slice A1 d.N.length c1, .slice A2 d.K.length c2, .bool d.c] 29)
  have r2X := r2.alloc (.cells #[.string d.B, .int .i64 b, .slice A1 d.N.length c1, .slice A2 d.K.length c2, .bool d.c] 29)
  have t0 : (V9.alloc (.cells (ideL d A1 c1 A2 c2) 29)).cell? ⟨BT, 0, none⟩ = some (.string d.B) := iTa.cell 0
  have t1 : (V9.alloc (.cells (ideL d A1 c1 A2 c2) 29)).cell? ⟨BT, 1, none⟩ = some (.int .i64 b) := iTa.cell 1
  have iY : Is ((V9.alloc (.cells #[.string d.B, .int .i64 b, .slice A1 d.N.length c1, .slice A2 d.K.length c2, .bool d.c] 29)).alloc (.cells #[.string l, .string t, .string S] 91)) (V9.alloc (.cells #[.string d.B, .int .i64 b, .slice A1 d.N.length c1, .slice A2 d.K.length c2, .bool d.c] 29)).heap.size 91 #[.string l, .string t, .string S] := Is.new _ _ _
  have hXs : (V9.alloc (.cells #[.string d.B, .int .i64 b, .slice A1 d.N.length c1, .slice A2 d.K.length c2, .bool d.c] 29)).heap.size = V9.heap.size + 1 := by simp
  rw [hXs] at iY
  have iGXy := iGX.alloc (.cells #[.string l, .string t, .string S] 91)
  have iDXy := iDX.alloc (.cells #[.string l, .string t, .string S] 91)
  have iRXy := iRX.alloc (.cells #[.string l, .string t, .string S] 91)
  have r1Xy := r1X.alloc (.cells #[.string l, .string t, .string S] 91)
  have r2Xy := r2X.alloc (.cells #[.string l, .string t, .string S] 91)
  have hBy := hBX.alloc hBX.size (.cells #[.string l, .string t, .string S] 91)
  obtain ⟨i0, hi0, hz0, hz1, hz2⟩ := info_parts infoMad8
  clear iD9 iR9 iT9 hB9 r1 r2 iTa iGX iDX iRX r1X r2X hBX hXs
  have ysBy : (d.K.length + 1) * 48 ≤ 140737488355328 := by omega
  have ysLen : d.K.length + 1 ≤ maxLen := by unfold maxLen; omega
  have ysOne : ∀ u ∈ (#[.string l, .string t, .string S] : Array Value).toList, u.oneCell' = true := fun u hu => by simp only [List.mem_cons, List.not_mem_nil, or_false] at hu; rcases hu with rfl | rfl | rfl <;> rfl
  go_wp2_with (at_builtin; refine wpList_pushV rfl _ _ 27 91 i0 (.agg #[.string ⟨#[]⟩, .string ⟨#[]⟩, .string ⟨#[]⟩]) 3 48 rfl Tryz.underlying27 hi0 hz0 hz1 hz2 rfl (by decide) w.heap.size A2 c2 d.K.length (flK d.K) r2Xy (V9.heap.size + 1) 91 #[.string l, .string t, .string S] iY rfl ysOne ysLen ysBy ⟨rfl, rfl⟩ hBy.size ?_; intro A3 c3 V r3 hg3; have jG := r2Xy.isFar hg3 iGXy (by decide); have jD := r2Xy.isFar hg3 iDXy (by decide); have jR := r2Xy.isFar hg3 iRXy (by decide); have jB := r2Xy.belowG hBy hg3; have jX := rowOther r2Xy hg3 r1Xy (by decide); have e2 : V.cell? ⟨V9.heap.size, 3, none⟩ = some (.slice A2 d.K.length c2) := jG.cell 3; have u2 := jG.frozen 3; have jG2 := jG.set 3 (.slice A3 (d.K.length + 1) c3); have jD2 := jD.far (p := ⟨V9.heap.size, 3, none⟩) (by show w.heap.size ≠ V9.heap.size; omega) (.slice A3 (d.K.length + 1) c3); have e4 : (V.setCell ⟨V9.heap.size, 3, none⟩ (.slice A3 (d.K.length + 1) c3)).cell? ⟨w.heap.size, 4, none⟩ = some (.bool true) := (jD2.cell 4).trans (congrArg (fun b => some (Value.bool b)) HC.out); have e5 : (V.setCell ⟨V9.heap.size, 3, none⟩ (.slice A3 (d.K.length + 1) c3)).cell? ⟨V9.heap.size, 4, none⟩ = some (.bool d.c) := jG2.cell 4; have u5 := jG2.frozen 4)
  have zG : Is ((V.setCell ⟨V9.heap.size, 3, none⟩ (.slice A3 (d.K.length + 1) c3)).setCell ⟨V9.heap.size, 4, none⟩ (.bool true)).drew V9.heap.size 29 #[.string d.B, .int .i64 b, .slice A1 d.N.length c1, .slice A3 (d.K.length + 1) c3, .bool true] := jG2.set 4 _
  have zR : Is ((V.setCell ⟨V9.heap.size, 3, none⟩ (.slice A3 (d.K.length + 1) c3)).setCell ⟨V9.heap.size, 4, none⟩ (.bool true)).drew (w.heap.size + 1) 29 zer8 := (jR.far (p := ⟨V9.heap.size, 3, none⟩) (by show w.heap.size + 1 ≠ V9.heap.size; omega) (.slice A3 (d.K.length + 1) c3)).far (p := ⟨V9.heap.size, 4, none⟩) (by show w.heap.size + 1 ≠ V9.heap.size; omega) _
  have z3 : RowV ((V.setCell ⟨V9.heap.size, 3, none⟩ (.slice A3 (d.K.length + 1) c3)).setCell ⟨V9.heap.size, 4, none⟩ (.bool true)).drew w.heap.size 91 3 A3 c3 (d.K.length + 1) (flK d.K ++ (#[.string l, .string t, .string S] : Array Value).toList) := (r3.far (p := ⟨V9.heap.size, 3, none⟩) jG (by decide) (.slice A3 (d.K.length + 1) c3)).far (p := ⟨V9.heap.size, 4, none⟩) jG2 (by decide) _
  have zX : RowV ((V.setCell ⟨V9.heap.size, 3, none⟩ (.slice A3 (d.K.length + 1) c3)).setCell ⟨V9.heap.size, 4, none⟩ (.bool true)).drew w.heap.size 89 2 A1 c1 d.N.length (flN d.N) := (jX.far (p := ⟨V9.heap.size, 3, none⟩) jG (by decide) (.slice A3 (d.K.length + 1) c3)).far (p := ⟨V9.heap.size, 4, none⟩) jG2 (by decide) _
  have zB : Below w.heap.size w ((V.setCell ⟨V9.heap.size, 3, none⟩ (.slice A3 (d.K.length + 1) c3)).setCell ⟨V9.heap.size, 4, none⟩ (.bool true)).drew := belowN ((jB.setCell (p := ⟨V9.heap.size, 3, none⟩) (by show w.heap.size ≤ V9.heap.size; omega) (.slice A3 (d.K.length + 1) c3)).setCell (p := ⟨V9.heap.size, 4, none⟩) (by show w.heap.size ≤ V9.heap.size; omega) (.bool true)) 1
  have hG2 := hG
  clear jG2 jG jD jD2 jR jB jX e2 e4 e5 u2 u5 r3 hg3
  refine wp_region_held_drew (S := fun W => Is W V9.heap.size 29 #[.string d.B, .int .i64 b, .slice A1 d.N.length c1, .slice A3 (d.K.length + 1) c3, .bool true]) (by kernel_rfl) zG (fun hS => ?_)
  change wpAnyH _ _ (opsOf Tryz.f123 16) _ _ 5 (Array.replicate 5 false) _ _
  clear hS
  generalize ((V.setCell ⟨V9.heap.size, 3, none⟩ (.slice A3 (d.K.length + 1) c3)).setCell ⟨V9.heap.size, 4, none⟩ (.bool true)).drew = VZ at *
  refine wpAnyH_pure (i := 0) (v := .string S) (at_nth rfl) (by kernel_rfl) (by kernel_rfl) (by kernel_rfl) (fun _ _ _ h => h) (by kernel_rfl) (fun w hSw => by kernel_rfl) zG ?_
  simp only [Act.put, List.setIfInBounds_toArray, List.set_cons_succ, List.set_cons_zero]
  refine wpAnyH_pure (i := 1) (v := .agg #[.string d.B, .int .i64 b, .slice A1 d.N.length c1, .slice A3 (d.K.length + 1) c3, .bool true]) (at_nth rfl) (by kernel_rfl) (by kernel_rfl) (by kernel_rfl) (fun _ _ _ h => h) (by kernel_rfl) (fun w hSw => by exact exec_load rfl rfl (run_loadVar_row _ _ 29 29 _ (0, 0) _ hSw Tryz.underlying29 rfl infoIde)) zG ?_
  simp only [Act.put, List.setIfInBounds_toArray, List.set_cons_succ, List.set_cons_zero]
  refine wpAnyH_pure (i := 2) (v := .string S) (at_nth rfl) (by kernel_rfl) (by kernel_rfl) (by kernel_rfl) (fun _ _ _ h => h) (by kernel_rfl) (fun w hSw => by kernel_rfl) zG ?_
  simp only [Act.put, List.setIfInBounds_toArray, List.set_cons_succ, List.set_cons_zero]
  have zGz : Is (VZ.setRow (w.heap.size + 1) #[.string d.B, .int .i64 b, .slice A1 d.N.length c1, .slice A3 (d.K.length + 1) c3, .bool true]) V9.heap.size 29 #[.string d.B, .int .i64 b, .slice A1 d.N.length c1, .slice A3 (d.K.length + 1) c3, .bool true] := zG.rowFar (by omega) _
  refine wpAnyH_storerow (i := 3) (g := w.heap.size + 1) (cs := #[.string d.B, .int .i64 b, .slice A1 d.N.length c1, .slice A3 (d.K.length + 1) c3, .bool true]) (t := 29) (old := zer8) (by kernel_rfl) (at_nth rfl) (by kernel_rfl) rfl (by kernel_rfl) (by kernel_rfl) zR infoIde rfl (by rw [← Array.all_toList]; rfl) zGz ?_
  simp only [Act.put]
  refine wpAnyH_pure (i := 4) (v := .int .i64 0) (at_nth rfl) (by kernel_rfl) (by kernel_rfl) (by kernel_rfl) (fun _ _ _ h => h) (by kernel_rfl) (fun w hSw => by kernel_rfl) zGz ?_
  simp only [Act.put, List.setIfInBounds_toArray, List.set_cons_succ, List.set_cons_zero]
  refine wpAnyH_done (by kernel_rfl) ?_ _
  go_wp2
  have m3 := (z3.rowFar zR (by decide) #[.string d.B, .int .i64 b, .slice A1 d.N.length c1, .slice A3 (d.K.length + 1) c3, .bool true]).inV
  have mX := (zX.rowFar zR (by decide) #[.string d.B, .int .i64 b, .slice A1 d.N.length c1, .slice A3 (d.K.length + 1) c3, .bool true]).inV
  have n3 := rowNil z3
  have nX := rowNil zX
  have fN := HI.out.fit
  have fK := HI.out.fitK
  rw [← flK_snoc] at m3
  have hw : (d.K ++ [(l, t, S)]).length = d.K.length + 1 := by rw [List.length_append]; rfl
  have hv : ideV (⟨d.B, b, d.N, (d.K ++ [(l, t, S)]), true⟩ : Ide) A1 c1 A3 c3 = .agg #[.string d.B, .int .i64 b, .slice A1 d.N.length c1, .slice A3 (d.K.length + 1) c3, .bool true] := by show Value.agg #[.string d.B, .int .i64 b, .slice A1 d.N.length c1, .slice A3 (d.K ++ [(l, t, S)]).length c3, .bool true] = _; rw [hw]
  exact bodyPost_ret (results_tct Tryz.results123 _ _ _ (w.heap.size + 1) 29 _ (0, 0) _ rfl (zR.row _) Tryz.underlying29 infoIde) rfl ⟨A1, c1, A3, c3, by rw [hv]; rfl, ⟨mX, m3, nX, n3, fN, by show (d.K ++ [(l, t, S)]).length * 48 ≤ _; rw [hw]; omega⟩, belowRow zB (by simp) _, Or.inr (zX.rowFar zR (by decide) _).own8, Or.inr (z3.rowFar zR (by decide) _).own8⟩
end Go.Proofs.YtfgdcpolfekgjaaGreat
namespace Go.Proofs.YtfgdcpolfekgjaaGreat
open Go.RowKit Go.Shelf

set_option maxRecDepth 100000 in
set_option maxHeartbeats 4000000 in
theorem seal_ff (d : Ide) (A : Option Addr) (c : Nat) (A' : Option Addr) (c' : Nat) (l t : ByteArray) (w : World) (h : InI w d A c A' c') (hr : right8 d = true) (hi : (l.size : Int) = 16) (hj : (t.size : Int) = 24) (y : ByteArray) (hf : find8 (d.K.map askK) (l, t) = (y, false)) (hl : ¬ (2000 ≤ (d.K.length : Int))) (S : ByteArray) (b : Int) (ht : takeR d.B d.a 40 = .tuple #[.string S, .agg #[.string d.B, .int .i64 b], .int .i64 0]) (z : ByteArray) (q : Bool) (hq : find8 (d.K.map opnK) (l, S) = (z, q)) (hc : d.c = false) :
    Calls Tryz.prog 123 #[ideV d A c A' c', .string l, .string t] w fun e w' => ∃ A1 c1 A2 c2, e = .returned (.tuple #[.string S, ideV ⟨d.B, b, d.N, d.K ++ [(l, t, S)], q⟩ A1 c1 A2 c2, .int .i64 0]) ∧ InI w' ⟨d.B, b, d.N, d.K ++ [(l, t, S)], q⟩ A1 c1 A2 c2 ∧ Below w.heap.size w w' ∧ Own8 w w' A A1 ∧ Own8 w w' A' A2 := by
  have HI := Lib.hid h
  have C := Lib.hid (fun (W : World) (hb : Below w.heap.size w W) => iright_any d A c A' c' W (h.keep hb))
  rw [hr] at C
  have CF := Lib.hid (fun (W : World) (Bd : Nat) (hb : Below w.heap.size w W) (hBd : Is W Bd 29 (ideL d A c A' c')) => h.fiK Bd hb hBd l t)
  rw [hf] at CF
  clear hr hf
  have HT := Lib.hid (fun W => ttake_any d.B d.a 40 W)
  rw [ht] at HT
  clear ht
  have CG := Lib.hid (fun (W : World) (Bd : Nat) (hb : Below w.heap.size w W) (hBd : Is W Bd 29 (ideL d A c A' c')) => h.fiT Bd hb hBd l S)
  rw [hq] at CG
  clear hq
  have HC := Lib.hid hc
  clear hc
  clear h
  obtain ⟨V1, hV1⟩ : ∃ W, W = (w.alloc (.cells (ideL d A c A' c') 29)).alloc (.cells zer8 29) := ⟨_, rfl⟩
  have iD1 : Is V1 w.heap.size 29 (ideL d A c A' c') := by rw [hV1]; exact heap_alloc2_old w _ _
  have iR1 : Is V1 (w.heap.size + 1) 29 zer8 := by rw [hV1]; exact heap_alloc2_new w _ _
  have hB1 : Below w.heap.size w V1 := by rw [hV1]; exact ((Below.refl _ _).alloc (Nat.le_refl _) _).alloc (by simp) _
  go_enter Tryz.func123, Tryz.ntmps123
  go_wp2_with fail
  rw [← hV1]
  clear hV1
  go_wp2_with (refine wpList_load_row rfl 29 _ rfl w.heap.size rfl 29 _ (0, 0) _ iD1 Tryz.underlying29 rfl infoIde ?_)
  refine (C.out _ hB1).mono ?_
  rintro e V2 ⟨rfl, hx⟩
  have iD2 := iD1.below hx iD1.lt
  have iR2 := iR1.below hx iR1.lt
  have hB2 := hB1.trans (hx.mono hB1.size)
  clear hx
  clear iD1 iR1 hB1
  go_wp2_with (refine wpList_load_row rfl 29 _ rfl w.heap.size rfl 29 _ (0, 0) _ iD2 Tryz.underlying29 rfl infoIde ?_)
  refine (cells_any _ _ _ _ _ _).mono ?_
  rintro e V ⟨rfl, rfl⟩
  have iC3 : Is (V2.alloc (.cells (ideL d A c A' c') 29)) V2.heap.size 29 (ideL d A c A' c') := Is.new _ _ _
  have iD3 := iD2.alloc (.cells (ideL d A c A' c') 29)
  have iR3 := iR2.alloc (.cells (ideL d A c A' c') 29)
  have hB3 := hB2.alloc hB2.size (.cells (ideL d A c A' c') 29)
  have hC : w.heap.size + 1 < V2.heap.size := iR2.lt
  clear iD2 iR2 hB2
  generalize V2.alloc (.cells (ideL d A c A' c') 29) = V3 at *
  generalize V2.heap.size = BC at *
  go_wp2_with fail
  refine (CF.out _ BC hB3 iC3).mono ?_
  rintro e V4 ⟨rfl, hx⟩
  have iD4 := iD3.below hx iD3.lt
  have iR4 := iR3.below hx iR3.lt
  have hB4 := hB3.trans (hx.mono hB3.size)
  clear iC3
  clear hx
  clear iD3 iR3 hB3
  have q2 : V4.cell? ⟨w.heap.size, 3, none⟩ = some (.slice A' d.K.length c') := iD4.cell 3
  have q0 : V4.cell? ⟨w.heap.size, 0, none⟩ = some (.string d.B) := iD4.cell 0
  have q1 : V4.cell? ⟨w.heap.size, 1, none⟩ = some (.int .i64 d.a) := iD4.cell 1
  go_wp2_with fail
  clear q0 q1 q2
  refine (HT.out _).mono ?_
  rintro e V5 ⟨rfl, hx⟩
  have iD5 := iD4.below hx iD4.lt
  have iR5 := iR4.below hx iR4.lt
  have hB5 := hB4.trans (hx.mono hB4.size)
  clear hx
  clear iD4 iR4 hB4
  have iT6 : Is (V5.alloc (.cells #[.string d.B, .int .i64 b] 23)) V5.heap.size 23 #[.string d.B, .int .i64 b] := Is.new _ _ _
  have iD6 := iD5.alloc (.cells #[.string d.B, .int .i64 b] 23)
  have iR6 := iR5.alloc (.cells #[.string d.B, .int .i64 b] 23)
  have hB6 := hB5.alloc hB5.size (.cells #[.string d.B, .int .i64 b] 23)
  have hT : w.heap.size + 1 < V5.heap.size := iR5.lt
  clear iD5 iR5 hB5
  go_wp2_with (refine wpList_load_row rfl 29 _ rfl w.heap.size rfl 29 _ (0, 0) _ iD6 Tryz.underlying29 rfl infoIde ?_)
  generalize V5.alloc (.cells #[.string d.B, .int .i64 b] 23) = V6 at *
  generalize V5.heap.size = BT at *
  refine (texts_any _ _ _ _ _ _).mono ?_
  rintro e V ⟨rfl, rfl⟩
  have iC7 : Is (V6.alloc (.cells (ideL d A c A' c') 29)) V6.heap.size 29 (ideL d A c A' c') := Is.new _ _ _
  have iD7 := iD6.alloc (.cells (ideL d A c A' c') 29)
  have iR7 := iR6.alloc (.cells (ideL d A c A' c') 29)
  have iT7 := iT6.alloc (.cells (ideL d A c A' c') 29)
  have hB7 := hB6.alloc hB6.size (.cells (ideL d A c A' c') 29)
  have hC : w.heap.size + 1 < V6.heap.size := iR6.lt
  clear iD6 iR6 iT6 hB6
  generalize V6.alloc (.cells (ideL d A c A' c') 29) = V7 at *
  generalize V6.heap.size = BC at *
  go_wp2_with fail
  refine (CG.out _ BC hB7 iC7).mono ?_
  rintro e V8 ⟨rfl, hx⟩
  have iD8 := iD7.below hx iD7.lt
  have iR8 := iR7.below hx iR7.lt
  have iT8 := iT7.below hx iT7.lt
  have hB8 := hB7.trans (hx.mono hB7.size)
  clear iC7
  clear hx
  clear iD7 iR7 iT7 hB7
  go_wp2_with (refine wpList_load_row rfl 29 _ rfl w.heap.size rfl 29 _ (0, 0) _ iD8 Tryz.underlying29 rfl infoIde ?_)
  refine (copy_any d A c A' c' _ (HI.out.keep hB8)).mono ?_
  rintro e V9 ⟨A1, c1, A2, c2, rfl, r1, r2, hx⟩
  have iD9 := iD8.below hx iD8.lt
  have iR9 := iR8.below hx iR8.lt
  have iT9 := iT8.below hx iT8.lt
  have hB9 := hB8.trans (hx.mono hB8.size)
  have r1 := r1.mono hB8.size
  have r2 := r2.mono hB8.size
  clear hx
  clear iD8 iR8 iT8 hB8
  have hG : w.heap.size + 1 < V9.heap.size := iR9.lt
  have hGT : BT < V9.heap.size := iT9.lt
  have iGX : Is (V9.alloc (.cells #[.string d.B, .int .i64 b, .slice A1 d.N.length c1, .slice A2 d.K.length c2, .bool d.c] 29)) V9.heap.size 29 #[.string d.B, .int .i64 b, .slice A1 d.N.length c1, .slice A2 d.K.length c2, .bool d.c] := Is.new _ _ _
  have iTa := iT9.alloc (.cells (ideL d A1 c1 A2 c2) 29)
  have iDX := iD9.alloc (.cells #[.string d.B, .int .i64 b, .slice A1 d.N.length c1, .slice A2 d.K.length c2, .bool d.c] 29)
  have iRX := iR9.alloc (.cells #[.string d.B, .int .i64 b, .slice A1 d.N.length c1, .slice A2 d.K.length c2, .bool d.c] 29)
  have hBX := hB9.alloc hB9.size (.cells #[.string d.B, .int .i64 b, .slice A1 d.N.length c1, .slice A2 d.K.length c2, .bool d.c] 29)
  have r1X := r1.alloc (.cells #[.string d.B, .int .i64 b, .slice A1 d.N.length c1, .slice A2 d.K.length c2, .bool d.c] 29)
  have r2X := r2.alloc (.cells #[.string d.B, .int .i64 b, .slice A1 d.N.length c1, .slice A2 d.K.length c2, .bool d.c] 29)
  have t0 : (V9.alloc (.cells (ideL d A1 c1 A2 c2) 29)).cell? ⟨BT, 0, none⟩ = some (.string d.B) := iTa.cell 0
  have t1 : (V9.alloc (.cells (ideL d A1 c1 A2 c2) 29)).cell? ⟨BT, 1, none⟩ = some (.int .i64 b) := iTa.cell 1
  have iY : Is ((V9.alloc (.cells #[.string d.B, .int .i64 b, .slice A1 d.N.length c1, .slice A2 d.K.length c2, .bool d.c] 29)).alloc (.cells #[.string l, .string t, .string S] 91)) (V9.alloc (.cells #[.string d.B, .int .i64 b, .slice A1 d.N.length c1, .slice A2 d.K.length c2, .bool d.c] 29)).heap.size 91 #[.string l, .string t, .string S] := Is.new _ _ _
  have hXs : (V9.alloc (.cells #[.string d.B, .int .i64 b, .slice A1 d.N.length c1, .slice A2 d.K.length c2, .bool d.c] 29)).heap.size = V9.heap.size + 1 := by simp
  rw [hXs] at iY
  have iGXy := iGX.alloc (.cells #[.string l, .string t, .string S] 91)
  have iDXy := iDX.alloc (.cells #[.string l, .string t, .string S] 91)
  have iRXy := iRX.alloc (.cells #[.string l, .string t, .string S] 91)
  have r1Xy := r1X.alloc (.cells #[.string l, .string t, .string S] 91)
  have r2Xy := r2X.alloc (.cells #[.string l, .string t, .string S] 91)
  have hBy := hBX.alloc hBX.size (.cells #[.string l, .string t, .string S] 91)
  obtain ⟨i0, hi0, hz0, hz1, hz2⟩ := info_parts infoMad8
  clear iD9 iR9 iT9 hB9 r1 r2 iTa iGX iDX iRX r1X r2X hBX hXs
  have ysBy : (d.K.length + 1) * 48 ≤ 140737488355328 := by omega
  have ysLen : d.K.length + 1 ≤ maxLen := by unfold maxLen; omega
  have ysOne : ∀ u ∈ (#[.string l, .string t, .string S] : Array Value).toList, u.oneCell' = true := fun u hu => by simp only [List.mem_cons, List.not_mem_nil, or_false] at hu; rcases hu with rfl | rfl | rfl <;> rfl
  go_wp2_with (at_builtin; refine wpList_pushV rfl _ _ 27 91 i0 (.agg #[.string ⟨#[]⟩, .string ⟨#[]⟩, .string ⟨#[]⟩]) 3 48 rfl Tryz.underlying27 hi0 hz0 hz1 hz2 rfl (by decide) w.heap.size A2 c2 d.K.length (flK d.K) r2Xy (V9.heap.size + 1) 91 #[.string l, .string t, .string S] iY rfl ysOne ysLen ysBy ⟨rfl, rfl⟩ hBy.size ?_; intro A3 c3 V r3 hg3; have jG := r2Xy.isFar hg3 iGXy (by decide); have jD := r2Xy.isFar hg3 iDXy (by decide); have jR := r2Xy.isFar hg3 iRXy (by decide); have jB := r2Xy.belowG hBy hg3; have jX := rowOther r2Xy hg3 r1Xy (by decide); have e2 : V.cell? ⟨V9.heap.size, 3, none⟩ = some (.slice A2 d.K.length c2) := jG.cell 3; have u2 := jG.frozen 3; have jG2 := jG.set 3 (.slice A3 (d.K.length + 1) c3); have jD2 := jD.far (p := ⟨V9.heap.size, 3, none⟩) (by show w.heap.size ≠ V9.heap.size; omega) (.slice A3 (d.K.length + 1) c3); have e4 : (V.setCell ⟨V9.heap.size, 3, none⟩ (.slice A3 (d.K.length + 1) c3)).cell? ⟨w.heap.size, 4, none⟩ = some (.bool false) := (jD2.cell 4).trans (congrArg (fun b => some (Value.bool b)) HC.out); have e5 : (V.setCell ⟨V9.heap.size, 3, none⟩ (.slice A3 (d.K.length + 1) c3)).cell? ⟨V9.heap.size, 4, none⟩ = some (.bool d.c) := jG2.cell 4; have u5 := jG2.frozen 4)
  have zG : Is ((V.setCell ⟨V9.heap.size, 3, none⟩ (.slice A3 (d.K.length + 1) c3)).setCell ⟨V9.heap.size, 4, none⟩ (.bool q)).drew V9.heap.size 29 #[.string d.B, .int .i64 b, .slice A1 d.N.length c1, .slice A3 (d.K.length + 1) c3, .bool q] := jG2.set 4 _
  have zR : Is ((V.setCell ⟨V9.heap.size, 3, none⟩ (.slice A3 (d.K.length + 1) c3)).setCell ⟨V9.heap.size, 4, none⟩ (.bool q)).drew (w.heap.size + 1) 29 zer8 := (jR.far (p := ⟨V9.heap.size, 3, none⟩) (by show w.heap.size + 1 ≠ V9.heap.size; omega) (.slice A3 (d.K.length + 1) c3)).far (p := ⟨V9.heap.size, 4, none⟩) (by show w.heap.size + 1 ≠ V9.heap.size; omega) _
  have z3 : RowV ((V.setCell ⟨V9.heap.size, 3, none⟩ (.slice A3 (d.K.length + 1) c3)).setCell ⟨V9.heap.size, 4, none⟩ (.bool q)).drew w.heap.size 91 3 A3 c3 (d.K.length + 1) (flK d.K ++ (#[.string l, .string t, .string S] : Array Value).toList) := (r3.far (p := ⟨V9.heap.size, 3, none⟩) jG (by decide) (.slice A3 (d.K.length + 1) c3)).far (p := ⟨V9.heap.size, 4, none⟩) jG2 (by decide) _
  have zX : RowV ((V.setCell ⟨V9.heap.size, 3, none⟩ (.slice A3 (d.K.length + 1) c3)).setCell ⟨V9.heap.size, 4, none⟩ (.bool q)).drew w.heap.size 89 2 A1 c1 d.N.length (flN d.N) := (jX.far (p := ⟨V9.heap.size, 3, none⟩) jG (by decide) (.slice A3 (d.K.length + 1) c3)).far (p := ⟨V9.heap.size, 4, none⟩) jG2 (by decide) _
  have zB : Below w.heap.size w ((V.setCell ⟨V9.heap.size, 3, none⟩ (.slice A3 (d.K.length + 1) c3)).setCell ⟨V9.heap.size, 4, none⟩ (.bool q)).drew := belowN ((jB.setCell (p := ⟨V9.heap.size, 3, none⟩) (by show w.heap.size ≤ V9.heap.size; omega) (.slice A3 (d.K.length + 1) c3)).setCell (p := ⟨V9.heap.size, 4, none⟩) (by show w.heap.size ≤ V9.heap.size; omega) (.bool q)) 1
  have hG2 := hG
  clear jG2 jG jD jD2 jR jB jX e2 e4 e5 u2 u5 r3 hg3
  refine wp_region_held_drew (S := fun W => Is W V9.heap.size 29 #[.string d.B, .int .i64 b, .slice A1 d.N.length c1, .slice A3 (d.K.length + 1) c3, .bool q]) (by kernel_rfl) zG (fun hS => ?_)
  change wpAnyH _ _ (opsOf Tryz.f123 16) _ _ 5 (Array.replicate 5 false) _ _
  clear hS
  generalize ((V.setCell ⟨V9.heap.size, 3, none⟩ (.slice A3 (d.K.length + 1) c3)).setCell ⟨V9.heap.size, 4, none⟩ (.bool q)).drew = VZ at *
  refine wpAnyH_pure (i := 0) (v := .string S) (at_nth rfl) (by kernel_rfl) (by kernel_rfl) (by kernel_rfl) (fun _ _ _ h => h) (by kernel_rfl) (fun w hSw => by kernel_rfl) zG ?_
  simp only [Act.put, List.setIfInBounds_toArray, List.set_cons_succ, List.set_cons_zero]
  refine wpAnyH_pure (i := 1) (v := .agg #[.string d.B, .int .i64 b, .slice A1 d.N.length c1, .slice A3 (d.K.length + 1) c3, .bool q]) (at_nth rfl) (by kernel_rfl) (by kernel_rfl) (by kernel_rfl) (fun _ _ _ h => h) (by kernel_rfl) (fun w hSw => by exact exec_load rfl rfl (run_loadVar_row _ _ 29 29 _ (0, 0) _ hSw Tryz.underlying29 rfl infoIde)) zG ?_
  simp only [Act.put, List.setIfInBounds_toArray, List.set_cons_succ, List.set_cons_zero]
  refine wpAnyH_pure (i := 2) (v := .string S) (at_nth rfl) (by kernel_rfl) (by kernel_rfl) (by kernel_rfl) (fun _ _ _ h => h) (by kernel_rfl) (fun w hSw => by kernel_rfl) zG ?_
  simp only [Act.put, List.setIfInBounds_toArray, List.set_cons_succ, List.set_cons_zero]
  have zGz : Is (VZ.setRow (w.heap.size + 1) #[.string d.B, .int .i64 b, .slice A1 d.N.length c1, .slice A3 (d.K.length + 1) c3, .bool q]) V9.heap.size 29 #[.string d.B, .int .i64 b, .slice A1 d.N.length c1, .slice A3 (d.K.length + 1) c3, .bool q] := zG.rowFar (by omega) _
  refine wpAnyH_storerow (i := 3) (g := w.heap.size + 1) (cs := #[.string d.B, .int .i64 b, .slice A1 d.N.length c1, .slice A3 (d.K.length + 1) c3, .bool q]) (t := 29) (old := zer8) (by kernel_rfl) (at_nth rfl) (by kernel_rfl) rfl (by kernel_rfl) (by kernel_rfl) zR infoIde rfl (by rw [← Array.all_toList]; rfl) zGz ?_
  simp only [Act.put]
  refine wpAnyH_pure (i := 4) (v := .int .i64 0) (at_nth rfl) (by kernel_rfl) (by kernel_rfl) (by kernel_rfl) (fun _ _ _ h => h) (by kernel_rfl) (fun w hSw => by kernel_rfl) zGz ?_
  simp only [Act.put, List.setIfInBounds_toArray, List.set_cons_succ, List.set_cons_zero]
  refine wpAnyH_done (by kernel_rfl) ?_ _
  go_wp2
  have m3 := (z3.rowFar zR (by decide) #[.string d.B, .int .i64 b, .slice A1 d.N.length c1, .slice A3 (d.K.length + 1) c3, .bool q]).inV
  have mX := (zX.rowFar zR (by decide) #[.string d.B, .int .i64 b, .slice A1 d.N.length c1, .slice A3 (d.K.length + 1) c3, .bool q]).inV
  have n3 := rowNil z3
  have nX := rowNil zX
  have fN := HI.out.fit
  have fK := HI.out.fitK
  rw [← flK_snoc] at m3
  have hw : (d.K ++ [(l, t, S)]).length = d.K.length + 1 := by rw [List.length_append]; rfl
  have hv : ideV (⟨d.B, b, d.N, (d.K ++ [(l, t, S)]), q⟩ : Ide) A1 c1 A3 c3 = .agg #[.string d.B, .int .i64 b, .slice A1 d.N.length c1, .slice A3 (d.K.length + 1) c3, .bool q] := by show Value.agg #[.string d.B, .int .i64 b, .slice A1 d.N.length c1, .slice A3 (d.K ++ [(l, t, S)]).length c3, .bool q] = _; rw [hw]
  exact bodyPost_ret (results_tct Tryz.results123 _ _ _ (w.heap.size + 1) 29 _ (0, 0) _ rfl (zR.row _) Tryz.underlying29 infoIde) rfl ⟨A1, c1, A3, c3, by rw [hv]; rfl, ⟨mX, m3, nX, n3, fN, by show (d.K ++ [(l, t, S)]).length * 48 ≤ _; rw [hw]; omega⟩, belowRow zB (by simp) _, Or.inr (zX.rowFar zR (by decide) _).own8, Or.inr (z3.rowFar zR (by decide) _).own8⟩
end Go.Proofs.YtfgdcpolfekgjaaGreat
namespace Go.Proofs.YtfgdcpolfekgjaaGreat
open Go.RowKit Go.Shelf

theorem lab_c {d : Ide} (h : right8 d = true) (i o : ByteArray) : (d.c || (find8 (d.N.map outN) o).2) = clash8 (d.N ++ [(i, o)]) d.K := by
  have hr := ((right8_iff d).1 h).clash
  have e : (find8 (d.N.map outN) o).2 = d.N.any fun x => sameOut x (i, o) := by
    rw [find8_find]
    have e1 : (fun x : Nam8 => sameOut x (i, o)) = fun x => decide ((outN x).1 = o) := by funext x; rfl
    rw [e1]
    cases hf : d.N.find? fun x => decide ((outN x).1 = o) with
    | none => exact (none_any hf).symm
    | some x => exact (List.any_eq_true.2 ⟨x, List.mem_of_find?_eq_some hf, List.find?_some hf⟩).symm
  rw [e, hr, clash8, clash8, pairs8_snoc]
  cases pairs8 sameOut d.N <;> cases pairs8 sameCel d.K <;> cases (d.N.any fun x => sameOut x (i, o)) <;> rfl
theorem sea_c {d : Ide} (h : right8 d = true) (l t s : ByteArray) : (d.c || (find8 (d.K.map opnK) (l, s)).2) = clash8 d.N (d.K ++ [(l, t, s)]) := by
  have hr := ((right8_iff d).1 h).clash
  have e : (find8 (d.K.map opnK) (l, s)).2 = d.K.any fun x => sameCel x (l, t, s) := by
    rw [find8_find]
    have e1 : (fun x : Cel8 => sameCel x (l, t, s)) = fun x => decide ((opnK x).1 = (l, s)) := by funext x; simp [sameCel, opnK]
    rw [e1]
    cases hf : d.K.find? fun x => decide ((opnK x).1 = (l, s)) with
    | none => exact (none_any hf).symm
    | some x => exact (List.any_eq_true.2 ⟨x, List.mem_of_find?_eq_some hf, List.find?_some hf⟩).symm
  rw [e, hr, clash8, clash8, pairs8_snoc]
  cases pairs8 sameOut d.N <;> cases pairs8 sameCel d.K <;> cases (d.K.any fun x => sameCel x (l, t, s)) <;> rfl

/-- Label, whatever it is asked. -/
theorem label_own (d : Ide) (A : Option Addr) (c : Nat) (A' : Option Addr) (c' : Nat) (i : ByteArray) (w : World) (h : InI w d A c A' c') :
    Calls Tryz.prog 127 #[ideV d A c A' c', .string i] w fun e w' => ∃ A1 c1 A2 c2, e = .returned (.tuple #[.string (lab8 d i).1, ideV (lab8 d i).2.1 A1 c1 A2 c2, .int .i64 (lab8 d i).2.2]) ∧ InI w' (lab8 d i).2.1 A1 c1 A2 c2 ∧ Below w.heap.size w w' ∧ Own8 w w' A A1 ∧ Own8 w w' A' A2 := by
  cases hr : right8 d with
  | false =>
    have e : lab8 d i = (⟨#[]⟩, d, 1) := by rw [lab8, hr]; rfl
    rw [e]
    exact label_a d A c A' c' i w h hr
  | true =>
    by_cases hi : 100 < (i.size : Int)
    · have e : lab8 d i = (⟨#[]⟩, d, 1) := by rw [lab8, if_neg (by rw [hr]; simp; omega)]
      rw [e]
      exact label_b d A c A' c' i w h hr hi
    · have e0 : lab8 d i = match d.N.find? fun x => decide (x.1 = i) with
          | some x => (x.2, d, 0)
          | none =>
            if 2000 ≤ d.N.length then (⟨#[]⟩, d, 2)
            else if takeE d.B d.a 16 = 0 then (takeS d.B d.a 16, { d with a := d.a + 16, N := d.N ++ [(i, takeS d.B d.a 16)], c := clash8 (d.N ++ [(i, takeS d.B d.a 16)]) d.K }, 0)
            else (⟨#[]⟩, d, takeE d.B d.a 16) := by rw [lab8, if_pos (by rw [hr]; simp; omega)]; rfl
      cases hf : d.N.find? fun x => decide (x.1 = i) with
      | some x =>
        rw [hf] at e0
        rw [e0]
        exact label_c d A c A' c' i w h hr hi x.2 (by rw [find8, hf])
      | none =>
        rw [hf] at e0
        have hf2 : find8 d.N i = (⟨#[]⟩, false) := by rw [find8, hf]
        by_cases hl : 2000 ≤ d.N.length
        · have e1 : lab8 d i = (⟨#[]⟩, d, 2) := by rw [e0]; exact if_pos hl
          rw [e1]
          exact label_d d A c A' c' i w h hr hi _ hf2 (by omega)
        · by_cases ht : takeE d.B d.a 16 = 0
          · have e1 : lab8 d i = (takeS d.B d.a 16, { d with a := d.a + 16, N := d.N ++ [(i, takeS d.B d.a 16)], c := clash8 (d.N ++ [(i, takeS d.B d.a 16)]) d.K }, 0) := by rw [e0]; exact (if_neg hl).trans (if_pos ht)
            have hR : takeR d.B d.a 16 = .tuple #[.string (takeS d.B d.a 16), .agg #[.string d.B, .int .i64 (d.a + 16)], .int .i64 0] := by rw [takeR, takeA, if_pos ht, ht]
            have hc := lab_c hr i (takeS d.B d.a 16)
            rw [e1, ← hc]
            generalize takeS d.B d.a 16 = S at *
            cases hdc : d.c with
            | true =>
              rw [Bool.true_or]
              exact label_ft d A c A' c' i w h hr hi _ hf2 (by omega) S (d.a + 16) hR (find8 (d.N.map outN) S).1 (find8 (d.N.map outN) S).2 rfl hdc
            | false =>
              rw [Bool.false_or]
              exact label_ff d A c A' c' i w h hr hi _ hf2 (by omega) S (d.a + 16) hR (find8 (d.N.map outN) S).1 (find8 (d.N.map outN) S).2 rfl hdc
          · have e1 : lab8 d i = (⟨#[]⟩, d, takeE d.B d.a 16) := by rw [e0]; exact (if_neg hl).trans (if_neg ht)
            have hR : takeR d.B d.a 16 = .tuple #[.string ⟨#[]⟩, .agg #[.string d.B, .int .i64 d.a], .int .i64 (takeE d.B d.a 16)] := by rw [takeR, takeA, takeS, if_neg ht, if_neg ht]
            rw [e1]
            exact label_e d A c A' c' i w h hr hi _ hf2 (by omega) _ ht hR
/-- Seal, whatever it is asked. -/
theorem seal_own (d : Ide) (A : Option Addr) (c : Nat) (A' : Option Addr) (c' : Nat) (l t : ByteArray) (w : World) (h : InI w d A c A' c') :
    Calls Tryz.prog 123 #[ideV d A c A' c', .string l, .string t] w fun e w' => ∃ A1 c1 A2 c2, e = .returned (.tuple #[.string (sea8 d l t).1, ideV (sea8 d l t).2.1 A1 c1 A2 c2, .int .i64 (sea8 d l t).2.2]) ∧ InI w' (sea8 d l t).2.1 A1 c1 A2 c2 ∧ Below w.heap.size w w' ∧ Own8 w w' A A1 ∧ Own8 w w' A' A2 := by
  cases hr : right8 d with
  | false =>
    have e : sea8 d l t = (⟨#[]⟩, d, 1) := by rw [sea8, hr]; rfl
    rw [e]
    exact seal_a d A c A' c' l t w h hr
  | true =>
    by_cases hi : (l.size : Int) = 16
    · by_cases hj : (t.size : Int) = 24
      · have e0 : sea8 d l t = match d.K.find? fun x => decide (x.1 = l) && decide (x.2.1 = t) with
            | some x => (x.2.2, d, 0)
            | none =>
              if 2000 ≤ d.K.length then (⟨#[]⟩, d, 2)
              else if takeE d.B d.a 40 = 0 then (takeS d.B d.a 40, { d with a := d.a + 40, K := d.K ++ [(l, t, takeS d.B d.a 40)], c := clash8 d.N (d.K ++ [(l, t, takeS d.B d.a 40)]) }, 0)
              else (⟨#[]⟩, d, takeE d.B d.a 40) := by rw [sea8, if_pos (by rw [hr]; simp; omega)]; rfl
        have ef : find8 (d.K.map askK) (l, t) = match d.K.find? fun x => decide (x.1 = l) && decide (x.2.1 = t) with
            | some x => (x.2.2, true)
            | none => (⟨#[]⟩, false) := by
          rw [find8_find]
          have e1 : (fun x : Cel8 => decide ((askK x).1 = (l, t))) = fun x => decide (x.1 = l) && decide (x.2.1 = t) := by funext x; simp [askK]
          rw [e1]
          cases d.K.find? fun x => decide (x.1 = l) && decide (x.2.1 = t) <;> rfl
        cases hf : d.K.find? fun x => decide (x.1 = l) && decide (x.2.1 = t) with
        | some x =>
          rw [hf] at e0 ef
          rw [e0]
          exact seal_c d A c A' c' l t w h hr hi hj x.2.2 ef
        | none =>
          rw [hf] at e0 ef
          by_cases hl : 2000 ≤ d.K.length
          · have e1 : sea8 d l t = (⟨#[]⟩, d, 2) := by rw [e0]; exact if_pos hl
            rw [e1]
            exact seal_d d A c A' c' l t w h hr hi hj _ ef (by omega)
          · by_cases ht : takeE d.B d.a 40 = 0
            · have e1 : sea8 d l t = (takeS d.B d.a 40, { d with a := d.a + 40, K := d.K ++ [(l, t, takeS d.B d.a 40)], c := clash8 d.N (d.K ++ [(l, t, takeS d.B d.a 40)]) }, 0) := by rw [e0]; exact (if_neg hl).trans (if_pos ht)
              have hR : takeR d.B d.a 40 = .tuple #[.string (takeS d.B d.a 40), .agg #[.string d.B, .int .i64 (d.a + 40)], .int .i64 0] := by rw [takeR, takeA, if_pos ht, ht]
              have hc := sea_c hr l t (takeS d.B d.a 40)
              rw [e1, ← hc]
              generalize takeS d.B d.a 40 = S at *
              cases hdc : d.c with
              | true =>
                rw [Bool.true_or]
                exact seal_ft d A c A' c' l t w h hr hi hj _ ef (by omega) S (d.a + 40) hR (find8 (d.K.map opnK) (l, S)).1 (find8 (d.K.map opnK) (l, S)).2 rfl hdc
              | false =>
                rw [Bool.false_or]
                exact seal_ff d A c A' c' l t w h hr hi hj _ ef (by omega) S (d.a + 40) hR (find8 (d.K.map opnK) (l, S)).1 (find8 (d.K.map opnK) (l, S)).2 rfl hdc
            · have e1 : sea8 d l t = (⟨#[]⟩, d, takeE d.B d.a 40) := by rw [e0]; exact (if_neg hl).trans (if_neg ht)
              have hR : takeR d.B d.a 40 = .tuple #[.string ⟨#[]⟩, .agg #[.string d.B, .int .i64 d.a], .int .i64 (takeE d.B d.a 40)] := by rw [takeR, takeA, takeS, if_neg ht, if_neg ht]
              rw [e1]
              exact seal_e d A c A' c' l t w h hr hi hj _ ef (by omega) _ ht hR
      · have e : sea8 d l t = (⟨#[]⟩, d, 1) := by rw [sea8, if_neg (by rw [hr]; simp; omega)]
        rw [e]
        exact seal_b2 d A c A' c' l t w h hr hi hj
    · have e : sea8 d l t = (⟨#[]⟩, d, 1) := by rw [sea8, if_neg (by rw [hr]; simp; omega)]
      rw [e]
      exact seal_b d A c A' c' l t w h hr hi
end Go.Proofs.YtfgdcpolfekgjaaGreat

