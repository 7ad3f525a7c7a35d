/-
  Layer 8: contract of Label, the document's own, where it is asked what may not be. Condition: the ideal's lists lie where the slices point to.
-/
import Derived.Test.YtdbdoammbnogaaaIdx2
namespace Go.Proofs.Ytdbdoammbnogaaa
open Go.RowKit Go.Shelf

set_option maxRecDepth 100000 in
set_option maxHeartbeats 4000000 in
theorem dlabel_a (d : Ide) (A : Option Addr) (c : Nat) (A' : Option Addr) (c' : Nat) (i : ByteArray) (w : World) (h : InI w d A c A' c') (hr : right8 d = false) :
    Calls Try.prog 16 #[ideV d A c A' c', .string i] w fun e w' => ∃ A1 c1 A2 c2, e = .returned (.tuple #[.string ⟨#[]⟩, ideV d A1 c1 A2 c2, .int .i64 1]) ∧ InI w' d A1 c1 A2 c2 ∧ Below w.heap.size w w' := by
  have HI := Lib.hid h
  have C := Lib.hid (fun (W : World) (hb : Below w.heap.size w W) => dright8_any d A c A' c' W (h.keep hb))
  rw [hr] at C
  clear hr
  clear h
  obtain ⟨V1, hV1⟩ : ∃ W, W = (w.alloc (.cells (ideL d A c A' c') 30)).alloc (.cells zer8 30) := ⟨_, rfl⟩
  have iD1 : Is V1 w.heap.size 30 (ideL d A c A' c') := by rw [hV1]; exact heap_alloc2_old w _ _
  have iR1 : Is V1 (w.heap.size + 1) 30 zer8 := by rw [hV1]; exact heap_alloc2_new w _ _
  have hB1 : Below w.heap.size w V1 := by rw [hV1]; exact ((Below.refl _ _).alloc (Nat.le_refl _) _).alloc (by simp) _
  go_enter Try.func16, Try.ntmps16
  go_wp2_with fail
  rw [← hV1]
  clear hV1
  go_wp2_with (refine wpList_load_row rfl 30 _ rfl w.heap.size rfl 30 _ (0, 0) _ iD1 Try.underlying30 rfl infoIde ?_)
  refine (own8_any d A c A' c' _ (HI.out.keep hB1)).mono ?_
  rintro e V2 ⟨A1, c1, A2, c2, rfl, r1, r2, hx⟩
  have iD2 := iD1.below hx iD1.lt
  have iR2 := iR1.below hx iR1.lt
  have hB2 := hB1.trans (hx.mono hB1.size)
  have r1 := r1.mono hB1.size
  have r2 := r2.mono hB1.size
  clear hx
  clear iD1 iR1 hB1
  have r1 := r1.alloc (.cells (ideL d A1 c1 A2 c2) 30)
  have r2 := r2.alloc (.cells (ideL d A1 c1 A2 c2) 30)
  have iG3 : Is (V2.alloc (.cells (ideL d A1 c1 A2 c2) 30)) V2.heap.size 30 (ideL d A1 c1 A2 c2) := Is.new _ _ _
  have iD3 := iD2.alloc (.cells (ideL d A1 c1 A2 c2) 30)
  have iR3 := iR2.alloc (.cells (ideL d A1 c1 A2 c2) 30)
  have hB3 := hB2.alloc hB2.size (.cells (ideL d A1 c1 A2 c2) 30)
  have hG : w.heap.size + 1 < V2.heap.size := iR2.lt
  clear iD2 iR2 hB2
  go_wp2_with (refine wpList_load_row rfl 30 _ rfl w.heap.size rfl 30 _ (0, 0) _ iD3 Try.underlying30 rfl infoIde ?_)
  generalize V2.alloc (.cells (ideL d A1 c1 A2 c2) 30) = V3 at *
  generalize V2.heap.size = BG at *
  refine (C.out _ hB3).mono ?_
  rintro e V4 ⟨rfl, hx⟩
  have iD4 := iD3.below hx iD3.lt
  have iR4 := iR3.below hx iR3.lt
  have iG4 := iG3.below hx iG3.lt
  have hB4 := hB3.trans (hx.mono hB3.size)
  have r1 := r1.below hx
  have r2 := r2.below hx
  clear hx
  clear iD3 iR3 iG3 hB3
  go_wp2_with fail
  have zD : Is V4.drew w.heap.size 30 (ideL d A c A' c') := iD4
  have zG : Is V4.drew BG 30 (ideL d A1 c1 A2 c2) := iG4
  have zR : Is V4.drew (w.heap.size + 1) 30 zer8 := iR4
  have zB : Below w.heap.size w V4.drew := belowN hB4 1
  have zr1 := r1.drewN 1
  change RowV V4.drew _ _ _ _ _ _ _ at zr1
  have zr2 := r2.drewN 1
  change RowV V4.drew _ _ _ _ _ _ _ at zr2
  clear iD4 iG4 iR4 hB4 r1 r2
  refine wp_region_held_drew (S := fun W => Is W BG 30 (ideL d A1 c1 A2 c2) ∧ Is W w.heap.size 30 (ideL d A c A' c') ∧ Below w.heap.size w W) (by kernel_rfl) ⟨zG, zD, zB⟩ (fun hS => ?_)
  change wpAnyH _ _ (opsOf Try.f16 3) _ _ 4 (Array.replicate 4 false) _ _
  clear hS
  generalize V4.drew = V at *
  refine wpAnyH_pure (i := 0) (o := { dst := some 22, op := Op.load 30 (Operand.tmp 7), type := 30, pos := "ref.go:74", after := #[{ on := 1, ground := Ground.gcOnly Departure.lateStores }], guard := none }) (v := .agg (ideL d A1 c1 A2 c2)) (by kernel_rfl) (by kernel_rfl) (by kernel_rfl) (by kernel_rfl) (fun _ _ _ h => h) (by kernel_rfl) (fun w hSw => by exact exec_load rfl rfl (run_loadVar_row _ _ 30 30 _ (0, 0) _ hSw.1 Try.underlying30 rfl infoIde)) ⟨zG, zD, zB⟩ ?_
  simp only [Act.put, List.setIfInBounds_toArray, List.set_cons_succ, List.set_cons_zero]
  refine wpAnyH_pure (i := 1) (o := { dst := some 4, op := Op.assign (Operand.const (Value.string { data := #[] })), type := 9, pos := "ref.go:74", after := #[{ on := 0, ground := Ground.textOnly Departure.lateStores }], guard := none }) (v := .string { data := #[] }) (by kernel_rfl) (by kernel_rfl) (by kernel_rfl) (by kernel_rfl) (fun _ _ _ h => h) (by kernel_rfl) (fun w hSw => by kernel_rfl) ⟨zG, zD, zB⟩ ?_
  simp only [Act.put, List.setIfInBounds_toArray, List.set_cons_succ, List.set_cons_zero]
  have yG : Is (V.setRow (w.heap.size + 1) (ideL d A1 c1 A2 c2)) BG 30 (ideL d A1 c1 A2 c2) := zG.rowFar (by omega) _
  have yD : Is (V.setRow (w.heap.size + 1) (ideL d A1 c1 A2 c2)) w.heap.size 30 (ideL d A c A' c') := zD.rowFar (by omega) _
  have yB : Below w.heap.size w (V.setRow (w.heap.size + 1) (ideL d A1 c1 A2 c2)) := belowRow zB (by simp) _
  refine wpAnyH_storerow (i := 2) (o := { dst := none, op := Op.store 30 (Operand.tmp 5) (Operand.tmp 22), type := 0, pos := "ref.go:74", after := #[{ on := 0, ground := Ground.data }, { on := 1, ground := Ground.chain }, { on := 0, ground := Ground.phase }, { on := 1, ground := Ground.phase }], guard := none }) (g := w.heap.size + 1) (cs := (ideL d A1 c1 A2 c2)) (t := 30) (old := zer8) (by kernel_rfl) (by kernel_rfl) (by kernel_rfl) rfl (by kernel_rfl) (by kernel_rfl) zR infoIde rfl (by rw [← Array.all_toList]; rfl) ⟨yG, yD, yB⟩ ?_
  simp only [Act.put]
  refine wpAnyH_pure (i := 3) (o := { dst := some 6, op := Op.assign (Operand.const (Value.int IntKind.i64 1)), type := 33, pos := "ref.go:74", after := #[{ on := 2, ground := Ground.chain }, { on := 0, ground := Ground.phase }, { on := 1, ground := Ground.phase }, { on := 2, ground := Ground.phase }], guard := none }) (v := .int .i64 1) (by kernel_rfl) (by kernel_rfl) (by kernel_rfl) (by kernel_rfl) (fun _ _ _ h => h) (by kernel_rfl) (fun w hSw => by kernel_rfl) ⟨yG, yD, yB⟩ ?_
  simp only [Act.put, List.setIfInBounds_toArray, List.set_cons_succ, List.set_cons_zero]
  refine wpAnyH_done (by kernel_rfl) ?_ _
  go_wp2
  have m1 := (zr1.rowFar zR (by decide) (ideL d A1 c1 A2 c2)).inV
  have m2 := (zr2.rowFar zR (by decide) (ideL d A1 c1 A2 c2)).inV
  exact bodyPost_ret (results_tct Try.results16 _ _ _ (w.heap.size + 1) 30 _ (0, 0) _ rfl (zR.row _) Try.underlying30 infoIde) rfl ⟨A1, c1, A2, c2, rfl, ⟨m1, m2, rowNil zr1, rowNil zr2, HI.out.fit, HI.out.fitK⟩, yB⟩

set_option maxRecDepth 100000 in
set_option maxHeartbeats 4000000 in
theorem dlabel_b (d : Ide) (A : Option Addr) (c : Nat) (A' : Option Addr) (c' : Nat) (i : ByteArray) (w : World) (h : InI w d A c A' c') (hr : right8 d = true) (hi : 100 < (i.size : Int)) :
    Calls Try.prog 16 #[ideV d A c A' c', .string i] w fun e w' => ∃ A1 c1 A2 c2, e = .returned (.tuple #[.string ⟨#[]⟩, ideV d A1 c1 A2 c2, .int .i64 1]) ∧ InI w' d A1 c1 A2 c2 ∧ Below w.heap.size w w' := by
  have HI := Lib.hid h
  have C := Lib.hid (fun (W : World) (hb : Below w.heap.size w W) => dright8_any d A c A' c' W (h.keep hb))
  rw [hr] at C
  clear hr
  clear h
  obtain ⟨V1, hV1⟩ : ∃ W, W = (w.alloc (.cells (ideL d A c A' c') 30)).alloc (.cells zer8 30) := ⟨_, rfl⟩
  have iD1 : Is V1 w.heap.size 30 (ideL d A c A' c') := by rw [hV1]; exact heap_alloc2_old w _ _
  have iR1 : Is V1 (w.heap.size + 1) 30 zer8 := by rw [hV1]; exact heap_alloc2_new w _ _
  have hB1 : Below w.heap.size w V1 := by rw [hV1]; exact ((Below.refl _ _).alloc (Nat.le_refl _) _).alloc (by simp) _
  go_enter Try.func16, Try.ntmps16
  go_wp2_with fail
  rw [← hV1]
  clear hV1
  go_wp2_with (refine wpList_load_row rfl 30 _ rfl w.heap.size rfl 30 _ (0, 0) _ iD1 Try.underlying30 rfl infoIde ?_)
  refine (own8_any d A c A' c' _ (HI.out.keep hB1)).mono ?_
  rintro e V2 ⟨A1, c1, A2, c2, rfl, r1, r2, hx⟩
  have iD2 := iD1.below hx iD1.lt
  have iR2 := iR1.below hx iR1.lt
  have hB2 := hB1.trans (hx.mono hB1.size)
  have r1 := r1.mono hB1.size
  have r2 := r2.mono hB1.size
  clear hx
  clear iD1 iR1 hB1
  have r1 := r1.alloc (.cells (ideL d A1 c1 A2 c2) 30)
  have r2 := r2.alloc (.cells (ideL d A1 c1 A2 c2) 30)
  have iG3 : Is (V2.alloc (.cells (ideL d A1 c1 A2 c2) 30)) V2.heap.size 30 (ideL d A1 c1 A2 c2) := Is.new _ _ _
  have iD3 := iD2.alloc (.cells (ideL d A1 c1 A2 c2) 30)
  have iR3 := iR2.alloc (.cells (ideL d A1 c1 A2 c2) 30)
  have hB3 := hB2.alloc hB2.size (.cells (ideL d A1 c1 A2 c2) 30)
  have hG : w.heap.size + 1 < V2.heap.size := iR2.lt
  clear iD2 iR2 hB2
  go_wp2_with (refine wpList_load_row rfl 30 _ rfl w.heap.size rfl 30 _ (0, 0) _ iD3 Try.underlying30 rfl infoIde ?_)
  generalize V2.alloc (.cells (ideL d A1 c1 A2 c2) 30) = V3 at *
  generalize V2.heap.size = BG at *
  refine (C.out _ hB3).mono ?_
  rintro e V4 ⟨rfl, hx⟩
  have iD4 := iD3.below hx iD3.lt
  have iR4 := iR3.below hx iR3.lt
  have iG4 := iG3.below hx iG3.lt
  have hB4 := hB3.trans (hx.mono hB3.size)
  have r1 := r1.below hx
  have r2 := r2.below hx
  clear hx
  clear iD3 iR3 iG3 hB3
  go_wp2_with fail
  have zD : Is V4.drew w.heap.size 30 (ideL d A c A' c') := iD4
  have zG : Is V4.drew BG 30 (ideL d A1 c1 A2 c2) := iG4
  have zR : Is V4.drew (w.heap.size + 1) 30 zer8 := iR4
  have zB : Below w.heap.size w V4.drew := belowN hB4 1
  have zr1 := r1.drewN 1
  change RowV V4.drew _ _ _ _ _ _ _ at zr1
  have zr2 := r2.drewN 1
  change RowV V4.drew _ _ _ _ _ _ _ at zr2
  clear iD4 iG4 iR4 hB4 r1 r2
  refine wp_region_held_drew (S := fun W => Is W BG 30 (ideL d A1 c1 A2 c2) ∧ Is W w.heap.size 30 (ideL d A c A' c') ∧ Below w.heap.size w W) (by kernel_rfl) ⟨zG, zD, zB⟩ (fun hS => ?_)
  change wpAnyH _ _ (opsOf Try.f16 3) _ _ 4 (Array.replicate 4 false) _ _
  clear hS
  generalize V4.drew = V at *
  refine wpAnyH_pure (i := 0) (o := { dst := some 22, op := Op.load 30 (Operand.tmp 7), type := 30, pos := "ref.go:74", after := #[{ on := 1, ground := Ground.gcOnly Departure.lateStores }], guard := none }) (v := .agg (ideL d A1 c1 A2 c2)) (by kernel_rfl) (by kernel_rfl) (by kernel_rfl) (by kernel_rfl) (fun _ _ _ h => h) (by kernel_rfl) (fun w hSw => by exact exec_load rfl rfl (run_loadVar_row _ _ 30 30 _ (0, 0) _ hSw.1 Try.underlying30 rfl infoIde)) ⟨zG, zD, zB⟩ ?_
  simp only [Act.put, List.setIfInBounds_toArray, List.set_cons_succ, List.set_cons_zero]
  refine wpAnyH_pure (i := 1) (o := { dst := some 4, op := Op.assign (Operand.const (Value.string { data := #[] })), type := 9, pos := "ref.go:74", after := #[{ on := 0, ground := Ground.textOnly Departure.lateStores }], guard := none }) (v := .string { data := #[] }) (by kernel_rfl) (by kernel_rfl) (by kernel_rfl) (by kernel_rfl) (fun _ _ _ h => h) (by kernel_rfl) (fun w hSw => by kernel_rfl) ⟨zG, zD, zB⟩ ?_
  simp only [Act.put, List.setIfInBounds_toArray, List.set_cons_succ, List.set_cons_zero]
  have yG : Is (V.setRow (w.heap.size + 1) (ideL d A1 c1 A2 c2)) BG 30 (ideL d A1 c1 A2 c2) := zG.rowFar (by omega) _
  have yD : Is (V.setRow (w.heap.size + 1) (ideL d A1 c1 A2 c2)) w.heap.size 30 (ideL d A c A' c') := zD.rowFar (by omega) _
  have yB : Below w.heap.size w (V.setRow (w.heap.size + 1) (ideL d A1 c1 A2 c2)) := belowRow zB (by simp) _
  refine wpAnyH_storerow (i := 2) (o := { dst := none, op := Op.store 30 (Operand.tmp 5) (Operand.tmp 22), type := 0, pos := "ref.go:74", after := #[{ on := 0, ground := Ground.data }, { on := 1, ground := Ground.chain }, { on := 0, ground := Ground.phase }, { on := 1, ground := Ground.phase }], guard := none }) (g := w.heap.size + 1) (cs := (ideL d A1 c1 A2 c2)) (t := 30) (old := zer8) (by kernel_rfl) (by kernel_rfl) (by kernel_rfl) rfl (by kernel_rfl) (by kernel_rfl) zR infoIde rfl (by rw [← Array.all_toList]; rfl) ⟨yG, yD, yB⟩ ?_
  simp only [Act.put]
  refine wpAnyH_pure (i := 3) (o := { dst := some 6, op := Op.assign (Operand.const (Value.int IntKind.i64 1)), type := 33, pos := "ref.go:74", after := #[{ on := 2, ground := Ground.chain }, { on := 0, ground := Ground.phase }, { on := 1, ground := Ground.phase }, { on := 2, ground := Ground.phase }], guard := none }) (v := .int .i64 1) (by kernel_rfl) (by kernel_rfl) (by kernel_rfl) (by kernel_rfl) (fun _ _ _ h => h) (by kernel_rfl) (fun w hSw => by kernel_rfl) ⟨yG, yD, yB⟩ ?_
  simp only [Act.put, List.setIfInBounds_toArray, List.set_cons_succ, List.set_cons_zero]
  refine wpAnyH_done (by kernel_rfl) ?_ _
  go_wp2
  have m1 := (zr1.rowFar zR (by decide) (ideL d A1 c1 A2 c2)).inV
  have m2 := (zr2.rowFar zR (by decide) (ideL d A1 c1 A2 c2)).inV
  exact bodyPost_ret (results_tct Try.results16 _ _ _ (w.heap.size + 1) 30 _ (0, 0) _ rfl (zR.row _) Try.underlying30 infoIde) rfl ⟨A1, c1, A2, c2, rfl, ⟨m1, m2, rowNil zr1, rowNil zr2, HI.out.fit, HI.out.fitK⟩, yB⟩
end Go.Proofs.Ytdbdoammbnogaaa
