/-
  Layer 8: contract of ideal.Seal, the program's, where the tape has no more. Condition: the ideal's lists lie where the slices point to.
-/
import Derived.Test.YtdbdoammbnogaaaIdeM
namespace Go.Proofs.Ytdbdoammbnogaaa
open Go.RowKit Go.Shelf

set_option maxRecDepth 100000 in
set_option maxHeartbeats 4000000 in
theorem seal_e (d : Ide) (A : Option Addr) (c : Nat) (A' : Option Addr) (c' : Nat) (l t : ByteArray) (w : World) (h : InI w d A c A' c') (hr : right8 d = true) (hi : (l.size : Int) = 16) (hj : (t.size : Int) = 24) (y : ByteArray) (hf : find8 (d.K.map askK) (l, t) = (y, false)) (hl : ¬ (2000 ≤ (d.K.length : Int))) (E : Int) (hE : ¬ (E = 0)) (ht : takeR d.B d.a 40 = .tuple #[.string ⟨#[]⟩, .agg #[.string d.B, .int .i64 d.a], .int .i64 E]) :
    Calls Try.prog 21 #[ideV d A c A' c', .string l, .string t] w fun e w' => ∃ A1 c1 A2 c2, e = .returned (.tuple #[.string ⟨#[]⟩, ideV d A1 c1 A2 c2, .int .i64 E]) ∧ InI w' d A1 c1 A2 c2 ∧ Below w.heap.size w w' ∧ Own8 w w' A A1 ∧ Own8 w w' A' A2 := by
  have HI := Lib.hid h
  have C := Lib.hid (fun (W : World) (hb : Below w.heap.size w W) => right_any d A c A' c' W (h.keep hb))
  rw [hr] at C
  have CF := Lib.hid (fun (W : World) (Bd : Nat) (hb : Below w.heap.size w W) (hBd : Is W Bd 30 (ideL d A c A' c')) => h.fiK Bd hb hBd l t)
  rw [hf] at CF
  clear hr hf
  have HT := Lib.hid (fun W => ttake_any d.B d.a 40 W)
  rw [ht] at HT
  clear ht
  clear h
  obtain ⟨V1, hV1⟩ : ∃ W, W = (w.alloc (.cells (ideL d A c A' c') 30)).alloc (.cells zer8 30) := ⟨_, rfl⟩
  have iD1 : Is V1 w.heap.size 30 (ideL d A c A' c') := by rw [hV1]; exact heap_alloc2_old w _ _
  have iR1 : Is V1 (w.heap.size + 1) 30 zer8 := by rw [hV1]; exact heap_alloc2_new w _ _
  have hB1 : Below w.heap.size w V1 := by rw [hV1]; exact ((Below.refl _ _).alloc (Nat.le_refl _) _).alloc (by simp) _
  go_enter Try.func21, Try.ntmps21
  go_wp2_with fail
  rw [← hV1]
  clear hV1
  go_wp2_with (refine wpList_load_row rfl 30 _ rfl w.heap.size rfl 30 _ (0, 0) _ iD1 Try.underlying30 rfl infoIde ?_)
  refine (C.out _ hB1).mono ?_
  rintro e V2 ⟨rfl, hx⟩
  have iD2 := iD1.below hx iD1.lt
  have iR2 := iR1.below hx iR1.lt
  have hB2 := hB1.trans (hx.mono hB1.size)
  clear hx
  clear iD1 iR1 hB1
  go_wp2_with (refine wpList_load_row rfl 30 _ rfl w.heap.size rfl 30 _ (0, 0) _ iD2 Try.underlying30 rfl infoIde ?_)
  refine (cells_any _ _ _ _ _ _).mono ?_
  rintro e V ⟨rfl, rfl⟩
  have iC3 : Is (V2.alloc (.cells (ideL d A c A' c') 30)) V2.heap.size 30 (ideL d A c A' c') := Is.new _ _ _
  have iD3 := iD2.alloc (.cells (ideL d A c A' c') 30)
  have iR3 := iR2.alloc (.cells (ideL d A c A' c') 30)
  have hB3 := hB2.alloc hB2.size (.cells (ideL d A c A' c') 30)
  have hC : w.heap.size + 1 < V2.heap.size := iR2.lt
  clear iD2 iR2 hB2
  generalize V2.alloc (.cells (ideL d A c A' c') 30) = V3 at *
  generalize V2.heap.size = BC at *
  go_wp2_with fail
  refine (CF.out _ BC hB3 iC3).mono ?_
  rintro e V4 ⟨rfl, hx⟩
  have iD4 := iD3.below hx iD3.lt
  have iR4 := iR3.below hx iR3.lt
  have hB4 := hB3.trans (hx.mono hB3.size)
  clear iC3
  clear hx
  clear iD3 iR3 hB3
  have q2 : V4.cell? ⟨w.heap.size, 3, none⟩ = some (.slice A' d.K.length c') := iD4.cell 3
  have q0 : V4.cell? ⟨w.heap.size, 0, none⟩ = some (.string d.B) := iD4.cell 0
  have q1 : V4.cell? ⟨w.heap.size, 1, none⟩ = some (.int .i64 d.a) := iD4.cell 1
  go_wp2_with fail
  clear q0 q1 q2
  refine (HT.out _).mono ?_
  rintro e V5 ⟨rfl, hx⟩
  have iD5 := iD4.below hx iD4.lt
  have iR5 := iR4.below hx iR4.lt
  have hB5 := hB4.trans (hx.mono hB4.size)
  clear hx
  clear iD4 iR4 hB4
  go_wp2_with fail
  have iT6 : Is (V5.alloc (.cells #[.string d.B, .int .i64 d.a] 26)) V5.heap.size 26 #[.string d.B, .int .i64 d.a] := Is.new _ _ _
  have iD6 := iD5.alloc (.cells #[.string d.B, .int .i64 d.a] 26)
  have iR6 := iR5.alloc (.cells #[.string d.B, .int .i64 d.a] 26)
  have hB6 := hB5.alloc hB5.size (.cells #[.string d.B, .int .i64 d.a] 26)
  have hT : w.heap.size + 1 < V5.heap.size := iR5.lt
  clear iD5 iR5 hB5
  generalize V5.alloc (.cells #[.string d.B, .int .i64 d.a] 26) = V6 at *
  generalize V5.heap.size = BT at *
  clear iT6
  go_wp2
  have iDd : Is V6.drew w.heap.size 30 (ideL d A c A' c') := iD6
  have iRd : Is V6.drew (w.heap.size + 1) 30 zer8 := iR6
  have hBd : Below w.heap.size w V6.drew := belowN hB6 1
  refine wp_region_held_drew (S := fun W => Is W w.heap.size 30 (ideL d A c A' c')) (by kernel_rfl) iDd (fun hS => ?_)
  change wpAnyH _ _ (opsOf Try.f21 10) _ _ 5 (Array.replicate 5 false) _ _
  clear hS iD6 iR6 hB6
  generalize V6.drew = V at *
  refine wpAnyH_pure (i := 0) (o := { dst := some 58, op := Op.load 30 (Operand.tmp 3), type := 30, pos := "ideal.go:66", after := #[{ on := 2, ground := Ground.gcOnly Departure.lateStores }], guard := none }) (v := .agg (ideL d A c A' c')) (by kernel_rfl) (by kernel_rfl) (by kernel_rfl) (by kernel_rfl) (fun _ _ _ h => h) (by kernel_rfl) (fun w hSw => by exact exec_load rfl rfl (run_loadVar_row _ _ 30 30 _ (0, 0) _ hSw Try.underlying30 rfl infoIde)) iDd ?_
  simp only [Act.put, List.setIfInBounds_toArray, List.set_cons_succ, List.set_cons_zero]
  refine wpAnyH_pure (i := 1) (o := { dst := some 59, op := Op.move (Operand.tmp 13), type := 33, pos := "ideal.go:66", after := #[{ on := 3, ground := Ground.gcOnly Departure.lateStores }], guard := none }) (v := .int .i64 E) (by kernel_rfl) (by kernel_rfl) (by kernel_rfl) (by kernel_rfl) (fun _ _ _ h => h) (by kernel_rfl) (fun w hSw => by kernel_rfl) iDd ?_
  simp only [Act.put, List.setIfInBounds_toArray, List.set_cons_succ, List.set_cons_zero]
  refine wpAnyH_pure (i := 2) (o := { dst := some 6, op := Op.assign (Operand.const (Value.string { data := #[] })), type := 9, pos := "ideal.go:66", after := #[{ on := 0, ground := Ground.textOnly Departure.lateStores }, { on := 1, ground := Ground.textOnly Departure.lateStores }], guard := none }) (v := .string { data := #[] }) (by kernel_rfl) (by kernel_rfl) (by kernel_rfl) (by kernel_rfl) (fun _ _ _ h => h) (by kernel_rfl) (fun w hSw => by kernel_rfl) iDd ?_
  simp only [Act.put, List.setIfInBounds_toArray, List.set_cons_succ, List.set_cons_zero]
  have iDz : Is (V.setRow (w.heap.size + 1) (ideL d A c A' c')) w.heap.size 30 (ideL d A c A' c') := iDd.rowFar (by omega) _
  refine wpAnyH_storerow (i := 3) (o := { dst := none, op := Op.store 30 (Operand.tmp 7) (Operand.tmp 58), type := 0, pos := "ideal.go:66", after := #[{ on := 0, ground := Ground.data }, { on := 2, ground := Ground.chain }, { on := 0, ground := Ground.phase }, { on := 1, ground := Ground.textOnly Departure.lateStores }, { on := 2, ground := Ground.phase }], guard := none }) (g := w.heap.size + 1) (cs := (ideL d A c A' c')) (t := 30) (old := zer8) (by kernel_rfl) (by kernel_rfl) (by kernel_rfl) rfl (by kernel_rfl) (by kernel_rfl) iRd infoIde rfl (ideL_one _ _ _ _ _) iDz ?_
  simp only [Act.put]
  refine wpAnyH_pure (i := 4) (o := { dst := some 8, op := Op.assign (Operand.tmp 59), type := 33, pos := "ideal.go:66", after := #[{ on := 1, ground := Ground.data }, { on := 3, ground := Ground.chain }, { on := 0, ground := Ground.phase }, { on := 1, ground := Ground.phase }, { on := 2, ground := Ground.phase }, { on := 3, ground := Ground.phase }], guard := none }) (v := .int .i64 E) (by kernel_rfl) (by kernel_rfl) (by kernel_rfl) (by kernel_rfl) (fun _ _ _ h => h) (by kernel_rfl) (fun w hSw => by kernel_rfl) iDz ?_
  simp only [Act.put, List.setIfInBounds_toArray, List.set_cons_succ, List.set_cons_zero]
  refine wpAnyH_done (by kernel_rfl) ?_ _
  go_wp2
  exact bodyPost_ret (results_tct Try.results21 _ _ _ (w.heap.size + 1) 30 _ (0, 0) _ rfl (iRd.row _) Try.underlying30 infoIde) rfl ⟨A, c, A', c', rfl, HI.out.keep (belowRow hBd (by simp) _), belowRow hBd (by simp) _, Or.inl rfl, Or.inl rfl⟩
end Go.Proofs.Ytdbdoammbnogaaa
