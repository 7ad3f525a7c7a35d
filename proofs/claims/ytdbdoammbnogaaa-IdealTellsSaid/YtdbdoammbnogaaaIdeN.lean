/-
  Layer 8: contract of ideal.Label, the program's, where it draws, behind a clash. Condition: the ideal's lists lie where the slices point to.
-/
import Derived.Test.YtdbdoammbnogaaaIdeM
namespace Go.Proofs.Ytdbdoammbnogaaa
open Go.RowKit Go.Shelf

set_option maxRecDepth 100000 in
set_option maxHeartbeats 4000000 in
theorem label_ft (d : Ide) (A : Option Addr) (c : Nat) (A' : Option Addr) (c' : Nat) (i : ByteArray) (w : World) (h : InI w d A c A' c') (hr : right8 d = true) (hi : ¬ (100 < (i.size : Int))) (y : ByteArray) (hf : find8 d.N i = (y, false)) (hl : ¬ (2000 ≤ (d.N.length : Int))) (S : ByteArray) (b : Int) (ht : takeR d.B d.a 16 = .tuple #[.string S, .agg #[.string d.B, .int .i64 b], .int .i64 0]) (z : ByteArray) (q : Bool) (hq : find8 (d.N.map outN) S = (z, q)) (hc : d.c = true) :
    Calls Try.prog 15 #[ideV d A c A' c', .string i] w fun e w' => ∃ A1 c1 A2 c2, e = .returned (.tuple #[.string S, ideV ⟨d.B, b, d.N ++ [(i, S)], d.K, true⟩ A1 c1 A2 c2, .int .i64 0]) ∧ InI w' ⟨d.B, b, d.N ++ [(i, S)], d.K, true⟩ A1 c1 A2 c2 ∧ Below w.heap.size w w' ∧ Own8 w w' A A1 ∧ Own8 w w' A' A2 := by
  have HI := Lib.hid h
  have C := Lib.hid (fun (W : World) (hb : Below w.heap.size w W) => right_any d A c A' c' W (h.keep hb))
  rw [hr] at C
  have CF := Lib.hid (fun (W : World) (Bd : Nat) (hb : Below w.heap.size w W) (hBd : Is W Bd 30 (ideL d A c A' c')) => h.fiN Bd hb hBd i)
  rw [hf] at CF
  clear hr hf
  have HT := Lib.hid (fun W => ttake_any d.B d.a 16 W)
  rw [ht] at HT
  clear ht
  have CG := Lib.hid (fun (W : World) (Bd : Nat) (hb : Below w.heap.size w W) (hBd : Is W Bd 30 (ideL d A c A' c')) => h.fiO Bd hb hBd S)
  rw [hq] at CG
  clear hq
  have HC := Lib.hid hc
  clear hc
  clear h
  obtain ⟨V1, hV1⟩ : ∃ W, W = (w.alloc (.cells (ideL d A c A' c') 30)).alloc (.cells zer8 30) := ⟨_, rfl⟩
  have iD1 : Is V1 w.heap.size 30 (ideL d A c A' c') := by rw [hV1]; exact heap_alloc2_old w _ _
  have iR1 : Is V1 (w.heap.size + 1) 30 zer8 := by rw [hV1]; exact heap_alloc2_new w _ _
  have hB1 : Below w.heap.size w V1 := by rw [hV1]; exact ((Below.refl _ _).alloc (Nat.le_refl _) _).alloc (by simp) _
  go_enter Try.func15, Try.ntmps15
  go_wp2_with fail
  rw [← hV1]
  clear hV1
  go_wp2_with (refine wpList_load_row rfl 30 _ rfl w.heap.size rfl 30 _ (0, 0) _ iD1 Try.underlying30 rfl infoIde ?_)
  refine (C.out _ hB1).mono ?_
  rintro e V2 ⟨rfl, hx⟩
  have iD2 := iD1.below hx iD1.lt
  have iR2 := iR1.below hx iR1.lt
  have hB2 := hB1.trans (hx.mono hB1.size)
  clear hx
  clear iD1 iR1 hB1
  go_wp2_with (refine wpList_load_row rfl 30 _ rfl w.heap.size rfl 30 _ (0, 0) _ iD2 Try.underlying30 rfl infoIde ?_)
  refine (names_any _ _ _ _ _ _).mono ?_
  rintro e V ⟨rfl, rfl⟩
  have iC3 : Is (V2.alloc (.cells (ideL d A c A' c') 30)) V2.heap.size 30 (ideL d A c A' c') := Is.new _ _ _
  have iD3 := iD2.alloc (.cells (ideL d A c A' c') 30)
  have iR3 := iR2.alloc (.cells (ideL d A c A' c') 30)
  have hB3 := hB2.alloc hB2.size (.cells (ideL d A c A' c') 30)
  have hC : w.heap.size + 1 < V2.heap.size := iR2.lt
  clear iD2 iR2 hB2
  generalize V2.alloc (.cells (ideL d A c A' c') 30) = V3 at *
  generalize V2.heap.size = BC at *
  go_wp2_with fail
  refine (CF.out _ BC hB3 iC3).mono ?_
  rintro e V4 ⟨rfl, hx⟩
  have iD4 := iD3.below hx iD3.lt
  have iR4 := iR3.below hx iR3.lt
  have hB4 := hB3.trans (hx.mono hB3.size)
  clear iC3
  clear hx
  clear iD3 iR3 hB3
  have q2 : V4.cell? ⟨w.heap.size, 2, none⟩ = some (.slice A d.N.length c) := iD4.cell 2
  have q0 : V4.cell? ⟨w.heap.size, 0, none⟩ = some (.string d.B) := iD4.cell 0
  have q1 : V4.cell? ⟨w.heap.size, 1, none⟩ = some (.int .i64 d.a) := iD4.cell 1
  go_wp2_with fail
  clear q0 q1 q2
  refine (HT.out _).mono ?_
  rintro e V5 ⟨rfl, hx⟩
  have iD5 := iD4.below hx iD4.lt
  have iR5 := iR4.below hx iR4.lt
  have hB5 := hB4.trans (hx.mono hB4.size)
  clear hx
  clear iD4 iR4 hB4
  have iT6 : Is (V5.alloc (.cells #[.string d.B, .int .i64 b] 26)) V5.heap.size 26 #[.string d.B, .int .i64 b] := Is.new _ _ _
  have iD6 := iD5.alloc (.cells #[.string d.B, .int .i64 b] 26)
  have iR6 := iR5.alloc (.cells #[.string d.B, .int .i64 b] 26)
  have hB6 := hB5.alloc hB5.size (.cells #[.string d.B, .int .i64 b] 26)
  have hT : w.heap.size + 1 < V5.heap.size := iR5.lt
  clear iD5 iR5 hB5
  go_wp2_with (refine wpList_load_row rfl 30 _ rfl w.heap.size rfl 30 _ (0, 0) _ iD6 Try.underlying30 rfl infoIde ?_)
  generalize V5.alloc (.cells #[.string d.B, .int .i64 b] 26) = V6 at *
  generalize V5.heap.size = BT at *
  refine (outs_any _ _ _ _ _ _).mono ?_
  rintro e V ⟨rfl, rfl⟩
  have iC7 : Is (V6.alloc (.cells (ideL d A c A' c') 30)) V6.heap.size 30 (ideL d A c A' c') := Is.new _ _ _
  have iD7 := iD6.alloc (.cells (ideL d A c A' c') 30)
  have iR7 := iR6.alloc (.cells (ideL d A c A' c') 30)
  have iT7 := iT6.alloc (.cells (ideL d A c A' c') 30)
  have hB7 := hB6.alloc hB6.size (.cells (ideL d A c A' c') 30)
  have hC : w.heap.size + 1 < V6.heap.size := iR6.lt
  clear iD6 iR6 iT6 hB6
  generalize V6.alloc (.cells (ideL d A c A' c') 30) = V7 at *
  generalize V6.heap.size = BC at *
  go_wp2_with fail
  refine (CG.out _ BC hB7 iC7).mono ?_
  rintro e V8 ⟨rfl, hx⟩
  have iD8 := iD7.below hx iD7.lt
  have iR8 := iR7.below hx iR7.lt
  have iT8 := iT7.below hx iT7.lt
  have hB8 := hB7.trans (hx.mono hB7.size)
  clear iC7
  clear hx
  clear iD7 iR7 iT7 hB7
  go_wp2_with (refine wpList_load_row rfl 30 _ rfl w.heap.size rfl 30 _ (0, 0) _ iD8 Try.underlying30 rfl infoIde ?_)
  refine (copy_any d A c A' c' _ (HI.out.keep hB8)).mono ?_
  rintro e V9 ⟨A1, c1, A2, c2, rfl, r1, r2, hx⟩
  have iD9 := iD8.below hx iD8.lt
  have iR9 := iR8.below hx iR8.lt
  have iT9 := iT8.below hx iT8.lt
  have hB9 := hB8.trans (hx.mono hB8.size)
  have r1 := r1.mono hB8.size
  have r2 := r2.mono hB8.size
  clear hx
  clear iD8 iR8 iT8 hB8
  have hG : w.heap.size + 1 < V9.heap.size := iR9.lt
  have hGT : BT < V9.heap.size := iT9.lt
  have iGX : Is (V9.alloc (.cells #[.string d.B, .int .i64 b, .slice A1 d.N.length c1, .slice A2 d.K.length c2, .bool d.c] 30)) V9.heap.size 30 #[.string d.B, .int .i64 b, .slice A1 d.N.length c1, .slice A2 d.K.length c2, .bool d.c] := Is.new _ _ _
  have iTa := iT9.alloc (.cells (ideL d A1 c1 A2 c2) 30)
  have iDX := iD9.alloc (.cells #[.string d.B, .int .i64 b, .slice A1 d.N.length c1, .slice A2 d.K.length c2, .bool d.c] 30)
  have iRX := iR9.alloc (.cells #[.string d.B, .int .i64 b, .slice A1 d.N.length c1, .slice A2 d.K.length c2, .bool d.c] 30)
  have hBX := hB9.alloc hB9.size (.cells #[.string d.B, .int .i64 b, .slice A1 d.N.length c1, .slice A2 d.K.length c2, .bool d.c] 30)
  have r1X := r1.alloc (.cells #[.string d.B, .int .i64 b, .slice A1 d.N.length c1, .slice A2 d.K.length c2, .bool d.c] 30)
  have r2X := r2.alloc (.cells #[.string d.B, .int .i64 b, .slice A1 d.N.length c1, .slice A2 d.K.length c2, .bool d.c] 30)
  have t0 : (V9.alloc (.cells (ideL d A1 c1 A2 c2) 30)).cell? ⟨BT, 0, none⟩ = some (.string d.B) := iTa.cell 0
  have t1 : (V9.alloc (.cells (ideL d A1 c1 A2 c2) 30)).cell? ⟨BT, 1, none⟩ = some (.int .i64 b) := iTa.cell 1
  have iY : Is ((V9.alloc (.cells #[.string d.B, .int .i64 b, .slice A1 d.N.length c1, .slice A2 d.K.length c2, .bool d.c] 30)).alloc (.cells #[.string i, .string S] 55)) (V9.alloc (.cells #[.string d.B, .int .i64 b, .slice A1 d.N.length c1, .slice A2 d.K.length c2, .bool d.c] 30)).heap.size 55 #[.string i, .string S] := Is.new _ _ _
  have hXs : (V9.alloc (.cells #[.string d.B, .int .i64 b, .slice A1 d.N.length c1, .slice A2 d.K.length c2, .bool d.c] 30)).heap.size = V9.heap.size + 1 := by simp
  rw [hXs] at iY
  have iGXy := iGX.alloc (.cells #[.string i, .string S] 55)
  have iDXy := iDX.alloc (.cells #[.string i, .string S] 55)
  have iRXy := iRX.alloc (.cells #[.string i, .string S] 55)
  have r1Xy := r1X.alloc (.cells #[.string i, .string S] 55)
  have r2Xy := r2X.alloc (.cells #[.string i, .string S] 55)
  have hBy := hBX.alloc hBX.size (.cells #[.string i, .string S] 55)
  obtain ⟨i0, hi0, hz0, hz1, hz2⟩ := info_parts infoNam8
  clear iD9 iR9 iT9 hB9 r1 r2 iTa iGX iDX iRX r1X r2X hBX hXs
  have ysBy : (d.N.length + 1) * 32 ≤ 140737488355328 := by omega
  have ysLen : d.N.length + 1 ≤ maxLen := by unfold maxLen; omega
  have ysOne : ∀ u ∈ (#[.string i, .string S] : Array Value).toList, u.oneCell' = true := fun u hu => by simp only [List.mem_cons, List.not_mem_nil, or_false] at hu; rcases hu with rfl | rfl <;> rfl
  go_wp2_with (at_builtin; refine wpList_pushV rfl _ _ 27 55 i0 (.agg #[.string ⟨#[]⟩, .string ⟨#[]⟩]) 2 32 rfl Try.underlying27 hi0 hz0 hz1 hz2 rfl (by decide) w.heap.size A1 c1 d.N.length (flN d.N) r1Xy (V9.heap.size + 1) 55 #[.string i, .string S] iY rfl ysOne ysLen ysBy ⟨rfl, rfl⟩ hBy.size ?_; intro A3 c3 V r3 hg3; have jG := r1Xy.isFar hg3 iGXy (by decide); have jD := r1Xy.isFar hg3 iDXy (by decide); have jR := r1Xy.isFar hg3 iRXy (by decide); have jB := r1Xy.belowG hBy hg3; have jX := rowOther r1Xy hg3 r2Xy (by decide); have e2 : V.cell? ⟨V9.heap.size, 2, none⟩ = some (.slice A1 d.N.length c1) := jG.cell 2; have u2 := jG.frozen 2; have jG2 := jG.set 2 (.slice A3 (d.N.length + 1) c3); have jD2 := jD.far (p := ⟨V9.heap.size, 2, none⟩) (by show w.heap.size ≠ V9.heap.size; omega) (.slice A3 (d.N.length + 1) c3); have e4 : (V.setCell ⟨V9.heap.size, 2, none⟩ (.slice A3 (d.N.length + 1) c3)).cell? ⟨w.heap.size, 4, none⟩ = some (.bool true) := (jD2.cell 4).trans (congrArg (fun b => some (Value.bool b)) HC.out); have e5 : (V.setCell ⟨V9.heap.size, 2, none⟩ (.slice A3 (d.N.length + 1) c3)).cell? ⟨V9.heap.size, 4, none⟩ = some (.bool d.c) := jG2.cell 4; have u5 := jG2.frozen 4)
  have zG : Is ((V.setCell ⟨V9.heap.size, 2, none⟩ (.slice A3 (d.N.length + 1) c3)).setCell ⟨V9.heap.size, 4, none⟩ (.bool true)).drew V9.heap.size 30 #[.string d.B, .int .i64 b, .slice A3 (d.N.length + 1) c3, .slice A2 d.K.length c2, .bool true] := jG2.set 4 _
  have zR : Is ((V.setCell ⟨V9.heap.size, 2, none⟩ (.slice A3 (d.N.length + 1) c3)).setCell ⟨V9.heap.size, 4, none⟩ (.bool true)).drew (w.heap.size + 1) 30 zer8 := (jR.far (p := ⟨V9.heap.size, 2, none⟩) (by show w.heap.size + 1 ≠ V9.heap.size; omega) (.slice A3 (d.N.length + 1) c3)).far (p := ⟨V9.heap.size, 4, none⟩) (by show w.heap.size + 1 ≠ V9.heap.size; omega) _
  have z3 : RowV ((V.setCell ⟨V9.heap.size, 2, none⟩ (.slice A3 (d.N.length + 1) c3)).setCell ⟨V9.heap.size, 4, none⟩ (.bool true)).drew w.heap.size 55 2 A3 c3 (d.N.length + 1) (flN d.N ++ (#[.string i, .string S] : Array Value).toList) := (r3.far (p := ⟨V9.heap.size, 2, none⟩) jG (by decide) (.slice A3 (d.N.length + 1) c3)).far (p := ⟨V9.heap.size, 4, none⟩) jG2 (by decide) _
  have zX : RowV ((V.setCell ⟨V9.heap.size, 2, none⟩ (.slice A3 (d.N.length + 1) c3)).setCell ⟨V9.heap.size, 4, none⟩ (.bool true)).drew w.heap.size 57 3 A2 c2 d.K.length (flK d.K) := (jX.far (p := ⟨V9.heap.size, 2, none⟩) jG (by decide) (.slice A3 (d.N.length + 1) c3)).far (p := ⟨V9.heap.size, 4, none⟩) jG2 (by decide) _
  have zB : Below w.heap.size w ((V.setCell ⟨V9.heap.size, 2, none⟩ (.slice A3 (d.N.length + 1) c3)).setCell ⟨V9.heap.size, 4, none⟩ (.bool true)).drew := belowN ((jB.setCell (p := ⟨V9.heap.size, 2, none⟩) (by show w.heap.size ≤ V9.heap.size; omega) (.slice A3 (d.N.length + 1) c3)).setCell (p := ⟨V9.heap.size, 4, none⟩) (by show w.heap.size ≤ V9.heap.size; omega) (.bool true)) 1
  have hG2 := hG
  clear jG2 jG jD jD2 jR jB jX e2 e4 e5 u2 u5 r3 hg3
  refine wp_region_held_drew (S := fun W => Is W V9.heap.size 30 #[.string d.B, .int .i64 b, .slice A3 (d.N.length + 1) c3, .slice A2 d.K.length c2, .bool true]) (by kernel_rfl) zG (fun hS => ?_)
  change wpAnyH _ _ (opsOf Try.f15 16) _ _ 5 (Array.replicate 5 false) _ _
  clear hS
  generalize ((V.setCell ⟨V9.heap.size, 2, none⟩ (.slice A3 (d.N.length + 1) c3)).setCell ⟨V9.heap.size, 4, none⟩ (.bool true)).drew = VZ at *
  refine wpAnyH_pure (i := 0) (o := { dst := some 76, op := Op.move (Operand.tmp 9), type := 9, pos := "ideal.go:51", after := #[], guard := none }) (v := .string S) (by kernel_rfl) (by kernel_rfl) (by kernel_rfl) (by kernel_rfl) (fun _ _ _ h => h) (by kernel_rfl) (fun w hSw => by kernel_rfl) zG ?_
  simp only [Act.put, List.setIfInBounds_toArray, List.set_cons_succ, List.set_cons_zero]
  refine wpAnyH_pure (i := 1) (o := { dst := some 77, op := Op.load 30 (Operand.tmp 14), type := 30, pos := "ideal.go:51", after := #[{ on := 2, ground := Ground.gcOnly Departure.lateStores }], guard := none }) (v := .agg #[.string d.B, .int .i64 b, .slice A3 (d.N.length + 1) c3, .slice A2 d.K.length c2, .bool true]) (by kernel_rfl) (by kernel_rfl) (by kernel_rfl) (by kernel_rfl) (fun _ _ _ h => h) (by kernel_rfl) (fun w hSw => by exact exec_load rfl rfl (run_loadVar_row _ _ 30 30 _ (0, 0) _ hSw Try.underlying30 rfl infoIde)) zG ?_
  simp only [Act.put, List.setIfInBounds_toArray, List.set_cons_succ, List.set_cons_zero]
  refine wpAnyH_pure (i := 2) (o := { dst := some 4, op := Op.assign (Operand.tmp 76), type := 9, pos := "ideal.go:51", after := #[{ on := 0, ground := Ground.data }, { on := 0, ground := Ground.phase }, { on := 1, ground := Ground.textOnly Departure.lateStores }], guard := none }) (v := .string S) (by kernel_rfl) (by kernel_rfl) (by kernel_rfl) (by kernel_rfl) (fun _ _ _ h => h) (by kernel_rfl) (fun w hSw => by kernel_rfl) zG ?_
  simp only [Act.put, List.setIfInBounds_toArray, List.set_cons_succ, List.set_cons_zero]
  have zGz : Is (VZ.setRow (w.heap.size + 1) #[.string d.B, .int .i64 b, .slice A3 (d.N.length + 1) c3, .slice A2 d.K.length c2, .bool true]) V9.heap.size 30 #[.string d.B, .int .i64 b, .slice A3 (d.N.length + 1) c3, .slice A2 d.K.length c2, .bool true] := zG.rowFar (by omega) _
  refine wpAnyH_storerow (i := 3) (o := { dst := none, op := Op.store 30 (Operand.tmp 5) (Operand.tmp 77), type := 0, pos := "ideal.go:51", after := #[{ on := 1, ground := Ground.data }, { on := 2, ground := Ground.chain }, { on := 0, ground := Ground.phase }, { on := 1, ground := Ground.phase }, { on := 2, ground := Ground.phase }], guard := none }) (g := w.heap.size + 1) (cs := #[.string d.B, .int .i64 b, .slice A3 (d.N.length + 1) c3, .slice A2 d.K.length c2, .bool true]) (t := 30) (old := zer8) (by kernel_rfl) (by kernel_rfl) (by kernel_rfl) rfl (by kernel_rfl) (by kernel_rfl) zR infoIde rfl (by rw [← Array.all_toList]; rfl) zGz ?_
  simp only [Act.put]
  refine wpAnyH_pure (i := 4) (o := { dst := some 6, op := Op.assign (Operand.const (Value.int IntKind.i64 0)), type := 33, pos := "ideal.go:51", after := #[{ on := 3, ground := Ground.chain }, { on := 0, ground := Ground.phase }, { on := 1, ground := Ground.phase }, { on := 2, ground := Ground.phase }, { on := 3, ground := Ground.phase }], guard := none }) (v := .int .i64 0) (by kernel_rfl) (by kernel_rfl) (by kernel_rfl) (by kernel_rfl) (fun _ _ _ h => h) (by kernel_rfl) (fun w hSw => by kernel_rfl) zGz ?_
  simp only [Act.put, List.setIfInBounds_toArray, List.set_cons_succ, List.set_cons_zero]
  refine wpAnyH_done (by kernel_rfl) ?_ _
  go_wp2
  have m3 := (z3.rowFar zR (by decide) #[.string d.B, .int .i64 b, .slice A3 (d.N.length + 1) c3, .slice A2 d.K.length c2, .bool true]).inV
  have mX := (zX.rowFar zR (by decide) #[.string d.B, .int .i64 b, .slice A3 (d.N.length + 1) c3, .slice A2 d.K.length c2, .bool true]).inV
  have n3 := rowNil z3
  have nX := rowNil zX
  have fN := HI.out.fit
  have fK := HI.out.fitK
  rw [← flN_snoc] at m3
  have hw : (d.N ++ [(i, S)]).length = d.N.length + 1 := by rw [List.length_append]; rfl
  have hv : ideV (⟨d.B, b, (d.N ++ [(i, S)]), d.K, true⟩ : Ide) A3 c3 A2 c2 = .agg #[.string d.B, .int .i64 b, .slice A3 (d.N.length + 1) c3, .slice A2 d.K.length c2, .bool true] := by show Value.agg #[.string d.B, .int .i64 b, .slice A3 (d.N ++ [(i, S)]).length c3, .slice A2 d.K.length c2, .bool true] = _; rw [hw]
  exact bodyPost_ret (results_tct Try.results15 _ _ _ (w.heap.size + 1) 30 _ (0, 0) _ rfl (zR.row _) Try.underlying30 infoIde) rfl ⟨A3, c3, A2, c2, by rw [hv]; rfl, ⟨m3, mX, n3, nX, by show (d.N ++ [(i, S)]).length * 32 ≤ _; rw [hw]; omega, fK⟩, belowRow zB (by simp) _, Or.inr (z3.rowFar zR (by decide) _).own8, Or.inr (zX.rowFar zR (by decide) _).own8⟩
end Go.Proofs.Ytdbdoammbnogaaa
