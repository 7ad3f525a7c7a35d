/-
  Layer 8: contract of Seal, the document's own. Condition: the ideal's lists lie where the slices point to.
-/
import Derived.Test.YtdbdoammbnogaaaIdx4
import Derived.Test.YtdbdoammbnogaaaIdx5
namespace Go.Proofs.Ytdbdoammbnogaaa
open Go.RowKit Go.Shelf

set_option maxRecDepth 100000 in
set_option maxHeartbeats 4000000 in
theorem dseal_go (d : Ide) (A : Option Addr) (c : Nat) (A' : Option Addr) (c' : Nat) (l t : ByteArray) (w : World) (h : InI w d A c A' c') (hr : right8 d = true) (hi : (l.size : Int) = 16) (hj : (t.size : Int) = 24) :
    Calls Try.prog 22 #[ideV d A c A' c', .string l, .string t] w fun e w' => ∃ A1 c1 A2 c2, e = .returned (.tuple #[.string (sea8 d l t).1, ideV (sea8 d l t).2.1 A1 c1 A2 c2, .int .i64 (sea8 d l t).2.2]) ∧ InI w' (sea8 d l t).2.1 A1 c1 A2 c2 ∧ Below w.heap.size w w' := by
  have HI := Lib.hid h
  have C := Lib.hid (fun (W : World) (hb : Below w.heap.size w W) => dright8_any d A c A' c' W (h.keep hb))
  have HZ := Lib.hid (dsea_of (l := l) (t := t) hr (by omega))
  have hfN := h.fit
  have hfK := h.fitK
  rw [hr] at C
  clear hr
  clear h
  obtain ⟨V1, hV1⟩ : ∃ W, W = (w.alloc (.cells (ideL d A c A' c') 30)).alloc (.cells zer8 30) := ⟨_, rfl⟩
  have iD1 : Is V1 w.heap.size 30 (ideL d A c A' c') := by rw [hV1]; exact heap_alloc2_old w _ _
  have iR1 : Is V1 (w.heap.size + 1) 30 zer8 := by rw [hV1]; exact heap_alloc2_new w _ _
  have hB1 : Below w.heap.size w V1 := by rw [hV1]; exact ((Below.refl _ _).alloc (Nat.le_refl _) _).alloc (by simp) _
  go_enter Try.func22, Try.ntmps22
  go_wp2_with fail
  rw [← hV1]
  clear hV1
  go_wp2_with (refine wpList_load_row rfl 30 _ rfl w.heap.size rfl 30 _ (0, 0) _ iD1 Try.underlying30 rfl infoIde ?_)
  refine (own8_any d A c A' c' _ (HI.out.keep hB1)).mono ?_
  rintro e V2 ⟨A1, c1, A2, c2, rfl, r1, r2, hx⟩
  have iD2 := iD1.below hx iD1.lt
  have iR2 := iR1.below hx iR1.lt
  have hB2 := hB1.trans (hx.mono hB1.size)
  have r1 := r1.mono hB1.size
  have r2 := r2.mono hB1.size
  clear hx
  clear iD1 iR1 hB1
  have r1 := r1.alloc (.cells (ideL d A1 c1 A2 c2) 30)
  have r2 := r2.alloc (.cells (ideL d A1 c1 A2 c2) 30)
  have iG3 : Is (V2.alloc (.cells (ideL d A1 c1 A2 c2) 30)) V2.heap.size 30 (ideL d A1 c1 A2 c2) := Is.new _ _ _
  have iD3 := iD2.alloc (.cells (ideL d A1 c1 A2 c2) 30)
  have iR3 := iR2.alloc (.cells (ideL d A1 c1 A2 c2) 30)
  have hB3 := hB2.alloc hB2.size (.cells (ideL d A1 c1 A2 c2) 30)
  have hG : w.heap.size + 1 < V2.heap.size := iR2.lt
  clear iD2 iR2 hB2
  go_wp2_with (refine wpList_load_row rfl 30 _ rfl w.heap.size rfl 30 _ (0, 0) _ iD3 Try.underlying30 rfl infoIde ?_)
  generalize V2.alloc (.cells (ideL d A1 c1 A2 c2) 30) = V3 at *
  generalize V2.heap.size = BG at *
  refine (C.out _ hB3).mono ?_
  rintro e V4 ⟨rfl, hx⟩
  have iD4 := iD3.below hx iD3.lt
  have iR4 := iR3.below hx iR3.lt
  have iG4 := iG3.below hx iG3.lt
  have hB4 := hB3.trans (hx.mono hB3.size)
  have r1 := r1.below hx
  have r2 := r2.below hx
  clear hx
  clear iD3 iR3 iG3 hB3
  go_wp2
  go_loopw [10] (fun i0 wr => ∃ j : Nat, j ≤ d.K.length ∧ i0 = .int .i64 (j : Int) ∧ Is wr w.heap.size 30 (ideL d A c A' c') ∧ Is wr (w.heap.size + 1) 30 zer8 ∧ Is wr BG 30 (ideL d A1 c1 A2 c2) ∧ RowV wr w.heap.size 55 2 A1 c1 d.N.length (flN d.N) ∧ RowV wr w.heap.size 57 3 A2 c2 d.K.length (flK d.K) ∧ Below w.heap.size w wr ∧ No8 (∀ x ∈ d.K.take j, ¬ (x.1 = l ∧ x.2.1 = t)))
    (fun i0 _ => d.K.length - (intOf i0).toNat)
  case atStart => exact ⟨0, by omega, rfl, iD4, iR4, iG4, r1, r2, hB4, ⟨fun x hx => by cases hx⟩⟩
  case round =>
    clear iD4 iR4 iG4 r1 r2 hB4
    obtain ⟨j, hj0, rfl, iD, iR, iG, r1, r2, hB, hno⟩ := hrel
    by_cases hlt : j < d.K.length
    · have l1 : (j : Int) < (d.K.length : Int) := by omega
      obtain ⟨x, hx⟩ : ∃ x, d.K[j]? = some x := ⟨_, List.getElem?_eq_getElem hlt⟩
      have HX := Lib.hid hx
      obtain ⟨b, off, rfl, hb, hr⟩ := (HI.out.keep hB).k.cel hx
      have c2 : wr.cell? ⟨w.heap.size, 3, none⟩ = some (.slice (some ⟨b, off, none⟩) d.K.length c') := iD.cell 3
      have e0 : wr.cell? ⟨b, off + j * 3, none⟩ = some (.string x.1) := hr 0 _ rfl
      have e1 : wr.cell? ⟨b, off + j * 3 + 1, none⟩ = some (.string x.2.1) := hr 1 _ rfl
      have w5i := IntWalk.i64_in ((j : Int) + 1) (by omega)
      by_cases hp : x.1 = l
      · by_cases hq : x.2.1 = t
        · have he := Lib.hid (dsea_hit HZ.out hx ⟨hp, hq⟩ hno.out)
          subst hp
          subst hq
          clear hx hr
          go_wp2
          obtain ⟨V50, hV50⟩ : ∃ W, W = wr := ⟨_, rfl⟩
          subst hV50
          have iD50 := iD
          have iR50 := iR
          have iG50 := iG
          have hB50 := hB
          clear iD iR iG hB c2 e0 e1
          have zD : Is V50.drew w.heap.size 30 (ideL d A c (some ⟨b, off, none⟩) c') := iD50
          have zG : Is V50.drew BG 30 (ideL d A1 c1 A2 c2) := iG50
          have zR : Is V50.drew (w.heap.size + 1) 30 zer8 := iR50
          have zB : Below w.heap.size w V50.drew := belowN hB50 1
          have zr1 := r1.drewN 1
          change RowV V50.drew _ _ _ _ _ _ _ at zr1
          have zr2 := r2.drewN 1
          change RowV V50.drew _ _ _ _ _ _ _ at zr2
          clear iD50 iG50 iR50 hB50 r1 r2
          refine wp_region_held_drew (S := fun W => Is W BG 30 (ideL d A1 c1 A2 c2) ∧ Is W w.heap.size 30 (ideL d A c (some ⟨b, off, none⟩) c') ∧ Below w.heap.size w W) (by kernel_rfl) ⟨zG, zD, zB⟩ (fun hS => ?_)
          change wpAnyH _ _ (opsOf Try.f22 8) _ _ 10 (Array.replicate 10 false) _ _
          clear hS
          generalize V50.drew = V at *
          refine wpAnyH_pure (i := 0) (o := { dst := some 55, op := Op.fieldAddr 30 (Operand.tmp 3) 2, type := 0, pos := "ref.go:102", after := #[], guard := none }) (v := .pointer (some ⟨w.heap.size, 3, none⟩)) (by kernel_rfl) (by kernel_rfl) (by kernel_rfl) (by kernel_rfl) (fun _ _ _ h => h) (by kernel_rfl) (fun w hSw => by go_simp) ⟨zG, zD, zB⟩ ?_
          simp only [Act.put, List.setIfInBounds_toArray, List.set_cons_succ, List.set_cons_zero]
          refine wpAnyH_pure (i := 1) (o := { dst := some 56, op := Op.load 28 (Operand.tmp 55), type := 28, pos := "ref.go:102", after := #[{ on := 0, ground := Ground.data }], guard := none }) (v := .slice (some ⟨b, off, none⟩) d.K.length c') (by kernel_rfl) (by kernel_rfl) (by kernel_rfl) (by kernel_rfl) (fun _ _ _ h => h) (by kernel_rfl) (fun w hSw => by (have hc := hSw.2.1.cell 3; go_simp)) ⟨zG, zD, zB⟩ ?_
          simp only [Act.put, List.setIfInBounds_toArray, List.set_cons_succ, List.set_cons_zero]
          refine wpAnyH_pure (i := 2) (o := { dst := some 57, op := Op.move (Operand.tmp 10), type := 3, pos := "ref.go:102", after := #[], guard := none }) (v := .int .i64 (j : Int)) (by kernel_rfl) (by kernel_rfl) (by kernel_rfl) (by kernel_rfl) (fun _ _ _ h => h) (by kernel_rfl) (fun w hSw => by kernel_rfl) ⟨zG, zD, zB⟩ ?_
          simp only [Act.put, List.setIfInBounds_toArray, List.set_cons_succ, List.set_cons_zero]
          refine wpAnyH_pure (i := 3) (o := { dst := some 58, op := Op.indexAddr 28 (Operand.tmp 56) (Operand.tmp 57), type := 0, pos := "ref.go:102", after := #[{ on := 1, ground := Ground.data }, { on := 2, ground := Ground.data }], guard := none }) (v := .pointer (some ⟨b, off + j * 3, none⟩)) (by kernel_rfl) (by kernel_rfl) (by kernel_rfl) (by kernel_rfl) (fun _ _ _ h => h) (by kernel_rfl) (fun w hSw => by go_simp) ⟨zG, zD, zB⟩ ?_
          simp only [Act.put, List.setIfInBounds_toArray, List.set_cons_succ, List.set_cons_zero]
          refine wpAnyH_pure (i := 4) (o := { dst := some 59, op := Op.fieldAddr 57 (Operand.tmp 58) 2, type := 0, pos := "ref.go:102", after := #[{ on := 3, ground := Ground.data }], guard := none }) (v := .pointer (some ⟨b, off + j * 3 + 2, none⟩)) (by kernel_rfl) (by kernel_rfl) (by kernel_rfl) (by kernel_rfl) (fun _ _ _ h => h) (by kernel_rfl) (fun w hSw => by go_simp) ⟨zG, zD, zB⟩ ?_
          simp only [Act.put, List.setIfInBounds_toArray, List.set_cons_succ, List.set_cons_zero]
          refine wpAnyH_pure (i := 5) (o := { dst := some 60, op := Op.load 9 (Operand.tmp 59), type := 9, pos := "ref.go:102", after := #[{ on := 4, ground := Ground.data }], guard := none }) (v := .string x.2.2) (by kernel_rfl) (by kernel_rfl) (by kernel_rfl) (by kernel_rfl) (fun _ _ _ h => h) (by kernel_rfl) (fun w hSw => by (obtain ⟨b1, off1, e1, _, hr⟩ := (HI.out.keep hSw.2.2).k.cel HX.out; cases e1; have hc := hr 2 _ rfl; go_simp)) ⟨zG, zD, zB⟩ ?_
          simp only [Act.put, List.setIfInBounds_toArray, List.set_cons_succ, List.set_cons_zero]
          refine wpAnyH_pure (i := 6) (o := { dst := some 61, op := Op.load 30 (Operand.tmp 9), type := 30, pos := "ref.go:102", after := #[{ on := 7, ground := Ground.gcOnly Departure.lateStores }], guard := none }) (v := .agg (ideL d A1 c1 A2 c2)) (by kernel_rfl) (by kernel_rfl) (by kernel_rfl) (by kernel_rfl) (fun _ _ _ h => h) (by kernel_rfl) (fun w hSw => by exact exec_load rfl rfl (run_loadVar_row _ _ 30 30 _ (0, 0) _ hSw.1 Try.underlying30 rfl infoIde)) ⟨zG, zD, zB⟩ ?_
          simp only [Act.put, List.setIfInBounds_toArray, List.set_cons_succ, List.set_cons_zero]
          refine wpAnyH_pure (i := 7) (o := { dst := some 6, op := Op.assign (Operand.tmp 60), type := 9, pos := "ref.go:102", after := #[{ on := 5, ground := Ground.data }, { on := 0, ground := Ground.phase }, { on := 1, ground := Ground.phase }, { on := 2, ground := Ground.phase }, { on := 3, ground := Ground.phase }, { on := 4, ground := Ground.phase }, { on := 5, ground := Ground.phase }, { on := 6, ground := Ground.textOnly Departure.lateStores }], guard := none }) (v := .string x.2.2) (by kernel_rfl) (by kernel_rfl) (by kernel_rfl) (by kernel_rfl) (fun _ _ _ h => h) (by kernel_rfl) (fun w hSw => by kernel_rfl) ⟨zG, zD, zB⟩ ?_
          simp only [Act.put, List.setIfInBounds_toArray, List.set_cons_succ, List.set_cons_zero]
          have yG : Is (V.setRow (w.heap.size + 1) (ideL d A1 c1 A2 c2)) BG 30 (ideL d A1 c1 A2 c2) := zG.rowFar (by omega) _
          have yD : Is (V.setRow (w.heap.size + 1) (ideL d A1 c1 A2 c2)) w.heap.size 30 (ideL d A c (some ⟨b, off, none⟩) c') := zD.rowFar (by omega) _
          have yB : Below w.heap.size w (V.setRow (w.heap.size + 1) (ideL d A1 c1 A2 c2)) := belowRow zB (by simp) _
          refine wpAnyH_storerow (i := 8) (o := { dst := none, op := Op.store 30 (Operand.tmp 7) (Operand.tmp 61), type := 0, pos := "ref.go:102", after := #[{ on := 6, ground := Ground.data }, { on := 7, ground := Ground.chain }, { on := 0, ground := Ground.phase }, { on := 1, ground := Ground.phase }, { on := 2, ground := Ground.phase }, { on := 3, ground := Ground.phase }, { on := 4, ground := Ground.phase }, { on := 5, ground := Ground.phase }, { on := 6, ground := Ground.phase }, { on := 7, ground := Ground.phase }], guard := none }) (g := w.heap.size + 1) (cs := (ideL d A1 c1 A2 c2)) (t := 30) (old := zer8) (by kernel_rfl) (by kernel_rfl) (by kernel_rfl) rfl (by kernel_rfl) (by kernel_rfl) zR infoIde rfl (by rw [← Array.all_toList]; rfl) ⟨yG, yD, yB⟩ ?_
          simp only [Act.put]
          refine wpAnyH_pure (i := 9) (o := { dst := some 8, op := Op.assign (Operand.const (Value.int IntKind.i64 0)), type := 33, pos := "ref.go:102", after := #[{ on := 8, ground := Ground.chain }, { on := 0, ground := Ground.phase }, { on := 1, ground := Ground.phase }, { on := 2, ground := Ground.phase }, { on := 3, ground := Ground.phase }, { on := 4, ground := Ground.phase }, { on := 5, ground := Ground.phase }, { on := 6, ground := Ground.phase }, { on := 7, ground := Ground.phase }, { on := 8, ground := Ground.phase }], guard := none }) (v := .int .i64 0) (by kernel_rfl) (by kernel_rfl) (by kernel_rfl) (by kernel_rfl) (fun _ _ _ h => h) (by kernel_rfl) (fun w hSw => by kernel_rfl) ⟨yG, yD, yB⟩ ?_
          simp only [Act.put, List.setIfInBounds_toArray, List.set_cons_succ, List.set_cons_zero]
          refine wpAnyH_done (by kernel_rfl) ?_ _
          go_wp2
          have m1 := (zr1.rowFar zR (by decide) (ideL d A1 c1 A2 c2)).inV
          have m2 := (zr2.rowFar zR (by decide) (ideL d A1 c1 A2 c2)).inV
          refine bodyPost_ret (results_tct Try.results22 _ _ _ (w.heap.size + 1) 30 _ (0, 0) _ rfl (zR.row _) Try.underlying30 infoIde) rfl ?_
          rw [he.out]
          exact ⟨A1, c1, A2, c2, rfl, ⟨m1, m2, rowNil zr1, rowNil zr2, HI.out.fit, HI.out.fitK⟩, yB⟩
        · have hn2 := Lib.hid (no8_step hx hno.out (fun h => hq h.2))
          have n1 := ne7 hq
          have n2 := beq7 hq
          subst hp
          clear hx hr
          go_wp2
          go_roundw
          case rel => exact ⟨j + 1, by omega, by go_num, iD, iR, iG, r1, r2, hB, ⟨hn2.out⟩⟩
          case measure => simp [intOf]; omega
      · have hn2 := Lib.hid (no8_step hx hno.out (fun h => hp h.1))
        have n1 := ne7 hp
        have n2 := beq7 hp
        clear hx hr
        go_wp2
        go_roundw
        case rel => exact ⟨j + 1, by omega, by go_num, iD, iR, iG, r1, r2, hB, ⟨hn2.out⟩⟩
        case measure => simp [intOf]; omega
    · have l1 : ¬ (j : Int) < (d.K.length : Int) := by omega
      obtain rfl : j = d.K.length := by omega
      rw [List.take_length] at hno
      have HNO := Lib.hid hno
      clear hno
      obtain ⟨V60, hV60⟩ : ∃ W, W = wr := ⟨_, rfl⟩
      subst hV60
      have iD60 := iD
      have iR60 := iR
      have iG60 := iG
      have hB60 := hB
      clear iD iR iG hB
      have q2 : V60.cell? ⟨w.heap.size, 3, none⟩ = some (.slice A' d.K.length c') := iD60.cell 3
      by_cases hl : 2000 ≤ (d.K.length : Int)
      · have he := Lib.hid (dsea_full HZ.out HNO.out.out (by omega))
        go_wp2_with fail
        have zD : Is V60.drew w.heap.size 30 (ideL d A c A' c') := iD60
        have zG : Is V60.drew BG 30 (ideL d A1 c1 A2 c2) := iG60
        have zR : Is V60.drew (w.heap.size + 1) 30 zer8 := iR60
        have zB : Below w.heap.size w V60.drew := belowN hB60 1
        have zr1 := r1.drewN 1
        change RowV V60.drew _ _ _ _ _ _ _ at zr1
        have zr2 := r2.drewN 1
        change RowV V60.drew _ _ _ _ _ _ _ at zr2
        clear iD60 iG60 iR60 hB60 r1 r2
        refine wp_region_held_drew (S := fun W => Is W BG 30 (ideL d A1 c1 A2 c2) ∧ Is W w.heap.size 30 (ideL d A c A' c') ∧ Below w.heap.size w W) (by kernel_rfl) ⟨zG, zD, zB⟩ (fun hS => ?_)
        change wpAnyH _ _ (opsOf Try.f22 10) _ _ 4 (Array.replicate 4 false) _ _
        clear hS
        generalize V60.drew = V at *
        refine wpAnyH_pure (i := 0) (o := { dst := some 66, op := Op.load 30 (Operand.tmp 9), type := 30, pos := "ref.go:106", after := #[{ on := 1, ground := Ground.gcOnly Departure.lateStores }], guard := none }) (v := .agg (ideL d A1 c1 A2 c2)) (by kernel_rfl) (by kernel_rfl) (by kernel_rfl) (by kernel_rfl) (fun _ _ _ h => h) (by kernel_rfl) (fun w hSw => by exact exec_load rfl rfl (run_loadVar_row _ _ 30 30 _ (0, 0) _ hSw.1 Try.underlying30 rfl infoIde)) ⟨zG, zD, zB⟩ ?_
        simp only [Act.put, List.setIfInBounds_toArray, List.set_cons_succ, List.set_cons_zero]
        refine wpAnyH_pure (i := 1) (o := { dst := some 6, op := Op.assign (Operand.const (Value.string { data := #[] })), type := 9, pos := "ref.go:106", after := #[{ on := 0, ground := Ground.textOnly Departure.lateStores }], guard := none }) (v := .string { data := #[] }) (by kernel_rfl) (by kernel_rfl) (by kernel_rfl) (by kernel_rfl) (fun _ _ _ h => h) (by kernel_rfl) (fun w hSw => by kernel_rfl) ⟨zG, zD, zB⟩ ?_
        simp only [Act.put, List.setIfInBounds_toArray, List.set_cons_succ, List.set_cons_zero]
        have yG : Is (V.setRow (w.heap.size + 1) (ideL d A1 c1 A2 c2)) BG 30 (ideL d A1 c1 A2 c2) := zG.rowFar (by omega) _
        have yD : Is (V.setRow (w.heap.size + 1) (ideL d A1 c1 A2 c2)) w.heap.size 30 (ideL d A c A' c') := zD.rowFar (by omega) _
        have yB : Below w.heap.size w (V.setRow (w.heap.size + 1) (ideL d A1 c1 A2 c2)) := belowRow zB (by simp) _
        refine wpAnyH_storerow (i := 2) (o := { dst := none, op := Op.store 30 (Operand.tmp 7) (Operand.tmp 66), type := 0, pos := "ref.go:106", after := #[{ on := 0, ground := Ground.data }, { on := 1, ground := Ground.chain }, { on := 0, ground := Ground.phase }, { on := 1, ground := Ground.phase }], guard := none }) (g := w.heap.size + 1) (cs := (ideL d A1 c1 A2 c2)) (t := 30) (old := zer8) (by kernel_rfl) (by kernel_rfl) (by kernel_rfl) rfl (by kernel_rfl) (by kernel_rfl) zR infoIde rfl (by rw [← Array.all_toList]; rfl) ⟨yG, yD, yB⟩ ?_
        simp only [Act.put]
        refine wpAnyH_pure (i := 3) (o := { dst := some 8, op := Op.assign (Operand.const (Value.int IntKind.i64 2)), type := 33, pos := "ref.go:106", after := #[{ on := 2, ground := Ground.chain }, { on := 0, ground := Ground.phase }, { on := 1, ground := Ground.phase }, { on := 2, ground := Ground.phase }], guard := none }) (v := .int .i64 2) (by kernel_rfl) (by kernel_rfl) (by kernel_rfl) (by kernel_rfl) (fun _ _ _ h => h) (by kernel_rfl) (fun w hSw => by kernel_rfl) ⟨yG, yD, yB⟩ ?_
        simp only [Act.put, List.setIfInBounds_toArray, List.set_cons_succ, List.set_cons_zero]
        refine wpAnyH_done (by kernel_rfl) ?_ _
        go_wp2
        have m1 := (zr1.rowFar zR (by decide) (ideL d A1 c1 A2 c2)).inV
        have m2 := (zr2.rowFar zR (by decide) (ideL d A1 c1 A2 c2)).inV
        refine bodyPost_ret (results_tct Try.results22 _ _ _ (w.heap.size + 1) 30 _ (0, 0) _ rfl (zR.row _) Try.underlying30 infoIde) rfl ?_
        rw [he.out]
        exact ⟨A1, c1, A2, c2, rfl, ⟨m1, m2, rowNil zr1, rowNil zr2, HI.out.fit, HI.out.fitK⟩, yB⟩
      · have q0 : V60.cell? ⟨w.heap.size, 0, none⟩ = some (.string d.B) := iD60.cell 0
        have q1 : V60.cell? ⟨w.heap.size, 1, none⟩ = some (.int .i64 d.a) := iD60.cell 1
        have HT := Lib.hid (fun W => dtake_any d.B d.a 40 W)
        by_cases ht : takeE d.B d.a 40 = 0
        · have hR : takeR d.B d.a 40 = .tuple #[.string (takeS d.B d.a 40), .agg #[.string d.B, .int .i64 (d.a + 40)], .int .i64 0] := by rw [takeR, takeA, if_pos ht, ht]
          have he := Lib.hid (dsea_new HZ.out HNO.out.out (by omega) ht)
          rw [hR] at HT
          clear hR ht
          generalize takeS d.B d.a 40 = S at *
          obtain ⟨b, hb⟩ : ∃ b, b = d.a + 40 := ⟨_, rfl⟩
          rw [← hb] at HT he
          clear hb
          go_wp2_with fail
          clear q0 q1 q2
          refine (HT.out _).mono ?_
          rintro e V61 ⟨rfl, hx⟩
          have iD61 := iD60.below hx iD60.lt
          have iR61 := iR60.below hx iR60.lt
          have iG61 := iG60.below hx iG60.lt
          have hB61 := hB60.trans (hx.mono hB60.size)
          have r1 := r1.below hx
          have r2 := r2.below hx
          clear hx
          clear iD60 iR60 iG60 hB60
          have iT : Is (V61.alloc (.cells #[.string d.B, .int .i64 b] 26)) V61.heap.size 26 #[.string d.B, .int .i64 b] := Is.new _ _ _
          have iDa := iD61.alloc (.cells #[.string d.B, .int .i64 b] 26)
          have iRa := iR61.alloc (.cells #[.string d.B, .int .i64 b] 26)
          have iGa := iG61.alloc (.cells #[.string d.B, .int .i64 b] 26)
          have hBa := hB61.alloc hB61.size (.cells #[.string d.B, .int .i64 b] 26)
          have r1a := r1.alloc (.cells #[.string d.B, .int .i64 b] 26)
          have r2a := r2.alloc (.cells #[.string d.B, .int .i64 b] 26)
          have t0 : (V61.alloc (.cells #[.string d.B, .int .i64 b] 26)).cell? ⟨V61.heap.size, 0, none⟩ = some (.string d.B) := iT.cell 0
          have t1 : (V61.alloc (.cells #[.string d.B, .int .i64 b] 26)).cell? ⟨V61.heap.size, 1, none⟩ = some (.int .i64 b) := iT.cell 1
          have g0 : (V61.alloc (.cells #[.string d.B, .int .i64 b] 26)).cell? ⟨BG, 0, none⟩ = some (.string d.B) := iGa.cell 0
          have g1 : (V61.alloc (.cells #[.string d.B, .int .i64 b] 26)).cell? ⟨BG, 1, none⟩ = some (.int .i64 d.a) := iGa.cell 1
          have f0 := iGa.frozen 0
          have iG1 := iGa.set 0 (.string d.B)
          have f1 := iG1.frozen 1
          have g1' : ((V61.alloc (.cells #[.string d.B, .int .i64 b] 26)).setCell ⟨BG, 0, none⟩ (.string d.B)).cell? ⟨BG, 1, none⟩ = some (.int .i64 d.a) := iG1.cell 1
          have iGX : Is (((V61.alloc (.cells #[.string d.B, .int .i64 b] 26)).setCell ⟨BG, 0, none⟩ (.string d.B)).setCell ⟨BG, 1, none⟩ (.int .i64 b)) BG 30 #[.string d.B, .int .i64 b, .slice A1 d.N.length c1, .slice A2 d.K.length c2, .bool d.c] := iG1.set 1 (.int .i64 b)
          have g2 : (((V61.alloc (.cells #[.string d.B, .int .i64 b] 26)).setCell ⟨BG, 0, none⟩ (.string d.B)).setCell ⟨BG, 1, none⟩ (.int .i64 b)).cell? ⟨BG, 3, none⟩ = some (.slice A2 d.K.length c2) := iGX.cell 3
          have iDX := (iDa.far (p := ⟨BG, 0, none⟩) (by show w.heap.size ≠ BG; omega) (.string d.B)).far (p := ⟨BG, 1, none⟩) (by show w.heap.size ≠ BG; omega) (.int .i64 b)
          have iRX := (iRa.far (p := ⟨BG, 0, none⟩) (by show w.heap.size + 1 ≠ BG; omega) (.string d.B)).far (p := ⟨BG, 1, none⟩) (by show w.heap.size + 1 ≠ BG; omega) (.int .i64 b)
          have r1X := (r1a.far (p := ⟨BG, 0, none⟩) iGa (by decide) (.string d.B)).far (p := ⟨BG, 1, none⟩) iG1 (by decide) (.int .i64 b)
          have r2X := (r2a.far (p := ⟨BG, 0, none⟩) iGa (by decide) (.string d.B)).far (p := ⟨BG, 1, none⟩) iG1 (by decide) (.int .i64 b)
          have hBX := (hBa.setCell (p := ⟨BG, 0, none⟩) (by show w.heap.size ≤ BG; omega) (.string d.B)).setCell (p := ⟨BG, 1, none⟩) (by show w.heap.size ≤ BG; omega) (.int .i64 b)
          have iY : Is ((((V61.alloc (.cells #[.string d.B, .int .i64 b] 26)).setCell ⟨BG, 0, none⟩ (.string d.B)).setCell ⟨BG, 1, none⟩ (.int .i64 b)).alloc (.cells #[.string l, .string t, .string S] 57)) (((V61.alloc (.cells #[.string d.B, .int .i64 b] 26)).setCell ⟨BG, 0, none⟩ (.string d.B)).setCell ⟨BG, 1, none⟩ (.int .i64 b)).heap.size 57 #[.string l, .string t, .string S] := Is.new _ _ _
          have hXs : (((V61.alloc (.cells #[.string d.B, .int .i64 b] 26)).setCell ⟨BG, 0, none⟩ (.string d.B)).setCell ⟨BG, 1, none⟩ (.int .i64 b)).heap.size = V61.heap.size + 1 := by simp
          rw [hXs] at iY
          have iGXy := iGX.alloc (.cells #[.string l, .string t, .string S] 57)
          have iDXy := iDX.alloc (.cells #[.string l, .string t, .string S] 57)
          have iRXy := iRX.alloc (.cells #[.string l, .string t, .string S] 57)
          have r1Xy := r1X.alloc (.cells #[.string l, .string t, .string S] 57)
          have r2Xy := r2X.alloc (.cells #[.string l, .string t, .string S] 57)
          have hBy := hBX.alloc hBX.size (.cells #[.string l, .string t, .string S] 57)
          obtain ⟨i0, hi0, hz0, hz1, hz2⟩ := info_parts infoMad8
          clear iD61 iR61 iG61 hB61 r1 r2 iT iDa iRa iGa hBa r1a r2a iG1 iGX iDX iRX r1X r2X hBX hXs
          have ysOne : ∀ u ∈ (#[.string l, .string t, .string S] : Array Value).toList, u.oneCell' = true := fun u hu => by simp only [List.mem_cons, List.not_mem_nil, or_false] at hu; rcases hu with rfl | rfl | rfl <;> rfl
          have ysLen : d.K.length + 1 ≤ maxLen := by unfold maxLen; omega
          have ysBy : (d.K.length + 1) * 48 ≤ 140737488355328 := by omega
          go_wp2_with (first | (at_builtin; refine wpList_pushV rfl _ _ 28 57 i0 (.agg #[.string ⟨#[]⟩, .string ⟨#[]⟩, .string ⟨#[]⟩]) 3 48 rfl Try.underlying28 hi0 hz0 hz1 hz2 rfl (by decide) w.heap.size A2 c2 d.K.length (flK d.K) r2Xy (V61.heap.size + 1) 57 #[.string l, .string t, .string S] iY rfl ysOne ysLen ysBy ⟨rfl, rfl⟩ hBy.size ?_; intro A3 c3 V r3 hg3; have jG := r2Xy.isFar hg3 iGXy (by decide); have jD := r2Xy.isFar hg3 iDXy (by decide); have jR := r2Xy.isFar hg3 iRXy (by decide); have jB := r2Xy.belowG hBy hg3; have jX := rowOther r2Xy hg3 r1Xy (by decide); have e2 : V.cell? ⟨BG, 3, none⟩ = some (.slice A2 d.K.length c2) := jG.cell 3; have u2 := jG.frozen 3; have jG2 : Is (V.setCell ⟨BG, 3, none⟩ (.slice A3 (d.K.length + 1) c3)) BG 30 #[.string d.B, .int .i64 b, .slice A1 d.N.length c1, .slice A3 (d.K.length + 1) c3, .bool d.c] := jG.set 3 _) | (refine wpList_load_row rfl 30 _ rfl BG rfl 30 _ (0, 0) _ jG2 Try.underlying30 rfl infoIde ?_))
          have z3 : RowV (V.setCell ⟨BG, 3, none⟩ (.slice A3 (d.K.length + 1) c3)) w.heap.size 57 3 A3 c3 (d.K.length + 1) (flK d.K ++ (#[.string l, .string t, .string S] : Array Value).toList) := r3.far (p := ⟨BG, 3, none⟩) jG (by decide) (.slice A3 (d.K.length + 1) c3)
          have zX : RowV (V.setCell ⟨BG, 3, none⟩ (.slice A3 (d.K.length + 1) c3)) w.heap.size 55 2 A1 c1 d.N.length (flN d.N) := jX.far (p := ⟨BG, 3, none⟩) jG (by decide) (.slice A3 (d.K.length + 1) c3)
          rw [← flK_snoc] at z3
          have jD2 := jD.far (p := ⟨BG, 3, none⟩) (by show w.heap.size ≠ BG; omega) (.slice A3 (d.K.length + 1) c3)
          have jR2 := jR.far (p := ⟨BG, 3, none⟩) (by show w.heap.size + 1 ≠ BG; omega) (.slice A3 (d.K.length + 1) c3)
          have jB2 := jB.setCell (p := ⟨BG, 3, none⟩) (by show w.heap.size ≤ BG; omega) (.slice A3 (d.K.length + 1) c3)
          have hw : (d.K ++ [(l, t, S)]).length = d.K.length + 1 := by rw [List.length_append]; rfl
          have hv : ideV (⟨d.B, b, d.N, (d.K ++ [(l, t, S)]), d.c⟩ : Ide) A1 c1 A3 c3 = .agg #[.string d.B, .int .i64 b, .slice A1 d.N.length c1, .slice A3 (d.K.length + 1) c3, .bool d.c] := by show Value.agg #[.string d.B, .int .i64 b, .slice A1 d.N.length c1, .slice A3 (d.K ++ [(l, t, S)]).length c3, .bool d.c] = _; rw [hw]
          have hII : InI (V.setCell ⟨BG, 3, none⟩ (.slice A3 (d.K.length + 1) c3)) (⟨d.B, b, d.N, (d.K ++ [(l, t, S)]), d.c⟩ : Ide) A1 c1 A3 c3 := ⟨zX.inV, z3.inV, rowNil zX, rowNil z3, HI.out.fit, by show (d.K ++ [(l, t, S)]).length * 48 ≤ _; rw [hw]; omega⟩
          have CL := dclash_any (⟨d.B, b, d.N, (d.K ++ [(l, t, S)]), d.c⟩ : Ide) A1 c1 A3 c3 (V.setCell ⟨BG, 3, none⟩ (.slice A3 (d.K.length + 1) c3)) hII
          rw [hv] at CL
          clear jG jD jR jB jX r3 hg3 e2 u2 hII hv
          generalize (V.setCell ⟨BG, 3, none⟩ (.slice A3 (d.K.length + 1) c3)) = V70 at *
          refine CL.mono ?_
          rintro e V71 ⟨rfl, hx⟩
          have iD71 := jD2.below hx jD2.lt
          have iR71 := jR2.below hx jR2.lt
          have jG3 := jG2.below hx jG2.lt
          have hB71 := jB2.trans (hx.mono jB2.size)
          have r3 := z3.below hx
          have rX := zX.below hx
          clear jD2 jR2 jG2 jB2 z3 zX CL
          generalize hcz : clash8 (⟨d.B, b, d.N, (d.K ++ [(l, t, S)]), d.c⟩ : Ide).N (⟨d.B, b, d.N, (d.K ++ [(l, t, S)]), d.c⟩ : Ide).K = cz at *
          have HCZ := Lib.hid hcz
          clear hcz
          have e4 : V71.cell? ⟨BG, 4, none⟩ = some (.bool d.c) := jG3.cell 4
          have u4 := jG3.frozen 4
          go_wp2_with fail
          have iG72 : Is (V71.setCell ⟨BG, 4, none⟩ (.bool cz)) BG 30 #[.string d.B, .int .i64 b, .slice A1 d.N.length c1, .slice A3 (d.K.length + 1) c3, .bool cz] := jG3.set 4 _
          have iD72 := iD71.far (p := ⟨BG, 4, none⟩) (by show w.heap.size ≠ BG; omega) (.bool cz)
          have iR72 := iR71.far (p := ⟨BG, 4, none⟩) (by show w.heap.size + 1 ≠ BG; omega) (.bool cz)
          have hB72 := hB71.setCell (p := ⟨BG, 4, none⟩) (by show w.heap.size ≤ BG; omega) (.bool cz)
          have r3 := r3.far (p := ⟨BG, 4, none⟩) jG3 (by decide) (.bool cz)
          have rX := rX.far (p := ⟨BG, 4, none⟩) jG3 (by decide) (.bool cz)
          clear iD71 iR71 hB71 jG3 e4 u4
          generalize V71.setCell ⟨BG, 4, none⟩ (.bool cz) = V72 at *
          have zD : Is V72.drew w.heap.size 30 (ideL d A c A' c') := iD72
          have zG : Is V72.drew BG 30 #[.string d.B, .int .i64 b, .slice A1 d.N.length c1, .slice A3 (d.K.length + 1) c3, .bool cz] := iG72
          have zR : Is V72.drew (w.heap.size + 1) 30 zer8 := iR72
          have zB : Below w.heap.size w V72.drew := belowN hB72 1
          have zr3 := r3.drewN 1
          change RowV V72.drew _ _ _ _ _ _ _ at zr3
          have zrX := rX.drewN 1
          change RowV V72.drew _ _ _ _ _ _ _ at zrX
          clear iD72 iG72 iR72 hB72 r3 rX
          refine wp_region_held_drew (S := fun W => Is W BG 30 #[.string d.B, .int .i64 b, .slice A1 d.N.length c1, .slice A3 (d.K.length + 1) c3, .bool cz] ∧ Is W w.heap.size 30 (ideL d A c A' c') ∧ Below w.heap.size w W) (by kernel_rfl) ⟨zG, zD, zB⟩ (fun hS => ?_)
          change wpAnyH _ _ (opsOf Try.f22 17) _ _ 5 (Array.replicate 5 false) _ _
          clear hS
          generalize V72.drew = V at *
          refine wpAnyH_pure (i := 0) (o := { dst := some 92, op := Op.move (Operand.tmp 11), type := 9, pos := "ref.go:115", after := #[], guard := none }) (v := .string S) (by kernel_rfl) (by kernel_rfl) (by kernel_rfl) (by kernel_rfl) (fun _ _ _ h => h) (by kernel_rfl) (fun w hSw => by kernel_rfl) ⟨zG, zD, zB⟩ ?_
          simp only [Act.put, List.setIfInBounds_toArray, List.set_cons_succ, List.set_cons_zero]
          refine wpAnyH_pure (i := 1) (o := { dst := some 93, op := Op.load 30 (Operand.tmp 9), type := 30, pos := "ref.go:115", after := #[{ on := 2, ground := Ground.gcOnly Departure.lateStores }], guard := none }) (v := .agg #[.string d.B, .int .i64 b, .slice A1 d.N.length c1, .slice A3 (d.K.length + 1) c3, .bool cz]) (by kernel_rfl) (by kernel_rfl) (by kernel_rfl) (by kernel_rfl) (fun _ _ _ h => h) (by kernel_rfl) (fun w hSw => by exact exec_load rfl rfl (run_loadVar_row _ _ 30 30 _ (0, 0) _ hSw.1 Try.underlying30 rfl infoIde)) ⟨zG, zD, zB⟩ ?_
          simp only [Act.put, List.setIfInBounds_toArray, List.set_cons_succ, List.set_cons_zero]
          refine wpAnyH_pure (i := 2) (o := { dst := some 6, op := Op.assign (Operand.tmp 92), type := 9, pos := "ref.go:115", after := #[{ on := 0, ground := Ground.data }, { on := 0, ground := Ground.phase }, { on := 1, ground := Ground.textOnly Departure.lateStores }], guard := none }) (v := .string S) (by kernel_rfl) (by kernel_rfl) (by kernel_rfl) (by kernel_rfl) (fun _ _ _ h => h) (by kernel_rfl) (fun w hSw => by kernel_rfl) ⟨zG, zD, zB⟩ ?_
          simp only [Act.put, List.setIfInBounds_toArray, List.set_cons_succ, List.set_cons_zero]
          have yG : Is (V.setRow (w.heap.size + 1) #[.string d.B, .int .i64 b, .slice A1 d.N.length c1, .slice A3 (d.K.length + 1) c3, .bool cz]) BG 30 #[.string d.B, .int .i64 b, .slice A1 d.N.length c1, .slice A3 (d.K.length + 1) c3, .bool cz] := zG.rowFar (by omega) _
          have yD : Is (V.setRow (w.heap.size + 1) #[.string d.B, .int .i64 b, .slice A1 d.N.length c1, .slice A3 (d.K.length + 1) c3, .bool cz]) w.heap.size 30 (ideL d A c A' c') := zD.rowFar (by omega) _
          have yB : Below w.heap.size w (V.setRow (w.heap.size + 1) #[.string d.B, .int .i64 b, .slice A1 d.N.length c1, .slice A3 (d.K.length + 1) c3, .bool cz]) := belowRow zB (by simp) _
          refine wpAnyH_storerow (i := 3) (o := { dst := none, op := Op.store 30 (Operand.tmp 7) (Operand.tmp 93), type := 0, pos := "ref.go:115", after := #[{ on := 1, ground := Ground.data }, { on := 2, ground := Ground.chain }, { on := 0, ground := Ground.phase }, { on := 1, ground := Ground.phase }, { on := 2, ground := Ground.phase }], guard := none }) (g := w.heap.size + 1) (cs := #[.string d.B, .int .i64 b, .slice A1 d.N.length c1, .slice A3 (d.K.length + 1) c3, .bool cz]) (t := 30) (old := zer8) (by kernel_rfl) (by kernel_rfl) (by kernel_rfl) rfl (by kernel_rfl) (by kernel_rfl) zR infoIde rfl (by rw [← Array.all_toList]; rfl) ⟨yG, yD, yB⟩ ?_
          simp only [Act.put]
          refine wpAnyH_pure (i := 4) (o := { dst := some 8, op := Op.assign (Operand.const (Value.int IntKind.i64 0)), type := 33, pos := "ref.go:115", after := #[{ on := 3, ground := Ground.chain }, { on := 0, ground := Ground.phase }, { on := 1, ground := Ground.phase }, { on := 2, ground := Ground.phase }, { on := 3, ground := Ground.phase }], guard := none }) (v := .int .i64 0) (by kernel_rfl) (by kernel_rfl) (by kernel_rfl) (by kernel_rfl) (fun _ _ _ h => h) (by kernel_rfl) (fun w hSw => by kernel_rfl) ⟨yG, yD, yB⟩ ?_
          simp only [Act.put, List.setIfInBounds_toArray, List.set_cons_succ, List.set_cons_zero]
          refine wpAnyH_done (by kernel_rfl) ?_ _
          go_wp2
          have m3 := (zr3.rowFar zR (by decide) #[.string d.B, .int .i64 b, .slice A1 d.N.length c1, .slice A3 (d.K.length + 1) c3, .bool cz]).inV
          have mX := (zrX.rowFar zR (by decide) #[.string d.B, .int .i64 b, .slice A1 d.N.length c1, .slice A3 (d.K.length + 1) c3, .bool cz]).inV
          refine bodyPost_ret (results_tct Try.results22 _ _ _ (w.heap.size + 1) 30 _ (0, 0) _ rfl (zR.row _) Try.underlying30 infoIde) rfl ?_
          rw [he.out]
          have hv : ideV (⟨d.B, b, d.N, (d.K ++ [(l, t, S)]), cz⟩ : Ide) A1 c1 A3 c3 = .agg #[.string d.B, .int .i64 b, .slice A1 d.N.length c1, .slice A3 (d.K.length + 1) c3, .bool cz] := by show Value.agg #[.string d.B, .int .i64 b, .slice A1 d.N.length c1, .slice A3 (d.K ++ [(l, t, S)]).length c3, .bool cz] = _; rw [hw]
          exact ⟨A1, c1, A3, c3, by rw [hv]; rfl, ⟨mX, m3, rowNil zrX, rowNil zr3, HI.out.fit, by show (d.K ++ [(l, t, S)]).length * 48 ≤ _; rw [hw]; omega⟩, yB⟩
        · have hR : takeR d.B d.a 40 = .tuple #[.string ⟨#[]⟩, .agg #[.string d.B, .int .i64 d.a], .int .i64 (takeE d.B d.a 40)] := by rw [takeR, takeA, takeS, if_neg ht, if_neg ht]
          have he := Lib.hid (dsea_err HZ.out HNO.out.out (by omega) ht)
          rw [hR] at HT
          clear hR
          generalize takeE d.B d.a 40 = E at *
          go_wp2_with fail
          clear q0 q1 q2
          refine (HT.out _).mono ?_
          rintro e V61 ⟨rfl, hx⟩
          have iD61 := iD60.below hx iD60.lt
          have iR61 := iR60.below hx iR60.lt
          have iG61 := iG60.below hx iG60.lt
          have hB61 := hB60.trans (hx.mono hB60.size)
          have r1 := r1.below hx
          have r2 := r2.below hx
          clear hx
          clear iD60 iR60 iG60 hB60
          have r1 := r1.alloc (.cells #[.string d.B, .int .i64 d.a] 26)
          have r2 := r2.alloc (.cells #[.string d.B, .int .i64 d.a] 26)
          have iT62 : Is (V61.alloc (.cells #[.string d.B, .int .i64 d.a] 26)) V61.heap.size 26 #[.string d.B, .int .i64 d.a] := Is.new _ _ _
          have iD62 := iD61.alloc (.cells #[.string d.B, .int .i64 d.a] 26)
          have iR62 := iR61.alloc (.cells #[.string d.B, .int .i64 d.a] 26)
          have iG62 := iG61.alloc (.cells #[.string d.B, .int .i64 d.a] 26)
          have hB62 := hB61.alloc hB61.size (.cells #[.string d.B, .int .i64 d.a] 26)
          have hT : w.heap.size + 1 < V61.heap.size := iR61.lt
          clear iD61 iR61 iG61 hB61
          go_wp2_with fail
          generalize V61.alloc (.cells #[.string d.B, .int .i64 d.a] 26) = V62 at *
          generalize V61.heap.size = BT at *
          clear iT62
          have zD : Is V62.drew w.heap.size 30 (ideL d A c A' c') := iD62
          have zG : Is V62.drew BG 30 (ideL d A1 c1 A2 c2) := iG62
          have zR : Is V62.drew (w.heap.size + 1) 30 zer8 := iR62
          have zB : Below w.heap.size w V62.drew := belowN hB62 1
          have zr1 := r1.drewN 1
          change RowV V62.drew _ _ _ _ _ _ _ at zr1
          have zr2 := r2.drewN 1
          change RowV V62.drew _ _ _ _ _ _ _ at zr2
          clear iD62 iG62 iR62 hB62 r1 r2
          refine wp_region_held_drew (S := fun W => Is W BG 30 (ideL d A1 c1 A2 c2) ∧ Is W w.heap.size 30 (ideL d A c A' c') ∧ Below w.heap.size w W) (by kernel_rfl) ⟨zG, zD, zB⟩ (fun hS => ?_)
          change wpAnyH _ _ (opsOf Try.f22 13) _ _ 5 (Array.replicate 5 false) _ _
          clear hS
          generalize V62.drew = V at *
          refine wpAnyH_pure (i := 0) (o := { dst := some 76, op := Op.load 30 (Operand.tmp 9), type := 30, pos := "ref.go:110", after := #[{ on := 2, ground := Ground.gcOnly Departure.lateStores }], guard := none }) (v := .agg (ideL d A1 c1 A2 c2)) (by kernel_rfl) (by kernel_rfl) (by kernel_rfl) (by kernel_rfl) (fun _ _ _ h => h) (by kernel_rfl) (fun w hSw => by exact exec_load rfl rfl (run_loadVar_row _ _ 30 30 _ (0, 0) _ hSw.1 Try.underlying30 rfl infoIde)) ⟨zG, zD, zB⟩ ?_
          simp only [Act.put, List.setIfInBounds_toArray, List.set_cons_succ, List.set_cons_zero]
          refine wpAnyH_pure (i := 1) (o := { dst := some 77, op := Op.move (Operand.tmp 13), type := 33, pos := "ref.go:110", after := #[{ on := 3, ground := Ground.gcOnly Departure.lateStores }], guard := none }) (v := .int .i64 E) (by kernel_rfl) (by kernel_rfl) (by kernel_rfl) (by kernel_rfl) (fun _ _ _ h => h) (by kernel_rfl) (fun w hSw => by kernel_rfl) ⟨zG, zD, zB⟩ ?_
          simp only [Act.put, List.setIfInBounds_toArray, List.set_cons_succ, List.set_cons_zero]
          refine wpAnyH_pure (i := 2) (o := { dst := some 6, op := Op.assign (Operand.const (Value.string { data := #[] })), type := 9, pos := "ref.go:110", after := #[{ on := 0, ground := Ground.textOnly Departure.lateStores }, { on := 1, ground := Ground.textOnly Departure.lateStores }], guard := none }) (v := .string { data := #[] }) (by kernel_rfl) (by kernel_rfl) (by kernel_rfl) (by kernel_rfl) (fun _ _ _ h => h) (by kernel_rfl) (fun w hSw => by kernel_rfl) ⟨zG, zD, zB⟩ ?_
          simp only [Act.put, List.setIfInBounds_toArray, List.set_cons_succ, List.set_cons_zero]
          have yG : Is (V.setRow (w.heap.size + 1) (ideL d A1 c1 A2 c2)) BG 30 (ideL d A1 c1 A2 c2) := zG.rowFar (by omega) _
          have yD : Is (V.setRow (w.heap.size + 1) (ideL d A1 c1 A2 c2)) w.heap.size 30 (ideL d A c A' c') := zD.rowFar (by omega) _
          have yB : Below w.heap.size w (V.setRow (w.heap.size + 1) (ideL d A1 c1 A2 c2)) := belowRow zB (by simp) _
          refine wpAnyH_storerow (i := 3) (o := { dst := none, op := Op.store 30 (Operand.tmp 7) (Operand.tmp 76), type := 0, pos := "ref.go:110", after := #[{ on := 0, ground := Ground.data }, { on := 2, ground := Ground.chain }, { on := 0, ground := Ground.phase }, { on := 1, ground := Ground.textOnly Departure.lateStores }, { on := 2, ground := Ground.phase }], guard := none }) (g := w.heap.size + 1) (cs := (ideL d A1 c1 A2 c2)) (t := 30) (old := zer8) (by kernel_rfl) (by kernel_rfl) (by kernel_rfl) rfl (by kernel_rfl) (by kernel_rfl) zR infoIde rfl (by rw [← Array.all_toList]; rfl) ⟨yG, yD, yB⟩ ?_
          simp only [Act.put]
          refine wpAnyH_pure (i := 4) (o := { dst := some 8, op := Op.assign (Operand.tmp 77), type := 33, pos := "ref.go:110", after := #[{ on := 1, ground := Ground.data }, { on := 3, ground := Ground.chain }, { on := 0, ground := Ground.phase }, { on := 1, ground := Ground.phase }, { on := 2, ground := Ground.phase }, { on := 3, ground := Ground.phase }], guard := none }) (v := .int .i64 E) (by kernel_rfl) (by kernel_rfl) (by kernel_rfl) (by kernel_rfl) (fun _ _ _ h => h) (by kernel_rfl) (fun w hSw => by kernel_rfl) ⟨yG, yD, yB⟩ ?_
          simp only [Act.put, List.setIfInBounds_toArray, List.set_cons_succ, List.set_cons_zero]
          refine wpAnyH_done (by kernel_rfl) ?_ _
          go_wp2
          have m1 := (zr1.rowFar zR (by decide) (ideL d A1 c1 A2 c2)).inV
          have m2 := (zr2.rowFar zR (by decide) (ideL d A1 c1 A2 c2)).inV
          refine bodyPost_ret (results_tct Try.results22 _ _ _ (w.heap.size + 1) 30 _ (0, 0) _ rfl (zR.row _) Try.underlying30 infoIde) rfl ?_
          rw [he.out]
          exact ⟨A1, c1, A2, c2, rfl, ⟨m1, m2, rowNil zr1, rowNil zr2, HI.out.fit, HI.out.fitK⟩, yB⟩
end Go.Proofs.Ytdbdoammbnogaaa
