/-
  Layer 8: contract of ideal.copyOf, the program's: an ideal whose lists are in new memory. Condition: its lists lie where the slices point to.
-/
import Derived.Test.YtdbdoammbnogaaaIdeI
namespace Go.Proofs.Ytdbdoammbnogaaa
open Go.RowKit Go.Shelf

theorem ideL_one (d : Ide) (A : Option Addr) (c : Nat) (A' : Option Addr) (c' : Nat) : (ideL d A c A' c').all (·.oneCell') = true := by
  rw [← Array.all_toList]
  rfl
set_option maxHeartbeats 2000000 in
set_option maxRecDepth 100000 in
theorem copy_any (d : Ide) (A : Option Addr) (c : Nat) (A' : Option Addr) (c' : Nat) (w : World) (h : InI w d A c A' c') :
    Calls Try.prog 30 #[ideV d A c A' c'] w fun e w' => ∃ A1 c1 A2 c2, e = .returned (ideV d A1 c1 A2 c2) ∧ RowV w' w.heap.size 55 2 A1 c1 d.N.length (flN d.N) ∧ RowV w' w.heap.size 57 3 A2 c2 d.K.length (flK d.K) ∧ Below w.heap.size w w' := by
  have HI := Lib.hid h
  have CN := Lib.hid (fun W (hb : Below w.heap.size w W) => cloneN_any A c d.N W (h.n.keep hb) h.nil h.fit)
  have CK := Lib.hid (fun W (hb : Below w.heap.size w W) => cloneK_any A' c' d.K W (h.k.keep hb) h.nilK h.fitK)
  clear h
  obtain ⟨W0, hW0⟩ : ∃ W, W = (w.alloc (.cells (ideL d A c A' c') 30)).alloc (.cells #[.string ⟨#[]⟩, .int .i64 0, .slice none 0 0, .slice none 0 0, .bool false] 30) := ⟨_, rfl⟩
  have i1 : Is W0 w.heap.size 30 (ideL d A c A' c') := by rw [hW0]; exact heap_alloc2_old w _ _
  have i2 : Is W0 (w.heap.size + 1) 30 #[.string ⟨#[]⟩, .int .i64 0, .slice none 0 0, .slice none 0 0, .bool false] := by rw [hW0]; exact heap_alloc2_new w _ _
  have hB0 : Below w.heap.size w W0 := by rw [hW0]; exact ((Below.refl _ _).alloc (Nat.le_refl _) _).alloc (by simp) _
  go_enter Try.func30, Try.ntmps30
  go_wp2_with fail
  rw [← hW0]
  clear hW0
  have c2 : W0.cell? ⟨w.heap.size, 2, none⟩ = some (.slice A d.N.length c) := i1.cell 2
  have c3 : W0.cell? ⟨w.heap.size, 3, none⟩ = some (.slice A' d.K.length c') := i1.cell 3
  have i1d : Is W0.drew w.heap.size 30 (ideL d A c A' c') := i1
  have i2d : Is W0.drew (w.heap.size + 1) 30 #[.string ⟨#[]⟩, .int .i64 0, .slice none 0 0, .slice none 0 0, .bool false] := i2
  have hB0d : Below w.heap.size w W0.drew := belowN hB0 1
  go_region_with (first
    | (go_at_call 45; refine (CN.out _ hB0d).mono ?_; rintro e W1 ⟨A1, c1, rfl, hr1, hb1⟩; have hB1 : Below w.heap.size w W1 := hB0d.trans (hb1.mono hB0d.size); have j1 := i1d.below hb1 i1d.lt; have j2 := i2d.below hb1 i2d.lt; have d3 : W1.cell? ⟨w.heap.size, 3, none⟩ = some (.slice A' d.K.length c') := j1.cell 3)
    | (go_at_call 46; refine (CK.out _ hB1).mono ?_; rintro e W2 ⟨A2, c4, rfl, hr2, hb2⟩; have hB2 : Below w.heap.size w W2 := hB1.trans (hb2.mono hB1.size); have k1 := j1.below hb2 j1.lt; have k2 := j2.below hb2 j2.lt; have hr1' := hr1.below hb2; have e2 : W2.cell? ⟨w.heap.size, 2, none⟩ = some (.slice A d.N.length c) := k1.cell 2; have e3 : W2.cell? ⟨w.heap.size, 3, none⟩ = some (.slice A' d.K.length c') := k1.cell 3; have f2 := k1.frozen 2; have f3 := k1.frozen 3))
  all_goals
    (have p1 := ((k1.set 2 (.slice A1 d.N.length c1)).set 3 (.slice A2 d.K.length c4))
     have p2 := ((k2.far (p := ⟨w.heap.size, 2, none⟩) (by simp) (.slice A1 d.N.length c1)).far (p := ⟨w.heap.size, 3, none⟩) (by simp) (.slice A2 d.K.length c4))
     have r1 := (hr1'.far (p := ⟨w.heap.size, 2, none⟩) k1 (by decide) (.slice A1 d.N.length c1)).far (p := ⟨w.heap.size, 3, none⟩) (k1.set 2 _) (by decide) (.slice A2 d.K.length c4)
     have r2 := (hr2.far (p := ⟨w.heap.size, 2, none⟩) k1 (by decide) (.slice A1 d.N.length c1)).far (p := ⟨w.heap.size, 3, none⟩) (k1.set 2 _) (by decide) (.slice A2 d.K.length c4)
     have z := (hB2.setCell (p := ⟨w.heap.size, 2, none⟩) (by simp) (.slice A1 d.N.length c1)).setCell (p := ⟨w.heap.size, 3, none⟩) (by simp) (.slice A2 d.K.length c4)
     have m1 : Is ((W2.setCell ⟨w.heap.size, 2, none⟩ (.slice A1 d.N.length c1)).setCell ⟨w.heap.size, 3, none⟩ (.slice A2 d.K.length c4)) w.heap.size 30 (ideL d A1 c1 A2 c4) := p1
     have g1 : w.heap.size ≤ W0.drew.heap.size := hB0d.size
     have g2 : w.heap.size ≤ W1.heap.size := hB1.size
     have R1 := Lib.hid (r1.mono g1)
     have R2 := Lib.hid (r2.mono g2)
     have Z := Lib.hid z
     clear p1 r1 r2 z hr1 hr1' hr2 e2 e3 f2 f3 d3 c2 c3 k1 k2 j1 j2 i1 i2 i1d i2d hb1 hb2 hB1 hB2 hB0d hB0
     go_wp2_with (first | (refine wpList_load_row rfl 30 _ rfl w.heap.size rfl 30 _ (0, 0) _ m1 Try.underlying30 rfl infoIde ?_) | (refine wpList_store_row rfl 30 _ _ rfl (w.heap.size + 1) (ideL d A1 c1 A2 c4) rfl rfl 30 _ p2 infoIde rfl (ideL_one _ _ _ _ _) ?_))
     exact bodyPost_ret (results_cell_row Try.results30 _ _ (w.heap.size + 1) 30 _ (0, 0) _ rfl (p2.row _) Try.underlying30 rfl infoIde) rfl ⟨A1, c1, A2, c4, rfl, R1.out.rowFar p2 (by decide) _, R2.out.rowFar p2 (by decide) _, belowRow Z.out (by simp) _⟩)
end Go.Proofs.Ytdbdoammbnogaaa
