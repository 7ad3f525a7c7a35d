/-
  Contracts of the document's own answer for layer 1: New, Right.
-/
import Derived.Test.YtcpkkicpkmjagaaDoorRefC
import Derived.Test.YtcpkkicpkmjagaaDoorDigY
namespace Go.Proofs.YtcpkkicpkmjagaaDoor
open Go.RowKit

set_option maxRecDepth 100000 in
set_option maxHeartbeats 1000000 in
theorem rright_any (x : Hs) (w : World) :
    Calls Tryd.prog 22 #[.agg x.arr] w fun e w' => e = .returned (.bool (rightB x)) ∧ Below w.heap.size w w' := by
  by_cases h0 : 0 ≤ x.m
  · by_cases h1 : x.m ≤ 1048576
    · have hb : rightB x = ((x.r.size : Int) == x.m % 64) := by simp [rightB, h0, h1]
      rw [hb]
      clear hb
      go_enter Tryd.func22, Tryd.ntmps22
      go_wp2
      go_ret
      exact ⟨rfl, (Below.refl _ _).alloc (Nat.le_refl _) _⟩
    · have hb : rightB x = false := by simp [rightB, h1]
      rw [hb]
      clear hb
      have hd : decide (x.m ≤ 1048576) = false := by simpa using h1
      go_enter Tryd.func22, Tryd.ntmps22
      go_wp2
      go_ret
      exact ⟨rfl, (Below.refl _ _).alloc (Nat.le_refl _) _⟩
  · have hb : rightB x = false := by simp [rightB, h0]
    rw [hb]
    clear hb
    have hd : decide (0 ≤ x.m) = false := by simpa using h0
    go_enter Tryd.func22, Tryd.ntmps22
    go_wp2
    go_ret
    exact ⟨rfl, (Below.refl _ _).alloc (Nat.le_refl _) _⟩

set_option maxRecDepth 100000 in
set_option maxHeartbeats 1000000 in
theorem rnew_any (w : World) :
    Calls Tryd.prog 16 #[] w fun e w' => e = .returned (.agg Hs0.arr) ∧ Below w.heap.size w w' := by
  obtain ⟨x, hx⟩ : ∃ x, x = Hs0 := ⟨_, rfl⟩
  have hxH : x.h = H0 := by rw [hx]; rfl
  have hxr : x.r = ⟨#[]⟩ := by rw [hx]; rfl
  have hxm : x.m = 0 := by rw [hx]; rfl
  rw [← hx]
  obtain ⟨g, r, m⟩ := x
  simp only at hxH hxr hxm
  subst hxr hxm
  have HX := Lib.hid hxH
  clear hx hxH
  go_enter Tryd.func16, Tryd.ntmps16
  go_wp2_with fail
  refine (rfirst_any _).mono ?_
  rw [← HX.out]
  rintro e w1 ⟨rfl, hb1⟩
  have iZ : Is w1 w.heap.size 25 HsZ.arr := Is.below (heap_alloc_new w _) hb1 (by simp)
  have hB1 : Below w.heap.size w w1 := ((Below.refl _ _).alloc (Nat.le_refl _) _).trans (hb1.mono (by simp))
  clear hb1
  have z0 : w1.cell? ⟨w.heap.size, 0, none⟩ = some (.int .u32 0) := iZ.cell 0
  have z1 : w1.cell? ⟨w.heap.size, 1, none⟩ = some (.int .u32 0) := iZ.cell 1
  have z2 : w1.cell? ⟨w.heap.size, 2, none⟩ = some (.int .u32 0) := iZ.cell 2
  have z3 : w1.cell? ⟨w.heap.size, 3, none⟩ = some (.int .u32 0) := iZ.cell 3
  have z4 : w1.cell? ⟨w.heap.size, 4, none⟩ = some (.int .u32 0) := iZ.cell 4
  have z5 : w1.cell? ⟨w.heap.size, 5, none⟩ = some (.int .u32 0) := iZ.cell 5
  have z6 : w1.cell? ⟨w.heap.size, 6, none⟩ = some (.int .u32 0) := iZ.cell 6
  have z7 : w1.cell? ⟨w.heap.size, 7, none⟩ = some (.int .u32 0) := iZ.cell 7
  have z8 : w1.cell? ⟨w.heap.size, 8, none⟩ = some (.string ⟨#[]⟩) := iZ.cell 8
  have z9 : w1.cell? ⟨w.heap.size, 9, none⟩ = some (.int .i64 0) := iZ.cell 9
  have y8 := iZ.frozen 8
  have y9 := iZ.frozen 9
  have y0 := iZ.frozen 0
  have y1 := iZ.frozen 1
  have y2 := iZ.frozen 2
  have y3 := iZ.frozen 3
  have y4 := iZ.frozen 4
  have y5 := iZ.frozen 5
  have y6 := iZ.frozen 6
  have y7 := iZ.frozen 7
  go_wp2
  have hr : Is (setH w1 w.heap.size ⟨g, ⟨#[]⟩, 0⟩) w.heap.size 25 (Hs.mk g ⟨#[]⟩ 0).arr := iZ.setH _
  have hBr : Below w.heap.size w (setH w1 w.heap.size ⟨g, ⟨#[]⟩, 0⟩) := belowH hB1 (Nat.le_refl _) _
  change bodyPost _ _ _ _ _ (setH w1 w.heap.size ⟨g, ⟨#[]⟩, 0⟩)
  generalize setH w1 w.heap.size ⟨g, ⟨#[]⟩, 0⟩ = WR at *
  exact bodyPost_ret (results_cell_row Tryd.results16 _ _ w.heap.size 25 (Hs.mk g ⟨#[]⟩ 0).arr (0, 0) _ rfl hr Tryd.underlying25 rfl (by kernel_rfl)) rfl ⟨rfl, hBr⟩
end Go.Proofs.YtcpkkicpkmjagaaDoor
