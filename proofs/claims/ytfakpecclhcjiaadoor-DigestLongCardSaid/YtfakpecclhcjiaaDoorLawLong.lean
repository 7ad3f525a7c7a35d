/-
  DigestLong: the walk of the statement's function.
-/
import Derived.Test.YtfakpecclhcjiaaDoorDigK
import Derived.BigRegion
import Derived.RegionTactic
import Derived.Deep.DeepCutAuto
namespace Go.Proofs.YtfakpecclhcjiaaDoor
open Go.RowKit

theorem right_rest' {x : Hs} (hr : rightB x = true) : (x.r.size : Int) = x.m % 64 ∧ 0 ≤ x.m ∧ x.m ≤ 1048576 := by
  simp only [rightB, Bool.and_eq_true, decide_eq_true_eq, beq_iff_eq] at hr
  omega
/-- a text of so many noughts. -/
def zs (z : Nat) : ByteArray := strOfNums (List.replicate z 0)
theorem zs_size (z : Nat) : (zs z).size = z := by simp [zs, strOfNums_size]
def zcells (z : Nat) : Array Value := madeCells (Value.int .u8 0).cells (z * 1)
theorem make_noughts (z : Nat) (hz : z ≤ 100000) (W : World) : (Instr.makeSlice 44 (.int .i64 (z : Int)) (.int .i64 (z : Int))).run Tryd.prog W = .ok (.slice (some ⟨W.heap.size, 0, none⟩) z z) (W.alloc (.cells (zcells z) 5)) := by
  obtain ⟨i0, hi, hz0, hz1, hz2⟩ := info_parts infoByte
  have h := run_make (P := Tryd.prog) W 44 5 i0 (.int .u8 0) Tryd.underlying44 hi hz0 .i64 .i64 (z : Int) (z : Int) (by omega) (by omega) (by rw [hz2]; omega) (by omega)
  rw [hz1] at h
  simpa [zcells] using h
theorem text_is (z g : Nat) (W : World) (hI : Is W g 5 (zcells z)) : (convert 44 9 (.slice (some ⟨g, 0, none⟩) z z)).run Tryd.prog W = .ok (.string (zs z)) W := by
  refine run_convert_bytes_arg (P := Tryd.prog) _ 44 5 Tryd.underlying44 Tryd.underlying5 g 0 z z (List.replicate z 0) (by simp) (fun i hi => ?_) 9 Tryd.underlying9
  rw [Nat.zero_add, hI.cell]
  have e : (zcells z).toList = List.replicate z (.int .u8 0) := by
    show (madeCells #[.int .u8 0] (z * 1)).toList = _
    rw [toList_madeCells_one, Nat.mul_one]
  rw [← Array.getElem?_toList, e, List.getElem?_replicate, if_pos hi, List.getD_eq_getElem?_getD, List.getElem?_replicate, if_pos hi]
  rfl

set_option maxRecDepth 100000 in
set_option maxHeartbeats 8000000 in
theorem long_walk (less more : Int) (h : S8) (w : World) (hT : Tab w) (hl0 : -9223372036854775808 ≤ less) (hl1 : less ≤ 9223372036854775807) (hm0 : -9223372036854775808 ≤ more) (hm1 : more ≤ 9223372036854775807) :
    Calls Tryd.prog 5 #[.int .i64 less, .int .i64 more, .agg h.arr] w fun e w' => e = .returned (.bool true) ∧ Below w.heap.size w w' := by
  have bl := pickN_bd less 130 (by omega)
  have bm := pickN_bd more 200 (by omega)
  obtain ⟨l, el⟩ : ∃ l : Nat, pickN less 130 = (l : Int) := ⟨(pickN less 130).toNat, by omega⟩
  obtain ⟨k, ek⟩ : ∃ k : Nat, pickN more 200 = (k : Int) := ⟨(pickN more 200).toNat, by omega⟩
  have EL := Lib.hid el
  have EK := Lib.hid ek
  have hl : l < 130 := by omega
  have hk : k < 200 := by omega
  clear el ek bl bm
  go_enter Tryd.func5, Tryd.ntmps5
  go_wp2_with fail
  have hB0 : Below w.heap.size w (w.alloc (.cells h.arr 23)) := (Below.refl _ _).alloc (Nat.le_refl _) _
  refine (awake_any _ (hT.below hB0 hT.two)).mono ?_
  rintro e w1 ⟨rfl, hb1⟩
  have iH : Is w1 w.heap.size 23 h.arr := Is.below (heap_alloc_new w _) hb1 (by simp)
  have hB1 : Below w.heap.size w w1 := hB0.trans (hb1.mono (by simp))
  clear hb1 hB0
  go_wp2_with fail
  refine (pick_any less 130 _ hl0 hl1 (by omega) (by omega)).mono ?_
  rintro e w1' ⟨rfl, rfl⟩
  rw [EL.out]
  go_wp2_with fail
  refine (pick_any more 200 _ hm0 hm1 (by omega) (by omega)).mono ?_
  rintro e w1' ⟨rfl, rfl⟩
  rw [EK.out]
  go_wp2
  obtain ⟨n, en⟩ : ∃ n : Nat, 1048576 - (l : Int) = (n : Int) := ⟨1048576 - l, by omega⟩
  have hn0 : 1048446 < n := by omega
  have hn1 : n ≤ 1048576 := by omega
  rw [en]
  clear en EL hl
  obtain ⟨z, ez⟩ : ∃ z : Nat, z = n % 64 := ⟨_, rfl⟩
  have hz : z < 64 := by omega
  have ez1 : (n : Int) % 64 = (z : Int) := by omega
  have ez2 : (n : Int).tmod 64 = (z : Int) := by rw [Int.tmod_eq_emod_of_nonneg (by omega)]; exact ez1
  have EZ := Lib.hid ez
  clear ez
  have c0 : w1.cell? ⟨w.heap.size, 0, none⟩ = some (.int .u32 h.a) := iH.cell 0
  have c1 : w1.cell? ⟨w.heap.size, 1, none⟩ = some (.int .u32 h.b) := iH.cell 1
  have c2 : w1.cell? ⟨w.heap.size, 2, none⟩ = some (.int .u32 h.c) := iH.cell 2
  have c3 : w1.cell? ⟨w.heap.size, 3, none⟩ = some (.int .u32 h.d) := iH.cell 3
  have c4 : w1.cell? ⟨w.heap.size, 4, none⟩ = some (.int .u32 h.e) := iH.cell 4
  have c5 : w1.cell? ⟨w.heap.size, 5, none⟩ = some (.int .u32 h.f) := iH.cell 5
  have c6 : w1.cell? ⟨w.heap.size, 6, none⟩ = some (.int .u32 h.g) := iH.cell 6
  have c7 : w1.cell? ⟨w.heap.size, 7, none⟩ = some (.int .u32 h.h) := iH.cell 7
  have hmk := make_noughts z (by omega)
  have hlt1 : w.heap.size < w1.heap.size := iH.lt
  have htx1 : (convert 44 9 (.slice (some ⟨w1.heap.size, 0, none⟩) z z)).run Tryd.prog (w1.alloc (.cells (zcells z) 5)).drew = .ok (.string (zs z)) (w1.alloc (.cells (zcells z) 5)).drew := text_is z _ _ (Is.new w1.drew _ _)
  have htx2 : (convert 44 9 (.slice (some ⟨w1.heap.size, 0, none⟩) z z)).run Tryd.prog ((w1.alloc (.cells (zcells z) 5)).alloc (.cells #[.int .u32 0, .int .u32 0, .int .u32 0, .int .u32 0, .int .u32 0, .int .u32 0, .int .u32 0, .int .u32 0, .string ⟨#[]⟩, .int .i64 0] 25)).drew = .ok (.string (zs z)) ((w1.alloc (.cells (zcells z) 5)).alloc (.cells #[.int .u32 0, .int .u32 0, .int .u32 0, .int .u32 0, .int .u32 0, .int .u32 0, .int .u32 0, .int .u32 0, .string ⟨#[]⟩, .int .i64 0] 25)).drew := text_is z _ _ ((Is.new w1 _ _).alloc _)
  have htx3 : (convert 44 9 (.slice (some ⟨w1.heap.size + 1, 0, none⟩) z z)).run Tryd.prog ((w1.alloc (.cells #[.int .u32 0, .int .u32 0, .int .u32 0, .int .u32 0, .int .u32 0, .int .u32 0, .int .u32 0, .int .u32 0, .string ⟨#[]⟩, .int .i64 0] 25)).alloc (.cells (zcells z) 5)).drew = .ok (.string (zs z)) ((w1.alloc (.cells #[.int .u32 0, .int .u32 0, .int .u32 0, .int .u32 0, .int .u32 0, .int .u32 0, .int .u32 0, .int .u32 0, .string ⟨#[]⟩, .int .i64 0] 25)).alloc (.cells (zcells z) 5)).drew := text_is z _ _ (heap_alloc2_new w1 _ _)
  go_cut [10] (fun v W => ∃ g, v = .pointer (some ⟨g, 0, none⟩) ∧ Is W g 25 (Hs.mk h (zs z) n).arr ∧ Below w.heap.size w W)
  case first =>
    go_region
    all_goals go_wp2_with fail
    all_goals go_meet
    all_goals (first
      | exact ⟨_, rfl, heap_alloc2_new w1 _ _, belowN ((hB1.alloc hB1.size _).alloc (by have := hB1.size; simp; omega) _) 1⟩
      | exact ⟨_, rfl, heap_alloc2_old w1 _ _, belowN ((hB1.alloc hB1.size _).alloc (by have := hB1.size; simp; omega) _) 1⟩)
  case rest =>
    clear htx1 htx2 htx3 hmk c0 c1 c2 c3 c4 c5 c6 c7 hlt1 ez1 ez2 iH hB1
    obtain ⟨g, rfl, hI, hB⟩ := hcut
    have hlt : g < wc.heap.size := hI.lt
    have hsz := hB.size
    have c0 : wc.cell? ⟨g, 0, none⟩ = some (.int .u32 h.a) := hI.cell 0
    have c1 : wc.cell? ⟨g, 1, none⟩ = some (.int .u32 h.b) := hI.cell 1
    have c2 : wc.cell? ⟨g, 2, none⟩ = some (.int .u32 h.c) := hI.cell 2
    have c3 : wc.cell? ⟨g, 3, none⟩ = some (.int .u32 h.d) := hI.cell 3
    have c4 : wc.cell? ⟨g, 4, none⟩ = some (.int .u32 h.e) := hI.cell 4
    have c5 : wc.cell? ⟨g, 5, none⟩ = some (.int .u32 h.f) := hI.cell 5
    have c6 : wc.cell? ⟨g, 6, none⟩ = some (.int .u32 h.g) := hI.cell 6
    have c7 : wc.cell? ⟨g, 7, none⟩ = some (.int .u32 h.h) := hI.cell 7
    have c8 : wc.cell? ⟨g, 8, none⟩ = some (.string (zs z)) := hI.cell 8
    have c9 : wc.cell? ⟨g, 9, none⟩ = some (.int .i64 n) := hI.cell 9
    have hmk := make_noughts k (by omega)
    have ia : Is (((wc.alloc (.cells #[.int .u32 0, .int .u32 0, .int .u32 0, .int .u32 0, .int .u32 0, .int .u32 0, .int .u32 0, .int .u32 0, .string ⟨#[]⟩, .int .i64 0] 25)).alloc (.cells (zcells k) 5)).drew) wc.heap.size 25 #[.int .u32 0, .int .u32 0, .int .u32 0, .int .u32 0, .int .u32 0, .int .u32 0, .int .u32 0, .int .u32 0, .string ⟨#[]⟩, .int .i64 0] := (Is.new wc _ _).alloc _
    have ib : Is (((wc.alloc (.cells (zcells k) 5)).alloc (.cells #[.int .u32 0, .int .u32 0, .int .u32 0, .int .u32 0, .int .u32 0, .int .u32 0, .int .u32 0, .int .u32 0, .string ⟨#[]⟩, .int .i64 0] 25)).drew) (wc.heap.size + 1) 25 #[.int .u32 0, .int .u32 0, .int .u32 0, .int .u32 0, .int .u32 0, .int .u32 0, .int .u32 0, .int .u32 0, .string ⟨#[]⟩, .int .i64 0] := heap_alloc2_new wc _ _
    have hBa : Below w.heap.size w (((wc.alloc (.cells #[.int .u32 0, .int .u32 0, .int .u32 0, .int .u32 0, .int .u32 0, .int .u32 0, .int .u32 0, .int .u32 0, .string ⟨#[]⟩, .int .i64 0] 25)).alloc (.cells (zcells k) 5)).drew) := belowN ((hB.alloc hB.size _).alloc (by simp; omega) _) 1
    have hBb : Below w.heap.size w (((wc.alloc (.cells (zcells k) 5)).alloc (.cells #[.int .u32 0, .int .u32 0, .int .u32 0, .int .u32 0, .int .u32 0, .int .u32 0, .int .u32 0, .int .u32 0, .string ⟨#[]⟩, .int .i64 0] 25)).drew) := belowN ((hB.alloc hB.size _).alloc (by simp; omega) _) 1
    have hBc : Below w.heap.size w ((wc.alloc (.cells (zcells k) 5)).drew) := belowN (hB.alloc hB.size _) 1
    have hTa := hT.below hBa hT.two
    have hTb := hT.below hBb hT.two
    have hTc := hT.below hBc hT.two
    have htx1 : (convert 44 9 (.slice (some ⟨wc.heap.size, 0, none⟩) k k)).run Tryd.prog ((wc.alloc (.cells (zcells k) 5)).drew) = .ok (.string (zs k)) ((wc.alloc (.cells (zcells k) 5)).drew) := text_is k _ _ (Is.new wc _ _)
    have htx2 : (convert 44 9 (.slice (some ⟨wc.heap.size, 0, none⟩) k k)).run Tryd.prog (((wc.alloc (.cells (zcells k) 5)).alloc (.cells #[.int .u32 0, .int .u32 0, .int .u32 0, .int .u32 0, .int .u32 0, .int .u32 0, .int .u32 0, .int .u32 0, .string ⟨#[]⟩, .int .i64 0] 25)).drew) = .ok (.string (zs k)) (((wc.alloc (.cells (zcells k) 5)).alloc (.cells #[.int .u32 0, .int .u32 0, .int .u32 0, .int .u32 0, .int .u32 0, .int .u32 0, .int .u32 0, .int .u32 0, .string ⟨#[]⟩, .int .i64 0] 25)).drew) := text_is k _ _ ((Is.new wc _ _).alloc _)
    have htx3 : (convert 44 9 (.slice (some ⟨wc.heap.size + 1, 0, none⟩) k k)).run Tryd.prog (((wc.alloc (.cells #[.int .u32 0, .int .u32 0, .int .u32 0, .int .u32 0, .int .u32 0, .int .u32 0, .int .u32 0, .int .u32 0, .string ⟨#[]⟩, .int .i64 0] 25)).alloc (.cells (zcells k) 5)).drew) = .ok (.string (zs k)) (((wc.alloc (.cells #[.int .u32 0, .int .u32 0, .int .u32 0, .int .u32 0, .int .u32 0, .int .u32 0, .int .u32 0, .int .u32 0, .string ⟨#[]⟩, .int .i64 0] 25)).alloc (.cells (zcells k) 5)).drew) := text_is k _ _ (heap_alloc2_new wc _ _)
    have hri : rightB ⟨h, zs z, n⟩ = true := by
      simp only [rightB, zs_size, Bool.and_eq_true, decide_eq_true_eq, beq_iff_eq]
      have := EZ.out
      omega
    have HRI := Lib.hid hri
    clear hri hI
    by_cases hle : n + k ≤ 1048576
    · have hkl : ((zs k).size : Int) ≤ 1048576 - (Hs.mk h (zs z) n).m := by rw [zs_size]; show (k : Int) ≤ 1048576 - (n : Int); omega
      have HKL := Lib.hid hkl
      clear hkl
      go_upto_region 5 with fail
      go_cut [11, 12] (fun v u W => ∃ g, v = .pointer (some ⟨g, 0, none⟩) ∧ u = .int .i64 0 ∧ Is W g 25 (addH ⟨h, zs z, n⟩ (zs k)).arr ∧ Below w.heap.size w W)
      case first =>
        go_region_with (first | (go_at_call 11; refine (add_ok ⟨h, zs z, n⟩ (zs k) _ ?_ HRI.out HKL.out).mono ?_; (first | exact hTa | exact hTb | exact hTc); rintro e w2 ⟨rfl, hb2⟩; generalize hy : addH ⟨h, zs z, n⟩ (zs k) = y; have HY := Lib.hid hy; clear hy; (first | (have hq : Is w2 wc.heap.size 25 #[.int .u32 0, .int .u32 0, .int .u32 0, .int .u32 0, .int .u32 0, .int .u32 0, .int .u32 0, .int .u32 0, .string ⟨#[]⟩, .int .i64 0] := (by with_reducible exact Is.below ia hb2 ia.lt); have hB2 : Below w.heap.size w w2 := hBa.trans (hb2.mono hBa.size); clear hb2; have x0 : w2.cell? ⟨wc.heap.size, 0, none⟩ = some (.int .u32 0) := hq.cell 0; have x1 : w2.cell? ⟨wc.heap.size, 1, none⟩ = some (.int .u32 0) := hq.cell 1; have x2 : w2.cell? ⟨wc.heap.size, 2, none⟩ = some (.int .u32 0) := hq.cell 2; have x3 : w2.cell? ⟨wc.heap.size, 3, none⟩ = some (.int .u32 0) := hq.cell 3; have x4 : w2.cell? ⟨wc.heap.size, 4, none⟩ = some (.int .u32 0) := hq.cell 4; have x5 : w2.cell? ⟨wc.heap.size, 5, none⟩ = some (.int .u32 0) := hq.cell 5; have x6 : w2.cell? ⟨wc.heap.size, 6, none⟩ = some (.int .u32 0) := hq.cell 6; have x7 : w2.cell? ⟨wc.heap.size, 7, none⟩ = some (.int .u32 0) := hq.cell 7; have x8 : w2.cell? ⟨wc.heap.size, 8, none⟩ = some (.string ⟨#[]⟩) := hq.cell 8; have x9 : w2.cell? ⟨wc.heap.size, 9, none⟩ = some (.int .i64 0) := hq.cell 9; have y0 := hq.frozen 0; have y1 := hq.frozen 1; have y2 := hq.frozen 2; have y3 := hq.frozen 3; have y4 := hq.frozen 4; have y5 := hq.frozen 5; have y6 := hq.frozen 6; have y7 := hq.frozen 7; have y8 := hq.frozen 8; have y9 := hq.frozen 9) | (have hq : Is w2 (wc.heap.size + 1) 25 #[.int .u32 0, .int .u32 0, .int .u32 0, .int .u32 0, .int .u32 0, .int .u32 0, .int .u32 0, .int .u32 0, .string ⟨#[]⟩, .int .i64 0] := (by with_reducible exact Is.below ib hb2 ib.lt); have hB2 : Below w.heap.size w w2 := hBb.trans (hb2.mono hBb.size); clear hb2; have x0 : w2.cell? ⟨wc.heap.size + 1, 0, none⟩ = some (.int .u32 0) := hq.cell 0; have x1 : w2.cell? ⟨wc.heap.size + 1, 1, none⟩ = some (.int .u32 0) := hq.cell 1; have x2 : w2.cell? ⟨wc.heap.size + 1, 2, none⟩ = some (.int .u32 0) := hq.cell 2; have x3 : w2.cell? ⟨wc.heap.size + 1, 3, none⟩ = some (.int .u32 0) := hq.cell 3; have x4 : w2.cell? ⟨wc.heap.size + 1, 4, none⟩ = some (.int .u32 0) := hq.cell 4; have x5 : w2.cell? ⟨wc.heap.size + 1, 5, none⟩ = some (.int .u32 0) := hq.cell 5; have x6 : w2.cell? ⟨wc.heap.size + 1, 6, none⟩ = some (.int .u32 0) := hq.cell 6; have x7 : w2.cell? ⟨wc.heap.size + 1, 7, none⟩ = some (.int .u32 0) := hq.cell 7; have x8 : w2.cell? ⟨wc.heap.size + 1, 8, none⟩ = some (.string ⟨#[]⟩) := hq.cell 8; have x9 : w2.cell? ⟨wc.heap.size + 1, 9, none⟩ = some (.int .i64 0) := hq.cell 9; have y0 := hq.frozen 0; have y1 := hq.frozen 1; have y2 := hq.frozen 2; have y3 := hq.frozen 3; have y4 := hq.frozen 4; have y5 := hq.frozen 5; have y6 := hq.frozen 6; have y7 := hq.frozen 7; have y8 := hq.frozen 8; have y9 := hq.frozen 9) | (have hB2 : Below w.heap.size w w2 := hBc.trans (hb2.mono hBc.size); clear hb2))))
        all_goals go_wp2_with fail
        all_goals go_meet
        all_goals (first
          | (refine ⟨_, rfl, rfl, ?_, ?_⟩; (rw [HY.out]; with_reducible exact Is.new w2 _ _); (exact hB2.alloc hB2.size _))
          | (refine ⟨_, rfl, rfl, ?_, ?_⟩; (rw [HY.out]; exact Is.setH (x := HsZ) hq y); (exact belowH hB2 (by omega) y)))
      case rest =>
        clear hmk ia ib hBa hBb hBc hTa hTb hTc htx1 htx2 htx3 c0 c1 c2 c3 c4 c5 c6 c7 c8 c9 hB hsz hlt
        obtain ⟨g, rfl, rfl, hI, hB⟩ := hcut
        have hry := right_add HRI.out HKL.out
        have hym : (addH ⟨h, zs z, n⟩ (zs k)).m = (n : Int) + (k : Int) := by show (n : Int) + ((zs k).size : Int) = _; rw [zs_size]
        generalize addH ⟨h, zs z, n⟩ (zs k) = y at *
        have hyr := (right_rest' hry).1
        rw [hym] at hyr
        have c9 : wc.cell? ⟨g, 9, none⟩ = some (.int .i64 ((n : Int) + (k : Int))) := by rw [← hym]; exact hI.cell 9
        have HRY := Lib.hid hry
        have HYR := Lib.hid hyr
        have HYM := Lib.hid hym
        clear hry hyr hym
        have c0 : wc.cell? ⟨g, 0, none⟩ = some (.int .u32 y.h.a) := hI.cell 0
        have c1 : wc.cell? ⟨g, 1, none⟩ = some (.int .u32 y.h.b) := hI.cell 1
        have c2 : wc.cell? ⟨g, 2, none⟩ = some (.int .u32 y.h.c) := hI.cell 2
        have c3 : wc.cell? ⟨g, 3, none⟩ = some (.int .u32 y.h.d) := hI.cell 3
        have c4 : wc.cell? ⟨g, 4, none⟩ = some (.int .u32 y.h.e) := hI.cell 4
        have c5 : wc.cell? ⟨g, 5, none⟩ = some (.int .u32 y.h.f) := hI.cell 5
        have c6 : wc.cell? ⟨g, 6, none⟩ = some (.int .u32 y.h.g) := hI.cell 6
        have c7 : wc.cell? ⟨g, 7, none⟩ = some (.int .u32 y.h.h) := hI.cell 7
        have c8 : wc.cell? ⟨g, 8, none⟩ = some (.string y.r) := hI.cell 8
        have hT2 := hT.below hB hT.two
        have hye : y = ⟨y.h, y.r, (n : Int) + (k : Int)⟩ := by rw [← HYM.out]
        have HYE := Lib.hid hye
        clear hye
        go_wp2_with fail
        refine (end_ok ⟨y.h, y.r, (n : Int) + (k : Int)⟩ _ hT2 (by rw [← HYE.out]; exact HRY.out)).mono ?_
        rintro e w3 ⟨rfl, hb3⟩
        have hes := endS_size ⟨y.h, y.r, (n : Int) + (k : Int)⟩
        generalize endS ⟨y.h, y.r, (n : Int) + (k : Int)⟩ = es at *
        have q1 : ((es.size : Int) == 32) = true := by rw [hes]; rfl
        clear hes
        have hI3 : Is w3 g 25 y.arr := hI.below hb3 hI.lt
        have hB3 : Below w.heap.size w w3 := hB.trans (hb3.mono hB.size)
        have d9 : w3.cell? ⟨g, 9, none⟩ = some (.int .i64 ((n : Int) + (k : Int))) := by rw [← HYM.out]; exact hI3.cell 9
        have d8 : w3.cell? ⟨g, 8, none⟩ = some (.string y.r) := hI3.cell 8
        have q2 : ((y.r.size : Int) == ((n : Int) + (k : Int)) % 64) = true := by rw [HYR.out]; simp
        clear hb3 c0 c1 c2 c3 c4 c5 c6 c7 c8 c9 hI hB hT2
        go_wp2
        go_ret
        exact ⟨rfl, hB3⟩
    · have hkl : 1048576 - (Hs.mk h (zs z) n).m < ((zs k).size : Int) := by rw [zs_size]; show 1048576 - (n : Int) < (k : Int); omega
      have HKL := Lib.hid hkl
      clear hkl
      go_upto_region 5 with fail
      go_cut [11, 12] (fun v u W => ∃ g, v = .pointer (some ⟨g, 0, none⟩) ∧ u = .int .i64 2 ∧ Is W g 25 HsZ.arr ∧ Below w.heap.size w W)
      case first =>
        go_region_with (first | (go_at_call 11; refine (add_long ⟨h, zs z, n⟩ (zs k) _ HRI.out HKL.out).mono ?_; rintro e w2 ⟨rfl, hb2⟩; generalize hy : HsZ = y; have HY := Lib.hid hy; clear hy; (first | (have hq : Is w2 wc.heap.size 25 #[.int .u32 0, .int .u32 0, .int .u32 0, .int .u32 0, .int .u32 0, .int .u32 0, .int .u32 0, .int .u32 0, .string ⟨#[]⟩, .int .i64 0] := (by with_reducible exact Is.below ia hb2 ia.lt); have hB2 : Below w.heap.size w w2 := hBa.trans (hb2.mono hBa.size); clear hb2; have x0 : w2.cell? ⟨wc.heap.size, 0, none⟩ = some (.int .u32 0) := hq.cell 0; have x1 : w2.cell? ⟨wc.heap.size, 1, none⟩ = some (.int .u32 0) := hq.cell 1; have x2 : w2.cell? ⟨wc.heap.size, 2, none⟩ = some (.int .u32 0) := hq.cell 2; have x3 : w2.cell? ⟨wc.heap.size, 3, none⟩ = some (.int .u32 0) := hq.cell 3; have x4 : w2.cell? ⟨wc.heap.size, 4, none⟩ = some (.int .u32 0) := hq.cell 4; have x5 : w2.cell? ⟨wc.heap.size, 5, none⟩ = some (.int .u32 0) := hq.cell 5; have x6 : w2.cell? ⟨wc.heap.size, 6, none⟩ = some (.int .u32 0) := hq.cell 6; have x7 : w2.cell? ⟨wc.heap.size, 7, none⟩ = some (.int .u32 0) := hq.cell 7; have x8 : w2.cell? ⟨wc.heap.size, 8, none⟩ = some (.string ⟨#[]⟩) := hq.cell 8; have x9 : w2.cell? ⟨wc.heap.size, 9, none⟩ = some (.int .i64 0) := hq.cell 9; have y0 := hq.frozen 0; have y1 := hq.frozen 1; have y2 := hq.frozen 2; have y3 := hq.frozen 3; have y4 := hq.frozen 4; have y5 := hq.frozen 5; have y6 := hq.frozen 6; have y7 := hq.frozen 7; have y8 := hq.frozen 8; have y9 := hq.frozen 9) | (have hq : Is w2 (wc.heap.size + 1) 25 #[.int .u32 0, .int .u32 0, .int .u32 0, .int .u32 0, .int .u32 0, .int .u32 0, .int .u32 0, .int .u32 0, .string ⟨#[]⟩, .int .i64 0] := (by with_reducible exact Is.below ib hb2 ib.lt); have hB2 : Below w.heap.size w w2 := hBb.trans (hb2.mono hBb.size); clear hb2; have x0 : w2.cell? ⟨wc.heap.size + 1, 0, none⟩ = some (.int .u32 0) := hq.cell 0; have x1 : w2.cell? ⟨wc.heap.size + 1, 1, none⟩ = some (.int .u32 0) := hq.cell 1; have x2 : w2.cell? ⟨wc.heap.size + 1, 2, none⟩ = some (.int .u32 0) := hq.cell 2; have x3 : w2.cell? ⟨wc.heap.size + 1, 3, none⟩ = some (.int .u32 0) := hq.cell 3; have x4 : w2.cell? ⟨wc.heap.size + 1, 4, none⟩ = some (.int .u32 0) := hq.cell 4; have x5 : w2.cell? ⟨wc.heap.size + 1, 5, none⟩ = some (.int .u32 0) := hq.cell 5; have x6 : w2.cell? ⟨wc.heap.size + 1, 6, none⟩ = some (.int .u32 0) := hq.cell 6; have x7 : w2.cell? ⟨wc.heap.size + 1, 7, none⟩ = some (.int .u32 0) := hq.cell 7; have x8 : w2.cell? ⟨wc.heap.size + 1, 8, none⟩ = some (.string ⟨#[]⟩) := hq.cell 8; have x9 : w2.cell? ⟨wc.heap.size + 1, 9, none⟩ = some (.int .i64 0) := hq.cell 9; have y0 := hq.frozen 0; have y1 := hq.frozen 1; have y2 := hq.frozen 2; have y3 := hq.frozen 3; have y4 := hq.frozen 4; have y5 := hq.frozen 5; have y6 := hq.frozen 6; have y7 := hq.frozen 7; have y8 := hq.frozen 8; have y9 := hq.frozen 9) | (have hB2 : Below w.heap.size w w2 := hBc.trans (hb2.mono hBc.size); clear hb2))))
        all_goals go_wp2_with fail
        all_goals go_meet
        all_goals (first
          | (refine ⟨_, rfl, rfl, ?_, ?_⟩; (rw [HY.out]; with_reducible exact Is.new w2 _ _); (exact hB2.alloc hB2.size _))
          | (refine ⟨_, rfl, rfl, ?_, ?_⟩; (rw [HY.out]; exact Is.setH (x := HsZ) hq y); (exact belowH hB2 (by omega) y)))
      case rest =>
        clear hmk ia ib hBa hBb hBc hTa hTb hTc htx1 htx2 htx3 c0 c1 c2 c3 c4 c5 c6 c7 c8 c9 hB hsz hlt
        obtain ⟨g, rfl, rfl, hI, hB⟩ := hcut
        have c8 : wc.cell? ⟨g, 8, none⟩ = some (.string ⟨#[]⟩) := hI.cell 8
        have c9 : wc.cell? ⟨g, 9, none⟩ = some (.int .i64 0) := hI.cell 9
        go_wp2
        go_ret
        exact ⟨rfl, hB⟩
end Go.Proofs.YtfakpecclhcjiaaDoor
