/-
  TapeNumbers: the walk of the statement's function.
-/
import Derived.Test.YtchgkiallbpjkaaTapX
namespace Go.Proofs.Ytchgkiallbpjkaa
open Go.RowKit Go.Shelf

theorem num_fine {B : ByteArray} {a n : Int} (h : rightV B a = true) (h1 : 1 ≤ n) (h2 : n ≤ 65536) (hl : ¬ (B.size : Int) - a < 2) :
    numR B a n = .tuple #[.int .i64 ((twoN B a.toNat : Int) % n), .agg #[.string B, .int .i64 (a + 2)], .int .i64 0] := by
  have hE : numE B a n = 0 := by rw [numE, h, if_pos (by simp [h1, h2]), leftV, if_pos h, if_neg hl]
  rw [numR, numV, numA, hE]
  rfl
theorem num_less {B : ByteArray} {a n : Int} (h : rightV B a = true) (h1 : 1 ≤ n) (h2 : n ≤ 65536) (hl : (B.size : Int) - a < 2) :
    numR B a n = .tuple #[.int .i64 0, .agg #[.string B, .int .i64 a], .int .i64 12] := by
  have hE : numE B a n = 12 := by rw [numE, h, if_pos (by simp [h1, h2]), leftV, if_pos h, if_pos hl]
  rw [numR, numV, numA, hE]
  rfl

set_option maxRecDepth 100000 in
set_option maxHeartbeats 4000000 in
theorem tnumbers_walk (s : ByteArray) (at_ n : Int) (w : World) (_hs : s.size ≤ maxLen) (ha : -9223372036854775808 ≤ at_ ∧ at_ ≤ 9223372036854775807) (hn : -9223372036854775808 ≤ n ∧ n ≤ 9223372036854775807) :
    Calls Try.prog 6 #[.string s, .int .i64 at_, .int .i64 n] w fun e w' => e = .returned (.bool true) ∧ Below w.heap.size w w' := by
  have M1 := Lib.hid (fun w => tape7_any s at_ w ha)
  have hr := at7_right s at_
  have hat := at7_bd s at_
  have hcs := cut7_size s
  generalize at7 s at_ = t0 at *
  generalize cut7 s = C at *
  obtain ⟨lf, hlf⟩ : ∃ lf : Int, lf = (C.size : Int) - t0 := ⟨_, rfl⟩
  have M6 := Lib.hid (fun w => tleft_any C t0 w)
  rw [leftV, if_pos hr, ← hlf] at M6
  have hp := pickN_bd n 65536 (by omega)
  have M2 := Lib.hid (fun w => pick7_any n 65536 w hn.1 hn.2 (by omega) (by omega))
  generalize pickN n 65536 = p at *
  have w1 := IntWalk.i64_in (1 + p) (by omega)
  have hk0 : 1 + p ≠ 0 := by omega
  have M3 := Lib.hid (fun w => tnum_any C t0 (1 + p) w)
  have M4 := Lib.hid (fun w => tnum_any C t0 65536 w)
  have M5 := Lib.hid (fun w => tnum_any C t0 1 w)
  by_cases hl : (C.size : Int) - t0 < 2
  · rw [num_less hr (by omega) (by omega) hl] at M3
    rw [num_less hr (by omega) (by omega) hl] at M4
    rw [num_less hr (by omega) (by omega) hl] at M5
    have hlt : lf < 2 := by omega
    clear hr hat hcs hlf hp hl ha hn
    go_enter Try.func6, Try.ntmps6
    go_wp2_with fail
    have hB0 : Below w.heap.size w w := Below.refl _ _
    refine (awake7_any _).mono ?_
    rintro e W1 ⟨rfl, hb⟩
    have hB1 := hB0.trans (hb.mono hB0.size)
    clear hb hB0 
    go_wp2_with fail
    refine (M1.out _).mono ?_
    rintro e W2 ⟨rfl, hb⟩
    have hB2 := hB1.trans (hb.mono hB1.size)
    clear hb hB1 
    go_wp2_with fail
    obtain ⟨W3, hW3⟩ : ∃ W, W = W2.alloc (.cells #[.string C, .int .i64 (t0)] 23) := ⟨_, rfl⟩
    obtain ⟨DA, hDA⟩ : ∃ D, D = W2.heap.size := ⟨_, rfl⟩
    have iA_3 : Is W3 DA 23 #[.string C, .int .i64 (t0)] := by rw [hW3, hDA]; exact Is.new _ _ _
    have hB3 : Below w.heap.size w W3 := by rw [hW3]; exact hB2.alloc hB2.size _
    have HS3 := Lib.hid (show W3.heap.size = W2.heap.size + 1 by rw [hW3]; exact World.size_alloc _ _)
    rw [← hW3]
    try rw [← hDA]
    clear hB2  hW3
    have HDA := Lib.hid hDA
    clear hDA
    refine (M2.out _).mono ?_
    rintro e w' ⟨rfl, rfl⟩
    have cA0 : W3.cell? ⟨DA, 0, none⟩ = some (.string C) := iA_3.cell 0
    have cA1 : W3.cell? ⟨DA, 1, none⟩ = some (.int .i64 (t0)) := iA_3.cell 1
    go_wp2_with fail
    clear cA0 cA1
    refine (M3.out _).mono ?_
    rintro e W4 ⟨rfl, hb⟩
    have iA_4 := iA_3.below hb iA_3.lt
    have hB4 := hB3.trans (hb.mono hB3.size)
    clear hb hB3 iA_3
    have cA0 : (W4.alloc (.cells #[.string C, .int .i64 (t0)] 23)).cell? ⟨DA, 0, none⟩ = some (.string C) := (iA_4.alloc _).cell 0
    have cA1 : (W4.alloc (.cells #[.string C, .int .i64 (t0)] 23)).cell? ⟨DA, 1, none⟩ = some (.int .i64 (t0)) := (iA_4.alloc _).cell 1
    go_wp2_with fail
    clear cA0 cA1
    obtain ⟨W5, hW5⟩ : ∃ W, W = W4.alloc (.cells #[.string C, .int .i64 (t0)] 23) := ⟨_, rfl⟩
    have iA_5 : Is W5 DA 23 #[.string C, .int .i64 (t0)] := by rw [hW5]; exact iA_4.alloc _
    obtain ⟨DU, hDU⟩ : ∃ D, D = W4.heap.size := ⟨_, rfl⟩
    have iU_5 : Is W5 DU 23 #[.string C, .int .i64 (t0)] := by rw [hW5, hDU]; exact Is.new _ _ _
    have hB5 : Below w.heap.size w W5 := by rw [hW5]; exact hB4.alloc hB4.size _
    have HS5 := Lib.hid (show W5.heap.size = W4.heap.size + 1 by rw [hW5]; exact World.size_alloc _ _)
    rw [← hW5]
    try rw [← hDU]
    clear hB4 iA_4 hW5
    have HDU := Lib.hid hDU
    clear hDU
    refine (M4.out _).mono ?_
    rintro e W6 ⟨rfl, hb⟩
    have iA_6 := iA_5.below hb iA_5.lt
    have iU_6 := iU_5.below hb iU_5.lt
    have hB6 := hB5.trans (hb.mono hB5.size)
    clear hb hB5 iA_5 iU_5
    have cA0 : (W6.alloc (.cells #[.string C, .int .i64 (t0)] 23)).cell? ⟨DA, 0, none⟩ = some (.string C) := (iA_6.alloc _).cell 0
    have cA1 : (W6.alloc (.cells #[.string C, .int .i64 (t0)] 23)).cell? ⟨DA, 1, none⟩ = some (.int .i64 (t0)) := (iA_6.alloc _).cell 1
    go_wp2_with fail
    clear cA0 cA1
    obtain ⟨W7, hW7⟩ : ∃ W, W = W6.alloc (.cells #[.string C, .int .i64 (t0)] 23) := ⟨_, rfl⟩
    have iA_7 : Is W7 DA 23 #[.string C, .int .i64 (t0)] := by rw [hW7]; exact iA_6.alloc _
    have iU_7 : Is W7 DU 23 #[.string C, .int .i64 (t0)] := by rw [hW7]; exact iU_6.alloc _
    obtain ⟨DV, hDV⟩ : ∃ D, D = W6.heap.size := ⟨_, rfl⟩
    have iV_7 : Is W7 DV 23 #[.string C, .int .i64 (t0)] := by rw [hW7, hDV]; exact Is.new _ _ _
    have hB7 : Below w.heap.size w W7 := by rw [hW7]; exact hB6.alloc hB6.size _
    have HS7 := Lib.hid (show W7.heap.size = W6.heap.size + 1 by rw [hW7]; exact World.size_alloc _ _)
    rw [← hW7]
    try rw [← hDV]
    clear hB6 iA_6 iU_6 hW7
    have HDV := Lib.hid hDV
    clear hDV
    refine (M5.out _).mono ?_
    rintro e W8 ⟨rfl, hb⟩
    have iA_8 := iA_7.below hb iA_7.lt
    have iU_8 := iU_7.below hb iU_7.lt
    have iV_8 := iV_7.below hb iV_7.lt
    have hB8 := hB7.trans (hb.mono hB7.size)
    clear hb hB7 iA_7 iU_7 iV_7
    have cA0 : (W8.alloc (.cells #[.string C, .int .i64 (t0)] 23)).cell? ⟨DA, 0, none⟩ = some (.string C) := (iA_8.alloc _).cell 0
    have cA1 : (W8.alloc (.cells #[.string C, .int .i64 (t0)] 23)).cell? ⟨DA, 1, none⟩ = some (.int .i64 (t0)) := (iA_8.alloc _).cell 1
    go_wp2_with fail
    clear cA0 cA1
    obtain ⟨W9, hW9⟩ : ∃ W, W = W8.alloc (.cells #[.string C, .int .i64 (t0)] 23) := ⟨_, rfl⟩
    have iA_9 : Is W9 DA 23 #[.string C, .int .i64 (t0)] := by rw [hW9]; exact iA_8.alloc _
    have iU_9 : Is W9 DU 23 #[.string C, .int .i64 (t0)] := by rw [hW9]; exact iU_8.alloc _
    have iV_9 : Is W9 DV 23 #[.string C, .int .i64 (t0)] := by rw [hW9]; exact iV_8.alloc _
    obtain ⟨DW, hDW⟩ : ∃ D, D = W8.heap.size := ⟨_, rfl⟩
    have iW_9 : Is W9 DW 23 #[.string C, .int .i64 (t0)] := by rw [hW9, hDW]; exact Is.new _ _ _
    have hB9 : Below w.heap.size w W9 := by rw [hW9]; exact hB8.alloc hB8.size _
    have HS9 := Lib.hid (show W9.heap.size = W8.heap.size + 1 by rw [hW9]; exact World.size_alloc _ _)
    rw [← hW9]
    try rw [← hDW]
    clear hB8 iA_8 iU_8 iV_8 hW9
    have HDW := Lib.hid hDW
    clear hDW
    refine (M6.out _).mono ?_
    rintro e W10 ⟨rfl, hb⟩
    have iA_10 := iA_9.below hb iA_9.lt
    have iU_10 := iU_9.below hb iU_9.lt
    have iV_10 := iV_9.below hb iV_9.lt
    have iW_10 := iW_9.below hb iW_9.lt
    have hB10 := hB9.trans (hb.mono hB9.size)
    clear hb hB9 iA_9 iU_9 iV_9 iW_9
    have cA0 : W10.cell? ⟨DA, 0, none⟩ = some (.string C) := iA_10.cell 0
    have cA1 : W10.cell? ⟨DA, 1, none⟩ = some (.int .i64 (t0)) := iA_10.cell 1
    have cU0 : W10.cell? ⟨DU, 0, none⟩ = some (.string C) := iU_10.cell 0
    have cU1 : W10.cell? ⟨DU, 1, none⟩ = some (.int .i64 (t0)) := iU_10.cell 1
    have cV0 : W10.cell? ⟨DV, 0, none⟩ = some (.string C) := iV_10.cell 0
    have cV1 : W10.cell? ⟨DV, 1, none⟩ = some (.int .i64 (t0)) := iV_10.cell 1
    have cW0 : W10.cell? ⟨DW, 0, none⟩ = some (.string C) := iW_10.cell 0
    have cW1 : W10.cell? ⟨DW, 1, none⟩ = some (.int .i64 (t0)) := iW_10.cell 1
    go_wp2
    go_ret
    exact ⟨rfl, hB10⟩
  · rw [num_fine hr (by omega) (by omega) hl] at M3
    rw [num_fine hr (by omega) (by omega) hl] at M4
    rw [num_fine hr (by omega) (by omega) hl] at M5
    have M7 := Lib.hid (fun w => ttake_any C t0 2 w)
    rw [take_fine hr (by omega) (by omega)] at M7
    have hlt : ¬ lf < 2 := by omega
    have hX : (C.extract t0.toNat (t0 + 2).toNat).size = 2 := by rw [ByteArray.size_extract]; omega
    have l0 : 0 < (C.extract t0.toNat (t0 + 2).toNat).size := by omega
    have l1 : 1 < (C.extract t0.toNat (t0 + 2).toNat).size := by omega
    have g0 := bt7_get l0
    have g1 := bt7_get l1
    have b0 := bt7_lt C t0.toNat
    have b1 := bt7_lt C (t0.toNat + 1)
    rw [bt7_extract C t0.toNat (t0 + 2).toNat 0 (by omega) (by omega)] at g0
    rw [bt7_extract C t0.toNat (t0 + 2).toNat 1 (by omega) (by omega)] at g1
    rw [Nat.add_zero] at g0
    have hT : (twoN C t0.toNat : Int) = 256 * (bt7 C t0.toNat : Int) + (bt7 C (t0.toNat + 1) : Int) := by rw [twoN]; omega
    rw [hT] at M3 M4 M5
    generalize C.extract t0.toNat (t0 + 2).toNat = X at *
    generalize bt7 C t0.toNat = y at *
    generalize bt7 C (t0.toNat + 1) = z at *
    rw [show (256 * (y : Int) + (z : Int)) % 65536 = 256 * (y : Int) + (z : Int) by omega] at M4
    rw [show (256 * (y : Int) + (z : Int)) % 1 = 0 by omega] at M5
    have wy := IntWalk.i64_in (y : Int) (by omega)
    have wz := IntWalk.i64_in (z : Int) (by omega)
    have wq := IntWalk.i64_in (256 * (y : Int)) (by omega)
    have ws := IntWalk.i64_in (256 * (y : Int) + (z : Int)) (by omega)
    have hmd : (256 * (y : Int) + (z : Int)).tmod (1 + p) = (256 * (y : Int) + (z : Int)) % (1 + p) := Int.tmod_eq_emod_of_nonneg (by omega)
    clear hr hat hcs hlf hp hl ha hn hT b0 b1
    go_enter Try.func6, Try.ntmps6
    go_wp2_with fail
    have hB0 : Below w.heap.size w w := Below.refl _ _
    refine (awake7_any _).mono ?_
    rintro e W1 ⟨rfl, hb⟩
    have hB1 := hB0.trans (hb.mono hB0.size)
    clear hb hB0 
    go_wp2_with fail
    refine (M1.out _).mono ?_
    rintro e W2 ⟨rfl, hb⟩
    have hB2 := hB1.trans (hb.mono hB1.size)
    clear hb hB1 
    go_wp2_with fail
    obtain ⟨W3, hW3⟩ : ∃ W, W = W2.alloc (.cells #[.string C, .int .i64 (t0)] 23) := ⟨_, rfl⟩
    obtain ⟨DA, hDA⟩ : ∃ D, D = W2.heap.size := ⟨_, rfl⟩
    have iA_3 : Is W3 DA 23 #[.string C, .int .i64 (t0)] := by rw [hW3, hDA]; exact Is.new _ _ _
    have hB3 : Below w.heap.size w W3 := by rw [hW3]; exact hB2.alloc hB2.size _
    have HS3 := Lib.hid (show W3.heap.size = W2.heap.size + 1 by rw [hW3]; exact World.size_alloc _ _)
    rw [← hW3]
    try rw [← hDA]
    clear hB2  hW3
    have HDA := Lib.hid hDA
    clear hDA
    refine (M2.out _).mono ?_
    rintro e w' ⟨rfl, rfl⟩
    have cA0 : W3.cell? ⟨DA, 0, none⟩ = some (.string C) := iA_3.cell 0
    have cA1 : W3.cell? ⟨DA, 1, none⟩ = some (.int .i64 (t0)) := iA_3.cell 1
    go_wp2_with fail
    clear cA0 cA1
    refine (M3.out _).mono ?_
    rintro e W4 ⟨rfl, hb⟩
    have iA_4 := iA_3.below hb iA_3.lt
    have hB4 := hB3.trans (hb.mono hB3.size)
    clear hb hB3 iA_3
    have cA0 : (W4.alloc (.cells #[.string C, .int .i64 (t0 + 2)] 23)).cell? ⟨DA, 0, none⟩ = some (.string C) := (iA_4.alloc _).cell 0
    have cA1 : (W4.alloc (.cells #[.string C, .int .i64 (t0 + 2)] 23)).cell? ⟨DA, 1, none⟩ = some (.int .i64 (t0)) := (iA_4.alloc _).cell 1
    go_wp2_with fail
    clear cA0 cA1
    obtain ⟨W5, hW5⟩ : ∃ W, W = W4.alloc (.cells #[.string C, .int .i64 (t0 + 2)] 23) := ⟨_, rfl⟩
    have iA_5 : Is W5 DA 23 #[.string C, .int .i64 (t0)] := by rw [hW5]; exact iA_4.alloc _
    obtain ⟨DU, hDU⟩ : ∃ D, D = W4.heap.size := ⟨_, rfl⟩
    have iU_5 : Is W5 DU 23 #[.string C, .int .i64 (t0 + 2)] := by rw [hW5, hDU]; exact Is.new _ _ _
    have hB5 : Below w.heap.size w W5 := by rw [hW5]; exact hB4.alloc hB4.size _
    have HS5 := Lib.hid (show W5.heap.size = W4.heap.size + 1 by rw [hW5]; exact World.size_alloc _ _)
    rw [← hW5]
    try rw [← hDU]
    clear hB4 iA_4 hW5
    have HDU := Lib.hid hDU
    clear hDU
    refine (M4.out _).mono ?_
    rintro e W6 ⟨rfl, hb⟩
    have iA_6 := iA_5.below hb iA_5.lt
    have iU_6 := iU_5.below hb iU_5.lt
    have hB6 := hB5.trans (hb.mono hB5.size)
    clear hb hB5 iA_5 iU_5
    have cA0 : (W6.alloc (.cells #[.string C, .int .i64 (t0 + 2)] 23)).cell? ⟨DA, 0, none⟩ = some (.string C) := (iA_6.alloc _).cell 0
    have cA1 : (W6.alloc (.cells #[.string C, .int .i64 (t0 + 2)] 23)).cell? ⟨DA, 1, none⟩ = some (.int .i64 (t0)) := (iA_6.alloc _).cell 1
    go_wp2_with fail
    clear cA0 cA1
    obtain ⟨W7, hW7⟩ : ∃ W, W = W6.alloc (.cells #[.string C, .int .i64 (t0 + 2)] 23) := ⟨_, rfl⟩
    have iA_7 : Is W7 DA 23 #[.string C, .int .i64 (t0)] := by rw [hW7]; exact iA_6.alloc _
    have iU_7 : Is W7 DU 23 #[.string C, .int .i64 (t0 + 2)] := by rw [hW7]; exact iU_6.alloc _
    obtain ⟨DV, hDV⟩ : ∃ D, D = W6.heap.size := ⟨_, rfl⟩
    have iV_7 : Is W7 DV 23 #[.string C, .int .i64 (t0 + 2)] := by rw [hW7, hDV]; exact Is.new _ _ _
    have hB7 : Below w.heap.size w W7 := by rw [hW7]; exact hB6.alloc hB6.size _
    have HS7 := Lib.hid (show W7.heap.size = W6.heap.size + 1 by rw [hW7]; exact World.size_alloc _ _)
    rw [← hW7]
    try rw [← hDV]
    clear hB6 iA_6 iU_6 hW7
    have HDV := Lib.hid hDV
    clear hDV
    refine (M5.out _).mono ?_
    rintro e W8 ⟨rfl, hb⟩
    have iA_8 := iA_7.below hb iA_7.lt
    have iU_8 := iU_7.below hb iU_7.lt
    have iV_8 := iV_7.below hb iV_7.lt
    have hB8 := hB7.trans (hb.mono hB7.size)
    clear hb hB7 iA_7 iU_7 iV_7
    have cA0 : (W8.alloc (.cells #[.string C, .int .i64 (t0 + 2)] 23)).cell? ⟨DA, 0, none⟩ = some (.string C) := (iA_8.alloc _).cell 0
    have cA1 : (W8.alloc (.cells #[.string C, .int .i64 (t0 + 2)] 23)).cell? ⟨DA, 1, none⟩ = some (.int .i64 (t0)) := (iA_8.alloc _).cell 1
    go_wp2_with fail
    clear cA0 cA1
    obtain ⟨W9, hW9⟩ : ∃ W, W = W8.alloc (.cells #[.string C, .int .i64 (t0 + 2)] 23) := ⟨_, rfl⟩
    have iA_9 : Is W9 DA 23 #[.string C, .int .i64 (t0)] := by rw [hW9]; exact iA_8.alloc _
    have iU_9 : Is W9 DU 23 #[.string C, .int .i64 (t0 + 2)] := by rw [hW9]; exact iU_8.alloc _
    have iV_9 : Is W9 DV 23 #[.string C, .int .i64 (t0 + 2)] := by rw [hW9]; exact iV_8.alloc _
    obtain ⟨DW, hDW⟩ : ∃ D, D = W8.heap.size := ⟨_, rfl⟩
    have iW_9 : Is W9 DW 23 #[.string C, .int .i64 (t0 + 2)] := by rw [hW9, hDW]; exact Is.new _ _ _
    have hB9 : Below w.heap.size w W9 := by rw [hW9]; exact hB8.alloc hB8.size _
    have HS9 := Lib.hid (show W9.heap.size = W8.heap.size + 1 by rw [hW9]; exact World.size_alloc _ _)
    rw [← hW9]
    try rw [← hDW]
    clear hB8 iA_8 iU_8 iV_8 hW9
    have HDW := Lib.hid hDW
    clear hDW
    refine (M6.out _).mono ?_
    rintro e W10 ⟨rfl, hb⟩
    have iA_10 := iA_9.below hb iA_9.lt
    have iU_10 := iU_9.below hb iU_9.lt
    have iV_10 := iV_9.below hb iV_9.lt
    have iW_10 := iW_9.below hb iW_9.lt
    have hB10 := hB9.trans (hb.mono hB9.size)
    clear hb hB9 iA_9 iU_9 iV_9 iW_9
    have cA0 : W10.cell? ⟨DA, 0, none⟩ = some (.string C) := iA_10.cell 0
    have cA1 : W10.cell? ⟨DA, 1, none⟩ = some (.int .i64 (t0)) := iA_10.cell 1
    go_wp2_with fail
    clear cA0 cA1
    refine (M7.out _).mono ?_
    rintro e W11 ⟨rfl, hb⟩
    have iA_11 := iA_10.below hb iA_10.lt
    have iU_11 := iU_10.below hb iU_10.lt
    have iV_11 := iV_10.below hb iV_10.lt
    have iW_11 := iW_10.below hb iW_10.lt
    have hB11 := hB10.trans (hb.mono hB10.size)
    clear hb hB10 iA_10 iU_10 iV_10 iW_10
    have cU0 : (W11.alloc (.cells #[.string C, .int .i64 (t0 + 2)] 23)).cell? ⟨DU, 0, none⟩ = some (.string C) := (iU_11.alloc _).cell 0
    have cU1 : (W11.alloc (.cells #[.string C, .int .i64 (t0 + 2)] 23)).cell? ⟨DU, 1, none⟩ = some (.int .i64 (t0 + 2)) := (iU_11.alloc _).cell 1
    have cV0 : (W11.alloc (.cells #[.string C, .int .i64 (t0 + 2)] 23)).cell? ⟨DV, 0, none⟩ = some (.string C) := (iV_11.alloc _).cell 0
    have cV1 : (W11.alloc (.cells #[.string C, .int .i64 (t0 + 2)] 23)).cell? ⟨DV, 1, none⟩ = some (.int .i64 (t0 + 2)) := (iV_11.alloc _).cell 1
    go_wp2
    clear cU0 cU1
    clear cV0 cV1
    obtain ⟨W12, hW12⟩ : ∃ W, W = W11.alloc (.cells #[.string C, .int .i64 (t0 + 2)] 23) := ⟨_, rfl⟩
    have iA_12 : Is W12 DA 23 #[.string C, .int .i64 (t0)] := by rw [hW12]; exact iA_11.alloc _
    have iU_12 : Is W12 DU 23 #[.string C, .int .i64 (t0 + 2)] := by rw [hW12]; exact iU_11.alloc _
    have iV_12 : Is W12 DV 23 #[.string C, .int .i64 (t0 + 2)] := by rw [hW12]; exact iV_11.alloc _
    have iW_12 : Is W12 DW 23 #[.string C, .int .i64 (t0 + 2)] := by rw [hW12]; exact iW_11.alloc _
    obtain ⟨DP, hDP⟩ : ∃ D, D = W11.heap.size := ⟨_, rfl⟩
    have iP_12 : Is W12 DP 23 #[.string C, .int .i64 (t0 + 2)] := by rw [hW12, hDP]; exact Is.new _ _ _
    have hB12 : Below w.heap.size w W12 := by rw [hW12]; exact hB11.alloc hB11.size _
    have HS12 := Lib.hid (show W12.heap.size = W11.heap.size + 1 by rw [hW12]; exact World.size_alloc _ _)
    rw [← hW12]
    try rw [← hDP]
    clear hB11 iA_11 iU_11 iV_11 iW_11 hW12
    have HDP := Lib.hid hDP
    clear hDP
    have cU0 : W12.cell? ⟨DU, 0, none⟩ = some (.string C) := iU_12.cell 0
    have cU1 : W12.cell? ⟨DU, 1, none⟩ = some (.int .i64 (t0 + 2)) := iU_12.cell 1
    have cV0 : W12.cell? ⟨DV, 0, none⟩ = some (.string C) := iV_12.cell 0
    have cV1 : W12.cell? ⟨DV, 1, none⟩ = some (.int .i64 (t0 + 2)) := iV_12.cell 1
    have cW0 : W12.cell? ⟨DW, 0, none⟩ = some (.string C) := iW_12.cell 0
    have cW1 : W12.cell? ⟨DW, 1, none⟩ = some (.int .i64 (t0 + 2)) := iW_12.cell 1
    have cP0 : W12.cell? ⟨DP, 0, none⟩ = some (.string C) := iP_12.cell 0
    have cP1 : W12.cell? ⟨DP, 1, none⟩ = some (.int .i64 (t0 + 2)) := iP_12.cell 1
    go_region
    all_goals
      go_wp2
      go_ret
      exact ⟨rfl, belowN hB12 1⟩
end Go.Proofs.Ytchgkiallbpjkaa
