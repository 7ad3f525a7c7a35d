/-
  TapeParts: the walk of the statement's function.
-/
import Derived.Test.YtchgkiallbpjkaaTapX
namespace Go.Proofs.Ytchgkiallbpjkaa
open Go.RowKit Go.Shelf

set_option maxRecDepth 100000 in
set_option maxHeartbeats 4000000 in
theorem tparts_walk (s : ByteArray) (at_ m n : Int) (more : ByteArray) (w : World) (hs : s.size ≤ maxLen) (ha : -9223372036854775808 ≤ at_ ∧ at_ ≤ 9223372036854775807) (hm : -9223372036854775808 ≤ m ∧ m ≤ 9223372036854775807) (hn : -9223372036854775808 ≤ n ∧ n ≤ 9223372036854775807) (hmo : more.size ≤ maxLen) :
    Calls Try.prog 4 #[.string s, .int .i64 at_, .int .i64 m, .int .i64 n, .string more] w fun e w' => e = .returned (.bool true) ∧ Below w.heap.size w w' := by
  have M1 := Lib.hid (fun w => tape7_any s at_ w ha)
  have hr := at7_right s at_
  have hat := at7_bd s at_
  have hcs := cut7_size s
  generalize at7 s at_ = t0 at *
  generalize cut7 s = C at *
  obtain ⟨lf, hlf⟩ : ∃ lf : Int, lf = (C.size : Int) - t0 := ⟨_, rfl⟩
  have M2 := Lib.hid (fun w => tleft_any C t0 w)
  rw [leftV, if_pos hr, ← hlf] at M2
  have hp := pickN_bd m (lf + 1) (by omega)
  have M3 := Lib.hid (fun w => pick7_any m (lf + 1) w hm.1 hm.2 (by omega) (by omega))
  generalize pickN m (lf + 1) = p at *
  have hq := pickN_bd n (lf - p + 1) (by omega)
  have M4 := Lib.hid (fun w => pick7_any n (lf - p + 1) w hn.1 hn.2 (by omega) (by omega))
  generalize pickN n (lf - p + 1) = q at *
  have hZ : t0 + (p + q) = t0 + p + q := by omega
  have M5 := Lib.hid (fun w => ttake_any C t0 p w)
  rw [take_fine hr hp.1 (by omega)] at M5
  have M6 := Lib.hid (fun w => ttake_any C (t0 + p) q w)
  rw [take_fine (right_on hr hp.1 (by omega)) hq.1 (by omega)] at M6
  have M7 := Lib.hid (fun w => ttake_any C t0 (p + q) w)
  rw [take_fine hr (by omega) (by omega), hZ, ← take_cat C (a := t0) (b := t0 + p) (c := t0 + p + q) (by omega) (by omega) (by omega)] at M7
  obtain ⟨E, hE⟩ : ∃ E, E = more.extract 0 (min more.size 100) := ⟨_, rfl⟩
  have hEs : E.size ≤ 100 := by rw [hE, ByteArray.size_extract]; omega
  have hrL : rightV (C ++ E) t0 = true := rightV_iff.2 ⟨by rw [ByteArray.size_append]; omega, hat.1, by rw [ByteArray.size_append]; omega⟩
  have M8 := Lib.hid (fun w => ttake_any (C ++ E) t0 (p + q) w)
  rw [take_fine hrL (by omega) (by rw [ByteArray.size_append]; omega), hZ, take_front C E (by omega) (by omega), ← take_cat C (a := t0) (b := t0 + p) (c := t0 + p + q) (by omega) (by omega) (by omega)] at M8
  have M9 := Lib.hid (fun w => ttake_any C t0 (lf + 1) w)
  rw [take_less hr (by omega) (by omega)] at M9
  have M10 := Lib.hid (fun w => tleft_any C (t0 + p + q) w)
  rw [leftV, if_pos (right_on (right_on hr hp.1 (by omega)) hq.1 (by omega)), show (C.size : Int) - (t0 + p + q) = lf - p - q by omega] at M10
  have hl1 : (C.extract t0.toNat (t0 + p).toNat).size ≤ 500 := by rw [ByteArray.size_extract]; omega
  have hl2 : (C.extract (t0 + p).toNat (t0 + p + q).toNat).size ≤ 500 := by rw [ByteArray.size_extract]; omega
  have w1 := IntWalk.i64_in (lf + 1) (by omega)
  have w2 := IntWalk.i64_in (lf - p) (by omega)
  have w3 := IntWalk.i64_in (lf - p + 1) (by omega)
  have w4 := IntWalk.i64_in (p + q) (by omega)
  have w5 := IntWalk.i64_in (lf - p - q) (by omega)
  have hLs : ¬ (9223372036854775807 < C.size + E.size) := by omega
  have hsl : ∀ wx : World, (Instr.slice 9 (.string more) none (some (.int .i64 (min (more.size : Int) 100))) none).run Try.prog wx = .ok (.string E) wx := fun wx => by
    obtain ⟨mm, hmm⟩ : ∃ mm : Nat, mm = min more.size 100 := ⟨_, rfl⟩
    have := run_slice_string_h (P := Try.prog) (w := wx) (t := 9) (s := more) Try.underlying9 .i64 (mm : Int) (by omega) (by omega)
    rw [Int.toNat_natCast] at this
    rw [show min (more.size : Int) 100 = (mm : Int) by omega, hE, ← hmm]
    exact this
  generalize C.extract t0.toNat (t0 + p).toNat = X at *
  generalize C.extract (t0 + p).toNat (t0 + p + q).toNat = Y at *
  have hXY : ¬ (9223372036854775807 < X.size + Y.size) := by omega
  generalize hu1 : t0 + p = u1 at *
  generalize hz1 : u1 + q = Z at *
  generalize hLg : C ++ E = Lg at *
  clear hE hEs hrL hr hat hcs hlf hp hq hZ hl1 hl2 hu1 hz1 hm hn ha hs hmo
  go_enter Try.func4, Try.ntmps4
  go_wp2_with fail
  have hB0 : Below w.heap.size w w := Below.refl _ _
  refine (awake7_any _).mono ?_
  rintro e W1 ⟨rfl, hb⟩
  have hB1 := hB0.trans (hb.mono hB0.size)
  clear hb hB0 
  go_wp2_with fail
  refine (M1.out _).mono ?_
  rintro e W2 ⟨rfl, hb⟩
  have hB2 := hB1.trans (hb.mono hB1.size)
  clear hb hB1 
  go_wp2_with fail
  obtain ⟨W3, hW3⟩ : ∃ W, W = W2.alloc (.cells #[.string C, .int .i64 (t0)] 23) := ⟨_, rfl⟩
  obtain ⟨DA, hDA⟩ : ∃ D, D = W2.heap.size := ⟨_, rfl⟩
  have iA_3 : Is W3 DA 23 #[.string C, .int .i64 (t0)] := by rw [hW3, hDA]; exact Is.new _ _ _
  have hB3 : Below w.heap.size w W3 := by rw [hW3]; exact hB2.alloc hB2.size _
  have HS3 := Lib.hid (show W3.heap.size = W2.heap.size + 1 by rw [hW3]; exact World.size_alloc _ _)
  rw [← hW3]
  try rw [← hDA]
  clear hB2  hW3
  have HDA := Lib.hid hDA
  clear hDA
  refine (M2.out _).mono ?_
  rintro e W4 ⟨rfl, hb⟩
  have iA_4 := iA_3.below hb iA_3.lt
  have hB4 := hB3.trans (hb.mono hB3.size)
  clear hb hB3 iA_3
  go_wp2_with fail
  refine (M3.out _).mono ?_
  rintro e w' ⟨rfl, rfl⟩
  go_wp2_with fail
  refine (M4.out _).mono ?_
  rintro e w' ⟨rfl, rfl⟩
  have cA0 : W4.cell? ⟨DA, 0, none⟩ = some (.string C) := iA_4.cell 0
  have cA1 : W4.cell? ⟨DA, 1, none⟩ = some (.int .i64 (t0)) := iA_4.cell 1
  go_wp2_with fail
  clear cA0 cA1
  refine (M5.out _).mono ?_
  rintro e W5 ⟨rfl, hb⟩
  have iA_5 := iA_4.below hb iA_4.lt
  have hB5 := hB4.trans (hb.mono hB4.size)
  clear hb hB4 iA_4
  go_wp2_with fail
  obtain ⟨W6, hW6⟩ : ∃ W, W = W5.alloc (.cells #[.string C, .int .i64 (u1)] 23) := ⟨_, rfl⟩
  have iA_6 : Is W6 DA 23 #[.string C, .int .i64 (t0)] := by rw [hW6]; exact iA_5.alloc _
  obtain ⟨DU, hDU⟩ : ∃ D, D = W5.heap.size := ⟨_, rfl⟩
  have iU_6 : Is W6 DU 23 #[.string C, .int .i64 (u1)] := by rw [hW6, hDU]; exact Is.new _ _ _
  have hB6 : Below w.heap.size w W6 := by rw [hW6]; exact hB5.alloc hB5.size _
  have HS6 := Lib.hid (show W6.heap.size = W5.heap.size + 1 by rw [hW6]; exact World.size_alloc _ _)
  rw [← hW6]
  try rw [← hDU]
  clear hB5 iA_5 hW6
  have HDU := Lib.hid hDU
  clear hDU
  refine (M6.out _).mono ?_
  rintro e W7 ⟨rfl, hb⟩
  have iA_7 := iA_6.below hb iA_6.lt
  have iU_7 := iU_6.below hb iU_6.lt
  have hB7 := hB6.trans (hb.mono hB6.size)
  clear hb hB6 iA_6 iU_6
  have cA0 : (W7.alloc (.cells #[.string C, .int .i64 (Z)] 23)).cell? ⟨DA, 0, none⟩ = some (.string C) := (iA_7.alloc _).cell 0
  have cA1 : (W7.alloc (.cells #[.string C, .int .i64 (Z)] 23)).cell? ⟨DA, 1, none⟩ = some (.int .i64 (t0)) := (iA_7.alloc _).cell 1
  go_wp2_with fail
  clear cA0 cA1
  obtain ⟨W8, hW8⟩ : ∃ W, W = W7.alloc (.cells #[.string C, .int .i64 (Z)] 23) := ⟨_, rfl⟩
  have iA_8 : Is W8 DA 23 #[.string C, .int .i64 (t0)] := by rw [hW8]; exact iA_7.alloc _
  have iU_8 : Is W8 DU 23 #[.string C, .int .i64 (u1)] := by rw [hW8]; exact iU_7.alloc _
  obtain ⟨DV, hDV⟩ : ∃ D, D = W7.heap.size := ⟨_, rfl⟩
  have iV_8 : Is W8 DV 23 #[.string C, .int .i64 (Z)] := by rw [hW8, hDV]; exact Is.new _ _ _
  have hB8 : Below w.heap.size w W8 := by rw [hW8]; exact hB7.alloc hB7.size _
  have HS8 := Lib.hid (show W8.heap.size = W7.heap.size + 1 by rw [hW8]; exact World.size_alloc _ _)
  rw [← hW8]
  try rw [← hDV]
  clear hB7 iA_7 iU_7 hW8
  have HDV := Lib.hid hDV
  clear hDV
  refine (M7.out _).mono ?_
  rintro e W9 ⟨rfl, hb⟩
  have iA_9 := iA_8.below hb iA_8.lt
  have iU_9 := iU_8.below hb iU_8.lt
  have iV_9 := iV_8.below hb iV_8.lt
  have hB9 := hB8.trans (hb.mono hB8.size)
  clear hb hB8 iA_8 iU_8 iV_8
  have cA0 : (W9.alloc (.cells #[.string C, .int .i64 (Z)] 23)).cell? ⟨DA, 0, none⟩ = some (.string C) := (iA_9.alloc _).cell 0
  have cA1 : (W9.alloc (.cells #[.string C, .int .i64 (Z)] 23)).cell? ⟨DA, 1, none⟩ = some (.int .i64 (t0)) := (iA_9.alloc _).cell 1
  go_wp2_with fail
  clear cA0 cA1
  obtain ⟨W10, hW10⟩ : ∃ W, W = W9.alloc (.cells #[.string C, .int .i64 (Z)] 23) := ⟨_, rfl⟩
  have iA_10 : Is W10 DA 23 #[.string C, .int .i64 (t0)] := by rw [hW10]; exact iA_9.alloc _
  have iU_10 : Is W10 DU 23 #[.string C, .int .i64 (u1)] := by rw [hW10]; exact iU_9.alloc _
  have iV_10 : Is W10 DV 23 #[.string C, .int .i64 (Z)] := by rw [hW10]; exact iV_9.alloc _
  obtain ⟨DW, hDW⟩ : ∃ D, D = W9.heap.size := ⟨_, rfl⟩
  have iW_10 : Is W10 DW 23 #[.string C, .int .i64 (Z)] := by rw [hW10, hDW]; exact Is.new _ _ _
  have hB10 : Below w.heap.size w W10 := by rw [hW10]; exact hB9.alloc hB9.size _
  have HS10 := Lib.hid (show W10.heap.size = W9.heap.size + 1 by rw [hW10]; exact World.size_alloc _ _)
  rw [← hW10]
  try rw [← hDW]
  clear hB9 iA_9 iU_9 iV_9 hW10
  have HDW := Lib.hid hDW
  clear hDW
  have cA0 : W10.cell? ⟨DA, 0, none⟩ = some (.string C) := iA_10.cell 0
  have cA1 : W10.cell? ⟨DA, 1, none⟩ = some (.int .i64 (t0)) := iA_10.cell 1
  have nA := World.new_ne _ _ cA0
  go_region_held3 (fun w' => w'.cell? ⟨DA, 0, none⟩ = some (.string C) ∧ w'.cell? ⟨DA, 1, none⟩ = some (.int .i64 t0)) (go_keep) (fail)
  all_goals
    clear cA0 cA1
    clear nA
    obtain ⟨W11, hW11⟩ : ∃ W, W = (W10.alloc (.cells #[.string Lg, .int .i64 (t0)] 23)).drew := ⟨_, rfl⟩
    have iA_11 : Is W11 DA 23 #[.string C, .int .i64 (t0)] := by rw [hW11]; exact Is.drewN (iA_10.alloc _) 1
    have iU_11 : Is W11 DU 23 #[.string C, .int .i64 (u1)] := by rw [hW11]; exact Is.drewN (iU_10.alloc _) 1
    have iV_11 : Is W11 DV 23 #[.string C, .int .i64 (Z)] := by rw [hW11]; exact Is.drewN (iV_10.alloc _) 1
    have iW_11 : Is W11 DW 23 #[.string C, .int .i64 (Z)] := by rw [hW11]; exact Is.drewN (iW_10.alloc _) 1
    obtain ⟨DL, hDL⟩ : ∃ D, D = W10.heap.size := ⟨_, rfl⟩
    have iL_11 : Is W11 DL 23 #[.string Lg, .int .i64 (t0)] := by rw [hW11, hDL]; exact Is.drewN (Is.new _ _ _) 1
    have hB11 : Below w.heap.size w W11 := by rw [hW11]; exact belowN (hB10.alloc hB10.size _) 1
    have HS11 := Lib.hid (show W11.heap.size = W10.heap.size + 1 by rw [hW11]; exact World.size_alloc _ _)
    rw [← hW11]
    try rw [← hDL]
    clear hB10 iA_10 iU_10 iV_10 iW_10 hW11
    have HDL := Lib.hid hDL
    clear hDL
    have cL0 : W11.cell? ⟨DL, 0, none⟩ = some (.string Lg) := iL_11.cell 0
    have cL1 : W11.cell? ⟨DL, 1, none⟩ = some (.int .i64 (t0)) := iL_11.cell 1
    go_wp2_with fail
    clear cL0 cL1
    refine (M8.out _).mono ?_
    rintro e W12 ⟨rfl, hb⟩
    have iA_12 := iA_11.below hb iA_11.lt
    have iU_12 := iU_11.below hb iU_11.lt
    have iV_12 := iV_11.below hb iV_11.lt
    have iW_12 := iW_11.below hb iW_11.lt
    have iL_12 := iL_11.below hb iL_11.lt
    have hB12 := hB11.trans (hb.mono hB11.size)
    clear hb hB11 iA_11 iU_11 iV_11 iW_11 iL_11
    have cA0 : (W12.alloc (.cells #[.string Lg, .int .i64 (Z)] 23)).cell? ⟨DA, 0, none⟩ = some (.string C) := (iA_12.alloc _).cell 0
    have cA1 : (W12.alloc (.cells #[.string Lg, .int .i64 (Z)] 23)).cell? ⟨DA, 1, none⟩ = some (.int .i64 (t0)) := (iA_12.alloc _).cell 1
    go_wp2_with fail
    clear cA0 cA1
    obtain ⟨W13, hW13⟩ : ∃ W, W = W12.alloc (.cells #[.string Lg, .int .i64 (Z)] 23) := ⟨_, rfl⟩
    have iA_13 : Is W13 DA 23 #[.string C, .int .i64 (t0)] := by rw [hW13]; exact iA_12.alloc _
    have iU_13 : Is W13 DU 23 #[.string C, .int .i64 (u1)] := by rw [hW13]; exact iU_12.alloc _
    have iV_13 : Is W13 DV 23 #[.string C, .int .i64 (Z)] := by rw [hW13]; exact iV_12.alloc _
    have iW_13 : Is W13 DW 23 #[.string C, .int .i64 (Z)] := by rw [hW13]; exact iW_12.alloc _
    have iL_13 : Is W13 DL 23 #[.string Lg, .int .i64 (t0)] := by rw [hW13]; exact iL_12.alloc _
    obtain ⟨DP, hDP⟩ : ∃ D, D = W12.heap.size := ⟨_, rfl⟩
    have iP_13 : Is W13 DP 23 #[.string Lg, .int .i64 (Z)] := by rw [hW13, hDP]; exact Is.new _ _ _
    have hB13 : Below w.heap.size w W13 := by rw [hW13]; exact hB12.alloc hB12.size _
    have HS13 := Lib.hid (show W13.heap.size = W12.heap.size + 1 by rw [hW13]; exact World.size_alloc _ _)
    rw [← hW13]
    try rw [← hDP]
    clear hB12 iA_12 iU_12 iV_12 iW_12 iL_12 hW13
    have HDP := Lib.hid hDP
    clear hDP
    refine (M9.out _).mono ?_
    rintro e W14 ⟨rfl, hb⟩
    have iA_14 := iA_13.below hb iA_13.lt
    have iU_14 := iU_13.below hb iU_13.lt
    have iV_14 := iV_13.below hb iV_13.lt
    have iW_14 := iW_13.below hb iW_13.lt
    have iL_14 := iL_13.below hb iL_13.lt
    have iP_14 := iP_13.below hb iP_13.lt
    have hB14 := hB13.trans (hb.mono hB13.size)
    clear hb hB13 iA_13 iU_13 iV_13 iW_13 iL_13 iP_13
    have cA0 : (W14.alloc (.cells #[.string C, .int .i64 (t0)] 23)).cell? ⟨DA, 0, none⟩ = some (.string C) := (iA_14.alloc _).cell 0
    have cA1 : (W14.alloc (.cells #[.string C, .int .i64 (t0)] 23)).cell? ⟨DA, 1, none⟩ = some (.int .i64 (t0)) := (iA_14.alloc _).cell 1
    have cV0 : (W14.alloc (.cells #[.string C, .int .i64 (t0)] 23)).cell? ⟨DV, 0, none⟩ = some (.string C) := (iV_14.alloc _).cell 0
    have cV1 : (W14.alloc (.cells #[.string C, .int .i64 (t0)] 23)).cell? ⟨DV, 1, none⟩ = some (.int .i64 (Z)) := (iV_14.alloc _).cell 1
    have cW0 : (W14.alloc (.cells #[.string C, .int .i64 (t0)] 23)).cell? ⟨DW, 0, none⟩ = some (.string C) := (iW_14.alloc _).cell 0
    have cW1 : (W14.alloc (.cells #[.string C, .int .i64 (t0)] 23)).cell? ⟨DW, 1, none⟩ = some (.int .i64 (Z)) := (iW_14.alloc _).cell 1
    have cP0 : (W14.alloc (.cells #[.string C, .int .i64 (t0)] 23)).cell? ⟨DP, 0, none⟩ = some (.string Lg) := (iP_14.alloc _).cell 0
    have cP1 : (W14.alloc (.cells #[.string C, .int .i64 (t0)] 23)).cell? ⟨DP, 1, none⟩ = some (.int .i64 (Z)) := (iP_14.alloc _).cell 1
    go_wp2_with fail
    clear cA0 cA1
    clear cV0 cV1
    clear cW0 cW1
    clear cP0 cP1
    obtain ⟨W15, hW15⟩ : ∃ W, W = W14.alloc (.cells #[.string C, .int .i64 (t0)] 23) := ⟨_, rfl⟩
    have iA_15 : Is W15 DA 23 #[.string C, .int .i64 (t0)] := by rw [hW15]; exact iA_14.alloc _
    have iU_15 : Is W15 DU 23 #[.string C, .int .i64 (u1)] := by rw [hW15]; exact iU_14.alloc _
    have iV_15 : Is W15 DV 23 #[.string C, .int .i64 (Z)] := by rw [hW15]; exact iV_14.alloc _
    have iW_15 : Is W15 DW 23 #[.string C, .int .i64 (Z)] := by rw [hW15]; exact iW_14.alloc _
    have iL_15 : Is W15 DL 23 #[.string Lg, .int .i64 (t0)] := by rw [hW15]; exact iL_14.alloc _
    have iP_15 : Is W15 DP 23 #[.string Lg, .int .i64 (Z)] := by rw [hW15]; exact iP_14.alloc _
    obtain ⟨DQ, hDQ⟩ : ∃ D, D = W14.heap.size := ⟨_, rfl⟩
    have iQ_15 : Is W15 DQ 23 #[.string C, .int .i64 (t0)] := by rw [hW15, hDQ]; exact Is.new _ _ _
    have hB15 : Below w.heap.size w W15 := by rw [hW15]; exact hB14.alloc hB14.size _
    have HS15 := Lib.hid (show W15.heap.size = W14.heap.size + 1 by rw [hW15]; exact World.size_alloc _ _)
    rw [← hW15]
    try rw [← hDQ]
    clear hB14 iA_14 iU_14 iV_14 iW_14 iL_14 iP_14 hW15
    have HDQ := Lib.hid hDQ
    clear hDQ
    refine (M10.out _).mono ?_
    rintro e W16 ⟨rfl, hb⟩
    have iA_16 := iA_15.below hb iA_15.lt
    have iU_16 := iU_15.below hb iU_15.lt
    have iV_16 := iV_15.below hb iV_15.lt
    have iW_16 := iW_15.below hb iW_15.lt
    have iL_16 := iL_15.below hb iL_15.lt
    have iP_16 := iP_15.below hb iP_15.lt
    have iQ_16 := iQ_15.below hb iQ_15.lt
    have hB16 := hB15.trans (hb.mono hB15.size)
    clear hb hB15 iA_15 iU_15 iV_15 iW_15 iL_15 iP_15 iQ_15
    go_wp2
    go_ret
    exact ⟨rfl, hB16⟩
end Go.Proofs.Ytchgkiallbpjkaa
