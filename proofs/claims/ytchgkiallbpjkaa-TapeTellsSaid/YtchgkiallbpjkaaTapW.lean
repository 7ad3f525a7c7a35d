/-
  awake, the statements' own: it answers true.
-/
import Derived.Test.YtchgkiallbpjkaaTapQ
import Derived.Test.YtchgkiallbpjkaaTapU
namespace Go.Proofs.Ytchgkiallbpjkaa
open Go.RowKit Go.Shelf

def awB : ByteArray := ⟨#[1, 2, 120, 121, 122]⟩
def awXY : ByteArray := ⟨#[120, 121]⟩
theorem aw_num : numR awB 0 100 = .tuple #[.int .i64 58, .agg #[.string awB, .int .i64 2], .int .i64 0] := by kernel_rfl
theorem aw_take : takeR awB 2 2 = .tuple #[.string awXY, .agg #[.string awB, .int .i64 4], .int .i64 0] := by kernel_rfl
theorem aw_takeN : takeR awB 4 2 = .tuple #[.string ⟨#[]⟩, .agg #[.string awB, .int .i64 4], .int .i64 12] := by kernel_rfl
theorem aw_takeM : takeR awB 4 (-1) = .tuple #[.string ⟨#[]⟩, .agg #[.string awB, .int .i64 4], .int .i64 1] := by kernel_rfl
theorem aw_left : leftV awB 4 = 1 := by kernel_rfl
theorem aw_right : rightV awB 0 = true := by kernel_rfl
theorem aw_rightN : rightV ⟨#[]⟩ 1 = false := by kernel_rfl
theorem aw_tE : turnE awB 0 [7, 8] = 0 := by kernel_rfl
theorem aw_tV : turnV awB 0 [7, 8] = [8, 7] := by kernel_rfl
theorem aw_tA : turnA awB 0 [7, 8] = 2 := by kernel_rfl

set_option maxRecDepth 100000 in
set_option maxHeartbeats 4000000 in
theorem awake7_any (w : World) :
    Calls Try.prog 8 #[] w fun e w' => e = .returned (.bool true) ∧ Below w.heap.size w w' := by
  have M0 := Lib.hid (fun w => tnum_any awB 0 100 w)
  have M1 := Lib.hid (fun w => ttake_any awB 2 2 w)
  have M2 := Lib.hid (fun A cap w h => tturn_any awB 0 A cap [7, 8] w h)
  have M3 := Lib.hid (fun w => ttake_any awB 4 2 w)
  have M4 := Lib.hid (fun w => ttake_any awB 4 (-1) w)
  have M5 := Lib.hid (fun w => tleft_any awB 4 w)
  have M6 := Lib.hid (fun w => tright_any awB 0 w)
  have M7 := Lib.hid (fun w => tright_any ⟨#[]⟩ 1 w)
  rw [aw_num] at M0
  rw [aw_take] at M1
  rw [aw_tE, aw_tV, aw_tA] at M2
  rw [aw_takeN] at M3
  rw [aw_takeM] at M4
  rw [aw_left] at M5
  rw [aw_right] at M6
  rw [aw_rightN] at M7
  simp only [awB, awXY] at M0 M1 M2 M3 M4 M5 M6
  go_enter Try.func8, Try.ntmps8
  go_wp2_with fail
  obtain ⟨W1, hW1⟩ : ∃ W, W = w.alloc (.cells #[.string ⟨#[1, 2, 120, 121, 122]⟩, .int .i64 0] 23) := ⟨_, rfl⟩
  obtain ⟨DA, hDA⟩ : ∃ D, D = w.heap.size := ⟨_, rfl⟩
  have iA_1 : Is W1 DA 23 #[.string ⟨#[1, 2, 120, 121, 122]⟩, .int .i64 0] := by rw [hW1, hDA]; exact Is.new _ _ _
  have hB1 : Below w.heap.size w W1 := by rw [hW1]; exact (Below.refl _ _).alloc (Nat.le_refl _) _
  have HS1 := Lib.hid (show W1.heap.size = w.heap.size + 1 by rw [hW1, World.size_alloc])
  rw [← hW1]
  try rw [← hDA]
  clear hW1
  have HDA := Lib.hid hDA
  clear hDA
  refine (M0.out _).mono ?_
  rintro e W2 ⟨rfl, hb⟩
  have iA_2 := iA_1.below hb iA_1.lt
  have hB2 := hB1.trans (hb.mono hB1.size)
  clear hb hB1 iA_1
  go_wp2_with fail
  obtain ⟨W3, hW3⟩ : ∃ W, W = W2.alloc (.cells #[.string ⟨#[1, 2, 120, 121, 122]⟩, .int .i64 2] 23) := ⟨_, rfl⟩
  have iA_3 : Is W3 DA 23 #[.string ⟨#[1, 2, 120, 121, 122]⟩, .int .i64 0] := by rw [hW3]; exact iA_2.alloc _
  obtain ⟨DC, hDC⟩ : ∃ D, D = W2.heap.size := ⟨_, rfl⟩
  have iC_3 : Is W3 DC 23 #[.string ⟨#[1, 2, 120, 121, 122]⟩, .int .i64 2] := by rw [hW3, hDC]; exact Is.new _ _ _
  have hB3 : Below w.heap.size w W3 := by rw [hW3]; exact hB2.alloc hB2.size _
  have HS3 := Lib.hid (show W3.heap.size = W2.heap.size + 1 by rw [hW3, World.size_alloc])
  rw [← hW3]
  try rw [← hDC]
  clear iA_2
  clear hB2
  clear hW3
  have HDC := Lib.hid hDC
  clear hDC
  refine (M1.out _).mono ?_
  rintro e W4 ⟨rfl, hb⟩
  have iA_4 := iA_3.below hb iA_3.lt
  have iC_4 := iC_3.below hb iC_3.lt
  have hB4 := hB3.trans (hb.mono hB3.size)
  clear hb hB3 iA_3 iC_3
  have cA0 : (W4.alloc (.cells #[.string ⟨#[1, 2, 120, 121, 122]⟩, .int .i64 4] 23)).cell? ⟨DA, 0, none⟩ = some (.string ⟨#[1, 2, 120, 121, 122]⟩) := (iA_4.alloc _).cell 0
  have cA1 : (W4.alloc (.cells #[.string ⟨#[1, 2, 120, 121, 122]⟩, .int .i64 4] 23)).cell? ⟨DA, 1, none⟩ = some (.int .i64 0) := (iA_4.alloc _).cell 1
  go_wp2_with fail
  clear cA0 cA1
  obtain ⟨W5, hW5⟩ : ∃ W, W = W4.alloc (.cells #[.string ⟨#[1, 2, 120, 121, 122]⟩, .int .i64 4] 23) := ⟨_, rfl⟩
  have iA_5 : Is W5 DA 23 #[.string ⟨#[1, 2, 120, 121, 122]⟩, .int .i64 0] := by rw [hW5]; exact iA_4.alloc _
  have iC_5 : Is W5 DC 23 #[.string ⟨#[1, 2, 120, 121, 122]⟩, .int .i64 2] := by rw [hW5]; exact iC_4.alloc _
  obtain ⟨DF, hDF⟩ : ∃ D, D = W4.heap.size := ⟨_, rfl⟩
  have iF_5 : Is W5 DF 23 #[.string ⟨#[1, 2, 120, 121, 122]⟩, .int .i64 4] := by rw [hW5, hDF]; exact Is.new _ _ _
  have hB5 : Below w.heap.size w W5 := by rw [hW5]; exact hB4.alloc hB4.size _
  have HS5 := Lib.hid (show W5.heap.size = W4.heap.size + 1 by rw [hW5, World.size_alloc])
  rw [← hW5]
  try rw [← hDF]
  clear iA_4
  clear iC_4
  clear hB4
  clear hW5
  have HDF := Lib.hid hDF
  clear hDF
  obtain ⟨W6, hW6⟩ : ∃ W, W = W5.alloc (.cells #[.int .i64 7, .int .i64 8] 3) := ⟨_, rfl⟩
  have iA_6 : Is W6 DA 23 #[.string ⟨#[1, 2, 120, 121, 122]⟩, .int .i64 0] := by rw [hW6]; exact iA_5.alloc _
  have iC_6 : Is W6 DC 23 #[.string ⟨#[1, 2, 120, 121, 122]⟩, .int .i64 2] := by rw [hW6]; exact iC_5.alloc _
  have iF_6 : Is W6 DF 23 #[.string ⟨#[1, 2, 120, 121, 122]⟩, .int .i64 4] := by rw [hW6]; exact iF_5.alloc _
  obtain ⟨DL, hDL⟩ : ∃ D, D = W5.heap.size := ⟨_, rfl⟩
  have iL_6 : Is W6 DL 3 #[.int .i64 7, .int .i64 8] := by rw [hW6, hDL]; exact Is.new _ _ _
  have hB6 : Below w.heap.size w W6 := by rw [hW6]; exact hB5.alloc hB5.size _
  have HS6 := Lib.hid (show W6.heap.size = W5.heap.size + 1 by rw [hW6, World.size_alloc])
  rw [← hW6]
  try rw [← hDL]
  clear iA_5
  clear iC_5
  clear iF_5
  clear hB5
  clear hW6
  have HDL := Lib.hid hDL
  clear hDL
  have hDL : DF + 1 = DL := by rw [HDL.out, HS5.out, HDF.out]
  rw [hDL]
  clear hDL
  have hLI : InL W6 (some ⟨DL, 0, none⟩) [7, 8] := fun j hj => by
    have hj2 : j < 2 := hj
    refine ⟨DL, 0, rfl, iL_6.lt, ?_⟩
    rw [Nat.zero_add, iL_6.cell]
    rcases (show j = 0 ∨ j = 1 by omega) with rfl | rfl <;> rfl
  refine (M2.out _ _ _ hLI).mono ?_
  rintro e W7 ⟨A', c', rfl, hO, hb⟩
  have iA_7 := iA_6.below hb iA_6.lt
  have iC_7 := iC_6.below hb iC_6.lt
  have iF_7 := iF_6.below hb iF_6.lt
  have iL_7 := iL_6.below hb iL_6.lt
  have hB7 := hB6.trans (hb.mono hB6.size)
  clear hb hB6 iA_6 iC_6 iF_6 iL_6
  clear hLI
  obtain ⟨g, cur, rfl, _, hI, _, _, _, hta⟩ := hO.open (by decide)
  have iG_7 : Is W7 g 3 cur := hI
  have g0 : cur[0]? = some (.int .i64 8) := row_at hta (show 0 < [8, 7].length by decide)
  clear hO hI hta
  have cF0 : (W7.alloc (.cells #[.string ⟨#[1, 2, 120, 121, 122]⟩, .int .i64 2] 23)).cell? ⟨DF, 0, none⟩ = some (.string ⟨#[1, 2, 120, 121, 122]⟩) := (iF_7.alloc _).cell 0
  have cF1 : (W7.alloc (.cells #[.string ⟨#[1, 2, 120, 121, 122]⟩, .int .i64 2] 23)).cell? ⟨DF, 1, none⟩ = some (.int .i64 4) := (iF_7.alloc _).cell 1
  go_wp2_with fail
  clear cF0 cF1
  obtain ⟨W8, hW8⟩ : ∃ W, W = W7.alloc (.cells #[.string ⟨#[1, 2, 120, 121, 122]⟩, .int .i64 2] 23) := ⟨_, rfl⟩
  have iA_8 : Is W8 DA 23 #[.string ⟨#[1, 2, 120, 121, 122]⟩, .int .i64 0] := by rw [hW8]; exact iA_7.alloc _
  have iC_8 : Is W8 DC 23 #[.string ⟨#[1, 2, 120, 121, 122]⟩, .int .i64 2] := by rw [hW8]; exact iC_7.alloc _
  have iF_8 : Is W8 DF 23 #[.string ⟨#[1, 2, 120, 121, 122]⟩, .int .i64 4] := by rw [hW8]; exact iF_7.alloc _
  have iL_8 : Is W8 DL 3 #[.int .i64 7, .int .i64 8] := by rw [hW8]; exact iL_7.alloc _
  have iG_8 : Is W8 g 3 cur := by rw [hW8]; exact iG_7.alloc _
  obtain ⟨DH, hDH⟩ : ∃ D, D = W7.heap.size := ⟨_, rfl⟩
  have iH_8 : Is W8 DH 23 #[.string ⟨#[1, 2, 120, 121, 122]⟩, .int .i64 2] := by rw [hW8, hDH]; exact Is.new _ _ _
  have hB8 : Below w.heap.size w W8 := by rw [hW8]; exact hB7.alloc hB7.size _
  have HS8 := Lib.hid (show W8.heap.size = W7.heap.size + 1 by rw [hW8, World.size_alloc])
  rw [← hW8]
  try rw [← hDH]
  clear iA_7
  clear iC_7
  clear iF_7
  clear iL_7
  clear iG_7
  clear hB7
  clear hW8
  have HDH := Lib.hid hDH
  clear hDH
  refine (M3.out _).mono ?_
  rintro e W9 ⟨rfl, hb⟩
  have iA_9 := iA_8.below hb iA_8.lt
  have iC_9 := iC_8.below hb iC_8.lt
  have iF_9 := iF_8.below hb iF_8.lt
  have iL_9 := iL_8.below hb iL_8.lt
  have iG_9 := iG_8.below hb iG_8.lt
  have iH_9 := iH_8.below hb iH_8.lt
  have hB9 := hB8.trans (hb.mono hB8.size)
  clear hb hB8 iA_8 iC_8 iF_8 iL_8 iG_8 iH_8
  have cF0 : (W9.alloc (.cells #[.string ⟨#[1, 2, 120, 121, 122]⟩, .int .i64 4] 23)).cell? ⟨DF, 0, none⟩ = some (.string ⟨#[1, 2, 120, 121, 122]⟩) := (iF_9.alloc _).cell 0
  have cF1 : (W9.alloc (.cells #[.string ⟨#[1, 2, 120, 121, 122]⟩, .int .i64 4] 23)).cell? ⟨DF, 1, none⟩ = some (.int .i64 4) := (iF_9.alloc _).cell 1
  go_wp2_with fail
  clear cF0 cF1
  obtain ⟨W10, hW10⟩ : ∃ W, W = W9.alloc (.cells #[.string ⟨#[1, 2, 120, 121, 122]⟩, .int .i64 4] 23) := ⟨_, rfl⟩
  have iA_10 : Is W10 DA 23 #[.string ⟨#[1, 2, 120, 121, 122]⟩, .int .i64 0] := by rw [hW10]; exact iA_9.alloc _
  have iC_10 : Is W10 DC 23 #[.string ⟨#[1, 2, 120, 121, 122]⟩, .int .i64 2] := by rw [hW10]; exact iC_9.alloc _
  have iF_10 : Is W10 DF 23 #[.string ⟨#[1, 2, 120, 121, 122]⟩, .int .i64 4] := by rw [hW10]; exact iF_9.alloc _
  have iL_10 : Is W10 DL 3 #[.int .i64 7, .int .i64 8] := by rw [hW10]; exact iL_9.alloc _
  have iG_10 : Is W10 g 3 cur := by rw [hW10]; exact iG_9.alloc _
  have iH_10 : Is W10 DH 23 #[.string ⟨#[1, 2, 120, 121, 122]⟩, .int .i64 2] := by rw [hW10]; exact iH_9.alloc _
  obtain ⟨DI, hDI⟩ : ∃ D, D = W9.heap.size := ⟨_, rfl⟩
  have iI_10 : Is W10 DI 23 #[.string ⟨#[1, 2, 120, 121, 122]⟩, .int .i64 4] := by rw [hW10, hDI]; exact Is.new _ _ _
  have hB10 : Below w.heap.size w W10 := by rw [hW10]; exact hB9.alloc hB9.size _
  have HS10 := Lib.hid (show W10.heap.size = W9.heap.size + 1 by rw [hW10, World.size_alloc])
  rw [← hW10]
  try rw [← hDI]
  clear iA_9
  clear iC_9
  clear iF_9
  clear iL_9
  clear iG_9
  clear iH_9
  clear hB9
  clear hW10
  have HDI := Lib.hid hDI
  clear hDI
  refine (M4.out _).mono ?_
  rintro e W11 ⟨rfl, hb⟩
  have iA_11 := iA_10.below hb iA_10.lt
  have iC_11 := iC_10.below hb iC_10.lt
  have iF_11 := iF_10.below hb iF_10.lt
  have iL_11 := iL_10.below hb iL_10.lt
  have iG_11 := iG_10.below hb iG_10.lt
  have iH_11 := iH_10.below hb iH_10.lt
  have iI_11 := iI_10.below hb iI_10.lt
  have hB11 := hB10.trans (hb.mono hB10.size)
  clear hb hB10 iA_10 iC_10 iF_10 iL_10 iG_10 iH_10 iI_10
  have cF0 : (W11.alloc (.cells #[.string ⟨#[1, 2, 120, 121, 122]⟩, .int .i64 4] 23)).cell? ⟨DF, 0, none⟩ = some (.string ⟨#[1, 2, 120, 121, 122]⟩) := (iF_11.alloc _).cell 0
  have cF1 : (W11.alloc (.cells #[.string ⟨#[1, 2, 120, 121, 122]⟩, .int .i64 4] 23)).cell? ⟨DF, 1, none⟩ = some (.int .i64 4) := (iF_11.alloc _).cell 1
  go_wp2_with fail
  clear cF0 cF1
  obtain ⟨W12, hW12⟩ : ∃ W, W = W11.alloc (.cells #[.string ⟨#[1, 2, 120, 121, 122]⟩, .int .i64 4] 23) := ⟨_, rfl⟩
  have iA_12 : Is W12 DA 23 #[.string ⟨#[1, 2, 120, 121, 122]⟩, .int .i64 0] := by rw [hW12]; exact iA_11.alloc _
  have iC_12 : Is W12 DC 23 #[.string ⟨#[1, 2, 120, 121, 122]⟩, .int .i64 2] := by rw [hW12]; exact iC_11.alloc _
  have iF_12 : Is W12 DF 23 #[.string ⟨#[1, 2, 120, 121, 122]⟩, .int .i64 4] := by rw [hW12]; exact iF_11.alloc _
  have iL_12 : Is W12 DL 3 #[.int .i64 7, .int .i64 8] := by rw [hW12]; exact iL_11.alloc _
  have iG_12 : Is W12 g 3 cur := by rw [hW12]; exact iG_11.alloc _
  have iH_12 : Is W12 DH 23 #[.string ⟨#[1, 2, 120, 121, 122]⟩, .int .i64 2] := by rw [hW12]; exact iH_11.alloc _
  have iI_12 : Is W12 DI 23 #[.string ⟨#[1, 2, 120, 121, 122]⟩, .int .i64 4] := by rw [hW12]; exact iI_11.alloc _
  obtain ⟨DJ, hDJ⟩ : ∃ D, D = W11.heap.size := ⟨_, rfl⟩
  have iJ_12 : Is W12 DJ 23 #[.string ⟨#[1, 2, 120, 121, 122]⟩, .int .i64 4] := by rw [hW12, hDJ]; exact Is.new _ _ _
  have hB12 : Below w.heap.size w W12 := by rw [hW12]; exact hB11.alloc hB11.size _
  have HS12 := Lib.hid (show W12.heap.size = W11.heap.size + 1 by rw [hW12, World.size_alloc])
  rw [← hW12]
  try rw [← hDJ]
  clear iA_11
  clear iC_11
  clear iF_11
  clear iL_11
  clear iG_11
  clear iH_11
  clear iI_11
  clear hB11
  clear hW12
  have HDJ := Lib.hid hDJ
  clear hDJ
  refine (M5.out _).mono ?_
  rintro e W13 ⟨rfl, hb⟩
  have iA_13 := iA_12.below hb iA_12.lt
  have iC_13 := iC_12.below hb iC_12.lt
  have iF_13 := iF_12.below hb iF_12.lt
  have iL_13 := iL_12.below hb iL_12.lt
  have iG_13 := iG_12.below hb iG_12.lt
  have iH_13 := iH_12.below hb iH_12.lt
  have iI_13 := iI_12.below hb iI_12.lt
  have iJ_13 := iJ_12.below hb iJ_12.lt
  have hB13 := hB12.trans (hb.mono hB12.size)
  clear hb hB12 iA_12 iC_12 iF_12 iL_12 iG_12 iH_12 iI_12 iJ_12
  have cA0 : W13.cell? ⟨DA, 0, none⟩ = some (.string ⟨#[1, 2, 120, 121, 122]⟩) := iA_13.cell 0
  have cA1 : W13.cell? ⟨DA, 1, none⟩ = some (.int .i64 0) := iA_13.cell 1
  have cH0 : W13.cell? ⟨DH, 0, none⟩ = some (.string ⟨#[1, 2, 120, 121, 122]⟩) := iH_13.cell 0
  have cH1 : W13.cell? ⟨DH, 1, none⟩ = some (.int .i64 2) := iH_13.cell 1
  have cg : W13.cell? ⟨g, 0, none⟩ = some (.int .i64 8) := (iG_13.cell 0).trans g0
  go_wp2_with fail
  refine (M6.out _).mono ?_
  rintro e W14 ⟨rfl, hb⟩
  have iA_14 := iA_13.below hb iA_13.lt
  have iC_14 := iC_13.below hb iC_13.lt
  have iF_14 := iF_13.below hb iF_13.lt
  have iL_14 := iL_13.below hb iL_13.lt
  have iG_14 := iG_13.below hb iG_13.lt
  have iH_14 := iH_13.below hb iH_13.lt
  have iI_14 := iI_13.below hb iI_13.lt
  have iJ_14 := iJ_13.below hb iJ_13.lt
  have hB14 := hB13.trans (hb.mono hB13.size)
  clear hb hB13 iA_13 iC_13 iF_13 iL_13 iG_13 iH_13 iI_13 iJ_13
  go_wp2_with fail
  refine (M7.out _).mono ?_
  rintro e W15 ⟨rfl, hb⟩
  have iA_15 := iA_14.below hb iA_14.lt
  have iC_15 := iC_14.below hb iC_14.lt
  have iF_15 := iF_14.below hb iF_14.lt
  have iL_15 := iL_14.below hb iL_14.lt
  have iG_15 := iG_14.below hb iG_14.lt
  have iH_15 := iH_14.below hb iH_14.lt
  have iI_15 := iI_14.below hb iI_14.lt
  have iJ_15 := iJ_14.below hb iJ_14.lt
  have hB15 := hB14.trans (hb.mono hB14.size)
  clear hb hB14 iA_14 iC_14 iF_14 iL_14 iG_14 iH_14 iI_14 iJ_14
  go_wp2
  go_ret
  exact ⟨rfl, hB15⟩
end Go.Proofs.Ytchgkiallbpjkaa
