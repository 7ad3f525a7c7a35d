/-
  Layer 12: contract of the statements' own awake.
-/
import Derived.Test.YtglcckpkbnppoaaBuzC
import Derived.Deep.DeepCutAuto
namespace Go.Proofs.Ytglcckpkbnppoaa
open Go.RowKit Go.Shelf

theorem cell_below12 {W W' : World} (hb : Below W.heap.size W W') {p : Addr} {v : Value} (h : W.cell? p = some v) (hp : p.block < W.heap.size) : W'.cell? p = some v := by
  rw [← h]
  simp only [World.cell?, hb.block _ hp]
set_option maxRecDepth 100000 in
set_option maxHeartbeats 8000000 in
theorem awake12_any (w : World) : Calls Try.prog 9 #[] w fun e w' => e = .returned (.bool true) ∧ Below w.heap.size w w' := by
  have HN := Lib.hid (fun W => by have := bnew_any12 8 W; rwa [ex_new] at this)
  have HN9 := Lib.hid (fun W => by have := bnew_any12 9 W; rwa [ex_new9] at this)
  have HC1 := Lib.hid (fun W => qcell_any12 1 W (by omega))
  have HC2 := Lib.hid (fun W => qcell_any12 2 W (by omega))
  have HP1 := Lib.hid (fun A c W (h : InS W exS0 A c) => by have := bput_any12 exS0 A c exA12 (cell12 1) W h; rwa [ex_put1] at this)
  have HP2 := Lib.hid (fun A c W (h : InS W exS1 A c) => by have := bput_any12 exS1 A c exB12 (cell12 2) W h; rwa [ex_put2] at this)
  have HP3 := Lib.hid (fun A c W (h : InS W exS0 A c) => by have := bput_any12 exS0 A c ⟨#[97]⟩ (cell12 1) W h; rwa [ex_put3] at this)
  have HG2 := Lib.hid (fun A c W (h : InS W exS2 A c) => by have := bget_any12 exS2 A c exB12 W h; rwa [ex_get2] at this)
  have HD := Lib.hid (fun A c W (h : InS W exS2 A c) => by have := bdel_any12 exS2 A c exA12 W h; rwa [ex_del] at this)
  have HG3 := Lib.hid (fun A c W (h : InS W exS3 A c) => by have := bget_any12 exS3 A c exA12 W h; rwa [ex_get3] at this)
  have HL := Lib.hid (fun A c W (h : InS W exS3 A c) => by have := ball_yes12 exS3 A c W h ex_right; rwa [ex_all] at this)
  have HR := Lib.hid (fun A c W (h : InS W exS3 A c) => by have := bright_any12 exS3 A c W h; rwa [ex_right] at this)
  have HH := Lib.hid (fun W => by have := home_any12 exB12 8 W (by omega); rwa [ex_home] at this)
  have mk16 : ∀ W : World, (Instr.makeSlice 58 (.int .i64 16) (.int .i64 16)).run Try.prog W = .ok (.slice (some ⟨W.heap.size, 0, none⟩) 16 16) (W.alloc (.cells (nulC10 16) 5)) := fun W => run_makeN10 W 16 (by omega)
  have mk12 : ∀ W : World, (Instr.makeSlice 58 (.int .i64 12) (.int .i64 12)).run Try.prog W = .ok (.slice (some ⟨W.heap.size, 0, none⟩) 12 12) (W.alloc (.cells (nulC10 12) 5)) := fun W => run_makeN10 W 12 (by omega)
  have cv16 : ∀ W : World, (convert 58 9 (.slice (some ⟨W.heap.size, 0, none⟩) 16 16)).run Try.prog (W.alloc (.cells (nulC10 16) 5)) = .ok (.string exA12) (W.alloc (.cells (nulC10 16) 5)) := fun W => run_convN10 (Is.new W 5 (nulC10 16))
  have cv12 : ∀ W : World, (convert 58 9 (.slice (some ⟨W.heap.size, 0, none⟩) 12 12)).run Try.prog (W.alloc (.cells (nulC10 12) 5)) = .ok (.string (nulN10 12)) (W.alloc (.cells (nulC10 12) 5)) := fun W => run_convN10 (Is.new W 5 (nulC10 12))
  have hsz : ¬ 9223372036854775807 < (⟨#[0, 0, 0, 8]⟩ : ByteArray).size + (nulN10 12).size := by rw [nulN10_size]; decide
  have hB12 : (⟨#[0, 0, 0, 8]⟩ : ByteArray) ++ nulN10 12 = exB12 := rfl
  have MK16 := Lib.hid mk16
  have MK12 := Lib.hid mk12
  have CV16 := Lib.hid cv16
  have CV12 := Lib.hid cv12
  have HSZ := Lib.hid hsz
  have HB12 := Lib.hid hB12
  clear mk16 mk12 cv16 cv12 hsz hB12
  go_enter Try.func9, Try.ntmps9
  go_wp2_with fail
  refine (HN.out _).mono ?_
  rintro e W1 ⟨A0, c0, rfl, hr1, hb1⟩
  have hin1 : InS W1 exS0 A0 c0 := RowB.inS hr1 (by show (8 : Nat) ≤ 4096; omega)
  have i1 : Is (W1.alloc (.cells (stoA exS0 A0 c0) 31)) W1.heap.size 31 (stoA exS0 A0 c0) := Is.new _ _ _
  have hin2 := hin1.keep ((Below.refl _ _).alloc (Nat.le_refl _) (.cells (stoA exS0 A0 c0) 31))
  have hb2 := hb1.alloc hb1.size (.cells (stoA exS0 A0 c0) 31)
  clear hr1 hin1 HN
  have hd1 := hb1.size
  clear hb1
  go_upto_region 2 with (fail)
  obtain ⟨D1, hD1⟩ : ∃ D1, D1 = W1.heap.size := ⟨_, rfl⟩
  rw [← hD1] at i1 hd1 ⊢
  clear hD1
  generalize W1.alloc (.cells (stoA exS0 A0 c0) 31) = W2 at *
  have mk16 := MK16.out W2
  have cv16 := CV16.out W2
  go_upto_region 3 with (fail)
  have i1 := i1.alloc (.cells (nulC10 16) 5)
  have hin3 := hin2.keep ((Below.refl _ _).alloc (Nat.le_refl _) (.cells (nulC10 16) 5))
  have hb3 := hb2.alloc hb2.size (.cells (nulC10 16) 5)
  clear mk16 cv16 MK16 CV16 hin2 hb2
  generalize W2.alloc (.cells (nulC10 16) 5) = W3 at *
  have mk12 := MK12.out W3
  have cv12 := CV12.out W3
  have hsz := HSZ.out
  have hB12 := HB12.out
  go_upto_region 4 with (fail)
  have i1 := i1.alloc (.cells (nulC10 12) 5)
  have hin4 := hin3.keep ((Below.refl _ _).alloc (Nat.le_refl _) (.cells (nulC10 12) 5))
  have hb4 := hb3.alloc hb3.size (.cells (nulC10 12) 5)
  clear mk12 cv12 MK12 CV12 hin3 hb3 hsz hB12 HSZ HB12
  generalize W3.alloc (.cells (nulC10 12) 5) = W4 at *
  refine Code.wp_mono ?_ (aw12_4 W4 D1 exS0 exS1 A0 c0 exA12 (cell12 1) 0 i1 HC1 (Lib.hid fun W h => HP1.out A0 c0 W (hin4.keep h)) _ _ _ _ _ _ _ _ _ _ _ _ _ _ _ _ _ _ _ _ _ _ _ _ _ _ _ _ _ _ _ _ _ _ _ _ _ _ _ _ _ _ _ _ _ _ _ _ _ _ _ _ _ _ _ _ _ _ _ _ _ _ _ _ _ _ _ _ _ _ _ _ _ _ _ _ _ _ _ _ _ _ _ _ _ _ _ _ _ _ _ _ _ _ _ _ _ _ _ _ _ _ _ _ _ _ _ _ _ _ _ _ _ _ _ _ _ _ _ _ _ _ _ _ _ _ _ _ _ _ _ _ _ _ _ _ _ _ _ _ _ _ _ _ _ _ _)
  rintro ex ⟨T, D⟩ W5 ⟨rfl, hDf, A1, c1, D5, hT, hb5, hin5, hd5, i5⟩
  simp only at hT hDf
  subst hT
  subst hDf
  have i1' := i1.below hb5 i1.lt
  have hin0 := hin4.keep hb5
  have hB5 := hb4.trans (hb5.mono hb4.size)
  have hd5' := hb4.size
  clear i1 hin4 hb4 hb5
  go_upto_region 5 with (fail)
  refine Code.wp_mono ?_ (aw12_5 W5 D5 exS1 exS2 A1 c1 exB12 (cell12 2) 0 i5 HC2 (Lib.hid fun W h => HP2.out A1 c1 W (hin5.keep h)) _ _ _ _ _ _ _ _ _ _ _ _ _ _ _ _ _ _ _ _ _ _ _ _ _ _ _ _ _ _ _ _ _ _ _ _ _ _ _ _ _ _ _ _ _ _ _ _ _ _ _ _ _ _ _ _ _ _ _ _ _ _ _ _ _ _ _ _ _ _ _ _ _ _ _ _ _ _ _ _ _ _ _ _ _ _ _ _ _ _ _ _ _ _ _ _ _ _ _ _ _ _ _ _ _ _ _ _ _ _ _ _ _ _ _ _ _ _ _ _ _ _ _ _ _ _ _ _ _ _ _ _ _ _ _ _ _ _ _ _ _ _ _ _ _ _ _)
  rintro ex ⟨T, D⟩ W6 ⟨rfl, hDf, A2, c2, D7, hT, hb6, hin6, hd6, i7⟩
  simp only at hT hDf
  subst hT
  subst hDf
  have j1 := i1'.below hb6 i1'.lt
  have jn0 := hin0.keep hb6
  have hB6 := hB5.trans (hb6.mono hB5.size)
  have hd6' := hB5.size
  clear i1' hin0 hB5 hb6 hin5 i5
  go_wp2_with (refine wpList_load_row rfl 31 _ rfl D7 rfl _ _ _ _ i7 Try.underlying31 rfl infoSto12 ?_)
  refine (HG2.out A2 c2 _ hin6).mono ?_
  rintro e W7 ⟨rfl, hb⟩
  have j1 := j1.below hb j1.lt
  have i7 := i7.below hb i7.lt
  have jn0 := jn0.keep hb
  have hin6 := hin6.keep hb
  have hB6 := hB6.trans (hb.mono hB6.size)
  clear hb
  go_wp2_with (refine wpList_load_row rfl 31 _ rfl D7 rfl _ _ _ _ i7 Try.underlying31 rfl infoSto12 ?_)
  refine (HD.out A2 c2 _ hin6).mono ?_
  rintro e W8 ⟨A3, c3, rfl, hin8, hb⟩
  have j1 := j1.below hb j1.lt
  have i7 := i7.below hb i7.lt
  have jn0 := jn0.keep hb
  have hin6 := hin6.keep hb
  have hB6 := hB6.trans (hb.mono hB6.size)
  clear hb
  have i11 : Is (W8.alloc (.cells (stoA exS3 A3 c3) 31)) W8.heap.size 31 (stoA exS3 A3 c3) := Is.new _ _ _
  have j1 := j1.alloc (.cells (stoA exS3 A3 c3) 31)
  have i7 := i7.alloc (.cells (stoA exS3 A3 c3) 31)
  have jn0 := jn0.keep ((Below.refl _ _).alloc (Nat.le_refl _) (.cells (stoA exS3 A3 c3) 31))
  have hin6 := hin6.keep ((Below.refl _ _).alloc (Nat.le_refl _) (.cells (stoA exS3 A3 c3) 31))
  have hin8 := hin8.keep ((Below.refl _ _).alloc (Nat.le_refl _) (.cells (stoA exS3 A3 c3) 31))
  have hB6 := hB6.alloc hB6.size (.cells (stoA exS3 A3 c3) 31)
  go_upto_region 8 with (fail)
  generalize W8.alloc (.cells (stoA exS3 A3 c3) 31) = W9 at *
  generalize W8.heap.size = D11 at *
  go_wp2_with (refine wpList_load_row rfl 31 _ rfl D11 rfl _ _ _ _ i11 Try.underlying31 rfl infoSto12 ?_)
  refine (HG3.out A3 c3 _ hin8).mono ?_
  rintro e W10 ⟨rfl, hb⟩
  have j1 := j1.below hb j1.lt
  have i7 := i7.below hb i7.lt
  have i11 := i11.below hb i11.lt
  have jn0 := jn0.keep hb
  have hin6 := hin6.keep hb
  have hin8 := hin8.keep hb
  have hB6 := hB6.trans (hb.mono hB6.size)
  clear hb
  go_wp2_with (refine wpList_load_row rfl 31 _ rfl D11 rfl _ _ _ _ i11 Try.underlying31 rfl infoSto12 ?_)
  refine (HL.out A3 c3 _ hin8).mono ?_
  rintro e W11 ⟨A5, c5, rfl, hl11, hb⟩
  have j1 := j1.below hb j1.lt
  have i7 := i7.below hb i7.lt
  have i11 := i11.below hb i11.lt
  have jn0 := jn0.keep hb
  have hin6 := hin6.keep hb
  have hin8 := hin8.keep hb
  have hB6 := hB6.trans (hb.mono hB6.size)
  clear hb
  go_wp2_with fail
  refine (HN9.out _).mono ?_
  rintro e W12 ⟨A6, c6, rfl, _, hb⟩
  have j1 := j1.below hb j1.lt
  have i7 := i7.below hb i7.lt
  have i11 := i11.below hb i11.lt
  have jn0 := jn0.keep hb
  have hin6 := hin6.keep hb
  have hin8 := hin8.keep hb
  have hl11 := hl11.keep hb
  have hB6 := hB6.trans (hb.mono hB6.size)
  clear hb
  have j1 := j1.alloc (.cells (stoA ⟨[], 0, 0⟩ A6 c6) 31)
  have i7 := i7.alloc (.cells (stoA ⟨[], 0, 0⟩ A6 c6) 31)
  have i11 := i11.alloc (.cells (stoA ⟨[], 0, 0⟩ A6 c6) 31)
  have jn0 := jn0.keep ((Below.refl _ _).alloc (Nat.le_refl _) (.cells (stoA ⟨[], 0, 0⟩ A6 c6) 31))
  have hin6 := hin6.keep ((Below.refl _ _).alloc (Nat.le_refl _) (.cells (stoA ⟨[], 0, 0⟩ A6 c6) 31))
  have hin8 := hin8.keep ((Below.refl _ _).alloc (Nat.le_refl _) (.cells (stoA ⟨[], 0, 0⟩ A6 c6) 31))
  have hl11 := hl11.keep ((Below.refl _ _).alloc (Nat.le_refl _) (.cells (stoA ⟨[], 0, 0⟩ A6 c6) 31))
  have hB6 := hB6.alloc hB6.size (.cells (stoA ⟨[], 0, 0⟩ A6 c6) 31)
  go_upto_region 11 with (fail)
  generalize W12.alloc (.cells (stoA ⟨[], 0, 0⟩ A6 c6) 31) = W13 at *
  refine Code.wp_mono ?_ (aw12_11 W13 D1 exS0 exS0 A0 c0 (cell12 1) 1 j1 HC1 (Lib.hid fun W h => HP3.out A0 c0 W (jn0.keep h)) _ _ _ _ _ _ _ _ _ _ _ _ _ _ _ _ _ _ _ _ _ _ _ _ _ _ _ _ _ _ _ _ _ _ _ _ _ _ _ _ _ _ _ _ _ _ _ _ _ _ _ _ _ _ _ _ _ _ _ _ _ _ _ _ _ _ _ _ _ _ _ _ _ _ _ _ _ _ _ _ _ _ _ _ _ _ _ _ _ _ _ _ _ _ _ _ _ _ _ _ _ _ _ _ _ _ _ _ _ _ _ _ _ _ _ _ _ _ _ _ _ _ _ _ _ _ _ _ _ _ _ _ _ _ _ _ _ _ _ _ _ _ _ _ _ _ _ _)
  rintro ex ⟨T, D⟩ W14 ⟨rfl, hDf, A7, c7, D19, hT, hb, _, _, _⟩
  simp only at hT hDf
  subst hT
  subst hDf
  have j1 := j1.below hb j1.lt
  have i7 := i7.below hb i7.lt
  have i11 := i11.below hb i11.lt
  have jn0 := jn0.keep hb
  have hin6 := hin6.keep hb
  have hin8 := hin8.keep hb
  have hl11 := hl11.keep hb
  have hB6 := hB6.trans (hb.mono hB6.size)
  clear hb
  obtain ⟨bA, oA, rfl, _, hrA⟩ := hin6.b.bkt ex_at
  obtain ⟨b5, o5, rfl, hb5l, hl5⟩ := hl11 0 (.string exB12) rfl
  have cL : W14.cell? ⟨bA, oA + 1 * 3 + 1, none⟩ = some (.string exB12) := hrA 1 _ rfl
  have c7' : W14.cell? ⟨D7, 0, none⟩ = some (.slice (some ⟨bA, oA, none⟩) exS2.B.length c2) := i7.cell 0
  rw [ex_len] at c7'
  have cl5 : W14.cell? ⟨b5, o5, none⟩ = some (.string exB12) := by have := hl5; rwa [Nat.add_zero] at this
  clear hrA hl5
  go_wp2_with (first | (go_at_call 24; refine (HC2.out _).mono ?_; rintro e W15 ⟨rfl, hb⟩; have i11 := i11.below hb i11.lt; have hin8 := hin8.keep hb; have hB6 := hB6.trans (hb.mono hB6.size); have cl5 := cell_below12 hb cl5 hb5l; have d0 : W15.cell? ⟨D11, 0, none⟩ = some (.slice A3 exS3.B.length c3) := i11.cell 0; have d1 : W15.cell? ⟨D11, 1, none⟩ = some (.int .i64 exS3.many) := i11.cell 1; have d2 : W15.cell? ⟨D11, 2, none⟩ = some (.int .i64 exS3.gone) := i11.cell 2) | (go_at_call 14; refine (HH.out _).mono ?_; rintro e W16 ⟨rfl, rfl⟩) | (go_at_call 18; refine (HR.out A3 c3 _ hin8).mono ?_; rintro e W17 ⟨rfl, hb⟩))
  go_ret
  exact ⟨rfl, hB6.trans (hb.mono hB6.size)⟩
end Go.Proofs.Ytglcckpkbnppoaa
