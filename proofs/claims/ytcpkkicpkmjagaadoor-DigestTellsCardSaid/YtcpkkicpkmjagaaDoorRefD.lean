/-
  Contracts of the document's own answer for layer 1: Add. Conditions: the words are in their range.
-/
import Derived.Test.YtcpkkicpkmjagaaDoorRefH
namespace Go.Proofs.YtcpkkicpkmjagaaDoor
open Go.RowKit

set_option maxRecDepth 100000 in
set_option maxHeartbeats 1000000 in
theorem radd_arg (x : Hs) (s : ByteArray) (w : World) (hr : rightB x = false) :
    Calls Tryd.prog 15 #[.agg x.arr, .string s] w fun e w' => e = .returned (.tuple #[.agg HsZ.arr, .int .i64 1]) ∧ Below w.heap.size w w' := by
  have HR := Lib.hid hr
  clear hr
  go_enter Tryd.func15, Tryd.ntmps15
  go_wp2_with fail
  refine (rright_any x _).mono ?_
  rintro e w1 ⟨rfl, hb1⟩
  rw [HR.out]
  have iZ : Is w1 (w.heap.size + 1) 25 HsZ.arr := Is.below (heap_alloc2_new w _ _) hb1 (by simp)
  have hB1 : Below w.heap.size w w1 := (((Below.refl _ _).alloc (Nat.le_refl _) _).alloc (by simp) _).trans (hb1.mono (by simp; omega))
  clear hb1
  go_wp2_with (refine wpList_store_row rfl 25 _ _ rfl (w.heap.size + 1) HsZ.arr rfl rfl _ _ iZ (by kernel_rfl) rfl (Hs.one _) ?_)
  exact bodyPost_ret (results_row_tmp Tryd.results15 _ _ (w.heap.size + 1) 25 HsZ.arr (0, 0) _ rfl (iZ.row _) Tryd.underlying25 rfl (by kernel_rfl)) rfl ⟨rfl, belowRow hB1 (by omega) _⟩

set_option maxRecDepth 100000 in
set_option maxHeartbeats 1000000 in
theorem radd_long (x : Hs) (s : ByteArray) (w : World) (hr : rightB x = true) (hs : 1048576 - x.m < (s.size : Int)) :
    Calls Tryd.prog 15 #[.agg x.arr, .string s] w fun e w' => e = .returned (.tuple #[.agg HsZ.arr, .int .i64 2]) ∧ Below w.heap.size w w' := by
  have hr' := hr
  simp only [rightB, Bool.and_eq_true, decide_eq_true_eq, beq_iff_eq] at hr'
  obtain ⟨⟨h0, h1⟩, _⟩ := hr'
  have HR := Lib.hid hr
  clear hr
  go_enter Tryd.func15, Tryd.ntmps15
  go_wp2_with fail
  refine (rright_any x _).mono ?_
  rintro e w1 ⟨rfl, hb1⟩
  rw [HR.out]
  have iX : Is w1 w.heap.size 25 x.arr := Is.below (heap_alloc2_old w _ _) hb1 (by simp; omega)
  have iZ : Is w1 (w.heap.size + 1) 25 HsZ.arr := Is.below (heap_alloc2_new w _ _) hb1 (by simp)
  have hB1 : Below w.heap.size w w1 := (((Below.refl _ _).alloc (Nat.le_refl _) _).alloc (by simp) _).trans (hb1.mono (by simp; omega))
  clear hb1
  have c9 : w1.cell? ⟨w.heap.size, 9, none⟩ = some (.int .i64 x.m) := iX.cell 9
  go_wp2_with (refine wpList_store_row rfl 25 _ _ rfl (w.heap.size + 1) HsZ.arr rfl rfl _ _ iZ (by kernel_rfl) rfl (Hs.one _) ?_)
  exact bodyPost_ret (results_row_tmp Tryd.results15 _ _ (w.heap.size + 1) 25 HsZ.arr (0, 0) _ rfl (iZ.row _) Tryd.underlying25 rfl (by kernel_rfl)) rfl ⟨rfl, belowRow hB1 (by omega) _⟩

theorem addS_ok (a b : S8) : (addS a b).Ok := ⟨okW_mod _, okW_mod _, okW_mod _, okW_mod _, okW_mod _, okW_mod _, okW_mod _, okW_mod _⟩
theorem mixL_ok {h : S8} (hh : h.Ok) (l : List B64) : (mixL h l).Ok := by
  induction l generalizing h with
  | nil => exact hh
  | cons b l ih => exact ih (addS_ok _ _)

set_option maxRecDepth 100000 in
set_option maxHeartbeats 400000 in
theorem radd_ok (x : Hs) (s : ByteArray) (w : World) (hh : x.h.Ok) (hr : rightB x = true) (hs : (s.size : Int) ≤ 1048576 - x.m) :
    Calls Tryd.prog 15 #[.agg x.arr, .string s] w fun e w' => e = .returned (.tuple #[.agg (addH x s).arr, .int .i64 0]) ∧ Below w.heap.size w w' := by
  have hr' := hr
  simp only [rightB, Bool.and_eq_true, decide_eq_true_eq, beq_iff_eq] at hr'
  obtain ⟨⟨h0, h1⟩, h2⟩ := hr'
  have hrs : x.r.size < 64 := by omega
  have HR := Lib.hid hr
  have H2 := Lib.hid h2
  clear hr h2
  have htxt : (x.r ++ s).size = x.r.size + s.size := by simp
  have HX := Lib.hid htxt
  go_enter Tryd.func15, Tryd.ntmps15
  go_wp2_with fail
  refine (rright_any x _).mono ?_
  rintro e w1 ⟨rfl, hb1⟩
  rw [HR.out]
  have iX : Is w1 w.heap.size 25 x.arr := Is.below (heap_alloc2_old w _ _) hb1 (by simp; omega)
  have iZ : Is w1 (w.heap.size + 1) 25 HsZ.arr := Is.below (heap_alloc2_new w _ _) hb1 (by simp)
  have hB1 : Below w.heap.size w w1 := (((Below.refl _ _).alloc (Nat.le_refl _) _).alloc (by simp) _).trans (hb1.mono (by simp; omega))
  clear hb1 htxt
  have a0 : w1.cell? ⟨w.heap.size, 0, none⟩ = some (.int .u32 x.h.a) := iX.cell 0
  have a1 : w1.cell? ⟨w.heap.size, 1, none⟩ = some (.int .u32 x.h.b) := iX.cell 1
  have a2 : w1.cell? ⟨w.heap.size, 2, none⟩ = some (.int .u32 x.h.c) := iX.cell 2
  have a3 : w1.cell? ⟨w.heap.size, 3, none⟩ = some (.int .u32 x.h.d) := iX.cell 3
  have a4 : w1.cell? ⟨w.heap.size, 4, none⟩ = some (.int .u32 x.h.e) := iX.cell 4
  have a5 : w1.cell? ⟨w.heap.size, 5, none⟩ = some (.int .u32 x.h.f) := iX.cell 5
  have a6 : w1.cell? ⟨w.heap.size, 6, none⟩ = some (.int .u32 x.h.g) := iX.cell 6
  have a7 : w1.cell? ⟨w.heap.size, 7, none⟩ = some (.int .u32 x.h.h) := iX.cell 7
  have c8 : w1.cell? ⟨w.heap.size, 8, none⟩ = some (.string x.r) := iX.cell 8
  have c9 : w1.cell? ⟨w.heap.size, 9, none⟩ = some (.int .i64 x.m) := iX.cell 9
  have hgt : decide (1048576 - x.m < (s.size : Int)) = false := by simp; omega
  go_wp2
  obtain ⟨T, hTe⟩ : ∃ T, T = x.r ++ s := ⟨_, rfl⟩
  have hTs : T.size = x.r.size + s.size := by rw [hTe]; exact HX.out
  rw [← hTe]
  have hTc : T.size ≤ 1048639 := by omega
  have HTe := Lib.hid hTe
  have HTs := Lib.hid hTs
  have HH := Lib.hid hh
  clear hTe hTs hh a0 a1 a2 a3 a4 a5 a6 a7 c8 c9
  have hlt1 : w.heap.size + 1 < w1.heap.size := iZ.lt
  go_loopw [8] (fun i wr => ∃ k : Nat, k * 64 ≤ T.size ∧ i = .int .i64 ((k : Int) * 64) ∧ Is wr w1.heap.size 23 (mixL x.h (blks T k)).arr ∧ Is wr w.heap.size 25 x.arr ∧ Is wr (w.heap.size + 1) 25 HsZ.arr ∧ Below w.heap.size w wr)
    (fun i _ => T.size - (intOf i).toNat)
  case atStart =>
    refine ⟨0, by omega, rfl, ?_, iX.alloc _, iZ.alloc _, hB1.alloc hB1.size _⟩
    exact heap_alloc_new w1 _
  case round =>
    have hB1s : w.heap.size ≤ w1.heap.size := hB1.size
    clear iX iZ hB1
    obtain ⟨k, hk, rfl, iS, iX, iZ, hB⟩ := hrel
    by_cases hlt : k * 64 + 64 ≤ T.size
    · have hok : (mixL x.h (blks T k)).Ok := mixL_ok HH.out _
      have hnx : mixL x.h (blks T (k + 1)) = mixS (mixL x.h (blks T k)) (T.extract (k * 64) (k * 64 + 64)) := by
        rw [blks_succ, mixL_snoc, blk, dif_pos hlt]
      generalize hsr : mixL x.h (blks T k) = sr at *
      have HSR := Lib.hid hsr
      have HOK := Lib.hid hok
      have HNX := Lib.hid hnx
      clear hsr hok hnx
      have hsz : (T.extract (k * 64) (k * 64 + 64)).size = 64 := by simp; omega
      have HSZ := Lib.hid hsz
      clear hsz
      have hd : decide ((k : Int) * 64 + 64 ≤ (T.size : Int)) = true := by simp; omega
      have hsl : ∀ wx : World, (Instr.slice 9 (.string T) (some (.int .i64 ((k : Int) * 64))) (some (.int .i64 ((k : Int) * 64 + 64))) none).run Tryd.prog wx = .ok (.string (T.extract (k * 64) (k * 64 + 64))) wx := fun wx => by
        have h := run_slice_string (P := Tryd.prog) (w := wx) 9 T .i64 .i64 ((k : Int) * 64) ((k : Int) * 64 + 64) Tryd.underlying9 (by omega) (by omega) (by omega)
        have e1 : ((k : Int) * 64).toNat = k * 64 := by omega
        have e2 : ((k : Int) * 64 + 64).toNat = k * 64 + 64 := by omega
        rw [e1, e2] at h
        exact h
      generalize T.extract (k * 64) (k * 64 + 64) = B at *
      have c0 : wr.cell? ⟨w1.heap.size, 0, none⟩ = some (.int .u32 sr.a) := iS.cell 0
      have c1 : wr.cell? ⟨w1.heap.size, 1, none⟩ = some (.int .u32 sr.b) := iS.cell 1
      have c2 : wr.cell? ⟨w1.heap.size, 2, none⟩ = some (.int .u32 sr.c) := iS.cell 2
      have c3 : wr.cell? ⟨w1.heap.size, 3, none⟩ = some (.int .u32 sr.d) := iS.cell 3
      have c4 : wr.cell? ⟨w1.heap.size, 4, none⟩ = some (.int .u32 sr.e) := iS.cell 4
      have c5 : wr.cell? ⟨w1.heap.size, 5, none⟩ = some (.int .u32 sr.f) := iS.cell 5
      have c6 : wr.cell? ⟨w1.heap.size, 6, none⟩ = some (.int .u32 sr.g) := iS.cell 6
      have c7 : wr.cell? ⟨w1.heap.size, 7, none⟩ = some (.int .u32 sr.h) := iS.cell 7
      have hwk := IntWalk.i64_in ((k : Int) * 64 + 64) (by omega)
      go_wp2
      go_region_with
        (first | (go_at_call 12; refine (rcompress_ok sr B _ HSZ.out HOK.out).mono ?_; rintro e w2 ⟨rfl, hb2⟩; generalize hmm : mixS sr B = mm; have HMM := Lib.hid hmm; clear hmm; have j2 : Is w2 w1.heap.size 23 sr.arr := Is.below (iS.drewN 1) hb2 iS.lt; have jX : Is w2 w.heap.size 25 x.arr := Is.below (iX.drewN 1) hb2 iX.lt; have jZ : Is w2 (w.heap.size + 1) 25 HsZ.arr := Is.below (iZ.drewN 1) hb2 iZ.lt; have hB2 : Below w.heap.size w w2 := (belowN hB 1).trans (hb2.mono hB.size); have b0 : w2.cell? ⟨w1.heap.size, 0, none⟩ = some (.int .u32 sr.a) := j2.cell 0; have y0 := j2.frozen 0; have b1 : w2.cell? ⟨w1.heap.size, 1, none⟩ = some (.int .u32 sr.b) := j2.cell 1; have y1 := j2.frozen 1; have b2 : w2.cell? ⟨w1.heap.size, 2, none⟩ = some (.int .u32 sr.c) := j2.cell 2; have y2 := j2.frozen 2; have b3 : w2.cell? ⟨w1.heap.size, 3, none⟩ = some (.int .u32 sr.d) := j2.cell 3; have y3 := j2.frozen 3; have b4 : w2.cell? ⟨w1.heap.size, 4, none⟩ = some (.int .u32 sr.e) := j2.cell 4; have y4 := j2.frozen 4; have b5 : w2.cell? ⟨w1.heap.size, 5, none⟩ = some (.int .u32 sr.f) := j2.cell 5; have y5 := j2.frozen 5; have b6 : w2.cell? ⟨w1.heap.size, 6, none⟩ = some (.int .u32 sr.g) := j2.cell 6; have y6 := j2.frozen 6; have b7 : w2.cell? ⟨w1.heap.size, 7, none⟩ = some (.int .u32 sr.h) := j2.cell 7; have y7 := j2.frozen 7; clear hb2 c0 c1 c2 c3 c4 c5 c6 c7))
      go_wp2
      go_roundw
      case rel =>
        refine ⟨k + 1, by omega, by go_num, ?_, jX.far8 (by omega) mm, jZ.far8 (by omega) mm, below8 hB2 hB1s mm⟩
        rw [HNX.out, HMM.out]
        exact j2.set8 mm
      case measure => simp [intOf]; omega
    · have hkk : k = T.size / 64 := by omega
      have hE : T.extract (k * 64) T.size = T.extract (T.size - T.size % 64) T.size := by
        have e : k * 64 = T.size - T.size % 64 := by omega
        rw [e]
      have hmt : mixL x.h (blks T k) = mixT x.h T := by rw [hkk, mixT]
      rw [hmt] at iS
      generalize hsr : mixT x.h T = sr at *
      have HSR := Lib.hid hsr
      have HE := Lib.hid hE
      clear hsr hE hmt hkk
      have hd : decide ((k : Int) * 64 + 64 ≤ (T.size : Int)) = false := by simp; omega
      have hwk := IntWalk.i64_in ((k : Int) * 64 + 64) (by omega)
      have hwm := IntWalk.i64_in (x.m + (s.size : Int)) (by omega)
      have hsl : ∀ wx : World, (Instr.slice 9 (.string T) (some (.int .i64 ((k : Int) * 64))) none none).run Tryd.prog wx = .ok (.string (T.extract (k * 64) T.size)) wx := fun wx => by
        have h := run_slice_string_l (P := Tryd.prog) (w := wx) (t := 9) (s := T) Tryd.underlying9 .i64 ((k : Int) * 64) (by omega) (by omega)
        have e1 : ((k : Int) * 64).toNat = k * 64 := by omega
        rw [e1] at h
        exact h
      generalize T.extract (k * 64) T.size = E at *
      have c0 : wr.cell? ⟨w1.heap.size, 0, none⟩ = some (.int .u32 sr.a) := iS.cell 0
      have z0 : wr.cell? ⟨w.heap.size + 1, 0, none⟩ = some (.int .u32 0) := iZ.cell 0
      have c1 : wr.cell? ⟨w1.heap.size, 1, none⟩ = some (.int .u32 sr.b) := iS.cell 1
      have z1 : wr.cell? ⟨w.heap.size + 1, 1, none⟩ = some (.int .u32 0) := iZ.cell 1
      have c2 : wr.cell? ⟨w1.heap.size, 2, none⟩ = some (.int .u32 sr.c) := iS.cell 2
      have z2 : wr.cell? ⟨w.heap.size + 1, 2, none⟩ = some (.int .u32 0) := iZ.cell 2
      have c3 : wr.cell? ⟨w1.heap.size, 3, none⟩ = some (.int .u32 sr.d) := iS.cell 3
      have z3 : wr.cell? ⟨w.heap.size + 1, 3, none⟩ = some (.int .u32 0) := iZ.cell 3
      have c4 : wr.cell? ⟨w1.heap.size, 4, none⟩ = some (.int .u32 sr.e) := iS.cell 4
      have z4 : wr.cell? ⟨w.heap.size + 1, 4, none⟩ = some (.int .u32 0) := iZ.cell 4
      have c5 : wr.cell? ⟨w1.heap.size, 5, none⟩ = some (.int .u32 sr.f) := iS.cell 5
      have z5 : wr.cell? ⟨w.heap.size + 1, 5, none⟩ = some (.int .u32 0) := iZ.cell 5
      have c6 : wr.cell? ⟨w1.heap.size, 6, none⟩ = some (.int .u32 sr.g) := iS.cell 6
      have z6 : wr.cell? ⟨w.heap.size + 1, 6, none⟩ = some (.int .u32 0) := iZ.cell 6
      have c7 : wr.cell? ⟨w1.heap.size, 7, none⟩ = some (.int .u32 sr.h) := iS.cell 7
      have z7 : wr.cell? ⟨w.heap.size + 1, 7, none⟩ = some (.int .u32 0) := iZ.cell 7
      have z8 : wr.cell? ⟨w.heap.size + 1, 8, none⟩ = some (.string ⟨#[]⟩) := iZ.cell 8
      have z9 : wr.cell? ⟨w.heap.size + 1, 9, none⟩ = some (.int .i64 0) := iZ.cell 9
      have x9 : wr.cell? ⟨w.heap.size, 9, none⟩ = some (.int .i64 x.m) := iX.cell 9
      have y0 := iZ.frozen 0
      have y1 := iZ.frozen 1
      have y2 := iZ.frozen 2
      have y3 := iZ.frozen 3
      have y4 := iZ.frozen 4
      have y5 := iZ.frozen 5
      have y6 := iZ.frozen 6
      have y7 := iZ.frozen 7
      have y8 := iZ.frozen 8
      have y9 := iZ.frozen 9
      go_wp2
      refine wp_region_still_tail 10 (by kernel_rfl) (by kernel_rfl) ?_
      change wpStill _ _ (wr.drewN 1) (fun a' => wpList _ _ _ _ a' (wr.drewN 1)) _ _
      simp only [List.take_succ_cons, List.take_zero, List.drop_succ_cons, List.drop_zero]
      repeat still_step
      refine wpStill_nil ?_
      go_wp2
      have hr : Is ((setH wr (w.heap.size + 1) ⟨sr, E, x.m + s.size⟩).drewN 1) (w.heap.size + 1) 25 (Hs.mk sr E (x.m + s.size)).arr := (iZ.setH _).drewN 1
      have hBr : Below w.heap.size w ((setH wr (w.heap.size + 1) ⟨sr, E, x.m + s.size⟩).drewN 1) := belowN (belowH hB (by omega) _) 1
      change bodyPost _ _ _ _ _ ((setH wr (w.heap.size + 1) ⟨sr, E, x.m + s.size⟩).drewN 1)
      generalize (setH wr (w.heap.size + 1) ⟨sr, E, x.m + s.size⟩).drewN 1 = WR at *
      refine bodyPost_ret (results_row_tmp Tryd.results15 _ _ (w.heap.size + 1) 25 (Hs.mk sr E (x.m + s.size)).arr (0, 0) _ rfl hr Tryd.underlying25 rfl (by kernel_rfl)) rfl ⟨?_, hBr⟩
      rw [addH, ← HTe.out, HSR.out, ← HE.out]
      rfl
end Go.Proofs.YtcpkkicpkmjagaaDoor
