/-
  Contracts of digest.Add with an error, digest.End, digest.Compress and digest.Sum. Conditions: the tables hold what their initialisers lay.
-/
import Derived.Test.YtcpkkicpkmjagaaDoorDigX
namespace Go.Proofs.YtcpkkicpkmjagaaDoor
open Go.RowKit

theorem Hs.one (x : Hs) : x.arr.all (·.oneCell') = true := by
  rw [Array.all_eq_true_iff_forall_mem]
  intro v hv
  simp only [Hs.arr, List.mem_toArray, List.mem_cons, List.not_mem_nil, or_false] at hv
  rcases hv with rfl | rfl | rfl | rfl | rfl | rfl | rfl | rfl | rfl | rfl <;> rfl

set_option maxRecDepth 100000 in
set_option maxHeartbeats 1000000 in
theorem add_arg (x : Hs) (s : ByteArray) (w : World) (hr : rightB x = false) :
    Calls Tryd.prog 13 #[.agg x.arr, .string s] w fun e w' => e = .returned (.tuple #[.agg HsZ.arr, .int .i64 1]) ∧ Below w.heap.size w w' := by
  have HR := Lib.hid hr
  clear hr
  go_enter Tryd.func13, Tryd.ntmps13
  go_wp2_with fail
  refine (right_any x _).mono ?_
  rintro e w1 ⟨rfl, hb1⟩
  rw [HR.out]
  have iZ : Is w1 (w.heap.size + 1) 25 HsZ.arr := Is.below (heap_alloc2_new w _ _) hb1 (by simp)
  have hB1 : Below w.heap.size w w1 := (((Below.refl _ _).alloc (Nat.le_refl _) _).alloc (by simp) _).trans (hb1.mono (by simp; omega))
  clear hb1
  go_wp2_with (refine wpList_store_row rfl 25 _ _ rfl (w.heap.size + 1) HsZ.arr rfl rfl _ _ iZ (by kernel_rfl) rfl (Hs.one _) ?_)
  exact bodyPost_ret (results_row_tmp Tryd.results13 _ _ (w.heap.size + 1) 25 HsZ.arr (0, 0) _ rfl (iZ.row _) Tryd.underlying25 rfl (by kernel_rfl)) rfl ⟨rfl, belowRow hB1 (by omega) _⟩

set_option maxRecDepth 100000 in
set_option maxHeartbeats 1000000 in
theorem add_long (x : Hs) (s : ByteArray) (w : World) (hr : rightB x = true) (hs : 1048576 - x.m < (s.size : Int)) :
    Calls Tryd.prog 13 #[.agg x.arr, .string s] w fun e w' => e = .returned (.tuple #[.agg HsZ.arr, .int .i64 2]) ∧ Below w.heap.size w w' := by
  have hr' := hr
  simp only [rightB, Bool.and_eq_true, decide_eq_true_eq, beq_iff_eq] at hr'
  obtain ⟨⟨h0, h1⟩, _⟩ := hr'
  have HR := Lib.hid hr
  clear hr
  go_enter Tryd.func13, Tryd.ntmps13
  go_wp2_with fail
  refine (right_any x _).mono ?_
  rintro e w1 ⟨rfl, hb1⟩
  rw [HR.out]
  have iX : Is w1 w.heap.size 25 x.arr := Is.below (heap_alloc2_old w _ _) hb1 (by simp; omega)
  have iZ : Is w1 (w.heap.size + 1) 25 HsZ.arr := Is.below (heap_alloc2_new w _ _) hb1 (by simp)
  have hB1 : Below w.heap.size w w1 := (((Below.refl _ _).alloc (Nat.le_refl _) _).alloc (by simp) _).trans (hb1.mono (by simp; omega))
  clear hb1
  have c9 : w1.cell? ⟨w.heap.size, 9, none⟩ = some (.int .i64 x.m) := iX.cell 9
  go_wp2_with (refine wpList_store_row rfl 25 _ _ rfl (w.heap.size + 1) HsZ.arr rfl rfl _ _ iZ (by kernel_rfl) rfl (Hs.one _) ?_)
  exact bodyPost_ret (results_row_tmp Tryd.results13 _ _ (w.heap.size + 1) 25 HsZ.arr (0, 0) _ rfl (iZ.row _) Tryd.underlying25 rfl (by kernel_rfl)) rfl ⟨rfl, belowRow hB1 (by omega) _⟩

/-- the sum's bytes. -/
def endS (x : Hs) : ByteArray := strOfNums (wbTo (mixT x.h (x.r ++ strOfNums (padTo x.m 8))) 8)

set_option maxRecDepth 100000 in
set_option maxHeartbeats 1000000 in
theorem end_arg (x : Hs) (w : World) (hr : rightB x = false) :
    Calls Tryd.prog 19 #[.agg x.arr] w fun e w' => e = .returned (.tuple #[.string ⟨#[]⟩, .int .i64 1]) ∧ Below w.heap.size w w' := by
  have HR := Lib.hid hr
  clear hr
  go_enter Tryd.func19, Tryd.ntmps19
  go_wp2_with fail
  refine (right_any x _).mono ?_
  rintro e w1 ⟨rfl, hb1⟩
  rw [HR.out]
  have hB1 : Below w.heap.size w w1 := ((Below.refl _ _).alloc (Nat.le_refl _) _).trans (hb1.mono (by simp))
  clear hb1
  go_wp2
  go_ret2
  exact ⟨rfl, hB1⟩

theorem nolong {a b : Nat} (ha : a < 64) (hb : b ≤ 72) : ¬ (9223372036854775807 < a + b) := by omega
theorem str_size (l : List Int) : (strOfNums l).size = l.length := by simp [strOfNums, ByteArray.size]

set_option maxRecDepth 100000 in
set_option maxHeartbeats 1000000 in
theorem end_ok (x : Hs) (w : World) (hT : Tab w) (hr : rightB x = true) :
    Calls Tryd.prog 19 #[.agg x.arr] w fun e w' => e = .returned (.tuple #[.string (endS x), .int .i64 0]) ∧ Below w.heap.size w w' := by
  have hr' := hr
  simp only [rightB, Bool.and_eq_true, decide_eq_true_eq, beq_iff_eq] at hr'
  obtain ⟨⟨h0, h1⟩, h2⟩ := hr'
  have hrs : x.r.size < 64 := by omega
  have HR := Lib.hid hr
  clear hr h2
  have hps : (strOfNums (padTo x.m 8)).size ≤ 72 := by rw [str_size, padTo_length]; have := noughts_lt x.m; omega
  have hts : (x.r ++ strOfNums (padTo x.m 8)).size ≤ 9223372036854775000 := by simp; omega
  have HTS := Lib.hid hts
  clear hts
  have HPS := Lib.hid hps
  clear hps
  go_enter Tryd.func19, Tryd.ntmps19
  go_wp2_with fail
  refine (right_any x _).mono ?_
  rintro e w1 ⟨rfl, hb1⟩
  rw [HR.out]
  have iX : Is w1 w.heap.size 25 x.arr := Is.below (heap_alloc_new w _) hb1 (by simp)
  have hB1 : Below w.heap.size w w1 := ((Below.refl _ _).alloc (Nat.le_refl _) _).trans (hb1.mono (by simp))
  have hT1 : Tab w1 := hT.below hB1 hT.two
  clear hb1
  go_wp2
  have a0 : w1.cell? ⟨w.heap.size, 0, none⟩ = some (.int .u32 x.h.a) := iX.cell 0
  have a1 : w1.cell? ⟨w.heap.size, 1, none⟩ = some (.int .u32 x.h.b) := iX.cell 1
  have a2 : w1.cell? ⟨w.heap.size, 2, none⟩ = some (.int .u32 x.h.c) := iX.cell 2
  have a3 : w1.cell? ⟨w.heap.size, 3, none⟩ = some (.int .u32 x.h.d) := iX.cell 3
  have a4 : w1.cell? ⟨w.heap.size, 4, none⟩ = some (.int .u32 x.h.e) := iX.cell 4
  have a5 : w1.cell? ⟨w.heap.size, 5, none⟩ = some (.int .u32 x.h.f) := iX.cell 5
  have a6 : w1.cell? ⟨w.heap.size, 6, none⟩ = some (.int .u32 x.h.g) := iX.cell 6
  have a7 : w1.cell? ⟨w.heap.size, 7, none⟩ = some (.int .u32 x.h.h) := iX.cell 7
  have a8 : w1.cell? ⟨w.heap.size, 8, none⟩ = some (.string x.r) := iX.cell 8
  have a9 : w1.cell? ⟨w.heap.size, 9, none⟩ = some (.int .i64 x.m) := iX.cell 9
  go_region_held3 (fun w' => w'.cell? ⟨w.heap.size, 0, none⟩ = some (.int .u32 x.h.a) ∧ w'.cell? ⟨w.heap.size, 1, none⟩ = some (.int .u32 x.h.b) ∧ w'.cell? ⟨w.heap.size, 2, none⟩ = some (.int .u32 x.h.c) ∧ w'.cell? ⟨w.heap.size, 3, none⟩ = some (.int .u32 x.h.d) ∧ w'.cell? ⟨w.heap.size, 4, none⟩ = some (.int .u32 x.h.e) ∧ w'.cell? ⟨w.heap.size, 5, none⟩ = some (.int .u32 x.h.f) ∧ w'.cell? ⟨w.heap.size, 6, none⟩ = some (.int .u32 x.h.g) ∧ w'.cell? ⟨w.heap.size, 7, none⟩ = some (.int .u32 x.h.h) ∧ w'.cell? ⟨w.heap.size, 8, none⟩ = some (.string x.r) ∧ w'.cell? ⟨w.heap.size, 9, none⟩ = some (.int .i64 x.m))
    (go_keep)
    (first
      | (go_at_call 43; refine (padding_any x.m _ h0 h1).mono ?_; rintro e w2 ⟨rfl, hb2⟩; generalize hpp : strOfNums (padTo x.m 8) = pp at HTS HPS ⊢; have HPP := Lib.hid hpp; clear hpp; have hps := HPS.out; have hnl := nolong hrs hps; have j2 : Is w2 w.heap.size 25 x.arr := Is.below (iX.drewN 1) hb2 iX.lt; have hB2 : Below w.heap.size w w2 := (belowN hB1 1).trans (hb2.mono hB1.size); have b0 : w2.cell? ⟨w.heap.size, 0, none⟩ = some (.int .u32 x.h.a) := j2.cell 0; have b1 : w2.cell? ⟨w.heap.size, 1, none⟩ = some (.int .u32 x.h.b) := j2.cell 1; have b2 : w2.cell? ⟨w.heap.size, 2, none⟩ = some (.int .u32 x.h.c) := j2.cell 2; have b3 : w2.cell? ⟨w.heap.size, 3, none⟩ = some (.int .u32 x.h.d) := j2.cell 3; have b4 : w2.cell? ⟨w.heap.size, 4, none⟩ = some (.int .u32 x.h.e) := j2.cell 4; have b5 : w2.cell? ⟨w.heap.size, 5, none⟩ = some (.int .u32 x.h.f) := j2.cell 5; have b6 : w2.cell? ⟨w.heap.size, 6, none⟩ = some (.int .u32 x.h.g) := j2.cell 6; have b7 : w2.cell? ⟨w.heap.size, 7, none⟩ = some (.int .u32 x.h.h) := j2.cell 7; have b8 : w2.cell? ⟨w.heap.size, 8, none⟩ = some (.string x.r) := j2.cell 8; have b9 : w2.cell? ⟨w.heap.size, 9, none⟩ = some (.int .i64 x.m) := j2.cell 9; clear hb2 a0 a1 a2 a3 a4 a5 a6 a7 a8 a9)
      | (go_at_call 39; refine (mixAll_any x.h _ _ HTS.out (hT.below hB2 hT.two)).mono ?_; rintro e w3 ⟨rfl, hb3⟩; generalize hmm : mixT x.h (x.r ++ pp) = mm; have HMM := Lib.hid hmm; clear hmm; have j3 : Is w3 w.heap.size 25 x.arr := Is.below j2 hb3 j2.lt; have hB3 : Below w.heap.size w w3 := hB2.trans (hb3.mono hB2.size); have d0 : w3.cell? ⟨w.heap.size, 0, none⟩ = some (.int .u32 x.h.a) := j3.cell 0; have d1 : w3.cell? ⟨w.heap.size, 1, none⟩ = some (.int .u32 x.h.b) := j3.cell 1; have d2 : w3.cell? ⟨w.heap.size, 2, none⟩ = some (.int .u32 x.h.c) := j3.cell 2; have d3 : w3.cell? ⟨w.heap.size, 3, none⟩ = some (.int .u32 x.h.d) := j3.cell 3; have d4 : w3.cell? ⟨w.heap.size, 4, none⟩ = some (.int .u32 x.h.e) := j3.cell 4; have d5 : w3.cell? ⟨w.heap.size, 5, none⟩ = some (.int .u32 x.h.f) := j3.cell 5; have d6 : w3.cell? ⟨w.heap.size, 6, none⟩ = some (.int .u32 x.h.g) := j3.cell 6; have d7 : w3.cell? ⟨w.heap.size, 7, none⟩ = some (.int .u32 x.h.h) := j3.cell 7; have d8 : w3.cell? ⟨w.heap.size, 8, none⟩ = some (.string x.r) := j3.cell 8; have d9 : w3.cell? ⟨w.heap.size, 9, none⟩ = some (.int .i64 x.m) := j3.cell 9; clear hb3 b0 b1 b2 b3 b4 b5 b6 b7 b8 b9)
      | (go_at_call 42; refine (wordBytes_any mm _).mono ?_; rintro e w4 ⟨rfl, hb4⟩; generalize hss : strOfNums (wbTo mm 8) = ss; have HSS := Lib.hid hss; clear hss; have j4 : Is w4 w.heap.size 25 x.arr := Is.below j3 hb4 j3.lt; have hB4 : Below w.heap.size w w4 := hB3.trans (hb4.mono hB3.size); have c0 : w4.cell? ⟨w.heap.size, 0, none⟩ = some (.int .u32 x.h.a) := j4.cell 0; have c1 : w4.cell? ⟨w.heap.size, 1, none⟩ = some (.int .u32 x.h.b) := j4.cell 1; have c2 : w4.cell? ⟨w.heap.size, 2, none⟩ = some (.int .u32 x.h.c) := j4.cell 2; have c3 : w4.cell? ⟨w.heap.size, 3, none⟩ = some (.int .u32 x.h.d) := j4.cell 3; have c4 : w4.cell? ⟨w.heap.size, 4, none⟩ = some (.int .u32 x.h.e) := j4.cell 4; have c5 : w4.cell? ⟨w.heap.size, 5, none⟩ = some (.int .u32 x.h.f) := j4.cell 5; have c6 : w4.cell? ⟨w.heap.size, 6, none⟩ = some (.int .u32 x.h.g) := j4.cell 6; have c7 : w4.cell? ⟨w.heap.size, 7, none⟩ = some (.int .u32 x.h.h) := j4.cell 7; have c8 : w4.cell? ⟨w.heap.size, 8, none⟩ = some (.string x.r) := j4.cell 8; have c9 : w4.cell? ⟨w.heap.size, 9, none⟩ = some (.int .i64 x.m) := j4.cell 9; clear hb4 d0 d1 d2 d3 d4 d5 d6 d7 d8 d9))
  go_wp2
  go_ret2
  exact ⟨by rw [endS, HPP.out, HMM.out, HSS.out]; rfl, hB4⟩

set_option maxRecDepth 100000 in
set_option maxHeartbeats 1000000 in
theorem compress_arg (h : S8) (s : ByteArray) (w : World) (hs : ((s.size : Int) != 64) = true) :
    Calls Tryd.prog 11 #[.agg h.arr, .string s] w fun e w' => e = .returned (.tuple #[.agg (S8.mk 0 0 0 0 0 0 0 0).arr, .int .i64 1]) ∧ Below w.heap.size w w' := by
  go_enter Tryd.func11, Tryd.ntmps11
  go_wp2
  refine bodyPost_ret (results_row_tmp Tryd.results11 _ _ (w.heap.size + 1) 23 (S8.mk 0 0 0 0 0 0 0 0).arr (0, 0) _ rfl (heap_alloc2_new w _ _) Tryd.underlying23 rfl (by kernel_rfl)) rfl ⟨rfl, ?_⟩
  exact ((Below.refl _ _).alloc (Nat.le_refl _) _).alloc (by simp) _

set_option maxRecDepth 100000 in
set_option maxHeartbeats 1000000 in
theorem compress_ok (h : S8) (s : ByteArray) (w : World) (hs : s.size = 64) (hT : Tab w) :
    Calls Tryd.prog 11 #[.agg h.arr, .string s] w fun e w' => e = .returned (.tuple #[.agg (mixS h s).arr, .int .i64 0]) ∧ Below w.heap.size w w' := by
  have hne : ((s.size : Int) != 64) = false := by rw [hs]; rfl
  have HS := Lib.hid hs
  clear hs
  go_enter Tryd.func11, Tryd.ntmps11
  go_wp2_with fail
  have hB0 : Below w.heap.size w ((w.alloc (.cells h.arr 23)).alloc (.cells (S8.mk 0 0 0 0 0 0 0 0).arr 23)) := ((Below.refl _ _).alloc (Nat.le_refl _) _).alloc (by simp) _
  refine (mix_any h s _ HS.out (hT.below hB0 hT.two)).mono ?_
  rintro e w1 ⟨rfl, hb1⟩
  have iZ : Is w1 (w.heap.size + 1) 23 (S8.mk 0 0 0 0 0 0 0 0).arr := Is.below (heap_alloc2_new w _ _) hb1 (by simp)
  have hB1 : Below w.heap.size w w1 := hB0.trans (hb1.mono (by simp; omega))
  clear hb1 hB0
  generalize hmx : mixS h s = mx
  have HM := Lib.hid hmx
  clear hmx
  go_wp2_with (refine wpList_store_row rfl 23 _ _ rfl (w.heap.size + 1) mx.arr rfl rfl _ _ iZ (by kernel_rfl) rfl (arr_one _) ?_)
  exact bodyPost_ret (results_row_tmp Tryd.results11 _ _ (w.heap.size + 1) 23 mx.arr (0, 0) _ rfl (iZ.row _) Tryd.underlying23 rfl (by kernel_rfl)) rfl ⟨by rw [HM.out]; rfl, belowRow hB1 (by omega) _⟩

theorem right_add {x : Hs} {s : ByteArray} (hr : rightB x = true) (hs : (s.size : Int) ≤ 1048576 - x.m) : rightB (addH x s) = true := by
  simp only [rightB, Bool.and_eq_true, decide_eq_true_eq, beq_iff_eq] at hr ⊢
  obtain ⟨⟨h0, h1⟩, h2⟩ := hr
  simp only [addH, ByteArray.size_extract, ByteArray.size_append]
  refine ⟨⟨by omega, by omega⟩, ?_⟩
  omega
theorem right_new : rightB Hs0 = true := by decide

set_option maxRecDepth 100000 in
set_option maxHeartbeats 1000000 in
theorem sum_ok (s : ByteArray) (w : World) (hT : Tab w) (hs : s.size ≤ 1048576) :
    Calls Tryd.prog 23 #[.string s] w fun e w' => e = .returned (.tuple #[.string (endS (addH Hs0 s)), .int .i64 0]) ∧ Below w.heap.size w w' := by
  have hle : (s.size : Int) ≤ 1048576 - Hs0.m := by show (s.size : Int) ≤ 1048576 - 0; omega
  have hr := right_add right_new hle
  have HLE := Lib.hid hle
  have HR := Lib.hid hr
  clear hle hr
  go_enter Tryd.func23, Tryd.ntmps23
  go_wp2_with fail
  refine (new_any _ hT).mono ?_
  rintro e w1 ⟨rfl, hb1⟩
  go_wp2_with fail
  refine (add_ok Hs0 s _ (hT.below hb1 hT.two) right_new HLE.out).mono ?_
  rintro e w2 ⟨rfl, hb2⟩
  generalize hy : addH Hs0 s = y at HR ⊢
  have HY := Lib.hid hy
  clear hy
  have hB2 : Below w.heap.size w w2 := hb1.trans (hb2.mono hb1.size)
  clear hb1 hb2
  go_wp2_with fail
  have hB3 := hB2.alloc hB2.size (.cells y.arr 25)
  refine (end_ok y _ (hT.below hB3 hT.two) HR.out).mono ?_
  rintro e w3 ⟨rfl, hb3⟩
  have hB4 : Below w.heap.size w w3 := hB3.trans (hb3.mono hB3.size)
  clear hb3 hB3 hB2
  generalize hes : endS y = es
  have HES := Lib.hid hes
  clear hes
  go_wp2
  go_ret2
  exact ⟨by rw [HY.out, HES.out]; rfl, hB4⟩
end Go.Proofs.YtcpkkicpkmjagaaDoor
