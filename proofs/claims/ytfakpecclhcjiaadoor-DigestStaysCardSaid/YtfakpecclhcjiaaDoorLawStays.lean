/-
  DigestStays: the walk of the statement's function.
-/
import Derived.Test.YtfakpecclhcjiaaDoorDigK
namespace Go.Proofs.YtfakpecclhcjiaaDoor
open Go.RowKit

theorem empty_append (X : ByteArray) : (⟨#[]⟩ : ByteArray) ++ X = X := by
  apply ByteArray.ext
  simp [ByteArray.data_append]
theorem append_empty (X : ByteArray) : X ++ (⟨#[]⟩ : ByteArray) = X := by
  apply ByteArray.ext
  simp [ByteArray.data_append]
theorem extract_all (X : ByteArray) : X.extract 0 X.size = X := by
  apply ByteArray.ext
  rw [ByteArray.data_extract]
  exact Array.extract_size
theorem right_rest {x : Hs} (hr : rightB x = true) : x.r.size < 64 ∧ (x.r.size : Int) = x.m % 64 ∧ 0 ≤ x.m ∧ x.m ≤ 1048576 := by
  simp only [rightB, Bool.and_eq_true, decide_eq_true_eq, beq_iff_eq] at hr
  omega
theorem add_nothing {x : Hs} (hr : rightB x = true) : addH x ⟨#[]⟩ = x := by
  obtain ⟨h1, _⟩ := right_rest hr
  obtain ⟨h, r, m⟩ := x
  have h1' : r.size < 64 := h1
  simp only [addH, append_empty]
  have e1 : mixT h r = h := by simp [mixT, blks, mixL, Nat.div_eq_of_lt h1']
  have e2 : r.size - r.size % 64 = 0 := by omega
  rw [e1, e2, extract_all]
  show Hs.mk h r (m + 0) = _
  rw [Int.add_zero]
theorem add_first (X : ByteArray) : addH Hs0 X = ⟨mixT H0 X, X.extract (X.size - X.size % 64) X.size, X.size⟩ := by
  simp [addH, Hs0, empty_append]

set_option maxRecDepth 100000 in
set_option maxHeartbeats 1000000 in
theorem stays_walk (s : ByteArray) (w : World) (hT : Tab w) (hs : s.size ≤ maxLen) :
    Calls Tryd.prog 7 #[.string s] w fun e w' => e = .returned (.bool true) ∧ Below w.heap.size w w' := by
  unfold maxLen at hs
  go_enter Tryd.func7, Tryd.ntmps7
  go_wp2_with fail
  refine (awake_any _ hT).mono ?_
  rintro e w1 ⟨rfl, hB1⟩
  go_wp2_with fail
  have hX : (s.extract 0 (min (s.size : Int) 500).toNat).size ≤ 500 := by simp; omega
  generalize s.extract 0 (min (s.size : Int) 500).toNat = X at *
  refine (new_any _ (hT.below hB1 hT.two)).mono ?_
  rintro e w2 ⟨rfl, hb2⟩
  have hB2 : Below w.heap.size w w2 := hB1.trans (hb2.mono hB1.size)
  clear hb2 hB1
  have hle : (X.size : Int) ≤ 1048576 - Hs0.m := by show (X.size : Int) ≤ 1048576 - 0; omega
  have hr := right_add right_new hle
  have hyr : (addH Hs0 X).r.size = X.size % 64 := by rw [add_first]; simp; omega
  have hye : X.extract (X.size - (addH Hs0 X).r.size) X.size = (addH Hs0 X).r := by rw [hyr, add_first]
  have HLE := Lib.hid hle
  clear hle
  go_wp2_with fail
  refine (add_ok Hs0 X _ (hT.below hB2 hT.two) right_new HLE.out).mono ?_
  rintro e w3 ⟨rfl, hb3⟩
  have hB3 : Below w.heap.size w w3 := hB2.trans (hb3.mono hB2.size)
  clear hb3 hB2
  generalize addH Hs0 X = y at *
  have HR := Lib.hid hr
  have HYR := Lib.hid hyr
  have HYE := Lib.hid hye
  clear hr hyr hye
  go_wp2_with fail
  have i3 : Is (w3.alloc (.cells y.arr 25)) w3.heap.size 25 y.arr := Is.new w3 _ _
  have hB3' := hB3.alloc hB3.size (.cells y.arr 25)
  refine (add_ok y ⟨#[]⟩ _ (hT.below hB3' hT.two) HR.out (by have := right_rest HR.out; show (0 : Int) ≤ _; omega)).mono ?_
  rintro e w4 ⟨rfl, hb4⟩
  rw [add_nothing HR.out]
  have i4 : Is w4 w3.heap.size 25 y.arr := i3.below hb4 i3.lt
  have hB4 : Below w.heap.size w w4 := hB3'.trans (hb4.mono hB3'.size)
  clear hb4 hB3' i3 hB3
  have hl4 : w3.heap.size < w4.heap.size := i4.lt
  have a0 : w4.cell? ⟨w3.heap.size, 0, none⟩ = some (.int .u32 y.h.a) := i4.cell 0
  have a1 : w4.cell? ⟨w3.heap.size, 1, none⟩ = some (.int .u32 y.h.b) := i4.cell 1
  have a2 : w4.cell? ⟨w3.heap.size, 2, none⟩ = some (.int .u32 y.h.c) := i4.cell 2
  have a3 : w4.cell? ⟨w3.heap.size, 3, none⟩ = some (.int .u32 y.h.d) := i4.cell 3
  have a4 : w4.cell? ⟨w3.heap.size, 4, none⟩ = some (.int .u32 y.h.e) := i4.cell 4
  have a5 : w4.cell? ⟨w3.heap.size, 5, none⟩ = some (.int .u32 y.h.f) := i4.cell 5
  have a6 : w4.cell? ⟨w3.heap.size, 6, none⟩ = some (.int .u32 y.h.g) := i4.cell 6
  have a7 : w4.cell? ⟨w3.heap.size, 7, none⟩ = some (.int .u32 y.h.h) := i4.cell 7
  have a8 : w4.cell? ⟨w3.heap.size, 8, none⟩ = some (.string y.r) := i4.cell 8
  have a9 : w4.cell? ⟨w3.heap.size, 9, none⟩ = some (.int .i64 y.m) := i4.cell 9
  go_wp2_with fail
  have j4 : Is (w4.alloc (.cells y.arr 25)) w4.heap.size 25 y.arr := Is.new w4 _ _
  have i4' := i4.alloc (.cells y.arr 25)
  have hB4' := hB4.alloc hB4.size (.cells y.arr 25)
  refine (end_ok y _ (hT.below hB4' hT.two) HR.out).mono ?_
  rintro e w5 ⟨rfl, hb5⟩
  have i5 : Is w5 w3.heap.size 25 y.arr := i4'.below hb5 i4'.lt
  have j5 : Is w5 w4.heap.size 25 y.arr := j4.below hb5 j4.lt
  have hB5 : Below w.heap.size w w5 := hB4'.trans (hb5.mono hB4'.size)
  clear hb5 hB4' hB4 i4 i4' j4 a0 a1 a2 a3 a4 a5 a6 a7 a8 a9
  have hps := endS_size y
  generalize hp : endS y = p at *
  have HPS := Lib.hid hps
  have HP := Lib.hid hp
  clear hps hp
  have b0 : w5.cell? ⟨w4.heap.size, 0, none⟩ = some (.int .u32 y.h.a) := j5.cell 0
  have b1 : w5.cell? ⟨w4.heap.size, 1, none⟩ = some (.int .u32 y.h.b) := j5.cell 1
  have b2 : w5.cell? ⟨w4.heap.size, 2, none⟩ = some (.int .u32 y.h.c) := j5.cell 2
  have b3 : w5.cell? ⟨w4.heap.size, 3, none⟩ = some (.int .u32 y.h.d) := j5.cell 3
  have b4 : w5.cell? ⟨w4.heap.size, 4, none⟩ = some (.int .u32 y.h.e) := j5.cell 4
  have b5 : w5.cell? ⟨w4.heap.size, 5, none⟩ = some (.int .u32 y.h.f) := j5.cell 5
  have b6 : w5.cell? ⟨w4.heap.size, 6, none⟩ = some (.int .u32 y.h.g) := j5.cell 6
  have b7 : w5.cell? ⟨w4.heap.size, 7, none⟩ = some (.int .u32 y.h.h) := j5.cell 7
  have b8 : w5.cell? ⟨w4.heap.size, 8, none⟩ = some (.string y.r) := j5.cell 8
  have b9 : w5.cell? ⟨w4.heap.size, 9, none⟩ = some (.int .i64 y.m) := j5.cell 9
  go_wp2_with fail
  refine (end_ok y _ (hT.below hB5 hT.two) HR.out).mono ?_
  rintro e w6 ⟨rfl, hb6⟩
  rw [HP.out]
  have i6 : Is w6 w3.heap.size 25 y.arr := i5.below hb6 i5.lt
  have j6 : Is w6 w4.heap.size 25 y.arr := j5.below hb6 j5.lt
  have hB6 : Below w.heap.size w w6 := hB5.trans (hb6.mono hB5.size)
  clear hb6 hB5 i5 j5 b0 b1 b2 b3 b4 b5 b6 b7 b8 b9
  have a0 : w6.cell? ⟨w3.heap.size, 0, none⟩ = some (.int .u32 y.h.a) := i6.cell 0
  have a1 : w6.cell? ⟨w3.heap.size, 1, none⟩ = some (.int .u32 y.h.b) := i6.cell 1
  have a2 : w6.cell? ⟨w3.heap.size, 2, none⟩ = some (.int .u32 y.h.c) := i6.cell 2
  have a3 : w6.cell? ⟨w3.heap.size, 3, none⟩ = some (.int .u32 y.h.d) := i6.cell 3
  have a4 : w6.cell? ⟨w3.heap.size, 4, none⟩ = some (.int .u32 y.h.e) := i6.cell 4
  have a5 : w6.cell? ⟨w3.heap.size, 5, none⟩ = some (.int .u32 y.h.f) := i6.cell 5
  have a6 : w6.cell? ⟨w3.heap.size, 6, none⟩ = some (.int .u32 y.h.g) := i6.cell 6
  have a7 : w6.cell? ⟨w3.heap.size, 7, none⟩ = some (.int .u32 y.h.h) := i6.cell 7
  have a8 : w6.cell? ⟨w3.heap.size, 8, none⟩ = some (.string y.r) := i6.cell 8
  have a9 : w6.cell? ⟨w3.heap.size, 9, none⟩ = some (.int .i64 y.m) := i6.cell 9
  have b0 : w6.cell? ⟨w4.heap.size, 0, none⟩ = some (.int .u32 y.h.a) := j6.cell 0
  have b1 : w6.cell? ⟨w4.heap.size, 1, none⟩ = some (.int .u32 y.h.b) := j6.cell 1
  have b2 : w6.cell? ⟨w4.heap.size, 2, none⟩ = some (.int .u32 y.h.c) := j6.cell 2
  have b3 : w6.cell? ⟨w4.heap.size, 3, none⟩ = some (.int .u32 y.h.d) := j6.cell 3
  have b4 : w6.cell? ⟨w4.heap.size, 4, none⟩ = some (.int .u32 y.h.e) := j6.cell 4
  have b5 : w6.cell? ⟨w4.heap.size, 5, none⟩ = some (.int .u32 y.h.f) := j6.cell 5
  have b6 : w6.cell? ⟨w4.heap.size, 6, none⟩ = some (.int .u32 y.h.g) := j6.cell 6
  have b7 : w6.cell? ⟨w4.heap.size, 7, none⟩ = some (.int .u32 y.h.h) := j6.cell 7
  have b8 : w6.cell? ⟨w4.heap.size, 8, none⟩ = some (.string y.r) := j6.cell 8
  have b9 : w6.cell? ⟨w4.heap.size, 9, none⟩ = some (.int .i64 y.m) := j6.cell 9
  have q1 : ((p.size : Int) == 32) = true := by rw [HPS.out]; rfl
  have q2 : ((y.r.size : Int) == (X.size : Int) % 64) = true := by rw [HYR.out]; simp
  have q3 : ((y.r.size : Int) == (X.size : Int).tmod 64) = true := by rw [Int.tmod_eq_emod_of_nonneg (by omega), HYR.out]; simp
  have hyl : y.r.size ≤ X.size := by rw [HYR.out]; omega
  have hew := IntWalk.i64_in ((X.size : Int) - (y.r.size : Int)) (by omega)
  have hsl : ∀ wx : World, (Instr.slice 9 (.string X) (some (.int .i64 ((X.size : Int) - (y.r.size : Int)))) none none).run Tryd.prog wx = .ok (.string y.r) wx := fun wx => by
    have := run_slice_string_l (P := Tryd.prog) (w := wx) (t := 9) (s := X) Tryd.underlying9 .i64 ((X.size : Int) - (y.r.size : Int)) (by omega) (by omega)
    rw [show ((X.size : Int) - (y.r.size : Int)).toNat = X.size - y.r.size by omega, HYE.out] at this
    exact this
  have hml := IntWalk.i64_in ((X.size : Int) % 64) (by omega)
  go_wp2
  go_region_held3 (fun w' => w'.cell? ⟨w3.heap.size, 0, none⟩ = some (.int .u32 y.h.a) ∧ w'.cell? ⟨w3.heap.size, 1, none⟩ = some (.int .u32 y.h.b) ∧ w'.cell? ⟨w3.heap.size, 2, none⟩ = some (.int .u32 y.h.c) ∧ w'.cell? ⟨w3.heap.size, 3, none⟩ = some (.int .u32 y.h.d) ∧ w'.cell? ⟨w3.heap.size, 4, none⟩ = some (.int .u32 y.h.e) ∧ w'.cell? ⟨w3.heap.size, 5, none⟩ = some (.int .u32 y.h.f) ∧ w'.cell? ⟨w3.heap.size, 6, none⟩ = some (.int .u32 y.h.g) ∧ w'.cell? ⟨w3.heap.size, 7, none⟩ = some (.int .u32 y.h.h) ∧ w'.cell? ⟨w3.heap.size, 8, none⟩ = some (.string y.r) ∧ w'.cell? ⟨w3.heap.size, 9, none⟩ = some (.int .i64 y.m) ∧ w'.cell? ⟨w4.heap.size, 0, none⟩ = some (.int .u32 y.h.a) ∧ w'.cell? ⟨w4.heap.size, 1, none⟩ = some (.int .u32 y.h.b) ∧ w'.cell? ⟨w4.heap.size, 2, none⟩ = some (.int .u32 y.h.c) ∧ w'.cell? ⟨w4.heap.size, 3, none⟩ = some (.int .u32 y.h.d) ∧ w'.cell? ⟨w4.heap.size, 4, none⟩ = some (.int .u32 y.h.e) ∧ w'.cell? ⟨w4.heap.size, 5, none⟩ = some (.int .u32 y.h.f) ∧ w'.cell? ⟨w4.heap.size, 6, none⟩ = some (.int .u32 y.h.g) ∧ w'.cell? ⟨w4.heap.size, 7, none⟩ = some (.int .u32 y.h.h) ∧ w'.cell? ⟨w4.heap.size, 8, none⟩ = some (.string y.r) ∧ w'.cell? ⟨w4.heap.size, 9, none⟩ = some (.int .i64 y.m))
    (go_keep)
    (first
      | (go_at_call 15; refine (same_self y _).mono ?_; rintro e w7 ⟨rfl, hb7⟩; have i7 : Is w7 w3.heap.size 25 y.arr := Is.below (i6.drewN 1) hb7 i6.lt; have j7 : Is w7 w4.heap.size 25 y.arr := Is.below (j6.drewN 1) hb7 j6.lt; have hB7 : Below w.heap.size w w7 := (belowN hB6 1).trans (hb7.mono hB6.size); clear hb7 a0 a1 a2 a3 a4 a5 a6 a7 a8 a9 b0 b1 b2 b3 b4 b5 b6 b7 b8 b9; have a0 : w7.cell? ⟨w3.heap.size, 0, none⟩ = some (.int .u32 y.h.a) := i7.cell 0; have a1 : w7.cell? ⟨w3.heap.size, 1, none⟩ = some (.int .u32 y.h.b) := i7.cell 1; have a2 : w7.cell? ⟨w3.heap.size, 2, none⟩ = some (.int .u32 y.h.c) := i7.cell 2; have a3 : w7.cell? ⟨w3.heap.size, 3, none⟩ = some (.int .u32 y.h.d) := i7.cell 3; have a4 : w7.cell? ⟨w3.heap.size, 4, none⟩ = some (.int .u32 y.h.e) := i7.cell 4; have a5 : w7.cell? ⟨w3.heap.size, 5, none⟩ = some (.int .u32 y.h.f) := i7.cell 5; have a6 : w7.cell? ⟨w3.heap.size, 6, none⟩ = some (.int .u32 y.h.g) := i7.cell 6; have a7 : w7.cell? ⟨w3.heap.size, 7, none⟩ = some (.int .u32 y.h.h) := i7.cell 7; have a8 : w7.cell? ⟨w3.heap.size, 8, none⟩ = some (.string y.r) := i7.cell 8; have a9 : w7.cell? ⟨w3.heap.size, 9, none⟩ = some (.int .i64 y.m) := i7.cell 9; have b0 : w7.cell? ⟨w4.heap.size, 0, none⟩ = some (.int .u32 y.h.a) := j7.cell 0; have b1 : w7.cell? ⟨w4.heap.size, 1, none⟩ = some (.int .u32 y.h.b) := j7.cell 1; have b2 : w7.cell? ⟨w4.heap.size, 2, none⟩ = some (.int .u32 y.h.c) := j7.cell 2; have b3 : w7.cell? ⟨w4.heap.size, 3, none⟩ = some (.int .u32 y.h.d) := j7.cell 3; have b4 : w7.cell? ⟨w4.heap.size, 4, none⟩ = some (.int .u32 y.h.e) := j7.cell 4; have b5 : w7.cell? ⟨w4.heap.size, 5, none⟩ = some (.int .u32 y.h.f) := j7.cell 5; have b6 : w7.cell? ⟨w4.heap.size, 6, none⟩ = some (.int .u32 y.h.g) := j7.cell 6; have b7 : w7.cell? ⟨w4.heap.size, 7, none⟩ = some (.int .u32 y.h.h) := j7.cell 7; have b8 : w7.cell? ⟨w4.heap.size, 8, none⟩ = some (.string y.r) := j7.cell 8; have b9 : w7.cell? ⟨w4.heap.size, 9, none⟩ = some (.int .i64 y.m) := j7.cell 9))
  go_wp2
  go_ret
  exact ⟨rfl, hB7⟩
end Go.Proofs.YtfakpecclhcjiaaDoor
