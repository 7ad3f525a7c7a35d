/-
  Contracts of digest.Add: how a text is added to a sum on its way. Conditions: the text is at most 2^40 bytes; the tables hold what their initialisers lay.
-/
import Derived.Test.YtcpkkicpkmjagaaDoorDigT
import Derived.Deep.RegionHeld3
namespace Go.Proofs.YtcpkkicpkmjagaaDoor
open Go.RowKit

def HsZ : Hs := ⟨⟨0, 0, 0, 0, 0, 0, 0, 0⟩, ⟨#[]⟩, 0⟩
/-- a text added: the text's whole blocks are mixed in, the rest is kept. -/
def addH (x : Hs) (s : ByteArray) : Hs :=
  ⟨mixT x.h (x.r ++ s), (x.r ++ s).extract ((x.r ++ s).size - (x.r ++ s).size % 64) (x.r ++ s).size, x.m + s.size⟩

set_option maxRecDepth 100000 in
set_option maxHeartbeats 400000 in
theorem add_ok (x : Hs) (s : ByteArray) (w : World) (hT : Tab w) (hr : rightB x = true) (hs : (s.size : Int) ≤ 1048576 - x.m) :
    Calls Tryd.prog 13 #[.agg x.arr, .string s] w fun e w' => e = .returned (.tuple #[.agg (addH x s).arr, .int .i64 0]) ∧ Below w.heap.size w w' := by
  have hr' := hr
  simp only [rightB, Bool.and_eq_true, decide_eq_true_eq, beq_iff_eq] at hr'
  obtain ⟨⟨h0, h1⟩, h2⟩ := hr'
  have hrs : x.r.size < 64 := by omega
  have HR := Lib.hid hr
  have H2 := Lib.hid h2
  clear hr h2
  have htxt : (x.r ++ s).size = x.r.size + s.size := by simp
  have HX := Lib.hid htxt
  go_enter Tryd.func13, Tryd.ntmps13
  go_wp2_with fail
  refine (right_any x _).mono ?_
  rintro e w1 ⟨rfl, hb1⟩
  rw [HR.out]
  have iX : Is w1 w.heap.size 25 x.arr := Is.below (heap_alloc2_old w _ _) hb1 (by simp; omega)
  have iZ : Is w1 (w.heap.size + 1) 25 HsZ.arr := Is.below (heap_alloc2_new w _ _) hb1 (by simp)
  have hB1 : Below w.heap.size w w1 := (((Below.refl _ _).alloc (Nat.le_refl _) _).alloc (by simp) _).trans (hb1.mono (by simp; omega))
  have hT1 : Tab w1 := hT.below hB1 hT.two
  clear hb1 htxt
  have c8 : w1.cell? ⟨w.heap.size, 8, none⟩ = some (.string x.r) := iX.cell 8
  have c9 : w1.cell? ⟨w.heap.size, 9, none⟩ = some (.int .i64 x.m) := iX.cell 9
  have hgt : decide (1048576 - x.m < (s.size : Int)) = false := by simp; omega
  go_wp2
  obtain ⟨T, hTe⟩ : ∃ T, T = x.r ++ s := ⟨_, rfl⟩
  have hTs : T.size = x.r.size + s.size := by rw [hTe]; exact HX.out
  obtain ⟨p, hp⟩ : ∃ p, p = T.size - T.size % 64 := ⟨_, rfl⟩
  have hpI : (x.r.size : Int) + (s.size : Int) - ((x.r.size : Int) + (s.size : Int)) % 64 = (p : Int) := by omega
  rw [← hTe, hpI]
  have hsl : ∀ wx : World, (Instr.slice 9 (.string T) (some (.int .i64 (p : Int))) none none).run Tryd.prog wx = .ok (.string (T.extract p T.size)) wx := fun wx => by
    have := run_slice_string_l (P := Tryd.prog) (w := wx) (t := 9) (s := T) Tryd.underlying9 .i64 (p : Int) (by omega) (by omega)
    rw [Int.toNat_natCast] at this
    exact this
  have hTb : T.size ≤ 9223372036854775000 := by omega
  have hTc : T.size ≤ 1048639 := by omega
  have hEb : (T.extract p T.size).size ≤ 281474976710656 := by simp; omega
  have HTe := Lib.hid hTe
  have HTs := Lib.hid hTs
  have HP := Lib.hid hp
  clear hTe hTs hp hpI
  generalize hE : T.extract p T.size = E at *
  have HE := Lib.hid hE
  clear hE
  have a0 : w1.cell? ⟨w.heap.size, 0, none⟩ = some (.int .u32 x.h.a) := iX.cell 0
  have a1 : w1.cell? ⟨w.heap.size, 1, none⟩ = some (.int .u32 x.h.b) := iX.cell 1
  have a2 : w1.cell? ⟨w.heap.size, 2, none⟩ = some (.int .u32 x.h.c) := iX.cell 2
  have a3 : w1.cell? ⟨w.heap.size, 3, none⟩ = some (.int .u32 x.h.d) := iX.cell 3
  have a4 : w1.cell? ⟨w.heap.size, 4, none⟩ = some (.int .u32 x.h.e) := iX.cell 4
  have a5 : w1.cell? ⟨w.heap.size, 5, none⟩ = some (.int .u32 x.h.f) := iX.cell 5
  have a6 : w1.cell? ⟨w.heap.size, 6, none⟩ = some (.int .u32 x.h.g) := iX.cell 6
  have a7 : w1.cell? ⟨w.heap.size, 7, none⟩ = some (.int .u32 x.h.h) := iX.cell 7
  have a9 : w1.cell? ⟨w.heap.size, 9, none⟩ = some (.int .i64 x.m) := iX.cell 9
  have hwm := IntWalk.i64_in (x.m + (s.size : Int)) (by omega)
  go_region_held3 (fun w' => w'.cell? ⟨w.heap.size, 0, none⟩ = some (.int .u32 x.h.a) ∧ w'.cell? ⟨w.heap.size, 1, none⟩ = some (.int .u32 x.h.b) ∧ w'.cell? ⟨w.heap.size, 2, none⟩ = some (.int .u32 x.h.c) ∧ w'.cell? ⟨w.heap.size, 3, none⟩ = some (.int .u32 x.h.d) ∧ w'.cell? ⟨w.heap.size, 4, none⟩ = some (.int .u32 x.h.e) ∧ w'.cell? ⟨w.heap.size, 5, none⟩ = some (.int .u32 x.h.f) ∧ w'.cell? ⟨w.heap.size, 6, none⟩ = some (.int .u32 x.h.g) ∧ w'.cell? ⟨w.heap.size, 7, none⟩ = some (.int .u32 x.h.h) ∧ w'.cell? ⟨w.heap.size, 9, none⟩ = some (.int .i64 x.m))
    (go_keep)
    (first
      | (go_at_call 39; refine (mixAll_any x.h T _ hTb (hT1.drewN 1)).mono ?_; rintro e w2 ⟨rfl, hb2⟩; generalize hmm : mixT x.h T = mm; have HMM := Lib.hid hmm; clear hmm; have j2 : Is w2 w.heap.size 25 x.arr := Is.below (iX.drewN 1) hb2 iX.lt; have k2 : Is w2 (w.heap.size + 1) 25 HsZ.arr := Is.below (iZ.drewN 1) hb2 iZ.lt; have hB2 : Below w.heap.size w w2 := (belowN hB1 1).trans (hb2.mono hB1.size); have b0 : w2.cell? ⟨w.heap.size, 0, none⟩ = some (.int .u32 x.h.a) := j2.cell 0; have b1 : w2.cell? ⟨w.heap.size, 1, none⟩ = some (.int .u32 x.h.b) := j2.cell 1; have b2 : w2.cell? ⟨w.heap.size, 2, none⟩ = some (.int .u32 x.h.c) := j2.cell 2; have b3 : w2.cell? ⟨w.heap.size, 3, none⟩ = some (.int .u32 x.h.d) := j2.cell 3; have b4 : w2.cell? ⟨w.heap.size, 4, none⟩ = some (.int .u32 x.h.e) := j2.cell 4; have b5 : w2.cell? ⟨w.heap.size, 5, none⟩ = some (.int .u32 x.h.f) := j2.cell 5; have b6 : w2.cell? ⟨w.heap.size, 6, none⟩ = some (.int .u32 x.h.g) := j2.cell 6; have b7 : w2.cell? ⟨w.heap.size, 7, none⟩ = some (.int .u32 x.h.h) := j2.cell 7; have b9 : w2.cell? ⟨w.heap.size, 9, none⟩ = some (.int .i64 x.m) := j2.cell 9; clear hb2 a0 a1 a2 a3 a4 a5 a6 a7 a9 c8 c9)
      | (go_at_call 40; refine (clone_any E _ hEb).mono ?_; rintro e w3 ⟨rfl, hb3⟩; have j3 : Is w3 w.heap.size 25 x.arr := Is.below j2 hb3 j2.lt; have k3 : Is w3 (w.heap.size + 1) 25 HsZ.arr := Is.below k2 hb3 k2.lt; have hB3 : Below w.heap.size w w3 := hB2.trans (hb3.mono hB2.size); have z0 : w3.cell? ⟨w.heap.size + 1, 0, none⟩ = some (.int .u32 0) := k3.cell 0; have z1 : w3.cell? ⟨w.heap.size + 1, 1, none⟩ = some (.int .u32 0) := k3.cell 1; have z2 : w3.cell? ⟨w.heap.size + 1, 2, none⟩ = some (.int .u32 0) := k3.cell 2; have z3 : w3.cell? ⟨w.heap.size + 1, 3, none⟩ = some (.int .u32 0) := k3.cell 3; have z4 : w3.cell? ⟨w.heap.size + 1, 4, none⟩ = some (.int .u32 0) := k3.cell 4; have z5 : w3.cell? ⟨w.heap.size + 1, 5, none⟩ = some (.int .u32 0) := k3.cell 5; have z6 : w3.cell? ⟨w.heap.size + 1, 6, none⟩ = some (.int .u32 0) := k3.cell 6; have z7 : w3.cell? ⟨w.heap.size + 1, 7, none⟩ = some (.int .u32 0) := k3.cell 7; have z8 : w3.cell? ⟨w.heap.size + 1, 8, none⟩ = some (.string ⟨#[]⟩) := k3.cell 8; have z9 : w3.cell? ⟨w.heap.size + 1, 9, none⟩ = some (.int .i64 0) := k3.cell 9; have y0 := k3.frozen 0; have y1 := k3.frozen 1; have y2 := k3.frozen 2; have y3 := k3.frozen 3; have y4 := k3.frozen 4; have y5 := k3.frozen 5; have y6 := k3.frozen 6; have y7 := k3.frozen 7; have y8 := k3.frozen 8; have y9 := k3.frozen 9; have d0 : w3.cell? ⟨w.heap.size, 0, none⟩ = some (.int .u32 x.h.a) := j3.cell 0; have d1 : w3.cell? ⟨w.heap.size, 1, none⟩ = some (.int .u32 x.h.b) := j3.cell 1; have d2 : w3.cell? ⟨w.heap.size, 2, none⟩ = some (.int .u32 x.h.c) := j3.cell 2; have d3 : w3.cell? ⟨w.heap.size, 3, none⟩ = some (.int .u32 x.h.d) := j3.cell 3; have d4 : w3.cell? ⟨w.heap.size, 4, none⟩ = some (.int .u32 x.h.e) := j3.cell 4; have d5 : w3.cell? ⟨w.heap.size, 5, none⟩ = some (.int .u32 x.h.f) := j3.cell 5; have d6 : w3.cell? ⟨w.heap.size, 6, none⟩ = some (.int .u32 x.h.g) := j3.cell 6; have d7 : w3.cell? ⟨w.heap.size, 7, none⟩ = some (.int .u32 x.h.h) := j3.cell 7; have d9 : w3.cell? ⟨w.heap.size, 9, none⟩ = some (.int .i64 x.m) := j3.cell 9; clear hb3 b0 b1 b2 b3 b4 b5 b6 b7 b9))
  go_wp2
  have hr : Is (setH w3 (w.heap.size + 1) ⟨mm, E, x.m + s.size⟩) (w.heap.size + 1) 25 (Hs.mk mm E (x.m + s.size)).arr := k3.setH _
  have hBr : Below w.heap.size w (setH w3 (w.heap.size + 1) ⟨mm, E, x.m + s.size⟩) := belowH hB3 (by omega) _
  refine bodyPost_ret (results_row_tmp Tryd.results13 _ _ (w.heap.size + 1) 25 (Hs.mk mm E (x.m + s.size)).arr (0, 0) _ rfl hr Tryd.underlying25 rfl (by kernel_rfl)) rfl ⟨?_, hBr⟩
  rw [addH, ← HTe.out, HMM.out, ← HP.out, HE.out]
  rfl
end Go.Proofs.YtcpkkicpkmjagaaDoor
