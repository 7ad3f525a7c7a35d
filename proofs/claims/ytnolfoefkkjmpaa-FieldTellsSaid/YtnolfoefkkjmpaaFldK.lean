/-
  Contract of the statements' own helper: awake answers true.
-/
import Derived.Test.YtnolfoefkkjmpaaFldU
namespace Go.Proofs.Ytnolfoefkkjmpaa
open Go.RowKit

/-- four bytes, and others: are they the same? -/
theorem eqIn4 (x y : C4) (w : World) : (Op.equalIn 10000 22 (.agg x.arr) (.agg y.arr)).run Try.prog w = .ok (((x.a : Int) == (y.a : Int)) && ((x.b : Int) == (y.b : Int)) && ((x.c : Int) == (y.c : Int)) && ((x.d : Int) == (y.d : Int))) w := by
  have h5 : ∀ x y : Int, (Op.equalIn 9999 5 (.int .u8 x) (.int .u8 y)).run Try.prog w = .ok (x == y) w := fun x y => by
    have := run_equalIn_int (P := Try.prog) (w := w) 9998 5 .u8 .u8 x y Try.underlying5
    simpa using this
  show (Op.equalIn (9999 + 1) 22 (.agg x.arr) (.agg y.arr)).run Try.prog w = _
  unfold Op.equalIn
  rw [Sem.run_bind, run_underlying Try.underlying22]
  simp only [Result.andThen]
  simp [List.range', go_sem, h5]
  by_cases h1 : (x.a : Int) = (y.a : Int)
  · by_cases h2 : (x.b : Int) = (y.b : Int)
    · by_cases h3 : (x.c : Int) = (y.c : Int)
      · by_cases h4 : (x.d : Int) = (y.d : Int)
        · simp [h1, h2, h3, h4]
        · simp [h1, h2, h3, h4]
      · simp [h1, h2, h3]
    · simp [h1, h2]
  · simp [h1]
theorem eqIn4_self (x : C4) (w : World) : (Op.equalIn 10000 22 (.agg x.arr) (.agg x.arr)).run Try.prog w = .ok true w := by
  rw [eqIn4]; simp

set_option maxRecDepth 100000 in
set_option maxHeartbeats 1000000 in
theorem awake3_any (w : World) :
    Calls Try.prog 10 #[] w fun e w' => e = .returned (.bool true) ∧ Below w.heap.size w w' := by
  have m1 : ∀ w, Calls Try.prog 11 #[.int .u8 87, .int .u8 131] w fun e w' => e = .returned (.int .u8 193) ∧ Below w.heap.size w w' := fun w => by
    have := mul_any 87 131 w (by decide) (by decide)
    rw [show mulN 87 131 = 193 by kernel_rfl] at this
    exact this
  have m2 : ∀ w, Calls Try.prog 15 #[.int .u8 0] w fun e w' => e = .returned (.int .u8 99) ∧ Below w.heap.size w w' := fun w => by
    have := fsub_any 0 w (by decide)
    rw [show subN 0 = 99 by kernel_rfl] at this
    exact this
  have m3 : ∀ w, Calls Try.prog 19 #[.agg #[.int .u8 219, .int .u8 19, .int .u8 83, .int .u8 69]] w fun e w' => e = .returned (.agg #[.int .u8 142, .int .u8 77, .int .u8 161, .int .u8 188]) ∧ Below w.heap.size w w' := fun w => by
    have := mix_any ⟨219, 19, 83, 69⟩ w ⟨by decide, by decide, by decide, by decide⟩
    rw [show mixC ⟨219, 19, 83, 69⟩ = ⟨142, 77, 161, 188⟩ by kernel_rfl] at this
    exact this
  have m4 : ∀ w, Calls Try.prog 13 #[.int .u8 0] w fun e w' => e = .returned (.int .u8 0) ∧ Below w.heap.size w w' := fun w => by
    have := finv_any 0 w (by decide)
    rw [show invN 0 = 0 by kernel_rfl] at this
    exact this
  have m5 : ∀ w, Calls Try.prog 13 #[.int .u8 1] w fun e w' => e = .returned (.int .u8 1) ∧ Below w.heap.size w w' := fun w => by
    have := finv_any 1 w (by decide)
    rw [show invN 1 = 1 by kernel_rfl] at this
    exact this
  have m6 : ∀ w, Calls Try.prog 17 #[.int .u8 99] w fun e w' => e = .returned (.int .u8 0) ∧ Below w.heap.size w w' := fun w => by
    have := fback_any 99 w (by decide)
    rw [show backN 99 = 0 by kernel_rfl] at this
    exact this
  have M1 := Lib.hid m1
  have M2 := Lib.hid m2
  have M3 := Lib.hid m3
  have M4 := Lib.hid m4
  have M5 := Lib.hid m5
  have M6 := Lib.hid m6
  clear m1 m2 m3 m4 m5 m6
  have he : ∀ w, (Op.equalIn 10000 22 (.agg #[.int .u8 142, .int .u8 77, .int .u8 161, .int .u8 188]) (.agg #[.int .u8 142, .int .u8 77, .int .u8 161, .int .u8 188])).run Try.prog w = .ok true w := eqIn4_self ⟨142, 77, 161, 188⟩
  go_enter Try.func10, Try.ntmps10
  go_wp2_with fail
  refine (M1.out _).mono ?_
  rintro e w1 ⟨rfl, hb1⟩
  go_wp2_with fail
  refine (M2.out _).mono ?_
  rintro e w2 ⟨rfl, hb2⟩
  go_wp2_with fail
  refine (M3.out _).mono ?_
  rintro e w3 ⟨rfl, hb3⟩
  go_wp2_with fail
  refine (M4.out _).mono ?_
  rintro e w4 ⟨rfl, hb4⟩
  go_wp2_with fail
  refine (M5.out _).mono ?_
  rintro e w5 ⟨rfl, hb5⟩
  go_wp2_with fail
  refine (M6.out _).mono ?_
  rintro e w6 ⟨rfl, hb6⟩
  go_wp2
  go_ret
  have s1 := hb1.size
  have s2 := hb2.size
  have s3 := hb3.size
  have s4 := hb4.size
  have s5 := hb5.size
  exact ⟨rfl, ((((hb1.trans (hb2.mono s1)).trans (hb3.mono (by omega))).trans (hb4.mono (by omega))).trans (hb5.mono (by omega))).trans (hb6.mono (by omega))⟩
end Go.Proofs.Ytnolfoefkkjmpaa
