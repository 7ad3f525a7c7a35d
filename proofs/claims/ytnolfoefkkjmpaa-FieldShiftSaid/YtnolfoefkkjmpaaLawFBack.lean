/-
  FieldBack: the walk of the statement's function.
-/
import Derived.Test.YtnolfoefkkjmpaaFldK
namespace Go.Proofs.Ytnolfoefkkjmpaa
open Go.RowKit

theorem cast_beq (m n : Nat) : ((m : Int) == (n : Int)) = (m == n) := by
  by_cases h : m = n
  · subst h; simp
  · rw [beq_eq_false_iff_ne.2 h, beq_eq_false_iff_ne]
    omega
theorem cast_bne (m n : Nat) : ((m : Int) != (n : Int)) = (m != n) := by
  unfold bne; rw [cast_beq]

set_option maxRecDepth 100000 in
set_option maxHeartbeats 2000000 in
theorem fback_nat (a i s : Nat) (w : World) (ha : a < 256) (hi : i = invN a) (hs : s = subN a) (n1 : ((s : Int) != (a : Int)) = true) (n2 : (bits BinOp.xor IntKind.u8 (s : Int) (a : Int) != 255) = true)
    (hc : (((a : Int) == 0) = true ∧ ((i : Int) == 0) = true) ∨ (((a : Int) == 0) = false ∧ mulN a i = 1)) :
    Calls Try.prog 5 #[.int .u8 (a : Int)] w fun e w' => e = .returned (.bool true) ∧ Below w.heap.size w w' := by
  have F := inv_at ha
  have m1 := fun w => finv_any a w ha
  have m2 := fun w => fsub_any a w ha
  have m3 := fun w => finv_any (invN a) w F.i
  rw [F.ii] at m3
  have m4 := fun w => fback_any (subN a) w F.s
  rw [F.bs] at m4
  have m5 := fun w => fback_any a w ha
  have m6 := fun w => fsub_any (backN a) w F.b
  rw [F.sb] at m6
  have m7 := fun w => mul_any a (invN a) w ha F.i
  rw [← hi] at m1 m3 m7
  rw [← hs] at m2 m4
  generalize backN a = z at *
  clear F hi hs
  have M1 := Lib.hid m1
  have M2 := Lib.hid m2
  have M3 := Lib.hid m3
  have M4 := Lib.hid m4
  have M5 := Lib.hid m5
  have M6 := Lib.hid m6
  have M7 := Lib.hid m7
  clear m1 m2 m3 m4 m5 m6 m7
  go_enter Try.func5, Try.ntmps5
  have hB0 : Below w.heap.size w w := Below.refl _ _
  go_wp2_with fail
  refine (awake3_any _).mono ?_
  rintro e w1 ⟨rfl, hb⟩
  have hB1 : Below w.heap.size w w1 := hB0.trans (hb.mono hB0.size)
  clear hb
  go_wp2_with fail
  refine (M1.out _).mono ?_
  rintro e w2 ⟨rfl, hb⟩
  have hB2 : Below w.heap.size w w2 := hB1.trans (hb.mono hB1.size)
  clear hb
  go_wp2_with fail
  refine (M2.out _).mono ?_
  rintro e w3 ⟨rfl, hb⟩
  have hB3 : Below w.heap.size w w3 := hB2.trans (hb.mono hB2.size)
  clear hb
  go_wp2_with fail
  refine (M3.out _).mono ?_
  rintro e w4 ⟨rfl, hb⟩
  have hB4 : Below w.heap.size w w4 := hB3.trans (hb.mono hB3.size)
  clear hb
  rcases hc with ⟨c1, c2⟩ | ⟨c1, c2⟩
  · skip
    go_wp2_with fail
    refine (M4.out _).mono ?_
    rintro e w5 ⟨rfl, hb⟩
    have hB5 : Below w.heap.size w w5 := hB4.trans (hb.mono hB4.size)
    clear hb
    go_wp2_with fail
    refine (M5.out _).mono ?_
    rintro e w6 ⟨rfl, hb⟩
    have hB6 : Below w.heap.size w w6 := hB5.trans (hb.mono hB5.size)
    clear hb
    go_wp2_with fail
    refine (M6.out _).mono ?_
    rintro e w7 ⟨rfl, hb⟩
    have hB7 : Below w.heap.size w w7 := hB6.trans (hb.mono hB6.size)
    clear hb
    go_wp2
    go_ret
    exact ⟨rfl, hB7⟩
  · rw [c2] at M7
    go_wp2_with fail
    refine (M7.out _).mono ?_
    rintro e w5 ⟨rfl, hb⟩
    have hB5 : Below w.heap.size w w5 := hB4.trans (hb.mono hB4.size)
    clear hb
    go_wp2_with fail
    refine (M4.out _).mono ?_
    rintro e w6 ⟨rfl, hb⟩
    have hB6 : Below w.heap.size w w6 := hB5.trans (hb.mono hB5.size)
    clear hb
    go_wp2_with fail
    refine (M5.out _).mono ?_
    rintro e w7 ⟨rfl, hb⟩
    have hB7 : Below w.heap.size w w7 := hB6.trans (hb.mono hB6.size)
    clear hb
    go_wp2_with fail
    refine (M6.out _).mono ?_
    rintro e w8 ⟨rfl, hb⟩
    have hB8 : Below w.heap.size w w8 := hB7.trans (hb.mono hB7.size)
    clear hb
    go_wp2
    go_ret
    exact ⟨rfl, hB8⟩

theorem fback_walk (x : Int) (w : World) (hx : 0 ≤ x ∧ x ≤ 255) :
    Calls Try.prog 5 #[.int .u8 x] w fun e w' => e = .returned (.bool true) ∧ Below w.heap.size w w' := by
  obtain ⟨a, rfl⟩ := Int.eq_ofNat_of_zero_le hx.1
  have ha : a < 256 := by omega
  have F := inv_at ha
  refine fback_nat a _ _ w ha rfl rfl ?_ ?_ ?_
  · rw [cast_bne]; simpa using F.n
  · rw [u8_xor_nat _ _ F.s ha, show (255 : Int) = ((255 : Nat) : Int) from rfl, cast_bne]
    simpa using F.n2
  · have hm := F.m
    by_cases h : a = 0
    · subst h
      exact .inl ⟨rfl, rfl⟩
    · rw [if_neg h] at hm
      exact .inr ⟨by rw [show (0 : Int) = ((0 : Nat) : Int) from rfl, cast_beq]; simpa using h, hm⟩
end Go.Proofs.Ytnolfoefkkjmpaa
