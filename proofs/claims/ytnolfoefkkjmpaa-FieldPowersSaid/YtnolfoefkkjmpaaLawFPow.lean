/-
  FieldPowers: the walk of the statement's function.
-/
import Derived.Test.YtnolfoefkkjmpaaLawFBack
namespace Go.Proofs.Ytnolfoefkkjmpaa
open Go.RowKit

set_option maxRecDepth 100000 in
set_option maxHeartbeats 2000000 in
theorem fpow_nat (a b : Nat) (w : World) (ha : a < 256) (hb : b < 256) :
    Calls Try.prog 7 #[.int .u8 (a : Int), .int .u8 (b : Int)] w fun e w' => e = .returned (.bool true) ∧ Below w.heap.size w w' := by
  have hp := pow255 ha
  have hx := u8_xor_nat a b ha hb
  have m1 : ∀ w, Calls Try.prog 11 #[.int .u8 (bits BinOp.xor IntKind.u8 (a : Int) (b : Int)), .int .u8 (bits BinOp.xor IntKind.u8 (a : Int) (b : Int))] w fun e w' => e = .returned (.int .u8 (bits BinOp.xor IntKind.u8 ((mulN a a : Nat) : Int) ((mulN b b : Nat) : Int))) ∧ Below w.heap.size w w' := fun w => by
    rw [hx, u8_xor_nat _ _ (mulN_lt ha) (mulN_lt hb), ← square_add ha hb]
    exact mul_any (a ^^^ b) (a ^^^ b) w (xor_lt ha hb) (xor_lt ha hb)
  have m2 := fun w => mul_any a a w ha ha
  have m3 := fun w => mul_any b b w hb hb
  generalize mulN a a = z2 at *
  generalize mulN b b = z3 at *
  have M1 := Lib.hid m1
  have M2 := Lib.hid m2
  have M3 := Lib.hid m3
  have HP := Lib.hid hp
  clear m1 m2 m3 hx hp
  go_enter Try.func7, Try.ntmps7
  have hB0 : Below w.heap.size w w := Below.refl _ _
  go_wp2_with fail
  refine (awake3_any _).mono ?_
  rintro e w1 ⟨rfl, hb⟩
  have hB1 : Below w.heap.size w w1 := hB0.trans (hb.mono hB0.size)
  clear hb
  go_wp2
  go_loopw [6, 7] (fun x i wr => ∃ k : Nat, k ≤ 255 ∧ x = .int .u8 ((powN a k : Nat) : Int) ∧ i = .int .i64 (k : Int) ∧ Below w.heap.size w wr)
    (fun _ i _ => 255 - (intOf i).toNat)
  case atStart => exact ⟨0, by omega, rfl, rfl, hB1⟩
  case round =>
    clear hB1 hB0
    obtain ⟨k, hk, rfl, rfl, hB⟩ := hrel
    by_cases hlt : k < 255
    · have hi1 : (k : Int) < 255 := by omega
      have m := fun w => mul_any (powN a k) a w (powN_lt a k) ha
      have e : powN a (k + 1) = mulN (powN a k) a := rfl
      rw [← e] at m
      generalize powN a k = x at *
      have M := Lib.hid m
      clear m e
      go_wp2_with fail
      refine (M.out _).mono ?_
      rintro e w2 ⟨rfl, hb2⟩
      have hB2 : Below w.heap.size w w2 := hB.trans (hb2.mono hB.size)
      generalize hy : powN a (k + 1) = y at *
      have HY := Lib.hid hy
      clear hy
      go_wp2
      go_roundw
      case rel => exact ⟨k + 1, by omega, by rw [HY.out], by go_num, hB2⟩
      case measure => simp [intOf]; omega
    · obtain rfl : k = 255 := by omega
      have hB1 : Below w.heap.size w wr := hB
      by_cases h0 : a = 0
      · have hp := HP.out
        rw [if_pos h0] at hp
        rw [hp]
        have e0 : ((a : Int) == 0) = true := by rw [h0]; rfl
        clear hp h0
        go_wp2_with fail
        refine (M1.out _).mono ?_
        rintro e w2 ⟨rfl, hb⟩
        have hB2 : Below w.heap.size w w2 := hB1.trans (hb.mono hB1.size)
        clear hb
        go_wp2_with fail
        refine (M2.out _).mono ?_
        rintro e w3 ⟨rfl, hb⟩
        have hB3 : Below w.heap.size w w3 := hB2.trans (hb.mono hB2.size)
        clear hb
        go_wp2_with fail
        refine (M3.out _).mono ?_
        rintro e w4 ⟨rfl, hb⟩
        have hB4 : Below w.heap.size w w4 := hB3.trans (hb.mono hB3.size)
        clear hb
        go_wp2
        go_ret
        exact ⟨rfl, hB4⟩
      · have hp := HP.out
        rw [if_neg h0] at hp
        rw [hp]
        have e0 : ((a : Int) == 0) = false := by rw [show (0 : Int) = ((0 : Nat) : Int) from rfl, cast_beq]; simpa using h0
        clear hp h0
        go_wp2_with fail
        refine (M1.out _).mono ?_
        rintro e w2 ⟨rfl, hb⟩
        have hB2 : Below w.heap.size w w2 := hB1.trans (hb.mono hB1.size)
        clear hb
        go_wp2_with fail
        refine (M2.out _).mono ?_
        rintro e w3 ⟨rfl, hb⟩
        have hB3 : Below w.heap.size w w3 := hB2.trans (hb.mono hB2.size)
        clear hb
        go_wp2_with fail
        refine (M3.out _).mono ?_
        rintro e w4 ⟨rfl, hb⟩
        have hB4 : Below w.heap.size w w4 := hB3.trans (hb.mono hB3.size)
        clear hb
        go_wp2
        go_ret
        exact ⟨rfl, hB4⟩

theorem fpow_walk (x y : Int) (w : World) (hx : 0 ≤ x ∧ x ≤ 255) (hy : 0 ≤ y ∧ y ≤ 255) :
    Calls Try.prog 7 #[.int .u8 x, .int .u8 y] w fun e w' => e = .returned (.bool true) ∧ Below w.heap.size w w' := by
  obtain ⟨a, rfl⟩ := Int.eq_ofNat_of_zero_le hx.1
  obtain ⟨b, rfl⟩ := Int.eq_ofNat_of_zero_le hy.1
  exact fpow_nat a b w (by omega) (by omega)
end Go.Proofs.Ytnolfoefkkjmpaa
