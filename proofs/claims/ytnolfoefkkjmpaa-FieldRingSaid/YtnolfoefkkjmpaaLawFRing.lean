/-
  FieldRing: the walk of the statement's function.
-/
import Derived.Test.YtnolfoefkkjmpaaFldK
namespace Go.Proofs.Ytnolfoefkkjmpaa
open Go.RowKit

set_option maxRecDepth 100000 in
set_option maxHeartbeats 2000000 in
theorem fring_nat (a b c : Nat) (w : World) (ha : a < 256) (hb : b < 256) (hc : c < 256) (qa qb qz : Bool) (ea : ((a : Int) == 0) = qa) (eb : ((b : Int) == 0) = qb) (ez : (((mulN a b : Nat) : Int) == 0) = qz) (eq : (qz == (qa || qb)) = true) :
    Calls Try.prog 4 #[.int .u8 (a : Int), .int .u8 (b : Int), .int .u8 (c : Int)] w fun e w' => e = .returned (.bool true) ∧ Below w.heap.size w w' := by
  have l1 : mulN a b < 256 := mulN_lt ha
  have m1 := fun w => mul_any a b w ha hb
  have m2 := fun w => mul_any b a w hb ha
  rw [mulN_comm hb ha] at m2
  have m3 := fun w => mul_any (mulN a b) c w l1 hc
  have m4 := fun w => mul_any b c w hb hc
  have m5 := fun w => mul_any a (mulN b c) w ha (mulN_lt hb)
  rw [← mulN_assoc ha hb hc] at m5
  have m6 : ∀ w, Calls Try.prog 11 #[.int .u8 (a : Int), .int .u8 (bits BinOp.xor IntKind.u8 (b : Int) (c : Int))] w fun e w' => e = .returned (.int .u8 (bits BinOp.xor IntKind.u8 ((mulN a b : Nat) : Int) ((mulN a c : Nat) : Int))) ∧ Below w.heap.size w w' := fun w => by
    rw [u8_xor_nat _ _ hb hc, u8_xor_nat _ _ l1 (mulN_lt ha), ← mulN_xor]
    exact mul_any a (b ^^^ c) w ha (xor_lt hb hc)
  have m7 := fun w => mul_any a c w ha hc
  have m8 : ∀ w, Calls Try.prog 11 #[.int .u8 (a : Int), .int .u8 1] w fun e w' => e = .returned (.int .u8 (a : Int)) ∧ Below w.heap.size w w' := fun w => by
    have := mul_any a 1 w ha (by decide)
    rw [mulN_one] at this
    exact this
  have m9 : ∀ w, Calls Try.prog 11 #[.int .u8 (a : Int), .int .u8 0] w fun e w' => e = .returned (.int .u8 0) ∧ Below w.heap.size w w' := fun w => by
    have := mul_any a 0 w ha (by decide)
    rw [mulN_zero] at this
    exact this
  generalize mulN (mulN a b) c = z2 at *
  generalize mulN a b = z1 at *
  generalize mulN b c = z3 at *
  generalize mulN a c = z4 at *
  have M1 := Lib.hid m1
  have M2 := Lib.hid m2
  have M3 := Lib.hid m3
  have M4 := Lib.hid m4
  have M5 := Lib.hid m5
  have M6 := Lib.hid m6
  have M7 := Lib.hid m7
  have M8 := Lib.hid m8
  have M9 := Lib.hid m9
  clear m1 m2 m3 m4 m5 m6 m7 m8 m9
  go_enter Try.func4, Try.ntmps4
  have hB0 : Below w.heap.size w w := Below.refl _ _
  go_wp2_with fail
  refine (awake3_any _).mono ?_
  rintro e w1 ⟨rfl, hb⟩
  have hB1 : Below w.heap.size w w1 := hB0.trans (hb.mono hB0.size)
  clear hb
  go_wp2_with fail
  refine (M1.out _).mono ?_
  rintro e w2 ⟨rfl, hb⟩
  have hB2 : Below w.heap.size w w2 := hB1.trans (hb.mono hB1.size)
  clear hb
  go_wp2_with fail
  refine (M2.out _).mono ?_
  rintro e w3 ⟨rfl, hb⟩
  have hB3 : Below w.heap.size w w3 := hB2.trans (hb.mono hB2.size)
  clear hb
  go_wp2_with fail
  refine (M1.out _).mono ?_
  rintro e w4 ⟨rfl, hb⟩
  have hB4 : Below w.heap.size w w4 := hB3.trans (hb.mono hB3.size)
  clear hb
  go_wp2_with fail
  refine (M3.out _).mono ?_
  rintro e w5 ⟨rfl, hb⟩
  have hB5 : Below w.heap.size w w5 := hB4.trans (hb.mono hB4.size)
  clear hb
  go_wp2_with fail
  refine (M4.out _).mono ?_
  rintro e w6 ⟨rfl, hb⟩
  have hB6 : Below w.heap.size w w6 := hB5.trans (hb.mono hB5.size)
  clear hb
  go_wp2_with fail
  refine (M5.out _).mono ?_
  rintro e w7 ⟨rfl, hb⟩
  have hB7 : Below w.heap.size w w7 := hB6.trans (hb.mono hB6.size)
  clear hb
  go_wp2_with fail
  refine (M6.out _).mono ?_
  rintro e w8 ⟨rfl, hb⟩
  have hB8 : Below w.heap.size w w8 := hB7.trans (hb.mono hB7.size)
  clear hb
  go_wp2_with fail
  refine (M1.out _).mono ?_
  rintro e w9 ⟨rfl, hb⟩
  have hB9 : Below w.heap.size w w9 := hB8.trans (hb.mono hB8.size)
  clear hb
  go_wp2_with fail
  refine (M7.out _).mono ?_
  rintro e w10 ⟨rfl, hb⟩
  have hB10 : Below w.heap.size w w10 := hB9.trans (hb.mono hB9.size)
  clear hb
  go_wp2_with fail
  refine (M8.out _).mono ?_
  rintro e w11 ⟨rfl, hb⟩
  have hB11 : Below w.heap.size w w11 := hB10.trans (hb.mono hB10.size)
  clear hb
  go_wp2_with fail
  refine (M9.out _).mono ?_
  rintro e w12 ⟨rfl, hb⟩
  have hB12 : Below w.heap.size w w12 := hB11.trans (hb.mono hB11.size)
  clear hb
  go_wp2_with fail
  refine (M1.out _).mono ?_
  rintro e w13 ⟨rfl, hb⟩
  have hB13 : Below w.heap.size w w13 := hB12.trans (hb.mono hB12.size)
  clear hb
  cases qa <;> cases qb <;> cases qz <;> first | (exact absurd eq (by decide)) | skip
  all_goals
    go_wp2
    go_ret
    exact ⟨rfl, hB13⟩

theorem fring_walk (x y z : Int) (w : World) (hx : 0 ≤ x ∧ x ≤ 255) (hy : 0 ≤ y ∧ y ≤ 255) (hz : 0 ≤ z ∧ z ≤ 255) :
    Calls Try.prog 4 #[.int .u8 x, .int .u8 y, .int .u8 z] w fun e w' => e = .returned (.bool true) ∧ Below w.heap.size w w' := by
  obtain ⟨a, rfl⟩ := Int.eq_ofNat_of_zero_le hx.1
  obtain ⟨b, rfl⟩ := Int.eq_ofNat_of_zero_le hy.1
  obtain ⟨c, rfl⟩ := Int.eq_ofNat_of_zero_le hz.1
  have ha : a < 256 := by omega
  have hb : b < 256 := by omega
  refine fring_nat a b c w ha hb (by omega) _ _ _ rfl rfl rfl ?_
  have h := mulN_null ha hb
  have e : ∀ n : Nat, ((n : Int) == 0) = (n == 0) := fun n => by cases n <;> rfl
  rw [e, e, e, h]
  simp
end Go.Proofs.Ytnolfoefkkjmpaa
