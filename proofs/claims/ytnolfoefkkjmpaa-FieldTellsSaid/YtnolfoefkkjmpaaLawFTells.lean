/-
  FieldShift and FieldTells: the walks of the statements' functions.
-/
import Derived.Test.YtnolfoefkkjmpaaLawFTurns
import Derived.Test.YtnolfoefkkjmpaaRefF
namespace Go.Proofs.Ytnolfoefkkjmpaa
open Go.RowKit

set_option maxRecDepth 100000 in
set_option maxHeartbeats 2000000 in
theorem fshift_nat (a b : Nat) (w : World) (ha : a < 256) (hb : b < 256) :
    Calls Try.prog 9 #[.int .u8 (a : Int), .int .u8 (b : Int)] w fun e w' => e = .returned (.bool true) ∧ Below w.heap.size w w' := by
  have ia := (inv_at ha).i
  have ib := (inv_at hb).i
  have hx := xor_lt ia ib
  have m1 := fun w => rinv_any a w ha
  have m2 := fun w => rinv_any b w hb
  have m3 : ∀ w, Calls Try.prog 14 #[.int .u8 (bits BinOp.xor IntKind.u8 ((invN a : Nat) : Int) ((invN b : Nat) : Int))] w fun e w' => e = .returned (.int .u8 ((invN (invN a ^^^ invN b) : Nat) : Int)) ∧ w = w' := fun w => by
    rw [u8_xor_nat _ _ ia ib]
    exact rinv_any _ w hx
  have s1 : ∀ w, Calls Try.prog 15 #[.int .u8 ((invN (invN a ^^^ invN b) : Nat) : Int)] w fun e w' => e = .returned (.int .u8 (bits BinOp.xor IntKind.u8 (bits BinOp.xor IntKind.u8 ((subN a : Nat) : Int) ((subN b : Nat) : Int)) ((subN 0 : Nat) : Int))) ∧ Below w.heap.size w w' := fun w => by
    have sa := (inv_at ha).s
    have sb := (inv_at hb).s
    have s0 := (inv_at (a := 0) (by decide)).s
    rw [u8_xor_nat _ _ sa sb, u8_xor_nat _ _ (xor_lt sa sb) s0, ← sub_shift ha hb]
    exact fsub_any _ w (inv_at hx).i
  have s2 := fun w => fsub_any a w ha
  have s3 := fun w => fsub_any b w hb
  have s4 : ∀ w, Calls Try.prog 15 #[.int .u8 0] w fun e w' => e = .returned (.int .u8 ((subN 0 : Nat) : Int)) ∧ Below w.heap.size w w' := fun w => fsub_any 0 w (by decide)
  clear ia ib hx
  generalize invN (invN a ^^^ invN b) = c at *
  generalize invN a = i at *
  generalize invN b = j at *
  generalize subN 0 = z at *
  generalize subN a = x at *
  generalize subN b = y at *
  have M1 := Lib.hid m1
  have M2 := Lib.hid m2
  have M3 := Lib.hid m3
  have S1 := Lib.hid s1
  have S2 := Lib.hid s2
  have S3 := Lib.hid s3
  have S4 := Lib.hid s4
  clear m1 m2 m3 s1 s2 s3 s4
  go_enter Try.func9, Try.ntmps9
  have hB0 : Below w.heap.size w w := Below.refl _ _
  go_wp2_with fail
  refine (awake3_any _).mono ?_
  rintro e v1 ⟨rfl, hb⟩
  have hB1 : Below w.heap.size w v1 := hB0.trans (hb.mono hB0.size)
  clear hb hB0
  go_wp2_with fail
  refine (M1.out _).mono ?_
  rintro e w' ⟨rfl, rfl⟩
  go_wp2_with fail
  refine (M2.out _).mono ?_
  rintro e w' ⟨rfl, rfl⟩
  go_wp2_with fail
  refine (M3.out _).mono ?_
  rintro e w' ⟨rfl, rfl⟩
  go_wp2_with fail
  refine (S1.out _).mono ?_
  rintro e v2 ⟨rfl, hb⟩
  have hB2 : Below w.heap.size w v2 := hB1.trans (hb.mono hB1.size)
  clear hb hB1
  go_wp2_with fail
  refine (S2.out _).mono ?_
  rintro e v3 ⟨rfl, hb⟩
  have hB3 : Below w.heap.size w v3 := hB2.trans (hb.mono hB2.size)
  clear hb hB2
  go_wp2_with fail
  refine (S3.out _).mono ?_
  rintro e v4 ⟨rfl, hb⟩
  have hB4 : Below w.heap.size w v4 := hB3.trans (hb.mono hB3.size)
  clear hb hB3
  go_wp2_with fail
  refine (S4.out _).mono ?_
  rintro e v5 ⟨rfl, hb⟩
  have hB5 : Below w.heap.size w v5 := hB4.trans (hb.mono hB4.size)
  clear hb hB4
  go_wp2
  go_ret
  exact ⟨rfl, hB5⟩

theorem fshift_walk (x y : Int) (w : World) (hx : 0 ≤ x ∧ x ≤ 255) (hy : 0 ≤ y ∧ y ≤ 255) :
    Calls Try.prog 9 #[.int .u8 x, .int .u8 y] w fun e w' => e = .returned (.bool true) ∧ Below w.heap.size w w' := by
  obtain ⟨a, rfl⟩ := Int.eq_ofNat_of_zero_le hx.1
  obtain ⟨b, rfl⟩ := Int.eq_ofNat_of_zero_le hy.1
  exact fshift_nat a b w (by omega) (by omega)

set_option maxRecDepth 100000 in
set_option maxHeartbeats 4000000 in
theorem ftells_nat (a b : Nat) (x : C4) (w : World) (ha : a < 256) (hb : b < 256) (h : x.Ok) :
    Calls Try.prog 3 #[.int .u8 (a : Int), .int .u8 (b : Int), .agg x.l.toArray] w fun e w' => e = .returned (.bool true) ∧ Below w.heap.size w w' := by
  have p1 := fun w => mul_any a b w ha hb
  have d1 := fun w => (rmul_any a b w ha hb).mono fun e w' (k : _ ∧ w = w') => (⟨k.1, by rw [← k.2]; exact Below.refl _ _⟩ : _ ∧ Below w.heap.size w w')
  have p2 := fun w => finv_any a w ha
  have d2 := fun w => (rinv_any a w ha).mono fun e w' (k : _ ∧ w = w') => (⟨k.1, by rw [← k.2]; exact Below.refl _ _⟩ : _ ∧ Below w.heap.size w w')
  have p3 := fun w => fsub_any a w ha
  have d3 := fun w => rsub_any a w ha
  have p4 := fun w => fback_any a w ha
  have d4 := fun w => rback_any a w ha
  have p5 : ∀ w, Calls Try.prog 19 #[.agg x.l.toArray] w fun e w' => e = .returned (.agg (mixC x).l.toArray) ∧ Below w.heap.size w w' := fun w => mix_any x w h
  have d5 : ∀ w, Calls Try.prog 20 #[.agg x.l.toArray] w fun e w' => e = .returned (.agg (mixC x).l.toArray) ∧ Below w.heap.size w w' := fun w => rmix_any x w h
  have p6 : ∀ w, Calls Try.prog 21 #[.agg x.l.toArray] w fun e w' => e = .returned (.agg (unC x).l.toArray) ∧ Below w.heap.size w w' := fun w => unmix_any x w h
  have d6 : ∀ w, Calls Try.prog 22 #[.agg x.l.toArray] w fun e w' => e = .returned (.agg (unC x).l.toArray) ∧ Below w.heap.size w w' := fun w => runmix_any x w h
  have q5 := (C4.row (mixC x)).same
  have q6 := (C4.row (unC x)).same
  have rx := C4.row x
  generalize (mixC x).l = Lm at *
  generalize (unC x).l = Lu at *
  generalize x.l = Lx at *
  generalize mulN a b = y1 at *
  generalize invN a = y2 at *
  generalize subN a = y3 at *
  generalize backN a = y4 at *
  have P1 := Lib.hid p1
  have P2 := Lib.hid p2
  have P3 := Lib.hid p3
  have P4 := Lib.hid p4
  have P5 := Lib.hid p5
  have P6 := Lib.hid p6
  have D1 := Lib.hid d1
  have D2 := Lib.hid d2
  have D3 := Lib.hid d3
  have D4 := Lib.hid d4
  have D5 := Lib.hid d5
  have D6 := Lib.hid d6
  have RX := Lib.hid rx
  clear p1 p2 p3 p4 p5 p6 d1 d2 d3 d4 d5 d6 rx
  go_enter Try.func3, Try.ntmps3
  have c0 : Is (w.alloc (.cells Lx.toArray 22)) w.heap.size 22 Lx.toArray := Is.new w _ _
  have hB0 : Below w.heap.size w (w.alloc (.cells Lx.toArray 22)) := (Below.refl _ _).alloc (Nat.le_refl _) _
  go_wp2_with fail
  refine (awake3_any _).mono ?_
  rintro e v1 ⟨rfl, hb⟩
  have c1 := c0.below hb c0.lt
  have hB1 : Below w.heap.size w v1 := hB0.trans (hb.mono hB0.size)
  clear hb c0 hB0
  go_wp2
  refine wp_region_held_drew (S := fun W => Below v1.heap.size v1 W) (by kernel_rfl) (belowN (Below.refl _ _) 1) (fun hS => ?_)
  change wpAnyH _ _ (opsOf Try.f3 2) _ _ 46 (Array.replicate 46 false) _ _
  refine wpAnyH_pure (i := 0) (o := { dst := some 9, op := Op.move (Operand.tmp 7), type := 4, pos := "law.go:17", after := #[], guard := none }) (v := .bool true) (by kernel_rfl) (by kernel_rfl) (by kernel_rfl) (by kernel_rfl) (fun _ _ _ h => h) (by kernel_rfl) (fun w _ => by kernel_rfl) hS ?_
  refine wpAnyH_pure (i := 1) (o := { dst := some 10, op := Op.move (Operand.tmp 9), type := 4, pos := "law.go:17", after := #[{ on := 0, ground := Ground.data }], guard := none }) (v := .bool true) (by kernel_rfl) (by kernel_rfl) (by kernel_rfl) (by kernel_rfl) (fun _ _ _ h => h) (by kernel_rfl) (fun w _ => by kernel_rfl) hS ?_
  refine wpAnyH_pure (i := 2) (o := { dst := some 11, op := Op.move (Operand.tmp 0), type := 5, pos := "law.go:17", after := #[{ on := 1, ground := Ground.guard }], guard := some (1, true) }) (v := .int .u8 (a : Int)) (by kernel_rfl) (by kernel_rfl) (by kernel_rfl) (by kernel_rfl) (fun _ _ _ h => h) (by kernel_rfl) (fun w _ => by kernel_rfl) hS ?_
  refine wpAnyH_pure (i := 3) (o := { dst := some 12, op := Op.move (Operand.tmp 1), type := 5, pos := "law.go:17", after := #[{ on := 1, ground := Ground.guard }], guard := some (1, true) }) (v := .int .u8 (b : Int)) (by kernel_rfl) (by kernel_rfl) (by kernel_rfl) (by kernel_rfl) (fun _ _ _ h => h) (by kernel_rfl) (fun w _ => by kernel_rfl) hS ?_
  refine wpAnyH_pure (i := 5) (o := { dst := some 14, op := Op.move (Operand.tmp 0), type := 5, pos := "law.go:17", after := #[{ on := 1, ground := Ground.guard }], guard := some (1, true) }) (v := .int .u8 (a : Int)) (by kernel_rfl) (by kernel_rfl) (by kernel_rfl) (by kernel_rfl) (fun _ _ _ h => h) (by kernel_rfl) (fun w _ => by kernel_rfl) hS ?_
  refine wpAnyH_pure (i := 6) (o := { dst := some 15, op := Op.move (Operand.tmp 1), type := 5, pos := "law.go:17", after := #[{ on := 1, ground := Ground.guard }], guard := some (1, true) }) (v := .int .u8 (b : Int)) (by kernel_rfl) (by kernel_rfl) (by kernel_rfl) (by kernel_rfl) (fun _ _ _ h => h) (by kernel_rfl) (fun w _ => by kernel_rfl) hS ?_
  refine wpAnyH_call (i := 4) (o := { dst := some 13, op := Op.call { callee := Callee.value (Operand.func 11), args := #[Operand.tmp 11, Operand.tmp 12], argTypes := #[5, 5] }, type := 5, pos := "law.go:17", after := #[{ on := 2, ground := Ground.data }, { on := 3, ground := Ground.data }, { on := 1, ground := Ground.chain }, { on := 1, ground := Ground.guard }], guard := some (1, true) }) (by kernel_rfl) (by kernel_rfl) (by kernel_rfl) (fun w => by kernel_rfl) ((P1.out _).mono ?_)
  rintro e v2 ⟨rfl, hb⟩
  have hS2 : Below v1.heap.size v1 v2 := hS.trans (hb.mono hS.size)
  clear hb
  refine ⟨_, rfl, hS2, ?_⟩
  refine wpAnyH_call (i := 7) (o := { dst := some 16, op := Op.call { callee := Callee.value (Operand.func 12), args := #[Operand.tmp 14, Operand.tmp 15], argTypes := #[5, 5] }, type := 5, pos := "law.go:17", after := #[{ on := 5, ground := Ground.data }, { on := 6, ground := Ground.data }, { on := 4, ground := Ground.chain }, { on := 1, ground := Ground.guard }], guard := some (1, true) }) (by kernel_rfl) (by kernel_rfl) (by kernel_rfl) (fun w => by kernel_rfl) ((D1.out _).mono ?_)
  rintro e v3 ⟨rfl, hb⟩
  have hS3 : Below v1.heap.size v1 v3 := hS2.trans (hb.mono hS2.size)
  clear hb
  refine ⟨_, rfl, hS3, ?_⟩
  refine wpAnyH_pure (i := 8) (o := { dst := some 17, op := Op.binOp BinOp.eql 5 (Operand.tmp 13) (Operand.tmp 16) 5, type := 4, pos := "law.go:17", after := #[{ on := 4, ground := Ground.data }, { on := 7, ground := Ground.data }, { on := 1, ground := Ground.guard }], guard := some (1, true) }) (v := .bool true) (by kernel_rfl) (by kernel_rfl) (by kernel_rfl) (by kernel_rfl) (fun _ _ _ h => h) (by kernel_rfl) (fun w hSw => by go_simp) hS3 ?_
  refine wpAnyH_pure (i := 9) (o := { dst := some 18, op := Op.pick (Operand.tmp 10) (Operand.tmp 17) (Operand.const (Value.bool false)), type := 4, pos := "law.go:17", after := #[{ on := 1, ground := Ground.data }, { on := 8, ground := Ground.data }], guard := none }) (v := .bool true) (by kernel_rfl) (by kernel_rfl) (by kernel_rfl) (by kernel_rfl) (fun _ _ _ h => h) (by kernel_rfl) (fun w _ => by kernel_rfl) hS3 ?_
  refine wpAnyH_pure (i := 10) (o := { dst := some 19, op := Op.move (Operand.tmp 18), type := 4, pos := "law.go:17", after := #[{ on := 9, ground := Ground.data }, { on := 7, ground := Ground.chain }], guard := none }) (v := .bool true) (by kernel_rfl) (by kernel_rfl) (by kernel_rfl) (by kernel_rfl) (fun _ _ _ h => h) (by kernel_rfl) (fun w _ => by kernel_rfl) hS3 ?_
  refine wpAnyH_pure (i := 11) (o := { dst := some 20, op := Op.move (Operand.tmp 0), type := 5, pos := "law.go:17", after := #[{ on := 10, ground := Ground.guard }], guard := some (10, true) }) (v := .int .u8 (a : Int)) (by kernel_rfl) (by kernel_rfl) (by kernel_rfl) (by kernel_rfl) (fun _ _ _ h => h) (by kernel_rfl) (fun w _ => by kernel_rfl) hS3 ?_
  refine wpAnyH_pure (i := 13) (o := { dst := some 22, op := Op.move (Operand.tmp 0), type := 5, pos := "law.go:17", after := #[{ on := 10, ground := Ground.guard }], guard := some (10, true) }) (v := .int .u8 (a : Int)) (by kernel_rfl) (by kernel_rfl) (by kernel_rfl) (by kernel_rfl) (fun _ _ _ h => h) (by kernel_rfl) (fun w _ => by kernel_rfl) hS3 ?_
  refine wpAnyH_call (i := 12) (o := { dst := some 21, op := Op.call { callee := Callee.value (Operand.func 13), args := #[Operand.tmp 20], argTypes := #[5] }, type := 5, pos := "law.go:17", after := #[{ on := 11, ground := Ground.data }, { on := 10, ground := Ground.chain }, { on := 10, ground := Ground.guard }], guard := some (10, true) }) (by kernel_rfl) (by kernel_rfl) (by kernel_rfl) (fun w => by kernel_rfl) ((P2.out _).mono ?_)
  rintro e v4 ⟨rfl, hb⟩
  have hS4 : Below v1.heap.size v1 v4 := hS3.trans (hb.mono hS3.size)
  clear hb
  refine ⟨_, rfl, hS4, ?_⟩
  refine wpAnyH_call (i := 14) (o := { dst := some 23, op := Op.call { callee := Callee.value (Operand.func 14), args := #[Operand.tmp 22], argTypes := #[5] }, type := 5, pos := "law.go:17", after := #[{ on := 13, ground := Ground.data }, { on := 12, ground := Ground.chain }, { on := 10, ground := Ground.guard }], guard := some (10, true) }) (by kernel_rfl) (by kernel_rfl) (by kernel_rfl) (fun w => by kernel_rfl) ((D2.out _).mono ?_)
  rintro e v5 ⟨rfl, hb⟩
  have hS5 : Below v1.heap.size v1 v5 := hS4.trans (hb.mono hS4.size)
  clear hb
  refine ⟨_, rfl, hS5, ?_⟩
  refine wpAnyH_pure (i := 15) (o := { dst := some 24, op := Op.binOp BinOp.eql 5 (Operand.tmp 21) (Operand.tmp 23) 5, type := 4, pos := "law.go:17", after := #[{ on := 12, ground := Ground.data }, { on := 14, ground := Ground.data }, { on := 10, ground := Ground.guard }], guard := some (10, true) }) (v := .bool true) (by kernel_rfl) (by kernel_rfl) (by kernel_rfl) (by kernel_rfl) (fun _ _ _ h => h) (by kernel_rfl) (fun w hSw => by go_simp) hS5 ?_
  refine wpAnyH_pure (i := 16) (o := { dst := some 25, op := Op.pick (Operand.tmp 19) (Operand.tmp 24) (Operand.const (Value.bool false)), type := 4, pos := "law.go:17", after := #[{ on := 10, ground := Ground.data }, { on := 15, ground := Ground.data }], guard := none }) (v := .bool true) (by kernel_rfl) (by kernel_rfl) (by kernel_rfl) (by kernel_rfl) (fun _ _ _ h => h) (by kernel_rfl) (fun w _ => by kernel_rfl) hS5 ?_
  refine wpAnyH_pure (i := 17) (o := { dst := some 26, op := Op.move (Operand.tmp 25), type := 4, pos := "law.go:17", after := #[{ on := 16, ground := Ground.data }, { on := 14, ground := Ground.chain }], guard := none }) (v := .bool true) (by kernel_rfl) (by kernel_rfl) (by kernel_rfl) (by kernel_rfl) (fun _ _ _ h => h) (by kernel_rfl) (fun w _ => by kernel_rfl) hS5 ?_
  refine wpAnyH_pure (i := 18) (o := { dst := some 27, op := Op.move (Operand.tmp 0), type := 5, pos := "law.go:17", after := #[{ on := 17, ground := Ground.guard }], guard := some (17, true) }) (v := .int .u8 (a : Int)) (by kernel_rfl) (by kernel_rfl) (by kernel_rfl) (by kernel_rfl) (fun _ _ _ h => h) (by kernel_rfl) (fun w _ => by kernel_rfl) hS5 ?_
  refine wpAnyH_pure (i := 20) (o := { dst := some 29, op := Op.move (Operand.tmp 0), type := 5, pos := "law.go:17", after := #[{ on := 17, ground := Ground.guard }], guard := some (17, true) }) (v := .int .u8 (a : Int)) (by kernel_rfl) (by kernel_rfl) (by kernel_rfl) (by kernel_rfl) (fun _ _ _ h => h) (by kernel_rfl) (fun w _ => by kernel_rfl) hS5 ?_
  refine wpAnyH_call (i := 19) (o := { dst := some 28, op := Op.call { callee := Callee.value (Operand.func 15), args := #[Operand.tmp 27], argTypes := #[5] }, type := 5, pos := "law.go:17", after := #[{ on := 18, ground := Ground.data }, { on := 17, ground := Ground.chain }, { on := 17, ground := Ground.guard }], guard := some (17, true) }) (by kernel_rfl) (by kernel_rfl) (by kernel_rfl) (fun w => by kernel_rfl) ((P3.out _).mono ?_)
  rintro e v6 ⟨rfl, hb⟩
  have hS6 : Below v1.heap.size v1 v6 := hS5.trans (hb.mono hS5.size)
  clear hb
  refine ⟨_, rfl, hS6, ?_⟩
  refine wpAnyH_call (i := 21) (o := { dst := some 30, op := Op.call { callee := Callee.value (Operand.func 16), args := #[Operand.tmp 29], argTypes := #[5] }, type := 5, pos := "law.go:17", after := #[{ on := 20, ground := Ground.data }, { on := 19, ground := Ground.chain }, { on := 17, ground := Ground.guard }], guard := some (17, true) }) (by kernel_rfl) (by kernel_rfl) (by kernel_rfl) (fun w => by kernel_rfl) ((D3.out _).mono ?_)
  rintro e v7 ⟨rfl, hb⟩
  have hS7 : Below v1.heap.size v1 v7 := hS6.trans (hb.mono hS6.size)
  clear hb
  refine ⟨_, rfl, hS7, ?_⟩
  refine wpAnyH_pure (i := 22) (o := { dst := some 31, op := Op.binOp BinOp.eql 5 (Operand.tmp 28) (Operand.tmp 30) 5, type := 4, pos := "law.go:17", after := #[{ on := 19, ground := Ground.data }, { on := 21, ground := Ground.data }, { on := 17, ground := Ground.guard }], guard := some (17, true) }) (v := .bool true) (by kernel_rfl) (by kernel_rfl) (by kernel_rfl) (by kernel_rfl) (fun _ _ _ h => h) (by kernel_rfl) (fun w hSw => by go_simp) hS7 ?_
  refine wpAnyH_pure (i := 23) (o := { dst := some 32, op := Op.pick (Operand.tmp 26) (Operand.tmp 31) (Operand.const (Value.bool false)), type := 4, pos := "law.go:17", after := #[{ on := 17, ground := Ground.data }, { on := 22, ground := Ground.data }], guard := none }) (v := .bool true) (by kernel_rfl) (by kernel_rfl) (by kernel_rfl) (by kernel_rfl) (fun _ _ _ h => h) (by kernel_rfl) (fun w _ => by kernel_rfl) hS7 ?_
  refine wpAnyH_pure (i := 24) (o := { dst := some 33, op := Op.move (Operand.tmp 32), type := 4, pos := "law.go:17", after := #[{ on := 23, ground := Ground.data }, { on := 21, ground := Ground.chain }], guard := none }) (v := .bool true) (by kernel_rfl) (by kernel_rfl) (by kernel_rfl) (by kernel_rfl) (fun _ _ _ h => h) (by kernel_rfl) (fun w _ => by kernel_rfl) hS7 ?_
  refine wpAnyH_pure (i := 25) (o := { dst := some 34, op := Op.move (Operand.tmp 0), type := 5, pos := "law.go:17", after := #[{ on := 24, ground := Ground.guard }], guard := some (24, true) }) (v := .int .u8 (a : Int)) (by kernel_rfl) (by kernel_rfl) (by kernel_rfl) (by kernel_rfl) (fun _ _ _ h => h) (by kernel_rfl) (fun w _ => by kernel_rfl) hS7 ?_
  refine wpAnyH_pure (i := 27) (o := { dst := some 36, op := Op.move (Operand.tmp 0), type := 5, pos := "law.go:17", after := #[{ on := 24, ground := Ground.guard }], guard := some (24, true) }) (v := .int .u8 (a : Int)) (by kernel_rfl) (by kernel_rfl) (by kernel_rfl) (by kernel_rfl) (fun _ _ _ h => h) (by kernel_rfl) (fun w _ => by kernel_rfl) hS7 ?_
  refine wpAnyH_call (i := 26) (o := { dst := some 35, op := Op.call { callee := Callee.value (Operand.func 17), args := #[Operand.tmp 34], argTypes := #[5] }, type := 5, pos := "law.go:17", after := #[{ on := 25, ground := Ground.data }, { on := 24, ground := Ground.chain }, { on := 24, ground := Ground.guard }], guard := some (24, true) }) (by kernel_rfl) (by kernel_rfl) (by kernel_rfl) (fun w => by kernel_rfl) ((P4.out _).mono ?_)
  rintro e v8 ⟨rfl, hb⟩
  have hS8 : Below v1.heap.size v1 v8 := hS7.trans (hb.mono hS7.size)
  clear hb
  refine ⟨_, rfl, hS8, ?_⟩
  refine wpAnyH_call (i := 28) (o := { dst := some 37, op := Op.call { callee := Callee.value (Operand.func 18), args := #[Operand.tmp 36], argTypes := #[5] }, type := 5, pos := "law.go:17", after := #[{ on := 27, ground := Ground.data }, { on := 26, ground := Ground.chain }, { on := 24, ground := Ground.guard }], guard := some (24, true) }) (by kernel_rfl) (by kernel_rfl) (by kernel_rfl) (fun w => by kernel_rfl) ((D4.out _).mono ?_)
  rintro e v9 ⟨rfl, hb⟩
  have hS9 : Below v1.heap.size v1 v9 := hS8.trans (hb.mono hS8.size)
  clear hb
  refine ⟨_, rfl, hS9, ?_⟩
  refine wpAnyH_pure (i := 29) (o := { dst := some 38, op := Op.binOp BinOp.eql 5 (Operand.tmp 35) (Operand.tmp 37) 5, type := 4, pos := "law.go:17", after := #[{ on := 26, ground := Ground.data }, { on := 28, ground := Ground.data }, { on := 24, ground := Ground.guard }], guard := some (24, true) }) (v := .bool true) (by kernel_rfl) (by kernel_rfl) (by kernel_rfl) (by kernel_rfl) (fun _ _ _ h => h) (by kernel_rfl) (fun w hSw => by go_simp) hS9 ?_
  refine wpAnyH_pure (i := 30) (o := { dst := some 39, op := Op.pick (Operand.tmp 33) (Operand.tmp 38) (Operand.const (Value.bool false)), type := 4, pos := "law.go:17", after := #[{ on := 24, ground := Ground.data }, { on := 29, ground := Ground.data }], guard := none }) (v := .bool true) (by kernel_rfl) (by kernel_rfl) (by kernel_rfl) (by kernel_rfl) (fun _ _ _ h => h) (by kernel_rfl) (fun w _ => by kernel_rfl) hS9 ?_
  refine wpAnyH_pure (i := 31) (o := { dst := some 40, op := Op.move (Operand.tmp 39), type := 4, pos := "law.go:17", after := #[{ on := 30, ground := Ground.data }, { on := 28, ground := Ground.chain }], guard := none }) (v := .bool true) (by kernel_rfl) (by kernel_rfl) (by kernel_rfl) (by kernel_rfl) (fun _ _ _ h => h) (by kernel_rfl) (fun w _ => by kernel_rfl) hS9 ?_
  refine wpAnyH_take (i := 32) (oi := { dst := some 41, op := Op.load 22 (Operand.tmp 5), type := 22, pos := "law.go:17", after := #[{ on := 31, ground := Ground.guard }], guard := some (31, true) }) (by kernel_rfl) (by kernel_rfl) (by kernel_rfl) (by kernel_rfl) (fun _ _ _ h => h) (yieldsIf_load_mid (by kernel_rfl) 22 (.tmp 5) rfl (w.heap.size) 0 (by kernel_rfl) Lx _ (fun w h => rangeL (c1.below h c1.lt)) Try.underlying22 rfl RX.out.size) hS9 ?_
  refine wpAnyH_take (i := 34) (oi := { dst := some 43, op := Op.load 22 (Operand.tmp 5), type := 22, pos := "law.go:17", after := #[{ on := 31, ground := Ground.guard }], guard := some (31, true) }) (by kernel_rfl) (by kernel_rfl) (by kernel_rfl) (by kernel_rfl) (fun _ _ _ h => h) (yieldsIf_load_mid (by kernel_rfl) 22 (.tmp 5) rfl (w.heap.size) 0 (by kernel_rfl) Lx _ (fun w h => rangeL (c1.below h c1.lt)) Try.underlying22 rfl RX.out.size) hS9 ?_
  refine wpAnyH_call (i := 33) (o := { dst := some 42, op := Op.call { callee := Callee.value (Operand.func 19), args := #[Operand.tmp 41], argTypes := #[22] }, type := 22, pos := "law.go:17", after := #[{ on := 32, ground := Ground.data }, { on := 31, ground := Ground.chain }, { on := 31, ground := Ground.guard }], guard := some (31, true) }) (by kernel_rfl) (by kernel_rfl) (by kernel_rfl) (fun w => by kernel_rfl) ((P5.out _).mono ?_)
  rintro e v10 ⟨rfl, hb⟩
  have hS10 : Below v1.heap.size v1 v10 := hS9.trans (hb.mono hS9.size)
  clear hb
  refine ⟨_, rfl, hS10, ?_⟩
  refine wpAnyH_call (i := 35) (o := { dst := some 44, op := Op.call { callee := Callee.value (Operand.func 20), args := #[Operand.tmp 43], argTypes := #[22] }, type := 22, pos := "law.go:17", after := #[{ on := 34, ground := Ground.data }, { on := 33, ground := Ground.chain }, { on := 31, ground := Ground.guard }], guard := some (31, true) }) (by kernel_rfl) (by kernel_rfl) (by kernel_rfl) (fun w => by kernel_rfl) ((D5.out _).mono ?_)
  rintro e v11 ⟨rfl, hb⟩
  have hS11 : Below v1.heap.size v1 v11 := hS10.trans (hb.mono hS10.size)
  clear hb
  refine ⟨_, rfl, hS11, ?_⟩
  refine wpAnyH_pure (i := 36) (o := { dst := some 45, op := Op.binOp BinOp.eql 22 (Operand.tmp 42) (Operand.tmp 44) 22, type := 4, pos := "law.go:17", after := #[{ on := 33, ground := Ground.data }, { on := 35, ground := Ground.data }, { on := 31, ground := Ground.guard }], guard := some (31, true) }) (v := .bool true) (by kernel_rfl) (by kernel_rfl) (by kernel_rfl) (by kernel_rfl) (fun _ _ _ h => h) (by kernel_rfl) (fun w hSw => by go_simp) hS11 ?_
  refine wpAnyH_pure (i := 37) (o := { dst := some 46, op := Op.pick (Operand.tmp 40) (Operand.tmp 45) (Operand.const (Value.bool false)), type := 4, pos := "law.go:17", after := #[{ on := 31, ground := Ground.data }, { on := 36, ground := Ground.data }], guard := none }) (v := .bool true) (by kernel_rfl) (by kernel_rfl) (by kernel_rfl) (by kernel_rfl) (fun _ _ _ h => h) (by kernel_rfl) (fun w _ => by kernel_rfl) hS11 ?_
  refine wpAnyH_pure (i := 38) (o := { dst := some 47, op := Op.move (Operand.tmp 46), type := 4, pos := "law.go:17", after := #[{ on := 37, ground := Ground.data }, { on := 35, ground := Ground.chain }], guard := none }) (v := .bool true) (by kernel_rfl) (by kernel_rfl) (by kernel_rfl) (by kernel_rfl) (fun _ _ _ h => h) (by kernel_rfl) (fun w _ => by kernel_rfl) hS11 ?_
  refine wpAnyH_take (i := 39) (oi := { dst := some 48, op := Op.load 22 (Operand.tmp 5), type := 22, pos := "law.go:17", after := #[{ on := 38, ground := Ground.guard }], guard := some (38, true) }) (by kernel_rfl) (by kernel_rfl) (by kernel_rfl) (by kernel_rfl) (fun _ _ _ h => h) (yieldsIf_load_mid (by kernel_rfl) 22 (.tmp 5) rfl (w.heap.size) 0 (by kernel_rfl) Lx _ (fun w h => rangeL (c1.below h c1.lt)) Try.underlying22 rfl RX.out.size) hS11 ?_
  refine wpAnyH_take (i := 41) (oi := { dst := some 50, op := Op.load 22 (Operand.tmp 5), type := 22, pos := "law.go:17", after := #[{ on := 38, ground := Ground.guard }], guard := some (38, true) }) (by kernel_rfl) (by kernel_rfl) (by kernel_rfl) (by kernel_rfl) (fun _ _ _ h => h) (yieldsIf_load_mid (by kernel_rfl) 22 (.tmp 5) rfl (w.heap.size) 0 (by kernel_rfl) Lx _ (fun w h => rangeL (c1.below h c1.lt)) Try.underlying22 rfl RX.out.size) hS11 ?_
  refine wpAnyH_call (i := 40) (o := { dst := some 49, op := Op.call { callee := Callee.value (Operand.func 21), args := #[Operand.tmp 48], argTypes := #[22] }, type := 22, pos := "law.go:17", after := #[{ on := 39, ground := Ground.data }, { on := 38, ground := Ground.chain }, { on := 38, ground := Ground.guard }], guard := some (38, true) }) (by kernel_rfl) (by kernel_rfl) (by kernel_rfl) (fun w => by kernel_rfl) ((P6.out _).mono ?_)
  rintro e v12 ⟨rfl, hb⟩
  have hS12 : Below v1.heap.size v1 v12 := hS11.trans (hb.mono hS11.size)
  clear hb
  refine ⟨_, rfl, hS12, ?_⟩
  refine wpAnyH_call (i := 42) (o := { dst := some 51, op := Op.call { callee := Callee.value (Operand.func 22), args := #[Operand.tmp 50], argTypes := #[22] }, type := 22, pos := "law.go:17", after := #[{ on := 41, ground := Ground.data }, { on := 40, ground := Ground.chain }, { on := 38, ground := Ground.guard }], guard := some (38, true) }) (by kernel_rfl) (by kernel_rfl) (by kernel_rfl) (fun w => by kernel_rfl) ((D6.out _).mono ?_)
  rintro e v13 ⟨rfl, hb⟩
  have hS13 : Below v1.heap.size v1 v13 := hS12.trans (hb.mono hS12.size)
  clear hb
  refine ⟨_, rfl, hS13, ?_⟩
  refine wpAnyH_pure (i := 43) (o := { dst := some 52, op := Op.binOp BinOp.eql 22 (Operand.tmp 49) (Operand.tmp 51) 22, type := 4, pos := "law.go:17", after := #[{ on := 40, ground := Ground.data }, { on := 42, ground := Ground.data }, { on := 38, ground := Ground.guard }], guard := some (38, true) }) (v := .bool true) (by kernel_rfl) (by kernel_rfl) (by kernel_rfl) (by kernel_rfl) (fun _ _ _ h => h) (by kernel_rfl) (fun w hSw => by go_simp) hS13 ?_
  refine wpAnyH_pure (i := 44) (o := { dst := some 53, op := Op.pick (Operand.tmp 47) (Operand.tmp 52) (Operand.const (Value.bool false)), type := 4, pos := "law.go:17", after := #[{ on := 38, ground := Ground.data }, { on := 43, ground := Ground.data }], guard := none }) (v := .bool true) (by kernel_rfl) (by kernel_rfl) (by kernel_rfl) (by kernel_rfl) (fun _ _ _ h => h) (by kernel_rfl) (fun w _ => by kernel_rfl) hS13 ?_
  refine wpAnyH_pure (i := 45) (o := { dst := some 6, op := Op.assign (Operand.tmp 53), type := 4, pos := "law.go:17", after := #[{ on := 44, ground := Ground.data }, { on := 42, ground := Ground.chain }, { on := 0, ground := Ground.phase }, { on := 1, ground := Ground.phase }, { on := 2, ground := Ground.phase }, { on := 3, ground := Ground.phase }, { on := 4, ground := Ground.phase }, { on := 5, ground := Ground.phase }, { on := 6, ground := Ground.phase }, { on := 7, ground := Ground.phase }, { on := 8, ground := Ground.phase }, { on := 9, ground := Ground.phase }, { on := 10, ground := Ground.phase }, { on := 11, ground := Ground.phase }, { on := 12, ground := Ground.phase }, { on := 13, ground := Ground.phase }, { on := 14, ground := Ground.phase }, { on := 15, ground := Ground.phase }, { on := 16, ground := Ground.phase }, { on := 17, ground := Ground.phase }, { on := 18, ground := Ground.phase }, { on := 19, ground := Ground.phase }, { on := 20, ground := Ground.phase }, { on := 21, ground := Ground.phase }, { on := 22, ground := Ground.phase }, { on := 23, ground := Ground.phase }, { on := 24, ground := Ground.phase }, { on := 25, ground := Ground.phase }, { on := 26, ground := Ground.phase }, { on := 27, ground := Ground.phase }, { on := 28, ground := Ground.phase }, { on := 29, ground := Ground.phase }, { on := 30, ground := Ground.phase }, { on := 31, ground := Ground.phase }, { on := 32, ground := Ground.phase }, { on := 33, ground := Ground.phase }, { on := 34, ground := Ground.phase }, { on := 35, ground := Ground.phase }, { on := 36, ground := Ground.phase }, { on := 37, ground := Ground.phase }, { on := 38, ground := Ground.phase }, { on := 39, ground := Ground.phase }, { on := 40, ground := Ground.phase }, { on := 41, ground := Ground.phase }, { on := 42, ground := Ground.phase }, { on := 43, ground := Ground.phase }, { on := 44, ground := Ground.phase }], guard := none }) (v := .bool true) (by kernel_rfl) (by kernel_rfl) (by kernel_rfl) (by kernel_rfl) (fun _ _ _ h => h) (by kernel_rfl) (fun w _ => by kernel_rfl) hS13 ?_
  refine wpAnyH_last (k := 6) (v := .bool true) (by kernel_rfl) (by kernel_rfl) (by kernel_rfl) (fun T hT => ?_)
  have c14 := c1.below hS13 c1.lt
  have hB14 : Below w.heap.size w v13 := hB1.trans (hS13.mono hB1.size)
  go_wp2
  go_ret
  exact ⟨congrArg Ending.returned hT, hB14⟩

theorem ftells_walk (x y : Int) (z : C4) (w : World) (hx : 0 ≤ x ∧ x ≤ 255) (hy : 0 ≤ y ∧ y ≤ 255) (hz : z.Ok) :
    Calls Try.prog 3 #[.int .u8 x, .int .u8 y, .agg z.arr] w fun e w' => e = .returned (.bool true) ∧ Below w.heap.size w w' := by
  obtain ⟨a, rfl⟩ := Int.eq_ofNat_of_zero_le hx.1
  obtain ⟨b, rfl⟩ := Int.eq_ofNat_of_zero_le hy.1
  exact ftells_nat a b z w (by omega) (by omega) hz
end Go.Proofs.Ytnolfoefkkjmpaa
