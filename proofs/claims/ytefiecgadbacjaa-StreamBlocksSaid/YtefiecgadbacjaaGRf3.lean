/-
  Contracts of the document's own layer 3 (columbariumref03): Mul, Inv, bent, Sub, Back, Mix, Unmix. Conditions: the arguments are bytes.
-/
import Derived.Test.YtefiecgadbacjaaGFld
import Derived.Test.YtefiecgadbacjaaGKit
namespace Go.Proofs.Ytefiecgadbacjaa
open Go.RowKit

def prodK (a b : Nat) : Nat → Nat
  | 0 => 0
  | k + 1 => prodK a b k ^^^ prtN a b k
theorem prodK_lt {a : Nat} (ha : a < 256) (b k : Nat) : prodK a b k < 256 := by
  induction k with
  | zero => show 0 < 256; decide
  | succ k ih => exact xor_lt ih (prtN_lt ha b k)
theorem prodK_8 (a b : Nat) : prodK a b 8 = mulN a b := by
  show 0 ^^^ prtN a b 0 ^^^ prtN a b 1 ^^^ prtN a b 2 ^^^ prtN a b 3 ^^^ prtN a b 4 ^^^ prtN a b 5 ^^^ prtN a b 6 ^^^ prtN a b 7 = _
  rw [Nat.zero_xor]
  rfl
theorem prodK_t {a b k : Nat} (h : b.testBit k = true) : prodK a b (k + 1) = prodK a b k ^^^ xtk a k := by
  show _ ^^^ pick1 (b.testBit k) _ = _
  rw [h]; rfl
theorem prodK_f {a b k : Nat} (h : b.testBit k = false) : prodK a b (k + 1) = prodK a b k := by
  show _ ^^^ pick1 (b.testBit k) _ = _
  rw [h]; exact Nat.xor_zero _
theorem beq_cast (m n : Nat) : ((m : Int) == (n : Int)) = (m == n) := by
  rw [Bool.eq_iff_iff]
  simp only [beq_iff_eq]
  omega
theorem bit_rem (b k : Nat) : (((b : Int) / 2 ^ k).tmod 2 == 1) = b.testBit k := by
  rw [show (b : Int) / 2 ^ k = ((b / 2 ^ k : Nat) : Int) by simp, show (2 : Int) = ((2 : Nat) : Int) from rfl, show Int.tmod ((b / 2 ^ k : Nat) : Int) ((2 : Nat) : Int) = ((b / 2 ^ k % 2 : Nat) : Int) from rfl, Nat.testBit_eq_decide_div_mod_eq, show (1 : Int) = ((1 : Nat) : Int) from rfl, beq_cast]
  rfl
theorem xt_t {t : Nat} (h : 128 ≤ t) : ((xt t : Nat) : Int) = bits BinOp.xor IntKind.u8 ((t : Int) * 2 % 256) 27 := by
  rw [show (t : Int) * 2 % 256 = ((t * 2 % 256 : Nat) : Int) by omega, show (27 : Int) = ((27 : Nat) : Int) from rfl, u8_xor_nat _ _ (Nat.mod_lt _ (by decide)) (by decide)]
  unfold xt
  rw [if_pos h]
theorem xt_f {t : Nat} (h : ¬ 128 ≤ t) : ((xt t : Nat) : Int) = (t : Int) * 2 := by
  unfold xt
  rw [if_neg h]
  omega

set_option maxRecDepth 100000 in
set_option maxHeartbeats 1000000 in
theorem rmul_any (a b : Nat) (w : World) (ha : a < 256) (_ : b < 256) :
    Calls Try.prog 27 #[.int .u8 (a : Int), .int .u8 (b : Int)] w fun e w' => e = .returned (.int .u8 ((mulN a b : Nat) : Int)) ∧ w = w' := by
  go_enter Try.func27, Try.ntmps27
  go_wp2
  go_loopw [5, 6, 7] (fun p v i wr => ∃ k : Nat, k ≤ 8 ∧ p = .int .u8 (prodK a b k : Int) ∧ v = .int .u8 (xtk a k : Int) ∧ i = .int .i64 (k : Int) ∧ w = wr)
    (fun _ _ i _ => 8 - (intOf i).toNat)
  case atStart => exact ⟨0, by omega, rfl, rfl, rfl, rfl⟩
  case round =>
    obtain ⟨k, hk, rfl, rfl, rfl, rfl⟩ := hrel
    by_cases hlt : k < 8
    · have hi1 : (k : Int) < 8 := by omega
      have hx := xtk_lt ha k
      have hr := bit_rem b k
      have hp := prodK_lt ha b k
      have e1 : xtk a (k + 1) = xt (xtk a k) := rfl
      have e2 : b.testBit k = true → prodK a b (k + 1) = prodK a b k ^^^ xtk a k := prodK_t
      have e3 : b.testBit k = false → prodK a b (k + 1) = prodK a b k := prodK_f
      generalize xtk a k = x at *
      generalize prodK a b k = p at *
      have E1 := Lib.hid e1
      have E2 := Lib.hid e2
      have E3 := Lib.hid e3
      clear e1 e2 e3
      cases hbit : b.testBit k
      · rw [hbit] at hr
        by_cases h128 : 128 ≤ x
        · have h1 : 128 ≤ (x : Int) := by omega
          have ex := xt_t h128
          rw [← E1.out] at ex
          have EX := Lib.hid ex
          clear ex
          go_wp2
          go_roundw
          case rel => exact ⟨k + 1, by omega, by rw [E3.out hbit], by rw [EX.out], by go_num, trivial⟩
          case measure => simp [intOf]; omega
        · have h1 : (x : Int) < 128 := by omega
          have ex := xt_f h128
          rw [← E1.out] at ex
          have EX := Lib.hid ex
          clear ex
          go_wp2
          go_roundw
          case rel => exact ⟨k + 1, by omega, by rw [E3.out hbit], by rw [EX.out], by go_num, trivial⟩
          case measure => simp [intOf]; omega
      · rw [hbit] at hr
        have ep := u8_xor_nat p x hp hx
        rw [← E2.out hbit] at ep
        have EP := Lib.hid ep
        clear ep
        by_cases h128 : 128 ≤ x
        · have h1 : 128 ≤ (x : Int) := by omega
          have ex := xt_t h128
          rw [← E1.out] at ex
          have EX := Lib.hid ex
          clear ex
          go_wp2
          go_roundw
          case rel => exact ⟨k + 1, by omega, by rw [EP.out], by rw [EX.out], by go_num, trivial⟩
          case measure => simp [intOf]; omega
        · have h1 : (x : Int) < 128 := by omega
          have ex := xt_f h128
          rw [← E1.out] at ex
          have EX := Lib.hid ex
          clear ex
          go_wp2
          go_roundw
          case rel => exact ⟨k + 1, by omega, by rw [EP.out], by rw [EX.out], by go_num, trivial⟩
          case measure => simp [intOf]; omega
    · obtain rfl : k = 8 := by omega
      rw [prodK_8]
      go_wp2
      go_ret
      exact ⟨rfl, rfl⟩

/-- what is bent so far. -/
def bentK (b : Nat) : Nat → Nat
  | 0 => 0
  | k + 1 => bentK b k ||| bitX b k * 2 ^ k % 256
theorem bentK_all : all1 (fun b => bentK b 8 == bentN b) = true := by kernel_rfl
theorem bentK_8 {b : Nat} (hb : b < 256) : bentK b 8 = bentN b := by simpa using all1_of bentK_all hb
theorem bentK_lt (b k : Nat) : bentK b k < 256 := by
  induction k with
  | zero => show 0 < 256; decide
  | succ k ih => exact Nat.or_lt_two_pow (n := 8) ih (Nat.mod_lt _ (by decide))
theorem xor6 {a b c d e f : Nat} (ha : a < 256) (hb : b < 256) (hc : c < 256) (hd : d < 256) (he : e < 256) (hf : f < 256) :
    bits BinOp.xor IntKind.u8 (bits BinOp.xor IntKind.u8 (bits BinOp.xor IntKind.u8 (bits BinOp.xor IntKind.u8 (bits BinOp.xor IntKind.u8 (a : Int) (b : Int)) (c : Int)) (d : Int)) (e : Int)) (f : Int) = ((a ^^^ b ^^^ c ^^^ d ^^^ e ^^^ f : Nat) : Int) := by
  rw [u8_xor_nat _ _ ha hb, u8_xor_nat _ _ (xor_lt ha hb) hc, u8_xor_nat _ _ (xor_lt (xor_lt ha hb) hc) hd, u8_xor_nat _ _ (xor_lt (xor_lt (xor_lt ha hb) hc) hd) he, u8_xor_nat _ _ (xor_lt (xor_lt (xor_lt (xor_lt ha hb) hc) hd) he) hf]

theorem bent_next {p a b c d e f m : Nat} (hp : p < 256) (ha : a < 256) (hb : b < 256) (hc : c < 256) (hd : d < 256) (he : e < 256) (hf : f < 256) :
    bits BinOp.or IntKind.u8 (p : Int) ((bits BinOp.xor IntKind.u8 (bits BinOp.xor IntKind.u8 (bits BinOp.xor IntKind.u8 (bits BinOp.xor IntKind.u8 (bits BinOp.xor IntKind.u8 (a : Int) (b : Int)) (c : Int)) (d : Int)) (e : Int)) (f : Int)).tmod 2 * (m : Int) % 256) = ((p ||| (a ^^^ b ^^^ c ^^^ d ^^^ e ^^^ f) % 2 * m % 256 : Nat) : Int) := by
  rw [xor6 ha hb hc hd he hf]
  generalize a ^^^ b ^^^ c ^^^ d ^^^ e ^^^ f = z
  rw [show (Int.tmod (z : Int) 2) = ((z % 2 : Nat) : Int) from rfl, show ((z % 2 : Nat) : Int) * (m : Int) % 256 = ((z % 2 * m % 256 : Nat) : Int) by simp, u8_or_nat _ _ hp (Nat.mod_lt _ (by decide))]
theorem div_lt {b : Nat} (hb : b < 256) (m : Nat) : b / m < 256 := Nat.lt_of_le_of_lt (Nat.div_le_self _ _) hb

set_option maxRecDepth 100000 in
set_option maxHeartbeats 1000000 in
theorem rbent_any (b : Nat) (w : World) (hb : b < 256) :
    Calls Try.prog 28 #[.int .u8 (b : Int)] w fun e w' => e = .returned (.int .u8 ((bentN b : Nat) : Int)) ∧ Below w.heap.size w w' := by
  go_enter Try.func28, Try.ntmps28
  go_wp2
  go_loopw [3, 4] (fun p i wr => ∃ k : Nat, k ≤ 8 ∧ p = .int .u8 (bentK b k : Int) ∧ i = .int .i64 (k : Int) ∧ Below w.heap.size w wr)
    (fun _ i _ => 8 - (intOf i).toNat)
  case atStart => exact ⟨0, by omega, rfl, rfl, Below.refl _ _⟩
  case round =>
    obtain ⟨k, hk, rfl, rfl, hB⟩ := hrel
    by_cases hlt : k < 8
    · have hi1 : (k : Int) < 8 := by omega
      rcases (by omega : k = 0 ∨ k = 1 ∨ k = 2 ∨ k = 3 ∨ k = 4 ∨ k = 5 ∨ k = 6 ∨ k = 7) with rfl | rfl | rfl | rfl | rfl | rfl | rfl | rfl
      · have hv := bent_next (p := bentK b 0) (a := b) (b := (b / 16)) (c := (b / 32)) (d := (b / 64)) (e := (b / 128)) (f := 99) (m := 1) (bentK_lt b 0) hb (div_lt hb _) (div_lt hb _) (div_lt hb _) (div_lt hb _) (by decide)
        have he : bentK b 0 ||| (b ^^^ (b / 16) ^^^ (b / 32) ^^^ (b / 64) ^^^ (b / 128) ^^^ 99) % 2 * 1 % 256 = bentK b 1 := by
          show _ = bentK b 0 ||| bitX b 0 * 2 ^ 0 % 256
          unfold bitX
          simp only [Nat.reducePow, Nat.reduceAdd, Nat.reduceMod, Nat.div_one]
        rw [he] at hv
        rw [show ((1 : Nat) : Int) = 1 from rfl, Int.mul_one] at hv
        generalize bentK b 0 = p at *
        have HV := Lib.hid hv
        clear hv he
        go_wp2
        go_region
        go_wp2
        go_roundw
        case rel => exact ⟨1, by omega, congrArg (Value.int .u8) HV.out, rfl, hB.os, hB.tape, hB.output, hB.size, hB.block⟩
        case measure => decide
      · have hv := bent_next (p := bentK b 1) (a := (b / 2)) (b := (b / 32)) (c := (b / 64)) (d := (b / 128)) (e := b) (f := 49) (m := 2) (bentK_lt b 1) (div_lt hb _) (div_lt hb _) (div_lt hb _) (div_lt hb _) hb (by decide)
        have he : bentK b 1 ||| ((b / 2) ^^^ (b / 32) ^^^ (b / 64) ^^^ (b / 128) ^^^ b ^^^ 49) % 2 * 2 % 256 = bentK b 2 := by
          show _ = bentK b 1 ||| bitX b 1 * 2 ^ 1 % 256
          unfold bitX
          simp only [Nat.reducePow, Nat.reduceAdd, Nat.reduceMod, Nat.div_one]
        rw [he] at hv
        generalize bentK b 1 = p at *
        have HV := Lib.hid hv
        clear hv he
        go_wp2
        go_region
        go_wp2
        go_roundw
        case rel => exact ⟨2, by omega, congrArg (Value.int .u8) HV.out, rfl, hB.os, hB.tape, hB.output, hB.size, hB.block⟩
        case measure => decide
      · have hv := bent_next (p := bentK b 2) (a := (b / 4)) (b := (b / 64)) (c := (b / 128)) (d := b) (e := (b / 2)) (f := 24) (m := 4) (bentK_lt b 2) (div_lt hb _) (div_lt hb _) (div_lt hb _) hb (div_lt hb _) (by decide)
        have he : bentK b 2 ||| ((b / 4) ^^^ (b / 64) ^^^ (b / 128) ^^^ b ^^^ (b / 2) ^^^ 24) % 2 * 4 % 256 = bentK b 3 := by
          show _ = bentK b 2 ||| bitX b 2 * 2 ^ 2 % 256
          unfold bitX
          simp only [Nat.reducePow, Nat.reduceAdd, Nat.reduceMod, Nat.div_one]
        rw [he] at hv
        generalize bentK b 2 = p at *
        have HV := Lib.hid hv
        clear hv he
        go_wp2
        go_region
        go_wp2
        go_roundw
        case rel => exact ⟨3, by omega, congrArg (Value.int .u8) HV.out, rfl, hB.os, hB.tape, hB.output, hB.size, hB.block⟩
        case measure => decide
      · have hv := bent_next (p := bentK b 3) (a := (b / 8)) (b := (b / 128)) (c := b) (d := (b / 2)) (e := (b / 4)) (f := 12) (m := 8) (bentK_lt b 3) (div_lt hb _) (div_lt hb _) hb (div_lt hb _) (div_lt hb _) (by decide)
        have he : bentK b 3 ||| ((b / 8) ^^^ (b / 128) ^^^ b ^^^ (b / 2) ^^^ (b / 4) ^^^ 12) % 2 * 8 % 256 = bentK b 4 := by
          show _ = bentK b 3 ||| bitX b 3 * 2 ^ 3 % 256
          unfold bitX
          simp only [Nat.reducePow, Nat.reduceAdd, Nat.reduceMod, Nat.div_one]
        rw [he] at hv
        generalize bentK b 3 = p at *
        have HV := Lib.hid hv
        clear hv he
        go_wp2
        go_region
        go_wp2
        go_roundw
        case rel => exact ⟨4, by omega, congrArg (Value.int .u8) HV.out, rfl, hB.os, hB.tape, hB.output, hB.size, hB.block⟩
        case measure => decide
      · have hv := bent_next (p := bentK b 4) (a := (b / 16)) (b := b) (c := (b / 2)) (d := (b / 4)) (e := (b / 8)) (f := 6) (m := 16) (bentK_lt b 4) (div_lt hb _) hb (div_lt hb _) (div_lt hb _) (div_lt hb _) (by decide)
        have he : bentK b 4 ||| ((b / 16) ^^^ b ^^^ (b / 2) ^^^ (b / 4) ^^^ (b / 8) ^^^ 6) % 2 * 16 % 256 = bentK b 5 := by
          show _ = bentK b 4 ||| bitX b 4 * 2 ^ 4 % 256
          unfold bitX
          simp only [Nat.reducePow, Nat.reduceAdd, Nat.reduceMod, Nat.div_one]
        rw [he] at hv
        generalize bentK b 4 = p at *
        have HV := Lib.hid hv
        clear hv he
        go_wp2
        go_region
        go_wp2
        go_roundw
        case rel => exact ⟨5, by omega, congrArg (Value.int .u8) HV.out, rfl, hB.os, hB.tape, hB.output, hB.size, hB.block⟩
        case measure => decide
      · have hv := bent_next (p := bentK b 5) (a := (b / 32)) (b := (b / 2)) (c := (b / 4)) (d := (b / 8)) (e := (b / 16)) (f := 3) (m := 32) (bentK_lt b 5) (div_lt hb _) (div_lt hb _) (div_lt hb _) (div_lt hb _) (div_lt hb _) (by decide)
        have he : bentK b 5 ||| ((b / 32) ^^^ (b / 2) ^^^ (b / 4) ^^^ (b / 8) ^^^ (b / 16) ^^^ 3) % 2 * 32 % 256 = bentK b 6 := by
          show _ = bentK b 5 ||| bitX b 5 * 2 ^ 5 % 256
          unfold bitX
          simp only [Nat.reducePow, Nat.reduceAdd, Nat.reduceMod]
        rw [he] at hv
        generalize bentK b 5 = p at *
        have HV := Lib.hid hv
        clear hv he
        go_wp2
        go_region
        go_wp2
        go_roundw
        case rel => exact ⟨6, by omega, congrArg (Value.int .u8) HV.out, rfl, hB.os, hB.tape, hB.output, hB.size, hB.block⟩
        case measure => decide
      · have hv := bent_next (p := bentK b 6) (a := (b / 64)) (b := (b / 4)) (c := (b / 8)) (d := (b / 16)) (e := (b / 32)) (f := 1) (m := 64) (bentK_lt b 6) (div_lt hb _) (div_lt hb _) (div_lt hb _) (div_lt hb _) (div_lt hb _) (by decide)
        have he : bentK b 6 ||| ((b / 64) ^^^ (b / 4) ^^^ (b / 8) ^^^ (b / 16) ^^^ (b / 32) ^^^ 1) % 2 * 64 % 256 = bentK b 7 := by
          show _ = bentK b 6 ||| bitX b 6 * 2 ^ 6 % 256
          unfold bitX
          simp only [Nat.reducePow, Nat.reduceAdd, Nat.reduceMod]
        rw [he] at hv
        generalize bentK b 6 = p at *
        have HV := Lib.hid hv
        clear hv he
        go_wp2
        go_region
        go_wp2
        go_roundw
        case rel => exact ⟨7, by omega, congrArg (Value.int .u8) HV.out, rfl, hB.os, hB.tape, hB.output, hB.size, hB.block⟩
        case measure => decide
      · have hv := bent_next (p := bentK b 7) (a := (b / 128)) (b := (b / 8)) (c := (b / 16)) (d := (b / 32)) (e := (b / 64)) (f := 0) (m := 128) (bentK_lt b 7) (div_lt hb _) (div_lt hb _) (div_lt hb _) (div_lt hb _) (div_lt hb _) (by decide)
        have he : bentK b 7 ||| ((b / 128) ^^^ (b / 8) ^^^ (b / 16) ^^^ (b / 32) ^^^ (b / 64) ^^^ 0) % 2 * 128 % 256 = bentK b 8 := by
          show _ = bentK b 7 ||| bitX b 7 * 2 ^ 7 % 256
          unfold bitX
          simp only [Nat.reducePow, Nat.reduceAdd, Nat.reduceMod]
        rw [he] at hv
        generalize bentK b 7 = p at *
        have HV := Lib.hid hv
        clear hv he
        go_wp2
        go_region
        go_wp2
        go_roundw
        case rel => exact ⟨8, by omega, congrArg (Value.int .u8) HV.out, rfl, hB.os, hB.tape, hB.output, hB.size, hB.block⟩
        case measure => decide
    · obtain rfl : k = 8 := by omega
      rw [bentK_8 hb]
      go_wp2
      go_ret
      exact ⟨rfl, hB⟩

/-- what is mixed so far. -/
def outK (m : C4) : Nat → Array Value
  | 0 => #[.int .u8 0, .int .u8 0, .int .u8 0, .int .u8 0]
  | 1 => #[.int .u8 (m.a : Int), .int .u8 0, .int .u8 0, .int .u8 0]
  | 2 => #[.int .u8 (m.a : Int), .int .u8 (m.b : Int), .int .u8 0, .int .u8 0]
  | 3 => #[.int .u8 (m.a : Int), .int .u8 (m.b : Int), .int .u8 (m.c : Int), .int .u8 0]
  | _ => m.arr
set_option maxRecDepth 100000 in
set_option maxHeartbeats 2000000 in
theorem rmix_any (x : C4) (w : World) (h : x.Ok) :
    Calls Try.prog 48 #[.agg x.arr] w fun e w' => e = .returned (.agg (mixC x).arr) ∧ Below w.heap.size w w' := by
  have q2a := fun w => rmul_any 2 x.a w (by decide) h.a
  have q3a := fun w => rmul_any 3 x.a w (by decide) h.a
  have q2b := fun w => rmul_any 2 x.b w (by decide) h.b
  have q3b := fun w => rmul_any 3 x.b w (by decide) h.b
  have q2c := fun w => rmul_any 2 x.c w (by decide) h.c
  have q3c := fun w => rmul_any 3 x.c w (by decide) h.c
  have q2d := fun w => rmul_any 2 x.d w (by decide) h.d
  have q3d := fun w => rmul_any 3 x.d w (by decide) h.d
  have va : bits BinOp.xor IntKind.u8 (bits BinOp.xor IntKind.u8 (bits BinOp.xor IntKind.u8 ((mulN 2 x.a : Nat) : Int) ((mulN 3 x.b : Nat) : Int)) (x.c : Int)) (x.d : Int) = (((mixC x).a : Nat) : Int) := by
    rw [u8_xor_nat _ _ (mulN_lt (by decide)) (mulN_lt (by decide)), u8_xor_nat _ _ (xor_lt (mulN_lt (by decide)) (mulN_lt (by decide))) h.c, u8_xor_nat _ _ (xor_lt (xor_lt (mulN_lt (by decide)) (mulN_lt (by decide))) h.c) h.d]
    rfl
  have vb : bits BinOp.xor IntKind.u8 (bits BinOp.xor IntKind.u8 (bits BinOp.xor IntKind.u8 ((mulN 2 x.b : Nat) : Int) ((mulN 3 x.c : Nat) : Int)) (x.d : Int)) (x.a : Int) = (((mixC x).b : Nat) : Int) := by
    rw [u8_xor_nat _ _ (mulN_lt (by decide)) (mulN_lt (by decide)), u8_xor_nat _ _ (xor_lt (mulN_lt (by decide)) (mulN_lt (by decide))) h.d, u8_xor_nat _ _ (xor_lt (xor_lt (mulN_lt (by decide)) (mulN_lt (by decide))) h.d) h.a]
    rfl
  have vc : bits BinOp.xor IntKind.u8 (bits BinOp.xor IntKind.u8 (bits BinOp.xor IntKind.u8 ((mulN 2 x.c : Nat) : Int) ((mulN 3 x.d : Nat) : Int)) (x.a : Int)) (x.b : Int) = (((mixC x).c : Nat) : Int) := by
    rw [u8_xor_nat _ _ (mulN_lt (by decide)) (mulN_lt (by decide)), u8_xor_nat _ _ (xor_lt (mulN_lt (by decide)) (mulN_lt (by decide))) h.a, u8_xor_nat _ _ (xor_lt (xor_lt (mulN_lt (by decide)) (mulN_lt (by decide))) h.a) h.b]
    rfl
  have vd : bits BinOp.xor IntKind.u8 (bits BinOp.xor IntKind.u8 (bits BinOp.xor IntKind.u8 ((mulN 2 x.d : Nat) : Int) ((mulN 3 x.a : Nat) : Int)) (x.b : Int)) (x.c : Int) = (((mixC x).d : Nat) : Int) := by
    rw [u8_xor_nat _ _ (mulN_lt (by decide)) (mulN_lt (by decide)), u8_xor_nat _ _ (xor_lt (mulN_lt (by decide)) (mulN_lt (by decide))) h.b, u8_xor_nat _ _ (xor_lt (xor_lt (mulN_lt (by decide)) (mulN_lt (by decide))) h.b) h.c]
    rfl
  generalize mixC x = m at *
  have hs1 : (Try.prog.info? 73).map (·.size) = some m.arr.size := by kernel_rfl
  have hone := C4.arr_one m
  have hsz : m.arr.size = 4 := rfl
  generalize hMM : m.arr = M at *
  have HMM := Lib.hid hMM
  clear hMM
  generalize mulN 2 x.a = y2a at *
  generalize mulN 3 x.a = y3a at *
  generalize mulN 2 x.b = y2b at *
  generalize mulN 3 x.b = y3b at *
  generalize mulN 2 x.c = y2c at *
  generalize mulN 3 x.c = y3c at *
  generalize mulN 2 x.d = y2d at *
  generalize mulN 3 x.d = y3d at *
  have Q2a := Lib.hid q2a
  have Q3a := Lib.hid q3a
  have Va := Lib.hid va
  have Q2b := Lib.hid q2b
  have Q3b := Lib.hid q3b
  have Vb := Lib.hid vb
  have Q2c := Lib.hid q2c
  have Q3c := Lib.hid q3c
  have Vc := Lib.hid vc
  have Q2d := Lib.hid q2d
  have Q3d := Lib.hid q3d
  have Vd := Lib.hid vd
  clear q2a q3a q2b q3b q2c q3c q2d q3d va vb vc vd
  have hs0 : (Try.prog.info? 73).map (·.size) = some x.arr.size := by kernel_rfl
  go_enter Try.func48, Try.ntmps48
  go_wp2
  have c0 : Is (((w.alloc (.cells x.arr 73)).alloc (.cells #[.int .u8 0, .int .u8 0, .int .u8 0, .int .u8 0] 73)).alloc (.cells #[.int .u8 0, .int .u8 0, .int .u8 0, .int .u8 0] 73)) w.heap.size 73 x.arr := ((Is.new w _ _).alloc _).alloc _
  have r0 : Is (((w.alloc (.cells x.arr 73)).alloc (.cells #[.int .u8 0, .int .u8 0, .int .u8 0, .int .u8 0] 73)).alloc (.cells #[.int .u8 0, .int .u8 0, .int .u8 0, .int .u8 0] 73)) (w.heap.size + 1) 73 (outK m 0) := Is.alloc (heap_alloc2_new w _ _) _
  have o0 : Is (((w.alloc (.cells x.arr 73)).alloc (.cells #[.int .u8 0, .int .u8 0, .int .u8 0, .int .u8 0] 73)).alloc (.cells #[.int .u8 0, .int .u8 0, .int .u8 0, .int .u8 0] 73)) (w.heap.size + 1 + 1) 73 (outK m 0) := by
    have := Is.new ((w.alloc (.cells x.arr 73)).alloc (.cells #[.int .u8 0, .int .u8 0, .int .u8 0, .int .u8 0] 73)) 73 (outK m 0)
    simp at this
    exact this
  have hB0 : Below w.heap.size w (((w.alloc (.cells x.arr 73)).alloc (.cells #[.int .u8 0, .int .u8 0, .int .u8 0, .int .u8 0] 73)).alloc (.cells #[.int .u8 0, .int .u8 0, .int .u8 0, .int .u8 0] 73)) := (((Below.refl _ _).alloc (Nat.le_refl _) _).alloc (by simp) _).alloc (by simp; omega) _
  go_loopw [4] (fun i wr => ∃ k : Nat, k ≤ 4 ∧ i = .int .i64 (k : Int) ∧ Is wr w.heap.size 73 x.arr ∧ Is wr (w.heap.size + 1) 73 (outK m 0) ∧ Is wr (w.heap.size + 1 + 1) 73 (outK m k) ∧ Below w.heap.size w wr)
    (fun i _ => 4 - (intOf i).toNat)
  case atStart => exact ⟨0, by omega, rfl, c0, r0, o0, hB0⟩
  case round =>
    clear c0 r0 o0 hB0
    obtain ⟨k, hk, rfl, c0, r0, o0, hB0⟩ := hrel
    by_cases hlt : k < 4
    · have hi1 : (k : Int) < 4 := by omega
      rcases (by omega : k = 0 ∨ k = 1 ∨ k = 2 ∨ k = 3) with rfl | rfl | rfl | rfl
      · skip
        have o0 : Is wr (w.heap.size + 1 + 1) 73 #[.int .u8 0, .int .u8 0, .int .u8 0, .int .u8 0] := o0
        go_wp2
        have c1 := c0.drewN 1
        have r1 := r0.drewN 1
        have o1 := o0.drewN 1
        have hB1 := belowN hB0 1
        refine wp_region_held_drew (S := fun W => Is W (w.heap.size) 73 x.arr) (by kernel_rfl) c1 (fun hS => ?_)
        change wpAnyH _ _ (opsOf Try.f48 5) _ _ 26 (Array.replicate 26 false) _ _
        refine wpAnyH_pure (i := 0) (o := { dst := some 9, op := Op.move (Operand.tmp 4), type := 3, pos := "ref.go:84", after := #[], guard := none }) (v := .int .i64 0) (by kernel_rfl) (by kernel_rfl) (by kernel_rfl) (by kernel_rfl) (fun _ _ _ h => h) (by kernel_rfl) (fun w _ => by kernel_rfl) hS ?_
        simp only [Act.put]
        refine wpAnyH_pure (i := 1) (o := { dst := some 10, op := Op.move (Operand.tmp 4), type := 3, pos := "ref.go:84", after := #[], guard := none }) (v := .int .i64 0) (by kernel_rfl) (by kernel_rfl) (by kernel_rfl) (by kernel_rfl) (fun _ _ _ h => h) (by kernel_rfl) (fun w _ => by kernel_rfl) hS ?_
        simp only [Act.put]
        refine wpAnyH_pure (i := 2) (o := { dst := some 11, op := Op.indexAddr 73 (Operand.tmp 1) (Operand.tmp 10), type := 0, pos := "ref.go:84", after := #[{ on := 1, ground := Ground.data }], guard := none }) (v := .pointer (some ⟨w.heap.size, 0, none⟩)) (by kernel_rfl) (by kernel_rfl) (by kernel_rfl) (by kernel_rfl) (fun _ _ _ h => h) (by kernel_rfl) (fun w _ => by kernel_rfl) hS ?_
        simp only [Act.put]
        refine wpAnyH_pure (i := 3) (o := { dst := some 12, op := Op.load 5 (Operand.tmp 11), type := 5, pos := "ref.go:84", after := #[{ on := 2, ground := Ground.data }], guard := none }) (v := .int .u8 (x.a : Int)) (by kernel_rfl) (by kernel_rfl) (by kernel_rfl) (by kernel_rfl) (fun _ _ _ h => h) (by kernel_rfl) (fun w hSw => by (have hc := Is.cell hSw 0; go_simp)) hS ?_
        simp only [Act.put]
        refine wpAnyH_pure (i := 5) (o := { dst := some 14, op := Op.move (Operand.tmp 4), type := 3, pos := "ref.go:84", after := #[], guard := none }) (v := .int .i64 0) (by kernel_rfl) (by kernel_rfl) (by kernel_rfl) (by kernel_rfl) (fun _ _ _ h => h) (by kernel_rfl) (fun w _ => by kernel_rfl) hS ?_
        simp only [Act.put]
        refine wpAnyH_pure (i := 6) (o := { dst := some 15, op := Op.binOp BinOp.add 3 (Operand.tmp 14) (Operand.const (Value.int IntKind.i64 1)) 3, type := 3, pos := "ref.go:84", after := #[{ on := 5, ground := Ground.data }], guard := none }) (v := .int .i64 1) (by kernel_rfl) (by kernel_rfl) (by kernel_rfl) (by kernel_rfl) (fun _ _ _ h => h) (by kernel_rfl) (fun w _ => by kernel_rfl) hS ?_
        simp only [Act.put]
        refine wpAnyH_pure (i := 7) (o := { dst := some 16, op := Op.binOp BinOp.rem 3 (Operand.tmp 15) (Operand.const (Value.int IntKind.i64 4)) 3, type := 3, pos := "ref.go:84", after := #[{ on := 6, ground := Ground.data }], guard := none }) (v := .int .i64 1) (by kernel_rfl) (by kernel_rfl) (by kernel_rfl) (by kernel_rfl) (fun _ _ _ h => h) (by kernel_rfl) (fun w _ => by kernel_rfl) hS ?_
        simp only [Act.put]
        refine wpAnyH_pure (i := 8) (o := { dst := some 17, op := Op.indexAddr 73 (Operand.tmp 1) (Operand.tmp 16), type := 0, pos := "ref.go:84", after := #[{ on := 7, ground := Ground.data }], guard := none }) (v := .pointer (some ⟨w.heap.size, 1, none⟩)) (by kernel_rfl) (by kernel_rfl) (by kernel_rfl) (by kernel_rfl) (fun _ _ _ h => h) (by kernel_rfl) (fun w _ => by kernel_rfl) hS ?_
        simp only [Act.put]
        refine wpAnyH_pure (i := 9) (o := { dst := some 18, op := Op.load 5 (Operand.tmp 17), type := 5, pos := "ref.go:84", after := #[{ on := 8, ground := Ground.data }], guard := none }) (v := .int .u8 (x.b : Int)) (by kernel_rfl) (by kernel_rfl) (by kernel_rfl) (by kernel_rfl) (fun _ _ _ h => h) (by kernel_rfl) (fun w hSw => by (have hc := Is.cell hSw 1; go_simp)) hS ?_
        simp only [Act.put]
        refine wpAnyH_pure (i := 12) (o := { dst := some 21, op := Op.move (Operand.tmp 4), type := 3, pos := "ref.go:84", after := #[], guard := none }) (v := .int .i64 0) (by kernel_rfl) (by kernel_rfl) (by kernel_rfl) (by kernel_rfl) (fun _ _ _ h => h) (by kernel_rfl) (fun w _ => by kernel_rfl) hS ?_
        simp only [Act.put]
        refine wpAnyH_pure (i := 13) (o := { dst := some 22, op := Op.binOp BinOp.add 3 (Operand.tmp 21) (Operand.const (Value.int IntKind.i64 2)) 3, type := 3, pos := "ref.go:84", after := #[{ on := 12, ground := Ground.data }], guard := none }) (v := .int .i64 2) (by kernel_rfl) (by kernel_rfl) (by kernel_rfl) (by kernel_rfl) (fun _ _ _ h => h) (by kernel_rfl) (fun w _ => by kernel_rfl) hS ?_
        simp only [Act.put]
        refine wpAnyH_pure (i := 14) (o := { dst := some 23, op := Op.binOp BinOp.rem 3 (Operand.tmp 22) (Operand.const (Value.int IntKind.i64 4)) 3, type := 3, pos := "ref.go:84", after := #[{ on := 13, ground := Ground.data }], guard := none }) (v := .int .i64 2) (by kernel_rfl) (by kernel_rfl) (by kernel_rfl) (by kernel_rfl) (fun _ _ _ h => h) (by kernel_rfl) (fun w _ => by kernel_rfl) hS ?_
        simp only [Act.put]
        refine wpAnyH_pure (i := 15) (o := { dst := some 24, op := Op.indexAddr 73 (Operand.tmp 1) (Operand.tmp 23), type := 0, pos := "ref.go:84", after := #[{ on := 14, ground := Ground.data }], guard := none }) (v := .pointer (some ⟨w.heap.size, 2, none⟩)) (by kernel_rfl) (by kernel_rfl) (by kernel_rfl) (by kernel_rfl) (fun _ _ _ h => h) (by kernel_rfl) (fun w _ => by kernel_rfl) hS ?_
        simp only [Act.put]
        refine wpAnyH_pure (i := 16) (o := { dst := some 25, op := Op.load 5 (Operand.tmp 24), type := 5, pos := "ref.go:84", after := #[{ on := 15, ground := Ground.data }], guard := none }) (v := .int .u8 (x.c : Int)) (by kernel_rfl) (by kernel_rfl) (by kernel_rfl) (by kernel_rfl) (fun _ _ _ h => h) (by kernel_rfl) (fun w hSw => by (have hc := Is.cell hSw 2; go_simp)) hS ?_
        simp only [Act.put]
        refine wpAnyH_pure (i := 18) (o := { dst := some 27, op := Op.move (Operand.tmp 4), type := 3, pos := "ref.go:84", after := #[], guard := none }) (v := .int .i64 0) (by kernel_rfl) (by kernel_rfl) (by kernel_rfl) (by kernel_rfl) (fun _ _ _ h => h) (by kernel_rfl) (fun w _ => by kernel_rfl) hS ?_
        simp only [Act.put]
        refine wpAnyH_pure (i := 19) (o := { dst := some 28, op := Op.binOp BinOp.add 3 (Operand.tmp 27) (Operand.const (Value.int IntKind.i64 3)) 3, type := 3, pos := "ref.go:84", after := #[{ on := 18, ground := Ground.data }], guard := none }) (v := .int .i64 3) (by kernel_rfl) (by kernel_rfl) (by kernel_rfl) (by kernel_rfl) (fun _ _ _ h => h) (by kernel_rfl) (fun w _ => by kernel_rfl) hS ?_
        simp only [Act.put]
        refine wpAnyH_pure (i := 20) (o := { dst := some 29, op := Op.binOp BinOp.rem 3 (Operand.tmp 28) (Operand.const (Value.int IntKind.i64 4)) 3, type := 3, pos := "ref.go:84", after := #[{ on := 19, ground := Ground.data }], guard := none }) (v := .int .i64 3) (by kernel_rfl) (by kernel_rfl) (by kernel_rfl) (by kernel_rfl) (fun _ _ _ h => h) (by kernel_rfl) (fun w _ => by kernel_rfl) hS ?_
        simp only [Act.put]
        refine wpAnyH_pure (i := 21) (o := { dst := some 30, op := Op.indexAddr 73 (Operand.tmp 1) (Operand.tmp 29), type := 0, pos := "ref.go:84", after := #[{ on := 20, ground := Ground.data }], guard := none }) (v := .pointer (some ⟨w.heap.size, 3, none⟩)) (by kernel_rfl) (by kernel_rfl) (by kernel_rfl) (by kernel_rfl) (fun _ _ _ h => h) (by kernel_rfl) (fun w _ => by kernel_rfl) hS ?_
        simp only [Act.put]
        refine wpAnyH_pure (i := 22) (o := { dst := some 31, op := Op.load 5 (Operand.tmp 30), type := 5, pos := "ref.go:84", after := #[{ on := 21, ground := Ground.data }], guard := none }) (v := .int .u8 (x.d : Int)) (by kernel_rfl) (by kernel_rfl) (by kernel_rfl) (by kernel_rfl) (fun _ _ _ h => h) (by kernel_rfl) (fun w hSw => by (have hc := Is.cell hSw 3; go_simp)) hS ?_
        simp only [Act.put]
        refine wpAnyH_call (i := 4) (o := { dst := some 13, op := Op.call { callee := Callee.value (Operand.func 27), args := #[Operand.const (Value.int IntKind.u8 2), Operand.tmp 12], argTypes := #[5, 5] }, type := 5, pos := "ref.go:84", after := #[{ on := 3, ground := Ground.data }], guard := none }) (by kernel_rfl) (by kernel_rfl) (by kernel_rfl) (fun w => by kernel_rfl) ((Q2a.out _).mono ?_)
        rintro e w' ⟨rfl, rfl⟩
        refine ⟨_, rfl, hS, ?_⟩
        simp only [Act.put]
        refine wpAnyH_call (i := 10) (o := { dst := some 19, op := Op.call { callee := Callee.value (Operand.func 27), args := #[Operand.const (Value.int IntKind.u8 3), Operand.tmp 18], argTypes := #[5, 5] }, type := 5, pos := "ref.go:84", after := #[{ on := 9, ground := Ground.data }, { on := 4, ground := Ground.chain }], guard := none }) (by kernel_rfl) (by kernel_rfl) (by kernel_rfl) (fun w => by kernel_rfl) ((Q3b.out _).mono ?_)
        rintro e w' ⟨rfl, rfl⟩
        refine ⟨_, rfl, hS, ?_⟩
        simp only [Act.put]
        refine wpAnyH_pure (i := 11) (o := { dst := some 20, op := Op.binOp BinOp.xor 5 (Operand.tmp 13) (Operand.tmp 19) 5, type := 5, pos := "ref.go:84", after := #[{ on := 4, ground := Ground.data }, { on := 10, ground := Ground.data }], guard := none }) (v := .int .u8 (bits BinOp.xor IntKind.u8 (y2a : Int) (y3b : Int))) (by kernel_rfl) (by kernel_rfl) (by kernel_rfl) (by kernel_rfl) (fun _ _ _ h => h) (by kernel_rfl) (fun w hSw => by go_simp) hS ?_
        simp only [Act.put]
        refine wpAnyH_pure (i := 17) (o := { dst := some 26, op := Op.binOp BinOp.xor 5 (Operand.tmp 20) (Operand.tmp 25) 5, type := 5, pos := "ref.go:84", after := #[{ on := 11, ground := Ground.data }, { on := 16, ground := Ground.data }], guard := none }) (v := .int .u8 (bits BinOp.xor IntKind.u8 (bits BinOp.xor IntKind.u8 (y2a : Int) (y3b : Int)) (x.c : Int))) (by kernel_rfl) (by kernel_rfl) (by kernel_rfl) (by kernel_rfl) (fun _ _ _ h => h) (by kernel_rfl) (fun w hSw => by go_simp) hS ?_
        simp only [Act.put]
        refine wpAnyH_pure (i := 23) (o := { dst := some 32, op := Op.binOp BinOp.xor 5 (Operand.tmp 26) (Operand.tmp 31) 5, type := 5, pos := "ref.go:84", after := #[{ on := 17, ground := Ground.data }, { on := 22, ground := Ground.data }], guard := none }) (v := .int .u8 (bits BinOp.xor IntKind.u8 (bits BinOp.xor IntKind.u8 (bits BinOp.xor IntKind.u8 (y2a : Int) (y3b : Int)) (x.c : Int)) (x.d : Int))) (by kernel_rfl) (by kernel_rfl) (by kernel_rfl) (by kernel_rfl) (fun _ _ _ h => h) (by kernel_rfl) (fun w hSw => by go_simp) hS ?_
        simp only [Act.put]
        refine wpAnyH_pure (i := 24) (o := { dst := some 33, op := Op.indexAddr 73 (Operand.tmp 3) (Operand.tmp 9), type := 0, pos := "ref.go:84", after := #[{ on := 0, ground := Ground.data }, { on := 0, ground := Ground.phase }, { on := 1, ground := Ground.phase }, { on := 2, ground := Ground.phase }, { on := 3, ground := Ground.phase }, { on := 4, ground := Ground.phase }, { on := 5, ground := Ground.phase }, { on := 6, ground := Ground.phase }, { on := 7, ground := Ground.phase }, { on := 8, ground := Ground.phase }, { on := 9, ground := Ground.phase }, { on := 10, ground := Ground.phase }, { on := 11, ground := Ground.phase }, { on := 12, ground := Ground.phase }, { on := 13, ground := Ground.phase }, { on := 14, ground := Ground.phase }, { on := 15, ground := Ground.phase }, { on := 16, ground := Ground.phase }, { on := 17, ground := Ground.phase }, { on := 18, ground := Ground.phase }, { on := 19, ground := Ground.phase }, { on := 20, ground := Ground.phase }, { on := 21, ground := Ground.phase }, { on := 22, ground := Ground.phase }, { on := 23, ground := Ground.phase }], guard := none }) (v := .pointer (some ⟨w.heap.size + 1 + 1, 0, none⟩)) (by kernel_rfl) (by kernel_rfl) (by kernel_rfl) (by kernel_rfl) (fun _ _ _ h => h) (by kernel_rfl) (fun w _ => by kernel_rfl) hS ?_
        simp only [Act.put]
        have st2 := o1.cell 0
        have sf2 := o1.frozen 0
        have su2 := o0.cell 0
        have sg2 := o0.frozen 0
        refine wpAnyH_step (i := 25) (o := { dst := none, op := Op.store 5 (Operand.tmp 33) (Operand.tmp 32), type := 0, pos := "ref.go:84", after := #[{ on := 24, ground := Ground.data }, { on := 23, ground := Ground.data }, { on := 10, ground := Ground.chain }, { on := 0, ground := Ground.phase }, { on := 1, ground := Ground.phase }, { on := 2, ground := Ground.phase }, { on := 3, ground := Ground.phase }, { on := 4, ground := Ground.phase }, { on := 5, ground := Ground.phase }, { on := 6, ground := Ground.phase }, { on := 7, ground := Ground.phase }, { on := 8, ground := Ground.phase }, { on := 9, ground := Ground.phase }, { on := 10, ground := Ground.phase }, { on := 11, ground := Ground.phase }, { on := 12, ground := Ground.phase }, { on := 13, ground := Ground.phase }, { on := 14, ground := Ground.phase }, { on := 15, ground := Ground.phase }, { on := 16, ground := Ground.phase }, { on := 17, ground := Ground.phase }, { on := 18, ground := Ground.phase }, { on := 19, ground := Ground.phase }, { on := 20, ground := Ground.phase }, { on := 21, ground := Ground.phase }, { on := 22, ground := Ground.phase }, { on := 23, ground := Ground.phase }], guard := none }) (by kernel_rfl) (by kernel_rfl) (by kernel_rfl) (fun Kc hKc => ?_)
        go_simp
        have c2 := c1.far (p := ⟨w.heap.size + 1 + 1, 0, none⟩) (by dsimp only; omega) (.int .u8 (bits BinOp.xor IntKind.u8 (bits BinOp.xor IntKind.u8 (bits BinOp.xor IntKind.u8 (y2a : Int) (y3b : Int)) (x.c : Int)) (x.d : Int)))
        have r2 := r1.far (p := ⟨w.heap.size + 1 + 1, 0, none⟩) (by dsimp only; omega) (.int .u8 (bits BinOp.xor IntKind.u8 (bits BinOp.xor IntKind.u8 (bits BinOp.xor IntKind.u8 (y2a : Int) (y3b : Int)) (x.c : Int)) (x.d : Int)))
        have o2 := o1.set 0 (.int .u8 (bits BinOp.xor IntKind.u8 (bits BinOp.xor IntKind.u8 (bits BinOp.xor IntKind.u8 (y2a : Int) (y3b : Int)) (x.c : Int)) (x.d : Int)))
        have hB2 := hB1.setCell (p := ⟨w.heap.size + 1 + 1, 0, none⟩) (by dsimp only; omega) (.int .u8 (bits BinOp.xor IntKind.u8 (bits BinOp.xor IntKind.u8 (bits BinOp.xor IntKind.u8 (y2a : Int) (y3b : Int)) (x.c : Int)) (x.d : Int)))
        refine hKc.out _ _ c2 (fun _ => ?_)
        clear hKc Kc
        try simp only [Act.put]
        refine wpAnyH_done (by kernel_rfl) ?_ _
        have eo : (#[.int .u8 0, .int .u8 0, .int .u8 0, .int .u8 0] : Array Value).setIfInBounds 0 (.int .u8 (bits BinOp.xor IntKind.u8 (bits BinOp.xor IntKind.u8 (bits BinOp.xor IntKind.u8 (y2a : Int) (y3b : Int)) (x.c : Int)) (x.d : Int))) = outK m 1 := by rw [Va.out]; rfl
        rw [eo] at o2
        go_wp2
        go_roundw
        case rel => exact ⟨1, by omega, by go_num, c2, r2, o2, hB2⟩
        case measure => decide
      · skip
        have o0 : Is wr (w.heap.size + 1 + 1) 73 #[.int .u8 (m.a : Int), .int .u8 0, .int .u8 0, .int .u8 0] := o0
        go_wp2
        have c1 := c0.drewN 1
        have r1 := r0.drewN 1
        have o1 := o0.drewN 1
        have hB1 := belowN hB0 1
        refine wp_region_held_drew (S := fun W => Is W (w.heap.size) 73 x.arr) (by kernel_rfl) c1 (fun hS => ?_)
        change wpAnyH _ _ (opsOf Try.f48 5) _ _ 26 (Array.replicate 26 false) _ _
        refine wpAnyH_pure (i := 0) (o := { dst := some 9, op := Op.move (Operand.tmp 4), type := 3, pos := "ref.go:84", after := #[], guard := none }) (v := .int .i64 1) (by kernel_rfl) (by kernel_rfl) (by kernel_rfl) (by kernel_rfl) (fun _ _ _ h => h) (by kernel_rfl) (fun w _ => by kernel_rfl) hS ?_
        simp only [Act.put]
        refine wpAnyH_pure (i := 1) (o := { dst := some 10, op := Op.move (Operand.tmp 4), type := 3, pos := "ref.go:84", after := #[], guard := none }) (v := .int .i64 1) (by kernel_rfl) (by kernel_rfl) (by kernel_rfl) (by kernel_rfl) (fun _ _ _ h => h) (by kernel_rfl) (fun w _ => by kernel_rfl) hS ?_
        simp only [Act.put]
        refine wpAnyH_pure (i := 2) (o := { dst := some 11, op := Op.indexAddr 73 (Operand.tmp 1) (Operand.tmp 10), type := 0, pos := "ref.go:84", after := #[{ on := 1, ground := Ground.data }], guard := none }) (v := .pointer (some ⟨w.heap.size, 1, none⟩)) (by kernel_rfl) (by kernel_rfl) (by kernel_rfl) (by kernel_rfl) (fun _ _ _ h => h) (by kernel_rfl) (fun w _ => by kernel_rfl) hS ?_
        simp only [Act.put]
        refine wpAnyH_pure (i := 3) (o := { dst := some 12, op := Op.load 5 (Operand.tmp 11), type := 5, pos := "ref.go:84", after := #[{ on := 2, ground := Ground.data }], guard := none }) (v := .int .u8 (x.b : Int)) (by kernel_rfl) (by kernel_rfl) (by kernel_rfl) (by kernel_rfl) (fun _ _ _ h => h) (by kernel_rfl) (fun w hSw => by (have hc := Is.cell hSw 1; go_simp)) hS ?_
        simp only [Act.put]
        refine wpAnyH_pure (i := 5) (o := { dst := some 14, op := Op.move (Operand.tmp 4), type := 3, pos := "ref.go:84", after := #[], guard := none }) (v := .int .i64 1) (by kernel_rfl) (by kernel_rfl) (by kernel_rfl) (by kernel_rfl) (fun _ _ _ h => h) (by kernel_rfl) (fun w _ => by kernel_rfl) hS ?_
        simp only [Act.put]
        refine wpAnyH_pure (i := 6) (o := { dst := some 15, op := Op.binOp BinOp.add 3 (Operand.tmp 14) (Operand.const (Value.int IntKind.i64 1)) 3, type := 3, pos := "ref.go:84", after := #[{ on := 5, ground := Ground.data }], guard := none }) (v := .int .i64 2) (by kernel_rfl) (by kernel_rfl) (by kernel_rfl) (by kernel_rfl) (fun _ _ _ h => h) (by kernel_rfl) (fun w _ => by kernel_rfl) hS ?_
        simp only [Act.put]
        refine wpAnyH_pure (i := 7) (o := { dst := some 16, op := Op.binOp BinOp.rem 3 (Operand.tmp 15) (Operand.const (Value.int IntKind.i64 4)) 3, type := 3, pos := "ref.go:84", after := #[{ on := 6, ground := Ground.data }], guard := none }) (v := .int .i64 2) (by kernel_rfl) (by kernel_rfl) (by kernel_rfl) (by kernel_rfl) (fun _ _ _ h => h) (by kernel_rfl) (fun w _ => by kernel_rfl) hS ?_
        simp only [Act.put]
        refine wpAnyH_pure (i := 8) (o := { dst := some 17, op := Op.indexAddr 73 (Operand.tmp 1) (Operand.tmp 16), type := 0, pos := "ref.go:84", after := #[{ on := 7, ground := Ground.data }], guard := none }) (v := .pointer (some ⟨w.heap.size, 2, none⟩)) (by kernel_rfl) (by kernel_rfl) (by kernel_rfl) (by kernel_rfl) (fun _ _ _ h => h) (by kernel_rfl) (fun w _ => by kernel_rfl) hS ?_
        simp only [Act.put]
        refine wpAnyH_pure (i := 9) (o := { dst := some 18, op := Op.load 5 (Operand.tmp 17), type := 5, pos := "ref.go:84", after := #[{ on := 8, ground := Ground.data }], guard := none }) (v := .int .u8 (x.c : Int)) (by kernel_rfl) (by kernel_rfl) (by kernel_rfl) (by kernel_rfl) (fun _ _ _ h => h) (by kernel_rfl) (fun w hSw => by (have hc := Is.cell hSw 2; go_simp)) hS ?_
        simp only [Act.put]
        refine wpAnyH_pure (i := 12) (o := { dst := some 21, op := Op.move (Operand.tmp 4), type := 3, pos := "ref.go:84", after := #[], guard := none }) (v := .int .i64 1) (by kernel_rfl) (by kernel_rfl) (by kernel_rfl) (by kernel_rfl) (fun _ _ _ h => h) (by kernel_rfl) (fun w _ => by kernel_rfl) hS ?_
        simp only [Act.put]
        refine wpAnyH_pure (i := 13) (o := { dst := some 22, op := Op.binOp BinOp.add 3 (Operand.tmp 21) (Operand.const (Value.int IntKind.i64 2)) 3, type := 3, pos := "ref.go:84", after := #[{ on := 12, ground := Ground.data }], guard := none }) (v := .int .i64 3) (by kernel_rfl) (by kernel_rfl) (by kernel_rfl) (by kernel_rfl) (fun _ _ _ h => h) (by kernel_rfl) (fun w _ => by kernel_rfl) hS ?_
        simp only [Act.put]
        refine wpAnyH_pure (i := 14) (o := { dst := some 23, op := Op.binOp BinOp.rem 3 (Operand.tmp 22) (Operand.const (Value.int IntKind.i64 4)) 3, type := 3, pos := "ref.go:84", after := #[{ on := 13, ground := Ground.data }], guard := none }) (v := .int .i64 3) (by kernel_rfl) (by kernel_rfl) (by kernel_rfl) (by kernel_rfl) (fun _ _ _ h => h) (by kernel_rfl) (fun w _ => by kernel_rfl) hS ?_
        simp only [Act.put]
        refine wpAnyH_pure (i := 15) (o := { dst := some 24, op := Op.indexAddr 73 (Operand.tmp 1) (Operand.tmp 23), type := 0, pos := "ref.go:84", after := #[{ on := 14, ground := Ground.data }], guard := none }) (v := .pointer (some ⟨w.heap.size, 3, none⟩)) (by kernel_rfl) (by kernel_rfl) (by kernel_rfl) (by kernel_rfl) (fun _ _ _ h => h) (by kernel_rfl) (fun w _ => by kernel_rfl) hS ?_
        simp only [Act.put]
        refine wpAnyH_pure (i := 16) (o := { dst := some 25, op := Op.load 5 (Operand.tmp 24), type := 5, pos := "ref.go:84", after := #[{ on := 15, ground := Ground.data }], guard := none }) (v := .int .u8 (x.d : Int)) (by kernel_rfl) (by kernel_rfl) (by kernel_rfl) (by kernel_rfl) (fun _ _ _ h => h) (by kernel_rfl) (fun w hSw => by (have hc := Is.cell hSw 3; go_simp)) hS ?_
        simp only [Act.put]
        refine wpAnyH_pure (i := 18) (o := { dst := some 27, op := Op.move (Operand.tmp 4), type := 3, pos := "ref.go:84", after := #[], guard := none }) (v := .int .i64 1) (by kernel_rfl) (by kernel_rfl) (by kernel_rfl) (by kernel_rfl) (fun _ _ _ h => h) (by kernel_rfl) (fun w _ => by kernel_rfl) hS ?_
        simp only [Act.put]
        refine wpAnyH_pure (i := 19) (o := { dst := some 28, op := Op.binOp BinOp.add 3 (Operand.tmp 27) (Operand.const (Value.int IntKind.i64 3)) 3, type := 3, pos := "ref.go:84", after := #[{ on := 18, ground := Ground.data }], guard := none }) (v := .int .i64 4) (by kernel_rfl) (by kernel_rfl) (by kernel_rfl) (by kernel_rfl) (fun _ _ _ h => h) (by kernel_rfl) (fun w _ => by kernel_rfl) hS ?_
        simp only [Act.put]
        refine wpAnyH_pure (i := 20) (o := { dst := some 29, op := Op.binOp BinOp.rem 3 (Operand.tmp 28) (Operand.const (Value.int IntKind.i64 4)) 3, type := 3, pos := "ref.go:84", after := #[{ on := 19, ground := Ground.data }], guard := none }) (v := .int .i64 0) (by kernel_rfl) (by kernel_rfl) (by kernel_rfl) (by kernel_rfl) (fun _ _ _ h => h) (by kernel_rfl) (fun w _ => by kernel_rfl) hS ?_
        simp only [Act.put]
        refine wpAnyH_pure (i := 21) (o := { dst := some 30, op := Op.indexAddr 73 (Operand.tmp 1) (Operand.tmp 29), type := 0, pos := "ref.go:84", after := #[{ on := 20, ground := Ground.data }], guard := none }) (v := .pointer (some ⟨w.heap.size, 0, none⟩)) (by kernel_rfl) (by kernel_rfl) (by kernel_rfl) (by kernel_rfl) (fun _ _ _ h => h) (by kernel_rfl) (fun w _ => by kernel_rfl) hS ?_
        simp only [Act.put]
        refine wpAnyH_pure (i := 22) (o := { dst := some 31, op := Op.load 5 (Operand.tmp 30), type := 5, pos := "ref.go:84", after := #[{ on := 21, ground := Ground.data }], guard := none }) (v := .int .u8 (x.a : Int)) (by kernel_rfl) (by kernel_rfl) (by kernel_rfl) (by kernel_rfl) (fun _ _ _ h => h) (by kernel_rfl) (fun w hSw => by (have hc := Is.cell hSw 0; go_simp)) hS ?_
        simp only [Act.put]
        refine wpAnyH_call (i := 4) (o := { dst := some 13, op := Op.call { callee := Callee.value (Operand.func 27), args := #[Operand.const (Value.int IntKind.u8 2), Operand.tmp 12], argTypes := #[5, 5] }, type := 5, pos := "ref.go:84", after := #[{ on := 3, ground := Ground.data }], guard := none }) (by kernel_rfl) (by kernel_rfl) (by kernel_rfl) (fun w => by kernel_rfl) ((Q2b.out _).mono ?_)
        rintro e w' ⟨rfl, rfl⟩
        refine ⟨_, rfl, hS, ?_⟩
        simp only [Act.put]
        refine wpAnyH_call (i := 10) (o := { dst := some 19, op := Op.call { callee := Callee.value (Operand.func 27), args := #[Operand.const (Value.int IntKind.u8 3), Operand.tmp 18], argTypes := #[5, 5] }, type := 5, pos := "ref.go:84", after := #[{ on := 9, ground := Ground.data }, { on := 4, ground := Ground.chain }], guard := none }) (by kernel_rfl) (by kernel_rfl) (by kernel_rfl) (fun w => by kernel_rfl) ((Q3c.out _).mono ?_)
        rintro e w' ⟨rfl, rfl⟩
        refine ⟨_, rfl, hS, ?_⟩
        simp only [Act.put]
        refine wpAnyH_pure (i := 11) (o := { dst := some 20, op := Op.binOp BinOp.xor 5 (Operand.tmp 13) (Operand.tmp 19) 5, type := 5, pos := "ref.go:84", after := #[{ on := 4, ground := Ground.data }, { on := 10, ground := Ground.data }], guard := none }) (v := .int .u8 (bits BinOp.xor IntKind.u8 (y2b : Int) (y3c : Int))) (by kernel_rfl) (by kernel_rfl) (by kernel_rfl) (by kernel_rfl) (fun _ _ _ h => h) (by kernel_rfl) (fun w hSw => by go_simp) hS ?_
        simp only [Act.put]
        refine wpAnyH_pure (i := 17) (o := { dst := some 26, op := Op.binOp BinOp.xor 5 (Operand.tmp 20) (Operand.tmp 25) 5, type := 5, pos := "ref.go:84", after := #[{ on := 11, ground := Ground.data }, { on := 16, ground := Ground.data }], guard := none }) (v := .int .u8 (bits BinOp.xor IntKind.u8 (bits BinOp.xor IntKind.u8 (y2b : Int) (y3c : Int)) (x.d : Int))) (by kernel_rfl) (by kernel_rfl) (by kernel_rfl) (by kernel_rfl) (fun _ _ _ h => h) (by kernel_rfl) (fun w hSw => by go_simp) hS ?_
        simp only [Act.put]
        refine wpAnyH_pure (i := 23) (o := { dst := some 32, op := Op.binOp BinOp.xor 5 (Operand.tmp 26) (Operand.tmp 31) 5, type := 5, pos := "ref.go:84", after := #[{ on := 17, ground := Ground.data }, { on := 22, ground := Ground.data }], guard := none }) (v := .int .u8 (bits BinOp.xor IntKind.u8 (bits BinOp.xor IntKind.u8 (bits BinOp.xor IntKind.u8 (y2b : Int) (y3c : Int)) (x.d : Int)) (x.a : Int))) (by kernel_rfl) (by kernel_rfl) (by kernel_rfl) (by kernel_rfl) (fun _ _ _ h => h) (by kernel_rfl) (fun w hSw => by go_simp) hS ?_
        simp only [Act.put]
        refine wpAnyH_pure (i := 24) (o := { dst := some 33, op := Op.indexAddr 73 (Operand.tmp 3) (Operand.tmp 9), type := 0, pos := "ref.go:84", after := #[{ on := 0, ground := Ground.data }, { on := 0, ground := Ground.phase }, { on := 1, ground := Ground.phase }, { on := 2, ground := Ground.phase }, { on := 3, ground := Ground.phase }, { on := 4, ground := Ground.phase }, { on := 5, ground := Ground.phase }, { on := 6, ground := Ground.phase }, { on := 7, ground := Ground.phase }, { on := 8, ground := Ground.phase }, { on := 9, ground := Ground.phase }, { on := 10, ground := Ground.phase }, { on := 11, ground := Ground.phase }, { on := 12, ground := Ground.phase }, { on := 13, ground := Ground.phase }, { on := 14, ground := Ground.phase }, { on := 15, ground := Ground.phase }, { on := 16, ground := Ground.phase }, { on := 17, ground := Ground.phase }, { on := 18, ground := Ground.phase }, { on := 19, ground := Ground.phase }, { on := 20, ground := Ground.phase }, { on := 21, ground := Ground.phase }, { on := 22, ground := Ground.phase }, { on := 23, ground := Ground.phase }], guard := none }) (v := .pointer (some ⟨w.heap.size + 1 + 1, 1, none⟩)) (by kernel_rfl) (by kernel_rfl) (by kernel_rfl) (by kernel_rfl) (fun _ _ _ h => h) (by kernel_rfl) (fun w _ => by kernel_rfl) hS ?_
        simp only [Act.put]
        have st2 := o1.cell 1
        have sf2 := o1.frozen 1
        have su2 := o0.cell 1
        have sg2 := o0.frozen 1
        refine wpAnyH_step (i := 25) (o := { dst := none, op := Op.store 5 (Operand.tmp 33) (Operand.tmp 32), type := 0, pos := "ref.go:84", after := #[{ on := 24, ground := Ground.data }, { on := 23, ground := Ground.data }, { on := 10, ground := Ground.chain }, { on := 0, ground := Ground.phase }, { on := 1, ground := Ground.phase }, { on := 2, ground := Ground.phase }, { on := 3, ground := Ground.phase }, { on := 4, ground := Ground.phase }, { on := 5, ground := Ground.phase }, { on := 6, ground := Ground.phase }, { on := 7, ground := Ground.phase }, { on := 8, ground := Ground.phase }, { on := 9, ground := Ground.phase }, { on := 10, ground := Ground.phase }, { on := 11, ground := Ground.phase }, { on := 12, ground := Ground.phase }, { on := 13, ground := Ground.phase }, { on := 14, ground := Ground.phase }, { on := 15, ground := Ground.phase }, { on := 16, ground := Ground.phase }, { on := 17, ground := Ground.phase }, { on := 18, ground := Ground.phase }, { on := 19, ground := Ground.phase }, { on := 20, ground := Ground.phase }, { on := 21, ground := Ground.phase }, { on := 22, ground := Ground.phase }, { on := 23, ground := Ground.phase }], guard := none }) (by kernel_rfl) (by kernel_rfl) (by kernel_rfl) (fun Kc hKc => ?_)
        go_simp
        have c2 := c1.far (p := ⟨w.heap.size + 1 + 1, 1, none⟩) (by dsimp only; omega) (.int .u8 (bits BinOp.xor IntKind.u8 (bits BinOp.xor IntKind.u8 (bits BinOp.xor IntKind.u8 (y2b : Int) (y3c : Int)) (x.d : Int)) (x.a : Int)))
        have r2 := r1.far (p := ⟨w.heap.size + 1 + 1, 1, none⟩) (by dsimp only; omega) (.int .u8 (bits BinOp.xor IntKind.u8 (bits BinOp.xor IntKind.u8 (bits BinOp.xor IntKind.u8 (y2b : Int) (y3c : Int)) (x.d : Int)) (x.a : Int)))
        have o2 := o1.set 1 (.int .u8 (bits BinOp.xor IntKind.u8 (bits BinOp.xor IntKind.u8 (bits BinOp.xor IntKind.u8 (y2b : Int) (y3c : Int)) (x.d : Int)) (x.a : Int)))
        have hB2 := hB1.setCell (p := ⟨w.heap.size + 1 + 1, 1, none⟩) (by dsimp only; omega) (.int .u8 (bits BinOp.xor IntKind.u8 (bits BinOp.xor IntKind.u8 (bits BinOp.xor IntKind.u8 (y2b : Int) (y3c : Int)) (x.d : Int)) (x.a : Int)))
        refine hKc.out _ _ c2 (fun _ => ?_)
        clear hKc Kc
        try simp only [Act.put]
        refine wpAnyH_done (by kernel_rfl) ?_ _
        have eo : (#[.int .u8 (m.a : Int), .int .u8 0, .int .u8 0, .int .u8 0] : Array Value).setIfInBounds 1 (.int .u8 (bits BinOp.xor IntKind.u8 (bits BinOp.xor IntKind.u8 (bits BinOp.xor IntKind.u8 (y2b : Int) (y3c : Int)) (x.d : Int)) (x.a : Int))) = outK m 2 := by rw [Vb.out]; rfl
        rw [eo] at o2
        go_wp2
        go_roundw
        case rel => exact ⟨2, by omega, by go_num, c2, r2, o2, hB2⟩
        case measure => decide
      · skip
        have o0 : Is wr (w.heap.size + 1 + 1) 73 #[.int .u8 (m.a : Int), .int .u8 (m.b : Int), .int .u8 0, .int .u8 0] := o0
        go_wp2
        have c1 := c0.drewN 1
        have r1 := r0.drewN 1
        have o1 := o0.drewN 1
        have hB1 := belowN hB0 1
        refine wp_region_held_drew (S := fun W => Is W (w.heap.size) 73 x.arr) (by kernel_rfl) c1 (fun hS => ?_)
        change wpAnyH _ _ (opsOf Try.f48 5) _ _ 26 (Array.replicate 26 false) _ _
        refine wpAnyH_pure (i := 0) (o := { dst := some 9, op := Op.move (Operand.tmp 4), type := 3, pos := "ref.go:84", after := #[], guard := none }) (v := .int .i64 2) (by kernel_rfl) (by kernel_rfl) (by kernel_rfl) (by kernel_rfl) (fun _ _ _ h => h) (by kernel_rfl) (fun w _ => by kernel_rfl) hS ?_
        simp only [Act.put]
        refine wpAnyH_pure (i := 1) (o := { dst := some 10, op := Op.move (Operand.tmp 4), type := 3, pos := "ref.go:84", after := #[], guard := none }) (v := .int .i64 2) (by kernel_rfl) (by kernel_rfl) (by kernel_rfl) (by kernel_rfl) (fun _ _ _ h => h) (by kernel_rfl) (fun w _ => by kernel_rfl) hS ?_
        simp only [Act.put]
        refine wpAnyH_pure (i := 2) (o := { dst := some 11, op := Op.indexAddr 73 (Operand.tmp 1) (Operand.tmp 10), type := 0, pos := "ref.go:84", after := #[{ on := 1, ground := Ground.data }], guard := none }) (v := .pointer (some ⟨w.heap.size, 2, none⟩)) (by kernel_rfl) (by kernel_rfl) (by kernel_rfl) (by kernel_rfl) (fun _ _ _ h => h) (by kernel_rfl) (fun w _ => by kernel_rfl) hS ?_
        simp only [Act.put]
        refine wpAnyH_pure (i := 3) (o := { dst := some 12, op := Op.load 5 (Operand.tmp 11), type := 5, pos := "ref.go:84", after := #[{ on := 2, ground := Ground.data }], guard := none }) (v := .int .u8 (x.c : Int)) (by kernel_rfl) (by kernel_rfl) (by kernel_rfl) (by kernel_rfl) (fun _ _ _ h => h) (by kernel_rfl) (fun w hSw => by (have hc := Is.cell hSw 2; go_simp)) hS ?_
        simp only [Act.put]
        refine wpAnyH_pure (i := 5) (o := { dst := some 14, op := Op.move (Operand.tmp 4), type := 3, pos := "ref.go:84", after := #[], guard := none }) (v := .int .i64 2) (by kernel_rfl) (by kernel_rfl) (by kernel_rfl) (by kernel_rfl) (fun _ _ _ h => h) (by kernel_rfl) (fun w _ => by kernel_rfl) hS ?_
        simp only [Act.put]
        refine wpAnyH_pure (i := 6) (o := { dst := some 15, op := Op.binOp BinOp.add 3 (Operand.tmp 14) (Operand.const (Value.int IntKind.i64 1)) 3, type := 3, pos := "ref.go:84", after := #[{ on := 5, ground := Ground.data }], guard := none }) (v := .int .i64 3) (by kernel_rfl) (by kernel_rfl) (by kernel_rfl) (by kernel_rfl) (fun _ _ _ h => h) (by kernel_rfl) (fun w _ => by kernel_rfl) hS ?_
        simp only [Act.put]
        refine wpAnyH_pure (i := 7) (o := { dst := some 16, op := Op.binOp BinOp.rem 3 (Operand.tmp 15) (Operand.const (Value.int IntKind.i64 4)) 3, type := 3, pos := "ref.go:84", after := #[{ on := 6, ground := Ground.data }], guard := none }) (v := .int .i64 3) (by kernel_rfl) (by kernel_rfl) (by kernel_rfl) (by kernel_rfl) (fun _ _ _ h => h) (by kernel_rfl) (fun w _ => by kernel_rfl) hS ?_
        simp only [Act.put]
        refine wpAnyH_pure (i := 8) (o := { dst := some 17, op := Op.indexAddr 73 (Operand.tmp 1) (Operand.tmp 16), type := 0, pos := "ref.go:84", after := #[{ on := 7, ground := Ground.data }], guard := none }) (v := .pointer (some ⟨w.heap.size, 3, none⟩)) (by kernel_rfl) (by kernel_rfl) (by kernel_rfl) (by kernel_rfl) (fun _ _ _ h => h) (by kernel_rfl) (fun w _ => by kernel_rfl) hS ?_
        simp only [Act.put]
        refine wpAnyH_pure (i := 9) (o := { dst := some 18, op := Op.load 5 (Operand.tmp 17), type := 5, pos := "ref.go:84", after := #[{ on := 8, ground := Ground.data }], guard := none }) (v := .int .u8 (x.d : Int)) (by kernel_rfl) (by kernel_rfl) (by kernel_rfl) (by kernel_rfl) (fun _ _ _ h => h) (by kernel_rfl) (fun w hSw => by (have hc := Is.cell hSw 3; go_simp)) hS ?_
        simp only [Act.put]
        refine wpAnyH_pure (i := 12) (o := { dst := some 21, op := Op.move (Operand.tmp 4), type := 3, pos := "ref.go:84", after := #[], guard := none }) (v := .int .i64 2) (by kernel_rfl) (by kernel_rfl) (by kernel_rfl) (by kernel_rfl) (fun _ _ _ h => h) (by kernel_rfl) (fun w _ => by kernel_rfl) hS ?_
        simp only [Act.put]
        refine wpAnyH_pure (i := 13) (o := { dst := some 22, op := Op.binOp BinOp.add 3 (Operand.tmp 21) (Operand.const (Value.int IntKind.i64 2)) 3, type := 3, pos := "ref.go:84", after := #[{ on := 12, ground := Ground.data }], guard := none }) (v := .int .i64 4) (by kernel_rfl) (by kernel_rfl) (by kernel_rfl) (by kernel_rfl) (fun _ _ _ h => h) (by kernel_rfl) (fun w _ => by kernel_rfl) hS ?_
        simp only [Act.put]
        refine wpAnyH_pure (i := 14) (o := { dst := some 23, op := Op.binOp BinOp.rem 3 (Operand.tmp 22) (Operand.const (Value.int IntKind.i64 4)) 3, type := 3, pos := "ref.go:84", after := #[{ on := 13, ground := Ground.data }], guard := none }) (v := .int .i64 0) (by kernel_rfl) (by kernel_rfl) (by kernel_rfl) (by kernel_rfl) (fun _ _ _ h => h) (by kernel_rfl) (fun w _ => by kernel_rfl) hS ?_
        simp only [Act.put]
        refine wpAnyH_pure (i := 15) (o := { dst := some 24, op := Op.indexAddr 73 (Operand.tmp 1) (Operand.tmp 23), type := 0, pos := "ref.go:84", after := #[{ on := 14, ground := Ground.data }], guard := none }) (v := .pointer (some ⟨w.heap.size, 0, none⟩)) (by kernel_rfl) (by kernel_rfl) (by kernel_rfl) (by kernel_rfl) (fun _ _ _ h => h) (by kernel_rfl) (fun w _ => by kernel_rfl) hS ?_
        simp only [Act.put]
        refine wpAnyH_pure (i := 16) (o := { dst := some 25, op := Op.load 5 (Operand.tmp 24), type := 5, pos := "ref.go:84", after := #[{ on := 15, ground := Ground.data }], guard := none }) (v := .int .u8 (x.a : Int)) (by kernel_rfl) (by kernel_rfl) (by kernel_rfl) (by kernel_rfl) (fun _ _ _ h => h) (by kernel_rfl) (fun w hSw => by (have hc := Is.cell hSw 0; go_simp)) hS ?_
        simp only [Act.put]
        refine wpAnyH_pure (i := 18) (o := { dst := some 27, op := Op.move (Operand.tmp 4), type := 3, pos := "ref.go:84", after := #[], guard := none }) (v := .int .i64 2) (by kernel_rfl) (by kernel_rfl) (by kernel_rfl) (by kernel_rfl) (fun _ _ _ h => h) (by kernel_rfl) (fun w _ => by kernel_rfl) hS ?_
        simp only [Act.put]
        refine wpAnyH_pure (i := 19) (o := { dst := some 28, op := Op.binOp BinOp.add 3 (Operand.tmp 27) (Operand.const (Value.int IntKind.i64 3)) 3, type := 3, pos := "ref.go:84", after := #[{ on := 18, ground := Ground.data }], guard := none }) (v := .int .i64 5) (by kernel_rfl) (by kernel_rfl) (by kernel_rfl) (by kernel_rfl) (fun _ _ _ h => h) (by kernel_rfl) (fun w _ => by kernel_rfl) hS ?_
        simp only [Act.put]
        refine wpAnyH_pure (i := 20) (o := { dst := some 29, op := Op.binOp BinOp.rem 3 (Operand.tmp 28) (Operand.const (Value.int IntKind.i64 4)) 3, type := 3, pos := "ref.go:84", after := #[{ on := 19, ground := Ground.data }], guard := none }) (v := .int .i64 1) (by kernel_rfl) (by kernel_rfl) (by kernel_rfl) (by kernel_rfl) (fun _ _ _ h => h) (by kernel_rfl) (fun w _ => by kernel_rfl) hS ?_
        simp only [Act.put]
        refine wpAnyH_pure (i := 21) (o := { dst := some 30, op := Op.indexAddr 73 (Operand.tmp 1) (Operand.tmp 29), type := 0, pos := "ref.go:84", after := #[{ on := 20, ground := Ground.data }], guard := none }) (v := .pointer (some ⟨w.heap.size, 1, none⟩)) (by kernel_rfl) (by kernel_rfl) (by kernel_rfl) (by kernel_rfl) (fun _ _ _ h => h) (by kernel_rfl) (fun w _ => by kernel_rfl) hS ?_
        simp only [Act.put]
        refine wpAnyH_pure (i := 22) (o := { dst := some 31, op := Op.load 5 (Operand.tmp 30), type := 5, pos := "ref.go:84", after := #[{ on := 21, ground := Ground.data }], guard := none }) (v := .int .u8 (x.b : Int)) (by kernel_rfl) (by kernel_rfl) (by kernel_rfl) (by kernel_rfl) (fun _ _ _ h => h) (by kernel_rfl) (fun w hSw => by (have hc := Is.cell hSw 1; go_simp)) hS ?_
        simp only [Act.put]
        refine wpAnyH_call (i := 4) (o := { dst := some 13, op := Op.call { callee := Callee.value (Operand.func 27), args := #[Operand.const (Value.int IntKind.u8 2), Operand.tmp 12], argTypes := #[5, 5] }, type := 5, pos := "ref.go:84", after := #[{ on := 3, ground := Ground.data }], guard := none }) (by kernel_rfl) (by kernel_rfl) (by kernel_rfl) (fun w => by kernel_rfl) ((Q2c.out _).mono ?_)
        rintro e w' ⟨rfl, rfl⟩
        refine ⟨_, rfl, hS, ?_⟩
        simp only [Act.put]
        refine wpAnyH_call (i := 10) (o := { dst := some 19, op := Op.call { callee := Callee.value (Operand.func 27), args := #[Operand.const (Value.int IntKind.u8 3), Operand.tmp 18], argTypes := #[5, 5] }, type := 5, pos := "ref.go:84", after := #[{ on := 9, ground := Ground.data }, { on := 4, ground := Ground.chain }], guard := none }) (by kernel_rfl) (by kernel_rfl) (by kernel_rfl) (fun w => by kernel_rfl) ((Q3d.out _).mono ?_)
        rintro e w' ⟨rfl, rfl⟩
        refine ⟨_, rfl, hS, ?_⟩
        simp only [Act.put]
        refine wpAnyH_pure (i := 11) (o := { dst := some 20, op := Op.binOp BinOp.xor 5 (Operand.tmp 13) (Operand.tmp 19) 5, type := 5, pos := "ref.go:84", after := #[{ on := 4, ground := Ground.data }, { on := 10, ground := Ground.data }], guard := none }) (v := .int .u8 (bits BinOp.xor IntKind.u8 (y2c : Int) (y3d : Int))) (by kernel_rfl) (by kernel_rfl) (by kernel_rfl) (by kernel_rfl) (fun _ _ _ h => h) (by kernel_rfl) (fun w hSw => by go_simp) hS ?_
        simp only [Act.put]
        refine wpAnyH_pure (i := 17) (o := { dst := some 26, op := Op.binOp BinOp.xor 5 (Operand.tmp 20) (Operand.tmp 25) 5, type := 5, pos := "ref.go:84", after := #[{ on := 11, ground := Ground.data }, { on := 16, ground := Ground.data }], guard := none }) (v := .int .u8 (bits BinOp.xor IntKind.u8 (bits BinOp.xor IntKind.u8 (y2c : Int) (y3d : Int)) (x.a : Int))) (by kernel_rfl) (by kernel_rfl) (by kernel_rfl) (by kernel_rfl) (fun _ _ _ h => h) (by kernel_rfl) (fun w hSw => by go_simp) hS ?_
        simp only [Act.put]
        refine wpAnyH_pure (i := 23) (o := { dst := some 32, op := Op.binOp BinOp.xor 5 (Operand.tmp 26) (Operand.tmp 31) 5, type := 5, pos := "ref.go:84", after := #[{ on := 17, ground := Ground.data }, { on := 22, ground := Ground.data }], guard := none }) (v := .int .u8 (bits BinOp.xor IntKind.u8 (bits BinOp.xor IntKind.u8 (bits BinOp.xor IntKind.u8 (y2c : Int) (y3d : Int)) (x.a : Int)) (x.b : Int))) (by kernel_rfl) (by kernel_rfl) (by kernel_rfl) (by kernel_rfl) (fun _ _ _ h => h) (by kernel_rfl) (fun w hSw => by go_simp) hS ?_
        simp only [Act.put]
        refine wpAnyH_pure (i := 24) (o := { dst := some 33, op := Op.indexAddr 73 (Operand.tmp 3) (Operand.tmp 9), type := 0, pos := "ref.go:84", after := #[{ on := 0, ground := Ground.data }, { on := 0, ground := Ground.phase }, { on := 1, ground := Ground.phase }, { on := 2, ground := Ground.phase }, { on := 3, ground := Ground.phase }, { on := 4, ground := Ground.phase }, { on := 5, ground := Ground.phase }, { on := 6, ground := Ground.phase }, { on := 7, ground := Ground.phase }, { on := 8, ground := Ground.phase }, { on := 9, ground := Ground.phase }, { on := 10, ground := Ground.phase }, { on := 11, ground := Ground.phase }, { on := 12, ground := Ground.phase }, { on := 13, ground := Ground.phase }, { on := 14, ground := Ground.phase }, { on := 15, ground := Ground.phase }, { on := 16, ground := Ground.phase }, { on := 17, ground := Ground.phase }, { on := 18, ground := Ground.phase }, { on := 19, ground := Ground.phase }, { on := 20, ground := Ground.phase }, { on := 21, ground := Ground.phase }, { on := 22, ground := Ground.phase }, { on := 23, ground := Ground.phase }], guard := none }) (v := .pointer (some ⟨w.heap.size + 1 + 1, 2, none⟩)) (by kernel_rfl) (by kernel_rfl) (by kernel_rfl) (by kernel_rfl) (fun _ _ _ h => h) (by kernel_rfl) (fun w _ => by kernel_rfl) hS ?_
        simp only [Act.put]
        have st2 := o1.cell 2
        have sf2 := o1.frozen 2
        have su2 := o0.cell 2
        have sg2 := o0.frozen 2
        refine wpAnyH_step (i := 25) (o := { dst := none, op := Op.store 5 (Operand.tmp 33) (Operand.tmp 32), type := 0, pos := "ref.go:84", after := #[{ on := 24, ground := Ground.data }, { on := 23, ground := Ground.data }, { on := 10, ground := Ground.chain }, { on := 0, ground := Ground.phase }, { on := 1, ground := Ground.phase }, { on := 2, ground := Ground.phase }, { on := 3, ground := Ground.phase }, { on := 4, ground := Ground.phase }, { on := 5, ground := Ground.phase }, { on := 6, ground := Ground.phase }, { on := 7, ground := Ground.phase }, { on := 8, ground := Ground.phase }, { on := 9, ground := Ground.phase }, { on := 10, ground := Ground.phase }, { on := 11, ground := Ground.phase }, { on := 12, ground := Ground.phase }, { on := 13, ground := Ground.phase }, { on := 14, ground := Ground.phase }, { on := 15, ground := Ground.phase }, { on := 16, ground := Ground.phase }, { on := 17, ground := Ground.phase }, { on := 18, ground := Ground.phase }, { on := 19, ground := Ground.phase }, { on := 20, ground := Ground.phase }, { on := 21, ground := Ground.phase }, { on := 22, ground := Ground.phase }, { on := 23, ground := Ground.phase }], guard := none }) (by kernel_rfl) (by kernel_rfl) (by kernel_rfl) (fun Kc hKc => ?_)
        go_simp
        have c2 := c1.far (p := ⟨w.heap.size + 1 + 1, 2, none⟩) (by dsimp only; omega) (.int .u8 (bits BinOp.xor IntKind.u8 (bits BinOp.xor IntKind.u8 (bits BinOp.xor IntKind.u8 (y2c : Int) (y3d : Int)) (x.a : Int)) (x.b : Int)))
        have r2 := r1.far (p := ⟨w.heap.size + 1 + 1, 2, none⟩) (by dsimp only; omega) (.int .u8 (bits BinOp.xor IntKind.u8 (bits BinOp.xor IntKind.u8 (bits BinOp.xor IntKind.u8 (y2c : Int) (y3d : Int)) (x.a : Int)) (x.b : Int)))
        have o2 := o1.set 2 (.int .u8 (bits BinOp.xor IntKind.u8 (bits BinOp.xor IntKind.u8 (bits BinOp.xor IntKind.u8 (y2c : Int) (y3d : Int)) (x.a : Int)) (x.b : Int)))
        have hB2 := hB1.setCell (p := ⟨w.heap.size + 1 + 1, 2, none⟩) (by dsimp only; omega) (.int .u8 (bits BinOp.xor IntKind.u8 (bits BinOp.xor IntKind.u8 (bits BinOp.xor IntKind.u8 (y2c : Int) (y3d : Int)) (x.a : Int)) (x.b : Int)))
        refine hKc.out _ _ c2 (fun _ => ?_)
        clear hKc Kc
        try simp only [Act.put]
        refine wpAnyH_done (by kernel_rfl) ?_ _
        have eo : (#[.int .u8 (m.a : Int), .int .u8 (m.b : Int), .int .u8 0, .int .u8 0] : Array Value).setIfInBounds 2 (.int .u8 (bits BinOp.xor IntKind.u8 (bits BinOp.xor IntKind.u8 (bits BinOp.xor IntKind.u8 (y2c : Int) (y3d : Int)) (x.a : Int)) (x.b : Int))) = outK m 3 := by rw [Vc.out]; rfl
        rw [eo] at o2
        go_wp2
        go_roundw
        case rel => exact ⟨3, by omega, by go_num, c2, r2, o2, hB2⟩
        case measure => decide
      · skip
        have o0 : Is wr (w.heap.size + 1 + 1) 73 #[.int .u8 (m.a : Int), .int .u8 (m.b : Int), .int .u8 (m.c : Int), .int .u8 0] := o0
        go_wp2
        have c1 := c0.drewN 1
        have r1 := r0.drewN 1
        have o1 := o0.drewN 1
        have hB1 := belowN hB0 1
        refine wp_region_held_drew (S := fun W => Is W (w.heap.size) 73 x.arr) (by kernel_rfl) c1 (fun hS => ?_)
        change wpAnyH _ _ (opsOf Try.f48 5) _ _ 26 (Array.replicate 26 false) _ _
        refine wpAnyH_pure (i := 0) (o := { dst := some 9, op := Op.move (Operand.tmp 4), type := 3, pos := "ref.go:84", after := #[], guard := none }) (v := .int .i64 3) (by kernel_rfl) (by kernel_rfl) (by kernel_rfl) (by kernel_rfl) (fun _ _ _ h => h) (by kernel_rfl) (fun w _ => by kernel_rfl) hS ?_
        simp only [Act.put]
        refine wpAnyH_pure (i := 1) (o := { dst := some 10, op := Op.move (Operand.tmp 4), type := 3, pos := "ref.go:84", after := #[], guard := none }) (v := .int .i64 3) (by kernel_rfl) (by kernel_rfl) (by kernel_rfl) (by kernel_rfl) (fun _ _ _ h => h) (by kernel_rfl) (fun w _ => by kernel_rfl) hS ?_
        simp only [Act.put]
        refine wpAnyH_pure (i := 2) (o := { dst := some 11, op := Op.indexAddr 73 (Operand.tmp 1) (Operand.tmp 10), type := 0, pos := "ref.go:84", after := #[{ on := 1, ground := Ground.data }], guard := none }) (v := .pointer (some ⟨w.heap.size, 3, none⟩)) (by kernel_rfl) (by kernel_rfl) (by kernel_rfl) (by kernel_rfl) (fun _ _ _ h => h) (by kernel_rfl) (fun w _ => by kernel_rfl) hS ?_
        simp only [Act.put]
        refine wpAnyH_pure (i := 3) (o := { dst := some 12, op := Op.load 5 (Operand.tmp 11), type := 5, pos := "ref.go:84", after := #[{ on := 2, ground := Ground.data }], guard := none }) (v := .int .u8 (x.d : Int)) (by kernel_rfl) (by kernel_rfl) (by kernel_rfl) (by kernel_rfl) (fun _ _ _ h => h) (by kernel_rfl) (fun w hSw => by (have hc := Is.cell hSw 3; go_simp)) hS ?_
        simp only [Act.put]
        refine wpAnyH_pure (i := 5) (o := { dst := some 14, op := Op.move (Operand.tmp 4), type := 3, pos := "ref.go:84", after := #[], guard := none }) (v := .int .i64 3) (by kernel_rfl) (by kernel_rfl) (by kernel_rfl) (by kernel_rfl) (fun _ _ _ h => h) (by kernel_rfl) (fun w _ => by kernel_rfl) hS ?_
        simp only [Act.put]
        refine wpAnyH_pure (i := 6) (o := { dst := some 15, op := Op.binOp BinOp.add 3 (Operand.tmp 14) (Operand.const (Value.int IntKind.i64 1)) 3, type := 3, pos := "ref.go:84", after := #[{ on := 5, ground := Ground.data }], guard := none }) (v := .int .i64 4) (by kernel_rfl) (by kernel_rfl) (by kernel_rfl) (by kernel_rfl) (fun _ _ _ h => h) (by kernel_rfl) (fun w _ => by kernel_rfl) hS ?_
        simp only [Act.put]
        refine wpAnyH_pure (i := 7) (o := { dst := some 16, op := Op.binOp BinOp.rem 3 (Operand.tmp 15) (Operand.const (Value.int IntKind.i64 4)) 3, type := 3, pos := "ref.go:84", after := #[{ on := 6, ground := Ground.data }], guard := none }) (v := .int .i64 0) (by kernel_rfl) (by kernel_rfl) (by kernel_rfl) (by kernel_rfl) (fun _ _ _ h => h) (by kernel_rfl) (fun w _ => by kernel_rfl) hS ?_
        simp only [Act.put]
        refine wpAnyH_pure (i := 8) (o := { dst := some 17, op := Op.indexAddr 73 (Operand.tmp 1) (Operand.tmp 16), type := 0, pos := "ref.go:84", after := #[{ on := 7, ground := Ground.data }], guard := none }) (v := .pointer (some ⟨w.heap.size, 0, none⟩)) (by kernel_rfl) (by kernel_rfl) (by kernel_rfl) (by kernel_rfl) (fun _ _ _ h => h) (by kernel_rfl) (fun w _ => by kernel_rfl) hS ?_
        simp only [Act.put]
        refine wpAnyH_pure (i := 9) (o := { dst := some 18, op := Op.load 5 (Operand.tmp 17), type := 5, pos := "ref.go:84", after := #[{ on := 8, ground := Ground.data }], guard := none }) (v := .int .u8 (x.a : Int)) (by kernel_rfl) (by kernel_rfl) (by kernel_rfl) (by kernel_rfl) (fun _ _ _ h => h) (by kernel_rfl) (fun w hSw => by (have hc := Is.cell hSw 0; go_simp)) hS ?_
        simp only [Act.put]
        refine wpAnyH_pure (i := 12) (o := { dst := some 21, op := Op.move (Operand.tmp 4), type := 3, pos := "ref.go:84", after := #[], guard := none }) (v := .int .i64 3) (by kernel_rfl) (by kernel_rfl) (by kernel_rfl) (by kernel_rfl) (fun _ _ _ h => h) (by kernel_rfl) (fun w _ => by kernel_rfl) hS ?_
        simp only [Act.put]
        refine wpAnyH_pure (i := 13) (o := { dst := some 22, op := Op.binOp BinOp.add 3 (Operand.tmp 21) (Operand.const (Value.int IntKind.i64 2)) 3, type := 3, pos := "ref.go:84", after := #[{ on := 12, ground := Ground.data }], guard := none }) (v := .int .i64 5) (by kernel_rfl) (by kernel_rfl) (by kernel_rfl) (by kernel_rfl) (fun _ _ _ h => h) (by kernel_rfl) (fun w _ => by kernel_rfl) hS ?_
        simp only [Act.put]
        refine wpAnyH_pure (i := 14) (o := { dst := some 23, op := Op.binOp BinOp.rem 3 (Operand.tmp 22) (Operand.const (Value.int IntKind.i64 4)) 3, type := 3, pos := "ref.go:84", after := #[{ on := 13, ground := Ground.data }], guard := none }) (v := .int .i64 1) (by kernel_rfl) (by kernel_rfl) (by kernel_rfl) (by kernel_rfl) (fun _ _ _ h => h) (by kernel_rfl) (fun w _ => by kernel_rfl) hS ?_
        simp only [Act.put]
        refine wpAnyH_pure (i := 15) (o := { dst := some 24, op := Op.indexAddr 73 (Operand.tmp 1) (Operand.tmp 23), type := 0, pos := "ref.go:84", after := #[{ on := 14, ground := Ground.data }], guard := none }) (v := .pointer (some ⟨w.heap.size, 1, none⟩)) (by kernel_rfl) (by kernel_rfl) (by kernel_rfl) (by kernel_rfl) (fun _ _ _ h => h) (by kernel_rfl) (fun w _ => by kernel_rfl) hS ?_
        simp only [Act.put]
        refine wpAnyH_pure (i := 16) (o := { dst := some 25, op := Op.load 5 (Operand.tmp 24), type := 5, pos := "ref.go:84", after := #[{ on := 15, ground := Ground.data }], guard := none }) (v := .int .u8 (x.b : Int)) (by kernel_rfl) (by kernel_rfl) (by kernel_rfl) (by kernel_rfl) (fun _ _ _ h => h) (by kernel_rfl) (fun w hSw => by (have hc := Is.cell hSw 1; go_simp)) hS ?_
        simp only [Act.put]
        refine wpAnyH_pure (i := 18) (o := { dst := some 27, op := Op.move (Operand.tmp 4), type := 3, pos := "ref.go:84", after := #[], guard := none }) (v := .int .i64 3) (by kernel_rfl) (by kernel_rfl) (by kernel_rfl) (by kernel_rfl) (fun _ _ _ h => h) (by kernel_rfl) (fun w _ => by kernel_rfl) hS ?_
        simp only [Act.put]
        refine wpAnyH_pure (i := 19) (o := { dst := some 28, op := Op.binOp BinOp.add 3 (Operand.tmp 27) (Operand.const (Value.int IntKind.i64 3)) 3, type := 3, pos := "ref.go:84", after := #[{ on := 18, ground := Ground.data }], guard := none }) (v := .int .i64 6) (by kernel_rfl) (by kernel_rfl) (by kernel_rfl) (by kernel_rfl) (fun _ _ _ h => h) (by kernel_rfl) (fun w _ => by kernel_rfl) hS ?_
        simp only [Act.put]
        refine wpAnyH_pure (i := 20) (o := { dst := some 29, op := Op.binOp BinOp.rem 3 (Operand.tmp 28) (Operand.const (Value.int IntKind.i64 4)) 3, type := 3, pos := "ref.go:84", after := #[{ on := 19, ground := Ground.data }], guard := none }) (v := .int .i64 2) (by kernel_rfl) (by kernel_rfl) (by kernel_rfl) (by kernel_rfl) (fun _ _ _ h => h) (by kernel_rfl) (fun w _ => by kernel_rfl) hS ?_
        simp only [Act.put]
        refine wpAnyH_pure (i := 21) (o := { dst := some 30, op := Op.indexAddr 73 (Operand.tmp 1) (Operand.tmp 29), type := 0, pos := "ref.go:84", after := #[{ on := 20, ground := Ground.data }], guard := none }) (v := .pointer (some ⟨w.heap.size, 2, none⟩)) (by kernel_rfl) (by kernel_rfl) (by kernel_rfl) (by kernel_rfl) (fun _ _ _ h => h) (by kernel_rfl) (fun w _ => by kernel_rfl) hS ?_
        simp only [Act.put]
        refine wpAnyH_pure (i := 22) (o := { dst := some 31, op := Op.load 5 (Operand.tmp 30), type := 5, pos := "ref.go:84", after := #[{ on := 21, ground := Ground.data }], guard := none }) (v := .int .u8 (x.c : Int)) (by kernel_rfl) (by kernel_rfl) (by kernel_rfl) (by kernel_rfl) (fun _ _ _ h => h) (by kernel_rfl) (fun w hSw => by (have hc := Is.cell hSw 2; go_simp)) hS ?_
        simp only [Act.put]
        refine wpAnyH_call (i := 4) (o := { dst := some 13, op := Op.call { callee := Callee.value (Operand.func 27), args := #[Operand.const (Value.int IntKind.u8 2), Operand.tmp 12], argTypes := #[5, 5] }, type := 5, pos := "ref.go:84", after := #[{ on := 3, ground := Ground.data }], guard := none }) (by kernel_rfl) (by kernel_rfl) (by kernel_rfl) (fun w => by kernel_rfl) ((Q2d.out _).mono ?_)
        rintro e w' ⟨rfl, rfl⟩
        refine ⟨_, rfl, hS, ?_⟩
        simp only [Act.put]
        refine wpAnyH_call (i := 10) (o := { dst := some 19, op := Op.call { callee := Callee.value (Operand.func 27), args := #[Operand.const (Value.int IntKind.u8 3), Operand.tmp 18], argTypes := #[5, 5] }, type := 5, pos := "ref.go:84", after := #[{ on := 9, ground := Ground.data }, { on := 4, ground := Ground.chain }], guard := none }) (by kernel_rfl) (by kernel_rfl) (by kernel_rfl) (fun w => by kernel_rfl) ((Q3a.out _).mono ?_)
        rintro e w' ⟨rfl, rfl⟩
        refine ⟨_, rfl, hS, ?_⟩
        simp only [Act.put]
        refine wpAnyH_pure (i := 11) (o := { dst := some 20, op := Op.binOp BinOp.xor 5 (Operand.tmp 13) (Operand.tmp 19) 5, type := 5, pos := "ref.go:84", after := #[{ on := 4, ground := Ground.data }, { on := 10, ground := Ground.data }], guard := none }) (v := .int .u8 (bits BinOp.xor IntKind.u8 (y2d : Int) (y3a : Int))) (by kernel_rfl) (by kernel_rfl) (by kernel_rfl) (by kernel_rfl) (fun _ _ _ h => h) (by kernel_rfl) (fun w hSw => by go_simp) hS ?_
        simp only [Act.put]
        refine wpAnyH_pure (i := 17) (o := { dst := some 26, op := Op.binOp BinOp.xor 5 (Operand.tmp 20) (Operand.tmp 25) 5, type := 5, pos := "ref.go:84", after := #[{ on := 11, ground := Ground.data }, { on := 16, ground := Ground.data }], guard := none }) (v := .int .u8 (bits BinOp.xor IntKind.u8 (bits BinOp.xor IntKind.u8 (y2d : Int) (y3a : Int)) (x.b : Int))) (by kernel_rfl) (by kernel_rfl) (by kernel_rfl) (by kernel_rfl) (fun _ _ _ h => h) (by kernel_rfl) (fun w hSw => by go_simp) hS ?_
        simp only [Act.put]
        refine wpAnyH_pure (i := 23) (o := { dst := some 32, op := Op.binOp BinOp.xor 5 (Operand.tmp 26) (Operand.tmp 31) 5, type := 5, pos := "ref.go:84", after := #[{ on := 17, ground := Ground.data }, { on := 22, ground := Ground.data }], guard := none }) (v := .int .u8 (bits BinOp.xor IntKind.u8 (bits BinOp.xor IntKind.u8 (bits BinOp.xor IntKind.u8 (y2d : Int) (y3a : Int)) (x.b : Int)) (x.c : Int))) (by kernel_rfl) (by kernel_rfl) (by kernel_rfl) (by kernel_rfl) (fun _ _ _ h => h) (by kernel_rfl) (fun w hSw => by go_simp) hS ?_
        simp only [Act.put]
        refine wpAnyH_pure (i := 24) (o := { dst := some 33, op := Op.indexAddr 73 (Operand.tmp 3) (Operand.tmp 9), type := 0, pos := "ref.go:84", after := #[{ on := 0, ground := Ground.data }, { on := 0, ground := Ground.phase }, { on := 1, ground := Ground.phase }, { on := 2, ground := Ground.phase }, { on := 3, ground := Ground.phase }, { on := 4, ground := Ground.phase }, { on := 5, ground := Ground.phase }, { on := 6, ground := Ground.phase }, { on := 7, ground := Ground.phase }, { on := 8, ground := Ground.phase }, { on := 9, ground := Ground.phase }, { on := 10, ground := Ground.phase }, { on := 11, ground := Ground.phase }, { on := 12, ground := Ground.phase }, { on := 13, ground := Ground.phase }, { on := 14, ground := Ground.phase }, { on := 15, ground := Ground.phase }, { on := 16, ground := Ground.phase }, { on := 17, ground := Ground.phase }, { on := 18, ground := Ground.phase }, { on := 19, ground := Ground.phase }, { on := 20, ground := Ground.phase }, { on := 21, ground := Ground.phase }, { on := 22, ground := Ground.phase }, { on := 23, ground := Ground.phase }], guard := none }) (v := .pointer (some ⟨w.heap.size + 1 + 1, 3, none⟩)) (by kernel_rfl) (by kernel_rfl) (by kernel_rfl) (by kernel_rfl) (fun _ _ _ h => h) (by kernel_rfl) (fun w _ => by kernel_rfl) hS ?_
        simp only [Act.put]
        have st2 := o1.cell 3
        have sf2 := o1.frozen 3
        have su2 := o0.cell 3
        have sg2 := o0.frozen 3
        refine wpAnyH_step (i := 25) (o := { dst := none, op := Op.store 5 (Operand.tmp 33) (Operand.tmp 32), type := 0, pos := "ref.go:84", after := #[{ on := 24, ground := Ground.data }, { on := 23, ground := Ground.data }, { on := 10, ground := Ground.chain }, { on := 0, ground := Ground.phase }, { on := 1, ground := Ground.phase }, { on := 2, ground := Ground.phase }, { on := 3, ground := Ground.phase }, { on := 4, ground := Ground.phase }, { on := 5, ground := Ground.phase }, { on := 6, ground := Ground.phase }, { on := 7, ground := Ground.phase }, { on := 8, ground := Ground.phase }, { on := 9, ground := Ground.phase }, { on := 10, ground := Ground.phase }, { on := 11, ground := Ground.phase }, { on := 12, ground := Ground.phase }, { on := 13, ground := Ground.phase }, { on := 14, ground := Ground.phase }, { on := 15, ground := Ground.phase }, { on := 16, ground := Ground.phase }, { on := 17, ground := Ground.phase }, { on := 18, ground := Ground.phase }, { on := 19, ground := Ground.phase }, { on := 20, ground := Ground.phase }, { on := 21, ground := Ground.phase }, { on := 22, ground := Ground.phase }, { on := 23, ground := Ground.phase }], guard := none }) (by kernel_rfl) (by kernel_rfl) (by kernel_rfl) (fun Kc hKc => ?_)
        go_simp
        have c2 := c1.far (p := ⟨w.heap.size + 1 + 1, 3, none⟩) (by dsimp only; omega) (.int .u8 (bits BinOp.xor IntKind.u8 (bits BinOp.xor IntKind.u8 (bits BinOp.xor IntKind.u8 (y2d : Int) (y3a : Int)) (x.b : Int)) (x.c : Int)))
        have r2 := r1.far (p := ⟨w.heap.size + 1 + 1, 3, none⟩) (by dsimp only; omega) (.int .u8 (bits BinOp.xor IntKind.u8 (bits BinOp.xor IntKind.u8 (bits BinOp.xor IntKind.u8 (y2d : Int) (y3a : Int)) (x.b : Int)) (x.c : Int)))
        have o2 := o1.set 3 (.int .u8 (bits BinOp.xor IntKind.u8 (bits BinOp.xor IntKind.u8 (bits BinOp.xor IntKind.u8 (y2d : Int) (y3a : Int)) (x.b : Int)) (x.c : Int)))
        have hB2 := hB1.setCell (p := ⟨w.heap.size + 1 + 1, 3, none⟩) (by dsimp only; omega) (.int .u8 (bits BinOp.xor IntKind.u8 (bits BinOp.xor IntKind.u8 (bits BinOp.xor IntKind.u8 (y2d : Int) (y3a : Int)) (x.b : Int)) (x.c : Int)))
        refine hKc.out _ _ c2 (fun _ => ?_)
        clear hKc Kc
        try simp only [Act.put]
        refine wpAnyH_done (by kernel_rfl) ?_ _
        have eo : (#[.int .u8 (m.a : Int), .int .u8 (m.b : Int), .int .u8 (m.c : Int), .int .u8 0] : Array Value).setIfInBounds 3 (.int .u8 (bits BinOp.xor IntKind.u8 (bits BinOp.xor IntKind.u8 (bits BinOp.xor IntKind.u8 (y2d : Int) (y3a : Int)) (x.b : Int)) (x.c : Int))) = outK m 4 := by rw [Vd.out]; rfl
        rw [eo] at o2
        go_wp2
        go_roundw
        case rel => exact ⟨4, by omega, by go_num, c2, r2, o2, hB2⟩
        case measure => decide
    · obtain rfl : k = 4 := by omega
      have o1 : Is wr (w.heap.size + 1 + 1) 73 M := by rw [← HMM.out]; exact o0
      go_wp2_with (first
        | (refine wpList_load_row rfl 73 _ rfl (w.heap.size + 1 + 1) rfl _ _ _ _ o1 Try.underlying73 rfl hs1 ?_)
        | (refine wpList_store_row rfl 73 _ _ rfl (w.heap.size + 1) M rfl rfl _ _ r0 hs1 (by rw [hsz]; rfl) hone ?_))
      refine bodyPost_ret (results_cell_row Try.results48 _ _ (w.heap.size + 1) 73 M (0, 0) _ rfl (r0.row _) Try.underlying73 rfl hs1) rfl ⟨rfl, ?_⟩
      exact belowRow hB0 (by omega) _

end Go.Proofs.Ytefiecgadbacjaa
