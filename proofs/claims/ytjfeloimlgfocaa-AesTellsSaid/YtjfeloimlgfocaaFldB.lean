/-
  Contracts of field.Inv, field.turned, field.Sub, field.Back. Conditions: the arguments are bytes.
-/
import Derived.Test.YtjfeloimlgfocaaFldA
namespace Go.Proofs.Ytjfeloimlgfocaa
open Go.RowKit

/-- a byte squared so often; the product of these. -/
def sqk (a : Nat) : Nat → Nat
  | 0 => a
  | k + 1 => mulN (sqk a k) (sqk a k)
def ivk (a : Nat) : Nat → Nat
  | 0 => 1
  | k + 1 => mulN (ivk a k) (sqk a (k + 1))
theorem sqk_lt {a : Nat} (ha : a < 256) (k : Nat) : sqk a k < 256 := by
  induction k with
  | zero => exact ha
  | succ k ih => exact mulN_lt ih
theorem ivk_lt (a : Nat) (k : Nat) : ivk a k < 256 := by
  induction k with
  | zero => show 1 < 256; decide
  | succ k ih => exact mulN_lt ih
theorem ivk_all : all1 (fun a => ivk a 7 == invN a) = true := by kernel_rfl
theorem ivk_7 {a : Nat} (ha : a < 256) : ivk a 7 = invN a := by simpa using all1_of ivk_all ha

set_option maxRecDepth 100000 in
set_option maxHeartbeats 1000000 in
theorem finv_any (a : Nat) (w : World) (ha : a < 256) :
    Calls Try.prog 49 #[.int .u8 (a : Int)] w fun e w' => e = .returned (.int .u8 ((invN a : Nat) : Int)) ∧ Below w.heap.size w w' := by
  go_enter Try.func49, Try.ntmps49
  go_wp2
  go_loopw [3, 4, 6] (fun p v i wr => ∃ k : Nat, k ≤ 7 ∧ p = .int .u8 (sqk a k : Int) ∧ v = .int .u8 (ivk a k : Int) ∧ i = .int .i64 (k : Int) ∧ Below w.heap.size w wr)
    (fun _ _ i _ => 7 - (intOf i).toNat)
  case atStart => exact ⟨0, by omega, rfl, rfl, rfl, Below.refl _ _⟩
  case round =>
    obtain ⟨k, hk, rfl, rfl, rfl, hB⟩ := hrel
    by_cases hlt : k < 7
    · have hi1 : (k : Int) < 7 := by omega
      have hs := sqk_lt ha k
      have hs1 := sqk_lt ha (k + 1)
      have hv := ivk_lt a k
      have es : sqk a (k + 1) = mulN (sqk a k) (sqk a k) := rfl
      have ev : ivk a (k + 1) = mulN (ivk a k) (sqk a (k + 1)) := rfl
      rw [es] at ev
      generalize sqk a k = s at *
      generalize ivk a k = v at *
      have HES := Lib.hid es
      have HEV := Lib.hid ev
      rw [es] at hs1
      clear es ev
      go_wp2_with fail
      refine (mul_any s s _ hs hs).mono ?_
      rintro e w1 ⟨rfl, hb1⟩
      generalize hm : mulN s s = m at *
      have HM := Lib.hid hm
      clear hm
      go_wp2_with fail
      refine (mul_any v m _ hv hs1).mono ?_
      rintro e w2 ⟨rfl, hb2⟩
      have hB2 : Below w.heap.size w w2 := (hB.trans (hb1.mono hB.size)).trans (hb2.mono (by have := hB.size; have := hb1.size; omega))
      generalize hm : mulN v m = z at *
      have HZ := Lib.hid hm
      clear hm
      go_wp2
      go_roundw
      case rel => exact ⟨k + 1, by omega, by rw [HES.out], by rw [HEV.out], by go_num, hB2⟩
      case measure => simp [intOf]; omega
    · obtain rfl : k = 7 := by omega
      have he := ivk_7 ha
      generalize ivk a 7 = v at *
      have HE := Lib.hid he
      clear he
      go_wp2
      go_ret
      exact ⟨by rw [← HE.out]; rfl, hB⟩

/-- a byte turned to the right. -/
def rotN (x p : Nat) : Nat := x * 2 ^ ((8 - p) % 8) % 256 ||| x / 2 ^ (8 - (8 - p) % 8)
theorem rotN_lt {x : Nat} (hx : x < 256) (p : Nat) : rotN x p < 256 :=
  Nat.or_lt_two_pow (n := 8) (Nat.mod_lt _ (by decide)) (Nat.lt_of_le_of_lt (Nat.div_le_self _ _) hx)
theorem rot_is {x : Nat} (hx : x < 256) (p : Nat) : ((rotN x p : Nat) : Int) = bits BinOp.or IntKind.u8 ((x : Int) * 2 ^ ((8 - p) % 8) % 256) ((x : Int) / 2 ^ (8 - (8 - p) % 8)) := by
  have e1 : (x : Int) * 2 ^ ((8 - p) % 8) % 256 = ((x * 2 ^ ((8 - p) % 8) % 256 : Nat) : Int) := by simp
  have e2 : (x : Int) / 2 ^ (8 - (8 - p) % 8) = ((x / 2 ^ (8 - (8 - p) % 8) : Nat) : Int) := by simp
  rw [e1, e2, u8_or_nat _ _ (Nat.mod_lt _ (by decide)) (Nat.lt_of_le_of_lt (Nat.div_le_self _ _) hx)]
  rfl
@[local go_sem] theorem b7_1 : bits BinOp.and IntKind.u64 (IntKind.u64.wrap (-1)) 7 = 7 := by kernel_rfl
@[local go_sem] theorem b7_2 : bits BinOp.and IntKind.u64 (IntKind.u64.wrap (-2)) 7 = 6 := by kernel_rfl
@[local go_sem] theorem b7_3 : bits BinOp.and IntKind.u64 (IntKind.u64.wrap (-3)) 7 = 5 := by kernel_rfl
@[local go_sem] theorem b7_4 : bits BinOp.and IntKind.u64 (IntKind.u64.wrap (-4)) 7 = 4 := by kernel_rfl
@[local go_sem] theorem b7_5 : bits BinOp.and IntKind.u64 (IntKind.u64.wrap (-5)) 7 = 3 := by kernel_rfl
@[local go_sem] theorem b7_6 : bits BinOp.and IntKind.u64 (IntKind.u64.wrap (-6)) 7 = 2 := by kernel_rfl
@[local go_sem] theorem b7_7 : bits BinOp.and IntKind.u64 (IntKind.u64.wrap (-7)) 7 = 1 := by kernel_rfl
@[local go_sem] theorem b7_0 : bits BinOp.and IntKind.u64 0 7 = 0 := by kernel_rfl
set_option maxHeartbeats 1000000 in
theorem rot_any (x p : Nat) (w : World) (hx : x < 256) (hp : p < 8) :
    Calls Try.prog 58 #[.int .u8 (x : Int), .int .i64 (-(p : Int))] w fun e w' => e = .returned (.int .u8 ((rotN x p : Nat) : Int)) ∧ w = w' := by
  have hr := rot_is hx p
  generalize rotN x p = r at *
  rcases (by omega : p = 0 ∨ p = 1 ∨ p = 2 ∨ p = 3 ∨ p = 4 ∨ p = 5 ∨ p = 6 ∨ p = 7) with rfl | rfl | rfl | rfl | rfl | rfl | rfl | rfl
  all_goals
    have HR := Lib.hid hr
    clear hr
    go_enter Try.func58, Try.ntmps58
    go_wp2
    go_ret
    rw [HR.out]
    first
      | exact ⟨rfl, rfl⟩
      | (have e0 : (x : Int) * 2 ^ ((8 - 0) % 8) % 256 = (x : Int) := by
           show (x : Int) * 1 % 256 = _
           omega
         rw [e0]
         exact ⟨rfl, rfl⟩)

/-- a byte turned by each of these places, put together. -/
def turnL (x : Nat) (ps : List Nat) : Nat := ps.foldl (fun o p => o ^^^ rotN x p) 0
theorem turnL_lt {x : Nat} (hx : x < 256) (ps : List Nat) : turnL x ps < 256 := by
  suffices h : ∀ (l : List Nat) (p : Nat), p < 256 → l.foldl (fun o p => o ^^^ rotN x p) p < 256 from h ps 0 (by decide)
  intro l
  induction l with
  | nil => exact fun p h => h
  | cons q l ih => exact fun p h => ih _ (xor_lt h (rotN_lt hx q))
theorem turnL_take (x : Nat) (ps : List Nat) (k : Nat) (h : k < ps.length) : turnL x (ps.take (k + 1)) = turnL x (ps.take k) ^^^ rotN x ps[k] := by
  rw [List.take_add_one, List.getElem?_eq_getElem h]
  simp only [Option.toList, turnL, List.foldl_append, List.foldl]

set_option maxRecDepth 100000 in
set_option maxHeartbeats 1000000 in
theorem turned_any (x : Nat) (ps : List Nat) (g : Nat) (w : World) (hx : x < 256) (hp : ∀ p ∈ ps, p < 8) (hl : ps.length ≤ 8) (hc : ∀ (i : Nat) (h : i < ps.length), w.cell? ⟨g, i, none⟩ = some (.int .i64 ((ps[i] : Nat) : Int))) :
    Calls Try.prog 48 #[.int .u8 (x : Int), .slice (some ⟨g, 0, none⟩) ps.length ps.length] w fun e w' => e = .returned (.int .u8 ((turnL x ps : Nat) : Int)) ∧ w = w' := by
  go_enter Try.func48, Try.ntmps48
  go_wp2
  go_loopw [5, 10] (fun o i wr => ∃ k : Nat, k ≤ ps.length ∧ o = .int .u8 ((turnL x (ps.take k) : Nat) : Int) ∧ i = .int .i64 (k : Int) ∧ w = wr)
    (fun _ i _ => ps.length - (intOf i).toNat)
  case atStart => exact ⟨0, by omega, rfl, rfl, rfl⟩
  case round =>
    obtain ⟨k, hk, rfl, rfl, rfl⟩ := hrel
    have hlt0 := turnL_lt hx (ps.take k)
    by_cases hlt : k < ps.length
    · have hi0 : (0 : Int) ≤ (k : Int) := by omega
      have hi1 : (k : Int) < (ps.length : Int) := by omega
      have ck := hc k hlt
      clear hc
      have h8 := hp ps[k] (List.getElem_mem hlt)
      have hx1 := u8_xor_nat (turnL x (ps.take k)) (rotN x ps[k]) hlt0 (rotN_lt hx _)
      rw [← turnL_take x ps k hlt] at hx1
      generalize turnL x (ps.take k) = o at *
      generalize ps[k] = q at *
      have HX1 := Lib.hid hx1
      have hr := rot_any x q w hx h8
      generalize rotN x q = r at *
      have HR := Lib.hid hr
      have hw := IntWalk.wrap64_in (-(q : Int)) (by omega)
      clear hx1 hr
      go_wp2_with (go_at_call 58; refine HR.out.mono ?_; rintro e w' ⟨rfl, rfl⟩)
      go_roundw
      case rel => exact ⟨k + 1, by omega, by rw [← HX1.out], by go_num, trivial⟩
      case measure => simp [intOf]; omega
    · obtain rfl : k = ps.length := by omega
      rw [List.take_length] at *
      generalize ho : turnL x ps = o at *
      have HO := Lib.hid ho
      clear ho
      go_wp2
      go_ret
      exact ⟨by rw [HO.out]; rfl, rfl⟩

theorem sub_all : all1 (fun a => (turnL (invN a) [0, 4, 5, 6, 7] ^^^ 99 == subN a) && (invN (turnL (a ^^^ 99) [2, 5, 7]) == backN a)) = true := by kernel_rfl
theorem sub_turn {a : Nat} (ha : a < 256) : turnL (invN a) [0, 4, 5, 6, 7] ^^^ 99 = subN a := by
  have := all1_of sub_all ha
  simp only [Bool.and_eq_true, beq_iff_eq] at this
  exact this.1
theorem back_turn {a : Nat} (ha : a < 256) : invN (turnL (a ^^^ 99) [2, 5, 7]) = backN a := by
  have := all1_of sub_all ha
  simp only [Bool.and_eq_true, beq_iff_eq] at this
  exact this.2

set_option maxRecDepth 100000 in
set_option maxHeartbeats 1000000 in
theorem fsub_any (a : Nat) (w : World) (ha : a < 256) :
    Calls Try.prog 27 #[.int .u8 (a : Int)] w fun e w' => e = .returned (.int .u8 ((subN a : Nat) : Int)) ∧ Below w.heap.size w w' := by
  have hi := (inv_at ha).i
  have hs := sub_turn ha
  have hI := fun w => finv_any a w ha
  generalize invN a = i at *
  have ht := turnL_lt hi [0, 4, 5, 6, 7]
  have hx := u8_xor_nat (turnL i [0, 4, 5, 6, 7]) 99 ht (by decide)
  rw [hs] at hx
  have hT : ∀ w1 : World, Calls Try.prog 48 #[.int .u8 (i : Int), .slice (some ⟨w1.heap.size, 0, none⟩) 5 5] (w1.alloc (.cells #[.int .i64 0, .int .i64 4, .int .i64 5, .int .i64 6, .int .i64 7] 3)) fun e w' => e = .returned (.int .u8 ((turnL i [0, 4, 5, 6, 7] : Nat) : Int)) ∧ (w1.alloc (.cells #[.int .i64 0, .int .i64 4, .int .i64 5, .int .i64 6, .int .i64 7] 3)) = w' := fun w1 =>
    turned_any i [0, 4, 5, 6, 7] w1.heap.size _ hi (by decide) (by decide) (fun j h => by
      rw [(Is.new w1 3 #[.int .i64 0, .int .i64 4, .int .i64 5, .int .i64 6, .int .i64 7]).cell j]
      rcases (by simp at h; omega : j = 0 ∨ j = 1 ∨ j = 2 ∨ j = 3 ∨ j = 4) with rfl | rfl | rfl | rfl | rfl <;> rfl)
  generalize turnL i [0, 4, 5, 6, 7] = t at *
  have HX := Lib.hid hx
  have HI := Lib.hid hI
  have HT := Lib.hid hT
  clear hx hI hT hs
  go_enter Try.func27, Try.ntmps27
  go_wp2_with (first
    | (go_at_call 49; refine (HI.out _).mono ?_; rintro e w1 ⟨rfl, hb1⟩)
    | (go_at_call 48; refine (HT.out _).mono ?_; rintro e w' ⟨rfl, rfl⟩))
  go_ret
  exact ⟨by rw [← HX.out]; rfl, hb1.alloc hb1.size _⟩

set_option maxRecDepth 100000 in
set_option maxHeartbeats 1000000 in
theorem fback_any (a : Nat) (w : World) (ha : a < 256) :
    Calls Try.prog 36 #[.int .u8 (a : Int)] w fun e w' => e = .returned (.int .u8 ((backN a : Nat) : Int)) ∧ Below w.heap.size w w' := by
  have hs := back_turn ha
  have hx := u8_xor_nat a 99 ha (by decide)
  have hi := xor_lt ha (show 99 < 256 by decide)
  generalize a ^^^ 99 = i at *
  have ht := turnL_lt hi [2, 5, 7]
  have hT : ∀ w1 : World, Calls Try.prog 48 #[.int .u8 (bits BinOp.xor IntKind.u8 (a : Int) 99), .slice (some ⟨w1.heap.size, 0, none⟩) 3 3] (w1.alloc (.cells #[.int .i64 2, .int .i64 5, .int .i64 7] 3)) fun e w' => e = .returned (.int .u8 ((turnL i [2, 5, 7] : Nat) : Int)) ∧ (w1.alloc (.cells #[.int .i64 2, .int .i64 5, .int .i64 7] 3)) = w' := fun w1 => by
    have hx' : bits BinOp.xor IntKind.u8 (a : Int) 99 = (i : Int) := hx
    rw [hx']
    exact turned_any i [2, 5, 7] w1.heap.size _ hi (by decide) (by decide) (fun j h => by
      rw [(Is.new w1 3 #[.int .i64 2, .int .i64 5, .int .i64 7]).cell j]
      rcases (by simp at h; omega : j = 0 ∨ j = 1 ∨ j = 2) with rfl | rfl | rfl <;> rfl)
  generalize turnL i [2, 5, 7] = t at *
  have hI := fun w => finv_any t w ht
  rw [hs] at hI
  have HX := Lib.hid hx
  have HI := Lib.hid hI
  have HT := Lib.hid hT
  clear hx hI hT hs
  go_enter Try.func36, Try.ntmps36
  go_wp2_with (first
    | (go_at_call 49; refine (HI.out _).mono ?_; rintro e w1 ⟨rfl, hb1⟩)
    | (go_at_call 48; refine (HT.out _).mono ?_; rintro e w' ⟨rfl, rfl⟩))
  go_ret
  exact ⟨rfl, ((Below.refl _ _).alloc (Nat.le_refl _) _).trans (hb1.mono (by simp))⟩
end Go.Proofs.Ytjfeloimlgfocaa
