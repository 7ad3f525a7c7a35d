/-
  Contracts of field.Mix, field.Unmix. Conditions: the arguments are bytes.
-/
import Derived.Test.YtjfeloimlgfocaaFldC
namespace Go.Proofs.Ytjfeloimlgfocaa
open Go.RowKit

def C4.fn (x : C4) : Nat → Nat
  | 0 => x.a | 1 => x.b | 2 => x.c | _ => x.d
theorem C4.fn_lt {x : C4} (h : x.Ok) (j : Nat) : x.fn j < 256 := by
  unfold C4.fn
  split
  · exact h.a
  · exact h.b
  · exact h.c
  · exact h.d
/-- four bytes as cells. -/
abbrev C4.arr (x : C4) : Array Value := #[.int .u8 (x.a : Int), .int .u8 (x.b : Int), .int .u8 (x.c : Int), .int .u8 (x.d : Int)]
theorem C4.arr_fn (x : C4) : x.arr = arr4 x.fn := rfl
theorem C4.arr_one (x : C4) : x.arr.all (·.oneCell') = true := arr4_one x.fn
/-- what undoes mixing. -/
def unC (x : C4) : C4 := mixC (mixC (mixC x))
theorem unC_ok {x : C4} (h : x.Ok) : (unC x).Ok := mixC_ok (mixC_ok (mixC_ok h))
def FM : C4 := ⟨2, 3, 1, 1⟩
def FU : C4 := ⟨14, 11, 13, 9⟩
theorem one_mul_all : all1 (fun x => mulN 1 x == x) = true := by kernel_rfl
theorem one_mul' {x : Nat} (hx : x < 256) : mulN 1 x = x := by simpa using all1_of one_mul_all hx
theorem un_all : all1 (fun x => (mulN 2 (mulN 5 x) ^^^ mulN 4 x == mulN 14 x) && (mulN 3 (mulN 5 x) ^^^ mulN 4 x == mulN 11 x) && (mulN 2 (mulN 4 x) ^^^ mulN 5 x == mulN 13 x) && (mulN 3 (mulN 4 x) ^^^ mulN 5 x == mulN 9 x)) = true := by kernel_rfl
theorem un_at {x : Nat} (hx : x < 256) : mulN 2 (mulN 5 x) ^^^ mulN 4 x = mulN 14 x ∧ mulN 3 (mulN 5 x) ^^^ mulN 4 x = mulN 11 x ∧ mulN 2 (mulN 4 x) ^^^ mulN 5 x = mulN 13 x ∧ mulN 3 (mulN 4 x) ^^^ mulN 5 x = mulN 9 x := by
  have := all1_of un_all hx
  simp only [Bool.and_eq_true, beq_iff_eq] at this
  exact ⟨this.1.1.1, this.1.1.2, this.1.2, this.2⟩
theorem mixM {x : C4} (h : x.Ok) : arr4 (mixS x.fn FM.fn 4 0) = (mixC x).arr := by
  have key : ∀ {a b c d : Nat}, c < 256 → d < 256 → 0 ^^^ mulN 2 a ^^^ mulN 3 b ^^^ mulN 1 c ^^^ mulN 1 d = mulN 2 a ^^^ mulN 3 b ^^^ c ^^^ d := fun {a b c d} hc hd => by
    rw [Nat.zero_xor, one_mul' hc, one_mul' hd]
  show #[Value.int .u8 ((0 ^^^ mulN 2 x.a ^^^ mulN 3 x.b ^^^ mulN 1 x.c ^^^ mulN 1 x.d : Nat) : Int), .int .u8 ((0 ^^^ mulN 2 x.b ^^^ mulN 3 x.c ^^^ mulN 1 x.d ^^^ mulN 1 x.a : Nat) : Int), .int .u8 ((0 ^^^ mulN 2 x.c ^^^ mulN 3 x.d ^^^ mulN 1 x.a ^^^ mulN 1 x.b : Nat) : Int), .int .u8 ((0 ^^^ mulN 2 x.d ^^^ mulN 3 x.a ^^^ mulN 1 x.b ^^^ mulN 1 x.c : Nat) : Int)] = _
  rw [key h.c h.d, key h.d h.a, key h.a h.b, key h.b h.c]
  rfl
theorem mixU {x : C4} (h : x.Ok) : arr4 (mixS x.fn FU.fn 4 0) = (unC x).arr := by
  have key : ∀ {a b c d : Nat}, a < 256 → b < 256 → c < 256 → d < 256 → 0 ^^^ mulN 14 a ^^^ mulN 11 b ^^^ mulN 13 c ^^^ mulN 9 d = mulN 2 (mulN 5 a ^^^ mulN 4 c) ^^^ mulN 3 (mulN 5 b ^^^ mulN 4 d) ^^^ (mulN 5 c ^^^ mulN 4 a) ^^^ (mulN 5 d ^^^ mulN 4 b) := fun {a b c d} ha hb hc hd => by
    rw [Nat.zero_xor, ← (un_at ha).1, ← (un_at hb).2.1, ← (un_at hc).2.2.1, ← (un_at hd).2.2.2]
    simp only [mulN_xor]
    ac_rfl
  have e : unC x = mixC ⟨mulN 5 x.a ^^^ mulN 4 x.c, mulN 5 x.b ^^^ mulN 4 x.d, mulN 5 x.c ^^^ mulN 4 x.a, mulN 5 x.d ^^^ mulN 4 x.b⟩ := by
    unfold unC
    rw [mixC_2 h]
  rw [e]
  show #[Value.int .u8 ((0 ^^^ mulN 14 x.a ^^^ mulN 11 x.b ^^^ mulN 13 x.c ^^^ mulN 9 x.d : Nat) : Int), .int .u8 ((0 ^^^ mulN 14 x.b ^^^ mulN 11 x.c ^^^ mulN 13 x.d ^^^ mulN 9 x.a : Nat) : Int), .int .u8 ((0 ^^^ mulN 14 x.c ^^^ mulN 11 x.d ^^^ mulN 13 x.a ^^^ mulN 9 x.b : Nat) : Int), .int .u8 ((0 ^^^ mulN 14 x.d ^^^ mulN 11 x.a ^^^ mulN 13 x.b ^^^ mulN 9 x.c : Nat) : Int)] = _
  rw [key h.a h.b h.c h.d, key h.b h.c h.d h.a, key h.c h.d h.a h.b, key h.d h.a h.b h.c]
  rfl
theorem FM_lt (j : Nat) : FM.fn j < 256 := C4.fn_lt ⟨by decide, by decide, by decide, by decide⟩ j
theorem FU_lt (j : Nat) : FU.fn j < 256 := C4.fn_lt ⟨by decide, by decide, by decide, by decide⟩ j

set_option maxRecDepth 100000 in
set_option maxHeartbeats 1000000 in
theorem mix_any (x : C4) (w : World) (h : x.Ok) :
    Calls Try.prog 31 #[.agg x.arr] w fun e w' => e = .returned (.agg (mixC x).arr) ∧ Below w.heap.size w w' := by
  have hM := fun w => mixed_any x.fn FM.fn w (C4.fn_lt h) FM_lt
  rw [mixM h, ← C4.arr_fn] at hM
  have hF : arr4 FM.fn = #[.int .u8 2, .int .u8 3, .int .u8 1, .int .u8 1] := rfl
  rw [hF] at hM
  have hone := C4.arr_one (mixC x)
  have hs1 : (Try.prog.info? 58).map (·.size) = some (mixC x).arr.size := by kernel_rfl
  have hs2 : (mixC x).arr.size = 4 := rfl
  generalize (mixC x).arr = R at *
  have hsx : (Try.prog.info? 58).map (·.size) = some x.arr.size := by kernel_rfl
  generalize x.arr = X at *
  have HM := Lib.hid hM
  clear hM
  go_enter Try.func31, Try.ntmps31
  have iC : Is ((w.alloc (.cells X 58)).alloc (.cells #[.int .u8 0, .int .u8 0, .int .u8 0, .int .u8 0] 58)) w.heap.size 58 X := (Is.new w _ _).alloc _
  have iR : Is ((w.alloc (.cells X 58)).alloc (.cells #[.int .u8 0, .int .u8 0, .int .u8 0, .int .u8 0] 58)) (w.heap.size + 1) 58 #[.int .u8 0, .int .u8 0, .int .u8 0, .int .u8 0] := heap_alloc2_new w _ _
  have hB0 : Below w.heap.size w ((w.alloc (.cells X 58)).alloc (.cells #[.int .u8 0, .int .u8 0, .int .u8 0, .int .u8 0] 58)) := ((Below.refl _ _).alloc (Nat.le_refl _) _).alloc (by simp) _
  go_wp2_with (first
    | (refine wpList_load_row rfl 58 _ rfl w.heap.size rfl _ _ _ _ iC Try.underlying58 rfl hsx ?_)
    | (go_at_call 50; refine (HM.out _).mono ?_; rintro e w1 ⟨rfl, hb⟩; have jR := iR.below hb iR.lt)
    | (refine wpList_store_row rfl 58 _ _ rfl (w.heap.size + 1) R rfl rfl _ _ jR hs1 (by rw [hs2]; rfl) hone ?_))
  refine bodyPost_ret (results_cell_row Try.results31 _ _ (w.heap.size + 1) 58 R (0, 0) _ rfl (jR.row _) Try.underlying58 rfl hs1) rfl ⟨rfl, ?_⟩
  exact belowRow (hB0.trans (hb.mono hB0.size)) (by omega) _

set_option maxRecDepth 100000 in
set_option maxHeartbeats 1000000 in
theorem unmix_any (x : C4) (w : World) (h : x.Ok) :
    Calls Try.prog 35 #[.agg x.arr] w fun e w' => e = .returned (.agg (unC x).arr) ∧ Below w.heap.size w w' := by
  have hM := fun w => mixed_any x.fn FU.fn w (C4.fn_lt h) FU_lt
  rw [mixU h, ← C4.arr_fn] at hM
  have hF : arr4 FU.fn = #[.int .u8 14, .int .u8 11, .int .u8 13, .int .u8 9] := rfl
  rw [hF] at hM
  have hone := C4.arr_one (unC x)
  have hs1 : (Try.prog.info? 58).map (·.size) = some (unC x).arr.size := by kernel_rfl
  have hs2 : (unC x).arr.size = 4 := rfl
  generalize (unC x).arr = R at *
  have hsx : (Try.prog.info? 58).map (·.size) = some x.arr.size := by kernel_rfl
  generalize x.arr = X at *
  have HM := Lib.hid hM
  clear hM
  go_enter Try.func35, Try.ntmps35
  have iC : Is ((w.alloc (.cells X 58)).alloc (.cells #[.int .u8 0, .int .u8 0, .int .u8 0, .int .u8 0] 58)) w.heap.size 58 X := (Is.new w _ _).alloc _
  have iR : Is ((w.alloc (.cells X 58)).alloc (.cells #[.int .u8 0, .int .u8 0, .int .u8 0, .int .u8 0] 58)) (w.heap.size + 1) 58 #[.int .u8 0, .int .u8 0, .int .u8 0, .int .u8 0] := heap_alloc2_new w _ _
  have hB0 : Below w.heap.size w ((w.alloc (.cells X 58)).alloc (.cells #[.int .u8 0, .int .u8 0, .int .u8 0, .int .u8 0] 58)) := ((Below.refl _ _).alloc (Nat.le_refl _) _).alloc (by simp) _
  go_wp2_with (first
    | (refine wpList_load_row rfl 58 _ rfl w.heap.size rfl _ _ _ _ iC Try.underlying58 rfl hsx ?_)
    | (go_at_call 50; refine (HM.out _).mono ?_; rintro e w1 ⟨rfl, hb⟩; have jR := iR.below hb iR.lt)
    | (refine wpList_store_row rfl 58 _ _ rfl (w.heap.size + 1) R rfl rfl _ _ jR hs1 (by rw [hs2]; rfl) hone ?_))
  refine bodyPost_ret (results_cell_row Try.results35 _ _ (w.heap.size + 1) 58 R (0, 0) _ rfl (jR.row _) Try.underlying58 rfl hs1) rfl ⟨rfl, ?_⟩
  exact belowRow (hB0.trans (hb.mono hB0.size)) (by omega) _
end Go.Proofs.Ytjfeloimlgfocaa
