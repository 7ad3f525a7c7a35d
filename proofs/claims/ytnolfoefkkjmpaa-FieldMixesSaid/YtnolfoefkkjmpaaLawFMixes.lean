/-
  FieldMixes: the walk of the statement's function.
-/
import Derived.Test.YtnolfoefkkjmpaaLawFTurns
import Derived.Test.YtnolfoefkkjmpaaOps
namespace Go.Proofs.Ytnolfoefkkjmpaa
open Go.RowKit

theorem xor_same (x y : C4) (hx : x.Ok) (hy : y.Ok) : (#[.int .u8 (bits BinOp.xor IntKind.u8 (x.a : Int) (y.a : Int)), .int .u8 (bits BinOp.xor IntKind.u8 (x.b : Int) (y.b : Int)), .int .u8 (bits BinOp.xor IntKind.u8 (x.c : Int) (y.c : Int)), .int .u8 (bits BinOp.xor IntKind.u8 (x.d : Int) (y.d : Int))] : Array Value) = (xorC x y).arr := by
  rw [u8_xor_nat _ _ hx.a hy.a, u8_xor_nat _ _ hx.b hy.b, u8_xor_nat _ _ hx.c hy.c, u8_xor_nat _ _ hx.d hy.d]
  rfl

set_option maxRecDepth 100000 in
set_option maxHeartbeats 40000000 in
theorem fmixes_nat (x y : C4) (a : Nat) (w : World) (hx : x.Ok) (hy : y.Ok) (ha : a < 256) :
    Calls Try.prog 6 #[.agg x.l.toArray, .agg y.l.toArray, .int .u8 (a : Int)] w fun e w' => e = .returned (.bool true) ∧ Below w.heap.size w w' := by
  have hm := mixC_ok hx
  have hn := mixC_ok hy
  have m1 : ∀ w, Calls Try.prog 19 #[.agg x.l.toArray] w fun e w' => e = .returned (.agg (mixC x).l.toArray) ∧ Below w.heap.size w w' := fun w => mix_any x w hx
  have m2 : ∀ w, Calls Try.prog 19 #[.agg y.l.toArray] w fun e w' => e = .returned (.agg (mixC y).l.toArray) ∧ Below w.heap.size w w' := fun w => mix_any y w hy
  have hxy : (xorC x y).Ok := ⟨xor_lt hx.a hy.a, xor_lt hx.b hy.b, xor_lt hx.c hy.c, xor_lt hx.d hy.d⟩
  have m3 : ∀ w, Calls Try.prog 19 #[.agg #[.int .u8 (bits BinOp.xor IntKind.u8 (x.a : Int) (y.a : Int)), .int .u8 (bits BinOp.xor IntKind.u8 (x.b : Int) (y.b : Int)), .int .u8 (bits BinOp.xor IntKind.u8 (x.c : Int) (y.c : Int)), .int .u8 (bits BinOp.xor IntKind.u8 (x.d : Int) (y.d : Int))]] w fun e w' => e = .returned (.agg (xorC (mixC x) (mixC y)).l.toArray) ∧ Below w.heap.size w w' := fun w => by
    rw [xor_same x y hx hy]
    have := mix_any (xorC x y) w hxy
    rw [mixC_xor] at this
    exact this
  have m4 : ∀ w, Calls Try.prog 19 #[.agg #[.int .u8 (x.b : Int), .int .u8 (x.c : Int), .int .u8 (x.d : Int), .int .u8 (x.a : Int)]] w fun e w' => e = .returned (.agg (C4.l ⟨(mixC x).b, (mixC x).c, (mixC x).d, (mixC x).a⟩).toArray) ∧ Below w.heap.size w w' := fun w => mix_any ⟨x.b, x.c, x.d, x.a⟩ w ⟨hx.b, hx.c, hx.d, hx.a⟩
  have m5 : ∀ w, Calls Try.prog 19 #[.agg (unC x).l.toArray] w fun e w' => e = .returned (.agg x.l.toArray) ∧ Below w.heap.size w w' := fun w => by
    have := mix_any (unC x) w (unC_ok hx)
    rw [show mixC (unC x) = x from mixC_4 hx] at this
    exact this
  have u1 : ∀ w, Calls Try.prog 21 #[.agg (mixC x).l.toArray] w fun e w' => e = .returned (.agg x.l.toArray) ∧ Below w.heap.size w w' := fun w => by
    have := unmix_any (mixC x) w hm
    rw [show unC (mixC x) = x from mixC_4 hx] at this
    exact this
  have u2 : ∀ w, Calls Try.prog 21 #[.agg x.l.toArray] w fun e w' => e = .returned (.agg (unC x).l.toArray) ∧ Below w.heap.size w w' := fun w => unmix_any x w hx
  have m6 : ∀ w, Calls Try.prog 19 #[.agg #[.int .u8 (a : Int), .int .u8 (a : Int), .int .u8 (a : Int), .int .u8 (a : Int)]] w fun e w' => e = .returned (.agg #[.int .u8 (a : Int), .int .u8 (a : Int), .int .u8 (a : Int), .int .u8 (a : Int)]) ∧ Below w.heap.size w w' := fun w => by
    have := mix_any ⟨a, a, a, a⟩ w ⟨ha, ha, ha, ha⟩
    rw [mixC_same ha] at this
    exact this
  have q3 : ∀ w, (Op.equalIn 10000 22 (.agg (xorC (mixC x) (mixC y)).l.toArray) (.agg #[.int .u8 (bits BinOp.xor IntKind.u8 ((mixC x).a : Int) ((mixC y).a : Int)), .int .u8 (bits BinOp.xor IntKind.u8 ((mixC x).b : Int) ((mixC y).b : Int)), .int .u8 (bits BinOp.xor IntKind.u8 ((mixC x).c : Int) ((mixC y).c : Int)), .int .u8 (bits BinOp.xor IntKind.u8 ((mixC x).d : Int) ((mixC y).d : Int))])).run Try.prog w = .ok true w := fun w => by
    rw [xor_same _ _ hm hn]
    exact eqIn4_self _ w
  have q4 : ∀ w, (Op.equalIn 10000 22 (.agg (C4.l ⟨(mixC x).b, (mixC x).c, (mixC x).d, (mixC x).a⟩).toArray) (.agg #[.int .u8 ((mixC x).b : Int), .int .u8 ((mixC x).c : Int), .int .u8 ((mixC x).d : Int), .int .u8 ((mixC x).a : Int)])).run Try.prog w = .ok true w := fun w => eqIn4_self ⟨(mixC x).b, (mixC x).c, (mixC x).d, (mixC x).a⟩ w
  have q6 : ∀ w, (Op.equalIn 10000 22 (.agg #[.int .u8 (a : Int), .int .u8 (a : Int), .int .u8 (a : Int), .int .u8 (a : Int)]) (.agg #[.int .u8 (a : Int), .int .u8 (a : Int), .int .u8 (a : Int), .int .u8 (a : Int)])).run Try.prog w = .ok true w := eqIn4_self ⟨a, a, a, a⟩
  have rx := C4.row x
  have ry := C4.row y
  have rm := C4.row (mixC x)
  have rn := C4.row (mixC y)
  have rs := C4.row (xorC (mixC x) (mixC y))
  have rt := C4.row ⟨(mixC x).b, (mixC x).c, (mixC x).d, (mixC x).a⟩
  have gx0 : x.l.toArray[0]? = some (.int .u8 (x.a : Int)) := rfl
  have gx1 : x.l.toArray[1]? = some (.int .u8 (x.b : Int)) := rfl
  have gx2 : x.l.toArray[2]? = some (.int .u8 (x.c : Int)) := rfl
  have gx3 : x.l.toArray[3]? = some (.int .u8 (x.d : Int)) := rfl
  have gy0 : y.l.toArray[0]? = some (.int .u8 (y.a : Int)) := rfl
  have gy1 : y.l.toArray[1]? = some (.int .u8 (y.b : Int)) := rfl
  have gy2 : y.l.toArray[2]? = some (.int .u8 (y.c : Int)) := rfl
  have gy3 : y.l.toArray[3]? = some (.int .u8 (y.d : Int)) := rfl
  have gm0 : (mixC x).l.toArray[0]? = some (.int .u8 ((mixC x).a : Int)) := rfl
  have gm1 : (mixC x).l.toArray[1]? = some (.int .u8 ((mixC x).b : Int)) := rfl
  have gm2 : (mixC x).l.toArray[2]? = some (.int .u8 ((mixC x).c : Int)) := rfl
  have gm3 : (mixC x).l.toArray[3]? = some (.int .u8 ((mixC x).d : Int)) := rfl
  have gn0 : (mixC y).l.toArray[0]? = some (.int .u8 ((mixC y).a : Int)) := rfl
  have gn1 : (mixC y).l.toArray[1]? = some (.int .u8 ((mixC y).b : Int)) := rfl
  have gn2 : (mixC y).l.toArray[2]? = some (.int .u8 ((mixC y).c : Int)) := rfl
  have gn3 : (mixC y).l.toArray[3]? = some (.int .u8 ((mixC y).d : Int)) := rfl
  generalize (C4.l ⟨(mixC x).b, (mixC x).c, (mixC x).d, (mixC x).a⟩) = Lt at *
  generalize (xorC (mixC x) (mixC y)).l = Ls at *
  clear hm hn hxy
  generalize mixC x = m at *
  generalize mixC y = n at *
  generalize (unC x).l = Lu at *
  generalize x.l = Lx at *
  generalize y.l = Ly at *
  generalize m.l = Lm at *
  generalize n.l = Ln at *
  have q1 := rx.same
  have M1 := Lib.hid m1
  have M2 := Lib.hid m2
  have M3 := Lib.hid m3
  have M4 := Lib.hid m4
  have M5 := Lib.hid m5
  have M6 := Lib.hid m6
  have U1 := Lib.hid u1
  have U2 := Lib.hid u2
  have RX := Lib.hid rx
  have RY := Lib.hid ry
  have RM := Lib.hid rm
  have RN := Lib.hid rn
  have RS := Lib.hid rs
  have RT := Lib.hid rt
  clear m1 m2 m3 m4 m5 m6 u1 u2 rx ry rm rn rs rt
  go_enter Try.func6, Try.ntmps6
  have c0 : Is ((w.alloc (.cells Lx.toArray 22)).alloc (.cells Ly.toArray 22)) w.heap.size 22 Lx.toArray := (Is.new w _ _).alloc _
  have d0 : Is ((w.alloc (.cells Lx.toArray 22)).alloc (.cells Ly.toArray 22)) (w.heap.size + 1) 22 Ly.toArray := heap_alloc2_new w _ _
  have hB0 : Below w.heap.size w ((w.alloc (.cells Lx.toArray 22)).alloc (.cells Ly.toArray 22)) := ((Below.refl _ _).alloc (Nat.le_refl _) _).alloc (by simp) _
  go_wp2_with fail
  refine (awake3_any _).mono ?_
  rintro e v1 ⟨rfl, hb⟩
  have c1 := c0.below hb c0.lt
  have d1 := d0.below hb d0.lt
  have hB1 : Below w.heap.size w v1 := hB0.trans (hb.mono hB0.size)
  clear hb c0 d0 hB0
  go_wp2_with (refine wpList_load_row rfl 22 _ rfl _ rfl _ _ _ _ c1 Try.underlying22 rfl RX.out.arr ?_)
  refine (M1.out _).mono ?_
  rintro e v2 ⟨rfl, hb⟩
  have c2 := c1.below hb c1.lt
  have d2 := d1.below hb d1.lt
  have hB2 : Below w.heap.size w v2 := hB1.trans (hb.mono hB1.size)
  clear hb c1 d1 hB1
  go_wp2_with (first
    | (refine wpList_store_row rfl 22 _ _ rfl v2.heap.size Lm.toArray rfl rfl _ _ (heap_alloc_new v2 _) RM.out.arr (RM.out.old rfl) RM.out.one ?_; rw [World.setRow_alloc_new]; have c3 := c2.alloc (.cells Lm.toArray 22); have d3 := d2.alloc (.cells Lm.toArray 22); have m3 : Is (v2.alloc (.cells Lm.toArray 22)) v2.heap.size 22 Lm.toArray := Is.new v2 _ _; have hB3 : Below w.heap.size w (v2.alloc (.cells Lm.toArray 22)) := hB2.alloc hB2.size _; generalize (v2.alloc (.cells Lm.toArray 22)) = v3 at *)
    | (refine wpList_load_row rfl 22 _ rfl _ rfl _ _ _ _ d3 Try.underlying22 rfl RY.out.arr ?_))
  refine (M2.out _).mono ?_
  rintro e v4 ⟨rfl, hb⟩
  have c4 := c3.below hb c3.lt
  have d4 := d3.below hb d3.lt
  have m4 := m3.below hb m3.lt
  have hB4 : Below w.heap.size w v4 := hB3.trans (hb.mono hB3.size)
  clear hb c3 d3 m3 hB3
  go_wp2_with (refine wpList_store_row rfl 22 _ _ rfl v4.heap.size Ln.toArray rfl rfl _ _ (heap_alloc_new v4 _) RN.out.arr (RN.out.old rfl) RN.out.one ?_; rw [World.setRow_alloc_new]; have c5 := c4.alloc (.cells Ln.toArray 22); have d5 := d4.alloc (.cells Ln.toArray 22); have m5 := m4.alloc (.cells Ln.toArray 22); have n5 : Is (v4.alloc (.cells Ln.toArray 22)) v4.heap.size 22 Ln.toArray := Is.new v4 _ _; have hB5 : Below w.heap.size w (v4.alloc (.cells Ln.toArray 22)) := hB4.alloc hB4.size _; generalize (v4.alloc (.cells Ln.toArray 22)) = v5 at *; have c6g0 := (c5.cell 0).trans gx0; have c6g1 := (c5.cell 1).trans gx1; have c6g2 := (c5.cell 2).trans gx2; have c6g3 := (c5.cell 3).trans gx3; have d6g0 := (d5.cell 0).trans gy0; have d6g1 := (d5.cell 1).trans gy1; have d6g2 := (d5.cell 2).trans gy2; have d6g3 := (d5.cell 3).trans gy3)
  refine (M3.out _).mono ?_
  rintro e v6 ⟨rfl, hb⟩
  have c6 := c5.below hb c5.lt
  have d6 := d5.below hb d5.lt
  have m6 := m5.below hb m5.lt
  have n6 := n5.below hb n5.lt
  have hB6 : Below w.heap.size w v6 := hB5.trans (hb.mono hB5.size)
  clear hb c5 d5 m5 n5 hB5
  go_wp2_with (refine wpList_store_row rfl 22 _ _ rfl v6.heap.size Ls.toArray rfl rfl _ _ (heap_alloc_new v6 _) RS.out.arr (RS.out.old rfl) RS.out.one ?_; rw [World.setRow_alloc_new]; have c7 := c6.alloc (.cells Ls.toArray 22); have d7 := d6.alloc (.cells Ls.toArray 22); have m7 := m6.alloc (.cells Ls.toArray 22); have n7 := n6.alloc (.cells Ls.toArray 22); have s7 : Is (v6.alloc (.cells Ls.toArray 22)) v6.heap.size 22 Ls.toArray := Is.new v6 _ _; have hB7 : Below w.heap.size w (v6.alloc (.cells Ls.toArray 22)) := hB6.alloc hB6.size _; generalize (v6.alloc (.cells Ls.toArray 22)) = v7 at *; have c8g0 := (c7.cell 0).trans gx0; have c8g1 := (c7.cell 1).trans gx1; have c8g2 := (c7.cell 2).trans gx2; have c8g3 := (c7.cell 3).trans gx3)
  refine (M4.out _).mono ?_
  rintro e v8 ⟨rfl, hb⟩
  have c8 := c7.below hb c7.lt
  have d8 := d7.below hb d7.lt
  have m8 := m7.below hb m7.lt
  have n8 := n7.below hb n7.lt
  have s8 := s7.below hb s7.lt
  have hB8 : Below w.heap.size w v8 := hB7.trans (hb.mono hB7.size)
  clear hb c7 d7 m7 n7 s7 hB7
  go_wp2_with (refine wpList_store_row rfl 22 _ _ rfl v8.heap.size Lt.toArray rfl rfl _ _ (heap_alloc_new v8 _) RT.out.arr (RT.out.old rfl) RT.out.one ?_; rw [World.setRow_alloc_new]; have c9 := c8.alloc (.cells Lt.toArray 22); have d9 := d8.alloc (.cells Lt.toArray 22); have m9 := m8.alloc (.cells Lt.toArray 22); have n9 := n8.alloc (.cells Lt.toArray 22); have s9 := s8.alloc (.cells Lt.toArray 22); have t9 : Is (v8.alloc (.cells Lt.toArray 22)) v8.heap.size 22 Lt.toArray := Is.new v8 _ _; have hB9 : Below w.heap.size w (v8.alloc (.cells Lt.toArray 22)) := hB8.alloc hB8.size _; generalize (v8.alloc (.cells Lt.toArray 22)) = v9 at *)
  refine wp_region_held_drew (S := fun W => Below v9.heap.size v9 W) (by kernel_rfl) (belowN (Below.refl _ _) 1) (fun hS => ?_)
  change wpAnyH _ _ (opsOf Try.f6 6) _ _ 67 (Array.replicate 67 false) _ _
  refine wpAnyH_pure (i := 0) (o := { dst := some 49, op := Op.move (Operand.tmp 7), type := 4, pos := "law.go:41", after := #[], guard := none }) (v := .bool true) (by kernel_rfl) (by kernel_rfl) (by kernel_rfl) (by kernel_rfl) (fun _ _ _ h => h) (by kernel_rfl) (fun w _ => by kernel_rfl) hS ?_
  refine wpAnyH_pure (i := 1) (o := { dst := some 50, op := Op.move (Operand.tmp 49), type := 4, pos := "law.go:41", after := #[{ on := 0, ground := Ground.data }], guard := none }) (v := .bool true) (by kernel_rfl) (by kernel_rfl) (by kernel_rfl) (by kernel_rfl) (fun _ _ _ h => h) (by kernel_rfl) (fun w _ => by kernel_rfl) hS ?_
  refine wpAnyH_take (i := 2) (oi := { dst := some 51, op := Op.load 22 (Operand.tmp 8), type := 22, pos := "law.go:41", after := #[{ on := 1, ground := Ground.guard }], guard := some (1, true) }) (by kernel_rfl) (by kernel_rfl) (by kernel_rfl) (by kernel_rfl) (fun _ _ _ h => h) (yieldsIf_load_mid (by kernel_rfl) 22 (.tmp 8) rfl (v2.heap.size) 0 (by kernel_rfl) Lm _ (fun w h => rangeL (m9.below h m9.lt)) Try.underlying22 rfl RM.out.size) hS ?_
  refine wpAnyH_take (i := 4) (oi := { dst := some 53, op := Op.load 22 (Operand.tmp 3), type := 22, pos := "law.go:41", after := #[{ on := 1, ground := Ground.guard }], guard := some (1, true) }) (by kernel_rfl) (by kernel_rfl) (by kernel_rfl) (by kernel_rfl) (fun _ _ _ h => h) (yieldsIf_load_mid (by kernel_rfl) 22 (.tmp 3) rfl (w.heap.size) 0 (by kernel_rfl) Lx _ (fun w h => rangeL (c9.below h c9.lt)) Try.underlying22 rfl RX.out.size) hS ?_
  refine wpAnyH_call (i := 3) (o := { dst := some 52, op := Op.call { callee := Callee.value (Operand.func 21), args := #[Operand.tmp 51], argTypes := #[22] }, type := 22, pos := "law.go:41", after := #[{ on := 2, ground := Ground.data }, { on := 1, ground := Ground.chain }, { on := 1, ground := Ground.guard }], guard := some (1, true) }) (by kernel_rfl) (by kernel_rfl) (by kernel_rfl) (fun w => by kernel_rfl) ((U1.out _).mono ?_)
  rintro e v10 ⟨rfl, hb⟩
  have hS10 : Below v9.heap.size v9 v10 := hS.trans (hb.mono hS.size)
  clear hb
  refine ⟨_, rfl, hS10, ?_⟩
  refine wpAnyH_pure (i := 5) (o := { dst := some 54, op := Op.binOp BinOp.eql 22 (Operand.tmp 52) (Operand.tmp 53) 22, type := 4, pos := "law.go:41", after := #[{ on := 3, ground := Ground.data }, { on := 4, ground := Ground.data }, { on := 1, ground := Ground.guard }], guard := some (1, true) }) (v := .bool true) (by kernel_rfl) (by kernel_rfl) (by kernel_rfl) (by kernel_rfl) (fun _ _ _ h => h) (by kernel_rfl) (fun w hSw => by go_simp) hS10 ?_
  refine wpAnyH_pure (i := 6) (o := { dst := some 55, op := Op.pick (Operand.tmp 50) (Operand.tmp 54) (Operand.const (Value.bool false)), type := 4, pos := "law.go:41", after := #[{ on := 1, ground := Ground.data }, { on := 5, ground := Ground.data }], guard := none }) (v := .bool true) (by kernel_rfl) (by kernel_rfl) (by kernel_rfl) (by kernel_rfl) (fun _ _ _ h => h) (by kernel_rfl) (fun w _ => by kernel_rfl) hS10 ?_
  refine wpAnyH_pure (i := 7) (o := { dst := some 56, op := Op.move (Operand.tmp 55), type := 4, pos := "law.go:41", after := #[{ on := 6, ground := Ground.data }, { on := 3, ground := Ground.chain }], guard := none }) (v := .bool true) (by kernel_rfl) (by kernel_rfl) (by kernel_rfl) (by kernel_rfl) (fun _ _ _ h => h) (by kernel_rfl) (fun w _ => by kernel_rfl) hS10 ?_
  refine wpAnyH_take (i := 8) (oi := { dst := some 57, op := Op.load 22 (Operand.tmp 3), type := 22, pos := "law.go:41", after := #[{ on := 7, ground := Ground.guard }], guard := some (7, true) }) (by kernel_rfl) (by kernel_rfl) (by kernel_rfl) (by kernel_rfl) (fun _ _ _ h => h) (yieldsIf_load_mid (by kernel_rfl) 22 (.tmp 3) rfl (w.heap.size) 0 (by kernel_rfl) Lx _ (fun w h => rangeL (c9.below h c9.lt)) Try.underlying22 rfl RX.out.size) hS10 ?_
  refine wpAnyH_take (i := 11) (oi := { dst := some 60, op := Op.load 22 (Operand.tmp 3), type := 22, pos := "law.go:41", after := #[{ on := 7, ground := Ground.guard }], guard := some (7, true) }) (by kernel_rfl) (by kernel_rfl) (by kernel_rfl) (by kernel_rfl) (fun _ _ _ h => h) (yieldsIf_load_mid (by kernel_rfl) 22 (.tmp 3) rfl (w.heap.size) 0 (by kernel_rfl) Lx _ (fun w h => rangeL (c9.below h c9.lt)) Try.underlying22 rfl RX.out.size) hS10 ?_
  refine wpAnyH_call (i := 9) (o := { dst := some 58, op := Op.call { callee := Callee.value (Operand.func 21), args := #[Operand.tmp 57], argTypes := #[22] }, type := 22, pos := "law.go:41", after := #[{ on := 8, ground := Ground.data }, { on := 7, ground := Ground.chain }, { on := 7, ground := Ground.guard }], guard := some (7, true) }) (by kernel_rfl) (by kernel_rfl) (by kernel_rfl) (fun w => by kernel_rfl) ((U2.out _).mono ?_)
  rintro e v11 ⟨rfl, hb⟩
  have hS11 : Below v9.heap.size v9 v11 := hS10.trans (hb.mono hS10.size)
  clear hb
  refine ⟨_, rfl, hS11, ?_⟩
  refine wpAnyH_call (i := 10) (o := { dst := some 59, op := Op.call { callee := Callee.value (Operand.func 19), args := #[Operand.tmp 58], argTypes := #[22] }, type := 22, pos := "law.go:41", after := #[{ on := 9, ground := Ground.data }, { on := 9, ground := Ground.chain }, { on := 7, ground := Ground.guard }], guard := some (7, true) }) (by kernel_rfl) (by kernel_rfl) (by kernel_rfl) (fun w => by kernel_rfl) ((M5.out _).mono ?_)
  rintro e v12 ⟨rfl, hb⟩
  have hS12 : Below v9.heap.size v9 v12 := hS11.trans (hb.mono hS11.size)
  clear hb
  refine ⟨_, rfl, hS12, ?_⟩
  refine wpAnyH_pure (i := 12) (o := { dst := some 61, op := Op.binOp BinOp.eql 22 (Operand.tmp 59) (Operand.tmp 60) 22, type := 4, pos := "law.go:41", after := #[{ on := 10, ground := Ground.data }, { on := 11, ground := Ground.data }, { on := 7, ground := Ground.guard }], guard := some (7, true) }) (v := .bool true) (by kernel_rfl) (by kernel_rfl) (by kernel_rfl) (by kernel_rfl) (fun _ _ _ h => h) (by kernel_rfl) (fun w hSw => by go_simp) hS12 ?_
  refine wpAnyH_pure (i := 13) (o := { dst := some 62, op := Op.pick (Operand.tmp 56) (Operand.tmp 61) (Operand.const (Value.bool false)), type := 4, pos := "law.go:41", after := #[{ on := 7, ground := Ground.data }, { on := 12, ground := Ground.data }], guard := none }) (v := .bool true) (by kernel_rfl) (by kernel_rfl) (by kernel_rfl) (by kernel_rfl) (fun _ _ _ h => h) (by kernel_rfl) (fun w _ => by kernel_rfl) hS12 ?_
  refine wpAnyH_pure (i := 14) (o := { dst := some 63, op := Op.move (Operand.tmp 62), type := 4, pos := "law.go:41", after := #[{ on := 13, ground := Ground.data }, { on := 10, ground := Ground.chain }], guard := none }) (v := .bool true) (by kernel_rfl) (by kernel_rfl) (by kernel_rfl) (by kernel_rfl) (fun _ _ _ h => h) (by kernel_rfl) (fun w _ => by kernel_rfl) hS12 ?_
  refine wpAnyH_take (i := 15) (oi := { dst := some 64, op := Op.load 22 (Operand.tmp 10), type := 22, pos := "law.go:41", after := #[{ on := 14, ground := Ground.guard }], guard := some (14, true) }) (by kernel_rfl) (by kernel_rfl) (by kernel_rfl) (by kernel_rfl) (fun _ _ _ h => h) (yieldsIf_load_mid (by kernel_rfl) 22 (.tmp 10) rfl (v6.heap.size) 0 (by kernel_rfl) Ls _ (fun w h => rangeL (s9.below h s9.lt)) Try.underlying22 rfl RS.out.size) hS12 ?_
  refine wpAnyH_pure (i := 16) (o := { dst := some 65, op := Op.indexAddr 22 (Operand.tmp 8) (Operand.const (Value.int IntKind.i64 0)), type := 0, pos := "law.go:41", after := #[{ on := 14, ground := Ground.guard }], guard := some (14, true) }) (v := .pointer (some ⟨v2.heap.size, 0, none⟩)) (by kernel_rfl) (by kernel_rfl) (by kernel_rfl) (by kernel_rfl) (fun _ _ _ h => h) (by kernel_rfl) (fun w _ => by kernel_rfl) hS12 ?_
  refine wpAnyH_pure (i := 17) (o := { dst := some 66, op := Op.load 5 (Operand.tmp 65), type := 5, pos := "law.go:41", after := #[{ on := 16, ground := Ground.data }, { on := 14, ground := Ground.guard }], guard := some (14, true) }) (v := .int .u8 (m.a : Int)) (by kernel_rfl) (by kernel_rfl) (by kernel_rfl) (by kernel_rfl) (fun _ _ _ h => h) (by kernel_rfl) (fun w hSw => by (have hc := ((m9.below hSw m9.lt).cell 0).trans gm0; go_simp)) hS12 ?_
  refine wpAnyH_pure (i := 18) (o := { dst := some 67, op := Op.indexAddr 22 (Operand.tmp 9) (Operand.const (Value.int IntKind.i64 0)), type := 0, pos := "law.go:41", after := #[{ on := 14, ground := Ground.guard }], guard := some (14, true) }) (v := .pointer (some ⟨v4.heap.size, 0, none⟩)) (by kernel_rfl) (by kernel_rfl) (by kernel_rfl) (by kernel_rfl) (fun _ _ _ h => h) (by kernel_rfl) (fun w _ => by kernel_rfl) hS12 ?_
  refine wpAnyH_pure (i := 19) (o := { dst := some 68, op := Op.load 5 (Operand.tmp 67), type := 5, pos := "law.go:41", after := #[{ on := 18, ground := Ground.data }, { on := 14, ground := Ground.guard }], guard := some (14, true) }) (v := .int .u8 (n.a : Int)) (by kernel_rfl) (by kernel_rfl) (by kernel_rfl) (by kernel_rfl) (fun _ _ _ h => h) (by kernel_rfl) (fun w hSw => by (have hc := ((n9.below hSw n9.lt).cell 0).trans gn0; go_simp)) hS12 ?_
  refine wpAnyH_pure (i := 20) (o := { dst := some 69, op := Op.binOp BinOp.xor 5 (Operand.tmp 66) (Operand.tmp 68) 5, type := 5, pos := "law.go:41", after := #[{ on := 17, ground := Ground.data }, { on := 19, ground := Ground.data }, { on := 14, ground := Ground.guard }], guard := some (14, true) }) (v := .int .u8 (bits BinOp.xor IntKind.u8 (m.a : Int) (n.a : Int))) (by kernel_rfl) (by kernel_rfl) (by kernel_rfl) (by kernel_rfl) (fun _ _ _ h => h) (by kernel_rfl) (fun w hSw => by go_simp) hS12 ?_
  refine wpAnyH_pure (i := 21) (o := { dst := some 70, op := Op.indexAddr 22 (Operand.tmp 8) (Operand.const (Value.int IntKind.i64 1)), type := 0, pos := "law.go:41", after := #[{ on := 14, ground := Ground.guard }], guard := some (14, true) }) (v := .pointer (some ⟨v2.heap.size, 1, none⟩)) (by kernel_rfl) (by kernel_rfl) (by kernel_rfl) (by kernel_rfl) (fun _ _ _ h => h) (by kernel_rfl) (fun w _ => by kernel_rfl) hS12 ?_
  refine wpAnyH_pure (i := 22) (o := { dst := some 71, op := Op.load 5 (Operand.tmp 70), type := 5, pos := "law.go:41", after := #[{ on := 21, ground := Ground.data }, { on := 14, ground := Ground.guard }], guard := some (14, true) }) (v := .int .u8 (m.b : Int)) (by kernel_rfl) (by kernel_rfl) (by kernel_rfl) (by kernel_rfl) (fun _ _ _ h => h) (by kernel_rfl) (fun w hSw => by (have hc := ((m9.below hSw m9.lt).cell 1).trans gm1; go_simp)) hS12 ?_
  refine wpAnyH_pure (i := 23) (o := { dst := some 72, op := Op.indexAddr 22 (Operand.tmp 9) (Operand.const (Value.int IntKind.i64 1)), type := 0, pos := "law.go:41", after := #[{ on := 14, ground := Ground.guard }], guard := some (14, true) }) (v := .pointer (some ⟨v4.heap.size, 1, none⟩)) (by kernel_rfl) (by kernel_rfl) (by kernel_rfl) (by kernel_rfl) (fun _ _ _ h => h) (by kernel_rfl) (fun w _ => by kernel_rfl) hS12 ?_
  refine wpAnyH_pure (i := 24) (o := { dst := some 73, op := Op.load 5 (Operand.tmp 72), type := 5, pos := "law.go:41", after := #[{ on := 23, ground := Ground.data }, { on := 14, ground := Ground.guard }], guard := some (14, true) }) (v := .int .u8 (n.b : Int)) (by kernel_rfl) (by kernel_rfl) (by kernel_rfl) (by kernel_rfl) (fun _ _ _ h => h) (by kernel_rfl) (fun w hSw => by (have hc := ((n9.below hSw n9.lt).cell 1).trans gn1; go_simp)) hS12 ?_
  refine wpAnyH_pure (i := 25) (o := { dst := some 74, op := Op.binOp BinOp.xor 5 (Operand.tmp 71) (Operand.tmp 73) 5, type := 5, pos := "law.go:41", after := #[{ on := 22, ground := Ground.data }, { on := 24, ground := Ground.data }, { on := 14, ground := Ground.guard }], guard := some (14, true) }) (v := .int .u8 (bits BinOp.xor IntKind.u8 (m.b : Int) (n.b : Int))) (by kernel_rfl) (by kernel_rfl) (by kernel_rfl) (by kernel_rfl) (fun _ _ _ h => h) (by kernel_rfl) (fun w hSw => by go_simp) hS12 ?_
  refine wpAnyH_pure (i := 26) (o := { dst := some 75, op := Op.indexAddr 22 (Operand.tmp 8) (Operand.const (Value.int IntKind.i64 2)), type := 0, pos := "law.go:41", after := #[{ on := 14, ground := Ground.guard }], guard := some (14, true) }) (v := .pointer (some ⟨v2.heap.size, 2, none⟩)) (by kernel_rfl) (by kernel_rfl) (by kernel_rfl) (by kernel_rfl) (fun _ _ _ h => h) (by kernel_rfl) (fun w _ => by kernel_rfl) hS12 ?_
  refine wpAnyH_pure (i := 27) (o := { dst := some 76, op := Op.load 5 (Operand.tmp 75), type := 5, pos := "law.go:41", after := #[{ on := 26, ground := Ground.data }, { on := 14, ground := Ground.guard }], guard := some (14, true) }) (v := .int .u8 (m.c : Int)) (by kernel_rfl) (by kernel_rfl) (by kernel_rfl) (by kernel_rfl) (fun _ _ _ h => h) (by kernel_rfl) (fun w hSw => by (have hc := ((m9.below hSw m9.lt).cell 2).trans gm2; go_simp)) hS12 ?_
  refine wpAnyH_pure (i := 28) (o := { dst := some 77, op := Op.indexAddr 22 (Operand.tmp 9) (Operand.const (Value.int IntKind.i64 2)), type := 0, pos := "law.go:41", after := #[{ on := 14, ground := Ground.guard }], guard := some (14, true) }) (v := .pointer (some ⟨v4.heap.size, 2, none⟩)) (by kernel_rfl) (by kernel_rfl) (by kernel_rfl) (by kernel_rfl) (fun _ _ _ h => h) (by kernel_rfl) (fun w _ => by kernel_rfl) hS12 ?_
  refine wpAnyH_pure (i := 29) (o := { dst := some 78, op := Op.load 5 (Operand.tmp 77), type := 5, pos := "law.go:41", after := #[{ on := 28, ground := Ground.data }, { on := 14, ground := Ground.guard }], guard := some (14, true) }) (v := .int .u8 (n.c : Int)) (by kernel_rfl) (by kernel_rfl) (by kernel_rfl) (by kernel_rfl) (fun _ _ _ h => h) (by kernel_rfl) (fun w hSw => by (have hc := ((n9.below hSw n9.lt).cell 2).trans gn2; go_simp)) hS12 ?_
  refine wpAnyH_pure (i := 30) (o := { dst := some 79, op := Op.binOp BinOp.xor 5 (Operand.tmp 76) (Operand.tmp 78) 5, type := 5, pos := "law.go:41", after := #[{ on := 27, ground := Ground.data }, { on := 29, ground := Ground.data }, { on := 14, ground := Ground.guard }], guard := some (14, true) }) (v := .int .u8 (bits BinOp.xor IntKind.u8 (m.c : Int) (n.c : Int))) (by kernel_rfl) (by kernel_rfl) (by kernel_rfl) (by kernel_rfl) (fun _ _ _ h => h) (by kernel_rfl) (fun w hSw => by go_simp) hS12 ?_
  refine wpAnyH_pure (i := 31) (o := { dst := some 80, op := Op.indexAddr 22 (Operand.tmp 8) (Operand.const (Value.int IntKind.i64 3)), type := 0, pos := "law.go:41", after := #[{ on := 14, ground := Ground.guard }], guard := some (14, true) }) (v := .pointer (some ⟨v2.heap.size, 3, none⟩)) (by kernel_rfl) (by kernel_rfl) (by kernel_rfl) (by kernel_rfl) (fun _ _ _ h => h) (by kernel_rfl) (fun w _ => by kernel_rfl) hS12 ?_
  refine wpAnyH_pure (i := 32) (o := { dst := some 81, op := Op.load 5 (Operand.tmp 80), type := 5, pos := "law.go:41", after := #[{ on := 31, ground := Ground.data }, { on := 14, ground := Ground.guard }], guard := some (14, true) }) (v := .int .u8 (m.d : Int)) (by kernel_rfl) (by kernel_rfl) (by kernel_rfl) (by kernel_rfl) (fun _ _ _ h => h) (by kernel_rfl) (fun w hSw => by (have hc := ((m9.below hSw m9.lt).cell 3).trans gm3; go_simp)) hS12 ?_
  refine wpAnyH_pure (i := 33) (o := { dst := some 82, op := Op.indexAddr 22 (Operand.tmp 9) (Operand.const (Value.int IntKind.i64 3)), type := 0, pos := "law.go:41", after := #[{ on := 14, ground := Ground.guard }], guard := some (14, true) }) (v := .pointer (some ⟨v4.heap.size, 3, none⟩)) (by kernel_rfl) (by kernel_rfl) (by kernel_rfl) (by kernel_rfl) (fun _ _ _ h => h) (by kernel_rfl) (fun w _ => by kernel_rfl) hS12 ?_
  refine wpAnyH_pure (i := 34) (o := { dst := some 83, op := Op.load 5 (Operand.tmp 82), type := 5, pos := "law.go:41", after := #[{ on := 33, ground := Ground.data }, { on := 14, ground := Ground.guard }], guard := some (14, true) }) (v := .int .u8 (n.d : Int)) (by kernel_rfl) (by kernel_rfl) (by kernel_rfl) (by kernel_rfl) (fun _ _ _ h => h) (by kernel_rfl) (fun w hSw => by (have hc := ((n9.below hSw n9.lt).cell 3).trans gn3; go_simp)) hS12 ?_
  refine wpAnyH_pure (i := 35) (o := { dst := some 84, op := Op.binOp BinOp.xor 5 (Operand.tmp 81) (Operand.tmp 83) 5, type := 5, pos := "law.go:41", after := #[{ on := 32, ground := Ground.data }, { on := 34, ground := Ground.data }, { on := 14, ground := Ground.guard }], guard := some (14, true) }) (v := .int .u8 (bits BinOp.xor IntKind.u8 (m.d : Int) (n.d : Int))) (by kernel_rfl) (by kernel_rfl) (by kernel_rfl) (by kernel_rfl) (fun _ _ _ h => h) (by kernel_rfl) (fun w hSw => by go_simp) hS12 ?_
  refine wpAnyH_pure (i := 36) (o := { dst := some 85, op := Op.build 22 #[(0, Operand.tmp 69), (1, Operand.tmp 74), (2, Operand.tmp 79), (3, Operand.tmp 84)], type := 22, pos := "law.go:41", after := #[{ on := 20, ground := Ground.data }, { on := 25, ground := Ground.data }, { on := 30, ground := Ground.data }, { on := 35, ground := Ground.data }, { on := 14, ground := Ground.guard }], guard := some (14, true) }) (v := .agg #[.int .u8 (bits BinOp.xor IntKind.u8 (m.a : Int) (n.a : Int)), .int .u8 (bits BinOp.xor IntKind.u8 (m.b : Int) (n.b : Int)), .int .u8 (bits BinOp.xor IntKind.u8 (m.c : Int) (n.c : Int)), .int .u8 (bits BinOp.xor IntKind.u8 (m.d : Int) (n.d : Int))]) (by kernel_rfl) (by kernel_rfl) (by kernel_rfl) (by kernel_rfl) (fun _ _ _ h => h) (by kernel_rfl) (fun w _ => by kernel_rfl) hS12 ?_
  refine wpAnyH_pure (i := 37) (o := { dst := some 86, op := Op.binOp BinOp.eql 22 (Operand.tmp 64) (Operand.tmp 85) 22, type := 4, pos := "law.go:41", after := #[{ on := 15, ground := Ground.data }, { on := 36, ground := Ground.data }, { on := 14, ground := Ground.guard }], guard := some (14, true) }) (v := .bool true) (by kernel_rfl) (by kernel_rfl) (by kernel_rfl) (by kernel_rfl) (fun _ _ _ h => h) (by kernel_rfl) (fun w hSw => by go_simp) hS12 ?_
  refine wpAnyH_pure (i := 38) (o := { dst := some 87, op := Op.pick (Operand.tmp 63) (Operand.tmp 86) (Operand.const (Value.bool false)), type := 4, pos := "law.go:41", after := #[{ on := 14, ground := Ground.data }, { on := 37, ground := Ground.data }], guard := none }) (v := .bool true) (by kernel_rfl) (by kernel_rfl) (by kernel_rfl) (by kernel_rfl) (fun _ _ _ h => h) (by kernel_rfl) (fun w _ => by kernel_rfl) hS12 ?_
  refine wpAnyH_pure (i := 39) (o := { dst := some 88, op := Op.move (Operand.tmp 87), type := 4, pos := "law.go:41", after := #[{ on := 38, ground := Ground.data }, { on := 14, ground := Ground.chain }], guard := none }) (v := .bool true) (by kernel_rfl) (by kernel_rfl) (by kernel_rfl) (by kernel_rfl) (fun _ _ _ h => h) (by kernel_rfl) (fun w _ => by kernel_rfl) hS12 ?_
  refine wpAnyH_pure (i := 40) (o := { dst := some 89, op := Op.move (Operand.tmp 2), type := 5, pos := "law.go:41", after := #[{ on := 39, ground := Ground.guard }], guard := some (39, true) }) (v := .int .u8 (a : Int)) (by kernel_rfl) (by kernel_rfl) (by kernel_rfl) (by kernel_rfl) (fun _ _ _ h => h) (by kernel_rfl) (fun w _ => by kernel_rfl) hS12 ?_
  refine wpAnyH_pure (i := 41) (o := { dst := some 90, op := Op.move (Operand.tmp 2), type := 5, pos := "law.go:41", after := #[{ on := 39, ground := Ground.guard }], guard := some (39, true) }) (v := .int .u8 (a : Int)) (by kernel_rfl) (by kernel_rfl) (by kernel_rfl) (by kernel_rfl) (fun _ _ _ h => h) (by kernel_rfl) (fun w _ => by kernel_rfl) hS12 ?_
  refine wpAnyH_pure (i := 42) (o := { dst := some 91, op := Op.move (Operand.tmp 2), type := 5, pos := "law.go:41", after := #[{ on := 39, ground := Ground.guard }], guard := some (39, true) }) (v := .int .u8 (a : Int)) (by kernel_rfl) (by kernel_rfl) (by kernel_rfl) (by kernel_rfl) (fun _ _ _ h => h) (by kernel_rfl) (fun w _ => by kernel_rfl) hS12 ?_
  refine wpAnyH_pure (i := 43) (o := { dst := some 92, op := Op.move (Operand.tmp 2), type := 5, pos := "law.go:41", after := #[{ on := 39, ground := Ground.guard }], guard := some (39, true) }) (v := .int .u8 (a : Int)) (by kernel_rfl) (by kernel_rfl) (by kernel_rfl) (by kernel_rfl) (fun _ _ _ h => h) (by kernel_rfl) (fun w _ => by kernel_rfl) hS12 ?_
  refine wpAnyH_pure (i := 44) (o := { dst := some 93, op := Op.build 22 #[(0, Operand.tmp 89), (1, Operand.tmp 90), (2, Operand.tmp 91), (3, Operand.tmp 92)], type := 22, pos := "law.go:41", after := #[{ on := 40, ground := Ground.data }, { on := 41, ground := Ground.data }, { on := 42, ground := Ground.data }, { on := 43, ground := Ground.data }, { on := 39, ground := Ground.guard }], guard := some (39, true) }) (v := .agg #[.int .u8 (a : Int), .int .u8 (a : Int), .int .u8 (a : Int), .int .u8 (a : Int)]) (by kernel_rfl) (by kernel_rfl) (by kernel_rfl) (by kernel_rfl) (fun _ _ _ h => h) (by kernel_rfl) (fun w _ => by kernel_rfl) hS12 ?_
  refine wpAnyH_pure (i := 46) (o := { dst := some 95, op := Op.move (Operand.tmp 2), type := 5, pos := "law.go:41", after := #[{ on := 39, ground := Ground.guard }], guard := some (39, true) }) (v := .int .u8 (a : Int)) (by kernel_rfl) (by kernel_rfl) (by kernel_rfl) (by kernel_rfl) (fun _ _ _ h => h) (by kernel_rfl) (fun w _ => by kernel_rfl) hS12 ?_
  refine wpAnyH_pure (i := 47) (o := { dst := some 96, op := Op.move (Operand.tmp 2), type := 5, pos := "law.go:41", after := #[{ on := 39, ground := Ground.guard }], guard := some (39, true) }) (v := .int .u8 (a : Int)) (by kernel_rfl) (by kernel_rfl) (by kernel_rfl) (by kernel_rfl) (fun _ _ _ h => h) (by kernel_rfl) (fun w _ => by kernel_rfl) hS12 ?_
  refine wpAnyH_pure (i := 48) (o := { dst := some 97, op := Op.move (Operand.tmp 2), type := 5, pos := "law.go:41", after := #[{ on := 39, ground := Ground.guard }], guard := some (39, true) }) (v := .int .u8 (a : Int)) (by kernel_rfl) (by kernel_rfl) (by kernel_rfl) (by kernel_rfl) (fun _ _ _ h => h) (by kernel_rfl) (fun w _ => by kernel_rfl) hS12 ?_
  refine wpAnyH_pure (i := 49) (o := { dst := some 98, op := Op.move (Operand.tmp 2), type := 5, pos := "law.go:41", after := #[{ on := 39, ground := Ground.guard }], guard := some (39, true) }) (v := .int .u8 (a : Int)) (by kernel_rfl) (by kernel_rfl) (by kernel_rfl) (by kernel_rfl) (fun _ _ _ h => h) (by kernel_rfl) (fun w _ => by kernel_rfl) hS12 ?_
  refine wpAnyH_pure (i := 50) (o := { dst := some 99, op := Op.build 22 #[(0, Operand.tmp 95), (1, Operand.tmp 96), (2, Operand.tmp 97), (3, Operand.tmp 98)], type := 22, pos := "law.go:41", after := #[{ on := 46, ground := Ground.data }, { on := 47, ground := Ground.data }, { on := 48, ground := Ground.data }, { on := 49, ground := Ground.data }, { on := 39, ground := Ground.guard }], guard := some (39, true) }) (v := .agg #[.int .u8 (a : Int), .int .u8 (a : Int), .int .u8 (a : Int), .int .u8 (a : Int)]) (by kernel_rfl) (by kernel_rfl) (by kernel_rfl) (by kernel_rfl) (fun _ _ _ h => h) (by kernel_rfl) (fun w _ => by kernel_rfl) hS12 ?_
  refine wpAnyH_call (i := 45) (o := { dst := some 94, op := Op.call { callee := Callee.value (Operand.func 19), args := #[Operand.tmp 93], argTypes := #[22] }, type := 22, pos := "law.go:41", after := #[{ on := 44, ground := Ground.data }, { on := 39, ground := Ground.chain }, { on := 39, ground := Ground.guard }], guard := some (39, true) }) (by kernel_rfl) (by kernel_rfl) (by kernel_rfl) (fun w => by kernel_rfl) ((M6.out _).mono ?_)
  rintro e v13 ⟨rfl, hb⟩
  have hS13 : Below v9.heap.size v9 v13 := hS12.trans (hb.mono hS12.size)
  clear hb
  refine ⟨_, rfl, hS13, ?_⟩
  refine wpAnyH_pure (i := 51) (o := { dst := some 100, op := Op.binOp BinOp.eql 22 (Operand.tmp 94) (Operand.tmp 99) 22, type := 4, pos := "law.go:41", after := #[{ on := 45, ground := Ground.data }, { on := 50, ground := Ground.data }, { on := 39, ground := Ground.guard }], guard := some (39, true) }) (v := .bool true) (by kernel_rfl) (by kernel_rfl) (by kernel_rfl) (by kernel_rfl) (fun _ _ _ h => h) (by kernel_rfl) (fun w hSw => by go_simp) hS13 ?_
  refine wpAnyH_pure (i := 52) (o := { dst := some 101, op := Op.pick (Operand.tmp 88) (Operand.tmp 100) (Operand.const (Value.bool false)), type := 4, pos := "law.go:41", after := #[{ on := 39, ground := Ground.data }, { on := 51, ground := Ground.data }], guard := none }) (v := .bool true) (by kernel_rfl) (by kernel_rfl) (by kernel_rfl) (by kernel_rfl) (fun _ _ _ h => h) (by kernel_rfl) (fun w _ => by kernel_rfl) hS13 ?_
  refine wpAnyH_pure (i := 53) (o := { dst := some 102, op := Op.move (Operand.tmp 101), type := 4, pos := "law.go:41", after := #[{ on := 52, ground := Ground.data }, { on := 45, ground := Ground.chain }], guard := none }) (v := .bool true) (by kernel_rfl) (by kernel_rfl) (by kernel_rfl) (by kernel_rfl) (fun _ _ _ h => h) (by kernel_rfl) (fun w _ => by kernel_rfl) hS13 ?_
  refine wpAnyH_take (i := 54) (oi := { dst := some 103, op := Op.load 22 (Operand.tmp 11), type := 22, pos := "law.go:41", after := #[{ on := 53, ground := Ground.guard }], guard := some (53, true) }) (by kernel_rfl) (by kernel_rfl) (by kernel_rfl) (by kernel_rfl) (fun _ _ _ h => h) (yieldsIf_load_mid (by kernel_rfl) 22 (.tmp 11) rfl (v8.heap.size) 0 (by kernel_rfl) Lt _ (fun w h => rangeL (t9.below h t9.lt)) Try.underlying22 rfl RT.out.size) hS13 ?_
  refine wpAnyH_pure (i := 55) (o := { dst := some 104, op := Op.indexAddr 22 (Operand.tmp 8) (Operand.const (Value.int IntKind.i64 1)), type := 0, pos := "law.go:41", after := #[{ on := 53, ground := Ground.guard }], guard := some (53, true) }) (v := .pointer (some ⟨v2.heap.size, 1, none⟩)) (by kernel_rfl) (by kernel_rfl) (by kernel_rfl) (by kernel_rfl) (fun _ _ _ h => h) (by kernel_rfl) (fun w _ => by kernel_rfl) hS13 ?_
  refine wpAnyH_pure (i := 56) (o := { dst := some 105, op := Op.load 5 (Operand.tmp 104), type := 5, pos := "law.go:41", after := #[{ on := 55, ground := Ground.data }, { on := 53, ground := Ground.guard }], guard := some (53, true) }) (v := .int .u8 (m.b : Int)) (by kernel_rfl) (by kernel_rfl) (by kernel_rfl) (by kernel_rfl) (fun _ _ _ h => h) (by kernel_rfl) (fun w hSw => by (have hc := ((m9.below hSw m9.lt).cell 1).trans gm1; go_simp)) hS13 ?_
  refine wpAnyH_pure (i := 57) (o := { dst := some 106, op := Op.indexAddr 22 (Operand.tmp 8) (Operand.const (Value.int IntKind.i64 2)), type := 0, pos := "law.go:41", after := #[{ on := 53, ground := Ground.guard }], guard := some (53, true) }) (v := .pointer (some ⟨v2.heap.size, 2, none⟩)) (by kernel_rfl) (by kernel_rfl) (by kernel_rfl) (by kernel_rfl) (fun _ _ _ h => h) (by kernel_rfl) (fun w _ => by kernel_rfl) hS13 ?_
  refine wpAnyH_pure (i := 58) (o := { dst := some 107, op := Op.load 5 (Operand.tmp 106), type := 5, pos := "law.go:41", after := #[{ on := 57, ground := Ground.data }, { on := 53, ground := Ground.guard }], guard := some (53, true) }) (v := .int .u8 (m.c : Int)) (by kernel_rfl) (by kernel_rfl) (by kernel_rfl) (by kernel_rfl) (fun _ _ _ h => h) (by kernel_rfl) (fun w hSw => by (have hc := ((m9.below hSw m9.lt).cell 2).trans gm2; go_simp)) hS13 ?_
  refine wpAnyH_pure (i := 59) (o := { dst := some 108, op := Op.indexAddr 22 (Operand.tmp 8) (Operand.const (Value.int IntKind.i64 3)), type := 0, pos := "law.go:41", after := #[{ on := 53, ground := Ground.guard }], guard := some (53, true) }) (v := .pointer (some ⟨v2.heap.size, 3, none⟩)) (by kernel_rfl) (by kernel_rfl) (by kernel_rfl) (by kernel_rfl) (fun _ _ _ h => h) (by kernel_rfl) (fun w _ => by kernel_rfl) hS13 ?_
  refine wpAnyH_pure (i := 60) (o := { dst := some 109, op := Op.load 5 (Operand.tmp 108), type := 5, pos := "law.go:41", after := #[{ on := 59, ground := Ground.data }, { on := 53, ground := Ground.guard }], guard := some (53, true) }) (v := .int .u8 (m.d : Int)) (by kernel_rfl) (by kernel_rfl) (by kernel_rfl) (by kernel_rfl) (fun _ _ _ h => h) (by kernel_rfl) (fun w hSw => by (have hc := ((m9.below hSw m9.lt).cell 3).trans gm3; go_simp)) hS13 ?_
  refine wpAnyH_pure (i := 61) (o := { dst := some 110, op := Op.indexAddr 22 (Operand.tmp 8) (Operand.const (Value.int IntKind.i64 0)), type := 0, pos := "law.go:41", after := #[{ on := 53, ground := Ground.guard }], guard := some (53, true) }) (v := .pointer (some ⟨v2.heap.size, 0, none⟩)) (by kernel_rfl) (by kernel_rfl) (by kernel_rfl) (by kernel_rfl) (fun _ _ _ h => h) (by kernel_rfl) (fun w _ => by kernel_rfl) hS13 ?_
  refine wpAnyH_pure (i := 62) (o := { dst := some 111, op := Op.load 5 (Operand.tmp 110), type := 5, pos := "law.go:41", after := #[{ on := 61, ground := Ground.data }, { on := 53, ground := Ground.guard }], guard := some (53, true) }) (v := .int .u8 (m.a : Int)) (by kernel_rfl) (by kernel_rfl) (by kernel_rfl) (by kernel_rfl) (fun _ _ _ h => h) (by kernel_rfl) (fun w hSw => by (have hc := ((m9.below hSw m9.lt).cell 0).trans gm0; go_simp)) hS13 ?_
  refine wpAnyH_pure (i := 63) (o := { dst := some 112, op := Op.build 22 #[(0, Operand.tmp 105), (1, Operand.tmp 107), (2, Operand.tmp 109), (3, Operand.tmp 111)], type := 22, pos := "law.go:41", after := #[{ on := 56, ground := Ground.data }, { on := 58, ground := Ground.data }, { on := 60, ground := Ground.data }, { on := 62, ground := Ground.data }, { on := 53, ground := Ground.guard }], guard := some (53, true) }) (v := .agg #[.int .u8 (m.b : Int), .int .u8 (m.c : Int), .int .u8 (m.d : Int), .int .u8 (m.a : Int)]) (by kernel_rfl) (by kernel_rfl) (by kernel_rfl) (by kernel_rfl) (fun _ _ _ h => h) (by kernel_rfl) (fun w _ => by kernel_rfl) hS13 ?_
  refine wpAnyH_pure (i := 64) (o := { dst := some 113, op := Op.binOp BinOp.eql 22 (Operand.tmp 103) (Operand.tmp 112) 22, type := 4, pos := "law.go:41", after := #[{ on := 54, ground := Ground.data }, { on := 63, ground := Ground.data }, { on := 53, ground := Ground.guard }], guard := some (53, true) }) (v := .bool true) (by kernel_rfl) (by kernel_rfl) (by kernel_rfl) (by kernel_rfl) (fun _ _ _ h => h) (by kernel_rfl) (fun w hSw => by go_simp) hS13 ?_
  refine wpAnyH_pure (i := 65) (o := { dst := some 114, op := Op.pick (Operand.tmp 102) (Operand.tmp 113) (Operand.const (Value.bool false)), type := 4, pos := "law.go:41", after := #[{ on := 53, ground := Ground.data }, { on := 64, ground := Ground.data }], guard := none }) (v := .bool true) (by kernel_rfl) (by kernel_rfl) (by kernel_rfl) (by kernel_rfl) (fun _ _ _ h => h) (by kernel_rfl) (fun w _ => by kernel_rfl) hS13 ?_
  refine wpAnyH_pure (i := 66) (o := { dst := some 6, op := Op.assign (Operand.tmp 114), type := 4, pos := "law.go:41", after := ([{ on := 65, ground := Ground.data }, { on := 53, ground := Ground.chain }, { on := 0, ground := Ground.phase }, { on := 1, ground := Ground.phase }, { on := 2, ground := Ground.phase }, { on := 3, ground := Ground.phase }, { on := 4, ground := Ground.phase }, { on := 5, ground := Ground.phase }, { on := 6, ground := Ground.phase }, { on := 7, ground := Ground.phase }, { on := 8, ground := Ground.phase }, { on := 9, ground := Ground.phase }, { on := 10, ground := Ground.phase }, { on := 11, ground := Ground.phase }, { on := 12, ground := Ground.phase }, { on := 13, ground := Ground.phase }, { on := 14, ground := Ground.phase }, { on := 15, ground := Ground.phase }, { on := 16, ground := Ground.phase }, { on := 17, ground := Ground.phase }, { on := 18, ground := Ground.phase }, { on := 19, ground := Ground.phase }, { on := 20, ground := Ground.phase }, { on := 21, ground := Ground.phase }, { on := 22, ground := Ground.phase }, { on := 23, ground := Ground.phase }, { on := 24, ground := Ground.phase }, { on := 25, ground := Ground.phase }, { on := 26, ground := Ground.phase }, { on := 27, ground := Ground.phase }, { on := 28, ground := Ground.phase }, { on := 29, ground := Ground.phase }, { on := 30, ground := Ground.phase }, { on := 31, ground := Ground.phase }].append [{ on := 32, ground := Ground.phase }, { on := 33, ground := Ground.phase }, { on := 34, ground := Ground.phase }, { on := 35, ground := Ground.phase }, { on := 36, ground := Ground.phase }, { on := 37, ground := Ground.phase }, { on := 38, ground := Ground.phase }, { on := 39, ground := Ground.phase }, { on := 40, ground := Ground.phase }, { on := 41, ground := Ground.phase }, { on := 42, ground := Ground.phase }, { on := 43, ground := Ground.phase }, { on := 44, ground := Ground.phase }, { on := 45, ground := Ground.phase }, { on := 46, ground := Ground.phase }, { on := 47, ground := Ground.phase }, { on := 48, ground := Ground.phase }, { on := 49, ground := Ground.phase }, { on := 50, ground := Ground.phase }, { on := 51, ground := Ground.phase }, { on := 52, ground := Ground.phase }, { on := 53, ground := Ground.phase }, { on := 54, ground := Ground.phase }, { on := 55, ground := Ground.phase }, { on := 56, ground := Ground.phase }, { on := 57, ground := Ground.phase }, { on := 58, ground := Ground.phase }, { on := 59, ground := Ground.phase }, { on := 60, ground := Ground.phase }, { on := 61, ground := Ground.phase }, { on := 62, ground := Ground.phase }, { on := 63, ground := Ground.phase }, { on := 64, ground := Ground.phase }, { on := 65, ground := Ground.phase }]).toArray, guard := none }) (v := .bool true) (by kernel_rfl) (by kernel_rfl) (by kernel_rfl) (by kernel_rfl) (fun _ _ _ h => h) (by kernel_rfl) (fun w _ => by kernel_rfl) hS13 ?_
  refine wpAnyH_last (k := 6) (v := .bool true) (by kernel_rfl) (by kernel_rfl) (by kernel_rfl) (fun T hT => ?_)
  have c14 := c9.below hS13 c9.lt
  have d14 := d9.below hS13 d9.lt
  have m14 := m9.below hS13 m9.lt
  have n14 := n9.below hS13 n9.lt
  have s14 := s9.below hS13 s9.lt
  have t14 := t9.below hS13 t9.lt
  have hB14 : Below w.heap.size w v13 := hB9.trans (hS13.mono hB9.size)
  go_wp2
  go_ret
  exact ⟨congrArg Ending.returned hT, hB14⟩

theorem fmixes_walk (x y : C4) (z : Int) (w : World) (hx : x.Ok) (hy : y.Ok) (hz : 0 ≤ z ∧ z ≤ 255) :
    Calls Try.prog 6 #[.agg x.arr, .agg y.arr, .int .u8 z] w fun e w' => e = .returned (.bool true) ∧ Below w.heap.size w w' := by
  obtain ⟨a, rfl⟩ := Int.eq_ofNat_of_zero_le hz.1
  exact fmixes_nat x y a w hx hy (by omega)
end Go.Proofs.Ytnolfoefkkjmpaa
