/-
  FieldTurns: the walk of the statement's function.
-/
import Derived.Test.YtnolfoefkkjmpaaLawFBack
namespace Go.Proofs.Ytnolfoefkkjmpaa
open Go.RowKit

def C4.l (x : C4) : List Value := [.int .u8 (x.a : Int), .int .u8 (x.b : Int), .int .u8 (x.c : Int), .int .u8 (x.d : Int)]
theorem C4.l_arr (x : C4) : x.l.toArray = x.arr := rfl
theorem C4.l_one (x : C4) : x.l.toArray.all (·.oneCell') = true := C4.arr_one x
theorem C4.l_size (x : C4) : (Try.prog.info? 22).map (·.size) = some x.l.length := by kernel_rfl
theorem rangeB {W W' : World} {b : Nat} {cs : List Value} {B : Nat} (h : W.rangeAt b 0 cs) (hb : Below B W W') (hB : b < B) : W'.rangeAt b 0 cs := fun j v hv =>
  (hb.cell (p := ⟨b, 0 + j, none⟩) hB).trans (h j v hv)
theorem rangeL {W : World} {b : Nat} {t : TypeId} {L : List Value} (h : Is W b t L.toArray) : W.rangeAt b 0 L := fun j v hv => by
  rw [Nat.zero_add, h.cell]
  simpa using hv
/-- a list's row, as one more thing that is told of it. -/
structure RowL (L : List Value) : Prop where
  one : L.toArray.all (·.oneCell') = true
  size : (Try.prog.info? 22).map (·.size) = some L.length
  four : L.length = 4
  same : ∀ w, (Op.equalIn 10000 22 (.agg L.toArray) (.agg L.toArray)).run Try.prog w = .ok true w
theorem C4.row (x : C4) : RowL x.l := ⟨C4.l_one x, C4.l_size x, rfl, eqIn4_self x⟩
theorem RowL.arr {L : List Value} (h : RowL L) : (Try.prog.info? 22).map (·.size) = some L.toArray.size := by rw [List.size_toArray]; exact h.size

theorem RowL.old {L : List Value} (h : RowL L) {c : Array Value} (hc : c.size = 4) : c.size = L.toArray.size := by rw [hc, List.size_toArray, h.four]

set_option maxRecDepth 100000 in
set_option maxHeartbeats 2000000 in
theorem fturns_walk (x : C4) (w : World) (h : x.Ok) :
    Calls Try.prog 8 #[.agg x.arr] w fun e w' => e = .returned (.bool true) ∧ Below w.heap.size w w' := by
  have h1 := mixC_ok h
  have h2 := mixC_ok h1
  have h3 := mixC_ok h2
  have m1 := fun w => mix_any x w h
  have m2 := fun w => mix_any _ w h1
  have m3 := fun w => mix_any _ w h2
  have m4 := fun w => mix_any _ w h3
  rw [mixC_4 h] at m4
  have u1 : ∀ w, Calls Try.prog 21 #[.agg x.arr] w fun e w' => e = .returned (.agg (mixC (mixC (mixC x))).arr) ∧ Below w.heap.size w w' := fun w => unmix_any x w h
  have u2 := fun w => unmix_any _ w h3
  have e2 : unC (mixC (mixC (mixC x))) = mixC (mixC x) := by
    unfold unC
    rw [mixC_4 h]
  rw [e2] at u2
  rw [← C4.l_arr] at m1 m2 m3 m4 u1 u2 ⊢
  rw [← C4.l_arr] at m1 m2 m3 m4 u1 u2
  have rc := C4.row x
  have ra := C4.row (mixC x)
  have rb := C4.row (mixC (mixC x))
  have rd := C4.row (mixC (mixC (mixC x)))
  generalize (mixC (mixC (mixC x))).l = Ld at *
  generalize (mixC (mixC x)).l = Lb at *
  generalize (mixC x).l = La at *
  generalize x.l = Lc at *
  clear h h1 h2 h3 e2
  have sc := rc.same
  have sb := rb.same
  have sd := rd.same
  have M1 := Lib.hid m1
  have M2 := Lib.hid m2
  have M3 := Lib.hid m3
  have M4 := Lib.hid m4
  have U1 := Lib.hid u1
  have U2 := Lib.hid u2
  have RC := Lib.hid rc
  have RA := Lib.hid ra
  have RB := Lib.hid rb
  have RD := Lib.hid rd
  clear m1 m2 m3 m4 u1 u2 rc ra rb rd
  go_enter Try.func8, Try.ntmps8
  have i0 : Is (w.alloc (.cells Lc.toArray 22)) w.heap.size 22 Lc.toArray := Is.new w _ _
  have hB0 : Below w.heap.size w (w.alloc (.cells Lc.toArray 22)) := (Below.refl _ _).alloc (Nat.le_refl _) _
  go_wp2_with fail
  refine (awake3_any _).mono ?_
  rintro e w1 ⟨rfl, hb⟩
  have c1 : Is w1 w.heap.size 22 Lc.toArray := i0.below hb i0.lt
  have hB1 : Below w.heap.size w w1 := hB0.trans (hb.mono hB0.size)
  clear hb i0 hB0
  go_wp2_with (refine wpList_load_row rfl 22 _ rfl _ rfl _ _ _ _ c1 Try.underlying22 rfl RC.out.arr ?_)
  refine (M1.out _).mono ?_
  rintro e v2 ⟨rfl, hb⟩
  have c2 := c1.below hb c1.lt
  have hB2 : Below w.heap.size w v2 := hB1.trans (hb.mono hB1.size)
  clear hb c1 hB1
  go_wp2_with (first
    | (refine wpList_store_row rfl 22 _ _ rfl v2.heap.size La.toArray rfl rfl _ _ (heap_alloc_new v2 _) RA.out.arr (RA.out.old rfl) RA.out.one ?_; rw [World.setRow_alloc_new]; have c3 := c2.alloc (.cells La.toArray 22); have a3 : Is (v2.alloc (.cells La.toArray 22)) v2.heap.size 22 La.toArray := Is.new v2 _ _; have hB3 : Below w.heap.size w (v2.alloc (.cells La.toArray 22)) := hB2.alloc hB2.size _; generalize (v2.alloc (.cells La.toArray 22)) = v3 at *)
    | (refine wpList_load_row rfl 22 _ rfl _ rfl _ _ _ _ a3 Try.underlying22 rfl RA.out.arr ?_))
  refine (M2.out _).mono ?_
  rintro e v4 ⟨rfl, hb⟩
  have c4 := c3.below hb c3.lt
  have a4 := a3.below hb a3.lt
  have hB4 : Below w.heap.size w v4 := hB3.trans (hb.mono hB3.size)
  clear hb c3 a3 hB3
  go_wp2_with (first
    | (refine wpList_store_row rfl 22 _ _ rfl v4.heap.size Lb.toArray rfl rfl _ _ (heap_alloc_new v4 _) RB.out.arr (RB.out.old rfl) RB.out.one ?_; rw [World.setRow_alloc_new]; have c5 := c4.alloc (.cells Lb.toArray 22); have a5 := a4.alloc (.cells Lb.toArray 22); have b5 : Is (v4.alloc (.cells Lb.toArray 22)) v4.heap.size 22 Lb.toArray := Is.new v4 _ _; have hB5 : Below w.heap.size w (v4.alloc (.cells Lb.toArray 22)) := hB4.alloc hB4.size _; generalize (v4.alloc (.cells Lb.toArray 22)) = v5 at *)
    | (refine wpList_load_row rfl 22 _ rfl _ rfl _ _ _ _ b5 Try.underlying22 rfl RB.out.arr ?_))
  refine (M3.out _).mono ?_
  rintro e v6 ⟨rfl, hb⟩
  have c6 := c5.below hb c5.lt
  have a6 := a5.below hb a5.lt
  have b6 := b5.below hb b5.lt
  have hB6 : Below w.heap.size w v6 := hB5.trans (hb.mono hB5.size)
  clear hb c5 a5 b5 hB5
  go_wp2_with (refine wpList_store_row rfl 22 _ _ rfl v6.heap.size Ld.toArray rfl rfl _ _ (heap_alloc_new v6 _) RD.out.arr (RD.out.old rfl) RD.out.one ?_; rw [World.setRow_alloc_new]; have c7 := c6.alloc (.cells Ld.toArray 22); have a7 := a6.alloc (.cells Ld.toArray 22); have b7 := b6.alloc (.cells Ld.toArray 22); have d7 : Is (v6.alloc (.cells Ld.toArray 22)) v6.heap.size 22 Ld.toArray := Is.new v6 _ _; have hB7 : Below w.heap.size w (v6.alloc (.cells Ld.toArray 22)) := hB6.alloc hB6.size _; generalize (v6.alloc (.cells Ld.toArray 22)) = v7 at *)
  refine wp_region_held_drew (S := fun W => Below v7.heap.size v7 W) (by kernel_rfl) (belowN (Below.refl _ _) 1) (fun hS => ?_)
  refine wpAnyH_take (i := 0) (v := .bool true) rfl (by kernel_rfl) (by kernel_rfl) (by kernel_rfl) (fun _ _ _ h => h) (Or.inl ⟨by rfl, fun w hSw => by go_simp⟩) hS ?_
  simp only [Act.put]
  refine wpAnyH_take (i := 1) (v := .bool true) rfl (by kernel_rfl) (by kernel_rfl) (by kernel_rfl) (fun _ _ _ h => h) (Or.inl ⟨by rfl, fun w hSw => by go_simp⟩) hS ?_
  simp only [Act.put]
  refine wpAnyH_take (i := 2) rfl (by kernel_rfl) (by kernel_rfl) (by kernel_rfl) (fun _ _ _ h => h) (yieldsIf_load_mid (by rfl) _ _ rfl _ _ rfl Ld _ (fun w h => rangeL (d7.below h d7.lt)) Try.underlying22 rfl RD.out.size) hS ?_
  simp only [Act.put]
  refine wpAnyH_take (i := 4) rfl (by kernel_rfl) (by kernel_rfl) (by kernel_rfl) (fun _ _ _ h => h) (yieldsIf_load_mid (by rfl) _ _ rfl _ _ rfl Lc _ (fun w h => rangeL (c7.below h c7.lt)) Try.underlying22 rfl RC.out.size) hS ?_
  simp only [Act.put]
  refine wpAnyH_next (i := 3) (by kernel_rfl) rfl (fun Kc hKc => ?_)
  go_simp
  go_at_call 19
  refine (M4.out _).mono ?_
  rintro e v8 ⟨rfl, hb⟩
  have hS8 : Below v7.heap.size v7 v8 := hS.trans (hb.mono hS.size)
  clear hb
  refine hKc.out _ _ hS8 (fun _ => ?_)
  clear hKc Kc
  try simp only [Act.put]
  refine wpAnyH_next (i := 5) (by kernel_rfl) rfl (fun Kc hKc => ?_)
  go_simp
  refine hKc.out _ _ hS8 (fun _ => ?_)
  clear hKc Kc
  try simp only [Act.put]
  refine wpAnyH_next (i := 6) (by kernel_rfl) rfl (fun Kc hKc => ?_)
  go_simp
  refine hKc.out _ _ hS8 (fun _ => ?_)
  clear hKc Kc
  try simp only [Act.put]
  refine wpAnyH_next (i := 7) (by kernel_rfl) rfl (fun Kc hKc => ?_)
  go_simp
  refine hKc.out _ _ hS8 (fun _ => ?_)
  clear hKc Kc
  try simp only [Act.put]
  refine wpAnyH_take (i := 8) rfl (by kernel_rfl) (by kernel_rfl) (by kernel_rfl) (fun _ _ _ h => h) (yieldsIf_load_mid (by rfl) _ _ rfl _ _ rfl Lc _ (fun w h => rangeL (c7.below h c7.lt)) Try.underlying22 rfl RC.out.size) hS8 ?_
  simp only [Act.put]
  refine wpAnyH_take (i := 10) rfl (by kernel_rfl) (by kernel_rfl) (by kernel_rfl) (fun _ _ _ h => h) (yieldsIf_load_mid (by rfl) _ _ rfl _ _ rfl Ld _ (fun w h => rangeL (d7.below h d7.lt)) Try.underlying22 rfl RD.out.size) hS8 ?_
  simp only [Act.put]
  refine wpAnyH_next (i := 9) (by kernel_rfl) rfl (fun Kc hKc => ?_)
  go_simp
  go_at_call 21
  refine (U1.out _).mono ?_
  rintro e v9 ⟨rfl, hb⟩
  have hS9 : Below v7.heap.size v7 v9 := hS8.trans (hb.mono hS8.size)
  clear hb
  refine hKc.out _ _ hS9 (fun _ => ?_)
  clear hKc Kc
  try simp only [Act.put]
  refine wpAnyH_next (i := 11) (by kernel_rfl) rfl (fun Kc hKc => ?_)
  go_simp
  refine hKc.out _ _ hS9 (fun _ => ?_)
  clear hKc Kc
  try simp only [Act.put]
  refine wpAnyH_next (i := 12) (by kernel_rfl) rfl (fun Kc hKc => ?_)
  go_simp
  refine hKc.out _ _ hS9 (fun _ => ?_)
  clear hKc Kc
  try simp only [Act.put]
  refine wpAnyH_next (i := 13) (by kernel_rfl) rfl (fun Kc hKc => ?_)
  go_simp
  refine hKc.out _ _ hS9 (fun _ => ?_)
  clear hKc Kc
  try simp only [Act.put]
  refine wpAnyH_take (i := 14) rfl (by kernel_rfl) (by kernel_rfl) (by kernel_rfl) (fun _ _ _ h => h) (yieldsIf_load_mid (by rfl) _ _ rfl _ _ rfl Lc _ (fun w h => rangeL (c7.below h c7.lt)) Try.underlying22 rfl RC.out.size) hS9 ?_
  simp only [Act.put]
  refine wpAnyH_take (i := 17) rfl (by kernel_rfl) (by kernel_rfl) (by kernel_rfl) (fun _ _ _ h => h) (yieldsIf_load_mid (by rfl) _ _ rfl _ _ rfl Lb _ (fun w h => rangeL (b7.below h b7.lt)) Try.underlying22 rfl RB.out.size) hS9 ?_
  simp only [Act.put]
  refine wpAnyH_next (i := 15) (by kernel_rfl) rfl (fun Kc hKc => ?_)
  go_simp
  go_at_call 21
  refine (U1.out _).mono ?_
  rintro e v10 ⟨rfl, hb⟩
  have hS10 : Below v7.heap.size v7 v10 := hS9.trans (hb.mono hS9.size)
  clear hb
  refine hKc.out _ _ hS10 (fun _ => ?_)
  clear hKc Kc
  try simp only [Act.put]
  refine wpAnyH_next (i := 16) (by kernel_rfl) rfl (fun Kc hKc => ?_)
  go_simp
  go_at_call 21
  refine (U2.out _).mono ?_
  rintro e v11 ⟨rfl, hb⟩
  have hS11 : Below v7.heap.size v7 v11 := hS10.trans (hb.mono hS10.size)
  clear hb
  refine hKc.out _ _ hS11 (fun _ => ?_)
  clear hKc Kc
  try simp only [Act.put]
  refine wpAnyH_next (i := 18) (by kernel_rfl) rfl (fun Kc hKc => ?_)
  go_simp
  refine hKc.out _ _ hS11 (fun _ => ?_)
  clear hKc Kc
  try simp only [Act.put]
  refine wpAnyH_next (i := 19) (by kernel_rfl) rfl (fun Kc hKc => ?_)
  go_simp
  refine hKc.out _ _ hS11 (fun _ => ?_)
  clear hKc Kc
  try simp only [Act.put]
  refine wpAnyH_next (i := 20) (by kernel_rfl) rfl (fun Kc hKc => ?_)
  go_simp
  refine hKc.out _ _ hS11 (fun _ => ?_)
  clear hKc Kc
  try simp only [Act.put]
  refine wpAnyH_done (by kernel_rfl) ?_ _
  have c12 := c7.below hS11 c7.lt
  have a12 := a7.below hS11 a7.lt
  have b12 := b7.below hS11 b7.lt
  have d12 := d7.below hS11 d7.lt
  have hB12 : Below w.heap.size w v11 := hB7.trans (hS11.mono hB7.size)
  go_wp2
  go_ret
  exact ⟨rfl, hB12⟩
end Go.Proofs.Ytnolfoefkkjmpaa
