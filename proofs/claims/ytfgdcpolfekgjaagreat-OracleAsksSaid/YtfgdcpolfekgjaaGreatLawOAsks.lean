/-
  OracleAsks: the walk of the statement's function.
-/
import Derived.Test.YtfgdcpolfekgjaaGreatGOr2
import Derived.Lib.MinMax
namespace Go.Proofs.YtfgdcpolfekgjaaGreat
open Go.RowKit Go.Shelf

theorem infoTwo9 : (Tryz.prog.info? 42).map (·.size) = some 2 := by kernel_rfl
theorem run_allocA9 (W : World) {o : Oper} {a : Act} (ho : o.op = .alloc 42) : (execOp a.eval o).run Tryz.prog W = .ok (.value (.pointer (some ⟨W.heap.size, 0, none⟩))) (W.alloc (.cells #[.int .i64 0, .int .i64 0] 42)) := by
  simp only [execOp, ho]
  go_simp
theorem eqA9 (a b c d : Int) (w : World) : (Op.equalIn 10000 42 (.agg #[.int .i64 a, .int .i64 b]) (.agg #[.int .i64 c, .int .i64 d])).run Tryz.prog w = .ok (decide ((a, b) = (c, d))) w := by
  have h5 : ∀ x y : Int, (Op.equalIn 9999 3 (.int .i64 x) (.int .i64 y)).run Tryz.prog w = .ok (x == y) w := fun x y => by
    have := run_equalIn_int (P := Tryz.prog) (w := w) 9998 3 .i64 .i64 x y Tryz.underlying3
    simpa using this
  show (Op.equalIn (9999 + 1) 42 _ _).run Tryz.prog w = _
  unfold Op.equalIn
  rw [Sem.run_bind, run_underlying Tryz.underlying42]
  simp only [Result.andThen]
  simp [List.range', go_sem, h5]
  by_cases h1 : a = c
  · by_cases h2 : b = d
    · simp [h1, h2]
    · simp [h1, h2]
  · simp [h1]

set_option maxRecDepth 100000 in
set_option maxHeartbeats 8000000 in
theorem asks9_one (W0 : World) (n0 n1 p q : Int) (DN : Nat) (iN : Is W0 DN 42 #[.int .i64 n0, .int .i64 n1])
    (P0 : Hid (∀ W, Calls Tryz.prog 11 #[.int .i64 n0, .int .i64 1000001] W fun e w' => e = .returned (.int .i64 p) ∧ W = w')) (P1 : Hid (∀ W, Calls Tryz.prog 11 #[.int .i64 n1, .int .i64 1000001] W fun e w' => e = .returned (.int .i64 q) ∧ W = w')) (x0 x1 x2 x3 x4 x5 x7 x8 x9 x10 x11 x12 x13 x14 x15 x16 x17 x18 x19 x20 x21 x22 x23 x24 x25 x26 x27 x28 x29 x30 x31 x32 x33 x34 x35 x36 x37 x38 x39 x40 x41 x42 x43 x44 x45 x46 x47 x48 x49 x50 x51 x52 x53 x54 x55 x56 x57 x58 x59 x60 x61 x62 x63 x64 x65 x66 x67 x68 x69 x70 x71 x72 x73 x74 x75 x76 x77 x78 x79 x80 x81 x82 x83 x84 x85 x86 x87 x88 x89 x90 x91 : Value) :
    (Code.region 4 (opsOf Tryz.f4 4) true).wp Tryz.prog (fun ex YY W => ex = .normal ∧ YY.defers = [] ∧ ∃ (DD : Nat), YY.tmps = #[x0, x1, x2, x3, x4, x5, .pointer (some ⟨DN, 0, none⟩), x7, x8, x9, x10, x11, .pointer (some ⟨DD, 0, none⟩), x13, x14, x15, x16, x17, x18, x19, x20, x21, x22, x23, x24, x25, x26, x27, x28, .pointer (some ⟨DN, 0, none⟩), .int .i64 n0, .int .i64 p, .pointer (some ⟨DN, 1, none⟩), .int .i64 n1, .int .i64 q, .agg #[.int .i64 p, .int .i64 q], x36, x37, x38, x39, x40, x41, x42, x43, x44, x45, x46, x47, x48, x49, x50, x51, x52, x53, x54, x55, x56, x57, x58, x59, x60, x61, x62, x63, x64, x65, x66, x67, x68, x69, x70, x71, x72, x73, x74, x75, x76, x77, x78, x79, x80, x81, x82, x83, x84, x85, x86, x87, x88, x89, x90, x91] ∧ Below W0.heap.size W0 W ∧ W0.heap.size ≤ DD ∧ Is W DD 42 #[.int .i64 p, .int .i64 q]) { tmps := #[x0, x1, x2, x3, x4, x5, .pointer (some ⟨DN, 0, none⟩), x7, x8, x9, x10, x11, x12, x13, x14, x15, x16, x17, x18, x19, x20, x21, x22, x23, x24, x25, x26, x27, x28, x29, x30, x31, x32, x33, x34, x35, x36, x37, x38, x39, x40, x41, x42, x43, x44, x45, x46, x47, x48, x49, x50, x51, x52, x53, x54, x55, x56, x57, x58, x59, x60, x61, x62, x63, x64, x65, x66, x67, x68, x69, x70, x71, x72, x73, x74, x75, x76, x77, x78, x79, x80, x81, x82, x83, x84, x85, x86, x87, x88, x89, x90, x91], defers := [] } W0 := by
  have HN0 := Lib.hid (fun (W : World) (hb : Below W0.heap.size W0 W) => (hb.cell (p := ⟨DN, 0, none⟩) iN.lt).trans (iN.cell 0))
  have HN1 := Lib.hid (fun (W : World) (hb : Below W0.heap.size W0 W) => (hb.cell (p := ⟨DN, 1, none⟩) iN.lt).trans (iN.cell 1))
  have hB : Below W0.heap.size W0 (W0.drewN 1) := belowN (Below.refl _ _) 1
  generalize hQ : (fun (ex : Exit) (YY : Act) (W : World) => ex = .normal ∧ YY.defers = [] ∧ ∃ (DD : Nat), YY.tmps = #[x0, x1, x2, x3, x4, x5, .pointer (some ⟨DN, 0, none⟩), x7, x8, x9, x10, x11, .pointer (some ⟨DD, 0, none⟩), x13, x14, x15, x16, x17, x18, x19, x20, x21, x22, x23, x24, x25, x26, x27, x28, .pointer (some ⟨DN, 0, none⟩), .int .i64 n0, .int .i64 p, .pointer (some ⟨DN, 1, none⟩), .int .i64 n1, .int .i64 q, .agg #[.int .i64 p, .int .i64 q], x36, x37, x38, x39, x40, x41, x42, x43, x44, x45, x46, x47, x48, x49, x50, x51, x52, x53, x54, x55, x56, x57, x58, x59, x60, x61, x62, x63, x64, x65, x66, x67, x68, x69, x70, x71, x72, x73, x74, x75, x76, x77, x78, x79, x80, x81, x82, x83, x84, x85, x86, x87, x88, x89, x90, x91] ∧ Below W0.heap.size W0 W ∧ W0.heap.size ≤ DD ∧ Is W DD 42 #[.int .i64 p, .int .i64 q]) = Q
  have HQN : ∀ c a W, ¬ Q (.panic c) a W := fun c a W h => by subst hQ; exact nomatch h.1
  have ST2_5_7_8 : ∀ (W : World) (DD : Nat), Below W0.heap.size W0 W → W0.heap.size ≤ DD → Is W DD 42 #[.int .i64 p, .int .i64 q] → wpAnyH Tryz.prog .any (opsOf Tryz.f4 4) Q (fun W => Below W0.heap.size W0 W) 0 #[true, true, true, true, true, true, true, true, true] { tmps := #[x0, x1, x2, x3, x4, x5, .pointer (some ⟨DN, 0, none⟩), x7, x8, x9, x10, x11, .pointer (some ⟨DD, 0, none⟩), x13, x14, x15, x16, x17, x18, x19, x20, x21, x22, x23, x24, x25, x26, x27, x28, .pointer (some ⟨DN, 0, none⟩), .int .i64 n0, .int .i64 p, .pointer (some ⟨DN, 1, none⟩), .int .i64 n1, .int .i64 q, .agg #[.int .i64 p, .int .i64 q], x36, x37, x38, x39, x40, x41, x42, x43, x44, x45, x46, x47, x48, x49, x50, x51, x52, x53, x54, x55, x56, x57, x58, x59, x60, x61, x62, x63, x64, x65, x66, x67, x68, x69, x70, x71, x72, x73, x74, x75, x76, x77, x78, x79, x80, x81, x82, x83, x84, x85, x86, x87, x88, x89, x90, x91], defers := [] } W := by
    intro W DD hB hDD iE
    refine wpAnyH_done (by kernel_rfl) ?_ _
    subst hQ
    exact ⟨rfl, rfl, DD, rfl, hB, hDD, iE⟩
  have ST2_5_7 : ∀ (W : World) (DD : Nat), Below W0.heap.size W0 W → W0.heap.size ≤ DD → Is W DD 42 #[.int .i64 0, .int .i64 0] → wpAnyH Tryz.prog .any (opsOf Tryz.f4 4) Q (fun W => Below W0.heap.size W0 W) 1 #[true, true, true, true, true, true, true, true, false] { tmps := #[x0, x1, x2, x3, x4, x5, .pointer (some ⟨DN, 0, none⟩), x7, x8, x9, x10, x11, .pointer (some ⟨DD, 0, none⟩), x13, x14, x15, x16, x17, x18, x19, x20, x21, x22, x23, x24, x25, x26, x27, x28, .pointer (some ⟨DN, 0, none⟩), .int .i64 n0, .int .i64 p, .pointer (some ⟨DN, 1, none⟩), .int .i64 n1, .int .i64 q, .agg #[.int .i64 p, .int .i64 q], x36, x37, x38, x39, x40, x41, x42, x43, x44, x45, x46, x47, x48, x49, x50, x51, x52, x53, x54, x55, x56, x57, x58, x59, x60, x61, x62, x63, x64, x65, x66, x67, x68, x69, x70, x71, x72, x73, x74, x75, x76, x77, x78, x79, x80, x81, x82, x83, x84, x85, x86, x87, x88, x89, x90, x91], defers := [] } W := by
    intro W DD hB hDD iD
    refine wpAnyH_ready (by kernel_rfl) (by simp) (AllReadyH.cons (i := 8) (at_nth rfl) ?_ (AllReadyH.nil))
    · have kB := belowRow hB hDD #[.int .i64 p, .int .i64 q]
      refine arm9_skip (by kernel_rfl) (run_row9 (ty := 42) (x := .tmp 12) (y := .tmp 35) (cs := #[.int .i64 p, .int .i64 q]) (by kernel_rfl) (by kernel_rfl) (by kernel_rfl) iD infoTwo9 rfl (by rw [← Array.all_toList]; rfl)) kB ?_
      try simp only [Act.put]
      have iE := iD.row #[.int .i64 p, .int .i64 q]
      replace hB := kB
      exact ST2_5_7_8 _ _ hB hDD iE
  have ST2_5 : ∀ (W : World), Below W0.heap.size W0 W → wpAnyH Tryz.prog .any (opsOf Tryz.f4 4) Q (fun W => Below W0.heap.size W0 W) 2 #[true, true, true, true, true, true, true, false, false] { tmps := #[x0, x1, x2, x3, x4, x5, .pointer (some ⟨DN, 0, none⟩), x7, x8, x9, x10, x11, x12, x13, x14, x15, x16, x17, x18, x19, x20, x21, x22, x23, x24, x25, x26, x27, x28, .pointer (some ⟨DN, 0, none⟩), .int .i64 n0, .int .i64 p, .pointer (some ⟨DN, 1, none⟩), .int .i64 n1, .int .i64 q, .agg #[.int .i64 p, .int .i64 q], x36, x37, x38, x39, x40, x41, x42, x43, x44, x45, x46, x47, x48, x49, x50, x51, x52, x53, x54, x55, x56, x57, x58, x59, x60, x61, x62, x63, x64, x65, x66, x67, x68, x69, x70, x71, x72, x73, x74, x75, x76, x77, x78, x79, x80, x81, x82, x83, x84, x85, x86, x87, x88, x89, x90, x91], defers := [] } W := by
    intro W hB
    refine wpAnyH_ready (by kernel_rfl) (by simp) (AllReadyH.cons (i := 7) (at_nth rfl) ?_ (AllReadyH.nil))
    · have iD := Is.new W 42 #[.int .i64 0, .int .i64 0]
      have hDD : W0.heap.size ≤ W.heap.size := hB.size
      replace hB := hB.alloc hB.size (.cells #[.int .i64 0, .int .i64 0] 42)
      refine arm9_value (by kernel_rfl) (run_allocA9 _ (by kernel_rfl)) hB ?_
      simp only [Act.put, List.setIfInBounds_toArray, List.set_cons_succ, List.set_cons_zero]
      exact ST2_5_7 _ _ hB hDD iD
  have ST2_7 : ∀ (W : World) (DD : Nat), Below W0.heap.size W0 W → W0.heap.size ≤ DD → Is W DD 42 #[.int .i64 0, .int .i64 0] → wpAnyH Tryz.prog .any (opsOf Tryz.f4 4) Q (fun W => Below W0.heap.size W0 W) 3 #[true, true, true, true, true, false, false, true, false] { tmps := #[x0, x1, x2, x3, x4, x5, .pointer (some ⟨DN, 0, none⟩), x7, x8, x9, x10, x11, .pointer (some ⟨DD, 0, none⟩), x13, x14, x15, x16, x17, x18, x19, x20, x21, x22, x23, x24, x25, x26, x27, x28, .pointer (some ⟨DN, 0, none⟩), .int .i64 n0, .int .i64 p, .pointer (some ⟨DN, 1, none⟩), .int .i64 n1, x34, x35, x36, x37, x38, x39, x40, x41, x42, x43, x44, x45, x46, x47, x48, x49, x50, x51, x52, x53, x54, x55, x56, x57, x58, x59, x60, x61, x62, x63, x64, x65, x66, x67, x68, x69, x70, x71, x72, x73, x74, x75, x76, x77, x78, x79, x80, x81, x82, x83, x84, x85, x86, x87, x88, x89, x90, x91], defers := [] } W := by
    intro W DD hB hDD iD
    refine wpAnyH_ready (by kernel_rfl) (by simp) (AllReadyH.cons (i := 5) (at_nth rfl) ?_ (AllReadyH.nil))
    · refine arm9_call (by kernel_rfl) (fun wy => by kernel_rfl) ((P1.out _).mono ?_)
      rintro e Wn ⟨rfl, rfl⟩
      refine ⟨_, rfl, hB, ?_⟩
      simp only [Act.put, List.setIfInBounds_toArray, List.set_cons_succ, List.set_cons_zero]
      refine wpAnyH_pure (i := 6) (v := .agg #[.int .i64 p, .int .i64 q]) (at_nth rfl) (by kernel_rfl) (by kernel_rfl) (by kernel_rfl) (fun _ _ _ h => absurd h (HQN _ _ _)) (by kernel_rfl) (fun w hSw => by go_simp) hB ?_
      simp only [Act.put, List.setIfInBounds_toArray, List.set_cons_succ, List.set_cons_zero]
      exact ST2_5_7 _ _ hB hDD iD
  have ST2 : ∀ (W : World), Below W0.heap.size W0 W → wpAnyH Tryz.prog .any (opsOf Tryz.f4 4) Q (fun W => Below W0.heap.size W0 W) 4 #[true, true, true, true, true, false, false, false, false] { tmps := #[x0, x1, x2, x3, x4, x5, .pointer (some ⟨DN, 0, none⟩), x7, x8, x9, x10, x11, x12, x13, x14, x15, x16, x17, x18, x19, x20, x21, x22, x23, x24, x25, x26, x27, x28, .pointer (some ⟨DN, 0, none⟩), .int .i64 n0, .int .i64 p, .pointer (some ⟨DN, 1, none⟩), .int .i64 n1, x34, x35, x36, x37, x38, x39, x40, x41, x42, x43, x44, x45, x46, x47, x48, x49, x50, x51, x52, x53, x54, x55, x56, x57, x58, x59, x60, x61, x62, x63, x64, x65, x66, x67, x68, x69, x70, x71, x72, x73, x74, x75, x76, x77, x78, x79, x80, x81, x82, x83, x84, x85, x86, x87, x88, x89, x90, x91], defers := [] } W := by
    intro W hB
    refine wpAnyH_ready (by kernel_rfl) (by simp) (AllReadyH.cons (i := 5) (at_nth rfl) ?_ (AllReadyH.cons (i := 7) (at_nth rfl) ?_ (AllReadyH.nil)))
    · refine arm9_call (by kernel_rfl) (fun wy => by kernel_rfl) ((P1.out _).mono ?_)
      rintro e Wn ⟨rfl, rfl⟩
      refine ⟨_, rfl, hB, ?_⟩
      simp only [Act.put, List.setIfInBounds_toArray, List.set_cons_succ, List.set_cons_zero]
      refine wpAnyH_pure (i := 6) (v := .agg #[.int .i64 p, .int .i64 q]) (at_nth rfl) (by kernel_rfl) (by kernel_rfl) (by kernel_rfl) (fun _ _ _ h => absurd h (HQN _ _ _)) (by kernel_rfl) (fun w hSw => by go_simp) hB ?_
      simp only [Act.put, List.setIfInBounds_toArray, List.set_cons_succ, List.set_cons_zero]
      exact ST2_5 _ hB
    · have iD := Is.new W 42 #[.int .i64 0, .int .i64 0]
      have hDD : W0.heap.size ≤ W.heap.size := hB.size
      replace hB := hB.alloc hB.size (.cells #[.int .i64 0, .int .i64 0] 42)
      refine arm9_value (by kernel_rfl) (run_allocA9 _ (by kernel_rfl)) hB ?_
      simp only [Act.put, List.setIfInBounds_toArray, List.set_cons_succ, List.set_cons_zero]
      exact ST2_7 _ _ hB hDD iD
  have ST7 : ∀ (W : World) (DD : Nat), Below W0.heap.size W0 W → W0.heap.size ≤ DD → Is W DD 42 #[.int .i64 0, .int .i64 0] → wpAnyH Tryz.prog .any (opsOf Tryz.f4 4) Q (fun W => Below W0.heap.size W0 W) 4 #[true, true, false, true, true, false, false, true, false] { tmps := #[x0, x1, x2, x3, x4, x5, .pointer (some ⟨DN, 0, none⟩), x7, x8, x9, x10, x11, .pointer (some ⟨DD, 0, none⟩), x13, x14, x15, x16, x17, x18, x19, x20, x21, x22, x23, x24, x25, x26, x27, x28, .pointer (some ⟨DN, 0, none⟩), .int .i64 n0, x31, .pointer (some ⟨DN, 1, none⟩), .int .i64 n1, x34, x35, x36, x37, x38, x39, x40, x41, x42, x43, x44, x45, x46, x47, x48, x49, x50, x51, x52, x53, x54, x55, x56, x57, x58, x59, x60, x61, x62, x63, x64, x65, x66, x67, x68, x69, x70, x71, x72, x73, x74, x75, x76, x77, x78, x79, x80, x81, x82, x83, x84, x85, x86, x87, x88, x89, x90, x91], defers := [] } W := by
    intro W DD hB hDD iD
    refine wpAnyH_ready (by kernel_rfl) (by simp) (AllReadyH.cons (i := 2) (at_nth rfl) ?_ (AllReadyH.nil))
    · refine arm9_call (by kernel_rfl) (fun wy => by kernel_rfl) ((P0.out _).mono ?_)
      rintro e Wn ⟨rfl, rfl⟩
      refine ⟨_, rfl, hB, ?_⟩
      simp only [Act.put, List.setIfInBounds_toArray, List.set_cons_succ, List.set_cons_zero]
      exact ST2_7 _ _ hB hDD iD
  have ST : ∀ (W : World), Below W0.heap.size W0 W → wpAnyH Tryz.prog .any (opsOf Tryz.f4 4) Q (fun W => Below W0.heap.size W0 W) 5 #[true, true, false, true, true, false, false, false, false] { tmps := #[x0, x1, x2, x3, x4, x5, .pointer (some ⟨DN, 0, none⟩), x7, x8, x9, x10, x11, x12, x13, x14, x15, x16, x17, x18, x19, x20, x21, x22, x23, x24, x25, x26, x27, x28, .pointer (some ⟨DN, 0, none⟩), .int .i64 n0, x31, .pointer (some ⟨DN, 1, none⟩), .int .i64 n1, x34, x35, x36, x37, x38, x39, x40, x41, x42, x43, x44, x45, x46, x47, x48, x49, x50, x51, x52, x53, x54, x55, x56, x57, x58, x59, x60, x61, x62, x63, x64, x65, x66, x67, x68, x69, x70, x71, x72, x73, x74, x75, x76, x77, x78, x79, x80, x81, x82, x83, x84, x85, x86, x87, x88, x89, x90, x91], defers := [] } W := by
    intro W hB
    refine wpAnyH_ready (by kernel_rfl) (by simp) (AllReadyH.cons (i := 2) (at_nth rfl) ?_ (AllReadyH.cons (i := 7) (at_nth rfl) ?_ (AllReadyH.nil)))
    · refine arm9_call (by kernel_rfl) (fun wy => by kernel_rfl) ((P0.out _).mono ?_)
      rintro e Wn ⟨rfl, rfl⟩
      refine ⟨_, rfl, hB, ?_⟩
      simp only [Act.put, List.setIfInBounds_toArray, List.set_cons_succ, List.set_cons_zero]
      exact ST2 _ hB
    · have iD := Is.new W 42 #[.int .i64 0, .int .i64 0]
      have hDD : W0.heap.size ≤ W.heap.size := hB.size
      replace hB := hB.alloc hB.size (.cells #[.int .i64 0, .int .i64 0] 42)
      refine arm9_value (by kernel_rfl) (run_allocA9 _ (by kernel_rfl)) hB ?_
      simp only [Act.put, List.setIfInBounds_toArray, List.set_cons_succ, List.set_cons_zero]
      exact ST7 _ _ hB hDD iD
  refine wp_region_held_drew (S := fun W => Below W0.heap.size W0 W) (by kernel_rfl) hB (fun hS => ?_)
  change wpAnyH _ _ (opsOf Tryz.f4 4) _ _ 9 (Array.replicate 9 false) _ (W0.drewN 1)
  clear hS
  replace hB : Below W0.heap.size W0 (W0.drewN 1) := belowN (Below.refl _ _) 1
  refine wpAnyH_pure (i := 0) (v := .pointer (some ⟨DN, 0, none⟩)) (at_nth rfl) (by kernel_rfl) (by kernel_rfl) (by kernel_rfl) (fun _ _ _ h => absurd h (HQN _ _ _)) (by kernel_rfl) (fun w hSw => by go_simp) hB ?_
  simp only [Act.put, List.setIfInBounds_toArray, List.set_cons_succ, List.set_cons_zero]
  refine wpAnyH_pure (i := 1) (v := .int .i64 n0) (at_nth rfl) (by kernel_rfl) (by kernel_rfl) (by kernel_rfl) (fun _ _ _ h => absurd h (HQN _ _ _)) (by kernel_rfl) (fun w hSw => by (have hc := HN0.out _ hSw; go_simp)) hB ?_
  simp only [Act.put, List.setIfInBounds_toArray, List.set_cons_succ, List.set_cons_zero]
  refine wpAnyH_pure (i := 3) (v := .pointer (some ⟨DN, 1, none⟩)) (at_nth rfl) (by kernel_rfl) (by kernel_rfl) (by kernel_rfl) (fun _ _ _ h => absurd h (HQN _ _ _)) (by kernel_rfl) (fun w hSw => by go_simp) hB ?_
  simp only [Act.put, List.setIfInBounds_toArray, List.set_cons_succ, List.set_cons_zero]
  refine wpAnyH_pure (i := 4) (v := .int .i64 n1) (at_nth rfl) (by kernel_rfl) (by kernel_rfl) (by kernel_rfl) (fun _ _ _ h => absurd h (HQN _ _ _)) (by kernel_rfl) (fun w hSw => by (have hc := HN1.out _ hSw; go_simp)) hB ?_
  simp only [Act.put, List.setIfInBounds_toArray, List.set_cons_succ, List.set_cons_zero]
  exact ST _ hB
set_option maxRecDepth 100000 in
set_option maxHeartbeats 8000000 in
theorem asks9_two (W0 : World) (n0 n1 p q : Int) (DN : Nat) (iN : Is W0 DN 42 #[.int .i64 n0, .int .i64 n1])
    (P0 : Hid (∀ W, Calls Tryz.prog 11 #[.int .i64 n0, .int .i64 1000001] W fun e w' => e = .returned (.int .i64 p) ∧ W = w')) (P1 : Hid (∀ W, Calls Tryz.prog 11 #[.int .i64 n1, .int .i64 1000001] W fun e w' => e = .returned (.int .i64 q) ∧ W = w')) (x0 x1 x2 x3 x4 x5 x6 x8 x9 x10 x11 x12 x13 x14 x15 x16 x17 x18 x19 x20 x21 x22 x23 x24 x25 x26 x27 x28 x29 x30 x31 x32 x33 x34 x35 x36 x37 x38 x39 x40 x41 x42 x43 x44 x45 x46 x47 x48 x49 x50 x51 x52 x53 x54 x55 x56 x57 x58 x59 x60 x61 x62 x63 x64 x65 x66 x67 x68 x69 x70 x71 x72 x73 x74 x75 x76 x77 x78 x79 x80 x81 x82 x83 x84 x85 x86 x87 x88 x89 x90 x91 : Value) :
    (Code.region 5 (opsOf Tryz.f4 5) true).wp Tryz.prog (fun ex YY W => ex = .normal ∧ YY.defers = [] ∧ ∃ (DD : Nat), YY.tmps = #[x0, x1, x2, x3, x4, x5, x6, .pointer (some ⟨DN, 0, none⟩), x8, x9, x10, x11, x12, .pointer (some ⟨DD, 0, none⟩), x14, x15, x16, x17, x18, x19, x20, x21, x22, x23, x24, x25, x26, x27, x28, x29, x30, x31, x32, x33, x34, x35, .pointer (some ⟨DN, 0, none⟩), .int .i64 n0, .int .i64 p, .pointer (some ⟨DN, 1, none⟩), .int .i64 n1, .int .i64 q, .agg #[.int .i64 p, .int .i64 q], x43, x44, x45, x46, x47, x48, x49, x50, x51, x52, x53, x54, x55, x56, x57, x58, x59, x60, x61, x62, x63, x64, x65, x66, x67, x68, x69, x70, x71, x72, x73, x74, x75, x76, x77, x78, x79, x80, x81, x82, x83, x84, x85, x86, x87, x88, x89, x90, x91] ∧ Below W0.heap.size W0 W ∧ W0.heap.size ≤ DD ∧ Is W DD 42 #[.int .i64 p, .int .i64 q]) { tmps := #[x0, x1, x2, x3, x4, x5, x6, .pointer (some ⟨DN, 0, none⟩), x8, x9, x10, x11, x12, x13, x14, x15, x16, x17, x18, x19, x20, x21, x22, x23, x24, x25, x26, x27, x28, x29, x30, x31, x32, x33, x34, x35, x36, x37, x38, x39, x40, x41, x42, x43, x44, x45, x46, x47, x48, x49, x50, x51, x52, x53, x54, x55, x56, x57, x58, x59, x60, x61, x62, x63, x64, x65, x66, x67, x68, x69, x70, x71, x72, x73, x74, x75, x76, x77, x78, x79, x80, x81, x82, x83, x84, x85, x86, x87, x88, x89, x90, x91], defers := [] } W0 := by
  have HN0 := Lib.hid (fun (W : World) (hb : Below W0.heap.size W0 W) => (hb.cell (p := ⟨DN, 0, none⟩) iN.lt).trans (iN.cell 0))
  have HN1 := Lib.hid (fun (W : World) (hb : Below W0.heap.size W0 W) => (hb.cell (p := ⟨DN, 1, none⟩) iN.lt).trans (iN.cell 1))
  have hB : Below W0.heap.size W0 (W0.drewN 1) := belowN (Below.refl _ _) 1
  generalize hQ : (fun (ex : Exit) (YY : Act) (W : World) => ex = .normal ∧ YY.defers = [] ∧ ∃ (DD : Nat), YY.tmps = #[x0, x1, x2, x3, x4, x5, x6, .pointer (some ⟨DN, 0, none⟩), x8, x9, x10, x11, x12, .pointer (some ⟨DD, 0, none⟩), x14, x15, x16, x17, x18, x19, x20, x21, x22, x23, x24, x25, x26, x27, x28, x29, x30, x31, x32, x33, x34, x35, .pointer (some ⟨DN, 0, none⟩), .int .i64 n0, .int .i64 p, .pointer (some ⟨DN, 1, none⟩), .int .i64 n1, .int .i64 q, .agg #[.int .i64 p, .int .i64 q], x43, x44, x45, x46, x47, x48, x49, x50, x51, x52, x53, x54, x55, x56, x57, x58, x59, x60, x61, x62, x63, x64, x65, x66, x67, x68, x69, x70, x71, x72, x73, x74, x75, x76, x77, x78, x79, x80, x81, x82, x83, x84, x85, x86, x87, x88, x89, x90, x91] ∧ Below W0.heap.size W0 W ∧ W0.heap.size ≤ DD ∧ Is W DD 42 #[.int .i64 p, .int .i64 q]) = Q
  have HQN : ∀ c a W, ¬ Q (.panic c) a W := fun c a W h => by subst hQ; exact nomatch h.1
  have ST2_5_7_8 : ∀ (W : World) (DD : Nat), Below W0.heap.size W0 W → W0.heap.size ≤ DD → Is W DD 42 #[.int .i64 p, .int .i64 q] → wpAnyH Tryz.prog .any (opsOf Tryz.f4 5) Q (fun W => Below W0.heap.size W0 W) 0 #[true, true, true, true, true, true, true, true, true] { tmps := #[x0, x1, x2, x3, x4, x5, x6, .pointer (some ⟨DN, 0, none⟩), x8, x9, x10, x11, x12, .pointer (some ⟨DD, 0, none⟩), x14, x15, x16, x17, x18, x19, x20, x21, x22, x23, x24, x25, x26, x27, x28, x29, x30, x31, x32, x33, x34, x35, .pointer (some ⟨DN, 0, none⟩), .int .i64 n0, .int .i64 p, .pointer (some ⟨DN, 1, none⟩), .int .i64 n1, .int .i64 q, .agg #[.int .i64 p, .int .i64 q], x43, x44, x45, x46, x47, x48, x49, x50, x51, x52, x53, x54, x55, x56, x57, x58, x59, x60, x61, x62, x63, x64, x65, x66, x67, x68, x69, x70, x71, x72, x73, x74, x75, x76, x77, x78, x79, x80, x81, x82, x83, x84, x85, x86, x87, x88, x89, x90, x91], defers := [] } W := by
    intro W DD hB hDD iE
    refine wpAnyH_done (by kernel_rfl) ?_ _
    subst hQ
    exact ⟨rfl, rfl, DD, rfl, hB, hDD, iE⟩
  have ST2_5_7 : ∀ (W : World) (DD : Nat), Below W0.heap.size W0 W → W0.heap.size ≤ DD → Is W DD 42 #[.int .i64 0, .int .i64 0] → wpAnyH Tryz.prog .any (opsOf Tryz.f4 5) Q (fun W => Below W0.heap.size W0 W) 1 #[true, true, true, true, true, true, true, true, false] { tmps := #[x0, x1, x2, x3, x4, x5, x6, .pointer (some ⟨DN, 0, none⟩), x8, x9, x10, x11, x12, .pointer (some ⟨DD, 0, none⟩), x14, x15, x16, x17, x18, x19, x20, x21, x22, x23, x24, x25, x26, x27, x28, x29, x30, x31, x32, x33, x34, x35, .pointer (some ⟨DN, 0, none⟩), .int .i64 n0, .int .i64 p, .pointer (some ⟨DN, 1, none⟩), .int .i64 n1, .int .i64 q, .agg #[.int .i64 p, .int .i64 q], x43, x44, x45, x46, x47, x48, x49, x50, x51, x52, x53, x54, x55, x56, x57, x58, x59, x60, x61, x62, x63, x64, x65, x66, x67, x68, x69, x70, x71, x72, x73, x74, x75, x76, x77, x78, x79, x80, x81, x82, x83, x84, x85, x86, x87, x88, x89, x90, x91], defers := [] } W := by
    intro W DD hB hDD iD
    refine wpAnyH_ready (by kernel_rfl) (by simp) (AllReadyH.cons (i := 8) (at_nth rfl) ?_ (AllReadyH.nil))
    · have kB := belowRow hB hDD #[.int .i64 p, .int .i64 q]
      refine arm9_skip (by kernel_rfl) (run_row9 (ty := 42) (x := .tmp 13) (y := .tmp 42) (cs := #[.int .i64 p, .int .i64 q]) (by kernel_rfl) (by kernel_rfl) (by kernel_rfl) iD infoTwo9 rfl (by rw [← Array.all_toList]; rfl)) kB ?_
      try simp only [Act.put]
      have iE := iD.row #[.int .i64 p, .int .i64 q]
      replace hB := kB
      exact ST2_5_7_8 _ _ hB hDD iE
  have ST2_5 : ∀ (W : World), Below W0.heap.size W0 W → wpAnyH Tryz.prog .any (opsOf Tryz.f4 5) Q (fun W => Below W0.heap.size W0 W) 2 #[true, true, true, true, true, true, true, false, false] { tmps := #[x0, x1, x2, x3, x4, x5, x6, .pointer (some ⟨DN, 0, none⟩), x8, x9, x10, x11, x12, x13, x14, x15, x16, x17, x18, x19, x20, x21, x22, x23, x24, x25, x26, x27, x28, x29, x30, x31, x32, x33, x34, x35, .pointer (some ⟨DN, 0, none⟩), .int .i64 n0, .int .i64 p, .pointer (some ⟨DN, 1, none⟩), .int .i64 n1, .int .i64 q, .agg #[.int .i64 p, .int .i64 q], x43, x44, x45, x46, x47, x48, x49, x50, x51, x52, x53, x54, x55, x56, x57, x58, x59, x60, x61, x62, x63, x64, x65, x66, x67, x68, x69, x70, x71, x72, x73, x74, x75, x76, x77, x78, x79, x80, x81, x82, x83, x84, x85, x86, x87, x88, x89, x90, x91], defers := [] } W := by
    intro W hB
    refine wpAnyH_ready (by kernel_rfl) (by simp) (AllReadyH.cons (i := 7) (at_nth rfl) ?_ (AllReadyH.nil))
    · have iD := Is.new W 42 #[.int .i64 0, .int .i64 0]
      have hDD : W0.heap.size ≤ W.heap.size := hB.size
      replace hB := hB.alloc hB.size (.cells #[.int .i64 0, .int .i64 0] 42)
      refine arm9_value (by kernel_rfl) (run_allocA9 _ (by kernel_rfl)) hB ?_
      simp only [Act.put, List.setIfInBounds_toArray, List.set_cons_succ, List.set_cons_zero]
      exact ST2_5_7 _ _ hB hDD iD
  have ST2_7 : ∀ (W : World) (DD : Nat), Below W0.heap.size W0 W → W0.heap.size ≤ DD → Is W DD 42 #[.int .i64 0, .int .i64 0] → wpAnyH Tryz.prog .any (opsOf Tryz.f4 5) Q (fun W => Below W0.heap.size W0 W) 3 #[true, true, true, true, true, false, false, true, false] { tmps := #[x0, x1, x2, x3, x4, x5, x6, .pointer (some ⟨DN, 0, none⟩), x8, x9, x10, x11, x12, .pointer (some ⟨DD, 0, none⟩), x14, x15, x16, x17, x18, x19, x20, x21, x22, x23, x24, x25, x26, x27, x28, x29, x30, x31, x32, x33, x34, x35, .pointer (some ⟨DN, 0, none⟩), .int .i64 n0, .int .i64 p, .pointer (some ⟨DN, 1, none⟩), .int .i64 n1, x41, x42, x43, x44, x45, x46, x47, x48, x49, x50, x51, x52, x53, x54, x55, x56, x57, x58, x59, x60, x61, x62, x63, x64, x65, x66, x67, x68, x69, x70, x71, x72, x73, x74, x75, x76, x77, x78, x79, x80, x81, x82, x83, x84, x85, x86, x87, x88, x89, x90, x91], defers := [] } W := by
    intro W DD hB hDD iD
    refine wpAnyH_ready (by kernel_rfl) (by simp) (AllReadyH.cons (i := 5) (at_nth rfl) ?_ (AllReadyH.nil))
    · refine arm9_call (by kernel_rfl) (fun wy => by kernel_rfl) ((P1.out _).mono ?_)
      rintro e Wn ⟨rfl, rfl⟩
      refine ⟨_, rfl, hB, ?_⟩
      simp only [Act.put, List.setIfInBounds_toArray, List.set_cons_succ, List.set_cons_zero]
      refine wpAnyH_pure (i := 6) (v := .agg #[.int .i64 p, .int .i64 q]) (at_nth rfl) (by kernel_rfl) (by kernel_rfl) (by kernel_rfl) (fun _ _ _ h => absurd h (HQN _ _ _)) (by kernel_rfl) (fun w hSw => by go_simp) hB ?_
      simp only [Act.put, List.setIfInBounds_toArray, List.set_cons_succ, List.set_cons_zero]
      exact ST2_5_7 _ _ hB hDD iD
  have ST2 : ∀ (W : World), Below W0.heap.size W0 W → wpAnyH Tryz.prog .any (opsOf Tryz.f4 5) Q (fun W => Below W0.heap.size W0 W) 4 #[true, true, true, true, true, false, false, false, false] { tmps := #[x0, x1, x2, x3, x4, x5, x6, .pointer (some ⟨DN, 0, none⟩), x8, x9, x10, x11, x12, x13, x14, x15, x16, x17, x18, x19, x20, x21, x22, x23, x24, x25, x26, x27, x28, x29, x30, x31, x32, x33, x34, x35, .pointer (some ⟨DN, 0, none⟩), .int .i64 n0, .int .i64 p, .pointer (some ⟨DN, 1, none⟩), .int .i64 n1, x41, x42, x43, x44, x45, x46, x47, x48, x49, x50, x51, x52, x53, x54, x55, x56, x57, x58, x59, x60, x61, x62, x63, x64, x65, x66, x67, x68, x69, x70, x71, x72, x73, x74, x75, x76, x77, x78, x79, x80, x81, x82, x83, x84, x85, x86, x87, x88, x89, x90, x91], defers := [] } W := by
    intro W hB
    refine wpAnyH_ready (by kernel_rfl) (by simp) (AllReadyH.cons (i := 5) (at_nth rfl) ?_ (AllReadyH.cons (i := 7) (at_nth rfl) ?_ (AllReadyH.nil)))
    · refine arm9_call (by kernel_rfl) (fun wy => by kernel_rfl) ((P1.out _).mono ?_)
      rintro e Wn ⟨rfl, rfl⟩
      refine ⟨_, rfl, hB, ?_⟩
      simp only [Act.put, List.setIfInBounds_toArray, List.set_cons_succ, List.set_cons_zero]
      refine wpAnyH_pure (i := 6) (v := .agg #[.int .i64 p, .int .i64 q]) (at_nth rfl) (by kernel_rfl) (by kernel_rfl) (by kernel_rfl) (fun _ _ _ h => absurd h (HQN _ _ _)) (by kernel_rfl) (fun w hSw => by go_simp) hB ?_
      simp only [Act.put, List.setIfInBounds_toArray, List.set_cons_succ, List.set_cons_zero]
      exact ST2_5 _ hB
    · have iD := Is.new W 42 #[.int .i64 0, .int .i64 0]
      have hDD : W0.heap.size ≤ W.heap.size := hB.size
      replace hB := hB.alloc hB.size (.cells #[.int .i64 0, .int .i64 0] 42)
      refine arm9_value (by kernel_rfl) (run_allocA9 _ (by kernel_rfl)) hB ?_
      simp only [Act.put, List.setIfInBounds_toArray, List.set_cons_succ, List.set_cons_zero]
      exact ST2_7 _ _ hB hDD iD
  have ST7 : ∀ (W : World) (DD : Nat), Below W0.heap.size W0 W → W0.heap.size ≤ DD → Is W DD 42 #[.int .i64 0, .int .i64 0] → wpAnyH Tryz.prog .any (opsOf Tryz.f4 5) Q (fun W => Below W0.heap.size W0 W) 4 #[true, true, false, true, true, false, false, true, false] { tmps := #[x0, x1, x2, x3, x4, x5, x6, .pointer (some ⟨DN, 0, none⟩), x8, x9, x10, x11, x12, .pointer (some ⟨DD, 0, none⟩), x14, x15, x16, x17, x18, x19, x20, x21, x22, x23, x24, x25, x26, x27, x28, x29, x30, x31, x32, x33, x34, x35, .pointer (some ⟨DN, 0, none⟩), .int .i64 n0, x38, .pointer (some ⟨DN, 1, none⟩), .int .i64 n1, x41, x42, x43, x44, x45, x46, x47, x48, x49, x50, x51, x52, x53, x54, x55, x56, x57, x58, x59, x60, x61, x62, x63, x64, x65, x66, x67, x68, x69, x70, x71, x72, x73, x74, x75, x76, x77, x78, x79, x80, x81, x82, x83, x84, x85, x86, x87, x88, x89, x90, x91], defers := [] } W := by
    intro W DD hB hDD iD
    refine wpAnyH_ready (by kernel_rfl) (by simp) (AllReadyH.cons (i := 2) (at_nth rfl) ?_ (AllReadyH.nil))
    · refine arm9_call (by kernel_rfl) (fun wy => by kernel_rfl) ((P0.out _).mono ?_)
      rintro e Wn ⟨rfl, rfl⟩
      refine ⟨_, rfl, hB, ?_⟩
      simp only [Act.put, List.setIfInBounds_toArray, List.set_cons_succ, List.set_cons_zero]
      exact ST2_7 _ _ hB hDD iD
  have ST : ∀ (W : World), Below W0.heap.size W0 W → wpAnyH Tryz.prog .any (opsOf Tryz.f4 5) Q (fun W => Below W0.heap.size W0 W) 5 #[true, true, false, true, true, false, false, false, false] { tmps := #[x0, x1, x2, x3, x4, x5, x6, .pointer (some ⟨DN, 0, none⟩), x8, x9, x10, x11, x12, x13, x14, x15, x16, x17, x18, x19, x20, x21, x22, x23, x24, x25, x26, x27, x28, x29, x30, x31, x32, x33, x34, x35, .pointer (some ⟨DN, 0, none⟩), .int .i64 n0, x38, .pointer (some ⟨DN, 1, none⟩), .int .i64 n1, x41, x42, x43, x44, x45, x46, x47, x48, x49, x50, x51, x52, x53, x54, x55, x56, x57, x58, x59, x60, x61, x62, x63, x64, x65, x66, x67, x68, x69, x70, x71, x72, x73, x74, x75, x76, x77, x78, x79, x80, x81, x82, x83, x84, x85, x86, x87, x88, x89, x90, x91], defers := [] } W := by
    intro W hB
    refine wpAnyH_ready (by kernel_rfl) (by simp) (AllReadyH.cons (i := 2) (at_nth rfl) ?_ (AllReadyH.cons (i := 7) (at_nth rfl) ?_ (AllReadyH.nil)))
    · refine arm9_call (by kernel_rfl) (fun wy => by kernel_rfl) ((P0.out _).mono ?_)
      rintro e Wn ⟨rfl, rfl⟩
      refine ⟨_, rfl, hB, ?_⟩
      simp only [Act.put, List.setIfInBounds_toArray, List.set_cons_succ, List.set_cons_zero]
      exact ST2 _ hB
    · have iD := Is.new W 42 #[.int .i64 0, .int .i64 0]
      have hDD : W0.heap.size ≤ W.heap.size := hB.size
      replace hB := hB.alloc hB.size (.cells #[.int .i64 0, .int .i64 0] 42)
      refine arm9_value (by kernel_rfl) (run_allocA9 _ (by kernel_rfl)) hB ?_
      simp only [Act.put, List.setIfInBounds_toArray, List.set_cons_succ, List.set_cons_zero]
      exact ST7 _ _ hB hDD iD
  refine wp_region_held_drew (S := fun W => Below W0.heap.size W0 W) (by kernel_rfl) hB (fun hS => ?_)
  change wpAnyH _ _ (opsOf Tryz.f4 5) _ _ 9 (Array.replicate 9 false) _ (W0.drewN 1)
  clear hS
  replace hB : Below W0.heap.size W0 (W0.drewN 1) := belowN (Below.refl _ _) 1
  refine wpAnyH_pure (i := 0) (v := .pointer (some ⟨DN, 0, none⟩)) (at_nth rfl) (by kernel_rfl) (by kernel_rfl) (by kernel_rfl) (fun _ _ _ h => absurd h (HQN _ _ _)) (by kernel_rfl) (fun w hSw => by go_simp) hB ?_
  simp only [Act.put, List.setIfInBounds_toArray, List.set_cons_succ, List.set_cons_zero]
  refine wpAnyH_pure (i := 1) (v := .int .i64 n0) (at_nth rfl) (by kernel_rfl) (by kernel_rfl) (by kernel_rfl) (fun _ _ _ h => absurd h (HQN _ _ _)) (by kernel_rfl) (fun w hSw => by (have hc := HN0.out _ hSw; go_simp)) hB ?_
  simp only [Act.put, List.setIfInBounds_toArray, List.set_cons_succ, List.set_cons_zero]
  refine wpAnyH_pure (i := 3) (v := .pointer (some ⟨DN, 1, none⟩)) (at_nth rfl) (by kernel_rfl) (by kernel_rfl) (by kernel_rfl) (fun _ _ _ h => absurd h (HQN _ _ _)) (by kernel_rfl) (fun w hSw => by go_simp) hB ?_
  simp only [Act.put, List.setIfInBounds_toArray, List.set_cons_succ, List.set_cons_zero]
  refine wpAnyH_pure (i := 4) (v := .int .i64 n1) (at_nth rfl) (by kernel_rfl) (by kernel_rfl) (by kernel_rfl) (fun _ _ _ h => absurd h (HQN _ _ _)) (by kernel_rfl) (fun w hSw => by (have hc := HN1.out _ hSw; go_simp)) hB ?_
  simp only [Act.put, List.setIfInBounds_toArray, List.set_cons_succ, List.set_cons_zero]
  exact ST _ hB
set_option maxRecDepth 100000 in
set_option maxHeartbeats 8000000 in
theorem oasks_walk [Tabs] (one two : ByteArray) (a0 a1 b0 b1 : Int) (w : World) (hT : Tab w) (h1 : one.size ≤ maxLen) (h2 : two.size ≤ maxLen) (ha0 : -9223372036854775808 ≤ a0 ∧ a0 ≤ 9223372036854775807) (ha1 : -9223372036854775808 ≤ a1 ∧ a1 ≤ 9223372036854775807) (hb0 : -9223372036854775808 ≤ b0 ∧ b0 ≤ 9223372036854775807) (hb1 : -9223372036854775808 ≤ b1 ∧ b1 ≤ 9223372036854775807) :
    Calls Tryz.prog 4 #[.string one, .string two, .agg #[.int .i64 a0, .int .i64 a1], .agg #[.int .i64 b0, .int .i64 b1]] w fun e w' => e = .returned (.bool true) ∧ Below w.heap.size w w' := by
  unfold maxLen at h1 h2
  have AW := Lib.hid (fun W (hb : Below w.heap.size w W) => awake9_any W (hT.below hb hT.two))
  have PA0 := Lib.hid (fun w => pick9_any a0 1000001 w ha0.1 ha0.2 (by omega) (by omega))
  have PA1 := Lib.hid (fun w => pick9_any a1 1000001 w ha1.1 ha1.2 (by omega) (by omega))
  have PB0 := Lib.hid (fun w => pick9_any b0 1000001 w hb0.1 hb0.2 (by omega) (by omega))
  have PB1 := Lib.hid (fun w => pick9_any b1 1000001 w hb1.1 hb1.2 (by omega) (by omega))
  have hp := pickN_bd a0 1000001 (by omega)
  have hq := pickN_bd a1 1000001 (by omega)
  have hr := pickN_bd b0 1000001 (by omega)
  have hs := pickN_bd b1 1000001 (by omega)
  generalize pickN a0 1000001 = p at *
  generalize pickN a1 1000001 = q at *
  generalize pickN b0 1000001 = r at *
  generalize pickN b1 1000001 = s at *
  obtain ⟨V1, hV1⟩ : ∃ W, W = (w.alloc (.cells #[.int .i64 a0, .int .i64 a1] 42)).alloc (.cells #[.int .i64 b0, .int .i64 b1] 42) := ⟨_, rfl⟩
  have iA : Is V1 w.heap.size 42 #[.int .i64 a0, .int .i64 a1] := by rw [hV1]; exact heap_alloc2_old w _ _
  have iB : Is V1 (w.heap.size + 1) 42 #[.int .i64 b0, .int .i64 b1] := by rw [hV1]; exact heap_alloc2_new w _ _
  have hB : Below w.heap.size w V1 := by rw [hV1]; exact ((Below.refl _ _).alloc (Nat.le_refl _) _).alloc (by simp) _
  clear hT ha0 ha1 hb0 hb1
  go_enter Tryz.func4, Tryz.ntmps4
  go_wp2_with fail
  rw [← hV1]
  clear hV1
  refine (AW.out _ hB).mono ?_
  rintro e V2 ⟨rfl, hb⟩
  replace iA := iA.below hb iA.lt
  replace iB := iB.below hb iB.lt
  replace hB := hB.trans (hb.mono hB.size)
  clear hb AW
  go_wp2_with fail
  have xz : (one.extract 0 (min (one.size : Int) 20).toNat).size ≤ 20 := by simp; omega
  have yz : (two.extract 0 (min (two.size : Int) 20).toNat).size ≤ 20 := by simp; omega
  generalize one.extract 0 (min (one.size : Int) 20).toNat = X at *
  generalize two.extract 0 (min (two.size : Int) 20).toNat = Y at *
  refine Code.wp_mono ?_ (asks9_one _ a0 a1 p q w.heap.size iA PA0 PA1 _ _ _ _ _ _ _ _ _ _ _ _ _ _ _ _ _ _ _ _ _ _ _ _ _ _ _ _ _ _ _ _ _ _ _ _ _ _ _ _ _ _ _ _ _ _ _ _ _ _ _ _ _ _ _ _ _ _ _ _ _ _ _ _ _ _ _ _ _ _ _ _ _ _ _ _ _ _ _ _ _ _ _ _ _ _ _ _ _ _ _)
  rintro e YY V4 ⟨rfl, hd, DM, hT0, hb, hxDM, iDM⟩
  obtain ⟨T0, Dd⟩ := YY
  subst hT0
  obtain rfl : Dd = [] := hd
  replace iA := iA.below hb iA.lt
  replace iB := iB.below hb iB.lt
  replace hB := hB.trans (hb.mono hB.size)
  clear hb
  go_wp2_with fail
  refine Code.wp_mono ?_ (asks9_two _ b0 b1 r s (w.heap.size + 1) iB PB0 PB1 _ _ _ _ _ _ _ _ _ _ _ _ _ _ _ _ _ _ _ _ _ _ _ _ _ _ _ _ _ _ _ _ _ _ _ _ _ _ _ _ _ _ _ _ _ _ _ _ _ _ _ _ _ _ _ _ _ _ _ _ _ _ _ _ _ _ _ _ _ _ _ _ _ _ _ _ _ _ _ _ _ _ _ _ _ _ _ _ _ _ _)
  rintro e YY V5 ⟨rfl, hd, DK, hT0, hb, hxDK, iDK⟩
  obtain ⟨T0, Dd⟩ := YY
  subst hT0
  obtain rfl : Dd = [] := hd
  replace iDM := iDM.below hb iDM.lt
  replace hB := hB.trans (hb.mono hB.size)
  clear hb iA iB PA0 PA1 PB0 PB1 hxDM hxDK
  have AS := fun (Z : ByteArray) (e c : Int) (hz : Z.size ≤ 20) (he : 0 ≤ e ∧ e < 1000001) (hc : 0 ≤ c ∧ c < 1000001) W => ask_ok Z e c W hz (by simp [cnt9]; omega) (by simp [cnt9]; omega)
  have A1 := Lib.hid (AS X p q xz hp hq)
  have A2 := Lib.hid (AS Y r s yz hr hs)
  have hSz : ((ask9 X p q).size : Int) = (X.size : Int) + 9 := by rw [ask9_size]; omega
  have hTz : ((ask9 Y r s).size : Int) = (Y.size : Int) + 9 := by rw [ask9_size]; omega
  have hinj : ask9 X p q = ask9 Y r s → X = Y ∧ p = r ∧ q = s := fun h => ask9_inj (by omega) (by omega) (by omega) (by omega) h
  have hsame : X = Y → p = r → q = s → ask9 X p q = ask9 Y r s := fun e1 e2 e3 => by rw [e1, e2, e3]
  generalize ask9 X p q = S at *
  generalize ask9 Y r s = T at *
  have w1i := IntWalk.i64_in ((X.size : Int) + 9) (by omega)
  clear AS hp hq hr hs h1 h2
  have m0 : V5.cell? ⟨DM, 0, none⟩ = some (.int .i64 p) := iDM.cell 0
  have m1 : V5.cell? ⟨DM, 1, none⟩ = some (.int .i64 q) := iDM.cell 1
  go_wp2_with fail
  refine (A1.out _).mono ?_
  rintro e V6 ⟨rfl, hb⟩
  replace iDM := iDM.below hb iDM.lt
  replace iDK := iDK.below hb iDK.lt
  replace hB := hB.trans (hb.mono hB.size)
  clear hb m0 m1
  have m0 : V6.cell? ⟨DK, 0, none⟩ = some (.int .i64 r) := iDK.cell 0
  have m1 : V6.cell? ⟨DK, 1, none⟩ = some (.int .i64 s) := iDK.cell 1
  go_wp2_with fail
  refine (A2.out _).mono ?_
  rintro e V7 ⟨rfl, hb⟩
  replace iDM := iDM.below hb iDM.lt
  replace iDK := iDK.below hb iDK.lt
  replace hB := hB.trans (hb.mono hB.size)
  clear hb m0 m1 A1 A2
  have m0 : V7.cell? ⟨DM, 0, none⟩ = some (.int .i64 p) := iDM.cell 0
  have m1 : V7.cell? ⟨DM, 1, none⟩ = some (.int .i64 q) := iDM.cell 1
  have m2 : V7.cell? ⟨DK, 0, none⟩ = some (.int .i64 r) := iDK.cell 0
  have m3 : V7.cell? ⟨DK, 1, none⟩ = some (.int .i64 s) := iDK.cell 1
  have EQ := eqA9 p q r s V7
  clear iDM iDK
  by_cases hx : X = Y
  · by_cases hm : (p, q) = (r, s)
    · obtain rfl := hsame hx (Prod.mk.inj hm).1 (Prod.mk.inj hm).2
      rw [decide_eq_true hm] at EQ
      clear hinj hsame hTz hm
      subst hx
      go_wp2
      go_ret
      exact ⟨rfl, hB⟩
    · have hST : S ≠ T := fun e => hm (by rw [(hinj e).2.1, (hinj e).2.2])
      have n1 := ne7 hST
      have n2 := beq7 hST
      rw [decide_eq_false hm] at EQ
      clear hinj hsame hTz hm hST
      subst hx
      go_wp2
      go_ret
      exact ⟨rfl, hB⟩
  · have hST : S ≠ T := fun e => hx (hinj e).1
    have n1 := ne7 hST
    have n2 := beq7 hST
    have n3 := ne7 hx
    have n4 := beq7 hx
    clear hinj hsame hTz hST hx
    generalize decide ((p, q) = (r, s)) = EE at *
    go_wp2
    go_ret
    exact ⟨rfl, hB⟩
end Go.Proofs.YtfgdcpolfekgjaaGreat

