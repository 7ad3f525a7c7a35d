/-
  Layer 12: contracts of the document's Pairs and Same. Conditions: the lists lie where their slices point to.
-/
import Derived.Test.YtglcckpkbnppoaaBuxR
import Derived.Test.YtglcckpkbnppoaaGCo3
import Derived.ChangeKeysEq
namespace Go.Proofs.Ytglcckpkbnppoaa
open Go.RowKit Go.Shelf

theorem toList_inj12 {a c : ByteArray} : a.toList = c.toList ↔ a = c := ⟨fun e => by
  rw [ByteArray.toList_eq, ByteArray.toList_eq] at e
  obtain ⟨a⟩ := a
  obtain ⟨c⟩ := c
  exact congrArg ByteArray.mk (Array.toList_inj.1 e), fun e => by rw [e]⟩
theorem neP12 (a b c d : ByteArray) (W : World) : (binOp .neq 53 (.agg #[.string a, .string b]) (.agg #[.string c, .string d])).run Try.prog W = .ok (.bool (!(decide (a = c) && decide (b = d)))) W := by
  have hs : ∀ (x y : ByteArray) (W : World), (Op.equalIn 9999 9 (.string x) (.string y)).run Try.prog W = .ok (x.toList == y.toList) W := fun x y W => run_equalIn_string W 9998 _ x y Try.underlying9
  go_simp
  unfold Op.equalIn
  go_simp
  rw [show List.range' 0 2 = [0, 1] from rfl]
  simp only [List.forIn_cons, List.forIn_nil]
  go_simp
  simp only [toList_inj12]
  by_cases h2 : a = c <;> by_cases h3 : b = d <;> (simp only [h2, h3]; go_simp)
theorem neB12 (s t : Int) (a b c d : ByteArray) (W : World) : (binOp .neq 25 (.agg #[.int .i64 s, .string a, .string b]) (.agg #[.int .i64 t, .string c, .string d])).run Try.prog W = .ok (.bool (!(decide (s = t) && decide (a = c) && decide (b = d)))) W := by
  go_simp
  simp only [toList_inj12]
  by_cases h1 : s = t <;> by_cases h2 : a = c <;> by_cases h3 : b = d <;> simp [h1, h2, h3]
theorem infoPairS12 : (Try.prog.info? 53).map (·.size) = some 2 := by kernel_rfl
theorem run_load_midO12 {P : Program} {w : World} {o : Oper} {a : Act} {ty : TypeId} {x : Operand} (ho : o.op = .load ty x) {b off : Nat} {cs : List Value} {d : TypeDesc} (hx : a.eval x = .pointer (some ⟨b, off, none⟩)) (hc : w.rangeAt b off cs)
    (hu : P.underlying ty = some d) (hd : d.isRow = true) (hi : (P.info? ty).map (·.size) = some cs.length) :
    (execOp a.eval o).run P w = .ok (.value (.agg cs.toArray)) w := by
  simp only [execOp, ho, hx, Instr.loadAt, Instr.sureAddr, Sem.run_bind, Sem.run_pure, Result.andThen_ok, run_loadVar_mid w b off ty cs d hc hu hd hi]
theorem rangeB12 {W W' : World} (hb : Below W.heap.size W W') {b o : Nat} {L : List Value} (hl : b < W.heap.size) (h : W.rangeAt b o L) : W'.rangeAt b o L := fun j v hj => by
  rw [← h j v hj]
  simp only [World.cell?, hb.block _ hl]
set_option maxRecDepth 100000 in
set_option maxHeartbeats 4000000 in
theorem dpr12_6 (W0 : World) (a oa ca b ob cb n k : Nat) (p1 p2 q1 q2 : ByteArray) (hk : k < n) (hla : a < W0.heap.size) (hlb : b < W0.heap.size) (ha : W0.rangeAt a (oa + k * 2) [.string p1, .string p2]) (hb2 : W0.rangeAt b (ob + k * 2) [.string q1, .string q2]) (x2 x3 x4 x6 x7 x8 x9 x10 x11 x12 x13 x14 x15 x16 x17 x18 x19 x20 x21 x22 x23 x24 x25 : Value) :
    (Code.region 6 (opsOf Try.f20 6) true).wp Try.prog (fun ex YY W => ex = .normal ∧ YY.defers = [] ∧ ∃ (_ : Unit), YY.tmps = #[.slice (some ⟨a, oa, none⟩) n ca, .slice (some ⟨b, ob, none⟩) n cb, x2, x3, x4, .int .i64 (k : Int), x6, x7, x8, x9, x10, x11, x12, x13, x14, x15, x16, .slice (some ⟨a, oa, none⟩) n ca, .int .i64 (k : Int), .pointer (some ⟨a, oa + k * 2, none⟩), .agg #[.string p1, .string p2], .slice (some ⟨b, ob, none⟩) n cb, .int .i64 (k : Int), .pointer (some ⟨b, ob + k * 2, none⟩), .agg #[.string q1, .string q2], .bool (!(decide (p1 = q1) && decide (p2 = q2)))] ∧ Below W0.heap.size W0 W) { tmps := #[.slice (some ⟨a, oa, none⟩) n ca, .slice (some ⟨b, ob, none⟩) n cb, x2, x3, x4, .int .i64 (k : Int), x6, x7, x8, x9, x10, x11, x12, x13, x14, x15, x16, x17, x18, x19, x20, x21, x22, x23, x24, x25], defers := [] } W0 := by
  have hB : Below W0.heap.size W0 (W0.drewN 1) := belowN (Below.refl _ _) 1
  generalize hQ : (fun (ex : Exit) (YY : Act) (W : World) => ex = .normal ∧ YY.defers = [] ∧ ∃ (_ : Unit), YY.tmps = #[.slice (some ⟨a, oa, none⟩) n ca, .slice (some ⟨b, ob, none⟩) n cb, x2, x3, x4, .int .i64 (k : Int), x6, x7, x8, x9, x10, x11, x12, x13, x14, x15, x16, .slice (some ⟨a, oa, none⟩) n ca, .int .i64 (k : Int), .pointer (some ⟨a, oa + k * 2, none⟩), .agg #[.string p1, .string p2], .slice (some ⟨b, ob, none⟩) n cb, .int .i64 (k : Int), .pointer (some ⟨b, ob + k * 2, none⟩), .agg #[.string q1, .string q2], .bool (!(decide (p1 = q1) && decide (p2 = q2)))] ∧ Below W0.heap.size W0 W) = Q
  have HQN : ∀ c a W, ¬ Q (.panic c) a W := fun c a W h => by subst hQ; exact nomatch h.1
  have ST : ∀ (W : World), Below W0.heap.size W0 W → wpAnyH Try.prog .any (opsOf Try.f20 6) Q (fun W => Below W0.heap.size W0 W) 0 #[true, true, true, true, true, true, true, true, true] { tmps := #[.slice (some ⟨a, oa, none⟩) n ca, .slice (some ⟨b, ob, none⟩) n cb, x2, x3, x4, .int .i64 (k : Int), x6, x7, x8, x9, x10, x11, x12, x13, x14, x15, x16, .slice (some ⟨a, oa, none⟩) n ca, .int .i64 (k : Int), .pointer (some ⟨a, oa + k * 2, none⟩), .agg #[.string p1, .string p2], .slice (some ⟨b, ob, none⟩) n cb, .int .i64 (k : Int), .pointer (some ⟨b, ob + k * 2, none⟩), .agg #[.string q1, .string q2], .bool (!(decide (p1 = q1) && decide (p2 = q2)))], defers := [] } W := by
    intro W hB
    refine wpAnyH_done (by kernel_rfl) ?_ _
    subst hQ
    exact ⟨rfl, rfl, (), rfl, hB⟩
  refine wp_region_held_drew (S := fun W => Below W0.heap.size W0 W) (by kernel_rfl) hB (fun hS => ?_)
  change wpAnyH _ _ (opsOf Try.f20 6) _ _ 9 (Array.replicate 9 false) _ (W0.drewN 1)
  clear hS
  replace hB : Below W0.heap.size W0 (W0.drewN 1) := belowN (Below.refl _ _) 1
  refine wpAnyH_pure (i := 0) (v := .slice (some ⟨a, oa, none⟩) n ca) (at_nth rfl) (by kernel_rfl) (by kernel_rfl) (by kernel_rfl) (fun _ _ _ h => absurd h (HQN _ _ _)) (by kernel_rfl) (fun w hSw => by kernel_rfl) hB ?_
  simp only [Act.put, List.setIfInBounds_toArray, List.set_cons_succ, List.set_cons_zero]
  refine wpAnyH_pure (i := 1) (v := .int .i64 (k : Int)) (at_nth rfl) (by kernel_rfl) (by kernel_rfl) (by kernel_rfl) (fun _ _ _ h => absurd h (HQN _ _ _)) (by kernel_rfl) (fun w hSw => by kernel_rfl) hB ?_
  simp only [Act.put, List.setIfInBounds_toArray, List.set_cons_succ, List.set_cons_zero]
  refine wpAnyH_pure (i := 2) (v := .pointer (some ⟨a, oa + k * 2, none⟩)) (at_nth rfl) (by kernel_rfl) (by kernel_rfl) (by kernel_rfl) (fun _ _ _ h => absurd h (HQN _ _ _)) (by kernel_rfl) (fun w hSw => by have hk' := hk; go_simp) hB ?_
  simp only [Act.put, List.setIfInBounds_toArray, List.set_cons_succ, List.set_cons_zero]
  refine wpAnyH_pure (i := 3) (v := .agg #[.string p1, .string p2]) (at_nth rfl) (by kernel_rfl) (by kernel_rfl) (by kernel_rfl) (fun _ _ _ h => absurd h (HQN _ _ _)) (by kernel_rfl) (fun w hSw => by exact run_load_midO12 (x := .tmp 19) (by kernel_rfl) (by kernel_rfl) (rangeB12 hSw hla ha) Try.underlying53 rfl infoPairS12) hB ?_
  simp only [Act.put, List.setIfInBounds_toArray, List.set_cons_succ, List.set_cons_zero]
  refine wpAnyH_pure (i := 4) (v := .slice (some ⟨b, ob, none⟩) n cb) (at_nth rfl) (by kernel_rfl) (by kernel_rfl) (by kernel_rfl) (fun _ _ _ h => absurd h (HQN _ _ _)) (by kernel_rfl) (fun w hSw => by kernel_rfl) hB ?_
  simp only [Act.put, List.setIfInBounds_toArray, List.set_cons_succ, List.set_cons_zero]
  refine wpAnyH_pure (i := 5) (v := .int .i64 (k : Int)) (at_nth rfl) (by kernel_rfl) (by kernel_rfl) (by kernel_rfl) (fun _ _ _ h => absurd h (HQN _ _ _)) (by kernel_rfl) (fun w hSw => by kernel_rfl) hB ?_
  simp only [Act.put, List.setIfInBounds_toArray, List.set_cons_succ, List.set_cons_zero]
  refine wpAnyH_pure (i := 6) (v := .pointer (some ⟨b, ob + k * 2, none⟩)) (at_nth rfl) (by kernel_rfl) (by kernel_rfl) (by kernel_rfl) (fun _ _ _ h => absurd h (HQN _ _ _)) (by kernel_rfl) (fun w hSw => by have hk' := hk; go_simp) hB ?_
  simp only [Act.put, List.setIfInBounds_toArray, List.set_cons_succ, List.set_cons_zero]
  refine wpAnyH_pure (i := 7) (v := .agg #[.string q1, .string q2]) (at_nth rfl) (by kernel_rfl) (by kernel_rfl) (by kernel_rfl) (fun _ _ _ h => absurd h (HQN _ _ _)) (by kernel_rfl) (fun w hSw => by exact run_load_midO12 (x := .tmp 23) (by kernel_rfl) (by kernel_rfl) (rangeB12 hSw hlb hb2) Try.underlying53 rfl infoPairS12) hB ?_
  simp only [Act.put, List.setIfInBounds_toArray, List.set_cons_succ, List.set_cons_zero]
  refine wpAnyH_pure (i := 8) (v := .bool (!(decide (p1 = q1) && decide (p2 = q2)))) (at_nth rfl) (by kernel_rfl) (by kernel_rfl) (by kernel_rfl) (fun _ _ _ h => absurd h (HQN _ _ _)) (by kernel_rfl) (fun w hSw => by exact exec_bin10 (x := .tmp 20) (y := .tmp 24) (t2 := 53) (by kernel_rfl) (by kernel_rfl) (by kernel_rfl) (neP12 p1 p2 q1 q2 w) (by go_simp)) hB ?_
  simp only [Act.put, List.setIfInBounds_toArray, List.set_cons_succ, List.set_cons_zero]
  exact ST _ hB

set_option maxRecDepth 100000 in
set_option maxHeartbeats 4000000 in
theorem dsm12_6 (W0 : World) (D1 D2 a oa ca b ob cb n k : Nat) (u1 u2 v1 v2 : Value) (p0 q0 : Int) (p1 p2 q1 q2 : ByteArray) (hk : k < n) (i1 : Is W0 D1 31 #[.slice (some ⟨a, oa, none⟩) n ca, u1, u2]) (i2 : Is W0 D2 31 #[.slice (some ⟨b, ob, none⟩) n cb, v1, v2]) (hla : a < W0.heap.size) (hlb : b < W0.heap.size) (ha : W0.rangeAt a (oa + k * 3) [.int .i64 p0, .string p1, .string p2]) (hb2 : W0.rangeAt b (ob + k * 3) [.int .i64 q0, .string q1, .string q2]) (x0 x1 x4 x6 x7 x8 x9 x10 x11 x12 x13 x14 x15 x16 x17 x18 x19 x20 x21 x22 x23 x24 x25 x26 x27 x28 x29 x30 x31 x32 x33 x34 x35 x36 x37 x38 x39 x40 x41 x42 x43 x44 : Value) :
    (Code.region 6 (opsOf Try.f13 6) true).wp Try.prog (fun ex YY W => ex = .normal ∧ YY.defers = [] ∧ ∃ (_ : Unit), YY.tmps = #[x0, x1, .pointer (some ⟨D1, 0, none⟩), .pointer (some ⟨D2, 0, none⟩), x4, .int .i64 (k : Int), x6, x7, x8, x9, x10, x11, x12, x13, x14, x15, x16, x17, x18, x19, x20, x21, x22, x23, x24, x25, x26, x27, x28, x29, x30, x31, x32, x33, .pointer (some ⟨D1, 0, none⟩), .slice (some ⟨a, oa, none⟩) n ca, .int .i64 (k : Int), .pointer (some ⟨a, oa + k * 3, none⟩), .agg #[.int .i64 p0, .string p1, .string p2], .pointer (some ⟨D2, 0, none⟩), .slice (some ⟨b, ob, none⟩) n cb, .int .i64 (k : Int), .pointer (some ⟨b, ob + k * 3, none⟩), .agg #[.int .i64 q0, .string q1, .string q2], .bool (!(decide (p0 = q0) && decide (p1 = q1) && decide (p2 = q2)))] ∧ Below W0.heap.size W0 W) { tmps := #[x0, x1, .pointer (some ⟨D1, 0, none⟩), .pointer (some ⟨D2, 0, none⟩), x4, .int .i64 (k : Int), x6, x7, x8, x9, x10, x11, x12, x13, x14, x15, x16, x17, x18, x19, x20, x21, x22, x23, x24, x25, x26, x27, x28, x29, x30, x31, x32, x33, x34, x35, x36, x37, x38, x39, x40, x41, x42, x43, x44], defers := [] } W0 := by
  have hB : Below W0.heap.size W0 (W0.drewN 1) := belowN (Below.refl _ _) 1
  generalize hQ : (fun (ex : Exit) (YY : Act) (W : World) => ex = .normal ∧ YY.defers = [] ∧ ∃ (_ : Unit), YY.tmps = #[x0, x1, .pointer (some ⟨D1, 0, none⟩), .pointer (some ⟨D2, 0, none⟩), x4, .int .i64 (k : Int), x6, x7, x8, x9, x10, x11, x12, x13, x14, x15, x16, x17, x18, x19, x20, x21, x22, x23, x24, x25, x26, x27, x28, x29, x30, x31, x32, x33, .pointer (some ⟨D1, 0, none⟩), .slice (some ⟨a, oa, none⟩) n ca, .int .i64 (k : Int), .pointer (some ⟨a, oa + k * 3, none⟩), .agg #[.int .i64 p0, .string p1, .string p2], .pointer (some ⟨D2, 0, none⟩), .slice (some ⟨b, ob, none⟩) n cb, .int .i64 (k : Int), .pointer (some ⟨b, ob + k * 3, none⟩), .agg #[.int .i64 q0, .string q1, .string q2], .bool (!(decide (p0 = q0) && decide (p1 = q1) && decide (p2 = q2)))] ∧ Below W0.heap.size W0 W) = Q
  have HQN : ∀ c a W, ¬ Q (.panic c) a W := fun c a W h => by subst hQ; exact nomatch h.1
  have ST : ∀ (W : World), Below W0.heap.size W0 W → wpAnyH Try.prog .any (opsOf Try.f13 6) Q (fun W => Below W0.heap.size W0 W) 0 #[true, true, true, true, true, true, true, true, true, true, true] { tmps := #[x0, x1, .pointer (some ⟨D1, 0, none⟩), .pointer (some ⟨D2, 0, none⟩), x4, .int .i64 (k : Int), x6, x7, x8, x9, x10, x11, x12, x13, x14, x15, x16, x17, x18, x19, x20, x21, x22, x23, x24, x25, x26, x27, x28, x29, x30, x31, x32, x33, .pointer (some ⟨D1, 0, none⟩), .slice (some ⟨a, oa, none⟩) n ca, .int .i64 (k : Int), .pointer (some ⟨a, oa + k * 3, none⟩), .agg #[.int .i64 p0, .string p1, .string p2], .pointer (some ⟨D2, 0, none⟩), .slice (some ⟨b, ob, none⟩) n cb, .int .i64 (k : Int), .pointer (some ⟨b, ob + k * 3, none⟩), .agg #[.int .i64 q0, .string q1, .string q2], .bool (!(decide (p0 = q0) && decide (p1 = q1) && decide (p2 = q2)))], defers := [] } W := by
    intro W hB
    refine wpAnyH_done (by kernel_rfl) ?_ _
    subst hQ
    exact ⟨rfl, rfl, (), rfl, hB⟩
  refine wp_region_held_drew (S := fun W => Below W0.heap.size W0 W) (by kernel_rfl) hB (fun hS => ?_)
  change wpAnyH _ _ (opsOf Try.f13 6) _ _ 11 (Array.replicate 11 false) _ (W0.drewN 1)
  clear hS
  replace hB : Below W0.heap.size W0 (W0.drewN 1) := belowN (Below.refl _ _) 1
  refine wpAnyH_pure (i := 0) (v := .pointer (some ⟨D1, 0, none⟩)) (at_nth rfl) (by kernel_rfl) (by kernel_rfl) (by kernel_rfl) (fun _ _ _ h => absurd h (HQN _ _ _)) (by kernel_rfl) (fun w hSw => by go_simp) hB ?_
  simp only [Act.put, List.setIfInBounds_toArray, List.set_cons_succ, List.set_cons_zero]
  refine wpAnyH_pure (i := 1) (v := .slice (some ⟨a, oa, none⟩) n ca) (at_nth rfl) (by kernel_rfl) (by kernel_rfl) (by kernel_rfl) (fun _ _ _ h => absurd h (HQN _ _ _)) (by kernel_rfl) (fun w hSw => by (have hc := (i1.below hSw i1.lt).cell 0; go_simp)) hB ?_
  simp only [Act.put, List.setIfInBounds_toArray, List.set_cons_succ, List.set_cons_zero]
  refine wpAnyH_pure (i := 2) (v := .int .i64 (k : Int)) (at_nth rfl) (by kernel_rfl) (by kernel_rfl) (by kernel_rfl) (fun _ _ _ h => absurd h (HQN _ _ _)) (by kernel_rfl) (fun w hSw => by kernel_rfl) hB ?_
  simp only [Act.put, List.setIfInBounds_toArray, List.set_cons_succ, List.set_cons_zero]
  refine wpAnyH_pure (i := 3) (v := .pointer (some ⟨a, oa + k * 3, none⟩)) (at_nth rfl) (by kernel_rfl) (by kernel_rfl) (by kernel_rfl) (fun _ _ _ h => absurd h (HQN _ _ _)) (by kernel_rfl) (fun w hSw => by have hk' := hk; go_simp) hB ?_
  simp only [Act.put, List.setIfInBounds_toArray, List.set_cons_succ, List.set_cons_zero]
  refine wpAnyH_pure (i := 4) (v := .agg #[.int .i64 p0, .string p1, .string p2]) (at_nth rfl) (by kernel_rfl) (by kernel_rfl) (by kernel_rfl) (fun _ _ _ h => absurd h (HQN _ _ _)) (by kernel_rfl) (fun w hSw => by exact run_load_midO12 (x := .tmp 37) (by kernel_rfl) (by kernel_rfl) (rangeB12 hSw hla ha) Try.underlying25 rfl infoBkt12) hB ?_
  simp only [Act.put, List.setIfInBounds_toArray, List.set_cons_succ, List.set_cons_zero]
  refine wpAnyH_pure (i := 5) (v := .pointer (some ⟨D2, 0, none⟩)) (at_nth rfl) (by kernel_rfl) (by kernel_rfl) (by kernel_rfl) (fun _ _ _ h => absurd h (HQN _ _ _)) (by kernel_rfl) (fun w hSw => by go_simp) hB ?_
  simp only [Act.put, List.setIfInBounds_toArray, List.set_cons_succ, List.set_cons_zero]
  refine wpAnyH_pure (i := 6) (v := .slice (some ⟨b, ob, none⟩) n cb) (at_nth rfl) (by kernel_rfl) (by kernel_rfl) (by kernel_rfl) (fun _ _ _ h => absurd h (HQN _ _ _)) (by kernel_rfl) (fun w hSw => by (have hc := (i2.below hSw i2.lt).cell 0; go_simp)) hB ?_
  simp only [Act.put, List.setIfInBounds_toArray, List.set_cons_succ, List.set_cons_zero]
  refine wpAnyH_pure (i := 7) (v := .int .i64 (k : Int)) (at_nth rfl) (by kernel_rfl) (by kernel_rfl) (by kernel_rfl) (fun _ _ _ h => absurd h (HQN _ _ _)) (by kernel_rfl) (fun w hSw => by kernel_rfl) hB ?_
  simp only [Act.put, List.setIfInBounds_toArray, List.set_cons_succ, List.set_cons_zero]
  refine wpAnyH_pure (i := 8) (v := .pointer (some ⟨b, ob + k * 3, none⟩)) (at_nth rfl) (by kernel_rfl) (by kernel_rfl) (by kernel_rfl) (fun _ _ _ h => absurd h (HQN _ _ _)) (by kernel_rfl) (fun w hSw => by have hk' := hk; go_simp) hB ?_
  simp only [Act.put, List.setIfInBounds_toArray, List.set_cons_succ, List.set_cons_zero]
  refine wpAnyH_pure (i := 9) (v := .agg #[.int .i64 q0, .string q1, .string q2]) (at_nth rfl) (by kernel_rfl) (by kernel_rfl) (by kernel_rfl) (fun _ _ _ h => absurd h (HQN _ _ _)) (by kernel_rfl) (fun w hSw => by exact run_load_midO12 (x := .tmp 42) (by kernel_rfl) (by kernel_rfl) (rangeB12 hSw hlb hb2) Try.underlying25 rfl infoBkt12) hB ?_
  simp only [Act.put, List.setIfInBounds_toArray, List.set_cons_succ, List.set_cons_zero]
  refine wpAnyH_pure (i := 10) (v := .bool (!(decide (p0 = q0) && decide (p1 = q1) && decide (p2 = q2)))) (at_nth rfl) (by kernel_rfl) (by kernel_rfl) (by kernel_rfl) (fun _ _ _ h => absurd h (HQN _ _ _)) (by kernel_rfl) (fun w hSw => by exact exec_bin10 (x := .tmp 38) (y := .tmp 43) (t2 := 25) (by kernel_rfl) (by kernel_rfl) (by kernel_rfl) (neB12 p0 q0 p1 p2 q1 q2 w) (by go_simp)) hB ?_
  simp only [Act.put, List.setIfInBounds_toArray, List.set_cons_succ, List.set_cons_zero]
  exact ST _ hB
theorem take_eq12 {α : Type} {L M : List α} {k : Nat} {x : α} (h : L.take k = M.take k) (hx : L[k]? = some x) (hy : M[k]? = some x) : L.take (k + 1) = M.take (k + 1) := by
  rw [List.take_add_one, List.take_add_one, h, hx, hy]
theorem InV.pair12 {W : World} {A : Option Addr} {L : List Par12} (h : InV W A (flP L)) {k : Nat} {x : Par12} (hx : L[k]? = some x) :
    ∃ b off, A = some ⟨b, off, none⟩ ∧ b < W.heap.size ∧ W.rangeAt b (off + k * 2) [.string x.1, .string x.2] := by
  obtain ⟨b, off, rfl, hb, h0⟩ := h (k * 2 + 0) (.string x.1) ((flP_at hx 0 (by omega)).trans rfl)
  refine ⟨b, off, rfl, hb, fun j v hj => ?_⟩
  have hj2 : j < 2 := (List.getElem?_eq_some_iff.1 hj).1
  obtain ⟨b2, off2, e, _, h1⟩ := h (k * 2 + j) v ((flP_at hx j hj2).trans hj)
  cases e
  rw [← h1, Nat.add_assoc]
set_option maxRecDepth 100000 in
set_option maxHeartbeats 4000000 in
theorem dpairs_any12 (A B : Option Addr) (ca cb : Nat) (L M : List Par12) (w : World) (hl : L.length ≤ 4096) (hA : InV w A (flP L)) (hB : InV w B (flP M)) :
    Calls Try.prog 20 #[.slice A L.length ca, .slice B M.length cb] w fun e w' => ∃ R, e = .returned (.bool R) ∧ (R = true ↔ L = M) ∧ Below w.heap.size w w' := by
  have HA := Lib.hid hA
  have HB := Lib.hid hB
  clear hA hB
  by_cases hlm : L.length = M.length
  · have HLM := Lib.hid hlm
    go_enter Try.func20, Try.ntmps20
    rw [← hlm]
    clear hlm
    go_wp2
    go_loopw [5] (fun i wr => ∃ k : Nat, k ≤ L.length ∧ i = .int .i64 (k : Int) ∧ L.take k = M.take k ∧ Below w.heap.size w wr) (fun i _ => L.length - (intOf i).toNat)
    case atStart => exact ⟨0, by omega, rfl, rfl, Below.refl _ _⟩
    case round =>
      obtain ⟨k, hk, rfl, htk, hB⟩ := hrel
      have HTK := Lib.hid htk
      clear htk
      by_cases hlt : k < L.length
      · have q1 : (k : Int) < (L.length : Int) := by omega
        have w1i := IntWalk.i64_in ((k : Int) + 1) (by omega)
        obtain ⟨x, hx⟩ : ∃ x, L[k]? = some x := ⟨_, List.getElem?_eq_getElem hlt⟩
        obtain ⟨y, hy⟩ : ∃ y, M[k]? = some y := ⟨_, List.getElem?_eq_getElem (by rw [← HLM.out]; exact hlt)⟩
        obtain ⟨a, oa, rfl, hla, ha⟩ := (HA.out.keep hB).pair12 hx
        obtain ⟨b, ob, rfl, hlb, hb2⟩ := (HB.out.keep hB).pair12 hy
        have HX := Lib.hid hx
        have HY := Lib.hid hy
        clear hx hy
        go_upto_region 6 with (fail)
        refine Code.wp_mono ?_ (dpr12_6 wr a oa ca b ob cb L.length k x.1 x.2 y.1 y.2 hlt hla hlb ha hb2 _ _ _ _ _ _ _ _ _ _ _ _ _ _ _ _ _ _ _ _ _ _ _)
        rintro ex ⟨T, D⟩ W5 ⟨rfl, hDf, _, hT, hb⟩
        simp only at hT hDf
        subst hT
        subst hDf
        have hB5 := hB.trans (hb.mono hB.size)
        clear ha hb2 hla hlb hb hB
        by_cases hxy : x = y
        · have he : (!(decide (x.1 = y.1) && decide (x.2 = y.2))) = false := by rw [hxy]; simp
          have HS := Lib.hid (take_eq12 HTK.out HX.out (by rw [hxy]; exact HY.out))
          rw [he]
          clear he hxy
          go_wp2
          go_roundw
          case rel => exact ⟨k + 1, by omega, by go_num, HS.out, hB5⟩
          case measure => simp [intOf]; omega
        · have he : (!(decide (x.1 = y.1) && decide (x.2 = y.2))) = true := by
            have h2 : ¬ (x.1 = y.1 ∧ x.2 = y.2) := fun h => hxy (Prod.ext h.1 h.2)
            rw [← Bool.decide_and, decide_eq_false h2]; rfl
          have HN : Hid (L ≠ M) := Lib.hid (fun e => hxy (by have h1 := HX.out; rw [e, HY.out] at h1; exact (Option.some.inj h1).symm))
          rw [he]
          clear he hxy
          go_wp2
          go_ret
          exact ⟨false, rfl, ⟨fun h => absurd h (by decide), fun h => absurd h HN.out⟩, hB5⟩
      · have q1 : ¬ (k : Int) < (L.length : Int) := by omega
        have hkn : k = L.length := by omega
        have HE : Hid (L = M) := Lib.hid (by
          have h := HTK.out
          rwa [hkn, List.take_length, HLM.out, List.take_length] at h)
        clear hkn
        go_wp2
        go_ret
        exact .inr ⟨rfl, HE.out, hB⟩
  · have h1 : ¬ (L.length : Int) = (M.length : Int) := by omega
    have HN : Hid (L ≠ M) := Lib.hid (fun e => hlm (by rw [e]))
    clear hlm HA HB
    go_enter Try.func20, Try.ntmps20
    go_wp2
    go_ret
    exact ⟨false, rfl, ⟨fun h => absurd h (by decide), fun h => absurd h HN.out⟩, Below.refl _ _⟩
set_option maxRecDepth 100000 in
set_option maxHeartbeats 4000000 in
theorem dsame_any12 (s t : Sto12) (A B : Option Addr) (ca cb : Nat) (w : World) (hl : s.B.length ≤ 4096) (hA : InS w s A ca) (hB : InS w t B cb) :
    Calls Try.prog 13 #[stoV s A ca, stoV t B cb] w fun e w' => ∃ R, e = .returned (.bool R) ∧ (R = true ↔ s = t) ∧ Below w.heap.size w w' := by
  have HA := Lib.hid hA
  have HB := Lib.hid hB
  clear hA hB
  obtain ⟨sB, sm, sg⟩ := s
  obtain ⟨tB, tm, tg⟩ := t
  simp only at hl
  obtain ⟨W1, hW1⟩ : ∃ W1, W1 = (w.alloc (.cells #[.slice A sB.length ca, .int .i64 sm, .int .i64 sg] 31)).alloc (.cells #[.slice B tB.length cb, .int .i64 tm, .int .i64 tg] 31) := ⟨_, rfl⟩
  have i1 : Is W1 w.heap.size 31 #[.slice A sB.length ca, .int .i64 sm, .int .i64 sg] := by rw [hW1]; exact heap_alloc2_old _ _ _
  have i2 : Is W1 (w.heap.size + 1) 31 #[.slice B tB.length cb, .int .i64 tm, .int .i64 tg] := by rw [hW1]; exact heap_alloc2_new _ _ _
  have hB1 : Below w.heap.size w W1 := by rw [hW1]; exact ((Below.refl _ _).alloc (Nat.le_refl _) _).alloc (by simp) _
  have c0 : W1.cell? ⟨w.heap.size, 0, none⟩ = some (.slice A sB.length ca) := i1.cell 0
  have c1 : W1.cell? ⟨w.heap.size, 1, none⟩ = some (.int .i64 sm) := i1.cell 1
  have c2 : W1.cell? ⟨w.heap.size, 2, none⟩ = some (.int .i64 sg) := i1.cell 2
  have d0 : W1.cell? ⟨w.heap.size + 1, 0, none⟩ = some (.slice B tB.length cb) := i2.cell 0
  have d1 : W1.cell? ⟨w.heap.size + 1, 1, none⟩ = some (.int .i64 tm) := i2.cell 1
  have d2 : W1.cell? ⟨w.heap.size + 1, 2, none⟩ = some (.int .i64 tg) := i2.cell 2
  go_enter Try.func13, Try.ntmps13
  go_upto_region 1 with (fail)
  rw [← hW1]
  clear hW1
  by_cases e1 : sm = tm
  · by_cases e2 : sg = tg
    · by_cases e3 : sB.length = tB.length
      · subst e1 e2
        have HLM := Lib.hid e3
        rw [← e3] at d0 i2
        clear e3
        go_wp2
        clear c0 c1 c2 d0 d1 d2
        go_loopw [5] (fun i wr => ∃ k : Nat, k ≤ sB.length ∧ i = .int .i64 (k : Int) ∧ sB.take k = tB.take k ∧ Is wr w.heap.size 31 #[.slice A sB.length ca, .int .i64 sm, .int .i64 sg] ∧ Is wr (w.heap.size + 1) 31 #[.slice B sB.length cb, .int .i64 sm, .int .i64 sg] ∧ Below w.heap.size w wr) (fun i _ => sB.length - (intOf i).toNat)
        case atStart => exact ⟨0, by omega, rfl, rfl, i1, i2, hB1⟩
        case round =>
          clear i1 i2 hB1
          obtain ⟨k, hk, rfl, htk, i1, i2, hB⟩ := hrel
          have HTK := Lib.hid htk
          have c0 : wr.cell? ⟨w.heap.size, 0, none⟩ = some (.slice A sB.length ca) := i1.cell 0
          clear htk
          by_cases hlt : k < sB.length
          · have q1 : (k : Int) < (sB.length : Int) := by omega
            have w1i := IntWalk.i64_in ((k : Int) + 1) (by omega)
            obtain ⟨x, hx⟩ : ∃ x, sB[k]? = some x := ⟨_, List.getElem?_eq_getElem hlt⟩
            obtain ⟨y, hy⟩ : ∃ y, tB[k]? = some y := ⟨_, List.getElem?_eq_getElem (by rw [← HLM.out]; exact hlt)⟩
            obtain ⟨a, oa, rfl, hla, ha⟩ := (HA.out.keep hB).b.bkt hx
            obtain ⟨b, ob, rfl, hlb, hb2⟩ := (HB.out.keep hB).b.bkt hy
            have HX := Lib.hid hx
            have HY := Lib.hid hy
            clear hx hy
            go_upto_region 6 with (fail)
            clear c0
            refine Code.wp_mono ?_ (dsm12_6 wr w.heap.size (w.heap.size + 1) a oa ca b ob cb sB.length k _ _ _ _ x.st y.st x.l x.c y.l y.c hlt i1 i2 hla hlb ha hb2 _ _ _ _ _ _ _ _ _ _ _ _ _ _ _ _ _ _ _ _ _ _ _ _ _ _ _ _ _ _ _ _ _ _ _ _ _ _ _ _ _ _)
            rintro ex ⟨T, D⟩ W5 ⟨rfl, hDf, _, hT, hb⟩
            simp only at hT hDf
            subst hT
            subst hDf
            have hB5 := hB.trans (hb.mono hB.size)
            have i1 := i1.below hb i1.lt
            have i2 := i2.below hb i2.lt
            clear ha hb2 hla hlb hb hB
            obtain ⟨xs, xl, xc⟩ := x
            obtain ⟨ys, yl, yc⟩ := y
            simp only
            by_cases hxy : xs = ys ∧ xl = yl ∧ xc = yc
            · obtain ⟨rfl, rfl, rfl⟩ := hxy
              have he : (!(decide (xs = xs) && decide (xl = xl) && decide (xc = xc))) = false := by simp
              have HS := Lib.hid (take_eq12 HTK.out HX.out HY.out)
              rw [he]
              clear he
              go_wp2
              go_roundw
              case rel => exact ⟨k + 1, by omega, by go_num, HS.out, i1, i2, hB5⟩
              case measure => simp [intOf]; omega
            · have he : (!(decide (xs = ys) && decide (xl = yl) && decide (xc = yc))) = true := by
                rw [← Bool.decide_and, ← Bool.decide_and, decide_eq_false (fun h => hxy ⟨h.1.1, h.1.2, h.2⟩)]; rfl
              have HN : Hid ((⟨sB, sm, sg⟩ : Sto12) ≠ ⟨tB, sm, sg⟩) := Lib.hid (fun e => hxy (by
                have h1 := HX.out
                rw [show sB = tB from congrArg Sto12.B e, HY.out] at h1
                cases h1
                exact ⟨rfl, rfl, rfl⟩))
              rw [he]
              clear he hxy
              go_wp2
              go_ret
              exact ⟨false, rfl, ⟨fun h => absurd h (by decide), fun h => absurd h HN.out⟩, hB5⟩
          · have q1 : ¬ (k : Int) < (sB.length : Int) := by omega
            have hkn : k = sB.length := by omega
            have HE : Hid ((⟨sB, sm, sg⟩ : Sto12) = ⟨tB, sm, sg⟩) := Lib.hid (by
              have h := HTK.out
              rw [hkn, List.take_length, HLM.out, List.take_length] at h
              rw [h])
            clear hkn
            go_wp2
            go_ret
            exact .inr ⟨rfl, congrArg Sto12.B HE.out, hB⟩
      · have h1 : ¬ (sB.length : Int) = (tB.length : Int) := by omega
        have HN : Hid ((⟨sB, sm, sg⟩ : Sto12) ≠ ⟨tB, tm, tg⟩) := Lib.hid (fun e => e3 (by rw [show sB = tB from congrArg Sto12.B e]))
        clear e3
        go_wp2
        go_ret
        exact ⟨false, rfl, ⟨fun h => absurd h (by decide), fun h => absurd h HN.out⟩, hB1⟩
    · have HN : Hid ((⟨sB, sm, sg⟩ : Sto12) ≠ ⟨tB, tm, tg⟩) := Lib.hid (fun e => e2 (congrArg Sto12.gone e))
      go_wp2
      go_ret
      exact ⟨false, rfl, ⟨fun h => absurd h (by decide), fun h => absurd h HN.out⟩, hB1⟩
  · have HN : Hid ((⟨sB, sm, sg⟩ : Sto12) ≠ ⟨tB, tm, tg⟩) := Lib.hid (fun e => e1 (congrArg Sto12.many e))
    go_wp2
    go_ret
    exact ⟨false, rfl, ⟨fun h => absurd h (by decide), fun h => absurd h HN.out⟩, hB1⟩
end Go.Proofs.Ytglcckpkbnppoaa
