/-
  Layer 12: contract of the document's All. Condition: the store lies where its slice points to.
-/
import Derived.Test.YtglcckpkbnppoaaBOrK
import Derived.Test.YtglcckpkbnppoaaGBr1
import Derived.Test.YtglcckpkbnppoaaBuxR
namespace Go.Proofs.Ytglcckpkbnppoaa
open Go.RowKit Go.Shelf

theorem flP_take12 (L : List Par12) : ∀ k, (flP L).take (k * 2) = flP (L.take k) := by
  induction L with
  | nil => intro k; simp [flP]
  | cons a r ih =>
    intro k
    cases k with
    | zero => simp [flP]
    | succ k =>
      rw [List.take_succ_cons, show (k + 1) * 2 = k * 2 + 1 + 1 by omega]
      show Value.string a.1 :: Value.string a.2 :: (flP r).take (k * 2) = _
      rw [ih]
      rfl
theorem flP_drop12 (L : List Par12) : ∀ k, (flP L).drop (k * 2) = flP (L.drop k) := by
  induction L with
  | nil => intro k; simp [flP]
  | cons a r ih =>
    intro k
    cases k with
    | zero => simp [flP]
    | succ k =>
      rw [List.drop_succ_cons, show (k + 1) * 2 = k * 2 + 1 + 1 by omega]
      show (flP r).drop (k * 2) = _
      rw [ih]
theorem flP_ins12 (L : List Par12) (l x : ByteArray) (m : Nat) (hm : dwn12 L l L.length = m) : (flP L).take (m * 2) ++ [.string l, .string x] ++ (flP L).drop (m * 2) = flP (ins12 L l x) := by
  rw [ins12, hm, flP_take12, flP_drop12, flP_app, List.append_assoc]
  rfl
theorem all_more12 {B : List Bkt12} {k : Nat} {x : Bkt12} (hx : B[k]? = some x) : all12 (B.take (k + 1)) = if x.st = 1 then ins12 (all12 (B.take k)) x.l x.c else all12 (B.take k) := by
  rw [all12, all12, us12, us12, List.take_add_one, hx, List.filter_append, alls12, List.foldl_append, ← alls12]
  show ([x].filter fun b => decide (b.st = 1)).foldl _ _ = _
  by_cases h : x.st = 1
  · rw [if_pos h, List.filter_cons_of_pos (by simpa using h)]
    rfl
  · rw [if_neg h, List.filter_cons_of_neg (by simpa using h)]
    rfl
theorem alls_len12 : ∀ (L : List Bkt12) (o : List Par12), (L.foldl (fun o b => ins12 o b.l b.c) o).length = o.length + L.length
  | [], o => rfl
  | b :: r, o => by
    rw [List.foldl_cons, alls_len12 r, ins_len12, List.length_cons]
    omega
theorem all_le12 (B : List Bkt12) : (all12 B).length ≤ B.length := by
  rw [all12, alls12, alls_len12]
  have := (List.filter_sublist (p := fun b : Bkt12 => decide (b.st = 1)) (l := B)).length_le
  rw [us12]
  show 0 + _ ≤ _
  omega
set_option maxRecDepth 100000 in
set_option maxHeartbeats 4000000 in
theorem dal12_10a (W0 : World) (m : Nat) (hm : m = 0) (x0 x1 x2 x3 x4 x5 x7 x8 x9 x10 x11 x12 x13 x14 x15 x16 x17 x18 x19 x20 x21 x22 x23 x24 x25 x26 x27 x28 x29 x30 x31 x32 x33 x34 x35 x36 x37 x38 x39 x40 x41 x42 x43 x44 x45 x46 x47 x48 x49 x50 x51 x52 x53 x54 x55 x56 x57 : Value) :
    (Code.region 10 (opsOf Try.f22 10) true).wp Try.prog (fun ex YY W => ex = .normal ∧ YY.defers = [] ∧ ∃ (_ : Unit), YY.tmps = #[x0, x1, x2, x3, x4, x5, .int .i64 (m : Int), x7, x8, x9, x10, x11, x12, x13, x14, x15, x16, x17, x18, x19, x20, x21, x22, x23, x24, x25, x26, .int .i64 (m : Int), .bool false, .bool false, undef, undef, undef, undef, undef, undef, undef, undef, undef, .bool false, x40, x41, x42, x43, x44, x45, x46, x47, x48, x49, x50, x51, x52, x53, x54, x55, x56, x57] ∧ Below W0.heap.size W0 W) { tmps := #[x0, x1, x2, x3, x4, x5, .int .i64 (m : Int), x7, x8, x9, x10, x11, x12, x13, x14, x15, x16, x17, x18, x19, x20, x21, x22, x23, x24, x25, x26, x27, x28, x29, x30, x31, x32, x33, x34, x35, x36, x37, x38, x39, x40, x41, x42, x43, x44, x45, x46, x47, x48, x49, x50, x51, x52, x53, x54, x55, x56, x57], defers := [] } W0 := by
  have hB : Below W0.heap.size W0 (W0.drewN 1) := belowN (Below.refl _ _) 1
  generalize hQ : (fun (ex : Exit) (YY : Act) (W : World) => ex = .normal ∧ YY.defers = [] ∧ ∃ (_ : Unit), YY.tmps = #[x0, x1, x2, x3, x4, x5, .int .i64 (m : Int), x7, x8, x9, x10, x11, x12, x13, x14, x15, x16, x17, x18, x19, x20, x21, x22, x23, x24, x25, x26, .int .i64 (m : Int), .bool false, .bool false, undef, undef, undef, undef, undef, undef, undef, undef, undef, .bool false, x40, x41, x42, x43, x44, x45, x46, x47, x48, x49, x50, x51, x52, x53, x54, x55, x56, x57] ∧ Below W0.heap.size W0 W) = Q
  have HQN : ∀ c a W, ¬ Q (.panic c) a W := fun c a W h => by subst hQ; exact nomatch h.1
  have ST : ∀ (W : World), Below W0.heap.size W0 W → wpAnyH Try.prog .any (opsOf Try.f22 10) Q (fun W => Below W0.heap.size W0 W) 0 #[true, true, true, true, true, true, true, true, true, true, true, true, true] { tmps := #[x0, x1, x2, x3, x4, x5, .int .i64 (m : Int), x7, x8, x9, x10, x11, x12, x13, x14, x15, x16, x17, x18, x19, x20, x21, x22, x23, x24, x25, x26, .int .i64 (m : Int), .bool false, .bool false, undef, undef, undef, undef, undef, undef, undef, undef, undef, .bool false, x40, x41, x42, x43, x44, x45, x46, x47, x48, x49, x50, x51, x52, x53, x54, x55, x56, x57], defers := [] } W := by
    intro W hB
    refine wpAnyH_done (by kernel_rfl) ?_ _
    subst hQ
    exact ⟨rfl, rfl, (), rfl, hB⟩
  refine wp_region_held_drew (S := fun W => Below W0.heap.size W0 W) (by kernel_rfl) hB (fun hS => ?_)
  change wpAnyH _ _ (opsOf Try.f22 10) _ _ 13 (Array.replicate 13 false) _ (W0.drewN 1)
  clear hS
  replace hB : Below W0.heap.size W0 (W0.drewN 1) := belowN (Below.refl _ _) 1
  refine wpAnyH_pure (i := 0) (v := .int .i64 (m : Int)) (at_nth rfl) (by kernel_rfl) (by kernel_rfl) (by kernel_rfl) (fun _ _ _ h => absurd h (HQN _ _ _)) (by kernel_rfl) (fun w hSw => by kernel_rfl) hB ?_
  simp only [Act.put, List.setIfInBounds_toArray, List.set_cons_succ, List.set_cons_zero]
  refine wpAnyH_pure (i := 1) (v := .bool false) (at_nth rfl) (by kernel_rfl) (by kernel_rfl) (by kernel_rfl) (fun _ _ _ h => absurd h (HQN _ _ _)) (by kernel_rfl) (fun w hSw => by exact exec_bin10 rfl rfl rfl (gtI_no10 (by omega) _) (by go_simp)) hB ?_
  simp only [Act.put, List.setIfInBounds_toArray, List.set_cons_succ, List.set_cons_zero]
  refine wpAnyH_pure (i := 2) (v := .bool false) (at_nth rfl) (by kernel_rfl) (by kernel_rfl) (by kernel_rfl) (fun _ _ _ h => absurd h (HQN _ _ _)) (by kernel_rfl) (fun w hSw => by kernel_rfl) hB ?_
  simp only [Act.put, List.setIfInBounds_toArray, List.set_cons_succ, List.set_cons_zero]
  refine wpAnyH_take (i := 3) (v := undef) (at_nth rfl) (by kernel_rfl) (by kernel_rfl) (by kernel_rfl) (fun _ _ _ h => absurd h (HQN _ _ _)) (Or.inr ⟨by kernel_rfl, rfl⟩) hB ?_
  simp only [Act.put, List.setIfInBounds_toArray, List.set_cons_succ, List.set_cons_zero]
  refine wpAnyH_take (i := 4) (v := undef) (at_nth rfl) (by kernel_rfl) (by kernel_rfl) (by kernel_rfl) (fun _ _ _ h => absurd h (HQN _ _ _)) (Or.inr ⟨by kernel_rfl, rfl⟩) hB ?_
  simp only [Act.put, List.setIfInBounds_toArray, List.set_cons_succ, List.set_cons_zero]
  refine wpAnyH_take (i := 5) (v := undef) (at_nth rfl) (by kernel_rfl) (by kernel_rfl) (by kernel_rfl) (fun _ _ _ h => absurd h (HQN _ _ _)) (Or.inr ⟨by kernel_rfl, rfl⟩) hB ?_
  simp only [Act.put, List.setIfInBounds_toArray, List.set_cons_succ, List.set_cons_zero]
  refine wpAnyH_take (i := 6) (v := undef) (at_nth rfl) (by kernel_rfl) (by kernel_rfl) (by kernel_rfl) (fun _ _ _ h => absurd h (HQN _ _ _)) (Or.inr ⟨by kernel_rfl, rfl⟩) hB ?_
  simp only [Act.put, List.setIfInBounds_toArray, List.set_cons_succ, List.set_cons_zero]
  refine wpAnyH_take (i := 7) (v := undef) (at_nth rfl) (by kernel_rfl) (by kernel_rfl) (by kernel_rfl) (fun _ _ _ h => absurd h (HQN _ _ _)) (Or.inr ⟨by kernel_rfl, rfl⟩) hB ?_
  simp only [Act.put, List.setIfInBounds_toArray, List.set_cons_succ, List.set_cons_zero]
  refine wpAnyH_take (i := 8) (v := undef) (at_nth rfl) (by kernel_rfl) (by kernel_rfl) (by kernel_rfl) (fun _ _ _ h => absurd h (HQN _ _ _)) (Or.inr ⟨by kernel_rfl, rfl⟩) hB ?_
  simp only [Act.put, List.setIfInBounds_toArray, List.set_cons_succ, List.set_cons_zero]
  refine wpAnyH_take (i := 9) (v := undef) (at_nth rfl) (by kernel_rfl) (by kernel_rfl) (by kernel_rfl) (fun _ _ _ h => absurd h (HQN _ _ _)) (Or.inr ⟨by kernel_rfl, rfl⟩) hB ?_
  simp only [Act.put, List.setIfInBounds_toArray, List.set_cons_succ, List.set_cons_zero]
  refine wpAnyH_take (i := 10) (v := undef) (at_nth rfl) (by kernel_rfl) (by kernel_rfl) (by kernel_rfl) (fun _ _ _ h => absurd h (HQN _ _ _)) (Or.inr ⟨by kernel_rfl, rfl⟩) hB ?_
  simp only [Act.put, List.setIfInBounds_toArray, List.set_cons_succ, List.set_cons_zero]
  refine wpAnyH_take (i := 11) (v := undef) (at_nth rfl) (by kernel_rfl) (by kernel_rfl) (by kernel_rfl) (fun _ _ _ h => absurd h (HQN _ _ _)) (Or.inr ⟨by kernel_rfl, rfl⟩) hB ?_
  simp only [Act.put, List.setIfInBounds_toArray, List.set_cons_succ, List.set_cons_zero]
  refine wpAnyH_pure (i := 12) (v := .bool false) (at_nth rfl) (by kernel_rfl) (by kernel_rfl) (by kernel_rfl) (fun _ _ _ h => absurd h (HQN _ _ _)) (by kernel_rfl) (fun w hSw => by kernel_rfl) hB ?_
  simp only [Act.put, List.setIfInBounds_toArray, List.set_cons_succ, List.set_cons_zero]
  exact ST _ hB

set_option maxRecDepth 100000 in
set_option maxHeartbeats 4000000 in
theorem dal12_10b (W0 : World) (bO oO n c m j : Nat) (p1 : ByteArray) (DX : Nat) (st : Int) (l x : ByteArray) (iX : Is W0 DX 25 (bktA ⟨st, l, x⟩)) (hm : m = j + 1) (hm2 : m ≤ 1000000) (hj : j < n) (hbo : bO < W0.heap.size) (hcp : W0.cell? ⟨bO, oO + j * 2, none⟩ = some (.string p1)) (x0 x1 x2 x4 x7 x8 x9 x10 x11 x12 x13 x14 x15 x16 x17 x18 x19 x20 x21 x22 x23 x24 x25 x26 x27 x28 x29 x30 x31 x32 x33 x34 x35 x36 x37 x38 x39 x40 x41 x42 x43 x44 x45 x46 x47 x48 x49 x50 x51 x52 x53 x54 x55 x56 x57 : Value) :
    (Code.region 10 (opsOf Try.f22 10) true).wp Try.prog (fun ex YY W => ex = .normal ∧ YY.defers = [] ∧ ∃ (_ : Unit), YY.tmps = #[x0, x1, x2, .slice (some ⟨bO, oO, none⟩) n c, x4, .pointer (some ⟨DX, 0, none⟩), .int .i64 (m : Int), x7, x8, x9, x10, x11, x12, x13, x14, x15, x16, x17, x18, x19, x20, x21, x22, x23, x24, x25, x26, .int .i64 (m : Int), .bool true, .bool true, .slice (some ⟨bO, oO, none⟩) n c, .int .i64 (m : Int), .int .i64 (j : Int), .pointer (some ⟨bO, oO + j * 2, none⟩), .pointer (some ⟨bO, oO + j * 2, none⟩), .string p1, .pointer (some ⟨DX, 1, none⟩), .string l, .bool (ls12 l p1), .bool (ls12 l p1), x40, x41, x42, x43, x44, x45, x46, x47, x48, x49, x50, x51, x52, x53, x54, x55, x56, x57] ∧ Below W0.heap.size W0 W) { tmps := #[x0, x1, x2, .slice (some ⟨bO, oO, none⟩) n c, x4, .pointer (some ⟨DX, 0, none⟩), .int .i64 (m : Int), x7, x8, x9, x10, x11, x12, x13, x14, x15, x16, x17, x18, x19, x20, x21, x22, x23, x24, x25, x26, x27, x28, x29, x30, x31, x32, x33, x34, x35, x36, x37, x38, x39, x40, x41, x42, x43, x44, x45, x46, x47, x48, x49, x50, x51, x52, x53, x54, x55, x56, x57], defers := [] } W0 := by
  have hB : Below W0.heap.size W0 (W0.drewN 1) := belowN (Below.refl _ _) 1
  generalize hQ : (fun (ex : Exit) (YY : Act) (W : World) => ex = .normal ∧ YY.defers = [] ∧ ∃ (_ : Unit), YY.tmps = #[x0, x1, x2, .slice (some ⟨bO, oO, none⟩) n c, x4, .pointer (some ⟨DX, 0, none⟩), .int .i64 (m : Int), x7, x8, x9, x10, x11, x12, x13, x14, x15, x16, x17, x18, x19, x20, x21, x22, x23, x24, x25, x26, .int .i64 (m : Int), .bool true, .bool true, .slice (some ⟨bO, oO, none⟩) n c, .int .i64 (m : Int), .int .i64 (j : Int), .pointer (some ⟨bO, oO + j * 2, none⟩), .pointer (some ⟨bO, oO + j * 2, none⟩), .string p1, .pointer (some ⟨DX, 1, none⟩), .string l, .bool (ls12 l p1), .bool (ls12 l p1), x40, x41, x42, x43, x44, x45, x46, x47, x48, x49, x50, x51, x52, x53, x54, x55, x56, x57] ∧ Below W0.heap.size W0 W) = Q
  have HQN : ∀ c a W, ¬ Q (.panic c) a W := fun c a W h => by subst hQ; exact nomatch h.1
  have ST : ∀ (W : World), Below W0.heap.size W0 W → wpAnyH Try.prog .any (opsOf Try.f22 10) Q (fun W => Below W0.heap.size W0 W) 0 #[true, true, true, true, true, true, true, true, true, true, true, true, true] { tmps := #[x0, x1, x2, .slice (some ⟨bO, oO, none⟩) n c, x4, .pointer (some ⟨DX, 0, none⟩), .int .i64 (m : Int), x7, x8, x9, x10, x11, x12, x13, x14, x15, x16, x17, x18, x19, x20, x21, x22, x23, x24, x25, x26, .int .i64 (m : Int), .bool true, .bool true, .slice (some ⟨bO, oO, none⟩) n c, .int .i64 (m : Int), .int .i64 (j : Int), .pointer (some ⟨bO, oO + j * 2, none⟩), .pointer (some ⟨bO, oO + j * 2, none⟩), .string p1, .pointer (some ⟨DX, 1, none⟩), .string l, .bool (ls12 l p1), .bool (ls12 l p1), x40, x41, x42, x43, x44, x45, x46, x47, x48, x49, x50, x51, x52, x53, x54, x55, x56, x57], defers := [] } W := by
    intro W hB
    refine wpAnyH_done (by kernel_rfl) ?_ _
    subst hQ
    exact ⟨rfl, rfl, (), rfl, hB⟩
  refine wp_region_held_drew (S := fun W => Below W0.heap.size W0 W) (by kernel_rfl) hB (fun hS => ?_)
  change wpAnyH _ _ (opsOf Try.f22 10) _ _ 13 (Array.replicate 13 false) _ (W0.drewN 1)
  clear hS
  replace hB : Below W0.heap.size W0 (W0.drewN 1) := belowN (Below.refl _ _) 1
  refine wpAnyH_pure (i := 0) (v := .int .i64 (m : Int)) (at_nth rfl) (by kernel_rfl) (by kernel_rfl) (by kernel_rfl) (fun _ _ _ h => absurd h (HQN _ _ _)) (by kernel_rfl) (fun w hSw => by kernel_rfl) hB ?_
  simp only [Act.put, List.setIfInBounds_toArray, List.set_cons_succ, List.set_cons_zero]
  refine wpAnyH_pure (i := 1) (v := .bool true) (at_nth rfl) (by kernel_rfl) (by kernel_rfl) (by kernel_rfl) (fun _ _ _ h => absurd h (HQN _ _ _)) (by kernel_rfl) (fun w hSw => by exact exec_bin10 rfl rfl rfl (gtI_yes12 (by omega) _) (by go_simp)) hB ?_
  simp only [Act.put, List.setIfInBounds_toArray, List.set_cons_succ, List.set_cons_zero]
  refine wpAnyH_pure (i := 2) (v := .bool true) (at_nth rfl) (by kernel_rfl) (by kernel_rfl) (by kernel_rfl) (fun _ _ _ h => absurd h (HQN _ _ _)) (by kernel_rfl) (fun w hSw => by kernel_rfl) hB ?_
  simp only [Act.put, List.setIfInBounds_toArray, List.set_cons_succ, List.set_cons_zero]
  refine wpAnyH_pure (i := 3) (v := .slice (some ⟨bO, oO, none⟩) n c) (at_nth rfl) (by kernel_rfl) (by kernel_rfl) (by kernel_rfl) (fun _ _ _ h => absurd h (HQN _ _ _)) (by kernel_rfl) (fun w hSw => by kernel_rfl) hB ?_
  simp only [Act.put, List.setIfInBounds_toArray, List.set_cons_succ, List.set_cons_zero]
  refine wpAnyH_pure (i := 4) (v := .int .i64 (m : Int)) (at_nth rfl) (by kernel_rfl) (by kernel_rfl) (by kernel_rfl) (fun _ _ _ h => absurd h (HQN _ _ _)) (by kernel_rfl) (fun w hSw => by kernel_rfl) hB ?_
  simp only [Act.put, List.setIfInBounds_toArray, List.set_cons_succ, List.set_cons_zero]
  refine wpAnyH_pure (i := 5) (v := .int .i64 (j : Int)) (at_nth rfl) (by kernel_rfl) (by kernel_rfl) (by kernel_rfl) (fun _ _ _ h => absurd h (HQN _ _ _)) (by kernel_rfl) (fun w hSw => by exact exec_bin10 rfl rfl rfl (subJ12 hm hm2 _) (by go_simp)) hB ?_
  simp only [Act.put, List.setIfInBounds_toArray, List.set_cons_succ, List.set_cons_zero]
  refine wpAnyH_pure (i := 6) (v := .pointer (some ⟨bO, oO + j * 2, none⟩)) (at_nth rfl) (by kernel_rfl) (by kernel_rfl) (by kernel_rfl) (fun _ _ _ h => absurd h (HQN _ _ _)) (by kernel_rfl) (fun w hSw => by have hk' := hj; go_simp) hB ?_
  simp only [Act.put, List.setIfInBounds_toArray, List.set_cons_succ, List.set_cons_zero]
  refine wpAnyH_pure (i := 7) (v := .pointer (some ⟨bO, oO + j * 2, none⟩)) (at_nth rfl) (by kernel_rfl) (by kernel_rfl) (by kernel_rfl) (fun _ _ _ h => absurd h (HQN _ _ _)) (by kernel_rfl) (fun w hSw => by go_simp) hB ?_
  simp only [Act.put, List.setIfInBounds_toArray, List.set_cons_succ, List.set_cons_zero]
  refine wpAnyH_pure (i := 8) (v := .string p1) (at_nth rfl) (by kernel_rfl) (by kernel_rfl) (by kernel_rfl) (fun _ _ _ h => absurd h (HQN _ _ _)) (by kernel_rfl) (fun w hSw => by (have hc := cell_below12 hSw hcp hbo; go_simp)) hB ?_
  simp only [Act.put, List.setIfInBounds_toArray, List.set_cons_succ, List.set_cons_zero]
  refine wpAnyH_pure (i := 9) (v := .pointer (some ⟨DX, 1, none⟩)) (at_nth rfl) (by kernel_rfl) (by kernel_rfl) (by kernel_rfl) (fun _ _ _ h => absurd h (HQN _ _ _)) (by kernel_rfl) (fun w hSw => by go_simp) hB ?_
  simp only [Act.put, List.setIfInBounds_toArray, List.set_cons_succ, List.set_cons_zero]
  refine wpAnyH_pure (i := 10) (v := .string l) (at_nth rfl) (by kernel_rfl) (by kernel_rfl) (by kernel_rfl) (fun _ _ _ h => absurd h (HQN _ _ _)) (by kernel_rfl) (fun w hSw => by (have hc := (iX.below hSw iX.lt).cell 1; go_simp)) hB ?_
  simp only [Act.put, List.setIfInBounds_toArray, List.set_cons_succ, List.set_cons_zero]
  refine wpAnyH_pure (i := 11) (v := .bool (ls12 l p1)) (at_nth rfl) (by kernel_rfl) (by kernel_rfl) (by kernel_rfl) (fun _ _ _ h => absurd h (HQN _ _ _)) (by kernel_rfl) (fun w hSw => by exact exec_bin10 rfl rfl rfl (gtS12 p1 l _) (by go_simp)) hB ?_
  simp only [Act.put, List.setIfInBounds_toArray, List.set_cons_succ, List.set_cons_zero]
  refine wpAnyH_pure (i := 12) (v := .bool (ls12 l p1)) (at_nth rfl) (by kernel_rfl) (by kernel_rfl) (by kernel_rfl) (fun _ _ _ h => absurd h (HQN _ _ _)) (by kernel_rfl) (fun w hSw => by kernel_rfl) hB ?_
  simp only [Act.put, List.setIfInBounds_toArray, List.set_cons_succ, List.set_cons_zero]
  exact ST _ hB

set_option maxRecDepth 100000 in
set_option maxHeartbeats 4000000 in
theorem dal12_12 (W0 : World) (base : Nat) (A : Option Addr) (c n K : Nat) (L : List Par12) (DX : Nat) (st : Int) (l x : ByteArray) (iX : Is W0 DX 25 (bktA ⟨st, l, x⟩)) (hK : K ≤ n) (hl : L.length = n) (hn : n ≤ 5000) (hR : RowV W0 base 53 2 A c n (flP L)) (x0 x1 x2 x4 x7 x8 x9 x10 x11 x12 x13 x14 x15 x16 x17 x18 x19 x20 x21 x22 x23 x24 x25 x26 x27 x28 x29 x30 x31 x32 x33 x34 x35 x36 x37 x38 x39 x40 x41 x42 x43 x44 x45 x46 x47 x48 x49 x50 x51 x52 x53 x54 x55 x56 x57 : Value) :
    (Code.region 12 (opsOf Try.f22 12) true).wp Try.prog (fun ex YY W => ex = .normal ∧ YY.defers = [] ∧ ∃ (AU : Option Addr) (cU : Nat) (DP : Nat) (AV : Option Addr) (cV : Nat) (AT : Option Addr) (cT : Nat), YY.tmps = #[x0, x1, x2, .slice AT (n + 1) cT, x4, .pointer (some ⟨DX, 0, none⟩), .int .i64 (K : Int), x7, x8, x9, x10, x11, x12, x13, x14, x15, x16, x17, x18, x19, x20, x21, x22, x23, x24, x25, x26, x27, x28, x29, x30, x31, x32, x33, x34, x35, x36, x37, x38, x39, x40, x41, .slice A n c, .int .i64 (K : Int), .slice A K c, .slice AU K cU, .pointer (some ⟨DX, 1, none⟩), .string l, .pointer (some ⟨DX, 2, none⟩), .string x, .agg #[.string l, .string x], .slice (some ⟨DP, 0, none⟩) 1 1, .slice AV (K + 1) cV, .slice A n c, .int .i64 (K : Int), .slice (if c = K then A else A.map (·.add (K * 2))) (n - K) (c - K), .slice AT (n + 1) cT, x57] ∧ Below W0.heap.size W0 W ∧ RowV W W0.heap.size 53 2 AT cT (n + 1) ((flP L).take (K * 2) ++ [.string l, .string x] ++ (flP L).drop (K * 2))) { tmps := #[x0, x1, x2, .slice A n c, x4, .pointer (some ⟨DX, 0, none⟩), .int .i64 (K : Int), x7, x8, x9, x10, x11, x12, x13, x14, x15, x16, x17, x18, x19, x20, x21, x22, x23, x24, x25, x26, x27, x28, x29, x30, x31, x32, x33, x34, x35, x36, x37, x38, x39, x40, x41, x42, x43, x44, x45, x46, x47, x48, x49, x50, x51, x52, x53, x54, x55, x56, x57], defers := [] } W0 := by
  obtain ⟨it, hi, hz0, hz1, hz2⟩ := infoThree10 infoPair12
  have hnk : K + 1 + (n - K) = n + 1 := by omega
  have hB : Below W0.heap.size W0 (W0.drewN 1) := belowN (Below.refl _ _) 1
  generalize hQ : (fun (ex : Exit) (YY : Act) (W : World) => ex = .normal ∧ YY.defers = [] ∧ ∃ (AU : Option Addr) (cU : Nat) (DP : Nat) (AV : Option Addr) (cV : Nat) (AT : Option Addr) (cT : Nat), YY.tmps = #[x0, x1, x2, .slice AT (n + 1) cT, x4, .pointer (some ⟨DX, 0, none⟩), .int .i64 (K : Int), x7, x8, x9, x10, x11, x12, x13, x14, x15, x16, x17, x18, x19, x20, x21, x22, x23, x24, x25, x26, x27, x28, x29, x30, x31, x32, x33, x34, x35, x36, x37, x38, x39, x40, x41, .slice A n c, .int .i64 (K : Int), .slice A K c, .slice AU K cU, .pointer (some ⟨DX, 1, none⟩), .string l, .pointer (some ⟨DX, 2, none⟩), .string x, .agg #[.string l, .string x], .slice (some ⟨DP, 0, none⟩) 1 1, .slice AV (K + 1) cV, .slice A n c, .int .i64 (K : Int), .slice (if c = K then A else A.map (·.add (K * 2))) (n - K) (c - K), .slice AT (n + 1) cT, x57] ∧ Below W0.heap.size W0 W ∧ RowV W W0.heap.size 53 2 AT cT (n + 1) ((flP L).take (K * 2) ++ [.string l, .string x] ++ (flP L).drop (K * 2))) = Q
  have HQN : ∀ c a W, ¬ Q (.panic c) a W := fun c a W h => by subst hQ; exact nomatch h.1
  have ST3_9_10_14 : ∀ (W : World) (AU : Option Addr) (cU : Nat) (DP : Nat) (AV : Option Addr) (cV : Nat) (AT : Option Addr) (cT : Nat), Below W0.heap.size W0 W → RowV W W0.heap.size 53 2 AT cT (n + 1) ((flP L).take (K * 2) ++ [.string l, .string x] ++ (flP L).drop (K * 2)) → wpAnyH Try.prog .any (opsOf Try.f22 12) Q (fun W => Below W0.heap.size W0 W) 0 #[true, true, true, true, true, true, true, true, true, true, true, true, true, true, true, true] { tmps := #[x0, x1, x2, .slice AT (n + 1) cT, x4, .pointer (some ⟨DX, 0, none⟩), .int .i64 (K : Int), x7, x8, x9, x10, x11, x12, x13, x14, x15, x16, x17, x18, x19, x20, x21, x22, x23, x24, x25, x26, x27, x28, x29, x30, x31, x32, x33, x34, x35, x36, x37, x38, x39, x40, x41, .slice A n c, .int .i64 (K : Int), .slice A K c, .slice AU K cU, .pointer (some ⟨DX, 1, none⟩), .string l, .pointer (some ⟨DX, 2, none⟩), .string x, .agg #[.string l, .string x], .slice (some ⟨DP, 0, none⟩) 1 1, .slice AV (K + 1) cV, .slice A n c, .int .i64 (K : Int), .slice (if c = K then A else A.map (·.add (K * 2))) (n - K) (c - K), .slice AT (n + 1) cT, x57], defers := [] } W := by
    intro W AU cU DP AV cV AT cT hB hT
    refine wpAnyH_done (by kernel_rfl) ?_ _
    subst hQ
    exact ⟨rfl, rfl, AU, cU, DP, AV, cV, AT, cT, rfl, hB, hT⟩
  have ST3_9_10 : ∀ (W : World) (AU : Option Addr) (cU : Nat) (DP : Nat) (AV : Option Addr) (cV : Nat), Below W0.heap.size W0 W → RowV W W0.heap.size 53 2 AV cV (K + 1) ((flP L).take (K * 2) ++ [.string l, .string x]) → wpAnyH Try.prog .any (opsOf Try.f22 12) Q (fun W => Below W0.heap.size W0 W) 2 #[true, true, true, true, true, true, true, true, true, true, true, true, true, true, false, false] { tmps := #[x0, x1, x2, .slice A n c, x4, .pointer (some ⟨DX, 0, none⟩), .int .i64 (K : Int), x7, x8, x9, x10, x11, x12, x13, x14, x15, x16, x17, x18, x19, x20, x21, x22, x23, x24, x25, x26, x27, x28, x29, x30, x31, x32, x33, x34, x35, x36, x37, x38, x39, x40, x41, .slice A n c, .int .i64 (K : Int), .slice A K c, .slice AU K cU, .pointer (some ⟨DX, 1, none⟩), .string l, .pointer (some ⟨DX, 2, none⟩), .string x, .agg #[.string l, .string x], .slice (some ⟨DP, 0, none⟩) 1 1, .slice AV (K + 1) cV, .slice A n c, .int .i64 (K : Int), .slice (if c = K then A else A.map (·.add (K * 2))) (n - K) (c - K), x56, x57], defers := [] } W := by
    intro W AU cU DP AV cV hB hV
    refine wpAnyH_ready (by kernel_rfl) (by simp) (AllReadyH.cons (i := 14) (at_nth rfl) ?_ (AllReadyH.nil))
    · refine arm_moreV12 (by kernel_rfl) _ _ 42 53 it (.agg #[.string ⟨#[]⟩, .string ⟨#[]⟩]) 2 32 rfl Try.underlying42 hi hz0 hz1 hz2 rfl (by decide) W0.heap.size AV cV (K + 1) ((flP L).take (K * 2) ++ [.string l, .string x]) hV (if c = K then A else A.map (·.add (K * 2))) (c - K) (n - K) ((flP L).drop (K * 2)) (by rw [List.length_drop, flP_len, hl]; omega) (fun u hu => flP_one L u (List.mem_of_mem_drop hu)) ((hR.inV.keep hB).drop12 (n := n) (by rw [flP_len, hl]) hR.nil12.2) (fun e => ⟨by have := hR.nilDrop12 K 2 e; have := hR.nil12.2; omega, hR.nilDrop12 K 2 e⟩) (by unfold maxLen; omega) (by omega) ⟨rfl, rfl⟩ hB.size ?_
      intro AT cT Wn hT hg
      have hB2 := hB.grown hg hB.size (fun k e => hV.own12 k e)
      rw [hnk] at hT
      rw [hnk]
      replace hB := hB2
      clear hg hB2
      refine ⟨hB, ?_⟩
      simp only [Act.put, List.setIfInBounds_toArray, List.set_cons_succ, List.set_cons_zero]
      refine wpAnyH_pure (i := 15) (v := .slice AT (n + 1) cT) (at_nth rfl) (by kernel_rfl) (by kernel_rfl) (by kernel_rfl) (fun _ _ _ h => absurd h (HQN _ _ _)) (by kernel_rfl) (fun w hSw => by kernel_rfl) hB ?_
      simp only [Act.put, List.setIfInBounds_toArray, List.set_cons_succ, List.set_cons_zero]
      exact ST3_9_10_14 _ _ _ _ _ _ _ _ hB hT
  have ST3_9 : ∀ (W : World) (AU : Option Addr) (cU : Nat) (DP : Nat), Below W0.heap.size W0 W → RowV W W0.heap.size 53 2 AU cU K ((flP L).take (K * 2)) → InV W (some ⟨DP, 0, none⟩) [.string l, .string x] → wpAnyH Try.prog .any (opsOf Try.f22 12) Q (fun W => Below W0.heap.size W0 W) 3 #[true, true, true, true, true, true, true, true, true, true, false, true, true, true, false, false] { tmps := #[x0, x1, x2, .slice A n c, x4, .pointer (some ⟨DX, 0, none⟩), .int .i64 (K : Int), x7, x8, x9, x10, x11, x12, x13, x14, x15, x16, x17, x18, x19, x20, x21, x22, x23, x24, x25, x26, x27, x28, x29, x30, x31, x32, x33, x34, x35, x36, x37, x38, x39, x40, x41, .slice A n c, .int .i64 (K : Int), .slice A K c, .slice AU K cU, .pointer (some ⟨DX, 1, none⟩), .string l, .pointer (some ⟨DX, 2, none⟩), .string x, .agg #[.string l, .string x], .slice (some ⟨DP, 0, none⟩) 1 1, x52, .slice A n c, .int .i64 (K : Int), .slice (if c = K then A else A.map (·.add (K * 2))) (n - K) (c - K), x56, x57], defers := [] } W := by
    intro W AU cU DP hB hU hP
    refine wpAnyH_ready (by kernel_rfl) (by simp) (AllReadyH.cons (i := 10) (at_nth rfl) ?_ (AllReadyH.nil))
    · refine arm_moreV12 (by kernel_rfl) _ _ 42 53 it (.agg #[.string ⟨#[]⟩, .string ⟨#[]⟩]) 2 32 rfl Try.underlying42 hi hz0 hz1 hz2 rfl (by decide) W0.heap.size AU cU K ((flP L).take (K * 2)) hU (some ⟨DP, 0, none⟩) 1 1 [.string l, .string x] rfl (fun u hu => by simp only [List.mem_cons, List.not_mem_nil, or_false] at hu; rcases hu with rfl | rfl <;> rfl) hP (fun e => nomatch e) (by unfold maxLen; omega) (by omega) ⟨rfl, rfl⟩ hB.size ?_
      intro AV cV Wn hV hg
      have hB2 := hB.grown hg hB.size (fun k e => hU.own12 k e)
      replace hB := hB2
      clear hg hB2
      refine ⟨hB, ?_⟩
      simp only [Act.put, List.setIfInBounds_toArray, List.set_cons_succ, List.set_cons_zero]
      exact ST3_9_10 _ _ _ _ _ _ hB hV
  have ST3 : ∀ (W : World) (AU : Option Addr) (cU : Nat), Below W0.heap.size W0 W → RowV W W0.heap.size 53 2 AU cU K ((flP L).take (K * 2)) → wpAnyH Try.prog .any (opsOf Try.f22 12) Q (fun W => Below W0.heap.size W0 W) 4 #[true, true, true, true, true, true, true, true, true, false, false, true, true, true, false, false] { tmps := #[x0, x1, x2, .slice A n c, x4, .pointer (some ⟨DX, 0, none⟩), .int .i64 (K : Int), x7, x8, x9, x10, x11, x12, x13, x14, x15, x16, x17, x18, x19, x20, x21, x22, x23, x24, x25, x26, x27, x28, x29, x30, x31, x32, x33, x34, x35, x36, x37, x38, x39, x40, x41, .slice A n c, .int .i64 (K : Int), .slice A K c, .slice AU K cU, .pointer (some ⟨DX, 1, none⟩), .string l, .pointer (some ⟨DX, 2, none⟩), .string x, .agg #[.string l, .string x], x51, x52, .slice A n c, .int .i64 (K : Int), .slice (if c = K then A else A.map (·.add (K * 2))) (n - K) (c - K), x56, x57], defers := [] } W := by
    intro W AU cU hB hU
    refine wpAnyH_ready (by kernel_rfl) (by simp) (AllReadyH.cons (i := 9) (at_nth rfl) ?_ (AllReadyH.nil))
    · have hP := inV_pair12 W l x
      replace hU := hU.belowK ((Below.refl _ _).alloc (Nat.le_refl _) (.cells #[.string l, .string x] 53))
      replace hB := hB.alloc hB.size (.cells #[.string l, .string x] 53)
      refine arm10_value (v := .slice (some ⟨W.heap.size, 0, none⟩) 1 1) (w' := W.alloc (.cells #[.string l, .string x] 53)) (by kernel_rfl) (by go_simp) hB ?_
      simp only [Act.put, List.setIfInBounds_toArray, List.set_cons_succ, List.set_cons_zero]
      exact ST3_9 _ _ _ _ hB hU hP
  have ST9 : ∀ (W : World) (DP : Nat), Below W0.heap.size W0 W → InV W (some ⟨DP, 0, none⟩) [.string l, .string x] → wpAnyH Try.prog .any (opsOf Try.f22 12) Q (fun W => Below W0.heap.size W0 W) 4 #[true, true, true, false, true, true, true, true, true, true, false, true, true, true, false, false] { tmps := #[x0, x1, x2, .slice A n c, x4, .pointer (some ⟨DX, 0, none⟩), .int .i64 (K : Int), x7, x8, x9, x10, x11, x12, x13, x14, x15, x16, x17, x18, x19, x20, x21, x22, x23, x24, x25, x26, x27, x28, x29, x30, x31, x32, x33, x34, x35, x36, x37, x38, x39, x40, x41, .slice A n c, .int .i64 (K : Int), .slice A K c, x45, .pointer (some ⟨DX, 1, none⟩), .string l, .pointer (some ⟨DX, 2, none⟩), .string x, .agg #[.string l, .string x], .slice (some ⟨DP, 0, none⟩) 1 1, x52, .slice A n c, .int .i64 (K : Int), .slice (if c = K then A else A.map (·.add (K * 2))) (n - K) (c - K), x56, x57], defers := [] } W := by
    intro W DP hB hP
    refine wpAnyH_ready (by kernel_rfl) (by simp) (AllReadyH.cons (i := 3) (at_nth rfl) ?_ (AllReadyH.nil))
    · refine arm_copyV12 (by kernel_rfl) _ _ 42 53 it (.agg #[.string ⟨#[]⟩, .string ⟨#[]⟩]) 2 32 rfl Try.underlying42 hi hz0 hz1 hz2 rfl (by decide) A c K ((flP L).take (K * 2)) (by rw [List.length_take, flP_len, hl]; omega) (fun u hu => flP_one L u (List.mem_of_mem_take hu)) ((hR.inV.keep hB).take12 _) hR.nil12.1 (by unfold maxLen; omega) (by omega) ⟨rfl, rfl⟩ W0.heap.size hB.size ?_
      intro AU cU Wn hU hb
      replace hP := hP.keep hb
      replace hB := hB.trans (hb.mono hB.size)
      clear hb
      refine ⟨hB, ?_⟩
      simp only [Act.put, List.setIfInBounds_toArray, List.set_cons_succ, List.set_cons_zero]
      exact ST3_9 _ _ _ _ hB hU hP
  have ST : ∀ (W : World), Below W0.heap.size W0 W → wpAnyH Try.prog .any (opsOf Try.f22 12) Q (fun W => Below W0.heap.size W0 W) 5 #[true, true, true, false, true, true, true, true, true, false, false, true, true, true, false, false] { tmps := #[x0, x1, x2, .slice A n c, x4, .pointer (some ⟨DX, 0, none⟩), .int .i64 (K : Int), x7, x8, x9, x10, x11, x12, x13, x14, x15, x16, x17, x18, x19, x20, x21, x22, x23, x24, x25, x26, x27, x28, x29, x30, x31, x32, x33, x34, x35, x36, x37, x38, x39, x40, x41, .slice A n c, .int .i64 (K : Int), .slice A K c, x45, .pointer (some ⟨DX, 1, none⟩), .string l, .pointer (some ⟨DX, 2, none⟩), .string x, .agg #[.string l, .string x], x51, x52, .slice A n c, .int .i64 (K : Int), .slice (if c = K then A else A.map (·.add (K * 2))) (n - K) (c - K), x56, x57], defers := [] } W := by
    intro W hB
    refine wpAnyH_ready (by kernel_rfl) (by simp) (AllReadyH.cons (i := 3) (at_nth rfl) ?_ (AllReadyH.cons (i := 9) (at_nth rfl) ?_ (AllReadyH.nil)))
    · refine arm_copyV12 (by kernel_rfl) _ _ 42 53 it (.agg #[.string ⟨#[]⟩, .string ⟨#[]⟩]) 2 32 rfl Try.underlying42 hi hz0 hz1 hz2 rfl (by decide) A c K ((flP L).take (K * 2)) (by rw [List.length_take, flP_len, hl]; omega) (fun u hu => flP_one L u (List.mem_of_mem_take hu)) ((hR.inV.keep hB).take12 _) hR.nil12.1 (by unfold maxLen; omega) (by omega) ⟨rfl, rfl⟩ W0.heap.size hB.size ?_
      intro AU cU Wn hU hb
      replace hB := hB.trans (hb.mono hB.size)
      clear hb
      refine ⟨hB, ?_⟩
      simp only [Act.put, List.setIfInBounds_toArray, List.set_cons_succ, List.set_cons_zero]
      exact ST3 _ _ _ hB hU
    · have hP := inV_pair12 W l x
      replace hB := hB.alloc hB.size (.cells #[.string l, .string x] 53)
      refine arm10_value (v := .slice (some ⟨W.heap.size, 0, none⟩) 1 1) (w' := W.alloc (.cells #[.string l, .string x] 53)) (by kernel_rfl) (by go_simp) hB ?_
      simp only [Act.put, List.setIfInBounds_toArray, List.set_cons_succ, List.set_cons_zero]
      exact ST9 _ _ hB hP
  refine wp_region_held_drew (S := fun W => Below W0.heap.size W0 W) (by kernel_rfl) hB (fun hS => ?_)
  change wpAnyH _ _ (opsOf Try.f22 12) _ _ 16 (Array.replicate 16 false) _ (W0.drewN 1)
  clear hS
  replace hB : Below W0.heap.size W0 (W0.drewN 1) := belowN (Below.refl _ _) 1
  refine wpAnyH_pure (i := 0) (v := .slice A n c) (at_nth rfl) (by kernel_rfl) (by kernel_rfl) (by kernel_rfl) (fun _ _ _ h => absurd h (HQN _ _ _)) (by kernel_rfl) (fun w hSw => by kernel_rfl) hB ?_
  simp only [Act.put, List.setIfInBounds_toArray, List.set_cons_succ, List.set_cons_zero]
  refine wpAnyH_pure (i := 1) (v := .int .i64 (K : Int)) (at_nth rfl) (by kernel_rfl) (by kernel_rfl) (by kernel_rfl) (fun _ _ _ h => absurd h (HQN _ _ _)) (by kernel_rfl) (fun w hSw => by kernel_rfl) hB ?_
  simp only [Act.put, List.setIfInBounds_toArray, List.set_cons_succ, List.set_cons_zero]
  refine wpAnyH_pure (i := 2) (v := .slice A K c) (at_nth rfl) (by kernel_rfl) (by kernel_rfl) (by kernel_rfl) (fun _ _ _ h => absurd h (HQN _ _ _)) (by kernel_rfl) (fun w hSw => by (have hx := run_toP12 A n c K hK hR.nil12.2 w; go_simp)) hB ?_
  simp only [Act.put, List.setIfInBounds_toArray, List.set_cons_succ, List.set_cons_zero]
  refine wpAnyH_pure (i := 4) (v := .pointer (some ⟨DX, 1, none⟩)) (at_nth rfl) (by kernel_rfl) (by kernel_rfl) (by kernel_rfl) (fun _ _ _ h => absurd h (HQN _ _ _)) (by kernel_rfl) (fun w hSw => by go_simp) hB ?_
  simp only [Act.put, List.setIfInBounds_toArray, List.set_cons_succ, List.set_cons_zero]
  refine wpAnyH_pure (i := 5) (v := .string l) (at_nth rfl) (by kernel_rfl) (by kernel_rfl) (by kernel_rfl) (fun _ _ _ h => absurd h (HQN _ _ _)) (by kernel_rfl) (fun w hSw => by (have hc := (iX.below hSw iX.lt).cell 1; go_simp)) hB ?_
  simp only [Act.put, List.setIfInBounds_toArray, List.set_cons_succ, List.set_cons_zero]
  refine wpAnyH_pure (i := 6) (v := .pointer (some ⟨DX, 2, none⟩)) (at_nth rfl) (by kernel_rfl) (by kernel_rfl) (by kernel_rfl) (fun _ _ _ h => absurd h (HQN _ _ _)) (by kernel_rfl) (fun w hSw => by go_simp) hB ?_
  simp only [Act.put, List.setIfInBounds_toArray, List.set_cons_succ, List.set_cons_zero]
  refine wpAnyH_pure (i := 7) (v := .string x) (at_nth rfl) (by kernel_rfl) (by kernel_rfl) (by kernel_rfl) (fun _ _ _ h => absurd h (HQN _ _ _)) (by kernel_rfl) (fun w hSw => by (have hc := (iX.below hSw iX.lt).cell 2; go_simp)) hB ?_
  simp only [Act.put, List.setIfInBounds_toArray, List.set_cons_succ, List.set_cons_zero]
  refine wpAnyH_pure (i := 8) (v := .agg #[.string l, .string x]) (at_nth rfl) (by kernel_rfl) (by kernel_rfl) (by kernel_rfl) (fun _ _ _ h => absurd h (HQN _ _ _)) (by kernel_rfl) (fun w hSw => by go_simp) hB ?_
  simp only [Act.put, List.setIfInBounds_toArray, List.set_cons_succ, List.set_cons_zero]
  refine wpAnyH_pure (i := 11) (v := .slice A n c) (at_nth rfl) (by kernel_rfl) (by kernel_rfl) (by kernel_rfl) (fun _ _ _ h => absurd h (HQN _ _ _)) (by kernel_rfl) (fun w hSw => by kernel_rfl) hB ?_
  simp only [Act.put, List.setIfInBounds_toArray, List.set_cons_succ, List.set_cons_zero]
  refine wpAnyH_pure (i := 12) (v := .int .i64 (K : Int)) (at_nth rfl) (by kernel_rfl) (by kernel_rfl) (by kernel_rfl) (fun _ _ _ h => absurd h (HQN _ _ _)) (by kernel_rfl) (fun w hSw => by kernel_rfl) hB ?_
  simp only [Act.put, List.setIfInBounds_toArray, List.set_cons_succ, List.set_cons_zero]
  refine wpAnyH_pure (i := 13) (v := .slice (if c = K then A else A.map (·.add (K * 2))) (n - K) (c - K)) (at_nth rfl) (by kernel_rfl) (by kernel_rfl) (by kernel_rfl) (fun _ _ _ h => absurd h (HQN _ _ _)) (by kernel_rfl) (fun w hSw => by (have hx := run_fromP12 A n c K hK w; go_simp)) hB ?_
  simp only [Act.put, List.setIfInBounds_toArray, List.set_cons_succ, List.set_cons_zero]
  exact ST _ hB

set_option maxRecDepth 100000 in
set_option maxHeartbeats 16000000 in
theorem dall_any12 (s : Sto12) (A : Option Addr) (c : Nat) (w : World) (h : InS w s A c) :
    Calls Try.prog 22 #[stoV s A c] w fun e w' => ∃ A1 c1, e = .returned (.slice A1 (allV12 s).length c1) ∧ InV w' A1 (flP (allV12 s)) ∧ Below w.heap.size w w' := by
  have HB := Lib.hid (fun W (hB : Below w.heap.size w W) => dright_any12 s A c W (h.keep hB))
  have HI := Lib.hid h
  obtain ⟨W1, hW1⟩ : ∃ W1, W1 = w.alloc (.cells (stoA s A c) 31) := ⟨_, rfl⟩
  have i1 : Is W1 w.heap.size 31 (stoA s A c) := by rw [hW1]; exact Is.new _ _ _
  have hB1 : Below w.heap.size w W1 := by rw [hW1]; exact (Below.refl _ _).alloc (Nat.le_refl _) _
  clear h
  go_enter Try.func22, Try.ntmps22
  go_upto_region 1 with (fail)
  rw [← hW1]
  clear hW1
  cases hr : right12 s with
  | false =>
    rw [hr] at HB
    have HR : Hid (allV12 s = []) := Lib.hid (by rw [allV12, hr]; rfl)
    clear hr
    go_wp2_with (first | (refine wpList_load_row rfl 31 _ rfl w.heap.size rfl _ _ _ _ i1 Try.underlying31 rfl infoSto12 ?_) | (go_at_call 19; refine (HB.out _ hB1).mono ?_; rintro e W2 ⟨rfl, hb⟩))
    go_ret
    exact ⟨none, 0, by rw [HR.out]; rfl, by rw [HR.out]; exact fun j u hj => (by cases hj), hB1.trans (hb.mono hB1.size)⟩
  | true =>
    rw [hr] at HB
    have HR : Hid (allV12 s = all12 s.B) := Lib.hid (by rw [allV12, hr]; rfl)
    have hrt := right_iff12.1 hr
    have hn := size_bd12 hrt.size
    clear hr hrt
    go_wp2_with (first | (refine wpList_load_row rfl 31 _ rfl w.heap.size rfl _ _ _ _ i1 Try.underlying31 rfl infoSto12 ?_) | (go_at_call 19; refine (HB.out _ hB1).mono ?_; rintro e W2 ⟨rfl, hb⟩))
    have i2 := i1.below hb i1.lt
    have hB2 := hB1.trans (hb.mono hB1.size)
    clear i1 hB1 hb HB
    go_loopw [3, 4] (fun o i wr => ∃ (k : Nat) (A' : Option Addr) (c' : Nat), k ≤ s.B.length ∧ i = .int .i64 (k : Int) ∧ o = .slice A' (all12 (s.B.take k)).length c' ∧ RowV wr w.heap.size 53 2 A' c' (all12 (s.B.take k)).length (flP (all12 (s.B.take k))) ∧ Is wr w.heap.size 31 (stoA s A c) ∧ Below w.heap.size w wr) (fun _ i _ => s.B.length - (intOf i).toNat)
    case atStart => exact ⟨0, none, 0, by omega, rfl, rfl, World.ownsRow_nil _ _ _ _, i2, hB2⟩
    case round =>
      clear i2 hB2
      obtain ⟨k, A', c', hk, rfl, rfl, hO, i2, hB2⟩ := hrel
      have c0 : wr.cell? ⟨w.heap.size, 0, none⟩ = some (.slice A s.B.length c) := i2.cell 0
      have hd2 := i2.lt
      by_cases hlt : k < s.B.length
      · have q1 : (k : Int) < (s.B.length : Int) := by omega
        have w1i := IntWalk.i64_in ((k : Int) + 1) (by omega)
        obtain ⟨x, hx⟩ : ∃ x, s.B[k]? = some x := ⟨_, List.getElem?_eq_getElem hlt⟩
        obtain ⟨b, off, rfl, hbb, hr⟩ := (HI.out.keep hB2).b.bkt hx
        have HN := Lib.hid (all_more12 hx)
        have hOl : (all12 (s.B.take k)).length ≤ 5000 := Nat.le_trans (all_le12 _) (by rw [List.length_take]; omega)
        obtain ⟨st, xl, xc⟩ := x
        clear hx
        obtain ⟨V, hV⟩ : ∃ V, V = wr.alloc (.cells (bktA ⟨st, xl, xc⟩) 25) := ⟨_, rfl⟩
        have iX : Is V wr.heap.size 25 (bktA ⟨st, xl, xc⟩) := by rw [hV]; exact Is.new _ _ _
        have x0 : V.cell? ⟨wr.heap.size, 0, none⟩ = some (.int .i64 st) := iX.cell 0
        have hO2 : RowV V w.heap.size 53 2 A' c' (all12 (s.B.take k)).length (flP (all12 (s.B.take k))) := by rw [hV]; exact hO.belowK ((Below.refl _ _).alloc (Nat.le_refl _) _)
        have i3 : Is V w.heap.size 31 (stoA s (some ⟨b, off, none⟩) c) := by rw [hV]; exact i2.alloc _
        have hB3 : Below w.heap.size w V := by rw [hV]; exact hB2.alloc hB2.size _
        go_upto_region 8 with (refine wpList_load_mid rfl 25 _ rfl b (off + k * 3) rfl _ _ hr Try.underlying25 rfl infoBkt12 ?_)
        rw [← hV]
        clear hV hO i2 hB2 c0 hd2 hr
        generalize wr.heap.size = DX at *
        by_cases h1 : st = 1
        · subst h1
          have HN1 := Lib.hid ((HN.out.trans (if_pos rfl)).symm)
          clear HN
          generalize all12 (s.B.take k) = O at *
          go_wp2
          go_loopw [6] (fun a wr => ∃ m : Nat, m ≤ O.length ∧ a = .int .i64 (m : Int) ∧ dwn12 O xl O.length = dwn12 O xl m ∧ Below V.heap.size V wr) (fun a _ => (intOf a).toNat)
          case atStart => exact ⟨O.length, by omega, rfl, rfl, Below.refl _ _⟩
          case round =>
            obtain ⟨m, hmO, rfl, hdw, hb2⟩ := hrel
            have hO3 := hO2.belowK hb2
            have iX3 := iX.below hb2 iX.lt
            have i3 := i3.below hb2 i3.lt
            have hB3 := hB3.trans (hb2.mono hB3.size)
            clear hO2 iX
            rcases Nat.eq_zero_or_pos m with hm0 | hm0
            · go_upto_region 10 with (fail)
              refine Code.wp_mono ?_ (dal12_10a wr m hm0 _ _ _ _ _ _ _ _ _ _ _ _ _ _ _ _ _ _ _ _ _ _ _ _ _ _ _ _ _ _ _ _ _ _ _ _ _ _ _ _ _ _ _ _ _ _ _ _ _ _ _ _ _ _ _ _ _)
              rintro ex ⟨T, D⟩ W5 ⟨rfl, hDf, _, hT, hb⟩
              simp only at hT hDf
              subst hT
              subst hDf
              have hO3 := hO3.belowK hb
              have iX3 := iX3.below hb iX3.lt
              have i5 := i3.below hb i3.lt
              have hB5 := hB3.trans (hb.mono hB3.size)
              have hdm : dwn12 O xl O.length = m := by rw [hdw, hm0]; rfl
              clear hb i3 hB3 hb2 hdw x0
              go_upto_region 12 with (fail)
              refine Code.wp_mono ?_ (dal12_12 W5 w.heap.size A' c' O.length m O DX 1 xl xc iX3 hmO rfl hOl hO3 _ _ _ _ _ _ _ _ _ _ _ _ _ _ _ _ _ _ _ _ _ _ _ _ _ _ _ _ _ _ _ _ _ _ _ _ _ _ _ _ _ _ _ _ _ _ _ _ _ _ _ _ _ _ _)
              rintro ex ⟨T, D⟩ W6 ⟨rfl, hDf, AU, cU, DP, AV, cV, AT, cT, hT, hb, hTR⟩
              simp only at hT hDf
              subst hT
              subst hDf
              generalize (if c' = m then A' else (A').map (·.add (m * 2))) = AZ
              have hB6 := hB5.trans (hb.mono hB5.size)
              have i6 := i5.below hb i5.lt
              have hTR := hTR.mono hB5.size
              rw [flP_ins12 O xl xc m hdm] at hTR
              have hle : O.length + 1 = (ins12 O xl xc).length := (ins_len12 O xl xc).symm
              rw [hle] at hTR ⊢
              rw [HN1.out] at hTR ⊢
              clear hb hB5 i5 iX3 hO3 hle
              go_wp2
              go_roundw
              case rel => exact ⟨k + 1, AT, cT, by omega, by go_num, rfl, hTR, i6, hB6⟩
              case measure => simp [intOf]; omega
            · obtain ⟨j, hj⟩ : ∃ j, m = j + 1 := ⟨m - 1, by omega⟩
              have hjn : j < O.length := by omega
              obtain ⟨p, hp⟩ : ∃ p, O[j]? = some p := ⟨_, List.getElem?_eq_getElem hjn⟩
              obtain ⟨bO, oO, rfl, hbo, hrp⟩ := InV.pair12 hO3.inV hp
              have hcp := hrp 0 _ rfl
              rw [Nat.add_zero] at hcp
              have HD := Lib.hid (show dwn12 O xl m = if ls12 xl p.1 then dwn12 O xl j else j + 1 from by rw [hj, dwn12, List.getD_eq_getElem?_getD, hp]; rfl)
              go_upto_region 10 with (fail)
              refine Code.wp_mono ?_ (dal12_10b wr bO oO O.length c' m j p.1 DX 1 xl xc iX3 hj (by omega) hjn hbo hcp _ _ _ _ _ _ _ _ _ _ _ _ _ _ _ _ _ _ _ _ _ _ _ _ _ _ _ _ _ _ _ _ _ _ _ _ _ _ _ _ _ _ _ _ _ _ _ _ _ _ _ _ _ _ _)
              rintro ex ⟨T, D⟩ W5 ⟨rfl, hDf, _, hT, hb⟩
              simp only at hT hDf
              subst hT
              subst hDf
              clear hrp hcp hbo hp
              cases hls : ls12 xl p.1 with
              | true =>
                have HD2 : Hid (dwn12 O xl O.length = dwn12 O xl j) := Lib.hid (by rw [hdw, HD.out, hls]; rfl)
                have hb5 := hb2.trans (hb.mono hb2.size)
                have wj := IntWalk.i64_in ((m : Int) - 1) (by omega)
                have ej : (m : Int) - 1 = (j : Int) := by omega
                clear hls HD hdw hO3 iX3 i3 hB3 hb hb2
                go_wp2
                go_roundw
                case rel => exact ⟨j, by omega, rfl, HD2.out, hb5⟩
                case measure => simp [intOf]; omega
              | false =>
                have hO3 := hO3.belowK hb
                have iX3 := iX3.below hb iX3.lt
                have i5 := i3.below hb i3.lt
                have hB5 := hB3.trans (hb.mono hB3.size)
                have hdm : dwn12 O xl O.length = m := by rw [hdw, HD.out, hls, hj]; rfl
                clear hls HD hdw i3 hB3 hb hb2 x0
                go_upto_region 12 with (fail)
                refine Code.wp_mono ?_ (dal12_12 W5 w.heap.size (some ⟨bO, oO, none⟩ : Option Addr) c' O.length m O DX 1 xl xc iX3 hmO rfl hOl hO3 _ _ _ _ _ _ _ _ _ _ _ _ _ _ _ _ _ _ _ _ _ _ _ _ _ _ _ _ _ _ _ _ _ _ _ _ _ _ _ _ _ _ _ _ _ _ _ _ _ _ _ _ _ _ _)
                rintro ex ⟨T, D⟩ W6 ⟨rfl, hDf, AU, cU, DP, AV, cV, AT, cT, hT, hb, hTR⟩
                simp only at hT hDf
                subst hT
                subst hDf
                generalize (if c' = m then (some ⟨bO, oO, none⟩ : Option Addr) else ((some ⟨bO, oO, none⟩ : Option Addr)).map (·.add (m * 2))) = AZ
                have hB6 := hB5.trans (hb.mono hB5.size)
                have i6 := i5.below hb i5.lt
                have hTR := hTR.mono hB5.size
                rw [flP_ins12 O xl xc m hdm] at hTR
                have hle : O.length + 1 = (ins12 O xl xc).length := (ins_len12 O xl xc).symm
                rw [hle] at hTR ⊢
                rw [HN1.out] at hTR ⊢
                clear hb hB5 i5 iX3 hO3 hle
                go_wp2
                go_roundw
                case rel => exact ⟨k + 1, AT, cT, by omega, by go_num, rfl, hTR, i6, hB6⟩
                case measure => simp [intOf]; omega
        · have HN1 := Lib.hid (HN.out.trans (if_neg h1))
          clear HN
          have hst : (st == 1) = false := beq_false_of_ne h1
          have hsn : (st != 1) = true := bne_iff_ne.2 h1
          go_wp2
          go_roundw
          case rel => exact ⟨k + 1, A', c', by omega, by go_num, by rw [HN1.out], by rw [HN1.out]; exact hO2, i3, hB3⟩
          case measure => simp [intOf]; omega
      · have hkn : k = s.B.length := by omega
        subst hkn
        have q1 : ¬ (s.B.length : Int) < (s.B.length : Int) := by omega
        rw [List.take_length] at hO ⊢
        clear i2
        go_wp2
        go_ret
        exact ⟨A', ⟨c', by rw [HR.out]; rfl⟩, by rw [HR.out]; exact hO.inV, hB2⟩
end Go.Proofs.Ytglcckpkbnppoaa
