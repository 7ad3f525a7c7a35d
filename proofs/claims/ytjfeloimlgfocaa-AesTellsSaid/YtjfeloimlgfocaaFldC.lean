/-
  Contracts of field.mixed, field.Mix, field.Unmix. Conditions: the arguments are bytes.
-/
import Derived.Test.YtjfeloimlgfocaaFldB
import Derived.Test.YtjfeloimlgfocaaFldM
import Derived.Test.YtjfeloimlgfocaaKitR
namespace Go.Proofs.Ytjfeloimlgfocaa
open Go.RowKit

/-- four bytes as cells, by a function. -/
def arr4 (f : Nat → Nat) : Array Value := ((List.range 4).map fun j => Value.int .u8 ((f j : Nat) : Int)).toArray
theorem arr4_size (f : Nat → Nat) : (arr4 f).size = 4 := by simp [arr4]
theorem arr4_get (f : Nat → Nat) (j : Nat) (h : j < 4) : (arr4 f)[j]? = some (.int .u8 ((f j : Nat) : Int)) := by simp [arr4, h]
theorem arr4_congr {f g : Nat → Nat} (h : ∀ j, j < 4 → f j = g j) : arr4 f = arr4 g := by
  unfold arr4; congr 1; exact List.map_congr_left fun j hj => by rw [h j (List.mem_range.1 hj)]
theorem arr4_one (f : Nat → Nat) : (arr4 f).all (·.oneCell') = true := by
  rw [Array.all_eq_true_iff_forall_mem]
  intro v hv
  simp only [arr4, List.mem_toArray, List.mem_map] at hv
  obtain ⟨x, _, rfl⟩ := hv
  rfl
theorem arr4_set (f : Nat → Nat) (k : Nat) (x : Nat) : (arr4 f).setIfInBounds k (.int .u8 (x : Int)) = arr4 (fun j => if j = k then x else f j) := by
  apply Array.ext_getElem?
  intro i
  rw [Array.getElem?_setIfInBounds]
  by_cases hi : i < 4
  · rw [arr4_get _ _ hi, arr4_get _ _ hi, arr4_size]
    by_cases e : k = i
    · subst e; simp [hi]
    · rw [if_neg e, if_neg (fun h => e h.symm)]
  · have e1 : (arr4 f)[i]? = none := by rw [Array.getElem?_eq_none_iff, arr4_size]; omega
    have e2 : (arr4 (fun j => if j = k then x else f j))[i]? = none := by rw [Array.getElem?_eq_none_iff, arr4_size]; omega
    rw [e1, e2, arr4_size]
    split
    · rename_i h; rw [if_neg (by omega)]
    · rfl

/-- the sum of k of the four products for place i. -/
def mixP (c f : Nat → Nat) (i : Nat) : Nat → Nat
  | 0 => 0
  | k + 1 => mixP c f i k ^^^ mulN (f k) (c ((i + k) % 4))
theorem mixP_lt {c f : Nat → Nat} (hf : ∀ j, f j < 256) (i k : Nat) : mixP c f i k < 256 := by
  induction k with
  | zero => show 0 < 256; decide
  | succ k ih => exact xor_lt ih (mulN_lt (hf k))
/-- what is mixed, when i places are done, and k products of the next one. -/
def mixS (c f : Nat → Nat) (i k : Nat) (j : Nat) : Nat := if j < i then mixP c f j 4 else if j = i then mixP c f i k else 0
theorem mixS_at (c f : Nat → Nat) (i k : Nat) : mixS c f i k i = mixP c f i k := by simp [mixS]
theorem mixS_next (c f : Nat → Nat) (i : Nat) : arr4 (mixS c f i 4) = arr4 (mixS c f (i + 1) 0) := by
  refine arr4_congr fun j _ => ?_
  unfold mixS
  by_cases h1 : j < i
  · rw [if_pos h1, if_pos (by omega)]
  · by_cases h2 : j = i
    · rw [if_neg h1, if_pos h2, if_pos (by omega), h2]
    · rw [if_neg h1, if_neg h2, if_neg (by omega)]
      split
      · rfl
      · rfl
theorem mixS_step (c f : Nat → Nat) (i k : Nat) : (arr4 (mixS c f i k)).setIfInBounds i (.int .u8 ((mixP c f i (k + 1) : Nat) : Int)) = arr4 (mixS c f i (k + 1)) := by
  rw [arr4_set]
  refine arr4_congr fun j _ => ?_
  unfold mixS
  by_cases h : j = i
  · subst h; simp
  · rw [if_neg h, if_neg h, if_neg h]
theorem mixS_0 (c f : Nat → Nat) : arr4 (mixS c f 0 0) = #[.int .u8 0, .int .u8 0, .int .u8 0, .int .u8 0] := rfl

set_option maxRecDepth 100000 in
set_option maxHeartbeats 1000000 in
theorem mixed_any (c f : Nat → Nat) (w : World) (hc : ∀ j, c j < 256) (hf : ∀ j, f j < 256) :
    Calls Try.prog 50 #[.agg (arr4 c), .agg (arr4 f)] w fun e w' => e = .returned (.agg (arr4 (mixS c f 4 0))) ∧ Below w.heap.size w w' := by
  have hz : #[Value.int .u8 0, .int .u8 0, .int .u8 0, .int .u8 0] = arr4 (mixS c f 0 0) := rfl
  go_enter Try.func50, Try.ntmps50
  go_wp2
  clear hz
  have iC : Is ((((w.alloc (.cells (arr4 c) 58)).alloc (.cells (arr4 f) 58)).alloc (.cells (arr4 (mixS c f 0 0)) 58)).alloc (.cells (arr4 (mixS c f 0 0)) 58)) w.heap.size 58 (arr4 c) := (((Is.new w _ _).alloc _).alloc _).alloc _
  have iF : Is ((((w.alloc (.cells (arr4 c) 58)).alloc (.cells (arr4 f) 58)).alloc (.cells (arr4 (mixS c f 0 0)) 58)).alloc (.cells (arr4 (mixS c f 0 0)) 58)) (w.heap.size + 1) 58 (arr4 f) := Is.alloc (Is.alloc (heap_alloc2_new w _ _) _) _
  have iR : Is ((((w.alloc (.cells (arr4 c) 58)).alloc (.cells (arr4 f) 58)).alloc (.cells (arr4 (mixS c f 0 0)) 58)).alloc (.cells (arr4 (mixS c f 0 0)) 58)) (w.heap.size + 1 + 1) 58 (arr4 (mixS c f 0 0)) := by
    have := (Is.new ((w.alloc (.cells (arr4 c) 58)).alloc (.cells (arr4 f) 58)) 58 (arr4 (mixS c f 0 0))).alloc (.cells (arr4 (mixS c f 0 0)) 58)
    simpa using this
  have iO : Is ((((w.alloc (.cells (arr4 c) 58)).alloc (.cells (arr4 f) 58)).alloc (.cells (arr4 (mixS c f 0 0)) 58)).alloc (.cells (arr4 (mixS c f 0 0)) 58)) (w.heap.size + 1 + 1 + 1) 58 (arr4 (mixS c f 0 0)) := by
    have := Is.new (((w.alloc (.cells (arr4 c) 58)).alloc (.cells (arr4 f) 58)).alloc (.cells (arr4 (mixS c f 0 0)) 58)) 58 (arr4 (mixS c f 0 0))
    simpa using this
  have hB0 : Below w.heap.size w ((((w.alloc (.cells (arr4 c) 58)).alloc (.cells (arr4 f) 58)).alloc (.cells (arr4 (mixS c f 0 0)) 58)).alloc (.cells (arr4 (mixS c f 0 0)) 58)) := ((((Below.refl _ _).alloc (Nat.le_refl _) _).alloc (by simp) _).alloc (by simp; omega) _).alloc (by simp; omega) _
  generalize ((((w.alloc (.cells (arr4 c) 58)).alloc (.cells (arr4 f) 58)).alloc (.cells (arr4 (mixS c f 0 0)) 58)).alloc (.cells (arr4 (mixS c f 0 0)) 58)) = W0 at *
  generalize hz : arr4 (mixS c f 0 0) = Z at iR
  have HZ := Lib.hid hz
  clear hz
  obtain ⟨Bc, hBc⟩ : ∃ Bc, Bc = w.heap.size := ⟨_, rfl⟩
  obtain ⟨Bf, hBf⟩ : ∃ Bf, Bf = w.heap.size + 1 := ⟨_, rfl⟩
  obtain ⟨Br, hBr⟩ : ∃ Br, Br = w.heap.size + 1 + 1 := ⟨_, rfl⟩
  obtain ⟨Bo, hBo⟩ : ∃ Bo, Bo = w.heap.size + 1 + 1 + 1 := ⟨_, rfl⟩
  rw [← hBo, ← hBr, ← hBf, ← hBc]
  rw [← hBc] at iC
  rw [← hBf] at iF
  rw [← hBr] at iR
  rw [← hBo] at iO
  have q1 : w.heap.size ≤ Bo := by omega
  have q2 : Bc ≠ Bo := by omega
  have q3 : Bf ≠ Bo := by omega
  have q4 : Br ≠ Bo := by omega
  have q5 : w.heap.size ≤ Br := by omega
  clear hBc hBf hBr hBo
  have hf4 : ∀ k : Nat, k < 4 → ∀ wx : World, (Instr.index 58 (.agg (arr4 f)) (.int .i64 (k : Int))).run Try.prog wx = .ok (.int .u8 ((f k : Nat) : Int)) wx := fun k hk wx => by
    rcases (by omega : k = 0 ∨ k = 1 ∨ k = 2 ∨ k = 3) with rfl | rfl | rfl | rfl
    all_goals
      show (Instr.index 58 (.agg #[.int .u8 (f 0 : Int), .int .u8 (f 1 : Int), .int .u8 (f 2 : Int), .int .u8 (f 3 : Int)]) _).run _ _ = _
      simp [Instr.index, run_underlying Try.underlying58, asIntOf, go_sem]
      done
  go_loopw [9] (fun i wr => ∃ n : Nat, n ≤ 4 ∧ i = .int .i64 (n : Int) ∧ Is wr Bc 58 (arr4 c) ∧ Is wr Bf 58 (arr4 f) ∧ Is wr Br 58 Z ∧ Is wr Bo 58 (arr4 (mixS c f n 0)) ∧ Below w.heap.size w wr)
    (fun i _ => 4 - (intOf i).toNat)
  case atStart => exact ⟨0, by omega, rfl, iC, iF, iR, iO, hB0⟩
  case round =>
    clear iC iF iR iO hB0
    obtain ⟨n, hn, rfl, iC, iF, iR, iO, hB⟩ := hrel
    by_cases hlt : n < 4
    · have hi1 : (n : Int) < 4 := by omega
      go_wp2_with (refine wpList_load_row rfl 58 _ rfl Bf rfl _ _ _ _ iF Try.underlying58 rfl (by rw [arr4_size]; kernel_rfl) ?_)
      go_loopw [13] (fun i wr => ∃ k : Nat, k ≤ 4 ∧ i = .int .i64 (k : Int) ∧ Is wr Bc 58 (arr4 c) ∧ Is wr Bf 58 (arr4 f) ∧ Is wr Br 58 Z ∧ Is wr Bo 58 (arr4 (mixS c f n k)) ∧ Below w.heap.size w wr)
        (fun i _ => 4 - (intOf i).toNat)
      case atStart => exact ⟨0, by omega, rfl, iC, iF, iR, iO, hB⟩
      case round =>
        clear iC iF iR iO hB
        obtain ⟨k, hk, rfl, iC, iF, iR, iO, hB⟩ := hrel
        by_cases hlt2 : k < 4
        · have hi2 : (k : Int) < 4 := by omega
          have hfk := hf4 k hlt2
          clear hf4
          have hwr := IntWalk.i64_in ((n : Int) + (k : Int)) (by omega)
          have hmk := mixP_lt hf (c := c) n k
          have hx := u8_xor_nat (mixP c f n k) (mulN (f k) (c ((n + k) % 4))) hmk (mulN_lt (hf k))
          have hst := mixS_step c f n k
          have cO : wr.cell? ⟨Bo, n, none⟩ = some (.int .u8 ((mixP c f n k : Nat) : Int)) := by rw [iO.cell n, arr4_get _ _ hlt, mixS_at]
          have fO := iO.frozen n
          have cC : wr.cell? ⟨Bc, (n + k) % 4, none⟩ = some (.int .u8 ((c ((n + k) % 4) : Nat) : Int)) := by rw [iC.cell, arr4_get _ _ (Nat.mod_lt _ (by decide))]
          have hM := fun w => mul_any (f k) (c ((n + k) % 4)) w (hf k) (hc _)
          change bits BinOp.xor IntKind.u8 _ _ = ((mixP c f n (k + 1) : Nat) : Int) at hx
          rw [← hx] at hst
          have ht : ((n : Int) + (k : Int)).tmod 4 = (((n + k) % 4 : Nat) : Int) := by rw [Int.tmod_eq_emod_of_nonneg (by omega)]; omega
          have hm4 : (((n + k) % 4 : Nat) : Int) < 4 := by omega
          have hn0 : (0 : Int) ≤ (n : Int) := by omega
          have hm0 : (0 : Int) ≤ (((n + k) % 4 : Nat) : Int) := by omega
          generalize (n + k) % 4 = m at *
          generalize mixP c f n k = v at *
          generalize c m = u at *
          generalize f k = fk at *
          generalize mulN fk u = z at *
          go_wp2
          have HST := Lib.hid hst
          have HM := Lib.hid hM
          clear hst hM hfk hx hmk
          refine wp_region_held_drew (S := fun w' => w'.cell? ⟨Bc, m, none⟩ = some (.int .u8 (u : Int))) (by kernel_rfl) cC (fun hS => ?_)
          refine wpAnyH_take (i := 0) (v := .int .i64 (n : Int)) rfl (by kernel_rfl) (by kernel_rfl) (by kernel_rfl) (fun _ _ _ h => h) (Or.inl ⟨by rfl, fun w hSw => by go_simp⟩) hS ?_
          simp only [Act.put]
          refine wpAnyH_take (i := 1) (v := .pointer (some ⟨Bo, n, none⟩)) rfl (by kernel_rfl) (by kernel_rfl) (by kernel_rfl) (fun _ _ _ h => h) (Or.inl ⟨by rfl, fun w hSw => by go_simp⟩) hS ?_
          simp only [Act.put]
          refine wpAnyH_take (i := 3) (v := .int .u8 (fk : Int)) rfl (by kernel_rfl) (by kernel_rfl) (by kernel_rfl) (fun _ _ _ h => h) (Or.inl ⟨by rfl, fun w hSw => by go_simp⟩) hS ?_
          simp only [Act.put]
          refine wpAnyH_take (i := 4) (v := .int .i64 (n : Int)) rfl (by kernel_rfl) (by kernel_rfl) (by kernel_rfl) (fun _ _ _ h => h) (Or.inl ⟨by rfl, fun w hSw => by go_simp⟩) hS ?_
          simp only [Act.put]
          refine wpAnyH_take (i := 5) (v := .int .i64 (k : Int)) rfl (by kernel_rfl) (by kernel_rfl) (by kernel_rfl) (fun _ _ _ h => h) (Or.inl ⟨by rfl, fun w hSw => by go_simp⟩) hS ?_
          simp only [Act.put]
          refine wpAnyH_take (i := 6) (v := .int .i64 ((n : Int) + (k : Int))) rfl (by kernel_rfl) (by kernel_rfl) (by kernel_rfl) (fun _ _ _ h => h) (Or.inl ⟨by rfl, fun w hSw => by go_simp⟩) hS ?_
          simp only [Act.put]
          refine wpAnyH_take (i := 7) (v := .int .i64 (m : Int)) rfl (by kernel_rfl) (by kernel_rfl) (by kernel_rfl) (fun _ _ _ h => h) (Or.inl ⟨by rfl, fun w hSw => by go_simp⟩) hS ?_
          simp only [Act.put]
          refine wpAnyH_take (i := 8) (v := .pointer (some ⟨Bc, m, none⟩)) rfl (by kernel_rfl) (by kernel_rfl) (by kernel_rfl) (fun _ _ _ h => h) (Or.inl ⟨by rfl, fun w hSw => by go_simp⟩) hS ?_
          simp only [Act.put]
          refine wpAnyH_take (i := 9) (v := .int .u8 (u : Int)) rfl (by kernel_rfl) (by kernel_rfl) (by kernel_rfl) (fun _ _ _ h => h) (Or.inl ⟨by rfl, fun w hSw => by (dsimp only at hSw; go_simp)⟩) hS ?_
          simp only [Act.put]
          refine wpAnyH_next2 (i := 2) (j := 10) (by kernel_rfl) rfl rfl ?_ ?_
          · intro Kc hKc
            go_simp
            refine hKc.out _ _ hS (fun _ => ?_)
            clear hKc Kc
            try simp only [Act.put]
            refine wpAnyH_next (i := 10) (by kernel_rfl) rfl (fun Kc hKc => ?_)
            go_simp
            go_at_call 59
            refine (HM.out _).mono ?_
            rintro e w1 ⟨rfl, hb⟩
            have jO : Is w1 Bo 58 (arr4 (mixS c f n k)) := Is.below (w := wr.drewN 1) iO hb iO.lt
            have jC : Is w1 Bc 58 (arr4 c) := Is.below (w := wr.drewN 1) iC hb iC.lt
            have jF : Is w1 Bf 58 (arr4 f) := Is.below (w := wr.drewN 1) iF hb iF.lt
            have jR : Is w1 Br 58 Z := Is.below (w := wr.drewN 1) iR hb iR.lt
            have dO : w1.cell? ⟨Bo, n, none⟩ = some (.int .u8 (v : Int)) := (hb.cell (p := ⟨Bo, n, none⟩) iO.lt).trans cO
            have gO := jO.frozen n
            have dC : w1.cell? ⟨Bc, m, none⟩ = some (.int .u8 (u : Int)) := (hb.cell (p := ⟨Bc, m, none⟩) iC.lt).trans cC
            have hB1 : Below w.heap.size w w1 := (belowN hB 1).trans (hb.mono hB.size)
            clear hb cO cC fO
            refine hKc.out _ _ dC (fun _ => ?_)
            clear hKc Kc
            try simp only [Act.put]
            refine wpAnyH_next (i := 11) (by kernel_rfl) rfl (fun Kc hKc => ?_)
            go_simp
            refine hKc.out _ _ dC (fun _ => ?_)
            clear hKc Kc
            try simp only [Act.put]
            refine wpAnyH_next (i := 12) (by kernel_rfl) rfl (fun Kc hKc => ?_)
            go_simp
            refine hKc.out _ _ dC (fun _ => ?_)
            clear hKc Kc
            try simp only [Act.put]
            refine wpAnyH_next (i := 13) (by kernel_rfl) rfl (fun Kc hKc => ?_)
            go_simp
            have iO2 := jO.set n (.int .u8 (bits BinOp.xor IntKind.u8 (v : Int) (z : Int)))
            rw [HST.out] at iO2
            have iC2 := jC.far (p := ⟨Bo, n, none⟩) q2 (.int .u8 (bits BinOp.xor IntKind.u8 (v : Int) (z : Int)))
            have iF2 := jF.far (p := ⟨Bo, n, none⟩) q3 (.int .u8 (bits BinOp.xor IntKind.u8 (v : Int) (z : Int)))
            have iR2 := jR.far (p := ⟨Bo, n, none⟩) q4 (.int .u8 (bits BinOp.xor IntKind.u8 (v : Int) (z : Int)))
            have hB2 := hB1.setCell (p := ⟨Bo, n, none⟩) q1 (.int .u8 (bits BinOp.xor IntKind.u8 (v : Int) (z : Int)))
            have dC2 := (World.cell?_of_block (w := w1) (a := ⟨Bc, m, none⟩) (heap_setCell_other w1 ⟨Bo, n, none⟩ Bc (.int .u8 (bits BinOp.xor IntKind.u8 (v : Int) (z : Int))) q2)).trans dC
            refine hKc.out _ _ dC2 (fun _ => ?_)
            clear hKc Kc
            try simp only [Act.put]
            refine wpAnyH_done (by kernel_rfl) ?_ _
            go_wp2
            go_roundw
            case rel => exact ⟨k + 1, by omega, by go_num, iC2, iF2, iR2, iO2, hB2⟩
            case measure => simp [intOf]; omega
          · intro Kc hKc
            go_simp
            go_at_call 59
            refine (HM.out _).mono ?_
            rintro e w1 ⟨rfl, hb⟩
            have jO : Is w1 Bo 58 (arr4 (mixS c f n k)) := Is.below (w := wr.drewN 1) iO hb iO.lt
            have jC : Is w1 Bc 58 (arr4 c) := Is.below (w := wr.drewN 1) iC hb iC.lt
            have jF : Is w1 Bf 58 (arr4 f) := Is.below (w := wr.drewN 1) iF hb iF.lt
            have jR : Is w1 Br 58 Z := Is.below (w := wr.drewN 1) iR hb iR.lt
            have dO : w1.cell? ⟨Bo, n, none⟩ = some (.int .u8 (v : Int)) := (hb.cell (p := ⟨Bo, n, none⟩) iO.lt).trans cO
            have gO := jO.frozen n
            have dC : w1.cell? ⟨Bc, m, none⟩ = some (.int .u8 (u : Int)) := (hb.cell (p := ⟨Bc, m, none⟩) iC.lt).trans cC
            have hB1 : Below w.heap.size w w1 := (belowN hB 1).trans (hb.mono hB.size)
            clear hb cO cC fO
            refine hKc.out _ _ dC (fun _ => ?_)
            clear hKc Kc
            try simp only [Act.put]
            refine wpAnyH_next (i := 2) (by kernel_rfl) rfl (fun Kc hKc => ?_)
            go_simp
            refine hKc.out _ _ dC (fun _ => ?_)
            clear hKc Kc
            try simp only [Act.put]
            refine wpAnyH_next (i := 11) (by kernel_rfl) rfl (fun Kc hKc => ?_)
            go_simp
            refine hKc.out _ _ dC (fun _ => ?_)
            clear hKc Kc
            try simp only [Act.put]
            refine wpAnyH_next (i := 12) (by kernel_rfl) rfl (fun Kc hKc => ?_)
            go_simp
            refine hKc.out _ _ dC (fun _ => ?_)
            clear hKc Kc
            try simp only [Act.put]
            refine wpAnyH_next (i := 13) (by kernel_rfl) rfl (fun Kc hKc => ?_)
            go_simp
            have iO2 := jO.set n (.int .u8 (bits BinOp.xor IntKind.u8 (v : Int) (z : Int)))
            rw [HST.out] at iO2
            have iC2 := jC.far (p := ⟨Bo, n, none⟩) q2 (.int .u8 (bits BinOp.xor IntKind.u8 (v : Int) (z : Int)))
            have iF2 := jF.far (p := ⟨Bo, n, none⟩) q3 (.int .u8 (bits BinOp.xor IntKind.u8 (v : Int) (z : Int)))
            have iR2 := jR.far (p := ⟨Bo, n, none⟩) q4 (.int .u8 (bits BinOp.xor IntKind.u8 (v : Int) (z : Int)))
            have hB2 := hB1.setCell (p := ⟨Bo, n, none⟩) q1 (.int .u8 (bits BinOp.xor IntKind.u8 (v : Int) (z : Int)))
            have dC2 := (World.cell?_of_block (w := w1) (a := ⟨Bc, m, none⟩) (heap_setCell_other w1 ⟨Bo, n, none⟩ Bc (.int .u8 (bits BinOp.xor IntKind.u8 (v : Int) (z : Int))) q2)).trans dC
            refine hKc.out _ _ dC2 (fun _ => ?_)
            clear hKc Kc
            try simp only [Act.put]
            refine wpAnyH_done (by kernel_rfl) ?_ _
            go_wp2
            go_roundw
            case rel => exact ⟨k + 1, by omega, by go_num, iC2, iF2, iR2, iO2, hB2⟩
            case measure => simp [intOf]; omega
        · obtain rfl : k = 4 := by omega
          rw [mixS_next] at iO
          go_wp2
          go_roundw
          case rel => exact ⟨n + 1, by omega, by go_num, iC, iF, iR, iO, hB⟩
          case measure => simp [intOf]; omega
    · obtain rfl : n = 4 := by omega
      go_wp2_with (first
        | (refine wpList_load_row rfl 58 _ rfl Bo rfl _ _ _ _ iO Try.underlying58 rfl (by rw [arr4_size]; kernel_rfl) ?_)
        | (refine wpList_store_row rfl 58 _ _ rfl Br (arr4 (mixS c f 4 0)) rfl rfl _ _ iR (by rw [arr4_size]; kernel_rfl) (by rw [arr4_size, ← HZ.out, arr4_size]) (arr4_one _) ?_))
      refine bodyPost_ret (results_cell_row Try.results50 _ _ Br 58 (arr4 (mixS c f 4 0)) (0, 0) _ rfl (iR.row _) Try.underlying58 rfl (by rw [arr4_size]; kernel_rfl)) rfl ⟨rfl, ?_⟩
      exact belowRow hB q5 _
end Go.Proofs.Ytjfeloimlgfocaa
