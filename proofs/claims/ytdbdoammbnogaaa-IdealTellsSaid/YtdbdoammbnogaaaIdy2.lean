/-
  Layer 8: contract of the statements' own Draws: a tape of two thousand bytes that hang on the raw numbers alone. Condition: the numbers lie where the slice points to.
-/
import Derived.Test.YtdbdoammbnogaaaIdy1
import Derived.Test.YtdbdoammbnogaaaGTc
namespace Go.Proofs.Ytdbdoammbnogaaa
open Go.RowKit Go.Shelf

/-- the number ahead of byte k. -/
def drwI (L : List Int) (small : Bool) (k : Nat) : Int :=
  if small then (if k % 8 = 0 ∧ 0 < L.length then pickN (L.getD (k / 8 % L.length) 0) 3 else 0)
  else 7 * (k : Int) * (k : Int) + (if 0 < L.length then pickN (L.getD (k % L.length) 0) 256 * (1 + ((k / L.length : Nat) : Int)) else 0)
def drwL (L : List Int) (small : Bool) (k : Nat) : List Int := (List.range k).map fun j => drwI L small j % 256
def drwS (L : List Int) (small : Bool) : ByteArray := strOfNums (drwL L small 2000)
theorem drwL_len (L : List Int) (small : Bool) (k : Nat) : (drwL L small k).length = k := by simp [drwL]
theorem drwL_succ (L : List Int) (small : Bool) (k : Nat) : drwL L small (k + 1) = drwL L small k ++ [drwI L small k % 256] := by simp [drwL, List.range_succ]
theorem drwS_size (L : List Int) (small : Bool) : (drwS L small).size = 2000 := by rw [drwS, strOfNums_size, drwL_len]
abbrev uL (l : List Int) : List Value := l.map (Value.int .u8)
theorem drw_tmod (a b : Nat) : (a : Int).tmod (b : Int) = ((a % b : Nat) : Int) := rfl
theorem drw_tdiv (a b : Nat) : (a : Int).tdiv (b : Int) = ((a / b : Nat) : Int) := rfl

set_option maxRecDepth 100000 in
set_option maxHeartbeats 8000000 in
theorem draws_any (A : Option Addr) (cap : Nat) (L : List Int) (small : Bool) (w : World) (hc : InL w A L) (hL : ∀ x ∈ L, -9223372036854775808 ≤ x ∧ x ≤ 9223372036854775807) (_hlen : L.length ≤ maxLen) :
    Calls Try.prog 9 #[.slice A L.length cap, .bool small] w fun e w' => e = .returned (.agg #[.string (drwS L small), .int .i64 0]) ∧ Below w.heap.size w w' := by
  obtain ⟨i0, hi0, hz0, hz1, hz2⟩ := infoThree8 infoByte8
  have PK := Lib.hid (fun (c m : Int) (h1 : 0 < m) (h2 : m ≤ 1000) (w : World) (h0 : -9223372036854775808 ≤ c ∧ c ≤ 9223372036854775807) => pick8_any c m w h0.1 h0.2 h1 (by omega))
  have HC := Lib.hid (fun (W : World) (hb : Below w.heap.size w W) => hc.keep hb)
  have HLB := Lib.hid hL
  clear hc hL
  obtain ⟨W1, hW1⟩ : ∃ W, W = w.alloc (.cells #[.string ⟨#[]⟩, .int .i64 0] 26) := ⟨_, rfl⟩
  have iT : Is W1 w.heap.size 26 #[.string ⟨#[]⟩, .int .i64 0] := by rw [hW1]; exact Is.new _ _ _
  have hB : Below w.heap.size w W1 := by rw [hW1]; exact (Below.refl _ _).alloc (Nat.le_refl _) _
  go_enter Try.func9, Try.ntmps9
  go_wp2_with fail
  rw [← hW1]
  clear hW1
  go_wp2
  go_loopw [5, 6] (fun v i wr => ∃ (k : Nat) (A2 : Option Addr) (c2 : Nat), k ≤ 2000 ∧ v = .slice A2 k c2 ∧ i = .int .i64 (k : Int) ∧ RowV wr w.heap.size 5 1 A2 c2 k (uL (drwL L small k)) ∧ Is wr w.heap.size 26 #[.string ⟨#[]⟩, .int .i64 0] ∧ Below w.heap.size w wr)
    (fun _ i _ => 2000 - (intOf i).toNat)
  case atStart => exact ⟨0, none, 0, by omega, rfl, rfl, RowV.nil _ _ _ _, iT, hB⟩
  case round =>
    clear iT hB
    obtain ⟨k, A2, c2, hk, rfl, rfl, hO, iT, hB⟩ := hrel
    by_cases hlt : k < 2000
    · have l1 : (k : Int) < 2000 := by omega
      have w1i := IntWalk.i64_in ((k : Int) + 1) (by omega)
      have hk2 : (k : Int) * (k : Int) ≤ 2000 * 2000 := Int.mul_le_mul (by omega) (by omega) (by omega) (by omega)
      have hk0 : 0 ≤ (k : Int) * (k : Int) := Int.mul_nonneg (by omega) (by omega)
      have w2i := IntWalk.i64_in (7 * (k : Int)) (by omega)
      have w3i := IntWalk.i64_in (7 * (k : Int) * (k : Int)) (by rw [Int.mul_assoc]; omega)
      have hs := drwL_succ L small k
      by_cases h0 : L = []
      · subst h0
        cases small with
        | false =>
          have hd : drwI [] false k = 7 * (k : Int) * (k : Int) := by simp [drwI]
          have hu : IntKind.u8.wrap (7 * (k : Int) * (k : Int)) = (7 * (k : Int) * (k : Int)) % 256 := rfl
          rw [hd] at hs
          generalize (7 * (k : Int) * (k : Int)) % 256 = y at *
          have yOne : ∀ u ∈ (#[.int .u8 y] : Array Value).toList, u.oneCell' = true := fun u hu => by simp only [List.mem_cons, List.not_mem_nil, or_false] at hu; subst hu; rfl
          have hO2 := hO.alloc (.cells #[.int .u8 y] 5)
          have iT2 := iT.alloc (.cells #[.int .u8 y] 5)
          have hB2 := hB.alloc hB.size (.cells #[.int .u8 y] 5)
          have iN : Is (wr.alloc (.cells #[.int .u8 y] 5)) wr.heap.size 5 #[.int .u8 y] := Is.new _ _ _
          go_wp2_with (at_builtin; refine wpList_pushV rfl _ _ 40 5 i0 (.int .u8 0) 1 1 rfl Try.underlying40 hi0 hz0 hz1 hz2 rfl (by decide) w.heap.size A2 c2 k _ hO2 wr.heap.size 5 #[.int .u8 y] iN rfl yOne (by unfold maxLen; omega) (by omega) ⟨rfl, rfl⟩ hB2.size ?_; intro A3 c3 V r3 hg3)
          go_roundw
          case rel =>
            have q2 := hO2.isFar hg3 iT2 (by decide)
            have q3 := hO2.belowG hB2 hg3
            first | exact ⟨k + 1, by omega, A3, c3, ⟨rfl, rfl, rfl⟩, by go_num, by rw [hs]; unfold uL; rw [List.map_append]; exact r3, q2, q3⟩ | exact ⟨k + 1, by omega, A3, c3, rfl, by go_num, by rw [hs]; unfold uL; rw [List.map_append]; exact r3, q2, q3⟩ | exact ⟨k + 1, A3, c3, by omega, rfl, by go_num, by rw [hs]; unfold uL; rw [List.map_append]; exact r3, q2, q3⟩
          case measure => simp [intOf]; omega
        | true =>
          have hd : drwI [] true k = 0 := by simp [drwI]
          by_cases h8 : k % 8 = 0
          · have m8 : (k : Int).tmod 8 = 0 := by rw [show (k : Int).tmod 8 = ((k % 8 : Nat) : Int) from rfl]; omega
            rw [hd, show (0 : Int) % 256 = 0 from rfl] at hs
            have yOne : ∀ u ∈ (#[.int .u8 0] : Array Value).toList, u.oneCell' = true := fun u hu => by simp only [List.mem_cons, List.not_mem_nil, or_false] at hu; subst hu; rfl
            have hO2 := hO.alloc (.cells #[.int .u8 0] 5)
            have iT2 := iT.alloc (.cells #[.int .u8 0] 5)
            have hB2 := hB.alloc hB.size (.cells #[.int .u8 0] 5)
            have iN : Is (wr.alloc (.cells #[.int .u8 0] 5)) wr.heap.size 5 #[.int .u8 0] := Is.new _ _ _
            go_wp2_with (at_builtin; refine wpList_pushV rfl _ _ 40 5 i0 (.int .u8 0) 1 1 rfl Try.underlying40 hi0 hz0 hz1 hz2 rfl (by decide) w.heap.size A2 c2 k _ hO2 wr.heap.size 5 #[.int .u8 0] iN rfl yOne (by unfold maxLen; omega) (by omega) ⟨rfl, rfl⟩ hB2.size ?_; intro A3 c3 V r3 hg3)
            go_roundw
            case rel =>
              have q2 := hO2.isFar hg3 iT2 (by decide)
              have q3 := hO2.belowG hB2 hg3
              first | exact ⟨k + 1, by omega, A3, c3, ⟨rfl, rfl, rfl⟩, by go_num, by rw [hs]; unfold uL; rw [List.map_append]; exact r3, q2, q3⟩ | exact ⟨k + 1, by omega, A3, c3, rfl, by go_num, by rw [hs]; unfold uL; rw [List.map_append]; exact r3, q2, q3⟩ | exact ⟨k + 1, A3, c3, by omega, rfl, by go_num, by rw [hs]; unfold uL; rw [List.map_append]; exact r3, q2, q3⟩
            case measure => simp [intOf]; omega
          · have m8 : ¬ (k : Int).tmod 8 = 0 := by rw [show (k : Int).tmod 8 = ((k % 8 : Nat) : Int) from rfl]; omega
            rw [hd, show (0 : Int) % 256 = 0 from rfl] at hs
            have yOne : ∀ u ∈ (#[.int .u8 0] : Array Value).toList, u.oneCell' = true := fun u hu => by simp only [List.mem_cons, List.not_mem_nil, or_false] at hu; subst hu; rfl
            have hO2 := hO.alloc (.cells #[.int .u8 0] 5)
            have iT2 := iT.alloc (.cells #[.int .u8 0] 5)
            have hB2 := hB.alloc hB.size (.cells #[.int .u8 0] 5)
            have iN : Is (wr.alloc (.cells #[.int .u8 0] 5)) wr.heap.size 5 #[.int .u8 0] := Is.new _ _ _
            go_wp2_with (at_builtin; refine wpList_pushV rfl _ _ 40 5 i0 (.int .u8 0) 1 1 rfl Try.underlying40 hi0 hz0 hz1 hz2 rfl (by decide) w.heap.size A2 c2 k _ hO2 wr.heap.size 5 #[.int .u8 0] iN rfl yOne (by unfold maxLen; omega) (by omega) ⟨rfl, rfl⟩ hB2.size ?_; intro A3 c3 V r3 hg3)
            go_roundw
            case rel =>
              have q2 := hO2.isFar hg3 iT2 (by decide)
              have q3 := hO2.belowG hB2 hg3
              first | exact ⟨k + 1, by omega, A3, c3, ⟨rfl, rfl, rfl⟩, by go_num, by rw [hs]; unfold uL; rw [List.map_append]; exact r3, q2, q3⟩ | exact ⟨k + 1, by omega, A3, c3, rfl, by go_num, by rw [hs]; unfold uL; rw [List.map_append]; exact r3, q2, q3⟩ | exact ⟨k + 1, A3, c3, by omega, rfl, by go_num, by rw [hs]; unfold uL; rw [List.map_append]; exact r3, q2, q3⟩
            case measure => simp [intOf]; omega
      · have hl0 : 0 < L.length := List.length_pos_iff.2 h0
        have hl1 : 0 < (L.length : Int) := by omega
        obtain ⟨b, off, rfl, _, _⟩ := HC.out wr hB 0 hl0
        obtain ⟨r, hr⟩ : ∃ r, r = k % L.length := ⟨_, rfl⟩
        obtain ⟨q, hq⟩ : ∃ q, q = k / L.length := ⟨_, rfl⟩
        have hrl : r < L.length := by rw [hr]; exact Nat.mod_lt _ hl0
        have hql : q ≤ 2000 := by rw [hq]; exact Nat.le_trans (Nat.div_le_self _ _) (by omega)
        have tm : (k : Int).tmod (L.length : Int) = (r : Int) := by rw [drw_tmod, hr]
        have td : (k : Int).tdiv (L.length : Int) = (q : Int) := by rw [drw_tdiv, hq]
        have hrl1 : (r : Int) < (L.length : Int) := by omega
        obtain ⟨x, hxr⟩ : ∃ x, L.getD r 0 = x := ⟨_, rfl⟩
        have hxm : -9223372036854775808 ≤ x ∧ x ≤ 9223372036854775807 := by rw [← hxr, List.getD_eq_getElem?_getD, List.getElem?_eq_getElem hrl]; exact HLB.out _ (List.getElem_mem hrl)
        obtain ⟨p, hp⟩ : ∃ p, p = pickN x 256 := ⟨_, rfl⟩
        have hpb := pickN_bd x 256 (by omega)
        have PK2 := Lib.hid (PK.out x 256 (by omega) (by omega) wr.drew hxm)
        rw [← hp] at hpb PK2
        have hpq : p * (1 + (q : Int)) ≤ 255 * 2001 := Int.mul_le_mul (by omega) (by omega) (by omega) (by omega)
        have hpq0 : 0 ≤ p * (1 + (q : Int)) := Int.mul_nonneg (by omega) (by omega)
        have hkk : 7 * (k : Int) * (k : Int) ≤ 28000000 := by rw [Int.mul_assoc]; omega
        have hkk0 : 0 ≤ 7 * (k : Int) * (k : Int) := by rw [Int.mul_assoc]; omega
        have w7i := IntWalk.i64_in (q : Int) (by omega)
        have w4i := IntWalk.i64_in (1 + (q : Int)) (by omega)
        have w5i := IntWalk.i64_in (p * (1 + (q : Int))) (by omega)
        have w6i := IntWalk.i64_in (7 * (k : Int) * (k : Int) + p * (1 + (q : Int))) (by omega)
        have hdF : drwI L false k = 7 * (k : Int) * (k : Int) + p * (1 + (q : Int)) := by simp only [drwI, if_pos hl0, ← hr, ← hq, hxr, ← hp]; rfl
        clear hr hq hp
        go_wp2
        refine wp_region_held_drew (S := fun W => Below w.heap.size w W) (by kernel_rfl) (belowN hB 1) (fun hS => ?_)
        change wpAnyH _ _ (opsOf Try.f9 7) _ _ 17 (Array.replicate 17 false) _ _
        clear hS
        refine wpAnyH_pure (i := 0) (o := { dst := some 19, op := Op.move (Operand.tmp 7), type := 3, pos := "law.go:34", after := #[], guard := none }) (v := .int .i64 (7 * (k : Int) * (k : Int))) (by kernel_rfl) (by kernel_rfl) (by kernel_rfl) (by kernel_rfl) (fun _ _ _ h => h) (by kernel_rfl) (fun w hSw => by kernel_rfl) (belowN hB 1) ?_
        simp only [Act.put, List.setIfInBounds_toArray, List.set_cons_succ, List.set_cons_zero]
        refine wpAnyH_pure (i := 1) (o := { dst := some 20, op := Op.move (Operand.tmp 0), type := 22, pos := "law.go:34", after := #[], guard := none }) (v := .slice (some ⟨b, off, none⟩) L.length cap) (by kernel_rfl) (by kernel_rfl) (by kernel_rfl) (by kernel_rfl) (fun _ _ _ h => h) (by kernel_rfl) (fun w hSw => by kernel_rfl) (belowN hB 1) ?_
        simp only [Act.put, List.setIfInBounds_toArray, List.set_cons_succ, List.set_cons_zero]
        refine wpAnyH_pure (i := 2) (o := { dst := some 21, op := Op.move (Operand.tmp 6), type := 3, pos := "law.go:34", after := #[], guard := none }) (v := .int .i64 (k : Int)) (by kernel_rfl) (by kernel_rfl) (by kernel_rfl) (by kernel_rfl) (fun _ _ _ h => h) (by kernel_rfl) (fun w hSw => by kernel_rfl) (belowN hB 1) ?_
        simp only [Act.put, List.setIfInBounds_toArray, List.set_cons_succ, List.set_cons_zero]
        refine wpAnyH_pure (i := 3) (o := { dst := some 22, op := Op.move (Operand.tmp 0), type := 22, pos := "law.go:34", after := #[], guard := none }) (v := .slice (some ⟨b, off, none⟩) L.length cap) (by kernel_rfl) (by kernel_rfl) (by kernel_rfl) (by kernel_rfl) (fun _ _ _ h => h) (by kernel_rfl) (fun w hSw => by kernel_rfl) (belowN hB 1) ?_
        simp only [Act.put, List.setIfInBounds_toArray, List.set_cons_succ, List.set_cons_zero]
        refine wpAnyH_pure (i := 4) (o := { dst := some 23, op := Op.call { callee := Callee.builtin Builtin.len, args := #[Operand.tmp 22], argTypes := #[22] }, type := 3, pos := "law.go:34", after := #[{ on := 3, ground := Ground.data }], guard := none }) (v := .int .i64 (L.length : Int)) (by kernel_rfl) (by kernel_rfl) (by kernel_rfl) (by kernel_rfl) (fun _ _ _ h => h) (by kernel_rfl) (fun w hSw => by go_simp) (belowN hB 1) ?_
        simp only [Act.put, List.setIfInBounds_toArray, List.set_cons_succ, List.set_cons_zero]
        refine wpAnyH_pure (i := 5) (o := { dst := some 24, op := Op.binOp BinOp.rem 3 (Operand.tmp 21) (Operand.tmp 23) 3, type := 3, pos := "law.go:34", after := #[{ on := 2, ground := Ground.data }, { on := 4, ground := Ground.data }], guard := none }) (v := .int .i64 (r : Int)) (by kernel_rfl) (by kernel_rfl) (by kernel_rfl) (by kernel_rfl) (fun _ _ _ h => h) (by kernel_rfl) (fun w hSw => by go_simp) (belowN hB 1) ?_
        simp only [Act.put, List.setIfInBounds_toArray, List.set_cons_succ, List.set_cons_zero]
        refine wpAnyH_pure (i := 6) (o := { dst := some 25, op := Op.indexAddr 22 (Operand.tmp 20) (Operand.tmp 24), type := 0, pos := "law.go:34", after := #[{ on := 1, ground := Ground.data }, { on := 5, ground := Ground.data }], guard := none }) (v := .pointer (some ⟨b, off + r, none⟩)) (by kernel_rfl) (by kernel_rfl) (by kernel_rfl) (by kernel_rfl) (fun _ _ _ h => h) (by kernel_rfl) (fun w hSw => by go_simp) (belowN hB 1) ?_
        simp only [Act.put, List.setIfInBounds_toArray, List.set_cons_succ, List.set_cons_zero]
        refine wpAnyH_pure (i := 7) (o := { dst := some 26, op := Op.load 3 (Operand.tmp 25), type := 3, pos := "law.go:34", after := #[{ on := 6, ground := Ground.data }], guard := none }) (v := .int .i64 x) (by kernel_rfl) (by kernel_rfl) (by kernel_rfl) (by kernel_rfl) (fun _ _ _ h => h) (by kernel_rfl) (fun w hSw => by (obtain ⟨b1, off1, e1, _, hc⟩ := HC.out _ hSw r hrl; cases e1; rw [hxr] at hc; go_simp)) (belowN hB 1) ?_
        simp only [Act.put, List.setIfInBounds_toArray, List.set_cons_succ, List.set_cons_zero]
        refine wpAnyH_pure (i := 9) (o := { dst := some 28, op := Op.move (Operand.tmp 6), type := 3, pos := "law.go:34", after := #[], guard := none }) (v := .int .i64 (k : Int)) (by kernel_rfl) (by kernel_rfl) (by kernel_rfl) (by kernel_rfl) (fun _ _ _ h => h) (by kernel_rfl) (fun w hSw => by kernel_rfl) (belowN hB 1) ?_
        simp only [Act.put, List.setIfInBounds_toArray, List.set_cons_succ, List.set_cons_zero]
        refine wpAnyH_pure (i := 10) (o := { dst := some 29, op := Op.move (Operand.tmp 0), type := 22, pos := "law.go:34", after := #[], guard := none }) (v := .slice (some ⟨b, off, none⟩) L.length cap) (by kernel_rfl) (by kernel_rfl) (by kernel_rfl) (by kernel_rfl) (fun _ _ _ h => h) (by kernel_rfl) (fun w hSw => by kernel_rfl) (belowN hB 1) ?_
        simp only [Act.put, List.setIfInBounds_toArray, List.set_cons_succ, List.set_cons_zero]
        refine wpAnyH_pure (i := 11) (o := { dst := some 30, op := Op.call { callee := Callee.builtin Builtin.len, args := #[Operand.tmp 29], argTypes := #[22] }, type := 3, pos := "law.go:34", after := #[{ on := 10, ground := Ground.data }], guard := none }) (v := .int .i64 (L.length : Int)) (by kernel_rfl) (by kernel_rfl) (by kernel_rfl) (by kernel_rfl) (fun _ _ _ h => h) (by kernel_rfl) (fun w hSw => by go_simp) (belowN hB 1) ?_
        simp only [Act.put, List.setIfInBounds_toArray, List.set_cons_succ, List.set_cons_zero]
        refine wpAnyH_pure (i := 12) (o := { dst := some 31, op := Op.binOp BinOp.quo 3 (Operand.tmp 28) (Operand.tmp 30) 3, type := 3, pos := "law.go:34", after := #[{ on := 9, ground := Ground.data }, { on := 11, ground := Ground.data }], guard := none }) (v := .int .i64 (q : Int)) (by kernel_rfl) (by kernel_rfl) (by kernel_rfl) (by kernel_rfl) (fun _ _ _ h => h) (by kernel_rfl) (fun w hSw => by go_simp) (belowN hB 1) ?_
        simp only [Act.put, List.setIfInBounds_toArray, List.set_cons_succ, List.set_cons_zero]
        refine wpAnyH_pure (i := 13) (o := { dst := some 32, op := Op.binOp BinOp.add 3 (Operand.const (Value.int IntKind.i64 1)) (Operand.tmp 31) 3, type := 3, pos := "law.go:34", after := #[{ on := 12, ground := Ground.data }], guard := none }) (v := .int .i64 (1 + (q : Int))) (by kernel_rfl) (by kernel_rfl) (by kernel_rfl) (by kernel_rfl) (fun _ _ _ h => h) (by kernel_rfl) (fun w hSw => by go_simp) (belowN hB 1) ?_
        simp only [Act.put, List.setIfInBounds_toArray, List.set_cons_succ, List.set_cons_zero]
        refine wpAnyH_call (i := 8) (o := { dst := some 27, op := Op.call { callee := Callee.value (Operand.func 14), args := #[Operand.tmp 26, Operand.const (Value.int IntKind.i64 256)], argTypes := #[3, 3] }, type := 3, pos := "law.go:34", after := #[{ on := 7, ground := Ground.data }], guard := none }) (by kernel_rfl) (by kernel_rfl) (by kernel_rfl) (fun w => by kernel_rfl) ((PK2.out).mono ?_)
        rintro e W3 ⟨rfl, rfl⟩
        refine ⟨_, rfl, (belowN hB 1), ?_⟩
        try simp only [Act.put, List.setIfInBounds_toArray, List.set_cons_succ, List.set_cons_zero]
        refine wpAnyH_pure (i := 14) (o := { dst := some 33, op := Op.binOp BinOp.mul 3 (Operand.tmp 27) (Operand.tmp 32) 3, type := 3, pos := "law.go:34", after := #[{ on := 8, ground := Ground.data }, { on := 13, ground := Ground.data }], guard := none }) (v := .int .i64 (p * (1 + (q : Int)))) (by kernel_rfl) (by kernel_rfl) (by kernel_rfl) (by kernel_rfl) (fun _ _ _ h => h) (by kernel_rfl) (fun w hSw => by go_simp) (belowN hB 1) ?_
        simp only [Act.put, List.setIfInBounds_toArray, List.set_cons_succ, List.set_cons_zero]
        refine wpAnyH_pure (i := 15) (o := { dst := some 34, op := Op.binOp BinOp.add 3 (Operand.tmp 19) (Operand.tmp 33) 3, type := 3, pos := "law.go:34", after := #[{ on := 0, ground := Ground.data }, { on := 14, ground := Ground.data }], guard := none }) (v := .int .i64 (7 * (k : Int) * (k : Int) + p * (1 + (q : Int)))) (by kernel_rfl) (by kernel_rfl) (by kernel_rfl) (by kernel_rfl) (fun _ _ _ h => h) (by kernel_rfl) (fun w hSw => by go_simp) (belowN hB 1) ?_
        simp only [Act.put, List.setIfInBounds_toArray, List.set_cons_succ, List.set_cons_zero]
        refine wpAnyH_pure (i := 16) (o := { dst := some 7, op := Op.assign (Operand.tmp 34), type := 3, pos := "law.go:34", after := #[{ on := 15, ground := Ground.data }, { on := 8, ground := Ground.chain }, { on := 0, ground := Ground.phase }, { on := 1, ground := Ground.phase }, { on := 2, ground := Ground.phase }, { on := 3, ground := Ground.phase }, { on := 4, ground := Ground.phase }, { on := 5, ground := Ground.phase }, { on := 6, ground := Ground.phase }, { on := 7, ground := Ground.phase }, { on := 8, ground := Ground.phase }, { on := 9, ground := Ground.phase }, { on := 10, ground := Ground.phase }, { on := 11, ground := Ground.phase }, { on := 12, ground := Ground.phase }, { on := 13, ground := Ground.phase }, { on := 14, ground := Ground.phase }, { on := 15, ground := Ground.phase }], guard := none }) (v := .int .i64 (7 * (k : Int) * (k : Int) + p * (1 + (q : Int)))) (by kernel_rfl) (by kernel_rfl) (by kernel_rfl) (by kernel_rfl) (fun _ _ _ h => h) (by kernel_rfl) (fun w hSw => by kernel_rfl) (belowN hB 1) ?_
        simp only [Act.put, List.setIfInBounds_toArray, List.set_cons_succ, List.set_cons_zero]
        refine wpAnyH_done (by kernel_rfl) ?_ _
        have hO := hO.drewN 1
        have iT := iT.drewN 1
        have hB := belowN hB 1
        change RowV wr.drew _ _ _ _ _ _ _ at hO
        change Is wr.drew _ _ _ at iT
        change Below _ _ wr.drew at hB
        clear PK2
        generalize wr.drew = W7 at *
        cases small with
        | false =>
          have hd := hdF
          have hu : IntKind.u8.wrap (7 * (k : Int) * (k : Int) + p * (1 + (q : Int))) = (7 * (k : Int) * (k : Int) + p * (1 + (q : Int))) % 256 := rfl
          rw [hd] at hs
          generalize (7 * (k : Int) * (k : Int) + p * (1 + (q : Int))) % 256 = y at *
          have yOne : ∀ u ∈ (#[.int .u8 y] : Array Value).toList, u.oneCell' = true := fun u hu => by simp only [List.mem_cons, List.not_mem_nil, or_false] at hu; subst hu; rfl
          have hO2 := hO.alloc (.cells #[.int .u8 y] 5)
          have iT2 := iT.alloc (.cells #[.int .u8 y] 5)
          have hB2 := hB.alloc hB.size (.cells #[.int .u8 y] 5)
          have iN : Is (W7.alloc (.cells #[.int .u8 y] 5)) W7.heap.size 5 #[.int .u8 y] := Is.new _ _ _
          go_wp2_with (at_builtin; refine wpList_pushV rfl _ _ 40 5 i0 (.int .u8 0) 1 1 rfl Try.underlying40 hi0 hz0 hz1 hz2 rfl (by decide) w.heap.size A2 c2 k _ hO2 W7.heap.size 5 #[.int .u8 y] iN rfl yOne (by unfold maxLen; omega) (by omega) ⟨rfl, rfl⟩ hB2.size ?_; intro A3 c3 V r3 hg3)
          go_roundw
          case rel =>
            have q2 := hO2.isFar hg3 iT2 (by decide)
            have q3 := hO2.belowG hB2 hg3
            first | exact ⟨k + 1, by omega, A3, c3, ⟨rfl, rfl, rfl⟩, by go_num, by rw [hs]; unfold uL; rw [List.map_append]; exact r3, q2, q3⟩ | exact ⟨k + 1, by omega, A3, c3, rfl, by go_num, by rw [hs]; unfold uL; rw [List.map_append]; exact r3, q2, q3⟩ | exact ⟨k + 1, A3, c3, by omega, rfl, by go_num, by rw [hs]; unfold uL; rw [List.map_append]; exact r3, q2, q3⟩
          case measure => simp [intOf]; omega
        | true =>
          by_cases h8 : k % 8 = 0
          · have m8 : (k : Int).tmod 8 = 0 := by rw [show (k : Int).tmod 8 = ((k % 8 : Nat) : Int) from rfl]; omega
            obtain ⟨r2, hr2⟩ : ∃ r, r = k / 8 % L.length := ⟨_, rfl⟩
            have hrl2 : r2 < L.length := by rw [hr2]; exact Nat.mod_lt _ hl0
            have hrl3 : (r2 : Int) < (L.length : Int) := by omega
            have td8 : (k : Int).tdiv 8 = ((k / 8 : Nat) : Int) := rfl
            have tm8 : ((k / 8 : Nat) : Int).tmod (L.length : Int) = (r2 : Int) := by rw [drw_tmod, hr2]
            obtain ⟨x2, hx2⟩ : ∃ x, L.getD r2 0 = x := ⟨_, rfl⟩
            have hxm2 : -9223372036854775808 ≤ x2 ∧ x2 ≤ 9223372036854775807 := by rw [← hx2, List.getD_eq_getElem?_getD, List.getElem?_eq_getElem hrl2]; exact HLB.out _ (List.getElem_mem hrl2)
            have hpb2 := pickN_bd x2 3 (by omega)
            have hd : drwI L true k = pickN x2 3 := by simp only [drwI, if_true, if_pos (And.intro h8 hl0), ← hr2, hx2]
            obtain ⟨b1, off1, e1, _, hc2⟩ := HC.out W7 hB r2 hrl2
            cases e1
            rw [hx2] at hc2
            clear hr2
            have PK3 := Lib.hid (PK.out x2 3 (by omega) (by omega) W7 hxm2)
            generalize pickN x2 3 = p2 at *
            have w8i := IntWalk.i64_in (((k / 8 : Nat) : Nat) : Int) (by omega)
            generalize (k / 8 : Nat) = k8 at *
            go_wp2_with fail
            refine PK3.out.mono ?_
            rintro e W8 ⟨rfl, rfl⟩
            have hu : IntKind.u8.wrap (p2) = (p2) % 256 := rfl
            rw [hd] at hs
            generalize (p2) % 256 = y at *
            have yOne : ∀ u ∈ (#[.int .u8 y] : Array Value).toList, u.oneCell' = true := fun u hu => by simp only [List.mem_cons, List.not_mem_nil, or_false] at hu; subst hu; rfl
            have hO2 := hO.alloc (.cells #[.int .u8 y] 5)
            have iT2 := iT.alloc (.cells #[.int .u8 y] 5)
            have hB2 := hB.alloc hB.size (.cells #[.int .u8 y] 5)
            have iN : Is (W7.alloc (.cells #[.int .u8 y] 5)) W7.heap.size 5 #[.int .u8 y] := Is.new _ _ _
            go_wp2_with (at_builtin; refine wpList_pushV rfl _ _ 40 5 i0 (.int .u8 0) 1 1 rfl Try.underlying40 hi0 hz0 hz1 hz2 rfl (by decide) w.heap.size A2 c2 k _ hO2 W7.heap.size 5 #[.int .u8 y] iN rfl yOne (by unfold maxLen; omega) (by omega) ⟨rfl, rfl⟩ hB2.size ?_; intro A3 c3 V r3 hg3)
            go_roundw
            case rel =>
              have q2 := hO2.isFar hg3 iT2 (by decide)
              have q3 := hO2.belowG hB2 hg3
              first | exact ⟨k + 1, by omega, A3, c3, ⟨rfl, rfl, rfl⟩, by go_num, by rw [hs]; unfold uL; rw [List.map_append]; exact r3, q2, q3⟩ | exact ⟨k + 1, by omega, A3, c3, rfl, by go_num, by rw [hs]; unfold uL; rw [List.map_append]; exact r3, q2, q3⟩ | exact ⟨k + 1, A3, c3, by omega, rfl, by go_num, by rw [hs]; unfold uL; rw [List.map_append]; exact r3, q2, q3⟩
            case measure => simp [intOf]; omega
          · have m8 : ¬ (k : Int).tmod 8 = 0 := by rw [show (k : Int).tmod 8 = ((k % 8 : Nat) : Int) from rfl]; omega
            have hd : drwI L true k = 0 := by simp [drwI, h8]
            rw [hd, show (0 : Int) % 256 = 0 from rfl] at hs
            have yOne : ∀ u ∈ (#[.int .u8 0] : Array Value).toList, u.oneCell' = true := fun u hu => by simp only [List.mem_cons, List.not_mem_nil, or_false] at hu; subst hu; rfl
            have hO2 := hO.alloc (.cells #[.int .u8 0] 5)
            have iT2 := iT.alloc (.cells #[.int .u8 0] 5)
            have hB2 := hB.alloc hB.size (.cells #[.int .u8 0] 5)
            have iN : Is (W7.alloc (.cells #[.int .u8 0] 5)) W7.heap.size 5 #[.int .u8 0] := Is.new _ _ _
            go_wp2_with (at_builtin; refine wpList_pushV rfl _ _ 40 5 i0 (.int .u8 0) 1 1 rfl Try.underlying40 hi0 hz0 hz1 hz2 rfl (by decide) w.heap.size A2 c2 k _ hO2 W7.heap.size 5 #[.int .u8 0] iN rfl yOne (by unfold maxLen; omega) (by omega) ⟨rfl, rfl⟩ hB2.size ?_; intro A3 c3 V r3 hg3)
            go_roundw
            case rel =>
              have q2 := hO2.isFar hg3 iT2 (by decide)
              have q3 := hO2.belowG hB2 hg3
              first | exact ⟨k + 1, by omega, A3, c3, ⟨rfl, rfl, rfl⟩, by go_num, by rw [hs]; unfold uL; rw [List.map_append]; exact r3, q2, q3⟩ | exact ⟨k + 1, by omega, A3, c3, rfl, by go_num, by rw [hs]; unfold uL; rw [List.map_append]; exact r3, q2, q3⟩ | exact ⟨k + 1, A3, c3, by omega, rfl, by go_num, by rw [hs]; unfold uL; rw [List.map_append]; exact r3, q2, q3⟩
            case measure => simp [intOf]; omega
    · have l1 : ¬ (k : Int) < 2000 := by omega
      obtain rfl : k = 2000 := by omega
      have hne : A2 ≠ none := fun e => by
        subst e
        have h1 := hO.inV.nil_of
        have h2 := congrArg List.length h1
        simp [drwL_len] at h2
      obtain ⟨p, rfl⟩ := Option.ne_none_iff_exists'.1 hne
      obtain ⟨g, off, hg, _, _⟩ := hO.inV 0 (.int .u8 ((drwL L small 2000).getD 0 0)) (by rw [List.getElem?_map, List.getD_eq_getElem?_getD, List.getElem?_eq_getElem (by rw [drwL_len]; omega)]; rfl)
      cases hg
      have cv := run_convert_bytes_arg (P := Try.prog) wr 40 5 Try.underlying40 Try.underlying5 g off 2000 c2 (drwL L small 2000) (drwL_len _ _ _) (fun i hi => by
        obtain ⟨b, o, e, _, h⟩ := hO.inV i (.int .u8 ((drwL L small 2000).getD i 0)) (by rw [List.getElem?_map, List.getD_eq_getElem?_getD, List.getElem?_eq_getElem (by rw [drwL_len]; omega)]; rfl)
        cases e
        exact h) 9 Try.underlying9
      change _ = Result.ok (Value.string (drwS L small)) wr at cv
      obtain ⟨Z, hZ⟩ : ∃ Z, Z = drwS L small := ⟨_, rfl⟩
      rw [← hZ] at cv
      have HZ := Lib.hid hZ
      clear hZ
      have k0 : wr.cell? ⟨w.heap.size, 0, none⟩ = some (.string ⟨#[]⟩) := iT.cell 0
      have k1 : wr.cell? ⟨w.heap.size, 1, none⟩ = some (.int .i64 0) := iT.cell 1
      clear hO
      go_wp2_with (refine wpList_store_row rfl 26 _ _ rfl w.heap.size #[.string Z, .int .i64 0] rfl rfl 26 _ iT infoTape rfl (by rw [← Array.all_toList]; rfl) ?_)
      exact bodyPost_ret (results_cell_row Try.results9 _ _ w.heap.size 26 _ (0, 0) _ rfl (iT.row _) Try.underlying26 rfl infoTape) rfl ⟨by rw [HZ.out], belowRow hB (Nat.le_refl _) _⟩
end Go.Proofs.Ytdbdoammbnogaaa
