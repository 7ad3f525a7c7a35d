/-
  Contracts of the document's own answer for layer 4: xor. Conditions: texts of one length, not empty, at most 1000 bytes.
-/
import Derived.Test.YtjfeloimlgfocaaRefO
namespace Go.Proofs.Ytjfeloimlgfocaa
open Go.RowKit Go.Shelf

set_option maxRecDepth 100000 in
set_option maxHeartbeats 1000000 in
theorem rxor_any (a b : ByteArray) (w : World) (h0 : 0 < a.size) (h1 : a.size ≤ 1000) (hab : b.size = a.size) :
    Calls Try.prog 38 #[.string a, .string b] w fun e w' => e = .returned (.string (strN (xorB (natL a) (natL b)))) ∧ Below w.heap.size w w' := by
  obtain ⟨i0, hi, hz0, hz1, hz2⟩ := infoThree infoU8
  have hR : (xorB (natL a) (natL b)).length = a.size := by rw [xorB, List.length_zipWith, natL_len, natL_len, hab, Nat.min_self]
  have hRg : ∀ k, (xorB (natL a) (natL b)).getD k 0 = btN a k ^^^ btN b k := fun k => xorB_getD (by rw [natL_len, natL_len, hab]) k
  generalize xorB (natL a) (natL b) = R at *
  have HR := Lib.hid hR
  have HRG := Lib.hid hRg
  clear hR hRg
  have HAB := Lib.hid hab
  clear hab
  go_enter Try.func38, Try.ntmps38
  go_wp2
  go_loopw [5, 6] (fun v i wr => ∃ k : Nat, k ≤ a.size ∧ i = .int .i64 k ∧ wr.ownsRow w.heap.size 5 1 v k (nL (R.take k)) ∧ Below w.heap.size w wr)
    (fun _ i _ => a.size - (intOf i).toNat)
  case atStart => exact ⟨0, by omega, rfl, World.ownsRow_nil _ _ _ _, Below.refl _ _⟩
  case round =>
    obtain ⟨k, hk, rfl, hown, hB⟩ := hrel
    by_cases hlt : k < a.size
    · have hltb : k < b.size := by rw [HAB.out]; exact hlt
      have ga := btN_get hlt
      have gb := btN_get hltb
      have ka1 : (k : Int) < (a.size : Int) := by omega
      have kb1 : (k : Int) < (b.size : Int) := by omega
      have hsu := take_snoc R k (by rw [HR.out]; exact hlt)
      rw [HRG.out k] at hsu
      have hx := u8_xor_nat (btN a k) (btN b k) (btN_lt a k) (btN_lt b k)
      generalize btN a k ^^^ btN b k = x at *
      generalize btN a k = y at *
      generalize btN b k = z at *
      have HSU := Lib.hid hsu
      have hownD : wr.drew.ownsRow w.heap.size 5 1 u5 k (nL (R.take k)) := hown
      have hBD : Below w.heap.size w wr.drew := belowN hB 1
      clear hsu
      go_wp2
      refine wp_region_held_drew (S := fun _ => True) (by kernel_rfl) trivial (fun hS => ?_)
      change wpAnyH _ _ (opsOf Try.f38 5) _ _ 11 (Array.replicate 11 false) _ _
      refine wpAnyH_pure (i := 0) (o := { dst := some 13, op := Op.move (Operand.tmp 5), type := 33, pos := "ref.go:16", after := #[], guard := none }) (v := u5) (by kernel_rfl) (by kernel_rfl) (by kernel_rfl) (by kernel_rfl) (fun _ _ _ h => h) (by kernel_rfl) (fun w hSw => by kernel_rfl) hS ?_
      simp only [Act.put, List.setIfInBounds_toArray, List.set_cons_succ, List.set_cons_zero]
      refine wpAnyH_pure (i := 1) (o := { dst := some 14, op := Op.move (Operand.tmp 0), type := 9, pos := "ref.go:16", after := #[], guard := none }) (v := .string a) (by kernel_rfl) (by kernel_rfl) (by kernel_rfl) (by kernel_rfl) (fun _ _ _ h => h) (by kernel_rfl) (fun w hSw => by kernel_rfl) hS ?_
      simp only [Act.put, List.setIfInBounds_toArray, List.set_cons_succ, List.set_cons_zero]
      refine wpAnyH_pure (i := 2) (o := { dst := some 15, op := Op.move (Operand.tmp 6), type := 3, pos := "ref.go:16", after := #[], guard := none }) (v := .int .i64 (k : Int)) (by kernel_rfl) (by kernel_rfl) (by kernel_rfl) (by kernel_rfl) (fun _ _ _ h => h) (by kernel_rfl) (fun w hSw => by kernel_rfl) hS ?_
      simp only [Act.put, List.setIfInBounds_toArray, List.set_cons_succ, List.set_cons_zero]
      refine wpAnyH_pure (i := 3) (o := { dst := some 16, op := Op.index 9 (Operand.tmp 14) (Operand.tmp 15), type := 5, pos := "ref.go:16", after := #[{ on := 1, ground := Ground.data }, { on := 2, ground := Ground.data }], guard := none }) (v := .int .u8 (y : Int)) (by kernel_rfl) (by kernel_rfl) (by kernel_rfl) (by kernel_rfl) (fun _ _ _ h => h) (by kernel_rfl) (fun w hSw => by go_simp) hS ?_
      simp only [Act.put, List.setIfInBounds_toArray, List.set_cons_succ, List.set_cons_zero]
      refine wpAnyH_pure (i := 4) (o := { dst := some 17, op := Op.move (Operand.tmp 1), type := 9, pos := "ref.go:16", after := #[], guard := none }) (v := .string b) (by kernel_rfl) (by kernel_rfl) (by kernel_rfl) (by kernel_rfl) (fun _ _ _ h => h) (by kernel_rfl) (fun w hSw => by kernel_rfl) hS ?_
      simp only [Act.put, List.setIfInBounds_toArray, List.set_cons_succ, List.set_cons_zero]
      refine wpAnyH_pure (i := 5) (o := { dst := some 18, op := Op.move (Operand.tmp 6), type := 3, pos := "ref.go:16", after := #[], guard := none }) (v := .int .i64 (k : Int)) (by kernel_rfl) (by kernel_rfl) (by kernel_rfl) (by kernel_rfl) (fun _ _ _ h => h) (by kernel_rfl) (fun w hSw => by kernel_rfl) hS ?_
      simp only [Act.put, List.setIfInBounds_toArray, List.set_cons_succ, List.set_cons_zero]
      refine wpAnyH_pure (i := 6) (o := { dst := some 19, op := Op.index 9 (Operand.tmp 17) (Operand.tmp 18), type := 5, pos := "ref.go:16", after := #[{ on := 4, ground := Ground.data }, { on := 5, ground := Ground.data }], guard := none }) (v := .int .u8 (z : Int)) (by kernel_rfl) (by kernel_rfl) (by kernel_rfl) (by kernel_rfl) (fun _ _ _ h => h) (by kernel_rfl) (fun w hSw => by go_simp) hS ?_
      simp only [Act.put, List.setIfInBounds_toArray, List.set_cons_succ, List.set_cons_zero]
      refine wpAnyH_pure (i := 7) (o := { dst := some 20, op := Op.binOp BinOp.xor 5 (Operand.tmp 16) (Operand.tmp 19) 5, type := 5, pos := "ref.go:16", after := #[{ on := 3, ground := Ground.data }, { on := 6, ground := Ground.data }], guard := none }) (v := .int .u8 (x : Int)) (by kernel_rfl) (by kernel_rfl) (by kernel_rfl) (by kernel_rfl) (fun _ _ _ h => h) (by kernel_rfl) (fun w hSw => by go_simp) hS ?_
      simp only [Act.put, List.setIfInBounds_toArray, List.set_cons_succ, List.set_cons_zero]
      refine wpAnyH_step (i := 8) (o := { dst := some 21, op := Op.buildSlice 33 1 #[(0, Operand.tmp 20)], type := 33, pos := "ref.go:16", after := #[{ on := 7, ground := Ground.data }], guard := none }) (by kernel_rfl) (by kernel_rfl) (by kernel_rfl) (fun Kc hKc => ?_)
      go_simp
      refine hKc.out _ _ trivial (fun _ => ?_)
      clear hKc Kc
      try simp only [Act.put, List.setIfInBounds_toArray, List.set_cons_succ, List.set_cons_zero]
      refine wpAnyH_append (i := 9) (o := { dst := some 22, op := Op.call { callee := Callee.builtin Builtin.append, args := #[Operand.tmp 13, Operand.tmp 21], argTypes := #[33, 33] }, type := 33, pos := "ref.go:16", after := #[{ on := 0, ground := Ground.data }, { on := 8, ground := Ground.data }], guard := none }) (by kernel_rfl) (by kernel_rfl) (by kernel_rfl) _ _ 33 rfl (w.heap.size) 5 i0 (.int .u8 0) 1 1 Try.underlying33 hi hz0 hz1 hz2 rfl (by decide) _ _ _ rfl (hownD.alloc _) ⟨wr.heap.size, 0, none⟩ 1 1 [.int .u8 (x : Int)] rfl rfl ?c1 ?c2 ?c3 ?c4 ?c5 ?c6
      case c1 =>
        intro j u hj
        match j, hj with
        | 0, hj => simp at hj; subst hj; simp [Addr.add]
      case c2 => intro u hu; simp only [List.mem_cons, List.not_mem_nil, or_false] at hu; subst hu; rfl
      case c3 => unfold maxLen; omega
      case c4 => omega
      case c5 => have := hB.size; simp; omega
      case c6 =>
        intro v' w1 hown' hgrow
        refine ⟨trivial, ?_⟩
        have hB1 : Below w.heap.size w w1 := (hBD.alloc hBD.size _).grown hgrow (by have := hB.size; simp; omega) (fun g e => (hown.lt g e).1)
        have hown1 : w1.ownsRow w.heap.size 5 1 v' (k + 1) (nL (R.take (k + 1))) := by
          rw [HSU.out, nL_snoc]
          exact hown'
        clear hown' hgrow hown hB hownD hBD
        simp only [Act.put, List.setIfInBounds_toArray, List.set_cons_succ, List.set_cons_zero]
        refine wpAnyH_pure (i := 10) (o := { dst := some 5, op := Op.assign (Operand.tmp 22), type := 33, pos := "ref.go:16", after := #[{ on := 9, ground := Ground.data }, { on := 9, ground := Ground.chain }, { on := 0, ground := Ground.phase }, { on := 1, ground := Ground.phase }, { on := 2, ground := Ground.phase }, { on := 3, ground := Ground.phase }, { on := 4, ground := Ground.phase }, { on := 5, ground := Ground.phase }, { on := 6, ground := Ground.phase }, { on := 7, ground := Ground.phase }, { on := 8, ground := Ground.phase }, { on := 9, ground := Ground.phase }], guard := none }) (v := v') (by kernel_rfl) (by kernel_rfl) (by kernel_rfl) (by kernel_rfl) (fun _ _ _ h => h) (by kernel_rfl) (fun w hSw => by go_simp) trivial ?_
        simp only [Act.put, List.setIfInBounds_toArray, List.set_cons_succ, List.set_cons_zero]
        refine wpAnyH_done (by kernel_rfl) ?_ _
        go_wp2
        go_roundw
        case rel => exact ⟨k + 1, by omega, by go_num, hown1, hB1⟩
        case measure => simp [intOf]; omega
    · obtain rfl : k = a.size := by omega
      rw [List.take_of_length_le (by rw [HR.out]; exact Nat.le_refl _)] at hown
      have hcv := conv_own hown HR.out h0
      generalize hst : strN R = st at hcv
      have HST := Lib.hid hst
      clear hst hown
      go_wp2
      go_ret
      exact ⟨by rw [HST.out]; rfl, hB⟩
end Go.Proofs.Ytjfeloimlgfocaa
