/-
  Contracts of the document's own answer for layer 4: mixed. Conditions: a text of 16 bytes.
-/
import Derived.Test.YtjfeloimlgfocaaRefY
import Derived.Test.YtjfeloimlgfocaaRefT
import Derived.Deep.DeepCutAuto
namespace Go.Proofs.Ytjfeloimlgfocaa
open Go.RowKit Go.Shelf

theorem mixL_len (S : List Nat) : (mixL S).length = 16 := rfl
theorem mixL_step (S : List Nat) {c : Nat} (h : c < 4) : (mixL S).take (4 * (c + 1)) = (mixL S).take (4 * c) ++ (mixC (colN S c)).nl := by
  match c, h with
  | 0, _ => rfl
  | 1, _ => rfl
  | 2, _ => rfl
  | 3, _ => rfl
theorem ownsRow_belowW {W W' : World} {base k : Nat} {e : TypeId} {size : Nat} {v : Value} {xs : List Value} (h : W.ownsRow base e size v k xs) (hb : Below W.heap.size W W') : W'.ownsRow base e size v k xs :=
  h.kept (row := none) ⟨hb.os, hb.tape, hb.output, hb.size, fun k hk _ => hb.block k hk⟩ (by cases v.ownBlock with | none => exact .inl rfl | some g => exact .inr (by simp))
theorem grownCells (b : Nat) : ∀ (vs : List Value) (W : World) (o : Nat), W.grownBy (W.setCells b o vs) (some b)
  | [], W, _ => ⟨rfl, rfl, rfl, Nat.le_refl _, fun _ _ _ => rfl⟩
  | v :: r, W, o => by
    have h := grownCells b r (W.setCell ⟨b, o, none⟩ v) (o + 1)
    refine ⟨h.os, h.tape, h.output, by have := h.size; rwa [show (W.setCell ⟨b, o, none⟩ v).heap.size = W.heap.size by simp] at this, fun k hk hne => ?_⟩
    exact (h.block k (by simpa using hk) hne).trans (heap_setCell_other W ⟨b, o, none⟩ k v (fun e => hne (by rw [e])))
theorem ownsRow_farCells {W : World} {base k b : Nat} {e : TypeId} {size : Nat} {v : Value} {xs : List Value} (h : W.ownsRow base e size v k xs) (hne : v.ownBlock = some b → False) (o : Nat) (vs : List Value) : (W.setCells b o vs).ownsRow base e size v k xs :=
  h.kept (grownCells b vs W o) (.inr hne)

set_option maxRecDepth 100000 in
set_option maxHeartbeats 2000000 in
theorem rmixed_any (s : ByteArray) (w : World) (hs : s.size = 16) :
    Calls Try.prog 39 #[.string s] w fun e w' => e = .returned (.string (strN (mixL (natL s)))) ∧ Below w.heap.size w w' := by
  obtain ⟨i0, hi, hz0, hz1, hz2⟩ := infoThree infoU8
  have HR := Lib.hid (mixL_len (natL s))
  have HST := Lib.hid (fun c (h : c < 4) => mixL_step (natL s) h)
  have HS := Lib.hid hs
  have HB := Lib.hid (natL_lt s)
  obtain ⟨L, hL⟩ : ∃ L, L = natL s := ⟨_, rfl⟩
  have HL := Lib.hid hL
  rw [← hL] at HR HST
  rw [show strN (mixL (natL s)) = strN (mixL L) by rw [hL]]
  generalize mixL L = R at *
  clear hs hL
  go_enter Try.func39, Try.ntmps39
  go_wp2
  go_loopw [3, 4] (fun v i wr => ∃ c : Nat, c ≤ 4 ∧ i = .int .i64 c ∧ wr.ownsRow w.heap.size 5 1 v (4 * c) (nL (R.take (4 * c))) ∧ Below w.heap.size w wr)
    (fun _ i _ => 4 - (intOf i).toNat)
  case atStart => exact ⟨0, by omega, rfl, World.ownsRow_nil _ _ _ _, Below.refl _ _⟩
  case round =>
    obtain ⟨c, hc, rfl, hown, hB⟩ := hrel
    by_cases hlt : c < 4
    · have hc1 : (c : Int) < 4 := by omega
      obtain ⟨E0, hE0⟩ : ∃ E0 : Nat, E0 = 4 * c := ⟨_, rfl⟩
      obtain ⟨E1, hE1⟩ : ∃ E1 : Nat, E1 = 4 * c + 1 := ⟨_, rfl⟩
      obtain ⟨E2, hE2⟩ : ∃ E2 : Nat, E2 = 4 * c + 2 := ⟨_, rfl⟩
      obtain ⟨E3, hE3⟩ : ∃ E3 : Nat, E3 = 4 * c + 3 := ⟨_, rfl⟩
      have l0 : E0 < s.size := by rw [HS.out]; omega
      have l1 : E1 < s.size := by rw [HS.out]; omega
      have l2 : E2 < s.size := by rw [HS.out]; omega
      have l3 : E3 < s.size := by rw [HS.out]; omega
      have g0 := btN_get l0
      have g1 := btN_get l1
      have g2 := btN_get l2
      have g3 := btN_get l3
      have k0 : (E0 : Int) < (s.size : Int) := by omega
      have k1 : (E1 : Int) < (s.size : Int) := by omega
      have k2 : (E2 : Int) < (s.size : Int) := by omega
      have k3 : (E3 : Int) < (s.size : Int) := by omega
      have f0 : 4 * (c : Int) = (E0 : Int) := by omega
      have f1 : (E0 : Int) + 1 = (E1 : Int) := by omega
      have f2 : (E0 : Int) + 2 = (E2 : Int) := by omega
      have f3 : (E0 : Int) + 3 = (E3 : Int) := by omega
      have v0 := IntWalk.i64_in (E0 : Int) (by rw [HS.out] at l0; omega)
      have v1 := IntWalk.i64_in (E1 : Int) (by rw [HS.out] at l1; omega)
      have v2 := IntWalk.i64_in (E2 : Int) (by rw [HS.out] at l2; omega)
      have v3 := IntWalk.i64_in (E3 : Int) (by rw [HS.out] at l3; omega)
      have hcol : colN L c = ⟨btN s E0, btN s E1, btN s E2, btN s E3⟩ := by rw [HL.out, hE0, hE1, hE2, hE3]; rfl
      have hst := HST.out c hlt
      rw [hcol] at hst
      have mx := fun w => rmix_any ⟨btN s E0, btN s E1, btN s E2, btN s E3⟩ w ⟨btN_lt s _, btN_lt s _, btN_lt s _, btN_lt s _⟩
      clear hcol hE0 hE1 hE2 hE3
      generalize btN s E0 = x0 at *
      generalize btN s E1 = x1 at *
      generalize btN s E2 = x2 at *
      generalize btN s E3 = x3 at *
      generalize mixC ⟨x0, x1, x2, x3⟩ = M at *
      obtain ⟨m0, m1, m2, m3⟩ := M
      have MX := Lib.hid mx
      have HST1 := Lib.hid (show nL (R.take (4 * (c + 1))) = nL (R.take (4 * c)) ++ nL [m0, m1, m2, m3] by rw [hst, nL, nL, nL, List.map_append]; rfl)
      clear mx hst
      have hownD : wr.drew.ownsRow w.heap.size 5 1 u3 (4 * c) (nL (R.take (4 * c))) := hown
      have hBD : Below w.heap.size w wr.drew := belowN hB 1
      go_wp2
      go_cut [5] (fun p W => ∃ B5 : Nat, p = .pointer (some ⟨B5, 0, none⟩) ∧ Is W B5 58 (nA [m0, m1, m2, m3]) ∧ W.ownsRow w.heap.size 5 1 u3 (4 * c) (nL (R.take (4 * c))) ∧ Below w.heap.size w W)
      case first =>
        refine wp_region_held_drew (S := fun _ => True) (by kernel_rfl) trivial (fun hS => ?_)
        change wpAnyH _ _ (opsOf Try.f39 5) _ _ 23 (Array.replicate 23 false) _ _
        refine wpAnyH_pure (i := 0) (o := { dst := some 10, op := Op.move (Operand.tmp 0), type := 9, pos := "ref.go:73", after := #[], guard := none }) (v := .string s) (by kernel_rfl) (by kernel_rfl) (by kernel_rfl) (by kernel_rfl) (fun _ _ _ h => h) (by kernel_rfl) (fun w hSw => by kernel_rfl) hS ?_
        simp only [Act.put, List.setIfInBounds_toArray, List.set_cons_succ, List.set_cons_zero]
        refine wpAnyH_pure (i := 1) (o := { dst := some 11, op := Op.move (Operand.tmp 4), type := 3, pos := "ref.go:73", after := #[], guard := none }) (v := .int .i64 (c : Int)) (by kernel_rfl) (by kernel_rfl) (by kernel_rfl) (by kernel_rfl) (fun _ _ _ h => h) (by kernel_rfl) (fun w hSw => by kernel_rfl) hS ?_
        simp only [Act.put, List.setIfInBounds_toArray, List.set_cons_succ, List.set_cons_zero]
        refine wpAnyH_pure (i := 2) (o := { dst := some 12, op := Op.binOp BinOp.mul 3 (Operand.const (Value.int IntKind.i64 4)) (Operand.tmp 11) 3, type := 3, pos := "ref.go:73", after := #[{ on := 1, ground := Ground.data }], guard := none }) (v := .int .i64 (E0 : Int)) (by kernel_rfl) (by kernel_rfl) (by kernel_rfl) (by kernel_rfl) (fun _ _ _ h => h) (by kernel_rfl) (fun w hSw => by go_simp) hS ?_
        simp only [Act.put, List.setIfInBounds_toArray, List.set_cons_succ, List.set_cons_zero]
        refine wpAnyH_pure (i := 3) (o := { dst := some 13, op := Op.index 9 (Operand.tmp 10) (Operand.tmp 12), type := 5, pos := "ref.go:73", after := #[{ on := 0, ground := Ground.data }, { on := 2, ground := Ground.data }], guard := none }) (v := .int .u8 (x0 : Int)) (by kernel_rfl) (by kernel_rfl) (by kernel_rfl) (by kernel_rfl) (fun _ _ _ h => h) (by kernel_rfl) (fun w hSw => by go_simp) hS ?_
        simp only [Act.put, List.setIfInBounds_toArray, List.set_cons_succ, List.set_cons_zero]
        refine wpAnyH_pure (i := 4) (o := { dst := some 14, op := Op.move (Operand.tmp 0), type := 9, pos := "ref.go:73", after := #[], guard := none }) (v := .string s) (by kernel_rfl) (by kernel_rfl) (by kernel_rfl) (by kernel_rfl) (fun _ _ _ h => h) (by kernel_rfl) (fun w hSw => by kernel_rfl) hS ?_
        simp only [Act.put, List.setIfInBounds_toArray, List.set_cons_succ, List.set_cons_zero]
        refine wpAnyH_pure (i := 5) (o := { dst := some 15, op := Op.move (Operand.tmp 4), type := 3, pos := "ref.go:73", after := #[], guard := none }) (v := .int .i64 (c : Int)) (by kernel_rfl) (by kernel_rfl) (by kernel_rfl) (by kernel_rfl) (fun _ _ _ h => h) (by kernel_rfl) (fun w hSw => by kernel_rfl) hS ?_
        simp only [Act.put, List.setIfInBounds_toArray, List.set_cons_succ, List.set_cons_zero]
        refine wpAnyH_pure (i := 6) (o := { dst := some 16, op := Op.binOp BinOp.mul 3 (Operand.const (Value.int IntKind.i64 4)) (Operand.tmp 15) 3, type := 3, pos := "ref.go:73", after := #[{ on := 5, ground := Ground.data }], guard := none }) (v := .int .i64 (E0 : Int)) (by kernel_rfl) (by kernel_rfl) (by kernel_rfl) (by kernel_rfl) (fun _ _ _ h => h) (by kernel_rfl) (fun w hSw => by go_simp) hS ?_
        simp only [Act.put, List.setIfInBounds_toArray, List.set_cons_succ, List.set_cons_zero]
        refine wpAnyH_pure (i := 7) (o := { dst := some 17, op := Op.binOp BinOp.add 3 (Operand.tmp 16) (Operand.const (Value.int IntKind.i64 1)) 3, type := 3, pos := "ref.go:73", after := #[{ on := 6, ground := Ground.data }], guard := none }) (v := .int .i64 (E1 : Int)) (by kernel_rfl) (by kernel_rfl) (by kernel_rfl) (by kernel_rfl) (fun _ _ _ h => h) (by kernel_rfl) (fun w hSw => by go_simp) hS ?_
        simp only [Act.put, List.setIfInBounds_toArray, List.set_cons_succ, List.set_cons_zero]
        refine wpAnyH_pure (i := 8) (o := { dst := some 18, op := Op.index 9 (Operand.tmp 14) (Operand.tmp 17), type := 5, pos := "ref.go:73", after := #[{ on := 4, ground := Ground.data }, { on := 7, ground := Ground.data }], guard := none }) (v := .int .u8 (x1 : Int)) (by kernel_rfl) (by kernel_rfl) (by kernel_rfl) (by kernel_rfl) (fun _ _ _ h => h) (by kernel_rfl) (fun w hSw => by go_simp) hS ?_
        simp only [Act.put, List.setIfInBounds_toArray, List.set_cons_succ, List.set_cons_zero]
        refine wpAnyH_pure (i := 9) (o := { dst := some 19, op := Op.move (Operand.tmp 0), type := 9, pos := "ref.go:73", after := #[], guard := none }) (v := .string s) (by kernel_rfl) (by kernel_rfl) (by kernel_rfl) (by kernel_rfl) (fun _ _ _ h => h) (by kernel_rfl) (fun w hSw => by kernel_rfl) hS ?_
        simp only [Act.put, List.setIfInBounds_toArray, List.set_cons_succ, List.set_cons_zero]
        refine wpAnyH_pure (i := 10) (o := { dst := some 20, op := Op.move (Operand.tmp 4), type := 3, pos := "ref.go:73", after := #[], guard := none }) (v := .int .i64 (c : Int)) (by kernel_rfl) (by kernel_rfl) (by kernel_rfl) (by kernel_rfl) (fun _ _ _ h => h) (by kernel_rfl) (fun w hSw => by kernel_rfl) hS ?_
        simp only [Act.put, List.setIfInBounds_toArray, List.set_cons_succ, List.set_cons_zero]
        refine wpAnyH_pure (i := 11) (o := { dst := some 21, op := Op.binOp BinOp.mul 3 (Operand.const (Value.int IntKind.i64 4)) (Operand.tmp 20) 3, type := 3, pos := "ref.go:73", after := #[{ on := 10, ground := Ground.data }], guard := none }) (v := .int .i64 (E0 : Int)) (by kernel_rfl) (by kernel_rfl) (by kernel_rfl) (by kernel_rfl) (fun _ _ _ h => h) (by kernel_rfl) (fun w hSw => by go_simp) hS ?_
        simp only [Act.put, List.setIfInBounds_toArray, List.set_cons_succ, List.set_cons_zero]
        refine wpAnyH_pure (i := 12) (o := { dst := some 22, op := Op.binOp BinOp.add 3 (Operand.tmp 21) (Operand.const (Value.int IntKind.i64 2)) 3, type := 3, pos := "ref.go:73", after := #[{ on := 11, ground := Ground.data }], guard := none }) (v := .int .i64 (E2 : Int)) (by kernel_rfl) (by kernel_rfl) (by kernel_rfl) (by kernel_rfl) (fun _ _ _ h => h) (by kernel_rfl) (fun w hSw => by go_simp) hS ?_
        simp only [Act.put, List.setIfInBounds_toArray, List.set_cons_succ, List.set_cons_zero]
        refine wpAnyH_pure (i := 13) (o := { dst := some 23, op := Op.index 9 (Operand.tmp 19) (Operand.tmp 22), type := 5, pos := "ref.go:73", after := #[{ on := 9, ground := Ground.data }, { on := 12, ground := Ground.data }], guard := none }) (v := .int .u8 (x2 : Int)) (by kernel_rfl) (by kernel_rfl) (by kernel_rfl) (by kernel_rfl) (fun _ _ _ h => h) (by kernel_rfl) (fun w hSw => by go_simp) hS ?_
        simp only [Act.put, List.setIfInBounds_toArray, List.set_cons_succ, List.set_cons_zero]
        refine wpAnyH_pure (i := 14) (o := { dst := some 24, op := Op.move (Operand.tmp 0), type := 9, pos := "ref.go:73", after := #[], guard := none }) (v := .string s) (by kernel_rfl) (by kernel_rfl) (by kernel_rfl) (by kernel_rfl) (fun _ _ _ h => h) (by kernel_rfl) (fun w hSw => by kernel_rfl) hS ?_
        simp only [Act.put, List.setIfInBounds_toArray, List.set_cons_succ, List.set_cons_zero]
        refine wpAnyH_pure (i := 15) (o := { dst := some 25, op := Op.move (Operand.tmp 4), type := 3, pos := "ref.go:73", after := #[], guard := none }) (v := .int .i64 (c : Int)) (by kernel_rfl) (by kernel_rfl) (by kernel_rfl) (by kernel_rfl) (fun _ _ _ h => h) (by kernel_rfl) (fun w hSw => by kernel_rfl) hS ?_
        simp only [Act.put, List.setIfInBounds_toArray, List.set_cons_succ, List.set_cons_zero]
        refine wpAnyH_pure (i := 16) (o := { dst := some 26, op := Op.binOp BinOp.mul 3 (Operand.const (Value.int IntKind.i64 4)) (Operand.tmp 25) 3, type := 3, pos := "ref.go:73", after := #[{ on := 15, ground := Ground.data }], guard := none }) (v := .int .i64 (E0 : Int)) (by kernel_rfl) (by kernel_rfl) (by kernel_rfl) (by kernel_rfl) (fun _ _ _ h => h) (by kernel_rfl) (fun w hSw => by go_simp) hS ?_
        simp only [Act.put, List.setIfInBounds_toArray, List.set_cons_succ, List.set_cons_zero]
        refine wpAnyH_pure (i := 17) (o := { dst := some 27, op := Op.binOp BinOp.add 3 (Operand.tmp 26) (Operand.const (Value.int IntKind.i64 3)) 3, type := 3, pos := "ref.go:73", after := #[{ on := 16, ground := Ground.data }], guard := none }) (v := .int .i64 (E3 : Int)) (by kernel_rfl) (by kernel_rfl) (by kernel_rfl) (by kernel_rfl) (fun _ _ _ h => h) (by kernel_rfl) (fun w hSw => by go_simp) hS ?_
        simp only [Act.put, List.setIfInBounds_toArray, List.set_cons_succ, List.set_cons_zero]
        refine wpAnyH_pure (i := 18) (o := { dst := some 28, op := Op.index 9 (Operand.tmp 24) (Operand.tmp 27), type := 5, pos := "ref.go:73", after := #[{ on := 14, ground := Ground.data }, { on := 17, ground := Ground.data }], guard := none }) (v := .int .u8 (x3 : Int)) (by kernel_rfl) (by kernel_rfl) (by kernel_rfl) (by kernel_rfl) (fun _ _ _ h => h) (by kernel_rfl) (fun w hSw => by go_simp) hS ?_
        simp only [Act.put, List.setIfInBounds_toArray, List.set_cons_succ, List.set_cons_zero]
        refine wpAnyH_pure (i := 19) (o := { dst := some 29, op := Op.build 58 #[(0, Operand.tmp 13), (1, Operand.tmp 18), (2, Operand.tmp 23), (3, Operand.tmp 28)], type := 58, pos := "ref.go:73", after := #[{ on := 3, ground := Ground.data }, { on := 8, ground := Ground.data }, { on := 13, ground := Ground.data }, { on := 18, ground := Ground.data }], guard := none }) (v := .agg (C4.arr ⟨x0, x1, x2, x3⟩)) (by kernel_rfl) (by kernel_rfl) (by kernel_rfl) (by kernel_rfl) (fun _ _ _ h => h) (by kernel_rfl) (fun w hSw => by kernel_rfl) hS ?_
        simp only [Act.put, List.setIfInBounds_toArray, List.set_cons_succ, List.set_cons_zero]
        refine wpAnyH_next2 (i := 20) (j := 21) (o := { dst := some 30, op := Op.call { callee := Callee.value (Operand.func 53), args := #[Operand.tmp 29], argTypes := #[58] }, type := 58, pos := "ref.go:73", after := #[{ on := 19, ground := Ground.data }], guard := none }) (o2 := { dst := some 5, op := Op.alloc 58, type := 0, pos := "ref.go:73", after := #[], guard := none }) (by kernel_rfl) (by kernel_rfl) (by kernel_rfl) (fun Kc hKc => ?_) (fun Kc hKc => ?_)
        · rw [if_pos (by kernel_rfl)]
          unfold Oper.wp
          rw [show (execOp _ _).run Try.prog wr.drew = .ok (.enter 53 #[.agg (C4.arr ⟨x0, x1, x2, x3⟩)]) wr.drew by kernel_rfl, Oper.upon_enter]
          refine (MX.out _).mono ?_
          rintro e w3 ⟨rfl, hb3⟩
          refine hKc.out _ _ trivial (fun _ => ?_)
          clear hKc Kc
          simp only [Act.put, List.setIfInBounds_toArray, List.set_cons_succ, List.set_cons_zero]
          have hB3 : Below w.heap.size w w3 := hBD.trans (hb3.mono hBD.size)
          have hown3 := ownsRow_belowW hownD hb3
          have hth : (w3.alloc (.cells (nA [0, 0, 0, 0]) 58)).there w3.heap.size 0 4 := nA_there (Is.new w3 58 (nA [0, 0, 0, 0])) 0 4 (by decide)
          refine wpAnyH_step (i := 21) (o := { dst := some 5, op := Op.alloc 58, type := 0, pos := "ref.go:73", after := #[], guard := none }) (by kernel_rfl) (by kernel_rfl) (by kernel_rfl) (fun Kc hKc => ?_)
          go_simp
          refine hKc.out _ _ trivial (fun _ => ?_)
          clear hKc Kc
          try simp only [Act.put, List.setIfInBounds_toArray, List.set_cons_succ, List.set_cons_zero]
          refine wpAnyH_storemid (i := 22) (o := { dst := none, op := Op.store 58 (Operand.tmp 5) (Operand.tmp 30), type := 0, pos := "ref.go:73", after := #[{ on := 21, ground := Ground.data }, { on := 20, ground := Ground.data }, { on := 20, ground := Ground.chain }, { on := 0, ground := Ground.phase }, { on := 1, ground := Ground.phase }, { on := 2, ground := Ground.phase }, { on := 3, ground := Ground.phase }, { on := 4, ground := Ground.phase }, { on := 5, ground := Ground.phase }, { on := 6, ground := Ground.phase }, { on := 7, ground := Ground.phase }, { on := 8, ground := Ground.phase }, { on := 9, ground := Ground.phase }, { on := 10, ground := Ground.phase }, { on := 11, ground := Ground.phase }, { on := 12, ground := Ground.phase }, { on := 13, ground := Ground.phase }, { on := 14, ground := Ground.phase }, { on := 15, ground := Ground.phase }, { on := 16, ground := Ground.phase }, { on := 17, ground := Ground.phase }, { on := 18, ground := Ground.phase }, { on := 19, ground := Ground.phase }, { on := 20, ground := Ground.phase }, { on := 21, ground := Ground.phase }], guard := none }) (b := w3.heap.size) (off := 0) (cs := nA ([m0, m1, m2, m3])) (by kernel_rfl) (by kernel_rfl) (by kernel_rfl) rfl (by kernel_rfl) (by kernel_rfl) hth info4 (nA_one _) trivial ?_
          simp only [Act.put, List.setIfInBounds_toArray, List.set_cons_succ, List.set_cons_zero]
          refine wpAnyH_done (by kernel_rfl) ?_ _
          go_wp2_with fail
          go_meet
          exact ⟨w3.heap.size, rfl, Is.setCells (nL [m0, m1, m2, m3]) 0 (Is.new w3 58 (nA [0, 0, 0, 0])), ownsRow_farCells (hown3.alloc _) (fun e => by have := (hown3.lt _ e).2; omega) _ _, belowCells hB3.size _ _ (hB3.alloc hB3.size _)⟩
        · rw [if_pos (by kernel_rfl)]
          go_simp
          refine hKc.out _ _ trivial (fun _ => ?_)
          clear hKc Kc
          try simp only [Act.put, List.setIfInBounds_toArray, List.set_cons_succ, List.set_cons_zero]
          have iA : Is (wr.drew.alloc (.cells (nA [0, 0, 0, 0]) 58)) wr.heap.size 58 (nA [0, 0, 0, 0]) := Is.new wr.drew _ _
          have hBA := hBD.alloc hBD.size (.cells (nA [0, 0, 0, 0]) 58)
          have hownA := hownD.alloc (.cells (nA [0, 0, 0, 0]) 58)
          have hlo : ∀ g, u3.ownBlock = some g → g < wr.heap.size := fun g e => (hown.lt g e).2
          have hwr : w.heap.size ≤ wr.heap.size := hB.size
          refine wpAnyH_call (i := 20) (o := { dst := some 30, op := Op.call { callee := Callee.value (Operand.func 53), args := #[Operand.tmp 29], argTypes := #[58] }, type := 58, pos := "ref.go:73", after := #[{ on := 19, ground := Ground.data }], guard := none }) (by kernel_rfl) (by kernel_rfl) (by kernel_rfl) (fun w => by kernel_rfl) ((MX.out _).mono ?_)
          rintro e w3 ⟨rfl, hb3⟩
          have iA3 := iA.below hb3 iA.lt
          have hB3 : Below w.heap.size w w3 := hBA.trans (hb3.mono hBA.size)
          have hown3 := ownsRow_belowW hownA hb3
          have hth := nA_there iA3 0 4 (by decide)
          refine ⟨_, rfl, trivial, ?_⟩
          try simp only [Act.put, List.setIfInBounds_toArray, List.set_cons_succ, List.set_cons_zero]
          refine wpAnyH_storemid (i := 22) (o := { dst := none, op := Op.store 58 (Operand.tmp 5) (Operand.tmp 30), type := 0, pos := "ref.go:73", after := #[{ on := 21, ground := Ground.data }, { on := 20, ground := Ground.data }, { on := 20, ground := Ground.chain }, { on := 0, ground := Ground.phase }, { on := 1, ground := Ground.phase }, { on := 2, ground := Ground.phase }, { on := 3, ground := Ground.phase }, { on := 4, ground := Ground.phase }, { on := 5, ground := Ground.phase }, { on := 6, ground := Ground.phase }, { on := 7, ground := Ground.phase }, { on := 8, ground := Ground.phase }, { on := 9, ground := Ground.phase }, { on := 10, ground := Ground.phase }, { on := 11, ground := Ground.phase }, { on := 12, ground := Ground.phase }, { on := 13, ground := Ground.phase }, { on := 14, ground := Ground.phase }, { on := 15, ground := Ground.phase }, { on := 16, ground := Ground.phase }, { on := 17, ground := Ground.phase }, { on := 18, ground := Ground.phase }, { on := 19, ground := Ground.phase }, { on := 20, ground := Ground.phase }, { on := 21, ground := Ground.phase }], guard := none }) (b := wr.heap.size) (off := 0) (cs := nA ([m0, m1, m2, m3])) (by kernel_rfl) (by kernel_rfl) (by kernel_rfl) rfl (by kernel_rfl) (by kernel_rfl) hth info4 (nA_one _) trivial ?_
          simp only [Act.put, List.setIfInBounds_toArray, List.set_cons_succ, List.set_cons_zero]
          refine wpAnyH_done (by kernel_rfl) ?_ _
          go_wp2_with fail
          go_meet
          exact ⟨wr.heap.size, rfl, Is.setCells (nL [m0, m1, m2, m3]) 0 iA3, ownsRow_farCells hown3 (fun e => by have := hlo _ e; omega) _ _, belowCells hwr _ _ hB3⟩
      case rest =>
        obtain ⟨B5, rfl, iM, hownC, hBC⟩ := hcut
        clear g0 g1 g2 g3 k0 k1 k2 k3 f0 f1 f2 f3 v0 v1 v2 v3 l0 l1 l2 l3 MX hown hB hownD hBD
        have c0 : wc.cell? ⟨B5, 0, none⟩ = some (.int .u8 (m0 : Int)) := iM.cell 0
        have c1 : wc.cell? ⟨B5, 1, none⟩ = some (.int .u8 (m1 : Int)) := iM.cell 1
        have c2 : wc.cell? ⟨B5, 2, none⟩ = some (.int .u8 (m2 : Int)) := iM.cell 2
        have c3 : wc.cell? ⟨B5, 3, none⟩ = some (.int .u8 (m3 : Int)) := iM.cell 3
        go_wp2_with (at_builtin; refine wpList_append_own _ rfl _ _ 33 rfl w.heap.size 5 i0 (.int .u8 0) 1 1 Try.underlying33 hi hz0 hz1 hz2 rfl (by decide) _ _ _ rfl (hownC.alloc _) ⟨wc.heap.size, 0, none⟩ 4 4 (nL [m0, m1, m2, m3]) rfl rfl ?c1 ?c2 ?c3 ?c4 ?c5 ?_)
        case c1 =>
          intro j u hj
          match j, hj with
          | 0, hj => simp [nL] at hj; subst hj; simp [Addr.add]
          | 1, hj => simp [nL] at hj; subst hj; simp [Addr.add]
          | 2, hj => simp [nL] at hj; subst hj; simp [Addr.add]
          | 3, hj => simp [nL] at hj; subst hj; simp [Addr.add]
        case c2 =>
          intro u hu
          obtain ⟨x, _, rfl⟩ := List.mem_map.1 hu
          rfl
        case c3 => unfold maxLen; omega
        case c4 => omega
        case c5 => have := hBC.size; simp; omega
        intro v' w1 hown' hgrow _
        have hB1 : Below w.heap.size w w1 := (hBC.alloc hBC.size _).grown hgrow (by have := hBC.size; simp; omega) (fun g e => (hownC.lt g e).1)
        have hown1 : w1.ownsRow w.heap.size 5 1 v' (4 * (c + 1)) (nL (R.take (4 * (c + 1)))) := by
          rw [HST1.out]
          exact hown'
        clear hown' hgrow hownC hBC
        go_wp2
        go_roundw
        case rel => exact ⟨c + 1, by omega, by go_num, hown1, hB1⟩
        case measure => simp [intOf]; omega
    · obtain rfl : c = 4 := by omega
      rw [List.take_of_length_le (by rw [HR.out]; exact Nat.le_refl _)] at hown
      have hcv := conv_own hown HR.out (by omega)
      generalize hst : strN R = st at hcv
      have HST2 := Lib.hid hst
      clear hst hown
      go_wp2
      go_ret
      exact ⟨by rw [HST2.out]; rfl, hB⟩
end Go.Proofs.Ytjfeloimlgfocaa
