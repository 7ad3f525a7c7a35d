/-
  AesTells: the walk of the statement's function.
-/
import Derived.Test.YtjfeloimlgfocaaRefQ
namespace Go.Proofs.Ytjfeloimlgfocaa
open Go.RowKit Go.Shelf

set_option maxRecDepth 100000 in
set_option maxHeartbeats 4000000 in
theorem atells_walk (key block : ByteArray) (l : Bool) (w : World) (hk : key.size ≤ reachBytes) (hb : block.size ≤ reachBytes) :
    Calls Try.prog 3 #[.string key, .string block, .bool l] w fun e w' => e = .returned (.bool true) ∧ Below w.heap.size w w' := by
  have CK := Lib.hid (fun w => key_any key l w hk)
  have CC := Lib.hid (fun w => chunk_any block w hb)
  have s7 : ∃ k2, ∀ wx : World, (Instr.slice 9 (.string key) none (some (.int .i64 (min (key.size : Int) 40))) none).run Try.prog wx = .ok (.string k2) wx := ⟨_, fun wx => run_slice_string_h (P := Try.prog) (w := wx) (t := 9) (s := key) Try.underlying9 .i64 (min (key.size : Int) 40) (by omega) (by omega)⟩
  have s15 : ∃ b2, ∀ wx : World, (Instr.slice 9 (.string block) none (some (.int .i64 (min (block.size : Int) 40))) none).run Try.prog wx = .ok (.string b2) wx := ⟨_, fun wx => run_slice_string_h (P := Try.prog) (w := wx) (t := 9) (s := block) Try.underlying9 .i64 (min (block.size : Int) 40) (by omega) (by omega)⟩
  obtain ⟨k2, s7⟩ := s7
  obtain ⟨b2, s15⟩ := s15
  generalize keyB key l = k at *
  generalize chunkB block = b at *
  clear hk hb
  go_enter Try.func3, Try.ntmps3
  go_wp2_with fail
  refine (awake4_any _).mono ?_
  rintro e w1 ⟨rfl, hB1⟩
  go_wp2_with fail
  refine (CK.out _).mono ?_
  rintro e w2 ⟨rfl, h2⟩
  have hB2 : Below w.heap.size w w2 := hB1.trans (h2.mono hB1.size)
  clear h2 hB1
  go_wp2_with fail
  refine (CC.out _).mono ?_
  rintro e w3 ⟨rfl, h3⟩
  have hB3 : Below w.heap.size w w3 := hB2.trans (h3.mono hB2.size)
  clear h3 hB2
  go_wp2
  refine wp_region_held_drew (S := fun _ => True) (by kernel_rfl) trivial (fun hS => ?_)
  change wpAnyH _ _ (opsOf Try.f3 4) _ _ 20 (Array.replicate 20 false) _ _
  refine wpAnyH_pure (i := 0) (o := { dst := some 30, op := Op.move (Operand.tmp 8), type := 9, pos := "law.go:49", after := #[], guard := none }) (v := .string k) (by kernel_rfl) (by kernel_rfl) (by kernel_rfl) (by kernel_rfl) (fun _ _ _ h => h) (by kernel_rfl) (fun w hSw => by kernel_rfl) hS ?_
  simp only [Act.put, List.setIfInBounds_toArray, List.set_cons_succ, List.set_cons_zero]
  refine wpAnyH_pure (i := 1) (o := { dst := some 31, op := Op.move (Operand.tmp 9), type := 9, pos := "law.go:49", after := #[], guard := none }) (v := .string b) (by kernel_rfl) (by kernel_rfl) (by kernel_rfl) (by kernel_rfl) (fun _ _ _ h => h) (by kernel_rfl) (fun w hSw => by kernel_rfl) hS ?_
  simp only [Act.put, List.setIfInBounds_toArray, List.set_cons_succ, List.set_cons_zero]
  refine wpAnyH_pure (i := 2) (o := { dst := some 32, op := Op.build 25 #[(0, Operand.tmp 30), (1, Operand.tmp 31)], type := 25, pos := "law.go:49", after := #[{ on := 0, ground := Ground.data }, { on := 1, ground := Ground.data }], guard := none }) (v := .agg #[.string k, .string b]) (by kernel_rfl) (by kernel_rfl) (by kernel_rfl) (by kernel_rfl) (fun _ _ _ h => h) (by kernel_rfl) (fun w hSw => by kernel_rfl) hS ?_
  simp only [Act.put, List.setIfInBounds_toArray, List.set_cons_succ, List.set_cons_zero]
  refine wpAnyH_pure (i := 3) (o := { dst := some 33, op := Op.move (Operand.tmp 0), type := 9, pos := "law.go:49", after := #[], guard := none }) (v := .string key) (by kernel_rfl) (by kernel_rfl) (by kernel_rfl) (by kernel_rfl) (fun _ _ _ h => h) (by kernel_rfl) (fun w hSw => by kernel_rfl) hS ?_
  simp only [Act.put, List.setIfInBounds_toArray, List.set_cons_succ, List.set_cons_zero]
  refine wpAnyH_pure (i := 4) (o := { dst := some 34, op := Op.move (Operand.tmp 0), type := 9, pos := "law.go:49", after := #[], guard := none }) (v := .string key) (by kernel_rfl) (by kernel_rfl) (by kernel_rfl) (by kernel_rfl) (fun _ _ _ h => h) (by kernel_rfl) (fun w hSw => by kernel_rfl) hS ?_
  simp only [Act.put, List.setIfInBounds_toArray, List.set_cons_succ, List.set_cons_zero]
  refine wpAnyH_pure (i := 5) (o := { dst := some 35, op := Op.call { callee := Callee.builtin Builtin.len, args := #[Operand.tmp 34], argTypes := #[9] }, type := 3, pos := "law.go:49", after := #[{ on := 4, ground := Ground.data }], guard := none }) (v := .int .i64 (key.size : Int)) (by kernel_rfl) (by kernel_rfl) (by kernel_rfl) (by kernel_rfl) (fun _ _ _ h => h) (by kernel_rfl) (fun w hSw => by go_simp) hS ?_
  simp only [Act.put, List.setIfInBounds_toArray, List.set_cons_succ, List.set_cons_zero]
  refine wpAnyH_pure (i := 6) (o := { dst := some 36, op := Op.call { callee := Callee.builtin Builtin.min, args := #[Operand.tmp 35, Operand.const (Value.int IntKind.i64 40)], argTypes := #[3, 3] }, type := 3, pos := "law.go:49", after := #[{ on := 5, ground := Ground.data }], guard := none }) (v := .int .i64 (min (key.size : Int) 40)) (by kernel_rfl) (by kernel_rfl) (by kernel_rfl) (by kernel_rfl) (fun _ _ _ h => h) (by kernel_rfl) (fun w hSw => by (go_simp; split <;> omega)) hS ?_
  simp only [Act.put, List.setIfInBounds_toArray, List.set_cons_succ, List.set_cons_zero]
  refine wpAnyH_pure (i := 7) (o := { dst := some 37, op := Op.slice 9 (Operand.tmp 33) none (some (Operand.tmp 36)) none, type := 9, pos := "law.go:49", after := #[{ on := 3, ground := Ground.data }, { on := 6, ground := Ground.data }], guard := none }) (v := .string k2) (by kernel_rfl) (by kernel_rfl) (by kernel_rfl) (by kernel_rfl) (fun _ _ _ h => h) (by kernel_rfl) (fun w hSw => by go_simp) hS ?_
  simp only [Act.put, List.setIfInBounds_toArray, List.set_cons_succ, List.set_cons_zero]
  refine wpAnyH_pure (i := 8) (o := { dst := some 38, op := Op.move (Operand.tmp 9), type := 9, pos := "law.go:49", after := #[], guard := none }) (v := .string b) (by kernel_rfl) (by kernel_rfl) (by kernel_rfl) (by kernel_rfl) (fun _ _ _ h => h) (by kernel_rfl) (fun w hSw => by kernel_rfl) hS ?_
  simp only [Act.put, List.setIfInBounds_toArray, List.set_cons_succ, List.set_cons_zero]
  refine wpAnyH_pure (i := 9) (o := { dst := some 39, op := Op.build 25 #[(0, Operand.tmp 37), (1, Operand.tmp 38)], type := 25, pos := "law.go:49", after := #[{ on := 7, ground := Ground.data }, { on := 8, ground := Ground.data }], guard := none }) (v := .agg #[.string k2, .string b]) (by kernel_rfl) (by kernel_rfl) (by kernel_rfl) (by kernel_rfl) (fun _ _ _ h => h) (by kernel_rfl) (fun w hSw => by kernel_rfl) hS ?_
  simp only [Act.put, List.setIfInBounds_toArray, List.set_cons_succ, List.set_cons_zero]
  refine wpAnyH_pure (i := 10) (o := { dst := some 40, op := Op.move (Operand.tmp 8), type := 9, pos := "law.go:49", after := #[], guard := none }) (v := .string k) (by kernel_rfl) (by kernel_rfl) (by kernel_rfl) (by kernel_rfl) (fun _ _ _ h => h) (by kernel_rfl) (fun w hSw => by kernel_rfl) hS ?_
  simp only [Act.put, List.setIfInBounds_toArray, List.set_cons_succ, List.set_cons_zero]
  refine wpAnyH_pure (i := 11) (o := { dst := some 41, op := Op.move (Operand.tmp 1), type := 9, pos := "law.go:49", after := #[], guard := none }) (v := .string block) (by kernel_rfl) (by kernel_rfl) (by kernel_rfl) (by kernel_rfl) (fun _ _ _ h => h) (by kernel_rfl) (fun w hSw => by kernel_rfl) hS ?_
  simp only [Act.put, List.setIfInBounds_toArray, List.set_cons_succ, List.set_cons_zero]
  refine wpAnyH_pure (i := 12) (o := { dst := some 42, op := Op.move (Operand.tmp 1), type := 9, pos := "law.go:49", after := #[], guard := none }) (v := .string block) (by kernel_rfl) (by kernel_rfl) (by kernel_rfl) (by kernel_rfl) (fun _ _ _ h => h) (by kernel_rfl) (fun w hSw => by kernel_rfl) hS ?_
  simp only [Act.put, List.setIfInBounds_toArray, List.set_cons_succ, List.set_cons_zero]
  refine wpAnyH_pure (i := 13) (o := { dst := some 43, op := Op.call { callee := Callee.builtin Builtin.len, args := #[Operand.tmp 42], argTypes := #[9] }, type := 3, pos := "law.go:49", after := #[{ on := 12, ground := Ground.data }], guard := none }) (v := .int .i64 (block.size : Int)) (by kernel_rfl) (by kernel_rfl) (by kernel_rfl) (by kernel_rfl) (fun _ _ _ h => h) (by kernel_rfl) (fun w hSw => by go_simp) hS ?_
  simp only [Act.put, List.setIfInBounds_toArray, List.set_cons_succ, List.set_cons_zero]
  refine wpAnyH_pure (i := 14) (o := { dst := some 44, op := Op.call { callee := Callee.builtin Builtin.min, args := #[Operand.tmp 43, Operand.const (Value.int IntKind.i64 40)], argTypes := #[3, 3] }, type := 3, pos := "law.go:49", after := #[{ on := 13, ground := Ground.data }], guard := none }) (v := .int .i64 (min (block.size : Int) 40)) (by kernel_rfl) (by kernel_rfl) (by kernel_rfl) (by kernel_rfl) (fun _ _ _ h => h) (by kernel_rfl) (fun w hSw => by (go_simp; split <;> omega)) hS ?_
  simp only [Act.put, List.setIfInBounds_toArray, List.set_cons_succ, List.set_cons_zero]
  refine wpAnyH_pure (i := 15) (o := { dst := some 45, op := Op.slice 9 (Operand.tmp 41) none (some (Operand.tmp 44)) none, type := 9, pos := "law.go:49", after := #[{ on := 11, ground := Ground.data }, { on := 14, ground := Ground.data }], guard := none }) (v := .string b2) (by kernel_rfl) (by kernel_rfl) (by kernel_rfl) (by kernel_rfl) (fun _ _ _ h => h) (by kernel_rfl) (fun w hSw => by go_simp) hS ?_
  simp only [Act.put, List.setIfInBounds_toArray, List.set_cons_succ, List.set_cons_zero]
  refine wpAnyH_pure (i := 16) (o := { dst := some 46, op := Op.build 25 #[(0, Operand.tmp 40), (1, Operand.tmp 45)], type := 25, pos := "law.go:49", after := #[{ on := 10, ground := Ground.data }, { on := 15, ground := Ground.data }], guard := none }) (v := .agg #[.string k, .string b2]) (by kernel_rfl) (by kernel_rfl) (by kernel_rfl) (by kernel_rfl) (fun _ _ _ h => h) (by kernel_rfl) (fun w hSw => by kernel_rfl) hS ?_
  simp only [Act.put, List.setIfInBounds_toArray, List.set_cons_succ, List.set_cons_zero]
  refine wpAnyH_pure (i := 19) (o := { dst := some 49, op := Op.move (Operand.const (Value.int IntKind.i64 0)), type := 3, pos := "law.go:49", after := #[], guard := none }) (v := .int .i64 0) (by kernel_rfl) (by kernel_rfl) (by kernel_rfl) (by kernel_rfl) (fun _ _ _ h => h) (by kernel_rfl) (fun w hSw => by go_simp) hS ?_
  simp only [Act.put, List.setIfInBounds_toArray, List.set_cons_succ, List.set_cons_zero]
  refine wpAnyH_step (i := 17) (o := { dst := some 47, op := Op.buildSlice 26 3 #[(0, Operand.tmp 32), (1, Operand.tmp 39), (2, Operand.tmp 46)], type := 26, pos := "law.go:49", after := #[{ on := 2, ground := Ground.data }, { on := 9, ground := Ground.data }, { on := 16, ground := Ground.data }], guard := none }) (by kernel_rfl) (by kernel_rfl) (by kernel_rfl) (fun Kc hKc => ?_)
  go_simp
  refine hKc.out _ _ trivial (fun _ => ?_)
  clear hKc Kc
  try simp only [Act.put, List.setIfInBounds_toArray, List.set_cons_succ, List.set_cons_zero]
  refine wpAnyH_pure (i := 18) (o := { dst := some 48, op := Op.call { callee := Callee.builtin Builtin.len, args := #[Operand.tmp 47], argTypes := #[26] }, type := 3, pos := "law.go:49", after := #[{ on := 17, ground := Ground.data }], guard := none }) (v := .int .i64 3) (by kernel_rfl) (by kernel_rfl) (by kernel_rfl) (by kernel_rfl) (fun _ _ _ h => h) (by kernel_rfl) (fun w hSw => by go_simp) trivial ?_
  simp only [Act.put, List.setIfInBounds_toArray, List.set_cons_succ, List.set_cons_zero]
  refine wpAnyH_done (by kernel_rfl) ?_ _
  have iS0 : Is (w3.alloc (.cells #[.string k, .string b, .string k2, .string b, .string k, .string b2] 25)).drew w3.heap.size 25 #[.string k, .string b, .string k2, .string b, .string k, .string b2] := Is.new w3 _ _
  have hB0 : Below w.heap.size w (w3.alloc (.cells #[.string k, .string b, .string k2, .string b, .string k, .string b2] 25)).drew := belowN (hB3.alloc hB3.size _) 1
  generalize (w3.alloc (.cells #[.string k, .string b, .string k2, .string b, .string k, .string b2] 25)).drew = W0 at *
  obtain ⟨Bs, hBs⟩ : ∃ Bs, Bs = w3.heap.size := ⟨_, rfl⟩
  rw [← hBs] at iS0 ⊢
  clear hBs hB3 s7 s15
  go_wp2
  go_loopw [49] (fun a wr => ∃ i : Nat, i ≤ 3 ∧ a = .int .i64 (i : Int) ∧ Is wr Bs 25 #[.string k, .string b, .string k2, .string b, .string k, .string b2] ∧ Below w.heap.size w wr) (fun a _ => 3 - (intOf a).toNat)
  case atStart => exact ⟨0, by omega, rfl, iS0, hB0⟩
  case round =>
    clear iS0 hB0
    obtain ⟨i, hi, rfl, iS, hB⟩ := hrel
    by_cases hlt : i < 3
    · have hi1 : (i : Int) < 3 := by omega
      have hi0 : (0 : Int) ≤ (i : Int) := by omega
      obtain ⟨ki, bi, hr⟩ : ∃ ki bi, wr.rangeAt Bs (i * 2) [.string ki, .string bi] := by
        match i, hlt with
        | 0, _ => exact ⟨k, b, fun j v hv => by match j, hv with | 0, hv => exact (iS.cell 0).trans hv | 1, hv => exact (iS.cell 1).trans hv⟩
        | 1, _ => exact ⟨k2, b, fun j v hv => by match j, hv with | 0, hv => exact (iS.cell 2).trans hv | 1, hv => exact (iS.cell 3).trans hv⟩
        | 2, _ => exact ⟨k, b2, fun j v hv => by match j, hv with | 0, hv => exact (iS.cell 4).trans hv | 1, hv => exact (iS.cell 5).trans hv⟩
      have P1 := Lib.hid (fun w => expand_any ki w)
      have P2 := Lib.hid (fun w => rexpand_any ki w)
      have P3 := Lib.hid (fun w => encrypt_any ki bi w)
      have P4 := Lib.hid (fun w => rencrypt_any ki bi w)
      have P5 := Lib.hid (fun w => decrypt_any ki bi w)
      have P6 := Lib.hid (fun w => rdecrypt_any ki bi w)
      generalize expV ki = x1 at *
      generalize errV (mayB ki) = x2 at *
      generalize encV ki bi = x3 at *
      generalize decV ki bi = x4 at *
      generalize errV (may2 ki bi) = x5 at *
      have iX : Is (wr.alloc (.cells #[.string ki, .string bi] 25)) wr.heap.size 25 #[.string ki, .string bi] := Is.new wr _ _
      have c0 : (wr.alloc (.cells #[.string ki, .string bi] 25)).cell? ⟨wr.heap.size, 0, none⟩ = some (.string ki) := iX.cell 0
      have c1 : (wr.alloc (.cells #[.string ki, .string bi] 25)).cell? ⟨wr.heap.size, 1, none⟩ = some (.string bi) := iX.cell 1
      replace iS := iS.alloc (.cells #[.string ki, .string bi] 25)
      replace hB := hB.alloc hB.size (.cells #[.string ki, .string bi] 25)
      have hin2 : (Try.prog.info? 25).map (·.size) = some 2 := by kernel_rfl
      obtain ⟨W1, hW1⟩ : ∃ W1, W1 = wr.alloc (.cells #[.string ki, .string bi] 25) := ⟨_, rfl⟩
      rw [← hW1] at iX c0 c1 iS hB
      have HW1 := Lib.hid hW1
      clear hW1
      obtain ⟨Bx, hBx⟩ : ∃ Bx, Bx = wr.heap.size := ⟨_, rfl⟩
      rw [← hBx] at iX c0 c1
      have HBX := Lib.hid hBx
      clear hBx
      go_wp2_with (first
        | (refine wpList_load_mid rfl 25 _ rfl Bs (i * 2) rfl [.string ki, .string bi] _ hr Try.underlying25 rfl hin2 ?_)
        | (refine wpList_store_row rfl 25 _ _ rfl wr.heap.size #[.string ki, .string bi] rfl rfl _ _ (heap_alloc_new wr _) hin2 rfl rfl ?_; rw [World.setRow_alloc_new]))
      rw [← HW1.out, ← HBX.out]
      clear hr
      refine (P1.out _).mono ?_
      rintro e v1 ⟨rfl, hb⟩
      replace iX := iX.below hb iX.lt
      replace iS := iS.below hb iS.lt
      replace hB := hB.trans (hb.mono hB.size)
      replace c0 : v1.cell? ⟨Bx, 0, none⟩ = some (.string ki) := iX.cell 0
      replace c1 : v1.cell? ⟨Bx, 1, none⟩ = some (.string bi) := iX.cell 1
      clear hb
      go_wp2_with fail
      refine (P2.out _).mono ?_
      rintro e v2 ⟨rfl, hb⟩
      replace iX := iX.below hb iX.lt
      replace iS := iS.below hb iS.lt
      replace hB := hB.trans (hb.mono hB.size)
      replace c0 : v2.cell? ⟨Bx, 0, none⟩ = some (.string ki) := iX.cell 0
      replace c1 : v2.cell? ⟨Bx, 1, none⟩ = some (.string bi) := iX.cell 1
      clear hb
      go_wp2_with fail
      refine (P3.out _).mono ?_
      rintro e v3 ⟨rfl, hb⟩
      replace iX := iX.below hb iX.lt
      replace iS := iS.below hb iS.lt
      replace hB := hB.trans (hb.mono hB.size)
      replace c0 : v3.cell? ⟨Bx, 0, none⟩ = some (.string ki) := iX.cell 0
      replace c1 : v3.cell? ⟨Bx, 1, none⟩ = some (.string bi) := iX.cell 1
      clear hb
      go_wp2_with fail
      refine (P4.out _).mono ?_
      rintro e v4 ⟨rfl, hb⟩
      replace iX := iX.below hb iX.lt
      replace iS := iS.below hb iS.lt
      replace hB := hB.trans (hb.mono hB.size)
      replace c0 : v4.cell? ⟨Bx, 0, none⟩ = some (.string ki) := iX.cell 0
      replace c1 : v4.cell? ⟨Bx, 1, none⟩ = some (.string bi) := iX.cell 1
      clear hb
      go_wp2_with fail
      refine (P5.out _).mono ?_
      rintro e v5 ⟨rfl, hb⟩
      replace iX := iX.below hb iX.lt
      replace iS := iS.below hb iS.lt
      replace hB := hB.trans (hb.mono hB.size)
      replace c0 : v5.cell? ⟨Bx, 0, none⟩ = some (.string ki) := iX.cell 0
      replace c1 : v5.cell? ⟨Bx, 1, none⟩ = some (.string bi) := iX.cell 1
      clear hb
      go_wp2_with fail
      refine (P6.out _).mono ?_
      rintro e v6 ⟨rfl, hb⟩
      replace iX := iX.below hb iX.lt
      replace iS := iS.below hb iS.lt
      replace hB := hB.trans (hb.mono hB.size)
      replace c0 : v6.cell? ⟨Bx, 0, none⟩ = some (.string ki) := iX.cell 0
      replace c1 : v6.cell? ⟨Bx, 1, none⟩ = some (.string bi) := iX.cell 1
      clear hb
      go_wp2
      go_roundw
      case rel => exact ⟨i + 1, by omega, by go_num, iS, hB⟩
      case measure => simp [intOf]; omega
    · obtain rfl : i = 3 := by omega
      go_wp2
      go_ret
      exact ⟨rfl, hB⟩
end Go.Proofs.Ytjfeloimlgfocaa
