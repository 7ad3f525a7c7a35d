/-
  Contracts of (square).plus and (square).shifted. Conditions: the arguments are bytes.
-/
import Derived.Test.YtjfeloimlgfocaaAesB
import Derived.Test.YtjfeloimlgfocaaOps
namespace Go.Proofs.Ytjfeloimlgfocaa
open Go.RowKit Go.Shelf

theorem col_xor (S K : List Nat) (k : Nat) : xorB (colL S k) (colL K k) = colL (xorB S K) k := by
  rw [colL, colL, colL, xorB, xorB, List.drop_zipWith, List.take_zipWith]

set_option maxRecDepth 100000 in
set_option maxHeartbeats 1000000 in
theorem plus_any (S K : List Nat) (w : World) (hS : Blk S) (hK : Blk K) :
    Calls Try.prog 32 #[.agg (nA S), .agg (nA K)] w fun e w' => e = .returned (.agg (nA (xorB S K))) ∧ Below w.heap.size w w' := by
  have hz : #[Value.int .u8 0, .int .u8 0, .int .u8 0, .int .u8 0, .int .u8 0, .int .u8 0, .int .u8 0, .int .u8 0, .int .u8 0, .int .u8 0, .int .u8 0, .int .u8 0, .int .u8 0, .int .u8 0, .int .u8 0, .int .u8 0] = nA zer16 := rfl
  have HS := Lib.hid hS.len
  have HD := Lib.hid ((hS.xor hK).len.trans hS.len.symm)
  have HK := Lib.hid hK.len
  have HSK := Lib.hid (hS.len.trans hK.len.symm)
  have hb := hS.lt
  have hc := hK.lt
  clear hS hK
  go_enter Try.func32, Try.ntmps32
  go_wp2
  clear hz
  have iX : Is (((w.alloc (.cells (nA S) 60)).alloc (.cells (nA K) 60)).alloc (.cells (nA zer16) 60)) w.heap.size 60 (nA S) := ((Is.new w _ _).alloc _).alloc _
  have iY : Is (((w.alloc (.cells (nA S) 60)).alloc (.cells (nA K) 60)).alloc (.cells (nA zer16) 60)) (w.heap.size + 1) 60 (nA K) := Is.alloc (heap_alloc2_new w _ _) _
  have iR : Is (((w.alloc (.cells (nA S) 60)).alloc (.cells (nA K) 60)).alloc (.cells (nA zer16) 60)) (w.heap.size + 1 + 1) 60 (nA zer16) := by
    have := Is.new ((w.alloc (.cells (nA S) 60)).alloc (.cells (nA K) 60)) 60 (nA zer16)
    simpa using this
  have hB0 : Below w.heap.size w (((w.alloc (.cells (nA S) 60)).alloc (.cells (nA K) 60)).alloc (.cells (nA zer16) 60)) := (((Below.refl _ _).alloc (Nat.le_refl _) _).alloc (by simp) _).alloc (by simp; omega) _
  generalize (((w.alloc (.cells (nA S) 60)).alloc (.cells (nA K) 60)).alloc (.cells (nA zer16) 60)) = W0 at *
  obtain ⟨Bx, hBx⟩ : ∃ Bx, Bx = w.heap.size := ⟨_, rfl⟩
  obtain ⟨By, hBy⟩ : ∃ By, By = w.heap.size + 1 := ⟨_, rfl⟩
  obtain ⟨Br, hBr⟩ : ∃ Br, Br = w.heap.size + 1 + 1 := ⟨_, rfl⟩
  rw [← hBr, ← hBy, ← hBx]
  rw [← hBx] at iX
  rw [← hBy] at iY
  rw [← hBr] at iR
  have q1 : w.heap.size ≤ Bx := by omega
  have q2 : w.heap.size ≤ Br := by omega
  have q3 : Br ≠ Bx := by omega
  have q4 : By ≠ Bx := by omega
  clear hBx hBr hBy
  go_loopw [6] (fun i wr => ∃ k : Nat, k ≤ 4 ∧ i = .int .i64 (k : Int) ∧ Is wr Bx 60 (nA (thru (xorB S K) S (k * 4))) ∧ Is wr By 60 (nA K) ∧ Is wr Br 60 (nA zer16) ∧ Below w.heap.size w wr)
    (fun i _ => 4 - (intOf i).toNat)
  case atStart => exact ⟨0, by omega, rfl, by rw [Nat.zero_mul, thru_zero]; exact iX, iY, iR, hB0⟩
  case round =>
    clear iX iY iR hB0
    obtain ⟨k, hk, rfl, iX, iY, iR, hB⟩ := hrel
    by_cases hlt : k < 4
    · have hi1 : (k : Int) < 4 := by omega
      have hi0 : (0 : Int) ≤ (k : Int) := by omega
      have hR : wr.rangeAt Bx (k * 4) (nL (colL S k)) := by
        have := nA_range iX (k * 4) 4
        rw [← colL, col_thru HD.out HS.out hlt] at this
        exact this
      have hR0 : wr.drew.rangeAt Bx (k * 4) (nL (colL S k)) := fun j v h => by rw [World.cell?_drew]; exact hR j v h
      have hR2 : wr.rangeAt By (k * 4) (nL (colL K k)) := nA_range iY (k * 4) 4
      have hcl := colL_len HS.out hlt
      have hcl2 := colL_len HK.out hlt
      have hE := fun w => sum_any (colL S k) (colL K k) w hcl hcl2 (colL_lt hb k) (colL_lt hc k)
      have hxl : (xorB (colL S k) (colL K k)).length = 4 := by simp [xorB, hcl, hcl2]
      have HXL := Lib.hid hxl
      have HMP := Lib.hid (col_xor S K k)
      have HE := Lib.hid hE
      have HCL := Lib.hid hcl
      have HCL2 := Lib.hid hcl2
      clear hcl hcl2 hE hxl
      go_wp2
      refine wp_region_held_drew (S := fun w' => w'.rangeAt By (k * 4) (nL (colL K k))) (by kernel_rfl) hR2 (fun hS => ?_)
      change wpAnyH _ _ (opsOf Try.f32 4) _ _ 10 (Array.replicate 10 false) _ _
      refine wpAnyH_pure (i := 0) (o := { dst := some 9, op := Op.move (Operand.tmp 5), type := 3, pos := "aes.go:184", after := #[], guard := none }) (v := .int .i64 (k : Int)) (by kernel_rfl) (by kernel_rfl) (by kernel_rfl) (by kernel_rfl) (fun _ _ _ h => h) (by kernel_rfl) (fun w hSw => by kernel_rfl) hS ?_
      simp only [Act.put]
      refine wpAnyH_pure (i := 1) (o := { dst := some 10, op := Op.move (Operand.tmp 5), type := 3, pos := "aes.go:184", after := #[], guard := none }) (v := .int .i64 (k : Int)) (by kernel_rfl) (by kernel_rfl) (by kernel_rfl) (by kernel_rfl) (fun _ _ _ h => h) (by kernel_rfl) (fun w hSw => by kernel_rfl) hS ?_
      simp only [Act.put]
      refine wpAnyH_pure (i := 2) (o := { dst := some 11, op := Op.indexAddr 60 (Operand.tmp 2) (Operand.tmp 10), type := 0, pos := "aes.go:184", after := #[{ on := 1, ground := Ground.data }], guard := none }) (v := .pointer (some ⟨Bx, k * 4, none⟩)) (by kernel_rfl) (by kernel_rfl) (by kernel_rfl) (by kernel_rfl) (fun _ _ _ h => h) (by kernel_rfl) (fun w hSw => by go_simp) hS ?_
      simp only [Act.put]
      refine wpAnyH_pure (i := 4) (o := { dst := some 13, op := Op.move (Operand.tmp 5), type := 3, pos := "aes.go:184", after := #[], guard := none }) (v := .int .i64 (k : Int)) (by kernel_rfl) (by kernel_rfl) (by kernel_rfl) (by kernel_rfl) (fun _ _ _ h => h) (by kernel_rfl) (fun w hSw => by kernel_rfl) hS ?_
      simp only [Act.put]
      refine wpAnyH_pure (i := 5) (o := { dst := some 14, op := Op.indexAddr 60 (Operand.tmp 3) (Operand.tmp 13), type := 0, pos := "aes.go:184", after := #[{ on := 4, ground := Ground.data }], guard := none }) (v := .pointer (some ⟨By, k * 4, none⟩)) (by kernel_rfl) (by kernel_rfl) (by kernel_rfl) (by kernel_rfl) (fun _ _ _ h => h) (by kernel_rfl) (fun w hSw => by go_simp) hS ?_
      simp only [Act.put]
      refine wpAnyH_take (i := 6) (oi := { dst := some 15, op := Op.load 58 (Operand.tmp 14), type := 58, pos := "aes.go:184", after := #[{ on := 5, ground := Ground.data }], guard := none }) (v := .agg (nA (colL K k))) (by kernel_rfl) (by kernel_rfl) (by kernel_rfl) (by kernel_rfl) (fun _ _ _ h => h) (yieldsIf_load_mid (by kernel_rfl) 58 (.tmp 14) rfl (By) (k * 4) rfl (nL (colL K k)) _ (fun _ h => h) Try.underlying58 rfl (by rw [nL_len, HCL2.out]; exact info4)) hS ?_
      simp only [Act.put]
      refine wpAnyH_loadmid (i := 3) (o := { dst := some 12, op := Op.load 58 (Operand.tmp 11), type := 58, pos := "aes.go:184", after := #[{ on := 2, ground := Ground.data }], guard := none }) (b := Bx) (off := k * 4) (cs := nL (colL S k)) (by kernel_rfl) (by kernel_rfl) (by kernel_rfl) rfl (by kernel_rfl) hR0 Try.underlying58 rfl (by rw [nL_len, HCL.out]; exact info4) hS ?_
      rw [nL_arr]
      simp only [Act.put]
      refine wpAnyH_call (i := 7) (o := { dst := some 16, op := Op.call { callee := Callee.value (Operand.func 51), args := #[Operand.tmp 12, Operand.tmp 15], argTypes := #[58, 58] }, type := 58, pos := "aes.go:184", after := #[{ on := 3, ground := Ground.data }, { on := 6, ground := Ground.data }], guard := none }) (by kernel_rfl) (by kernel_rfl) (by kernel_rfl) (fun w => by kernel_rfl) ((HE.out _).mono ?_)
      rintro e w1 ⟨rfl, h1⟩
      have jX : Is w1 Bx 60 (nA (thru (xorB S K) S (k * 4))) := Is.below (w := wr.drew) iX h1 iX.lt
      have jY : Is w1 By 60 (nA K) := Is.below (w := wr.drew) iY h1 iY.lt
      have jR : Is w1 Br 60 (nA zer16) := Is.below (w := wr.drew) iR h1 iR.lt
      have jB : Below w.heap.size w w1 := (belowD hB).trans (h1.mono hB.size)
      have hR3 : w1.rangeAt By (k * 4) (nL (colL K k)) := nA_range jY (k * 4) 4
      refine ⟨_, rfl, hR3, ?_⟩
      try simp only [Act.put]
      refine wpAnyH_pure (i := 8) (o := { dst := some 17, op := Op.indexAddr 60 (Operand.tmp 2) (Operand.tmp 9), type := 0, pos := "aes.go:184", after := #[{ on := 0, ground := Ground.data }, { on := 0, ground := Ground.phase }, { on := 1, ground := Ground.phase }, { on := 2, ground := Ground.phase }, { on := 3, ground := Ground.phase }, { on := 4, ground := Ground.phase }, { on := 5, ground := Ground.phase }, { on := 6, ground := Ground.phase }, { on := 7, ground := Ground.phase }], guard := none }) (v := .pointer (some ⟨Bx, k * 4, none⟩)) (by kernel_rfl) (by kernel_rfl) (by kernel_rfl) (by kernel_rfl) (fun _ _ _ h => h) (by kernel_rfl) (fun w hSw => by go_simp) hR3 ?_
      simp only [Act.put]
      have hth : w1.there Bx (k * 4) (nA (xorB (colL S k) (colL K k))).size := by rw [nA_size, HXL.out]; exact nA_there jX _ _ (by rw [thru_len HD.out, HS.out]; omega)
      have hi9 : (Try.prog.info? 58).map (·.size) = some (nA (xorB (colL S k) (colL K k))).size := by rw [nA_size, HXL.out]; exact info4
      have mX := jX.setCells (nL (xorB (colL S k) (colL K k))) (k * 4)
      rw [show setAll (nA (thru (xorB S K) S (k * 4))) (k * 4) (nL (xorB (colL S k) (colL K k))) = nA (thru (xorB S K) S ((k + 1) * 4)) by rw [HMP.out, colL, setAll_thru HD.out _ _ (by rw [HS.out]; omega), show k * 4 + 4 = (k + 1) * 4 by omega]] at mX
      have mY := jY.farCells q4 (nL (xorB (colL S k) (colL K k))) (k * 4)
      have mR := jR.farCells q3 (nL (xorB (colL S k) (colL K k))) (k * 4)
      have mB := belowCells q1 (nL (xorB (colL S k) (colL K k))) (k * 4) jB
      refine wpAnyH_storemid (i := 9) (o := { dst := none, op := Op.store 58 (Operand.tmp 17) (Operand.tmp 16), type := 0, pos := "aes.go:184", after := #[{ on := 8, ground := Ground.data }, { on := 7, ground := Ground.data }, { on := 7, ground := Ground.chain }, { on := 0, ground := Ground.phase }, { on := 1, ground := Ground.phase }, { on := 2, ground := Ground.phase }, { on := 3, ground := Ground.phase }, { on := 4, ground := Ground.phase }, { on := 5, ground := Ground.phase }, { on := 6, ground := Ground.phase }, { on := 7, ground := Ground.phase }], guard := none }) (b := Bx) (off := k * 4) (cs := nA (xorB (colL S k) (colL K k))) (by kernel_rfl) (by kernel_rfl) (by kernel_rfl) rfl (by kernel_rfl) (by kernel_rfl) hth hi9 (nA_one _) (nA_range mY (k * 4) 4) ?_
      simp only [Act.put]
      rw [nA_list]
      generalize w1.setCells Bx (k * 4) (nL (xorB (colL S k) (colL K k))) = W2 at *
      refine wpAnyH_done (by kernel_rfl) ?_ _
      go_wp2
      go_roundw
      case rel => exact ⟨k + 1, by omega, by go_num, mX, mY, mR, mB⟩
      case measure => simp [intOf]; omega
    · have hi1 : ¬ (k : Int) < 4 := by omega
      obtain rfl : k = 4 := by omega
      rw [thru_all HD.out (by rw [HS.out]; omega)] at iX
      have hl : (xorB S K).length = 16 := by rw [HD.out, HS.out]
      have hone := nA_one (xorB S K)
      have hin : (Try.prog.info? 60).map (·.size) = some (nA (xorB S K)).size := by rw [nA_size, hl]; exact info16
      have hs2 : (nA (xorB S K)).size = 16 := by rw [nA_size, hl]
      generalize hR : nA (xorB S K) = R at *
      have HR := Lib.hid hR
      clear hR
      go_wp2_with (first
        | (refine wpList_load_row rfl 60 _ rfl Bx rfl _ _ _ _ iX Try.underlying60 rfl hin ?_)
        | (refine wpList_store_row rfl 60 _ _ rfl Br R rfl rfl _ _ iR hin (by rw [hs2]; rfl) hone ?_))
      refine bodyPost_ret (results_cell_row Try.results32 _ _ Br 60 R (0, 0) _ rfl (iR.row _) Try.underlying60 rfl hin) rfl ⟨by rw [HR.out], ?_⟩
      exact belowRow hB q2 _
end Go.Proofs.Ytjfeloimlgfocaa
