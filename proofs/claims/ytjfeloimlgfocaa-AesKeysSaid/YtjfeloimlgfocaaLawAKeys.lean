/-
  AesKeys: the walk of the statement's function.
-/
import Derived.Test.YtjfeloimlgfocaaAesY
import Derived.Test.YtjfeloimlgfocaaRefF
import Derived.Test.YtjfeloimlgfocaaOps
namespace Go.Proofs.Ytjfeloimlgfocaa
open Go.RowKit

set_option maxRecDepth 100000 in
set_option maxHeartbeats 4000000 in
theorem akeys_16 (key other : ByteArray) (w : World) (hk : key.size ≤ reachBytes) (ho : other.size ≤ reachBytes) :
    Calls Try.prog 5 #[.string key, .string other, .bool false] w fun e w' => e = .returned (.bool true) ∧ Below w.heap.size w w' := by
  have hkm := keyB_may key false
  have hks : (keyB key false).size = 16 := by rw [keyB_size]; rfl
  have hom := keyB_may other false
  have hos : (keyB other false).size = 16 := by rw [keyB_size]; rfl
  have CK := Lib.hid (fun w => key_any key false w hk)
  have CO := Lib.hid (fun w => key_any other false w ho)
  generalize keyB key false = k at *
  generalize keyB other false = o at *
  clear hk ho
  have m1 : ∀ w, Calls Try.prog 11 #[.string k] w fun e w' => e = .returned (.tuple #[.string (expV k), .int .i64 0]) ∧ Below w.heap.size w w' := fun w => by
    have := expand_any k w; rwa [hkm, show errV true = 0 from rfl] at this
  have m2 : ∀ w, Calls Try.prog 11 #[.string o] w fun e w' => e = .returned (.tuple #[.string (expV o), .int .i64 0]) ∧ Below w.heap.size w w' := fun w => by
    have := expand_any o w; rwa [hom, show errV true = 0 from rfl] at this
  have hS := expV_size hkm
  rw [hks] at hS
  have hpl : ∀ i, 16 ≤ i → i < 176 → i / 4 % 4 ≠ 0 → ¬ (16 = 32 ∧ i / 4 % 8 = 4) → btN (expV k) i = btN (expV k) (i - 4) ^^^ btN (expV k) (i - 16) := fun i a b c d => by
    have := expV_plain hkm (i := i) (by omega) (by omega) (by rw [hks]; exact c) (by rw [hks]; exact d)
    rwa [hks] at this
  have hfi := expV_first hkm
  rw [hks] at hfi
  have htk := expV_take hkm
  rw [hks] at htk
  have hinj : k ≠ o → expV k ≠ expV o := fun h e => h (expV_inj hkm (by rw [hks, hos]) e)
  have heq : k = o → expV k = expV o := fun h => by rw [h]
  generalize expV k = S at *
  generalize expV o = T at *
  have s1 : ∀ wx : World, (Instr.slice 9 (.string S) none (some (.int .i64 16)) none).run Try.prog wx = .ok (.string k) wx := fun wx => by
    have := run_slice_string_h (P := Try.prog) (w := wx) (t := 9) (s := S) Try.underlying9 .i64 16 (by omega) (by omega)
    rw [show ((16 : Int)).toNat = 16 from rfl, htk] at this
    exact this
  have hkz : (k.size : Int) = 16 := by rw [hks]; rfl
  have tS : ((S.size : Int) != 176) = false := by rw [hS]; rfl
  have tS2 : (S.size : Int) = 176 := by rw [hS]; rfl
  have HS := Lib.hid hS
  have HPL := Lib.hid hpl
  have HFI := Lib.hid hfi
  have M1 := Lib.hid m1
  have M2 := Lib.hid m2
  clear hS hpl hfi m1 m2 htk hkm hom hks hos
  have hST : ∃ b : Bool, (S.toList == T.toList) = b ∧ (k.toList == o.toList) = b := by
    by_cases h : k = o
    · exact ⟨true, by rw [heq h]; simp, by rw [h]; simp⟩
    · exact ⟨false, beqL (hinj h), beqL h⟩
  clear hinj heq
  obtain ⟨b, hb1, hb2⟩ := hST
  go_enter Try.func5, Try.ntmps5
  go_wp2_with fail
  refine (awake4_any _).mono ?_
  rintro e w1 ⟨rfl, hB1⟩
  go_wp2_with fail
  refine (CK.out _).mono ?_
  rintro e w2 ⟨rfl, h2⟩
  have hB2 : Below w.heap.size w w2 := hB1.trans (h2.mono hB1.size)
  clear h2 hB1
  go_wp2_with fail
  refine (M1.out _).mono ?_
  rintro e w3 ⟨rfl, h3⟩
  have hB3 : Below w.heap.size w w3 := hB2.trans (h3.mono hB2.size)
  clear h3 hB2
  go_wp2_with fail
  refine (CO.out _).mono ?_
  rintro e w4 ⟨rfl, h4⟩
  have hB4 : Below w.heap.size w w4 := hB3.trans (h4.mono hB3.size)
  clear h4 hB3
  go_wp2_with fail
  refine (M2.out _).mono ?_
  rintro e w5 ⟨rfl, h5⟩
  have hB5 : Below w.heap.size w w5 := hB4.trans (h5.mono hB4.size)
  clear h5 hB4
  go_wp2_with fail
  refine (CO.out _).mono ?_
  rintro e w6 ⟨rfl, h6⟩
  have hB6 : Below w.heap.size w w6 := hB5.trans (h6.mono hB5.size)
  clear h6 hB5
  go_wp2
  clear hb1 hb2 s1 hkz tS CK CO M1 M2
  go_loopw [14] (fun a wr => ∃ i : Nat, 16 ≤ i ∧ i ≤ 176 ∧ a = .int .i64 (i : Int) ∧ Below w.heap.size w wr) (fun a _ => 176 - (intOf a).toNat)
  case atStart => exact ⟨16, by omega, by omega, rfl, hB6⟩
  case round =>
    clear hB6
    obtain ⟨i, hi0, hi1, rfl, hB⟩ := hrel
    by_cases hlt : i < 176
    · have hl1 : (i : Int) < 176 := by omega
      obtain ⟨W4, hW4⟩ : ∃ W4 : Nat, W4 = i / 4 := ⟨_, rfl⟩
      have hq1 : (i : Int).tdiv 4 = (W4 : Int) := by rw [Int.tdiv_eq_ediv_of_nonneg (by omega)]; omega
      have hq2 : (i : Int) / 4 = (W4 : Int) := by omega
      obtain ⟨R, hR⟩ : ∃ R : Nat, R = W4 % 4 := ⟨_, rfl⟩
      have hr1 : (W4 : Int).tmod 4 = (R : Int) := by rw [Int.tmod_eq_emod_of_nonneg (by omega)]; omega
      have hr2 : (W4 : Int) % 4 = (R : Int) := by omega
      by_cases hr0 : R = 0
      · have t0 : ((R : Int) == 0) = true := by rw [hr0]; rfl
        clear hR hW4
        go_wp2
        go_roundw
        case rel => exact ⟨i + 1, by omega, by omega, by go_num, hB⟩
        case measure => simp [intOf]; omega
      · have t0 : ((R : Int) == 0) = false := by simp; omega
        skip
        obtain ⟨p4, hp4⟩ : ∃ p4 : Nat, p4 = i - 4 := ⟨_, rfl⟩
        obtain ⟨pN, hpN⟩ : ∃ pN : Nat, pN = i - 16 := ⟨_, rfl⟩
        have h4 : (i : Int) - 4 = (p4 : Int) := by omega
        have hN : (i : Int) - 16 = (pN : Int) := by omega
        have l0 : i < S.size := by rw [HS.out]; omega
        have l4 : p4 < S.size := by rw [HS.out]; omega
        have lN : pN < S.size := by rw [HS.out]; omega
        have g0 := btN_get l0
        have g4 := btN_get l4
        have gN := btN_get lN
        have k4 : (p4 : Int) < 176 := by omega
        have kN : (pN : Int) < 176 := by omega
        have hx := u8_xor_nat (btN S p4) (btN S pN) (btN_lt S p4) (btN_lt S pN)
        have hy : btN S p4 ^^^ btN S pN = btN S i := by rw [hp4, hpN]; exact (HPL.out i hi0 hlt (by rw [← hW4, ← hR]; exact hr0) (by omega)).symm
        rw [hy] at hx
        clear hy hp4 hpN hR hW4
        generalize btN S i = y0 at *
        generalize btN S p4 = y4 at *
        generalize btN S pN = yN at *
        go_wp2
        go_region
        go_wp2
        go_roundw
        case rel => exact ⟨i + 1, by omega, by omega, by go_num, belowN hB 1⟩
        case measure => simp [intOf]; omega
    · obtain rfl : i = 176 := by omega
      have l0 : 16 + 1 < S.size := by rw [HS.out]; omega
      have l1 : 1 < S.size := by rw [HS.out]; omega
      have l2 : 16 - 2 < S.size := by rw [HS.out]; omega
      have g0 := btN_get l0
      have g1 := btN_get l1
      have g2 := btN_get l2
      have hfi := HFI.out
      have RS := Lib.hid (fun w => rsub_any (btN S (16 - 2)) w (btN_lt S _))
      have hx := u8_xor_nat (btN S 1) (subN (btN S (16 - 2))) (btN_lt S 1) (inv_at (btN_lt S _)).s
      rw [← hfi] at hx
      clear hfi
      generalize subN (btN S (16 - 2)) = z at *
      generalize btN S (16 + 1) = y0 at *
      generalize btN S (16 - 2) = y2 at *
      generalize btN S 1 = y1 at *
      simp only [Nat.reduceAdd, Nat.reduceSub] at g0 g1 g2
      go_wp2
      refine wp_region_held_drew (S := fun _ => True) (by kernel_rfl) trivial (fun hS => ?_)
      change wpAnyH _ _ (opsOf Try.f5 15) _ _ 17 (Array.replicate 17 false) _ _
      refine wpAnyH_pure (i := 0) (o := { dst := some 103, op := Op.move (Operand.tmp 7), type := 4, pos := "law.go:97", after := #[], guard := none }) (v := .bool true) (by kernel_rfl) (by kernel_rfl) (by kernel_rfl) (by kernel_rfl) (fun _ _ _ h => h) (by kernel_rfl) (fun w hSw => by kernel_rfl) hS ?_
      simp only [Act.put, List.setIfInBounds_toArray, List.set_cons_succ, List.set_cons_zero]
      refine wpAnyH_pure (i := 1) (o := { dst := some 104, op := Op.move (Operand.tmp 103), type := 4, pos := "law.go:97", after := #[{ on := 0, ground := Ground.data }], guard := none }) (v := .bool true) (by kernel_rfl) (by kernel_rfl) (by kernel_rfl) (by kernel_rfl) (fun _ _ _ h => h) (by kernel_rfl) (fun w hSw => by kernel_rfl) hS ?_
      simp only [Act.put, List.setIfInBounds_toArray, List.set_cons_succ, List.set_cons_zero]
      refine wpAnyH_pure (i := 2) (o := { dst := some 105, op := Op.move (Operand.tmp 9), type := 9, pos := "law.go:97", after := #[{ on := 1, ground := Ground.guard }], guard := some (1, true) }) (v := .string S) (by kernel_rfl) (by kernel_rfl) (by kernel_rfl) (by kernel_rfl) (fun _ _ _ h => h) (by kernel_rfl) (fun w hSw => by kernel_rfl) hS ?_
      simp only [Act.put, List.setIfInBounds_toArray, List.set_cons_succ, List.set_cons_zero]
      refine wpAnyH_pure (i := 3) (o := { dst := some 106, op := Op.move (Operand.tmp 13), type := 3, pos := "law.go:97", after := #[{ on := 1, ground := Ground.guard }], guard := some (1, true) }) (v := .int .i64 16) (by kernel_rfl) (by kernel_rfl) (by kernel_rfl) (by kernel_rfl) (fun _ _ _ h => h) (by kernel_rfl) (fun w hSw => by kernel_rfl) hS ?_
      simp only [Act.put, List.setIfInBounds_toArray, List.set_cons_succ, List.set_cons_zero]
      refine wpAnyH_pure (i := 4) (o := { dst := some 107, op := Op.binOp BinOp.add 3 (Operand.tmp 106) (Operand.const (Value.int IntKind.i64 1)) 3, type := 3, pos := "law.go:97", after := #[{ on := 3, ground := Ground.data }, { on := 1, ground := Ground.guard }], guard := some (1, true) }) (v := .int .i64 17) (by kernel_rfl) (by kernel_rfl) (by kernel_rfl) (by kernel_rfl) (fun _ _ _ h => h) (by kernel_rfl) (fun w hSw => by kernel_rfl) hS ?_
      simp only [Act.put, List.setIfInBounds_toArray, List.set_cons_succ, List.set_cons_zero]
      refine wpAnyH_pure (i := 5) (o := { dst := some 108, op := Op.index 9 (Operand.tmp 105) (Operand.tmp 107), type := 5, pos := "law.go:97", after := #[{ on := 2, ground := Ground.data }, { on := 4, ground := Ground.data }, { on := 1, ground := Ground.guard }], guard := some (1, true) }) (v := .int .u8 (y0 : Int)) (by kernel_rfl) (by kernel_rfl) (by kernel_rfl) (by kernel_rfl) (fun _ _ _ h => h) (by kernel_rfl) (fun w hSw => by go_simp) hS ?_
      simp only [Act.put, List.setIfInBounds_toArray, List.set_cons_succ, List.set_cons_zero]
      refine wpAnyH_pure (i := 6) (o := { dst := some 109, op := Op.move (Operand.tmp 9), type := 9, pos := "law.go:97", after := #[{ on := 1, ground := Ground.guard }], guard := some (1, true) }) (v := .string S) (by kernel_rfl) (by kernel_rfl) (by kernel_rfl) (by kernel_rfl) (fun _ _ _ h => h) (by kernel_rfl) (fun w hSw => by kernel_rfl) hS ?_
      simp only [Act.put, List.setIfInBounds_toArray, List.set_cons_succ, List.set_cons_zero]
      refine wpAnyH_pure (i := 7) (o := { dst := some 110, op := Op.index 9 (Operand.tmp 109) (Operand.const (Value.int IntKind.i64 1)), type := 5, pos := "law.go:97", after := #[{ on := 6, ground := Ground.data }, { on := 1, ground := Ground.guard }], guard := some (1, true) }) (v := .int .u8 (y1 : Int)) (by kernel_rfl) (by kernel_rfl) (by kernel_rfl) (by kernel_rfl) (fun _ _ _ h => h) (by kernel_rfl) (fun w hSw => by go_simp) hS ?_
      simp only [Act.put, List.setIfInBounds_toArray, List.set_cons_succ, List.set_cons_zero]
      refine wpAnyH_pure (i := 8) (o := { dst := some 111, op := Op.move (Operand.tmp 9), type := 9, pos := "law.go:97", after := #[{ on := 1, ground := Ground.guard }], guard := some (1, true) }) (v := .string S) (by kernel_rfl) (by kernel_rfl) (by kernel_rfl) (by kernel_rfl) (fun _ _ _ h => h) (by kernel_rfl) (fun w hSw => by kernel_rfl) hS ?_
      simp only [Act.put, List.setIfInBounds_toArray, List.set_cons_succ, List.set_cons_zero]
      refine wpAnyH_pure (i := 9) (o := { dst := some 112, op := Op.move (Operand.tmp 13), type := 3, pos := "law.go:97", after := #[{ on := 1, ground := Ground.guard }], guard := some (1, true) }) (v := .int .i64 16) (by kernel_rfl) (by kernel_rfl) (by kernel_rfl) (by kernel_rfl) (fun _ _ _ h => h) (by kernel_rfl) (fun w hSw => by kernel_rfl) hS ?_
      simp only [Act.put, List.setIfInBounds_toArray, List.set_cons_succ, List.set_cons_zero]
      refine wpAnyH_pure (i := 10) (o := { dst := some 113, op := Op.binOp BinOp.sub 3 (Operand.tmp 112) (Operand.const (Value.int IntKind.i64 2)) 3, type := 3, pos := "law.go:97", after := #[{ on := 9, ground := Ground.data }, { on := 1, ground := Ground.guard }], guard := some (1, true) }) (v := .int .i64 14) (by kernel_rfl) (by kernel_rfl) (by kernel_rfl) (by kernel_rfl) (fun _ _ _ h => h) (by kernel_rfl) (fun w hSw => by kernel_rfl) hS ?_
      simp only [Act.put, List.setIfInBounds_toArray, List.set_cons_succ, List.set_cons_zero]
      refine wpAnyH_pure (i := 11) (o := { dst := some 114, op := Op.index 9 (Operand.tmp 111) (Operand.tmp 113), type := 5, pos := "law.go:97", after := #[{ on := 8, ground := Ground.data }, { on := 10, ground := Ground.data }, { on := 1, ground := Ground.guard }], guard := some (1, true) }) (v := .int .u8 (y2 : Int)) (by kernel_rfl) (by kernel_rfl) (by kernel_rfl) (by kernel_rfl) (fun _ _ _ h => h) (by kernel_rfl) (fun w hSw => by go_simp) hS ?_
      simp only [Act.put, List.setIfInBounds_toArray, List.set_cons_succ, List.set_cons_zero]
      refine wpAnyH_call (i := 12) (o := { dst := some 115, op := Op.call { callee := Callee.value (Operand.func 18), args := #[Operand.tmp 114], argTypes := #[5] }, type := 5, pos := "law.go:97", after := #[{ on := 11, ground := Ground.data }, { on := 1, ground := Ground.chain }, { on := 1, ground := Ground.guard }], guard := some (1, true) }) (by kernel_rfl) (by kernel_rfl) (by kernel_rfl) (fun w => by kernel_rfl) ((RS.out _).mono ?_)
      rintro e w7 ⟨rfl, hb7⟩
      refine ⟨_, rfl, trivial, ?_⟩
      try simp only [Act.put, List.setIfInBounds_toArray, List.set_cons_succ, List.set_cons_zero]
      refine wpAnyH_pure (i := 13) (o := { dst := some 116, op := Op.binOp BinOp.xor 5 (Operand.tmp 110) (Operand.tmp 115) 5, type := 5, pos := "law.go:97", after := #[{ on := 7, ground := Ground.data }, { on := 12, ground := Ground.data }, { on := 1, ground := Ground.guard }], guard := some (1, true) }) (v := .int .u8 (y0 : Int)) (by kernel_rfl) (by kernel_rfl) (by kernel_rfl) (by kernel_rfl) (fun _ _ _ h => h) (by kernel_rfl) (fun w hSw => by go_simp) trivial ?_
      simp only [Act.put, List.setIfInBounds_toArray, List.set_cons_succ, List.set_cons_zero]
      refine wpAnyH_pure (i := 14) (o := { dst := some 117, op := Op.binOp BinOp.eql 5 (Operand.tmp 108) (Operand.tmp 116) 5, type := 4, pos := "law.go:97", after := #[{ on := 5, ground := Ground.data }, { on := 13, ground := Ground.data }, { on := 1, ground := Ground.guard }], guard := some (1, true) }) (v := .bool true) (by kernel_rfl) (by kernel_rfl) (by kernel_rfl) (by kernel_rfl) (fun _ _ _ h => h) (by kernel_rfl) (fun w hSw => by go_simp) trivial ?_
      simp only [Act.put, List.setIfInBounds_toArray, List.set_cons_succ, List.set_cons_zero]
      refine wpAnyH_pure (i := 15) (o := { dst := some 118, op := Op.pick (Operand.tmp 104) (Operand.tmp 117) (Operand.const (Value.bool false)), type := 4, pos := "law.go:97", after := #[{ on := 1, ground := Ground.data }, { on := 14, ground := Ground.data }], guard := none }) (v := .bool true) (by kernel_rfl) (by kernel_rfl) (by kernel_rfl) (by kernel_rfl) (fun _ _ _ h => h) (by kernel_rfl) (fun w hSw => by go_simp) trivial ?_
      simp only [Act.put, List.setIfInBounds_toArray, List.set_cons_succ, List.set_cons_zero]
      refine wpAnyH_pure (i := 16) (o := { dst := some 6, op := Op.assign (Operand.tmp 118), type := 4, pos := "law.go:97", after := #[{ on := 15, ground := Ground.data }, { on := 12, ground := Ground.chain }, { on := 0, ground := Ground.phase }, { on := 1, ground := Ground.phase }, { on := 2, ground := Ground.phase }, { on := 3, ground := Ground.phase }, { on := 4, ground := Ground.phase }, { on := 5, ground := Ground.phase }, { on := 6, ground := Ground.phase }, { on := 7, ground := Ground.phase }, { on := 8, ground := Ground.phase }, { on := 9, ground := Ground.phase }, { on := 10, ground := Ground.phase }, { on := 11, ground := Ground.phase }, { on := 12, ground := Ground.phase }, { on := 13, ground := Ground.phase }, { on := 14, ground := Ground.phase }, { on := 15, ground := Ground.phase }], guard := none }) (v := .bool true) (by kernel_rfl) (by kernel_rfl) (by kernel_rfl) (by kernel_rfl) (fun _ _ _ h => h) (by kernel_rfl) (fun w hSw => by go_simp) trivial ?_
      simp only [Act.put, List.setIfInBounds_toArray, List.set_cons_succ, List.set_cons_zero]
      refine wpAnyH_last (k := 6) (v := .bool true) (by kernel_rfl) rfl rfl (fun T hT => ?_)
      go_wp2
      go_ret
      exact ⟨congrArg Ending.returned hT, (belowN hB 1).trans (hb7.mono (belowN hB 1).size)⟩

set_option maxRecDepth 100000 in
set_option maxHeartbeats 4000000 in
theorem akeys_32 (key other : ByteArray) (w : World) (hk : key.size ≤ reachBytes) (ho : other.size ≤ reachBytes) :
    Calls Try.prog 5 #[.string key, .string other, .bool true] w fun e w' => e = .returned (.bool true) ∧ Below w.heap.size w w' := by
  have hkm := keyB_may key true
  have hks : (keyB key true).size = 32 := by rw [keyB_size]; rfl
  have hom := keyB_may other true
  have hos : (keyB other true).size = 32 := by rw [keyB_size]; rfl
  have CK := Lib.hid (fun w => key_any key true w hk)
  have CO := Lib.hid (fun w => key_any other true w ho)
  generalize keyB key true = k at *
  generalize keyB other true = o at *
  clear hk ho
  have m1 : ∀ w, Calls Try.prog 11 #[.string k] w fun e w' => e = .returned (.tuple #[.string (expV k), .int .i64 0]) ∧ Below w.heap.size w w' := fun w => by
    have := expand_any k w; rwa [hkm, show errV true = 0 from rfl] at this
  have m2 : ∀ w, Calls Try.prog 11 #[.string o] w fun e w' => e = .returned (.tuple #[.string (expV o), .int .i64 0]) ∧ Below w.heap.size w w' := fun w => by
    have := expand_any o w; rwa [hom, show errV true = 0 from rfl] at this
  have hS := expV_size hkm
  rw [hks] at hS
  have hpl : ∀ i, 32 ≤ i → i < 240 → i / 4 % 8 ≠ 0 → ¬ (32 = 32 ∧ i / 4 % 8 = 4) → btN (expV k) i = btN (expV k) (i - 4) ^^^ btN (expV k) (i - 32) := fun i a b c d => by
    have := expV_plain hkm (i := i) (by omega) (by omega) (by rw [hks]; exact c) (by rw [hks]; exact d)
    rwa [hks] at this
  have hfi := expV_first hkm
  rw [hks] at hfi
  have htk := expV_take hkm
  rw [hks] at htk
  have hinj : k ≠ o → expV k ≠ expV o := fun h e => h (expV_inj hkm (by rw [hks, hos]) e)
  have heq : k = o → expV k = expV o := fun h => by rw [h]
  generalize expV k = S at *
  generalize expV o = T at *
  have s1 : ∀ wx : World, (Instr.slice 9 (.string S) none (some (.int .i64 32)) none).run Try.prog wx = .ok (.string k) wx := fun wx => by
    have := run_slice_string_h (P := Try.prog) (w := wx) (t := 9) (s := S) Try.underlying9 .i64 32 (by omega) (by omega)
    rw [show ((32 : Int)).toNat = 32 from rfl, htk] at this
    exact this
  have hkz : (k.size : Int) = 32 := by rw [hks]; rfl
  have tS : ((S.size : Int) != 240) = false := by rw [hS]; rfl
  have tS2 : (S.size : Int) = 240 := by rw [hS]; rfl
  have HS := Lib.hid hS
  have HPL := Lib.hid hpl
  have HFI := Lib.hid hfi
  have M1 := Lib.hid m1
  have M2 := Lib.hid m2
  clear hS hpl hfi m1 m2 htk hkm hom hks hos
  have hST : ∃ b : Bool, (S.toList == T.toList) = b ∧ (k.toList == o.toList) = b := by
    by_cases h : k = o
    · exact ⟨true, by rw [heq h]; simp, by rw [h]; simp⟩
    · exact ⟨false, beqL (hinj h), beqL h⟩
  clear hinj heq
  obtain ⟨b, hb1, hb2⟩ := hST
  go_enter Try.func5, Try.ntmps5
  go_wp2_with fail
  refine (awake4_any _).mono ?_
  rintro e w1 ⟨rfl, hB1⟩
  go_wp2_with fail
  refine (CK.out _).mono ?_
  rintro e w2 ⟨rfl, h2⟩
  have hB2 : Below w.heap.size w w2 := hB1.trans (h2.mono hB1.size)
  clear h2 hB1
  go_wp2_with fail
  refine (M1.out _).mono ?_
  rintro e w3 ⟨rfl, h3⟩
  have hB3 : Below w.heap.size w w3 := hB2.trans (h3.mono hB2.size)
  clear h3 hB2
  go_wp2_with fail
  refine (CO.out _).mono ?_
  rintro e w4 ⟨rfl, h4⟩
  have hB4 : Below w.heap.size w w4 := hB3.trans (h4.mono hB3.size)
  clear h4 hB3
  go_wp2_with fail
  refine (M2.out _).mono ?_
  rintro e w5 ⟨rfl, h5⟩
  have hB5 : Below w.heap.size w w5 := hB4.trans (h5.mono hB4.size)
  clear h5 hB4
  go_wp2_with fail
  refine (CO.out _).mono ?_
  rintro e w6 ⟨rfl, h6⟩
  have hB6 : Below w.heap.size w w6 := hB5.trans (h6.mono hB5.size)
  clear h6 hB5
  go_wp2
  clear hb1 hb2 s1 hkz tS CK CO M1 M2
  go_loopw [14] (fun a wr => ∃ i : Nat, 32 ≤ i ∧ i ≤ 240 ∧ a = .int .i64 (i : Int) ∧ Below w.heap.size w wr) (fun a _ => 240 - (intOf a).toNat)
  case atStart => exact ⟨32, by omega, by omega, rfl, hB6⟩
  case round =>
    clear hB6
    obtain ⟨i, hi0, hi1, rfl, hB⟩ := hrel
    by_cases hlt : i < 240
    · have hl1 : (i : Int) < 240 := by omega
      obtain ⟨W4, hW4⟩ : ∃ W4 : Nat, W4 = i / 4 := ⟨_, rfl⟩
      have hq1 : (i : Int).tdiv 4 = (W4 : Int) := by rw [Int.tdiv_eq_ediv_of_nonneg (by omega)]; omega
      have hq2 : (i : Int) / 4 = (W4 : Int) := by omega
      obtain ⟨R, hR⟩ : ∃ R : Nat, R = W4 % 8 := ⟨_, rfl⟩
      have hr1 : (W4 : Int).tmod 8 = (R : Int) := by rw [Int.tmod_eq_emod_of_nonneg (by omega)]; omega
      have hr2 : (W4 : Int) % 8 = (R : Int) := by omega
      by_cases hr0 : R = 0
      · have t0 : ((R : Int) == 0) = true := by rw [hr0]; rfl
        clear hR hW4
        go_wp2
        go_roundw
        case rel => exact ⟨i + 1, by omega, by omega, by go_num, hB⟩
        case measure => simp [intOf]; omega
      · have t0 : ((R : Int) == 0) = false := by simp; omega
        by_cases hr4 : i / 4 % 8 = 4
        · have t4 : ((R : Int) == 4) = true := by rw [show R = 4 by omega]; rfl
          clear hr4 hr0 hR hW4
          go_wp2
          go_roundw
          case rel => exact ⟨i + 1, by omega, by omega, by go_num, hB⟩
          case measure => simp [intOf]; omega
        have t4 : ((R : Int) == 4) = false := by simp; omega
        obtain ⟨p4, hp4⟩ : ∃ p4 : Nat, p4 = i - 4 := ⟨_, rfl⟩
        obtain ⟨pN, hpN⟩ : ∃ pN : Nat, pN = i - 32 := ⟨_, rfl⟩
        have h4 : (i : Int) - 4 = (p4 : Int) := by omega
        have hN : (i : Int) - 32 = (pN : Int) := by omega
        have l0 : i < S.size := by rw [HS.out]; omega
        have l4 : p4 < S.size := by rw [HS.out]; omega
        have lN : pN < S.size := by rw [HS.out]; omega
        have g0 := btN_get l0
        have g4 := btN_get l4
        have gN := btN_get lN
        have k4 : (p4 : Int) < 240 := by omega
        have kN : (pN : Int) < 240 := by omega
        have hx := u8_xor_nat (btN S p4) (btN S pN) (btN_lt S p4) (btN_lt S pN)
        have hy : btN S p4 ^^^ btN S pN = btN S i := by rw [hp4, hpN]; exact (HPL.out i hi0 hlt (by rw [← hW4, ← hR]; exact hr0) (by omega)).symm
        rw [hy] at hx
        clear hy hp4 hpN hR hW4
        generalize btN S i = y0 at *
        generalize btN S p4 = y4 at *
        generalize btN S pN = yN at *
        go_wp2
        go_region
        go_wp2
        go_roundw
        case rel => exact ⟨i + 1, by omega, by omega, by go_num, belowN hB 1⟩
        case measure => simp [intOf]; omega
    · obtain rfl : i = 240 := by omega
      have l0 : 32 + 1 < S.size := by rw [HS.out]; omega
      have l1 : 1 < S.size := by rw [HS.out]; omega
      have l2 : 32 - 2 < S.size := by rw [HS.out]; omega
      have g0 := btN_get l0
      have g1 := btN_get l1
      have g2 := btN_get l2
      have hfi := HFI.out
      have RS := Lib.hid (fun w => rsub_any (btN S (32 - 2)) w (btN_lt S _))
      have hx := u8_xor_nat (btN S 1) (subN (btN S (32 - 2))) (btN_lt S 1) (inv_at (btN_lt S _)).s
      rw [← hfi] at hx
      clear hfi
      generalize subN (btN S (32 - 2)) = z at *
      generalize btN S (32 + 1) = y0 at *
      generalize btN S (32 - 2) = y2 at *
      generalize btN S 1 = y1 at *
      simp only [Nat.reduceAdd, Nat.reduceSub] at g0 g1 g2
      go_wp2
      refine wp_region_held_drew (S := fun _ => True) (by kernel_rfl) trivial (fun hS => ?_)
      change wpAnyH _ _ (opsOf Try.f5 15) _ _ 17 (Array.replicate 17 false) _ _
      refine wpAnyH_pure (i := 0) (o := { dst := some 103, op := Op.move (Operand.tmp 7), type := 4, pos := "law.go:97", after := #[], guard := none }) (v := .bool true) (by kernel_rfl) (by kernel_rfl) (by kernel_rfl) (by kernel_rfl) (fun _ _ _ h => h) (by kernel_rfl) (fun w hSw => by kernel_rfl) hS ?_
      simp only [Act.put, List.setIfInBounds_toArray, List.set_cons_succ, List.set_cons_zero]
      refine wpAnyH_pure (i := 1) (o := { dst := some 104, op := Op.move (Operand.tmp 103), type := 4, pos := "law.go:97", after := #[{ on := 0, ground := Ground.data }], guard := none }) (v := .bool true) (by kernel_rfl) (by kernel_rfl) (by kernel_rfl) (by kernel_rfl) (fun _ _ _ h => h) (by kernel_rfl) (fun w hSw => by kernel_rfl) hS ?_
      simp only [Act.put, List.setIfInBounds_toArray, List.set_cons_succ, List.set_cons_zero]
      refine wpAnyH_pure (i := 2) (o := { dst := some 105, op := Op.move (Operand.tmp 9), type := 9, pos := "law.go:97", after := #[{ on := 1, ground := Ground.guard }], guard := some (1, true) }) (v := .string S) (by kernel_rfl) (by kernel_rfl) (by kernel_rfl) (by kernel_rfl) (fun _ _ _ h => h) (by kernel_rfl) (fun w hSw => by kernel_rfl) hS ?_
      simp only [Act.put, List.setIfInBounds_toArray, List.set_cons_succ, List.set_cons_zero]
      refine wpAnyH_pure (i := 3) (o := { dst := some 106, op := Op.move (Operand.tmp 13), type := 3, pos := "law.go:97", after := #[{ on := 1, ground := Ground.guard }], guard := some (1, true) }) (v := .int .i64 32) (by kernel_rfl) (by kernel_rfl) (by kernel_rfl) (by kernel_rfl) (fun _ _ _ h => h) (by kernel_rfl) (fun w hSw => by kernel_rfl) hS ?_
      simp only [Act.put, List.setIfInBounds_toArray, List.set_cons_succ, List.set_cons_zero]
      refine wpAnyH_pure (i := 4) (o := { dst := some 107, op := Op.binOp BinOp.add 3 (Operand.tmp 106) (Operand.const (Value.int IntKind.i64 1)) 3, type := 3, pos := "law.go:97", after := #[{ on := 3, ground := Ground.data }, { on := 1, ground := Ground.guard }], guard := some (1, true) }) (v := .int .i64 33) (by kernel_rfl) (by kernel_rfl) (by kernel_rfl) (by kernel_rfl) (fun _ _ _ h => h) (by kernel_rfl) (fun w hSw => by kernel_rfl) hS ?_
      simp only [Act.put, List.setIfInBounds_toArray, List.set_cons_succ, List.set_cons_zero]
      refine wpAnyH_pure (i := 5) (o := { dst := some 108, op := Op.index 9 (Operand.tmp 105) (Operand.tmp 107), type := 5, pos := "law.go:97", after := #[{ on := 2, ground := Ground.data }, { on := 4, ground := Ground.data }, { on := 1, ground := Ground.guard }], guard := some (1, true) }) (v := .int .u8 (y0 : Int)) (by kernel_rfl) (by kernel_rfl) (by kernel_rfl) (by kernel_rfl) (fun _ _ _ h => h) (by kernel_rfl) (fun w hSw => by go_simp) hS ?_
      simp only [Act.put, List.setIfInBounds_toArray, List.set_cons_succ, List.set_cons_zero]
      refine wpAnyH_pure (i := 6) (o := { dst := some 109, op := Op.move (Operand.tmp 9), type := 9, pos := "law.go:97", after := #[{ on := 1, ground := Ground.guard }], guard := some (1, true) }) (v := .string S) (by kernel_rfl) (by kernel_rfl) (by kernel_rfl) (by kernel_rfl) (fun _ _ _ h => h) (by kernel_rfl) (fun w hSw => by kernel_rfl) hS ?_
      simp only [Act.put, List.setIfInBounds_toArray, List.set_cons_succ, List.set_cons_zero]
      refine wpAnyH_pure (i := 7) (o := { dst := some 110, op := Op.index 9 (Operand.tmp 109) (Operand.const (Value.int IntKind.i64 1)), type := 5, pos := "law.go:97", after := #[{ on := 6, ground := Ground.data }, { on := 1, ground := Ground.guard }], guard := some (1, true) }) (v := .int .u8 (y1 : Int)) (by kernel_rfl) (by kernel_rfl) (by kernel_rfl) (by kernel_rfl) (fun _ _ _ h => h) (by kernel_rfl) (fun w hSw => by go_simp) hS ?_
      simp only [Act.put, List.setIfInBounds_toArray, List.set_cons_succ, List.set_cons_zero]
      refine wpAnyH_pure (i := 8) (o := { dst := some 111, op := Op.move (Operand.tmp 9), type := 9, pos := "law.go:97", after := #[{ on := 1, ground := Ground.guard }], guard := some (1, true) }) (v := .string S) (by kernel_rfl) (by kernel_rfl) (by kernel_rfl) (by kernel_rfl) (fun _ _ _ h => h) (by kernel_rfl) (fun w hSw => by kernel_rfl) hS ?_
      simp only [Act.put, List.setIfInBounds_toArray, List.set_cons_succ, List.set_cons_zero]
      refine wpAnyH_pure (i := 9) (o := { dst := some 112, op := Op.move (Operand.tmp 13), type := 3, pos := "law.go:97", after := #[{ on := 1, ground := Ground.guard }], guard := some (1, true) }) (v := .int .i64 32) (by kernel_rfl) (by kernel_rfl) (by kernel_rfl) (by kernel_rfl) (fun _ _ _ h => h) (by kernel_rfl) (fun w hSw => by kernel_rfl) hS ?_
      simp only [Act.put, List.setIfInBounds_toArray, List.set_cons_succ, List.set_cons_zero]
      refine wpAnyH_pure (i := 10) (o := { dst := some 113, op := Op.binOp BinOp.sub 3 (Operand.tmp 112) (Operand.const (Value.int IntKind.i64 2)) 3, type := 3, pos := "law.go:97", after := #[{ on := 9, ground := Ground.data }, { on := 1, ground := Ground.guard }], guard := some (1, true) }) (v := .int .i64 30) (by kernel_rfl) (by kernel_rfl) (by kernel_rfl) (by kernel_rfl) (fun _ _ _ h => h) (by kernel_rfl) (fun w hSw => by kernel_rfl) hS ?_
      simp only [Act.put, List.setIfInBounds_toArray, List.set_cons_succ, List.set_cons_zero]
      refine wpAnyH_pure (i := 11) (o := { dst := some 114, op := Op.index 9 (Operand.tmp 111) (Operand.tmp 113), type := 5, pos := "law.go:97", after := #[{ on := 8, ground := Ground.data }, { on := 10, ground := Ground.data }, { on := 1, ground := Ground.guard }], guard := some (1, true) }) (v := .int .u8 (y2 : Int)) (by kernel_rfl) (by kernel_rfl) (by kernel_rfl) (by kernel_rfl) (fun _ _ _ h => h) (by kernel_rfl) (fun w hSw => by go_simp) hS ?_
      simp only [Act.put, List.setIfInBounds_toArray, List.set_cons_succ, List.set_cons_zero]
      refine wpAnyH_call (i := 12) (o := { dst := some 115, op := Op.call { callee := Callee.value (Operand.func 18), args := #[Operand.tmp 114], argTypes := #[5] }, type := 5, pos := "law.go:97", after := #[{ on := 11, ground := Ground.data }, { on := 1, ground := Ground.chain }, { on := 1, ground := Ground.guard }], guard := some (1, true) }) (by kernel_rfl) (by kernel_rfl) (by kernel_rfl) (fun w => by kernel_rfl) ((RS.out _).mono ?_)
      rintro e w7 ⟨rfl, hb7⟩
      refine ⟨_, rfl, trivial, ?_⟩
      try simp only [Act.put, List.setIfInBounds_toArray, List.set_cons_succ, List.set_cons_zero]
      refine wpAnyH_pure (i := 13) (o := { dst := some 116, op := Op.binOp BinOp.xor 5 (Operand.tmp 110) (Operand.tmp 115) 5, type := 5, pos := "law.go:97", after := #[{ on := 7, ground := Ground.data }, { on := 12, ground := Ground.data }, { on := 1, ground := Ground.guard }], guard := some (1, true) }) (v := .int .u8 (y0 : Int)) (by kernel_rfl) (by kernel_rfl) (by kernel_rfl) (by kernel_rfl) (fun _ _ _ h => h) (by kernel_rfl) (fun w hSw => by go_simp) trivial ?_
      simp only [Act.put, List.setIfInBounds_toArray, List.set_cons_succ, List.set_cons_zero]
      refine wpAnyH_pure (i := 14) (o := { dst := some 117, op := Op.binOp BinOp.eql 5 (Operand.tmp 108) (Operand.tmp 116) 5, type := 4, pos := "law.go:97", after := #[{ on := 5, ground := Ground.data }, { on := 13, ground := Ground.data }, { on := 1, ground := Ground.guard }], guard := some (1, true) }) (v := .bool true) (by kernel_rfl) (by kernel_rfl) (by kernel_rfl) (by kernel_rfl) (fun _ _ _ h => h) (by kernel_rfl) (fun w hSw => by go_simp) trivial ?_
      simp only [Act.put, List.setIfInBounds_toArray, List.set_cons_succ, List.set_cons_zero]
      refine wpAnyH_pure (i := 15) (o := { dst := some 118, op := Op.pick (Operand.tmp 104) (Operand.tmp 117) (Operand.const (Value.bool false)), type := 4, pos := "law.go:97", after := #[{ on := 1, ground := Ground.data }, { on := 14, ground := Ground.data }], guard := none }) (v := .bool true) (by kernel_rfl) (by kernel_rfl) (by kernel_rfl) (by kernel_rfl) (fun _ _ _ h => h) (by kernel_rfl) (fun w hSw => by go_simp) trivial ?_
      simp only [Act.put, List.setIfInBounds_toArray, List.set_cons_succ, List.set_cons_zero]
      refine wpAnyH_pure (i := 16) (o := { dst := some 6, op := Op.assign (Operand.tmp 118), type := 4, pos := "law.go:97", after := #[{ on := 15, ground := Ground.data }, { on := 12, ground := Ground.chain }, { on := 0, ground := Ground.phase }, { on := 1, ground := Ground.phase }, { on := 2, ground := Ground.phase }, { on := 3, ground := Ground.phase }, { on := 4, ground := Ground.phase }, { on := 5, ground := Ground.phase }, { on := 6, ground := Ground.phase }, { on := 7, ground := Ground.phase }, { on := 8, ground := Ground.phase }, { on := 9, ground := Ground.phase }, { on := 10, ground := Ground.phase }, { on := 11, ground := Ground.phase }, { on := 12, ground := Ground.phase }, { on := 13, ground := Ground.phase }, { on := 14, ground := Ground.phase }, { on := 15, ground := Ground.phase }], guard := none }) (v := .bool true) (by kernel_rfl) (by kernel_rfl) (by kernel_rfl) (by kernel_rfl) (fun _ _ _ h => h) (by kernel_rfl) (fun w hSw => by go_simp) trivial ?_
      simp only [Act.put, List.setIfInBounds_toArray, List.set_cons_succ, List.set_cons_zero]
      refine wpAnyH_last (k := 6) (v := .bool true) (by kernel_rfl) rfl rfl (fun T hT => ?_)
      go_wp2
      go_ret
      exact ⟨congrArg Ending.returned hT, (belowN hB 1).trans (hb7.mono (belowN hB 1).size)⟩

theorem akeys_walk (key other : ByteArray) (l : Bool) (w : World) (hk : key.size ≤ reachBytes) (ho : other.size ≤ reachBytes) :
    Calls Try.prog 5 #[.string key, .string other, .bool l] w fun e w' => e = .returned (.bool true) ∧ Below w.heap.size w w' := by
  cases l with
  | false => exact akeys_16 key other w hk ho
  | true => exact akeys_32 key other w hk ho
end Go.Proofs.Ytjfeloimlgfocaa
