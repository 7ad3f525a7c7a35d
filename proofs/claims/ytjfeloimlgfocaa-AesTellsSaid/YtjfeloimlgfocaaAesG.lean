/-
  Contract of aes.expanded. Conditions: a key of 16 or 32 bytes.
-/
import Derived.Test.YtjfeloimlgfocaaAesF
namespace Go.Proofs.Ytjfeloimlgfocaa
open Go.RowKit Go.Shelf

set_option maxRecDepth 100000 in
set_option maxHeartbeats 2000000 in
theorem expanded_any (key : ByteArray) (n : Nat) (w : World) (hk : KeyN (natL key) n) :
    Calls Try.prog 57 #[.string key] w fun e w' => ∃ g, e = .returned (.slice (some ⟨g, 0, none⟩) (4 * (n + 7)) (4 * (n + 7))) ∧ Is w' g 58 (nA (expB (natL key))) ∧ w.heap.size ≤ g ∧ Below w.heap.size w w' := by
  obtain ⟨i0, hi, hz0, hz1, hz2⟩ := infoThree infoWord
  have HI := Lib.hid hi
  have HZ0 := Lib.hid hz0
  have HZ1 := Lib.hid hz1
  have HZ2 := Lib.hid hz2
  have hsz : key.size = 4 * n := by rw [← natL_len, hk.len]
  have HSZ := Lib.hid hsz
  have HK := Lib.hid hk
  have hn8 : n ≤ 8 := by have := hk.two; omega
  have hn4 : 4 ≤ n := by have := hk.two; omega
  have hq : (key.size : Int) / 4 = (n : Int) := by omega
  have HDL := Lib.hid hk.expLen
  clear hi hz0 hz1 hz2 hk hsz
  go_enter Try.func57, Try.ntmps57
  go_wp2_with (refine wpList_make_full _ rfl _ _ 85 rfl w.heap.size 58 i0 (.agg #[.int .u8 0, .int .u8 0, .int .u8 0, .int .u8 0]) 4 Try.underlying85 HI.out HZ0.out HZ1.out .i64 .i64 _ _ (4 * (n + 7)) rfl rfl (by omega) (by omega) (by rw [HZ2.out]; omega) (by unfold maxLen; omega) (Nat.le_refl _) ?_; intro wm hown hg; rw [show (Value.agg #[Value.int .u8 0, .int .u8 0, .int .u8 0, .int .u8 0]).cells = #[Value.int .u8 0, .int .u8 0, .int .u8 0, .int .u8 0] from rfl, made_zers] at hown; obtain ⟨iG, hgB⟩ := owned_is hown; have hB0 : Below w.heap.size w wm := (Below.refl _ _).grown hg (Nat.le_refl _) (fun k e => by cases e))
  obtain ⟨g, hg'⟩ : ∃ g, g = w.heap.size := ⟨_, rfl⟩
  rw [← hg'] at iG
  rw [← hg']
  have q1 : w.heap.size ≤ g := by omega
  clear hg' hown hg hgB hq
  obtain ⟨m, hm⟩ : ∃ m, m = 4 * (n + 7) := ⟨_, rfl⟩
  rw [← hm] at iG
  rw [← hm]
  have hmn : n < m := by omega
  have hm60 : m ≤ 60 := by omega
  have hmj : m = n + (3 * n + 28) := by omega
  have HM := Lib.hid hm
  have HMJ := Lib.hid hmj
  have HD := Lib.hid (show (expB (natL key)).length = (zers (m * 4)).length by rw [HDL.out, zers_len, hm]; omega)
  have HZ := Lib.hid (zers_len (m * 4))
  clear hm hmj
  obtain ⟨D, hD⟩ : ∃ D, D = expB (natL key) := ⟨_, rfl⟩
  rw [← hD] at HD
  have HDE := Lib.hid hD
  have HDB := Lib.hid (show ∀ x ∈ D, x < 256 by rw [hD]; exact expB_lt (natL_lt key))
  clear hD
  go_loopw [20] (fun a wr => ∃ i : Nat, i ≤ n ∧ a = .int .i64 (i : Int) ∧ Is wr g 58 (nA (thru D (zers (m * 4)) (i * 4))) ∧ Below w.heap.size w wr)
    (fun a _ => n - (intOf a).toNat)
  case atStart => exact ⟨0, by omega, rfl, by rw [Nat.zero_mul, thru_zero]; exact iG, hB0⟩
  case round =>
    clear iG hB0
    obtain ⟨i, hi, rfl, iG, hB⟩ := hrel
    by_cases hlt : i < n
    · have hi1 : (i : Int) < (n : Int) := by omega
      have hi2 : (i : Int) < (m : Int) := by omega
      have hi3 : i < m := by omega
      have hi0 : (0 : Int) ≤ (i : Int) := by omega
      have hs4 := HSZ.out
      have hcp := run_copy_string_fills (P := Try.prog) wr.drew 33 9 3 5 g (i * 4) 4 4 (key.extract (i * 4) key.size) Try.underlying33 info8 (by rw [ByteArray.size_extract]; omega) (nA_there (w := wr.drew) iG (i * 4) 4 (by rw [thru_len HD.out, HZ.out]; omega))
      have hcol : ((natL (key.extract (i * 4) key.size)).take 4) = colL D i := by
        rw [HDE.out, word_key HK.out hlt, natL_extract, List.take_take, hs4, colL, show min 4 (4 * n - i * 4) = 4 by omega]
      rw [hcol] at hcp
      have w1 : IntKind.i64.wrap ((i : Int) * 4) = ((i * 4 : Nat) : Int) := by rw [IntWalk.i64_in _ (by omega)]; omega
      have hle1 : ((i * 4 : Nat) : Int) ≤ (key.size : Int) := by omega
      have hle2 : i * 4 ≤ key.size := by omega
      have hle0 : (0 : Int) ≤ ((i * 4 : Nat) : Int) := by omega
      clear hcol hs4
      go_wp2
      go_region
      clear hcp w1
      go_wp2
      go_roundw
      case rel =>
        have mO := Is.setCells (w := wr.drew) (nL (colL D i)) (i * 4) iG
        rw [colL, setAll_thru HD.out _ _ (by rw [HZ.out]; omega), show i * 4 + 4 = (i + 1) * 4 by omega] at mO
        exact ⟨i + 1, by omega, by go_num, mO, belowCells (w := wr.drew) q1 _ _ (belowD hB)⟩
      case measure => simp [intOf]; omega
    · have hi1 : ¬ (i : Int) < (n : Int) := by omega
      obtain rfl : n = i := by omega
      go_wp2
      clear hi hlt hi1
      go_loopw [7, 8] (fun c a wr => ∃ p : Nat, n ≤ p + 1 ∧ p + 1 ≤ m ∧ a = .int .i64 ((p : Int) + 1) ∧ c = .int .u8 (((expN (natL key) n (p + 1 - n)).2 : Nat) : Int) ∧ Is wr g 58 (nA (thru D (zers (m * 4)) ((p + 1) * 4))) ∧ Below w.heap.size w wr)
        (fun _ a _ => m - (intOf a).toNat)
      case atStart => exact ⟨n - 1, by omega, by omega, by rw [show ((n - 1 : Nat) : Int) + 1 = (n : Int) by omega], by rw [show n - 1 + 1 - n = 0 by omega]; rfl, by rw [show n - 1 + 1 = n by omega]; exact iG, hB⟩
      case round =>
        clear iG hB
        obtain ⟨p, hp1, hp2, rfl, rfl, iG, hB⟩ := hrel
        have hcb := expC_lt (natL key) (natL_lt key) n (p + 1 - n)
        by_cases hlt : p + 1 < m
        · have hi1 : (p : Int) + 1 < (m : Int) := by omega
          have hi2 : p < m := by omega
          have hi3 : (p : Int) < (m : Int) := by omega
          obtain ⟨j, hj⟩ : ∃ j, p + 1 = n + j := ⟨p + 1 - n, by omega⟩
          have hj2 : j < 3 * n + 28 := by have := HMJ.out; omega
          have hjn : p + 1 - n = j := by omega
          have hwn := word_next HK.out hj2
          rw [← HDE.out, ← hj, Nat.add_sub_cancel] at hwn
          have hcn := expC_next (natL key) n j
          rw [← hj] at hcn
          rw [hjn] at hcb
          rw [hjn]
          rw [show j + 1 = p + 1 + 1 - n by omega] at hcn
          have cl4 : (colL D p).length = 4 := by rw [colL, List.length_take, List.length_drop, HD.out, HZ.out]; omega
          have hXb := colL_lt HDB.out p
          have hR : wr.rangeAt g (p * 4) (nL (colL D p)) := by
            have h0 := nA_range iG (p * 4) 4
            rw [thru_take_drop HD.out (by rw [HZ.out]; omega) (by omega)] at h0
            exact h0
          generalize hX : colL D p = X at *
          generalize hc : (expN (natL key) n j).2 = c at *
          have hgT : g ≠ wr.heap.size := by have := iG.lt; omega
          obtain ⟨Bt, hBt⟩ : ∃ Bt, Bt = wr.heap.size := ⟨_, rfl⟩
          have hsX : (Try.prog.info? 58).map (·.size) = some (nA X).size := by rw [nA_size, cl4]; exact info4
          have hs2 : (nA X).size = 4 := by rw [nA_size, cl4]
          have hone := nA_one X
          have HWN := Lib.hid hwn
          have HCN := Lib.hid hcn
          have HXL0 := Lib.hid cl4
          have HXB := Lib.hid hXb
          have HJ := Lib.hid hj
          have HS2 := Lib.hid hs2
          have HBT := Lib.hid hBt
          clear hwn hcn cl4 hXb hj hs2 hBt hX hc hjn
          have iT : Is (wr.alloc (.cells (nA X) 58)) wr.heap.size 58 (nA X) := Is.new wr _ _
          have iG1 := iG.alloc (.cells (nA X) 58)
          have hB1 := hB.alloc hB.size (.cells (nA X) 58)
          have hnz : ¬ (n : Int) = 0 := by omega
          have hnz2 : ((n : Int) == 0) = false := by simp; omega
          obtain ⟨r, hr⟩ : ∃ r, r = (p + 1) % n := ⟨_, rfl⟩
          have e1 : ((p : Int) + 1) % (n : Int) = (r : Int) := by rw [hr]; simp
          have HR := Lib.hid hr
          have HB0 := Lib.hid hB.size
          clear hr iG hB
          have iG := iG1
          have hB := hB1
          have HBW := Lib.hid (show w.heap.size ≤ wr.heap.size from HB0.out)
          by_cases hA : r = 0
          · have e2 : ((r : Int) == 0) = true := by simp; omega
            have H0 := Lib.hid hA
            clear hA
            obtain ⟨x0, x1, x2, x3, hX4⟩ : ∃ x0 x1 x2 x3, X = [x0, x1, x2, x3] := by
              have := HXL0.out
              match X, this with
              | [a, b, c, d], _ => exact ⟨a, b, c, d, rfl⟩
            have hY0 : X.drop 1 ++ X.take 1 = [x1, x2, x3, x0] := by rw [hX4]; rfl
            have hYb : ∀ x ∈ [x1, x2, x3, x0], x < 256 := by
              intro x hx
              exact HXB.out x (by rw [hX4]; simp only [List.mem_cons, List.not_mem_nil, or_false] at hx ⊢; omega)
            have k0 := iT.cell 0
            have k1 := iT.cell 1
            have k2 := iT.cell 2
            have k3 := iT.cell 3
            rw [nA_get _ _ (by rw [HXL0.out]; omega), show X.getD 0 0 = x0 by rw [hX4]; rfl] at k0
            rw [nA_get _ _ (by rw [HXL0.out]; omega), show X.getD 1 0 = x1 by rw [hX4]; rfl] at k1
            rw [nA_get _ _ (by rw [HXL0.out]; omega), show X.getD 2 0 = x2 by rw [hX4]; rfl] at k2
            rw [nA_get _ _ (by rw [HXL0.out]; omega), show X.getD 3 0 = x3 by rw [hX4]; rfl] at k3
            have hbld : #[Value.int .u8 (x1 : Int), .int .u8 (x2 : Int), .int .u8 (x3 : Int), .int .u8 (x0 : Int)] = nA [x1, x2, x3, x0] := rfl
            have HE := Lib.hid (fun w => each_any 27 subN sub_fn [x1, x2, x3, x0] w rfl hYb)
            obtain ⟨Y, hY⟩ : ∃ Y, Y = [x1, x2, x3, x0].map subN := ⟨_, rfl⟩
            rw [← hY] at HE
            have hYl : Y.length = 4 := by rw [hY]; rfl
            have hYB : ∀ x ∈ Y, x < 256 := by rw [hY]; exact subL_lt hYb
            have hsY : (Try.prog.info? 58).map (·.size) = some (nA Y).size := by rw [nA_size, hYl]; exact info4
            have hoY := nA_one Y
            have HY2 := Lib.hid (show (nA Y).size = 4 by rw [nA_size, hYl])
            have HYE := Lib.hid (show Y = subL (X.drop 1 ++ X.take 1) by rw [hY0, hY]; rfl)
            have HYL := Lib.hid hYl
            have HYB := Lib.hid hYB
            have hM : ∀ w, Calls Try.prog 59 #[.int .u8 2, .int .u8 (c : Int)] w fun e w' => e = .returned (.int .u8 ((mulN 2 c : Nat) : Int)) ∧ Below w.heap.size w w' := fun w => mul_any 2 c w (by decide) hcb
            have HMU := Lib.hid hM
            have hxo := u8_xor_nat (Y.getD 0 0) c (getD_mem_lt hYB 0) hcb
            have hset : (nA Y).setIfInBounds 0 (.int .u8 ((Y.getD 0 0 ^^^ c : Nat) : Int)) = nA (hdX c Y) := by
              rw [nA_set]
              match Y, hYl with
              | [a, b, d, e], _ => rfl
            rw [← hxo] at hset
            have HSET := Lib.hid hset
            clear hX4 hY0 hYb hY hYl hYB hM hxo hset
            go_wp2_with (first | (refine wpList_load_nA rfl 58 (.tmp 43) rfl g (p * 4) rfl X _ hR Try.underlying58 rfl (by rw [HXL0.out]; exact info4) ?_) | (refine wpList_store_row rfl 58 (.tmp 9) (.tmp 44) rfl wr.heap.size (nA X) rfl rfl _ _ (heap_alloc_new wr _) hsX (by rw [HS2.out]; rfl) hone ?_; rw [World.setRow_alloc_new]; generalize (wr.alloc (.cells (nA X) 58)) = W1 at *; generalize wr.heap.size = Bv at *) | (go_at_call 47; refine (HE.out _).mono ?_; rintro e w1 ⟨rfl, h1⟩; have jT := iT.below h1 iT.lt; have jG := iG.below h1 iG.lt; have jB : Below w.heap.size w w1 := hB.trans (h1.mono hB.size)) | (refine wpList_store_row rfl 58 (.tmp 9) (.tmp 59) rfl Bv (nA Y) rfl rfl _ _ jT hsY (by rw [HS2.out, HY2.out]) hoY ?_; have kT : Is (w1.setRow Bv (nA Y)) Bv 58 (nA Y) := jT.row _; have kG := jG.rowFar hgT (nA Y); have kB := belowRow jB HBW.out (nA Y); have m0 := kT.cell 0; rw [nA_get _ _ (by rw [HYL.out]; omega)] at m0; have m1 := kT.frozen 0; generalize (w1.setRow Bv (nA Y)) = W2 at *; generalize Y.getD 0 0 = y0 at *) | (go_at_call 59; refine (HMU.out _).mono ?_; rintro e w3 ⟨rfl, h3⟩))
            have nT := kT.set 0 (.int .u8 (bits BinOp.xor IntKind.u8 (y0 : Int) (c : Int)))
            rw [HSET.out] at nT
            have nG := kG.far (p := ⟨Bv, 0, none⟩) hgT (.int .u8 (bits BinOp.xor IntKind.u8 (y0 : Int) (c : Int)))
            have nB := kB.setCell (p := ⟨Bv, 0, none⟩) HBW.out (.int .u8 (bits BinOp.xor IntKind.u8 (y0 : Int) (c : Int)))
            have oT := nT.below h3 nT.lt
            have oG := nG.below h3 nG.lt
            have oB : Below w.heap.size w w3 := nB.trans (h3.mono nB.size)
            clear nT nG nB kT kG kB jT jG jB h1 h3 m0 m1 k0 k1 k2 k3 hbld HE hsY hoY HMU HSET iT iG hB iG1 hB1
            have iT := oT
            have iG := oG
            have hB := oB
            clear oT oG oB
            generalize w3 = W20 at *
            rw [← HBT.out] at iT hgT
            rw [← HBT.out]
            obtain ⟨T, hT⟩ : ∃ T, T = hdX c Y := ⟨_, rfl⟩
            have HTL := Lib.hid (show T.length = 4 by rw [hT]; exact (by rw [hdX_len, HYL.out]))
            have HTB := Lib.hid (show ∀ x ∈ T, x < 256 by rw [hT]; exact hdX_lt hcb HYB.out)
            have HT := Lib.hid (show xorB (colL D j) T = colL D (p + 1) by rw [HWN.out, hT]; rw [keyT_turn (by rw [← HR.out]; exact H0.out), ← HYE.out])
            have HC2 := Lib.hid (show (expN (natL key) n (p + 1 + 1 - n)).2 = mulN 2 c by rw [HCN.out]; rw [if_pos (by rw [← HR.out]; exact H0.out)])
            have hjj1 : p + 1 ≤ n + j := by have := HJ.out; omega
            have hjj2 : n + j ≤ p + 1 := by have := HJ.out; omega
            have hp0 : (0 : Int) ≤ (p : Int) + 1 := by omega
            rw [← hT] at iT
            clear hT hcb hR hsX hone HWN HCN
            clear e1 hnz hnz2
            have hT4 := HTL.out
            have cl4 : (colL D j).length = 4 := by rw [colL, List.length_take, List.length_drop, HD.out, HZ.out]; omega
            have hxl : (xorB (colL D j) T).length = 4 := by simp [xorB, cl4, hT4]
            have hE := fun w => sum_any (colL D j) T w cl4 hT4 (colL_lt HDB.out j) HTB.out
            have hRj : W20.drew.rangeAt g (j * 4) (nL (colL D j)) := by
              have h0 := nA_range (w := W20.drew) iG (j * 4) 4
              rw [thru_take_drop HD.out (by rw [HZ.out]; omega) (by omega)] at h0
              exact h0
            have HE := Lib.hid hE
            have HXL := Lib.hid hxl
            have HC4 := Lib.hid cl4
            have hlj : j < m := by omega
            have hlj1 : (j : Int) < (m : Int) := by omega
            have hlj0 : (0 : Int) ≤ (j : Int) := by omega
            have hwp : IntKind.i64.wrap ((p : Int) + 1 - (n : Int)) = (j : Int) := by rw [show (p : Int) + 1 - (n : Int) = (j : Int) by omega]; exact IntWalk.i64_in _ (by omega)
            have htn : ((p : Int) + 1).toNat = p + 1 := by omega
            clear hE hxl cl4 hT4
            refine wp_region_held_drew (S := fun W => Is W Bt 58 (nA T)) (by kernel_rfl) (Is.drewN iT 1) (fun hS => ?_)
            change wpAnyH _ _ (opsOf Try.f57 20) _ _ 12 (Array.replicate 12 false) _ _
            refine wpAnyH_pure (i := 0) (o := { dst := some 78, op := Op.move (Operand.tmp 5), type := 85, pos := "aes.go:137", after := #[], guard := none }) (v := .slice (some ⟨g, 0, none⟩) m m) (by kernel_rfl) (by kernel_rfl) (by kernel_rfl) (by kernel_rfl) (fun _ _ _ h => h) (by kernel_rfl) (fun w hSw => by kernel_rfl) hS ?_
            simp only [Act.put, List.setIfInBounds_toArray, List.set_cons_succ, List.set_cons_zero]
            refine wpAnyH_pure (i := 1) (o := { dst := some 79, op := Op.move (Operand.tmp 8), type := 3, pos := "aes.go:137", after := #[], guard := none }) (v := .int .i64 ((p : Int) + 1)) (by kernel_rfl) (by kernel_rfl) (by kernel_rfl) (by kernel_rfl) (fun _ _ _ h => h) (by kernel_rfl) (fun w hSw => by kernel_rfl) hS ?_
            simp only [Act.put, List.setIfInBounds_toArray, List.set_cons_succ, List.set_cons_zero]
            refine wpAnyH_pure (i := 2) (o := { dst := some 80, op := Op.move (Operand.tmp 5), type := 85, pos := "aes.go:137", after := #[], guard := none }) (v := .slice (some ⟨g, 0, none⟩) m m) (by kernel_rfl) (by kernel_rfl) (by kernel_rfl) (by kernel_rfl) (fun _ _ _ h => h) (by kernel_rfl) (fun w hSw => by kernel_rfl) hS ?_
            simp only [Act.put, List.setIfInBounds_toArray, List.set_cons_succ, List.set_cons_zero]
            refine wpAnyH_pure (i := 3) (o := { dst := some 81, op := Op.move (Operand.tmp 8), type := 3, pos := "aes.go:137", after := #[], guard := none }) (v := .int .i64 ((p : Int) + 1)) (by kernel_rfl) (by kernel_rfl) (by kernel_rfl) (by kernel_rfl) (fun _ _ _ h => h) (by kernel_rfl) (fun w hSw => by kernel_rfl) hS ?_
            simp only [Act.put, List.setIfInBounds_toArray, List.set_cons_succ, List.set_cons_zero]
            refine wpAnyH_pure (i := 4) (o := { dst := some 82, op := Op.move (Operand.tmp 3), type := 3, pos := "aes.go:137", after := #[], guard := none }) (v := .int .i64 (n : Int)) (by kernel_rfl) (by kernel_rfl) (by kernel_rfl) (by kernel_rfl) (fun _ _ _ h => h) (by kernel_rfl) (fun w hSw => by kernel_rfl) hS ?_
            simp only [Act.put, List.setIfInBounds_toArray, List.set_cons_succ, List.set_cons_zero]
            refine wpAnyH_pure (i := 5) (o := { dst := some 83, op := Op.binOp BinOp.sub 3 (Operand.tmp 81) (Operand.tmp 82) 3, type := 3, pos := "aes.go:137", after := #[{ on := 3, ground := Ground.data }, { on := 4, ground := Ground.data }], guard := none }) (v := .int .i64 (j : Int)) (by kernel_rfl) (by kernel_rfl) (by kernel_rfl) (by kernel_rfl) (fun _ _ _ h => h) (by kernel_rfl) (fun w hSw => by go_simp) hS ?_
            simp only [Act.put, List.setIfInBounds_toArray, List.set_cons_succ, List.set_cons_zero]
            refine wpAnyH_pure (i := 6) (o := { dst := some 84, op := Op.indexAddr 85 (Operand.tmp 80) (Operand.tmp 83), type := 0, pos := "aes.go:137", after := #[{ on := 2, ground := Ground.data }, { on := 5, ground := Ground.data }], guard := none }) (v := .pointer (some ⟨g, j * 4, none⟩)) (by kernel_rfl) (by kernel_rfl) (by kernel_rfl) (by kernel_rfl) (fun _ _ _ h => h) (by kernel_rfl) (fun w hSw => by go_simp) hS ?_
            simp only [Act.put, List.setIfInBounds_toArray, List.set_cons_succ, List.set_cons_zero]
            refine wpAnyH_take (i := 8) (oi := { dst := some 86, op := Op.load 58 (Operand.tmp 9), type := 58, pos := "aes.go:137", after := #[], guard := none }) (v := .agg (nA (T))) (by kernel_rfl) (by kernel_rfl) (by kernel_rfl) (by kernel_rfl) (fun _ _ _ h => h) (yieldsIf_load_mid (by kernel_rfl) 58 (.tmp 9) rfl (Bt) (0) (by kernel_rfl) (nL (T)) _ (fun _ h => nA_range0 h) Try.underlying58 rfl (by rw [nL_len, HTL.out]; exact info4)) hS ?_
            simp only [Act.put, List.setIfInBounds_toArray, List.set_cons_succ, List.set_cons_zero]
            refine wpAnyH_loadmid (i := 7) (o := { dst := some 85, op := Op.load 58 (Operand.tmp 84), type := 58, pos := "aes.go:137", after := #[{ on := 6, ground := Ground.data }], guard := none }) (b := g) (off := j * 4) (cs := nL (colL D j)) (by kernel_rfl) (by kernel_rfl) (by kernel_rfl) rfl (by kernel_rfl) hRj Try.underlying58 rfl (by rw [nL_len, HC4.out]; exact info4) hS ?_
            rw [nL_arr]
            simp only [Act.put, List.setIfInBounds_toArray, List.set_cons_succ, List.set_cons_zero]
            refine wpAnyH_call (i := 9) (o := { dst := some 87, op := Op.call { callee := Callee.value (Operand.func 51), args := #[Operand.tmp 85, Operand.tmp 86], argTypes := #[58, 58] }, type := 58, pos := "aes.go:137", after := #[{ on := 7, ground := Ground.data }, { on := 8, ground := Ground.data }], guard := none }) (by kernel_rfl) (by kernel_rfl) (by kernel_rfl) (fun w => by kernel_rfl) ((HE.out _).mono ?_)
            rintro e w1 ⟨rfl, h1⟩
            have jG : Is w1 g 58 (nA (thru D (zers (m * 4)) ((p + 1) * 4))) := Is.below (w := W20.drew) iG h1 iG.lt
            have jT : Is w1 Bt 58 (nA T) := Is.below (w := W20.drew) iT h1 iT.lt
            have jB : Below w.heap.size w w1 := (belowD hB).trans (h1.mono hB.size)
            refine ⟨_, rfl, jT, ?_⟩
            try simp only [Act.put, List.setIfInBounds_toArray, List.set_cons_succ, List.set_cons_zero]
            refine wpAnyH_pure (i := 10) (o := { dst := some 88, op := Op.indexAddr 85 (Operand.tmp 78) (Operand.tmp 79), type := 0, pos := "aes.go:137", after := #[{ on := 0, ground := Ground.data }, { on := 1, ground := Ground.data }, { on := 0, ground := Ground.phase }, { on := 1, ground := Ground.phase }, { on := 2, ground := Ground.phase }, { on := 3, ground := Ground.phase }, { on := 4, ground := Ground.phase }, { on := 5, ground := Ground.phase }, { on := 6, ground := Ground.phase }, { on := 7, ground := Ground.phase }, { on := 8, ground := Ground.phase }, { on := 9, ground := Ground.phase }], guard := none }) (v := .pointer (some ⟨g, (p + 1) * 4, none⟩)) (by kernel_rfl) (by kernel_rfl) (by kernel_rfl) (by kernel_rfl) (fun _ _ _ h => h) (by kernel_rfl) (fun w hSw => by go_simp) jT ?_
            simp only [Act.put, List.setIfInBounds_toArray, List.set_cons_succ, List.set_cons_zero]
            have hth : w1.there g ((p + 1) * 4) (nA (xorB (colL D j) T)).size := by rw [nA_size, HXL.out]; exact nA_there jG _ _ (by rw [thru_len HD.out, HZ.out]; omega)
            have hi9 : (Try.prog.info? 58).map (·.size) = some (nA (xorB (colL D j) T)).size := by rw [nA_size, HXL.out]; exact info4
            have mG := jG.setCells (nL (xorB (colL D j) T)) ((p + 1) * 4)
            rw [show setAll (nA (thru D (zers (m * 4)) ((p + 1) * 4))) ((p + 1) * 4) (nL (xorB (colL D j) T)) = nA (thru D (zers (m * 4)) ((p + 1 + 1) * 4)) by rw [HT.out, colL, setAll_thru HD.out _ _ (by rw [HZ.out]; omega), show (p + 1) * 4 + 4 = (p + 1 + 1) * 4 by omega]] at mG
            have mT := jT.farCells hgT.symm (nL (xorB (colL D j) T)) ((p + 1) * 4)
            have mB := belowCells q1 (nL (xorB (colL D j) T)) ((p + 1) * 4) jB
            clear hwp htn
            refine wpAnyH_storemid (i := 11) (o := { dst := none, op := Op.store 58 (Operand.tmp 88) (Operand.tmp 87), type := 0, pos := "aes.go:137", after := #[{ on := 10, ground := Ground.data }, { on := 9, ground := Ground.data }, { on := 9, ground := Ground.chain }, { on := 0, ground := Ground.phase }, { on := 1, ground := Ground.phase }, { on := 2, ground := Ground.phase }, { on := 3, ground := Ground.phase }, { on := 4, ground := Ground.phase }, { on := 5, ground := Ground.phase }, { on := 6, ground := Ground.phase }, { on := 7, ground := Ground.phase }, { on := 8, ground := Ground.phase }, { on := 9, ground := Ground.phase }], guard := none }) (b := g) (off := (p + 1) * 4) (cs := nA (xorB (colL D j) T)) (by kernel_rfl) (by kernel_rfl) (by kernel_rfl) rfl (by kernel_rfl) (by kernel_rfl) hth hi9 (nA_one _) mT ?_
            simp only [Act.put, List.setIfInBounds_toArray, List.set_cons_succ, List.set_cons_zero]
            rw [nA_list]
            generalize w1.setCells g ((p + 1) * 4) (nL (xorB (colL D j) T)) = W2 at *
            refine wpAnyH_done (by kernel_rfl) ?_ _
            clear hth hi9 hRj
            go_wp2
            go_roundw
            case rel => exact ⟨p + 1, by omega, by omega, by go_num, by rw [HC2.out], mG, mB⟩
            case measure => simp [intOf]; omega
          · have e2 : ((r : Int) == 0) = false := by simp; omega
            by_cases h8 : n = 8
            · by_cases h4 : r = 4
              · have e3 : ((r : Int) == 4) = true := by simp; omega
                have e4 : ((n : Int) == 8) = true := by simp; omega
                have H8 := Lib.hid h8
                have H4 := Lib.hid h4
                clear h8 h4
                have hsY : (Try.prog.info? 58).map (·.size) = some (nA (X.map subN)).size := by rw [nA_size, List.length_map, HXL0.out]; exact info4
                have hoY := nA_one (X.map subN)
                have hY2 : (nA (X.map subN)).size = 4 := by rw [nA_size, List.length_map, HXL0.out]
                have HY2 := Lib.hid hY2
                have HE := Lib.hid (fun w => each_any 27 subN sub_fn X w HXL0.out HXB.out)
                clear hY2
                go_wp2_with (first | (refine wpList_load_nA rfl 58 (.tmp 43) rfl g (p * 4) rfl X _ hR Try.underlying58 rfl (by rw [HXL0.out]; exact info4) ?_) | (refine wpList_store_row rfl 58 (.tmp 9) (.tmp 44) rfl wr.heap.size (nA X) rfl rfl _ _ (heap_alloc_new wr _) hsX (by rw [HS2.out]; rfl) hone ?_; rw [World.setRow_alloc_new]) | (refine wpList_load_row rfl 58 (.tmp 9) rfl wr.heap.size rfl _ _ _ _ iT Try.underlying58 rfl hsX ?_) | (go_at_call 47; refine (HE.out _).mono ?_; rintro e w1 ⟨rfl, h1⟩; have jT := iT.below h1 iT.lt; have jG := iG.below h1 iG.lt; have jB : Below w.heap.size w w1 := hB.trans (h1.mono hB.size)) | (refine wpList_store_row rfl 58 (.tmp 9) (.tmp 77) rfl wr.heap.size (nA (X.map subN)) rfl rfl _ _ jT hsY (by rw [HS2.out, HY2.out]) hoY ?_))
                have kT : Is (w1.setRow wr.heap.size (nA (X.map subN))) wr.heap.size 58 (nA (X.map subN)) := jT.row _
                have kG := jG.rowFar hgT (nA (X.map subN))
                have kB := belowRow (g := wr.heap.size) jB HBW.out (nA (X.map subN))
                clear hsY hoY HE jT jG jB h1 iT iG hB iG1 hB1
                have iT := kT
                have iG := kG
                have hB := kB
                clear kT kG kB
                generalize (w1.setRow wr.heap.size (nA (X.map subN))) = W20 at *
                rw [← HBT.out] at iT hgT
                rw [← HBT.out]
                obtain ⟨T, hT⟩ : ∃ T, T = X.map subN := ⟨_, rfl⟩
                have HTL := Lib.hid (show T.length = 4 by rw [hT]; exact (by rw [List.length_map, HXL0.out]))
                have HTB := Lib.hid (show ∀ x ∈ T, x < 256 by rw [hT]; exact subL_lt HXB.out)
                have HT := Lib.hid (show xorB (colL D j) T = colL D (p + 1) by rw [HWN.out, hT]; rw [keyT_sub H8.out (by rw [← HR.out]; exact H4.out)]; rfl)
                have HC2 := Lib.hid (show (expN (natL key) n (p + 1 + 1 - n)).2 = c by rw [HCN.out]; rw [if_neg (by rw [← HR.out]; omega)])
                have hjj1 : p + 1 ≤ n + j := by have := HJ.out; omega
                have hjj2 : n + j ≤ p + 1 := by have := HJ.out; omega
                have hp0 : (0 : Int) ≤ (p : Int) + 1 := by omega
                rw [← hT] at iT
                clear hT hcb hR hsX hone HWN HCN
                clear e1 hnz hnz2
                have hT4 := HTL.out
                have cl4 : (colL D j).length = 4 := by rw [colL, List.length_take, List.length_drop, HD.out, HZ.out]; omega
                have hxl : (xorB (colL D j) T).length = 4 := by simp [xorB, cl4, hT4]
                have hE := fun w => sum_any (colL D j) T w cl4 hT4 (colL_lt HDB.out j) HTB.out
                have hRj : W20.drew.rangeAt g (j * 4) (nL (colL D j)) := by
                  have h0 := nA_range (w := W20.drew) iG (j * 4) 4
                  rw [thru_take_drop HD.out (by rw [HZ.out]; omega) (by omega)] at h0
                  exact h0
                have HE := Lib.hid hE
                have HXL := Lib.hid hxl
                have HC4 := Lib.hid cl4
                have hlj : j < m := by omega
                have hlj1 : (j : Int) < (m : Int) := by omega
                have hlj0 : (0 : Int) ≤ (j : Int) := by omega
                have hwp : IntKind.i64.wrap ((p : Int) + 1 - (n : Int)) = (j : Int) := by rw [show (p : Int) + 1 - (n : Int) = (j : Int) by omega]; exact IntWalk.i64_in _ (by omega)
                have htn : ((p : Int) + 1).toNat = p + 1 := by omega
                clear hE hxl cl4 hT4
                refine wp_region_held_drew (S := fun W => Is W Bt 58 (nA T)) (by kernel_rfl) (Is.drewN iT 1) (fun hS => ?_)
                change wpAnyH _ _ (opsOf Try.f57 20) _ _ 12 (Array.replicate 12 false) _ _
                refine wpAnyH_pure (i := 0) (o := { dst := some 78, op := Op.move (Operand.tmp 5), type := 85, pos := "aes.go:137", after := #[], guard := none }) (v := .slice (some ⟨g, 0, none⟩) m m) (by kernel_rfl) (by kernel_rfl) (by kernel_rfl) (by kernel_rfl) (fun _ _ _ h => h) (by kernel_rfl) (fun w hSw => by kernel_rfl) hS ?_
                simp only [Act.put, List.setIfInBounds_toArray, List.set_cons_succ, List.set_cons_zero]
                refine wpAnyH_pure (i := 1) (o := { dst := some 79, op := Op.move (Operand.tmp 8), type := 3, pos := "aes.go:137", after := #[], guard := none }) (v := .int .i64 ((p : Int) + 1)) (by kernel_rfl) (by kernel_rfl) (by kernel_rfl) (by kernel_rfl) (fun _ _ _ h => h) (by kernel_rfl) (fun w hSw => by kernel_rfl) hS ?_
                simp only [Act.put, List.setIfInBounds_toArray, List.set_cons_succ, List.set_cons_zero]
                refine wpAnyH_pure (i := 2) (o := { dst := some 80, op := Op.move (Operand.tmp 5), type := 85, pos := "aes.go:137", after := #[], guard := none }) (v := .slice (some ⟨g, 0, none⟩) m m) (by kernel_rfl) (by kernel_rfl) (by kernel_rfl) (by kernel_rfl) (fun _ _ _ h => h) (by kernel_rfl) (fun w hSw => by kernel_rfl) hS ?_
                simp only [Act.put, List.setIfInBounds_toArray, List.set_cons_succ, List.set_cons_zero]
                refine wpAnyH_pure (i := 3) (o := { dst := some 81, op := Op.move (Operand.tmp 8), type := 3, pos := "aes.go:137", after := #[], guard := none }) (v := .int .i64 ((p : Int) + 1)) (by kernel_rfl) (by kernel_rfl) (by kernel_rfl) (by kernel_rfl) (fun _ _ _ h => h) (by kernel_rfl) (fun w hSw => by kernel_rfl) hS ?_
                simp only [Act.put, List.setIfInBounds_toArray, List.set_cons_succ, List.set_cons_zero]
                refine wpAnyH_pure (i := 4) (o := { dst := some 82, op := Op.move (Operand.tmp 3), type := 3, pos := "aes.go:137", after := #[], guard := none }) (v := .int .i64 (n : Int)) (by kernel_rfl) (by kernel_rfl) (by kernel_rfl) (by kernel_rfl) (fun _ _ _ h => h) (by kernel_rfl) (fun w hSw => by kernel_rfl) hS ?_
                simp only [Act.put, List.setIfInBounds_toArray, List.set_cons_succ, List.set_cons_zero]
                refine wpAnyH_pure (i := 5) (o := { dst := some 83, op := Op.binOp BinOp.sub 3 (Operand.tmp 81) (Operand.tmp 82) 3, type := 3, pos := "aes.go:137", after := #[{ on := 3, ground := Ground.data }, { on := 4, ground := Ground.data }], guard := none }) (v := .int .i64 (j : Int)) (by kernel_rfl) (by kernel_rfl) (by kernel_rfl) (by kernel_rfl) (fun _ _ _ h => h) (by kernel_rfl) (fun w hSw => by go_simp) hS ?_
                simp only [Act.put, List.setIfInBounds_toArray, List.set_cons_succ, List.set_cons_zero]
                refine wpAnyH_pure (i := 6) (o := { dst := some 84, op := Op.indexAddr 85 (Operand.tmp 80) (Operand.tmp 83), type := 0, pos := "aes.go:137", after := #[{ on := 2, ground := Ground.data }, { on := 5, ground := Ground.data }], guard := none }) (v := .pointer (some ⟨g, j * 4, none⟩)) (by kernel_rfl) (by kernel_rfl) (by kernel_rfl) (by kernel_rfl) (fun _ _ _ h => h) (by kernel_rfl) (fun w hSw => by go_simp) hS ?_
                simp only [Act.put, List.setIfInBounds_toArray, List.set_cons_succ, List.set_cons_zero]
                refine wpAnyH_take (i := 8) (oi := { dst := some 86, op := Op.load 58 (Operand.tmp 9), type := 58, pos := "aes.go:137", after := #[], guard := none }) (v := .agg (nA (T))) (by kernel_rfl) (by kernel_rfl) (by kernel_rfl) (by kernel_rfl) (fun _ _ _ h => h) (yieldsIf_load_mid (by kernel_rfl) 58 (.tmp 9) rfl (Bt) (0) (by kernel_rfl) (nL (T)) _ (fun _ h => nA_range0 h) Try.underlying58 rfl (by rw [nL_len, HTL.out]; exact info4)) hS ?_
                simp only [Act.put, List.setIfInBounds_toArray, List.set_cons_succ, List.set_cons_zero]
                refine wpAnyH_loadmid (i := 7) (o := { dst := some 85, op := Op.load 58 (Operand.tmp 84), type := 58, pos := "aes.go:137", after := #[{ on := 6, ground := Ground.data }], guard := none }) (b := g) (off := j * 4) (cs := nL (colL D j)) (by kernel_rfl) (by kernel_rfl) (by kernel_rfl) rfl (by kernel_rfl) hRj Try.underlying58 rfl (by rw [nL_len, HC4.out]; exact info4) hS ?_
                rw [nL_arr]
                simp only [Act.put, List.setIfInBounds_toArray, List.set_cons_succ, List.set_cons_zero]
                refine wpAnyH_call (i := 9) (o := { dst := some 87, op := Op.call { callee := Callee.value (Operand.func 51), args := #[Operand.tmp 85, Operand.tmp 86], argTypes := #[58, 58] }, type := 58, pos := "aes.go:137", after := #[{ on := 7, ground := Ground.data }, { on := 8, ground := Ground.data }], guard := none }) (by kernel_rfl) (by kernel_rfl) (by kernel_rfl) (fun w => by kernel_rfl) ((HE.out _).mono ?_)
                rintro e w1 ⟨rfl, h1⟩
                have jG : Is w1 g 58 (nA (thru D (zers (m * 4)) ((p + 1) * 4))) := Is.below (w := W20.drew) iG h1 iG.lt
                have jT : Is w1 Bt 58 (nA T) := Is.below (w := W20.drew) iT h1 iT.lt
                have jB : Below w.heap.size w w1 := (belowD hB).trans (h1.mono hB.size)
                refine ⟨_, rfl, jT, ?_⟩
                try simp only [Act.put, List.setIfInBounds_toArray, List.set_cons_succ, List.set_cons_zero]
                refine wpAnyH_pure (i := 10) (o := { dst := some 88, op := Op.indexAddr 85 (Operand.tmp 78) (Operand.tmp 79), type := 0, pos := "aes.go:137", after := #[{ on := 0, ground := Ground.data }, { on := 1, ground := Ground.data }, { on := 0, ground := Ground.phase }, { on := 1, ground := Ground.phase }, { on := 2, ground := Ground.phase }, { on := 3, ground := Ground.phase }, { on := 4, ground := Ground.phase }, { on := 5, ground := Ground.phase }, { on := 6, ground := Ground.phase }, { on := 7, ground := Ground.phase }, { on := 8, ground := Ground.phase }, { on := 9, ground := Ground.phase }], guard := none }) (v := .pointer (some ⟨g, (p + 1) * 4, none⟩)) (by kernel_rfl) (by kernel_rfl) (by kernel_rfl) (by kernel_rfl) (fun _ _ _ h => h) (by kernel_rfl) (fun w hSw => by go_simp) jT ?_
                simp only [Act.put, List.setIfInBounds_toArray, List.set_cons_succ, List.set_cons_zero]
                have hth : w1.there g ((p + 1) * 4) (nA (xorB (colL D j) T)).size := by rw [nA_size, HXL.out]; exact nA_there jG _ _ (by rw [thru_len HD.out, HZ.out]; omega)
                have hi9 : (Try.prog.info? 58).map (·.size) = some (nA (xorB (colL D j) T)).size := by rw [nA_size, HXL.out]; exact info4
                have mG := jG.setCells (nL (xorB (colL D j) T)) ((p + 1) * 4)
                rw [show setAll (nA (thru D (zers (m * 4)) ((p + 1) * 4))) ((p + 1) * 4) (nL (xorB (colL D j) T)) = nA (thru D (zers (m * 4)) ((p + 1 + 1) * 4)) by rw [HT.out, colL, setAll_thru HD.out _ _ (by rw [HZ.out]; omega), show (p + 1) * 4 + 4 = (p + 1 + 1) * 4 by omega]] at mG
                have mT := jT.farCells hgT.symm (nL (xorB (colL D j) T)) ((p + 1) * 4)
                have mB := belowCells q1 (nL (xorB (colL D j) T)) ((p + 1) * 4) jB
                clear hwp htn
                refine wpAnyH_storemid (i := 11) (o := { dst := none, op := Op.store 58 (Operand.tmp 88) (Operand.tmp 87), type := 0, pos := "aes.go:137", after := #[{ on := 10, ground := Ground.data }, { on := 9, ground := Ground.data }, { on := 9, ground := Ground.chain }, { on := 0, ground := Ground.phase }, { on := 1, ground := Ground.phase }, { on := 2, ground := Ground.phase }, { on := 3, ground := Ground.phase }, { on := 4, ground := Ground.phase }, { on := 5, ground := Ground.phase }, { on := 6, ground := Ground.phase }, { on := 7, ground := Ground.phase }, { on := 8, ground := Ground.phase }, { on := 9, ground := Ground.phase }], guard := none }) (b := g) (off := (p + 1) * 4) (cs := nA (xorB (colL D j) T)) (by kernel_rfl) (by kernel_rfl) (by kernel_rfl) rfl (by kernel_rfl) (by kernel_rfl) hth hi9 (nA_one _) mT ?_
                simp only [Act.put, List.setIfInBounds_toArray, List.set_cons_succ, List.set_cons_zero]
                rw [nA_list]
                generalize w1.setCells g ((p + 1) * 4) (nL (xorB (colL D j) T)) = W2 at *
                refine wpAnyH_done (by kernel_rfl) ?_ _
                clear hth hi9 hRj
                go_wp2
                go_roundw
                case rel => exact ⟨p + 1, by omega, by omega, by go_num, by rw [HC2.out], mG, mB⟩
                case measure => simp [intOf]; omega
              · -- neither
                have e3 : ((r : Int) == 4) = false := by simp; omega
                have e4 : ((n : Int) == 8) = true := by simp; omega
                have H8 := Lib.hid h8
                clear h8
                go_wp2_with (first | (refine wpList_load_nA rfl 58 _ rfl g (p * 4) rfl X _ hR Try.underlying58 rfl (by rw [HXL0.out]; exact info4) ?_) | (refine wpList_store_row rfl 58 _ _ rfl wr.heap.size (nA X) rfl rfl _ _ (heap_alloc_new wr _) hsX (by rw [HS2.out]; rfl) hone ?_; rw [World.setRow_alloc_new]))
                generalize (wr.alloc (.cells (nA X) 58)) = W20 at *
                rw [← HBT.out] at iT hgT
                rw [← HBT.out]
                obtain ⟨T, hT⟩ : ∃ T, T = X := ⟨_, rfl⟩
                have HTL := Lib.hid (show T.length = 4 by rw [hT]; exact HXL0.out)
                have HTB := Lib.hid (show ∀ x ∈ T, x < 256 by rw [hT]; exact HXB.out)
                have HT := Lib.hid (show xorB (colL D j) T = colL D (p + 1) by rw [HWN.out, hT]; rw [keyT_plain (by rw [← HR.out]; omega) (by have := HR.out; (try have := H8.out); omega)])
                have HC2 := Lib.hid (show (expN (natL key) n (p + 1 + 1 - n)).2 = c by rw [HCN.out]; rw [if_neg (by rw [← HR.out]; omega)])
                have hjj1 : p + 1 ≤ n + j := by have := HJ.out; omega
                have hjj2 : n + j ≤ p + 1 := by have := HJ.out; omega
                have hp0 : (0 : Int) ≤ (p : Int) + 1 := by omega
                rw [← hT] at iT
                clear hT hcb hR hsX hone HWN HCN
                clear e1 hnz hnz2
                have hT4 := HTL.out
                have cl4 : (colL D j).length = 4 := by rw [colL, List.length_take, List.length_drop, HD.out, HZ.out]; omega
                have hxl : (xorB (colL D j) T).length = 4 := by simp [xorB, cl4, hT4]
                have hE := fun w => sum_any (colL D j) T w cl4 hT4 (colL_lt HDB.out j) HTB.out
                have hRj : W20.drew.rangeAt g (j * 4) (nL (colL D j)) := by
                  have h0 := nA_range (w := W20.drew) iG (j * 4) 4
                  rw [thru_take_drop HD.out (by rw [HZ.out]; omega) (by omega)] at h0
                  exact h0
                have HE := Lib.hid hE
                have HXL := Lib.hid hxl
                have HC4 := Lib.hid cl4
                have hlj : j < m := by omega
                have hlj1 : (j : Int) < (m : Int) := by omega
                have hlj0 : (0 : Int) ≤ (j : Int) := by omega
                have hwp : IntKind.i64.wrap ((p : Int) + 1 - (n : Int)) = (j : Int) := by rw [show (p : Int) + 1 - (n : Int) = (j : Int) by omega]; exact IntWalk.i64_in _ (by omega)
                have htn : ((p : Int) + 1).toNat = p + 1 := by omega
                clear hE hxl cl4 hT4
                refine wp_region_held_drew (S := fun W => Is W Bt 58 (nA T)) (by kernel_rfl) (Is.drewN iT 1) (fun hS => ?_)
                change wpAnyH _ _ (opsOf Try.f57 20) _ _ 12 (Array.replicate 12 false) _ _
                refine wpAnyH_pure (i := 0) (o := { dst := some 78, op := Op.move (Operand.tmp 5), type := 85, pos := "aes.go:137", after := #[], guard := none }) (v := .slice (some ⟨g, 0, none⟩) m m) (by kernel_rfl) (by kernel_rfl) (by kernel_rfl) (by kernel_rfl) (fun _ _ _ h => h) (by kernel_rfl) (fun w hSw => by kernel_rfl) hS ?_
                simp only [Act.put, List.setIfInBounds_toArray, List.set_cons_succ, List.set_cons_zero]
                refine wpAnyH_pure (i := 1) (o := { dst := some 79, op := Op.move (Operand.tmp 8), type := 3, pos := "aes.go:137", after := #[], guard := none }) (v := .int .i64 ((p : Int) + 1)) (by kernel_rfl) (by kernel_rfl) (by kernel_rfl) (by kernel_rfl) (fun _ _ _ h => h) (by kernel_rfl) (fun w hSw => by kernel_rfl) hS ?_
                simp only [Act.put, List.setIfInBounds_toArray, List.set_cons_succ, List.set_cons_zero]
                refine wpAnyH_pure (i := 2) (o := { dst := some 80, op := Op.move (Operand.tmp 5), type := 85, pos := "aes.go:137", after := #[], guard := none }) (v := .slice (some ⟨g, 0, none⟩) m m) (by kernel_rfl) (by kernel_rfl) (by kernel_rfl) (by kernel_rfl) (fun _ _ _ h => h) (by kernel_rfl) (fun w hSw => by kernel_rfl) hS ?_
                simp only [Act.put, List.setIfInBounds_toArray, List.set_cons_succ, List.set_cons_zero]
                refine wpAnyH_pure (i := 3) (o := { dst := some 81, op := Op.move (Operand.tmp 8), type := 3, pos := "aes.go:137", after := #[], guard := none }) (v := .int .i64 ((p : Int) + 1)) (by kernel_rfl) (by kernel_rfl) (by kernel_rfl) (by kernel_rfl) (fun _ _ _ h => h) (by kernel_rfl) (fun w hSw => by kernel_rfl) hS ?_
                simp only [Act.put, List.setIfInBounds_toArray, List.set_cons_succ, List.set_cons_zero]
                refine wpAnyH_pure (i := 4) (o := { dst := some 82, op := Op.move (Operand.tmp 3), type := 3, pos := "aes.go:137", after := #[], guard := none }) (v := .int .i64 (n : Int)) (by kernel_rfl) (by kernel_rfl) (by kernel_rfl) (by kernel_rfl) (fun _ _ _ h => h) (by kernel_rfl) (fun w hSw => by kernel_rfl) hS ?_
                simp only [Act.put, List.setIfInBounds_toArray, List.set_cons_succ, List.set_cons_zero]
                refine wpAnyH_pure (i := 5) (o := { dst := some 83, op := Op.binOp BinOp.sub 3 (Operand.tmp 81) (Operand.tmp 82) 3, type := 3, pos := "aes.go:137", after := #[{ on := 3, ground := Ground.data }, { on := 4, ground := Ground.data }], guard := none }) (v := .int .i64 (j : Int)) (by kernel_rfl) (by kernel_rfl) (by kernel_rfl) (by kernel_rfl) (fun _ _ _ h => h) (by kernel_rfl) (fun w hSw => by go_simp) hS ?_
                simp only [Act.put, List.setIfInBounds_toArray, List.set_cons_succ, List.set_cons_zero]
                refine wpAnyH_pure (i := 6) (o := { dst := some 84, op := Op.indexAddr 85 (Operand.tmp 80) (Operand.tmp 83), type := 0, pos := "aes.go:137", after := #[{ on := 2, ground := Ground.data }, { on := 5, ground := Ground.data }], guard := none }) (v := .pointer (some ⟨g, j * 4, none⟩)) (by kernel_rfl) (by kernel_rfl) (by kernel_rfl) (by kernel_rfl) (fun _ _ _ h => h) (by kernel_rfl) (fun w hSw => by go_simp) hS ?_
                simp only [Act.put, List.setIfInBounds_toArray, List.set_cons_succ, List.set_cons_zero]
                refine wpAnyH_take (i := 8) (oi := { dst := some 86, op := Op.load 58 (Operand.tmp 9), type := 58, pos := "aes.go:137", after := #[], guard := none }) (v := .agg (nA (T))) (by kernel_rfl) (by kernel_rfl) (by kernel_rfl) (by kernel_rfl) (fun _ _ _ h => h) (yieldsIf_load_mid (by kernel_rfl) 58 (.tmp 9) rfl (Bt) (0) (by kernel_rfl) (nL (T)) _ (fun _ h => nA_range0 h) Try.underlying58 rfl (by rw [nL_len, HTL.out]; exact info4)) hS ?_
                simp only [Act.put, List.setIfInBounds_toArray, List.set_cons_succ, List.set_cons_zero]
                refine wpAnyH_loadmid (i := 7) (o := { dst := some 85, op := Op.load 58 (Operand.tmp 84), type := 58, pos := "aes.go:137", after := #[{ on := 6, ground := Ground.data }], guard := none }) (b := g) (off := j * 4) (cs := nL (colL D j)) (by kernel_rfl) (by kernel_rfl) (by kernel_rfl) rfl (by kernel_rfl) hRj Try.underlying58 rfl (by rw [nL_len, HC4.out]; exact info4) hS ?_
                rw [nL_arr]
                simp only [Act.put, List.setIfInBounds_toArray, List.set_cons_succ, List.set_cons_zero]
                refine wpAnyH_call (i := 9) (o := { dst := some 87, op := Op.call { callee := Callee.value (Operand.func 51), args := #[Operand.tmp 85, Operand.tmp 86], argTypes := #[58, 58] }, type := 58, pos := "aes.go:137", after := #[{ on := 7, ground := Ground.data }, { on := 8, ground := Ground.data }], guard := none }) (by kernel_rfl) (by kernel_rfl) (by kernel_rfl) (fun w => by kernel_rfl) ((HE.out _).mono ?_)
                rintro e w1 ⟨rfl, h1⟩
                have jG : Is w1 g 58 (nA (thru D (zers (m * 4)) ((p + 1) * 4))) := Is.below (w := W20.drew) iG h1 iG.lt
                have jT : Is w1 Bt 58 (nA T) := Is.below (w := W20.drew) iT h1 iT.lt
                have jB : Below w.heap.size w w1 := (belowD hB).trans (h1.mono hB.size)
                refine ⟨_, rfl, jT, ?_⟩
                try simp only [Act.put, List.setIfInBounds_toArray, List.set_cons_succ, List.set_cons_zero]
                refine wpAnyH_pure (i := 10) (o := { dst := some 88, op := Op.indexAddr 85 (Operand.tmp 78) (Operand.tmp 79), type := 0, pos := "aes.go:137", after := #[{ on := 0, ground := Ground.data }, { on := 1, ground := Ground.data }, { on := 0, ground := Ground.phase }, { on := 1, ground := Ground.phase }, { on := 2, ground := Ground.phase }, { on := 3, ground := Ground.phase }, { on := 4, ground := Ground.phase }, { on := 5, ground := Ground.phase }, { on := 6, ground := Ground.phase }, { on := 7, ground := Ground.phase }, { on := 8, ground := Ground.phase }, { on := 9, ground := Ground.phase }], guard := none }) (v := .pointer (some ⟨g, (p + 1) * 4, none⟩)) (by kernel_rfl) (by kernel_rfl) (by kernel_rfl) (by kernel_rfl) (fun _ _ _ h => h) (by kernel_rfl) (fun w hSw => by go_simp) jT ?_
                simp only [Act.put, List.setIfInBounds_toArray, List.set_cons_succ, List.set_cons_zero]
                have hth : w1.there g ((p + 1) * 4) (nA (xorB (colL D j) T)).size := by rw [nA_size, HXL.out]; exact nA_there jG _ _ (by rw [thru_len HD.out, HZ.out]; omega)
                have hi9 : (Try.prog.info? 58).map (·.size) = some (nA (xorB (colL D j) T)).size := by rw [nA_size, HXL.out]; exact info4
                have mG := jG.setCells (nL (xorB (colL D j) T)) ((p + 1) * 4)
                rw [show setAll (nA (thru D (zers (m * 4)) ((p + 1) * 4))) ((p + 1) * 4) (nL (xorB (colL D j) T)) = nA (thru D (zers (m * 4)) ((p + 1 + 1) * 4)) by rw [HT.out, colL, setAll_thru HD.out _ _ (by rw [HZ.out]; omega), show (p + 1) * 4 + 4 = (p + 1 + 1) * 4 by omega]] at mG
                have mT := jT.farCells hgT.symm (nL (xorB (colL D j) T)) ((p + 1) * 4)
                have mB := belowCells q1 (nL (xorB (colL D j) T)) ((p + 1) * 4) jB
                clear hwp htn
                refine wpAnyH_storemid (i := 11) (o := { dst := none, op := Op.store 58 (Operand.tmp 88) (Operand.tmp 87), type := 0, pos := "aes.go:137", after := #[{ on := 10, ground := Ground.data }, { on := 9, ground := Ground.data }, { on := 9, ground := Ground.chain }, { on := 0, ground := Ground.phase }, { on := 1, ground := Ground.phase }, { on := 2, ground := Ground.phase }, { on := 3, ground := Ground.phase }, { on := 4, ground := Ground.phase }, { on := 5, ground := Ground.phase }, { on := 6, ground := Ground.phase }, { on := 7, ground := Ground.phase }, { on := 8, ground := Ground.phase }, { on := 9, ground := Ground.phase }], guard := none }) (b := g) (off := (p + 1) * 4) (cs := nA (xorB (colL D j) T)) (by kernel_rfl) (by kernel_rfl) (by kernel_rfl) rfl (by kernel_rfl) (by kernel_rfl) hth hi9 (nA_one _) mT ?_
                simp only [Act.put, List.setIfInBounds_toArray, List.set_cons_succ, List.set_cons_zero]
                rw [nA_list]
                generalize w1.setCells g ((p + 1) * 4) (nL (xorB (colL D j) T)) = W2 at *
                refine wpAnyH_done (by kernel_rfl) ?_ _
                clear hth hi9 hRj
                go_wp2
                go_roundw
                case rel => exact ⟨p + 1, by omega, by omega, by go_num, by rw [HC2.out], mG, mB⟩
                case measure => simp [intOf]; omega
            · have e4 : ((n : Int) == 8) = false := by simp; omega
              go_wp2_with (first | (refine wpList_load_nA rfl 58 _ rfl g (p * 4) rfl X _ hR Try.underlying58 rfl (by rw [HXL0.out]; exact info4) ?_) | (refine wpList_store_row rfl 58 _ _ rfl wr.heap.size (nA X) rfl rfl _ _ (heap_alloc_new wr _) hsX (by rw [HS2.out]; rfl) hone ?_; rw [World.setRow_alloc_new]))
              generalize (wr.alloc (.cells (nA X) 58)) = W20 at *
              rw [← HBT.out] at iT hgT
              rw [← HBT.out]
              obtain ⟨T, hT⟩ : ∃ T, T = X := ⟨_, rfl⟩
              have HTL := Lib.hid (show T.length = 4 by rw [hT]; exact HXL0.out)
              have HTB := Lib.hid (show ∀ x ∈ T, x < 256 by rw [hT]; exact HXB.out)
              have HT := Lib.hid (show xorB (colL D j) T = colL D (p + 1) by rw [HWN.out, hT]; rw [keyT_plain (by rw [← HR.out]; omega) (by have := HR.out; (try have := H8.out); omega)])
              have HC2 := Lib.hid (show (expN (natL key) n (p + 1 + 1 - n)).2 = c by rw [HCN.out]; rw [if_neg (by rw [← HR.out]; omega)])
              have hjj1 : p + 1 ≤ n + j := by have := HJ.out; omega
              have hjj2 : n + j ≤ p + 1 := by have := HJ.out; omega
              have hp0 : (0 : Int) ≤ (p : Int) + 1 := by omega
              rw [← hT] at iT
              clear hT hcb hR hsX hone HWN HCN
              clear e1 hnz hnz2
              have hT4 := HTL.out
              have cl4 : (colL D j).length = 4 := by rw [colL, List.length_take, List.length_drop, HD.out, HZ.out]; omega
              have hxl : (xorB (colL D j) T).length = 4 := by simp [xorB, cl4, hT4]
              have hE := fun w => sum_any (colL D j) T w cl4 hT4 (colL_lt HDB.out j) HTB.out
              have hRj : W20.drew.rangeAt g (j * 4) (nL (colL D j)) := by
                have h0 := nA_range (w := W20.drew) iG (j * 4) 4
                rw [thru_take_drop HD.out (by rw [HZ.out]; omega) (by omega)] at h0
                exact h0
              have HE := Lib.hid hE
              have HXL := Lib.hid hxl
              have HC4 := Lib.hid cl4
              have hlj : j < m := by omega
              have hlj1 : (j : Int) < (m : Int) := by omega
              have hlj0 : (0 : Int) ≤ (j : Int) := by omega
              have hwp : IntKind.i64.wrap ((p : Int) + 1 - (n : Int)) = (j : Int) := by rw [show (p : Int) + 1 - (n : Int) = (j : Int) by omega]; exact IntWalk.i64_in _ (by omega)
              have htn : ((p : Int) + 1).toNat = p + 1 := by omega
              clear hE hxl cl4 hT4
              refine wp_region_held_drew (S := fun W => Is W Bt 58 (nA T)) (by kernel_rfl) (Is.drewN iT 1) (fun hS => ?_)
              change wpAnyH _ _ (opsOf Try.f57 20) _ _ 12 (Array.replicate 12 false) _ _
              refine wpAnyH_pure (i := 0) (o := { dst := some 78, op := Op.move (Operand.tmp 5), type := 85, pos := "aes.go:137", after := #[], guard := none }) (v := .slice (some ⟨g, 0, none⟩) m m) (by kernel_rfl) (by kernel_rfl) (by kernel_rfl) (by kernel_rfl) (fun _ _ _ h => h) (by kernel_rfl) (fun w hSw => by kernel_rfl) hS ?_
              simp only [Act.put, List.setIfInBounds_toArray, List.set_cons_succ, List.set_cons_zero]
              refine wpAnyH_pure (i := 1) (o := { dst := some 79, op := Op.move (Operand.tmp 8), type := 3, pos := "aes.go:137", after := #[], guard := none }) (v := .int .i64 ((p : Int) + 1)) (by kernel_rfl) (by kernel_rfl) (by kernel_rfl) (by kernel_rfl) (fun _ _ _ h => h) (by kernel_rfl) (fun w hSw => by kernel_rfl) hS ?_
              simp only [Act.put, List.setIfInBounds_toArray, List.set_cons_succ, List.set_cons_zero]
              refine wpAnyH_pure (i := 2) (o := { dst := some 80, op := Op.move (Operand.tmp 5), type := 85, pos := "aes.go:137", after := #[], guard := none }) (v := .slice (some ⟨g, 0, none⟩) m m) (by kernel_rfl) (by kernel_rfl) (by kernel_rfl) (by kernel_rfl) (fun _ _ _ h => h) (by kernel_rfl) (fun w hSw => by kernel_rfl) hS ?_
              simp only [Act.put, List.setIfInBounds_toArray, List.set_cons_succ, List.set_cons_zero]
              refine wpAnyH_pure (i := 3) (o := { dst := some 81, op := Op.move (Operand.tmp 8), type := 3, pos := "aes.go:137", after := #[], guard := none }) (v := .int .i64 ((p : Int) + 1)) (by kernel_rfl) (by kernel_rfl) (by kernel_rfl) (by kernel_rfl) (fun _ _ _ h => h) (by kernel_rfl) (fun w hSw => by kernel_rfl) hS ?_
              simp only [Act.put, List.setIfInBounds_toArray, List.set_cons_succ, List.set_cons_zero]
              refine wpAnyH_pure (i := 4) (o := { dst := some 82, op := Op.move (Operand.tmp 3), type := 3, pos := "aes.go:137", after := #[], guard := none }) (v := .int .i64 (n : Int)) (by kernel_rfl) (by kernel_rfl) (by kernel_rfl) (by kernel_rfl) (fun _ _ _ h => h) (by kernel_rfl) (fun w hSw => by kernel_rfl) hS ?_
              simp only [Act.put, List.setIfInBounds_toArray, List.set_cons_succ, List.set_cons_zero]
              refine wpAnyH_pure (i := 5) (o := { dst := some 83, op := Op.binOp BinOp.sub 3 (Operand.tmp 81) (Operand.tmp 82) 3, type := 3, pos := "aes.go:137", after := #[{ on := 3, ground := Ground.data }, { on := 4, ground := Ground.data }], guard := none }) (v := .int .i64 (j : Int)) (by kernel_rfl) (by kernel_rfl) (by kernel_rfl) (by kernel_rfl) (fun _ _ _ h => h) (by kernel_rfl) (fun w hSw => by go_simp) hS ?_
              simp only [Act.put, List.setIfInBounds_toArray, List.set_cons_succ, List.set_cons_zero]
              refine wpAnyH_pure (i := 6) (o := { dst := some 84, op := Op.indexAddr 85 (Operand.tmp 80) (Operand.tmp 83), type := 0, pos := "aes.go:137", after := #[{ on := 2, ground := Ground.data }, { on := 5, ground := Ground.data }], guard := none }) (v := .pointer (some ⟨g, j * 4, none⟩)) (by kernel_rfl) (by kernel_rfl) (by kernel_rfl) (by kernel_rfl) (fun _ _ _ h => h) (by kernel_rfl) (fun w hSw => by go_simp) hS ?_
              simp only [Act.put, List.setIfInBounds_toArray, List.set_cons_succ, List.set_cons_zero]
              refine wpAnyH_take (i := 8) (oi := { dst := some 86, op := Op.load 58 (Operand.tmp 9), type := 58, pos := "aes.go:137", after := #[], guard := none }) (v := .agg (nA (T))) (by kernel_rfl) (by kernel_rfl) (by kernel_rfl) (by kernel_rfl) (fun _ _ _ h => h) (yieldsIf_load_mid (by kernel_rfl) 58 (.tmp 9) rfl (Bt) (0) (by kernel_rfl) (nL (T)) _ (fun _ h => nA_range0 h) Try.underlying58 rfl (by rw [nL_len, HTL.out]; exact info4)) hS ?_
              simp only [Act.put, List.setIfInBounds_toArray, List.set_cons_succ, List.set_cons_zero]
              refine wpAnyH_loadmid (i := 7) (o := { dst := some 85, op := Op.load 58 (Operand.tmp 84), type := 58, pos := "aes.go:137", after := #[{ on := 6, ground := Ground.data }], guard := none }) (b := g) (off := j * 4) (cs := nL (colL D j)) (by kernel_rfl) (by kernel_rfl) (by kernel_rfl) rfl (by kernel_rfl) hRj Try.underlying58 rfl (by rw [nL_len, HC4.out]; exact info4) hS ?_
              rw [nL_arr]
              simp only [Act.put, List.setIfInBounds_toArray, List.set_cons_succ, List.set_cons_zero]
              refine wpAnyH_call (i := 9) (o := { dst := some 87, op := Op.call { callee := Callee.value (Operand.func 51), args := #[Operand.tmp 85, Operand.tmp 86], argTypes := #[58, 58] }, type := 58, pos := "aes.go:137", after := #[{ on := 7, ground := Ground.data }, { on := 8, ground := Ground.data }], guard := none }) (by kernel_rfl) (by kernel_rfl) (by kernel_rfl) (fun w => by kernel_rfl) ((HE.out _).mono ?_)
              rintro e w1 ⟨rfl, h1⟩
              have jG : Is w1 g 58 (nA (thru D (zers (m * 4)) ((p + 1) * 4))) := Is.below (w := W20.drew) iG h1 iG.lt
              have jT : Is w1 Bt 58 (nA T) := Is.below (w := W20.drew) iT h1 iT.lt
              have jB : Below w.heap.size w w1 := (belowD hB).trans (h1.mono hB.size)
              refine ⟨_, rfl, jT, ?_⟩
              try simp only [Act.put, List.setIfInBounds_toArray, List.set_cons_succ, List.set_cons_zero]
              refine wpAnyH_pure (i := 10) (o := { dst := some 88, op := Op.indexAddr 85 (Operand.tmp 78) (Operand.tmp 79), type := 0, pos := "aes.go:137", after := #[{ on := 0, ground := Ground.data }, { on := 1, ground := Ground.data }, { on := 0, ground := Ground.phase }, { on := 1, ground := Ground.phase }, { on := 2, ground := Ground.phase }, { on := 3, ground := Ground.phase }, { on := 4, ground := Ground.phase }, { on := 5, ground := Ground.phase }, { on := 6, ground := Ground.phase }, { on := 7, ground := Ground.phase }, { on := 8, ground := Ground.phase }, { on := 9, ground := Ground.phase }], guard := none }) (v := .pointer (some ⟨g, (p + 1) * 4, none⟩)) (by kernel_rfl) (by kernel_rfl) (by kernel_rfl) (by kernel_rfl) (fun _ _ _ h => h) (by kernel_rfl) (fun w hSw => by go_simp) jT ?_
              simp only [Act.put, List.setIfInBounds_toArray, List.set_cons_succ, List.set_cons_zero]
              have hth : w1.there g ((p + 1) * 4) (nA (xorB (colL D j) T)).size := by rw [nA_size, HXL.out]; exact nA_there jG _ _ (by rw [thru_len HD.out, HZ.out]; omega)
              have hi9 : (Try.prog.info? 58).map (·.size) = some (nA (xorB (colL D j) T)).size := by rw [nA_size, HXL.out]; exact info4
              have mG := jG.setCells (nL (xorB (colL D j) T)) ((p + 1) * 4)
              rw [show setAll (nA (thru D (zers (m * 4)) ((p + 1) * 4))) ((p + 1) * 4) (nL (xorB (colL D j) T)) = nA (thru D (zers (m * 4)) ((p + 1 + 1) * 4)) by rw [HT.out, colL, setAll_thru HD.out _ _ (by rw [HZ.out]; omega), show (p + 1) * 4 + 4 = (p + 1 + 1) * 4 by omega]] at mG
              have mT := jT.farCells hgT.symm (nL (xorB (colL D j) T)) ((p + 1) * 4)
              have mB := belowCells q1 (nL (xorB (colL D j) T)) ((p + 1) * 4) jB
              clear hwp htn
              refine wpAnyH_storemid (i := 11) (o := { dst := none, op := Op.store 58 (Operand.tmp 88) (Operand.tmp 87), type := 0, pos := "aes.go:137", after := #[{ on := 10, ground := Ground.data }, { on := 9, ground := Ground.data }, { on := 9, ground := Ground.chain }, { on := 0, ground := Ground.phase }, { on := 1, ground := Ground.phase }, { on := 2, ground := Ground.phase }, { on := 3, ground := Ground.phase }, { on := 4, ground := Ground.phase }, { on := 5, ground := Ground.phase }, { on := 6, ground := Ground.phase }, { on := 7, ground := Ground.phase }, { on := 8, ground := Ground.phase }, { on := 9, ground := Ground.phase }], guard := none }) (b := g) (off := (p + 1) * 4) (cs := nA (xorB (colL D j) T)) (by kernel_rfl) (by kernel_rfl) (by kernel_rfl) rfl (by kernel_rfl) (by kernel_rfl) hth hi9 (nA_one _) mT ?_
              simp only [Act.put, List.setIfInBounds_toArray, List.set_cons_succ, List.set_cons_zero]
              rw [nA_list]
              generalize w1.setCells g ((p + 1) * 4) (nL (xorB (colL D j) T)) = W2 at *
              refine wpAnyH_done (by kernel_rfl) ?_ _
              clear hth hi9 hRj
              go_wp2
              go_roundw
              case rel => exact ⟨p + 1, by omega, by omega, by go_num, by rw [HC2.out], mG, mB⟩
              case measure => simp [intOf]; omega
        · have hi1 : ¬ (p : Int) + 1 < (m : Int) := by omega
          rw [thru_all HD.out (by rw [HZ.out]; omega)] at iG
          go_wp2
          refine bodyPost_ret (v := .slice (some ⟨g, 0, none⟩) m m) (by simp [results, Try.results57, go_sem]) rfl ⟨g, by rw [HM.out], by rw [← HDE.out]; exact iG, q1, hB⟩
end Go.Proofs.Ytjfeloimlgfocaa
