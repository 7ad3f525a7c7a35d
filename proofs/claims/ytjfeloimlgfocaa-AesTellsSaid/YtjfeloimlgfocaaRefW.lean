/-
  The document's own answer for layer 4: a key's words, expanded. Conditions: a key of 16 or 32 bytes.
-/
import Derived.Test.YtjfeloimlgfocaaRefV
namespace Go.Proofs.Ytjfeloimlgfocaa
open Go.RowKit Go.Shelf

set_option maxRecDepth 100000 in
set_option maxHeartbeats 8000000 in
theorem rexp_4 (key : ByteArray) (w : World) (hk : key.size = 16) :
    Calls Try.prog 23 #[.string key, .agg (nA TS)] w fun e w' => e = .returned (.string (strN (expN (natL key) 4 40).1)) ∧ Below w.heap.size w w' := by
  have hkl : (natL key).length = 4 * 4 := by rw [natL_len, hk]
  have HLEN := Lib.hid (fun j => expN_len (key := natL key) (n := 4) hkl (by omega) j)
  have HBY := Lib.hid (fun j => expN_lt (key := natL key) (n := 4) (natL_lt key) j)
  have HK := Lib.hid (show strN (expN (natL key) 4 0).1 = key from strN_natL key)
  have hkz : (key.size : Int) = 16 := by rw [hk]; rfl
  have hin := ts_in
  have SB := Lib.hid lSub
  have iT : Is (w.alloc (.cells (nA TS) 63)) w.heap.size 63 (nA TS) := Is.new w _ _
  have hB0 : Below w.heap.size w (w.alloc (.cells (nA TS) 63)) := (Below.refl _ _).alloc (Nat.le_refl _) _
  generalize nA TS = RT at *
  clear hk hkl
  go_enter Try.func23, Try.ntmps23
  go_wp2
  go_loopw [6, 7, 8] (fun o cc i wr => ∃ q : Nat, 4 ≤ q ∧ q ≤ 44 ∧ i = .int .i64 (q : Int) ∧ cc = .int .u8 (((expN (natL key) 4 (q - 4)).2 : Nat) : Int) ∧ o = .string (strN (expN (natL key) 4 (q - 4)).1) ∧ Is wr w.heap.size 63 RT ∧ Below w.heap.size w wr)
    (fun _ _ i _ => 44 - (intOf i).toNat)
  case atStart => exact ⟨4, by omega, by omega, rfl, rfl, by rw [Nat.sub_self, HK.out], iT, hB0⟩
  case round =>
    clear iT hB0
    obtain ⟨q, hq0, hq1, rfl, rfl, rfl, iT, hB⟩ := hrel
    by_cases hlt : q < 44
    · have hd1 : (q : Int) < 44 := by omega
      obtain ⟨j, hj⟩ : ∃ j : Nat, j = q - 4 := ⟨_, rfl⟩
      have hst : expN (natL key) 4 (q + 1 - 4) = expS 4 (expN (natL key) 4 j) q := by
        rw [show q + 1 - 4 = j + 1 by omega]
        show expS 4 (expN (natL key) 4 j) (4 + j) = _
        rw [show 4 + j = q by omega]
      rw [← hj]
      have hL := HLEN.out j
      rw [show 4 * (4 + j) = 4 * q by omega] at hL
      have hLb := (HBY.out j).1
      have hcb := (HBY.out j).2
      generalize expN (natL key) 4 j = st at *
      obtain ⟨L, c⟩ := st
      dsimp only at hL hLb hcb hst ⊢
      unfold expS at hst
      dsimp only at hst
      rw [show q - 4 = j from hj.symm] at hst
      have hm : (q : Int) - 4 = (j : Int) := by omega
      have s7 := fun wx => run_slice_from (P := Try.prog) (t := 9) Try.underlying9 hLb (4 * q - 4) (4 * (q : Int) - 4) (by omega) (by omega) wx
      have s14 := fun wx => run_slice_mid (P := Try.prog) (t := 9) Try.underlying9 hLb (4 * j) (4 * j + 4) (4 * (j : Int)) (4 * (j : Int) + 4) (by omega) (by omega) (by omega) (by omega) wx
      rw [show 4 * j + 4 - 4 * j = 4 by omega] at s14
      have hT0l : (L.drop (4 * q - 4)).length = 4 := by rw [List.length_drop, hL]; omega
      have hT0b : ∀ x ∈ L.drop (4 * q - 4), x < 256 := fun x hx => hLb x (List.drop_subset _ _ hx)
      have hWl : ((L.drop (4 * j)).take 4).length = 4 := by rw [List.length_take, List.length_drop, hL]; omega
      have hWb : ∀ x ∈ (L.drop (4 * j)).take 4, x < 256 := fun x hx => hLb x (List.drop_subset _ _ (List.take_subset _ _ hx))
      obtain ⟨LL, hLL⟩ : ∃ LL, LL = strN L := ⟨_, rfl⟩
      have hLs : LL.size = 4 * q := by rw [hLL, strN_size, hL]
      rw [← hLL] at s7 s14 ⊢
      generalize L.drop (4 * q - 4) = T0 at *
      generalize (L.drop (4 * j)).take 4 = WW at *
      obtain ⟨TT, hTT⟩ : ∃ TT, TT = strN T0 := ⟨_, rfl⟩
      rw [← hTT] at s7
      obtain ⟨R, hR⟩ : ∃ R : Nat, R = q % 4 := ⟨_, rfl⟩
      have hr1 : (q : Int).tmod 4 = (R : Int) := by rw [Int.tmod_eq_emod_of_nonneg (by omega)]; omega
      have hr2 : (q : Int) % 4 = (R : Int) := by omega
      have hj0 : 4 * q ≤ 240 := by omega
      clear hj
      by_cases hr0 : R = 0
      · have t0 : ((R : Int) == 0) = true := by rw [hr0]; rfl
        have hK : keyT 4 q c T0 = hdX c (subL (T0.drop 1 ++ T0.take 1)) := by unfold keyT; dsimp only; rw [if_neg (by omega), if_pos (by omega)]
        have hC : (if q % 4 = 0 then mulN 2 c else c) = mulN 2 c := if_pos (by omega)
        rw [hK, hC] at hst
        have hUl : (T0.drop 1 ++ T0.take 1).length = 4 := by rw [List.length_append, List.length_drop, List.length_take, hT0l]; rfl
        have hUb : ∀ x ∈ T0.drop 1 ++ T0.take 1, x < 256 := fun x hx => by
          rcases List.mem_append.1 hx with h | h
          · exact hT0b x (List.drop_subset _ _ h)
          · exact hT0b x (List.take_subset _ _ h)
        have s9a := fun wx => run_slice_from (P := Try.prog) (t := 9) Try.underlying9 hT0b 1 1 rfl (by omega) wx
        have s9b := fun wx => run_slice_to (P := Try.prog) (t := 9) Try.underlying9 hT0b 1 1 rfl (by omega) wx
        have hcu : strN (T0.drop 1) ++ strN (T0.take 1) = strN (T0.drop 1 ++ T0.take 1) := by rw [strN_app]
        have hnu : ¬ (9223372036854775807 < (strN (T0.drop 1)).size + (strN (T0.take 1)).size) := by rw [strN_size, strN_size, List.length_drop, List.length_take]; omega
        have C1 := Lib.hid (fun w => SB.out (T0.drop 1 ++ T0.take 1) w (by omega) (by omega) hUb)
        rw [← hTT] at s9a s9b
        have hVl : (subL (T0.drop 1 ++ T0.take 1)).length = 4 := by rw [subL, List.length_map, hUl]
        have hVb := subL_lt hUb
        generalize subL (T0.drop 1 ++ T0.take 1) = V at *
        generalize T0.drop 1 ++ T0.take 1 = U at *
        have s10 := fun wx => run_slice_from (P := Try.prog) (t := 9) Try.underlying9 hVb 1 1 rfl (by omega) wx
        have h0l : 0 < (strN V).size := by rw [strN_size, hVl]; decide
        have h0k : (0 : Int) < ((strN V).size : Int) := by omega
        have g0 := btN_get h0l
        rw [btN_nat V hVb 0] at g0
        have hx := u8_xor_nat (V.getD 0 0) c (getD_mem_lt hVb 0) hcb
        have hzl : V.getD 0 0 ^^^ c < 256 := Nat.xor_lt_two_pow (n := 8) (getD_mem_lt hVb 0) hcb
        have hhd : hdX c V = [V.getD 0 0 ^^^ c] ++ V.drop 1 := by
          match V, hVl with
          | a :: b, _ => rfl
        rw [hhd] at hst
        have hDl : ([V.getD 0 0 ^^^ c] ++ V.drop 1).length = 4 := by rw [List.length_append, List.length_drop, hVl]; rfl
        have hDb : ∀ x ∈ [V.getD 0 0 ^^^ c] ++ V.drop 1, x < 256 := fun x hx => by
          rcases List.mem_append.1 hx with h | h
          · rw [List.mem_singleton] at h; omega
          · exact hVb x (List.drop_subset _ _ h)
        have hcd : strN [V.getD 0 0 ^^^ c] ++ strN (V.drop 1) = strN ([V.getD 0 0 ^^^ c] ++ V.drop 1) := by rw [strN_app]
        have hnd : ¬ (9223372036854775807 < (strN [V.getD 0 0 ^^^ c]).size + (strN (V.drop 1)).size) := by rw [strN_size, strN_size, List.length_drop, List.length_singleton]; omega
        have MU := Lib.hid (fun w => rmul_any 2 c w (by decide) hcb)
        have C4 := Lib.hid (fun w => lXor WW ([V.getD 0 0 ^^^ c] ++ V.drop 1) w (by rw [hWl]; omega) (by rw [hWl]; omega) (by rw [hDl, hWl]) hWb hDb)
        have hXl : (strN (xorB WW ([V.getD 0 0 ^^^ c] ++ V.drop 1))).size = 4 := by rw [strN_size, xorB, List.length_zipWith, hWl, hDl]; rfl
        have hcat : LL ++ strN (xorB WW ([V.getD 0 0 ^^^ c] ++ V.drop 1)) = strN (L ++ xorB WW ([V.getD 0 0 ^^^ c] ++ V.drop 1)) := by rw [hLL, strN_app]
        have hnl : ¬ (9223372036854775807 < LL.size + (strN (xorB WW ([V.getD 0 0 ^^^ c] ++ V.drop 1))).size) := by rw [hXl, hLs]; omega
        obtain ⟨LN, hLN⟩ : ∃ LN, LN = strN (L ++ xorB WW ([V.getD 0 0 ^^^ c] ++ V.drop 1)) := ⟨_, rfl⟩
        rw [← hLN] at hcat
        have HSL := Lib.hid (show strN (expN (natL key) 4 (q + 1 - 4)).1 = LN by rw [hst, hLN])
        have HSC := Lib.hid (show (expN (natL key) 4 (q + 1 - 4)).2 = mulN 2 c by rw [hst])
        clear hst hLN hXl
        generalize strN (xorB WW ([V.getD 0 0 ^^^ c] ++ V.drop 1)) = XX at *
        generalize strN WW = WS at *
        clear hLL hLs hT0l hT0b hWl hWb hL hLb hTT hK hC
        have hz1 : strN [V.getD 0 0 ^^^ c] = strOfNums [((V.getD 0 0 ^^^ c : Nat) : Int)] := rfl
        generalize strN ([V.getD 0 0 ^^^ c] ++ V.drop 1) = T2 at *
        generalize strN (V.drop 1) = TD at *
        generalize strN [V.getD 0 0 ^^^ c] = ZS at *
        generalize V.getD 0 0 ^^^ c = z at *
        generalize V.getD 0 0 = y at *
        generalize strN V = T1 at *
        generalize strN U = P1 at *
        generalize strN (T0.drop 1) = TA at *
        generalize strN (T0.take 1) = TZ at *
        generalize mulN 2 c = c2 at *
        have HZ1 := Lib.hid hz1
        clear hVl hVb hUl hUb hDl hDb hhd hzl hR hz1
        have iTD : Is wr.drew w.heap.size 63 RT := iT
        have hBD : Below w.heap.size w wr.drew := belowN hB 1
        go_wp2
        refine wp_region_held_drew (S := fun W => Is W w.heap.size 63 RT) (by kernel_rfl) iTD (fun hS => ?_)
        change wpAnyH _ _ (opsOf Try.f23 9) _ _ 8 (Array.replicate 8 false) _ _
        refine wpAnyH_pure (i := 0) (o := { dst := some 31, op := Op.move (Operand.tmp 9), type := 9, pos := "ref.go:38", after := #[], guard := none }) (v := .string TT) (by kernel_rfl) (by kernel_rfl) (by kernel_rfl) (by kernel_rfl) (fun _ _ _ h => h) (by kernel_rfl) (fun w hSw => by kernel_rfl) hS ?_
        simp only [Act.put, List.setIfInBounds_toArray, List.set_cons_succ, List.set_cons_zero]
        refine wpAnyH_pure (i := 1) (o := { dst := some 32, op := Op.slice 9 (Operand.tmp 31) (some (Operand.const (Value.int IntKind.i64 1))) none none, type := 9, pos := "ref.go:38", after := #[{ on := 0, ground := Ground.data }], guard := none }) (v := .string TA) (by kernel_rfl) (by kernel_rfl) (by kernel_rfl) (by kernel_rfl) (fun _ _ _ h => h) (by kernel_rfl) (fun w hSw => by go_simp) hS ?_
        simp only [Act.put, List.setIfInBounds_toArray, List.set_cons_succ, List.set_cons_zero]
        refine wpAnyH_pure (i := 2) (o := { dst := some 33, op := Op.move (Operand.tmp 9), type := 9, pos := "ref.go:38", after := #[], guard := none }) (v := .string TT) (by kernel_rfl) (by kernel_rfl) (by kernel_rfl) (by kernel_rfl) (fun _ _ _ h => h) (by kernel_rfl) (fun w hSw => by kernel_rfl) hS ?_
        simp only [Act.put, List.setIfInBounds_toArray, List.set_cons_succ, List.set_cons_zero]
        refine wpAnyH_pure (i := 3) (o := { dst := some 34, op := Op.slice 9 (Operand.tmp 33) none (some (Operand.const (Value.int IntKind.i64 1))) none, type := 9, pos := "ref.go:38", after := #[{ on := 2, ground := Ground.data }], guard := none }) (v := .string TZ) (by kernel_rfl) (by kernel_rfl) (by kernel_rfl) (by kernel_rfl) (fun _ _ _ h => h) (by kernel_rfl) (fun w hSw => by go_simp) hS ?_
        simp only [Act.put, List.setIfInBounds_toArray, List.set_cons_succ, List.set_cons_zero]
        refine wpAnyH_pure (i := 4) (o := { dst := some 35, op := Op.binOp BinOp.add 9 (Operand.tmp 32) (Operand.tmp 34) 9, type := 9, pos := "ref.go:38", after := #[{ on := 1, ground := Ground.data }, { on := 3, ground := Ground.data }], guard := none }) (v := .string P1) (by kernel_rfl) (by kernel_rfl) (by kernel_rfl) (by kernel_rfl) (fun _ _ _ h => h) (by kernel_rfl) (fun w hSw => by go_simp) hS ?_
        simp only [Act.put, List.setIfInBounds_toArray, List.set_cons_succ, List.set_cons_zero]
        refine wpAnyH_pure (i := 5) (o := { dst := some 36, op := Op.load 63 (Operand.tmp 3), type := 63, pos := "ref.go:38", after := #[], guard := none }) (v := .agg RT) (by kernel_rfl) (by kernel_rfl) (by kernel_rfl) (by kernel_rfl) (fun _ _ _ h => h) (by kernel_rfl) (fun w hSw => by exact run_load_rowO rfl rfl hSw Try.underlying63 rfl hin) hS ?_
        simp only [Act.put, List.setIfInBounds_toArray, List.set_cons_succ, List.set_cons_zero]
        refine wpAnyH_call (i := 6) (o := { dst := some 37, op := Op.call { callee := Callee.value (Operand.func 40), args := #[Operand.tmp 35, Operand.tmp 36], argTypes := #[9, 63] }, type := 9, pos := "ref.go:38", after := #[{ on := 4, ground := Ground.data }, { on := 5, ground := Ground.data }], guard := none }) (by kernel_rfl) (by kernel_rfl) (by kernel_rfl) (fun w => by kernel_rfl) ((C1.out _).mono ?_)
        rintro e v1 ⟨rfl, hb⟩
        have iT1 := iTD.below hb iTD.lt
        have hB1 : Below w.heap.size w v1 := hBD.trans (hb.mono hBD.size)
        clear hb
        refine ⟨_, rfl, iT1, ?_⟩
        try simp only [Act.put, List.setIfInBounds_toArray, List.set_cons_succ, List.set_cons_zero]
        refine wpAnyH_pure (i := 7) (o := { dst := some 9, op := Op.assign (Operand.tmp 37), type := 9, pos := "ref.go:38", after := #[{ on := 6, ground := Ground.data }, { on := 6, ground := Ground.chain }, { on := 0, ground := Ground.phase }, { on := 1, ground := Ground.phase }, { on := 2, ground := Ground.phase }, { on := 3, ground := Ground.phase }, { on := 4, ground := Ground.phase }, { on := 5, ground := Ground.phase }, { on := 6, ground := Ground.phase }], guard := none }) (v := .string T1) (by kernel_rfl) (by kernel_rfl) (by kernel_rfl) (by kernel_rfl) (fun _ _ _ h => h) (by kernel_rfl) (fun w hSw => by go_simp) iT1 ?_
        simp only [Act.put, List.setIfInBounds_toArray, List.set_cons_succ, List.set_cons_zero]
        refine wpAnyH_done (by kernel_rfl) ?_ _
        clear iTD hBD iT hB
        have hcv := run_convert_bytes_arg (P := Try.prog) (v1.alloc (.cells #[.int .u8 (z : Int)] 5)).drew 33 5 Try.underlying33 Try.underlying5 v1.heap.size 0 1 1 [(z : Int)] rfl (fun i hi => by
          obtain rfl : i = 0 := by omega
          exact (Is.new v1 5 #[.int .u8 (z : Int)]).cell 0) 9 Try.underlying9
        rw [← HZ1.out] at hcv
        go_wp2
        refine wp_region_held_drew (S := fun _ => True) (by kernel_rfl) trivial (fun hS => ?_)
        change wpAnyH _ _ (opsOf Try.f23 10) _ _ 10 (Array.replicate 10 false) _ _
        refine wpAnyH_pure (i := 0) (o := { dst := some 38, op := Op.move (Operand.tmp 9), type := 9, pos := "ref.go:39", after := #[], guard := none }) (v := .string T1) (by kernel_rfl) (by kernel_rfl) (by kernel_rfl) (by kernel_rfl) (fun _ _ _ h => h) (by kernel_rfl) (fun w hSw => by kernel_rfl) hS ?_
        simp only [Act.put, List.setIfInBounds_toArray, List.set_cons_succ, List.set_cons_zero]
        refine wpAnyH_pure (i := 1) (o := { dst := some 39, op := Op.index 9 (Operand.tmp 38) (Operand.const (Value.int IntKind.i64 0)), type := 5, pos := "ref.go:39", after := #[{ on := 0, ground := Ground.data }], guard := none }) (v := .int .u8 (y : Int)) (by kernel_rfl) (by kernel_rfl) (by kernel_rfl) (by kernel_rfl) (fun _ _ _ h => h) (by kernel_rfl) (fun w hSw => by go_simp) hS ?_
        simp only [Act.put, List.setIfInBounds_toArray, List.set_cons_succ, List.set_cons_zero]
        refine wpAnyH_pure (i := 2) (o := { dst := some 40, op := Op.move (Operand.tmp 7), type := 5, pos := "ref.go:39", after := #[], guard := none }) (v := .int .u8 (c : Int)) (by kernel_rfl) (by kernel_rfl) (by kernel_rfl) (by kernel_rfl) (fun _ _ _ h => h) (by kernel_rfl) (fun w hSw => by kernel_rfl) hS ?_
        simp only [Act.put, List.setIfInBounds_toArray, List.set_cons_succ, List.set_cons_zero]
        refine wpAnyH_pure (i := 3) (o := { dst := some 41, op := Op.binOp BinOp.xor 5 (Operand.tmp 39) (Operand.tmp 40) 5, type := 5, pos := "ref.go:39", after := #[{ on := 1, ground := Ground.data }, { on := 2, ground := Ground.data }], guard := none }) (v := .int .u8 (z : Int)) (by kernel_rfl) (by kernel_rfl) (by kernel_rfl) (by kernel_rfl) (fun _ _ _ h => h) (by kernel_rfl) (fun w hSw => by go_simp) hS ?_
        simp only [Act.put, List.setIfInBounds_toArray, List.set_cons_succ, List.set_cons_zero]
        refine wpAnyH_pure (i := 6) (o := { dst := some 44, op := Op.move (Operand.tmp 9), type := 9, pos := "ref.go:39", after := #[], guard := none }) (v := .string T1) (by kernel_rfl) (by kernel_rfl) (by kernel_rfl) (by kernel_rfl) (fun _ _ _ h => h) (by kernel_rfl) (fun w hSw => by kernel_rfl) hS ?_
        simp only [Act.put, List.setIfInBounds_toArray, List.set_cons_succ, List.set_cons_zero]
        refine wpAnyH_pure (i := 7) (o := { dst := some 45, op := Op.slice 9 (Operand.tmp 44) (some (Operand.const (Value.int IntKind.i64 1))) none none, type := 9, pos := "ref.go:39", after := #[{ on := 6, ground := Ground.data }], guard := none }) (v := .string TD) (by kernel_rfl) (by kernel_rfl) (by kernel_rfl) (by kernel_rfl) (fun _ _ _ h => h) (by kernel_rfl) (fun w hSw => by go_simp) hS ?_
        simp only [Act.put, List.setIfInBounds_toArray, List.set_cons_succ, List.set_cons_zero]
        refine wpAnyH_step (i := 4) (o := { dst := some 42, op := Op.buildSlice 33 1 #[(0, Operand.tmp 41)], type := 33, pos := "ref.go:39", after := #[{ on := 3, ground := Ground.data }], guard := none }) (by kernel_rfl) (by kernel_rfl) (by kernel_rfl) (fun Kc hKc => ?_)
        go_simp
        refine hKc.out _ _ trivial (fun _ => ?_)
        clear hKc Kc
        try simp only [Act.put, List.setIfInBounds_toArray, List.set_cons_succ, List.set_cons_zero]
        refine wpAnyH_step (i := 5) (o := { dst := some 43, op := Op.convert 33 9 (Operand.tmp 42), type := 9, pos := "ref.go:39", after := #[{ on := 4, ground := Ground.data }], guard := none }) (by kernel_rfl) (by kernel_rfl) (by kernel_rfl) (fun Kc hKc => ?_)
        go_simp
        refine hKc.out _ _ trivial (fun _ => ?_)
        clear hKc Kc
        try simp only [Act.put, List.setIfInBounds_toArray, List.set_cons_succ, List.set_cons_zero]
        refine wpAnyH_pure (i := 8) (o := { dst := some 46, op := Op.binOp BinOp.add 9 (Operand.tmp 43) (Operand.tmp 45) 9, type := 9, pos := "ref.go:39", after := #[{ on := 5, ground := Ground.data }, { on := 7, ground := Ground.data }], guard := none }) (v := .string T2) (by kernel_rfl) (by kernel_rfl) (by kernel_rfl) (by kernel_rfl) (fun _ _ _ h => h) (by kernel_rfl) (fun w hSw => by go_simp) trivial ?_
        simp only [Act.put, List.setIfInBounds_toArray, List.set_cons_succ, List.set_cons_zero]
        refine wpAnyH_pure (i := 9) (o := { dst := some 9, op := Op.assign (Operand.tmp 46), type := 9, pos := "ref.go:39", after := #[{ on := 8, ground := Ground.data }, { on := 0, ground := Ground.phase }, { on := 1, ground := Ground.phase }, { on := 2, ground := Ground.phase }, { on := 3, ground := Ground.phase }, { on := 4, ground := Ground.phase }, { on := 5, ground := Ground.phase }, { on := 6, ground := Ground.phase }, { on := 7, ground := Ground.phase }, { on := 8, ground := Ground.phase }], guard := none }) (v := .string T2) (by kernel_rfl) (by kernel_rfl) (by kernel_rfl) (by kernel_rfl) (fun _ _ _ h => h) (by kernel_rfl) (fun w hSw => by go_simp) trivial ?_
        simp only [Act.put, List.setIfInBounds_toArray, List.set_cons_succ, List.set_cons_zero]
        refine wpAnyH_done (by kernel_rfl) ?_ _
        have iT : Is (v1.alloc (.cells #[.int .u8 (z : Int)] 5)).drew w.heap.size 63 RT := iT1.alloc _
        have hB : Below w.heap.size w (v1.alloc (.cells #[.int .u8 (z : Int)] 5)).drew := belowN (hB1.alloc hB1.size _) 1
        generalize (v1.alloc (.cells #[.int .u8 (z : Int)] 5)).drew = v2 at *
        clear hcv iT1 hB1
        go_wp2_with (first
          | (go_at_call 46; refine (MU.out _).mono ?_; rintro e v ⟨rfl, rfl⟩)
          | (go_at_call 38; refine (C4.out _).mono ?_; rintro e v ⟨rfl, hb⟩; replace iT := iT.below hb iT.lt; replace hB := hB.trans (hb.mono hB.size); clear hb))
        go_roundw
        case rel => exact ⟨q + 1, by omega, by omega, by go_num, by rw [HSC.out], by rw [HSL.out], iT, hB⟩
        case measure => simp [intOf]; omega
      · have t0 : ((R : Int) == 0) = false := by simp; omega
        have hK : keyT 4 q c T0 = T0 := by unfold keyT; dsimp only; rw [if_neg (fun h => absurd h.1 (by decide)), if_neg (by omega)]
        have hC : (if q % 4 = 0 then mulN 2 c else c) = c := if_neg (by omega)
        rw [hK, hC] at hst
        have C4 := Lib.hid (fun w => lXor WW T0 w (by rw [hWl]; omega) (by rw [hWl]; omega) (by rw [hT0l, hWl]) hWb hT0b)
        rw [← hTT] at C4
        have hXl : (strN (xorB WW (T0))).size = 4 := by rw [strN_size, xorB, List.length_zipWith, hWl, hT0l]; rfl
        have hcat : LL ++ strN (xorB WW (T0)) = strN (L ++ xorB WW (T0)) := by rw [hLL, strN_app]
        have hnl : ¬ (9223372036854775807 < LL.size + (strN (xorB WW (T0))).size) := by rw [hXl, hLs]; omega
        obtain ⟨LN, hLN⟩ : ∃ LN, LN = strN (L ++ xorB WW (T0)) := ⟨_, rfl⟩
        rw [← hLN] at hcat
        have HSL := Lib.hid (show strN (expN (natL key) 4 (q + 1 - 4)).1 = LN by rw [hst, hLN])
        have HSC := Lib.hid (show (expN (natL key) 4 (q + 1 - 4)).2 = c by rw [hst])
        clear hst hLN hXl
        generalize strN (xorB WW (T0)) = XX at *
        generalize strN WW = WS at *
        clear hLL hLs hT0l hT0b hWl hWb hL hLb hTT hK hC
        clear hR
        go_wp2_with (go_at_call 38; refine (C4.out _).mono ?_; rintro e v ⟨rfl, hb⟩; replace iT := iT.below hb iT.lt; replace hB := hB.trans (hb.mono hB.size); clear hb)
        go_roundw
        case rel => exact ⟨q + 1, by omega, by omega, by go_num, by rw [HSC.out], by rw [HSL.out], iT, hB⟩
        case measure => simp [intOf]; omega
    · obtain rfl : q = 44 := by omega
      rw [show 44 - 4 = 40 from rfl]
      generalize hV : (expN (natL key) 4 40).1 = V at *
      have HV := Lib.hid hV
      clear hV
      go_wp2
      go_ret
      exact ⟨by rw [HV.out]; rfl, hB⟩

set_option maxRecDepth 100000 in
set_option maxHeartbeats 8000000 in
theorem rexp_8 (key : ByteArray) (w : World) (hk : key.size = 32) :
    Calls Try.prog 23 #[.string key, .agg (nA TS)] w fun e w' => e = .returned (.string (strN (expN (natL key) 8 52).1)) ∧ Below w.heap.size w w' := by
  have hkl : (natL key).length = 4 * 8 := by rw [natL_len, hk]
  have HLEN := Lib.hid (fun j => expN_len (key := natL key) (n := 8) hkl (by omega) j)
  have HBY := Lib.hid (fun j => expN_lt (key := natL key) (n := 8) (natL_lt key) j)
  have HK := Lib.hid (show strN (expN (natL key) 8 0).1 = key from strN_natL key)
  have hkz : (key.size : Int) = 32 := by rw [hk]; rfl
  have hin := ts_in
  have SB := Lib.hid lSub
  have iT : Is (w.alloc (.cells (nA TS) 63)) w.heap.size 63 (nA TS) := Is.new w _ _
  have hB0 : Below w.heap.size w (w.alloc (.cells (nA TS) 63)) := (Below.refl _ _).alloc (Nat.le_refl _) _
  generalize nA TS = RT at *
  clear hk hkl
  go_enter Try.func23, Try.ntmps23
  go_wp2
  go_loopw [6, 7, 8] (fun o cc i wr => ∃ q : Nat, 8 ≤ q ∧ q ≤ 60 ∧ i = .int .i64 (q : Int) ∧ cc = .int .u8 (((expN (natL key) 8 (q - 8)).2 : Nat) : Int) ∧ o = .string (strN (expN (natL key) 8 (q - 8)).1) ∧ Is wr w.heap.size 63 RT ∧ Below w.heap.size w wr)
    (fun _ _ i _ => 60 - (intOf i).toNat)
  case atStart => exact ⟨8, by omega, by omega, rfl, rfl, by rw [Nat.sub_self, HK.out], iT, hB0⟩
  case round =>
    clear iT hB0
    obtain ⟨q, hq0, hq1, rfl, rfl, rfl, iT, hB⟩ := hrel
    by_cases hlt : q < 60
    · have hd1 : (q : Int) < 60 := by omega
      obtain ⟨j, hj⟩ : ∃ j : Nat, j = q - 8 := ⟨_, rfl⟩
      have hst : expN (natL key) 8 (q + 1 - 8) = expS 8 (expN (natL key) 8 j) q := by
        rw [show q + 1 - 8 = j + 1 by omega]
        show expS 8 (expN (natL key) 8 j) (8 + j) = _
        rw [show 8 + j = q by omega]
      rw [← hj]
      have hL := HLEN.out j
      rw [show 4 * (8 + j) = 4 * q by omega] at hL
      have hLb := (HBY.out j).1
      have hcb := (HBY.out j).2
      generalize expN (natL key) 8 j = st at *
      obtain ⟨L, c⟩ := st
      dsimp only at hL hLb hcb hst ⊢
      unfold expS at hst
      dsimp only at hst
      rw [show q - 8 = j from hj.symm] at hst
      have hm : (q : Int) - 8 = (j : Int) := by omega
      have s7 := fun wx => run_slice_from (P := Try.prog) (t := 9) Try.underlying9 hLb (4 * q - 4) (4 * (q : Int) - 4) (by omega) (by omega) wx
      have s14 := fun wx => run_slice_mid (P := Try.prog) (t := 9) Try.underlying9 hLb (4 * j) (4 * j + 4) (4 * (j : Int)) (4 * (j : Int) + 4) (by omega) (by omega) (by omega) (by omega) wx
      rw [show 4 * j + 4 - 4 * j = 4 by omega] at s14
      have hT0l : (L.drop (4 * q - 4)).length = 4 := by rw [List.length_drop, hL]; omega
      have hT0b : ∀ x ∈ L.drop (4 * q - 4), x < 256 := fun x hx => hLb x (List.drop_subset _ _ hx)
      have hWl : ((L.drop (4 * j)).take 4).length = 4 := by rw [List.length_take, List.length_drop, hL]; omega
      have hWb : ∀ x ∈ (L.drop (4 * j)).take 4, x < 256 := fun x hx => hLb x (List.drop_subset _ _ (List.take_subset _ _ hx))
      obtain ⟨LL, hLL⟩ : ∃ LL, LL = strN L := ⟨_, rfl⟩
      have hLs : LL.size = 4 * q := by rw [hLL, strN_size, hL]
      rw [← hLL] at s7 s14 ⊢
      generalize L.drop (4 * q - 4) = T0 at *
      generalize (L.drop (4 * j)).take 4 = WW at *
      obtain ⟨TT, hTT⟩ : ∃ TT, TT = strN T0 := ⟨_, rfl⟩
      rw [← hTT] at s7
      obtain ⟨R, hR⟩ : ∃ R : Nat, R = q % 8 := ⟨_, rfl⟩
      have hr1 : (q : Int).tmod 8 = (R : Int) := by rw [Int.tmod_eq_emod_of_nonneg (by omega)]; omega
      have hr2 : (q : Int) % 8 = (R : Int) := by omega
      have hj0 : 4 * q ≤ 240 := by omega
      clear hj
      by_cases hr0 : R = 0
      · have t0 : ((R : Int) == 0) = true := by rw [hr0]; rfl
        have t4 : ((R : Int) == 4) = false := by rw [hr0]; rfl
        have hK : keyT 8 q c T0 = hdX c (subL (T0.drop 1 ++ T0.take 1)) := by unfold keyT; dsimp only; rw [if_neg (by omega), if_pos (by omega)]
        have hC : (if q % 8 = 0 then mulN 2 c else c) = mulN 2 c := if_pos (by omega)
        rw [hK, hC] at hst
        have hUl : (T0.drop 1 ++ T0.take 1).length = 4 := by rw [List.length_append, List.length_drop, List.length_take, hT0l]; rfl
        have hUb : ∀ x ∈ T0.drop 1 ++ T0.take 1, x < 256 := fun x hx => by
          rcases List.mem_append.1 hx with h | h
          · exact hT0b x (List.drop_subset _ _ h)
          · exact hT0b x (List.take_subset _ _ h)
        have s9a := fun wx => run_slice_from (P := Try.prog) (t := 9) Try.underlying9 hT0b 1 1 rfl (by omega) wx
        have s9b := fun wx => run_slice_to (P := Try.prog) (t := 9) Try.underlying9 hT0b 1 1 rfl (by omega) wx
        have hcu : strN (T0.drop 1) ++ strN (T0.take 1) = strN (T0.drop 1 ++ T0.take 1) := by rw [strN_app]
        have hnu : ¬ (9223372036854775807 < (strN (T0.drop 1)).size + (strN (T0.take 1)).size) := by rw [strN_size, strN_size, List.length_drop, List.length_take]; omega
        have C1 := Lib.hid (fun w => SB.out (T0.drop 1 ++ T0.take 1) w (by omega) (by omega) hUb)
        rw [← hTT] at s9a s9b
        have hVl : (subL (T0.drop 1 ++ T0.take 1)).length = 4 := by rw [subL, List.length_map, hUl]
        have hVb := subL_lt hUb
        generalize subL (T0.drop 1 ++ T0.take 1) = V at *
        generalize T0.drop 1 ++ T0.take 1 = U at *
        have s10 := fun wx => run_slice_from (P := Try.prog) (t := 9) Try.underlying9 hVb 1 1 rfl (by omega) wx
        have h0l : 0 < (strN V).size := by rw [strN_size, hVl]; decide
        have h0k : (0 : Int) < ((strN V).size : Int) := by omega
        have g0 := btN_get h0l
        rw [btN_nat V hVb 0] at g0
        have hx := u8_xor_nat (V.getD 0 0) c (getD_mem_lt hVb 0) hcb
        have hzl : V.getD 0 0 ^^^ c < 256 := Nat.xor_lt_two_pow (n := 8) (getD_mem_lt hVb 0) hcb
        have hhd : hdX c V = [V.getD 0 0 ^^^ c] ++ V.drop 1 := by
          match V, hVl with
          | a :: b, _ => rfl
        rw [hhd] at hst
        have hDl : ([V.getD 0 0 ^^^ c] ++ V.drop 1).length = 4 := by rw [List.length_append, List.length_drop, hVl]; rfl
        have hDb : ∀ x ∈ [V.getD 0 0 ^^^ c] ++ V.drop 1, x < 256 := fun x hx => by
          rcases List.mem_append.1 hx with h | h
          · rw [List.mem_singleton] at h; omega
          · exact hVb x (List.drop_subset _ _ h)
        have hcd : strN [V.getD 0 0 ^^^ c] ++ strN (V.drop 1) = strN ([V.getD 0 0 ^^^ c] ++ V.drop 1) := by rw [strN_app]
        have hnd : ¬ (9223372036854775807 < (strN [V.getD 0 0 ^^^ c]).size + (strN (V.drop 1)).size) := by rw [strN_size, strN_size, List.length_drop, List.length_singleton]; omega
        have MU := Lib.hid (fun w => rmul_any 2 c w (by decide) hcb)
        have C4 := Lib.hid (fun w => lXor WW ([V.getD 0 0 ^^^ c] ++ V.drop 1) w (by rw [hWl]; omega) (by rw [hWl]; omega) (by rw [hDl, hWl]) hWb hDb)
        have hXl : (strN (xorB WW ([V.getD 0 0 ^^^ c] ++ V.drop 1))).size = 4 := by rw [strN_size, xorB, List.length_zipWith, hWl, hDl]; rfl
        have hcat : LL ++ strN (xorB WW ([V.getD 0 0 ^^^ c] ++ V.drop 1)) = strN (L ++ xorB WW ([V.getD 0 0 ^^^ c] ++ V.drop 1)) := by rw [hLL, strN_app]
        have hnl : ¬ (9223372036854775807 < LL.size + (strN (xorB WW ([V.getD 0 0 ^^^ c] ++ V.drop 1))).size) := by rw [hXl, hLs]; omega
        obtain ⟨LN, hLN⟩ : ∃ LN, LN = strN (L ++ xorB WW ([V.getD 0 0 ^^^ c] ++ V.drop 1)) := ⟨_, rfl⟩
        rw [← hLN] at hcat
        have HSL := Lib.hid (show strN (expN (natL key) 8 (q + 1 - 8)).1 = LN by rw [hst, hLN])
        have HSC := Lib.hid (show (expN (natL key) 8 (q + 1 - 8)).2 = mulN 2 c by rw [hst])
        clear hst hLN hXl
        generalize strN (xorB WW ([V.getD 0 0 ^^^ c] ++ V.drop 1)) = XX at *
        generalize strN WW = WS at *
        clear hLL hLs hT0l hT0b hWl hWb hL hLb hTT hK hC
        have hz1 : strN [V.getD 0 0 ^^^ c] = strOfNums [((V.getD 0 0 ^^^ c : Nat) : Int)] := rfl
        generalize strN ([V.getD 0 0 ^^^ c] ++ V.drop 1) = T2 at *
        generalize strN (V.drop 1) = TD at *
        generalize strN [V.getD 0 0 ^^^ c] = ZS at *
        generalize V.getD 0 0 ^^^ c = z at *
        generalize V.getD 0 0 = y at *
        generalize strN V = T1 at *
        generalize strN U = P1 at *
        generalize strN (T0.drop 1) = TA at *
        generalize strN (T0.take 1) = TZ at *
        generalize mulN 2 c = c2 at *
        have HZ1 := Lib.hid hz1
        clear hVl hVb hUl hUb hDl hDb hhd hzl hR hz1
        have iTD : Is wr.drew w.heap.size 63 RT := iT
        have hBD : Below w.heap.size w wr.drew := belowN hB 1
        go_wp2
        refine wp_region_held_drew (S := fun W => Is W w.heap.size 63 RT) (by kernel_rfl) iTD (fun hS => ?_)
        change wpAnyH _ _ (opsOf Try.f23 9) _ _ 8 (Array.replicate 8 false) _ _
        refine wpAnyH_pure (i := 0) (o := { dst := some 31, op := Op.move (Operand.tmp 9), type := 9, pos := "ref.go:38", after := #[], guard := none }) (v := .string TT) (by kernel_rfl) (by kernel_rfl) (by kernel_rfl) (by kernel_rfl) (fun _ _ _ h => h) (by kernel_rfl) (fun w hSw => by kernel_rfl) hS ?_
        simp only [Act.put, List.setIfInBounds_toArray, List.set_cons_succ, List.set_cons_zero]
        refine wpAnyH_pure (i := 1) (o := { dst := some 32, op := Op.slice 9 (Operand.tmp 31) (some (Operand.const (Value.int IntKind.i64 1))) none none, type := 9, pos := "ref.go:38", after := #[{ on := 0, ground := Ground.data }], guard := none }) (v := .string TA) (by kernel_rfl) (by kernel_rfl) (by kernel_rfl) (by kernel_rfl) (fun _ _ _ h => h) (by kernel_rfl) (fun w hSw => by go_simp) hS ?_
        simp only [Act.put, List.setIfInBounds_toArray, List.set_cons_succ, List.set_cons_zero]
        refine wpAnyH_pure (i := 2) (o := { dst := some 33, op := Op.move (Operand.tmp 9), type := 9, pos := "ref.go:38", after := #[], guard := none }) (v := .string TT) (by kernel_rfl) (by kernel_rfl) (by kernel_rfl) (by kernel_rfl) (fun _ _ _ h => h) (by kernel_rfl) (fun w hSw => by kernel_rfl) hS ?_
        simp only [Act.put, List.setIfInBounds_toArray, List.set_cons_succ, List.set_cons_zero]
        refine wpAnyH_pure (i := 3) (o := { dst := some 34, op := Op.slice 9 (Operand.tmp 33) none (some (Operand.const (Value.int IntKind.i64 1))) none, type := 9, pos := "ref.go:38", after := #[{ on := 2, ground := Ground.data }], guard := none }) (v := .string TZ) (by kernel_rfl) (by kernel_rfl) (by kernel_rfl) (by kernel_rfl) (fun _ _ _ h => h) (by kernel_rfl) (fun w hSw => by go_simp) hS ?_
        simp only [Act.put, List.setIfInBounds_toArray, List.set_cons_succ, List.set_cons_zero]
        refine wpAnyH_pure (i := 4) (o := { dst := some 35, op := Op.binOp BinOp.add 9 (Operand.tmp 32) (Operand.tmp 34) 9, type := 9, pos := "ref.go:38", after := #[{ on := 1, ground := Ground.data }, { on := 3, ground := Ground.data }], guard := none }) (v := .string P1) (by kernel_rfl) (by kernel_rfl) (by kernel_rfl) (by kernel_rfl) (fun _ _ _ h => h) (by kernel_rfl) (fun w hSw => by go_simp) hS ?_
        simp only [Act.put, List.setIfInBounds_toArray, List.set_cons_succ, List.set_cons_zero]
        refine wpAnyH_pure (i := 5) (o := { dst := some 36, op := Op.load 63 (Operand.tmp 3), type := 63, pos := "ref.go:38", after := #[], guard := none }) (v := .agg RT) (by kernel_rfl) (by kernel_rfl) (by kernel_rfl) (by kernel_rfl) (fun _ _ _ h => h) (by kernel_rfl) (fun w hSw => by exact run_load_rowO rfl rfl hSw Try.underlying63 rfl hin) hS ?_
        simp only [Act.put, List.setIfInBounds_toArray, List.set_cons_succ, List.set_cons_zero]
        refine wpAnyH_call (i := 6) (o := { dst := some 37, op := Op.call { callee := Callee.value (Operand.func 40), args := #[Operand.tmp 35, Operand.tmp 36], argTypes := #[9, 63] }, type := 9, pos := "ref.go:38", after := #[{ on := 4, ground := Ground.data }, { on := 5, ground := Ground.data }], guard := none }) (by kernel_rfl) (by kernel_rfl) (by kernel_rfl) (fun w => by kernel_rfl) ((C1.out _).mono ?_)
        rintro e v1 ⟨rfl, hb⟩
        have iT1 := iTD.below hb iTD.lt
        have hB1 : Below w.heap.size w v1 := hBD.trans (hb.mono hBD.size)
        clear hb
        refine ⟨_, rfl, iT1, ?_⟩
        try simp only [Act.put, List.setIfInBounds_toArray, List.set_cons_succ, List.set_cons_zero]
        refine wpAnyH_pure (i := 7) (o := { dst := some 9, op := Op.assign (Operand.tmp 37), type := 9, pos := "ref.go:38", after := #[{ on := 6, ground := Ground.data }, { on := 6, ground := Ground.chain }, { on := 0, ground := Ground.phase }, { on := 1, ground := Ground.phase }, { on := 2, ground := Ground.phase }, { on := 3, ground := Ground.phase }, { on := 4, ground := Ground.phase }, { on := 5, ground := Ground.phase }, { on := 6, ground := Ground.phase }], guard := none }) (v := .string T1) (by kernel_rfl) (by kernel_rfl) (by kernel_rfl) (by kernel_rfl) (fun _ _ _ h => h) (by kernel_rfl) (fun w hSw => by go_simp) iT1 ?_
        simp only [Act.put, List.setIfInBounds_toArray, List.set_cons_succ, List.set_cons_zero]
        refine wpAnyH_done (by kernel_rfl) ?_ _
        clear iTD hBD iT hB
        have hcv := run_convert_bytes_arg (P := Try.prog) (v1.alloc (.cells #[.int .u8 (z : Int)] 5)).drew 33 5 Try.underlying33 Try.underlying5 v1.heap.size 0 1 1 [(z : Int)] rfl (fun i hi => by
          obtain rfl : i = 0 := by omega
          exact (Is.new v1 5 #[.int .u8 (z : Int)]).cell 0) 9 Try.underlying9
        rw [← HZ1.out] at hcv
        go_wp2
        refine wp_region_held_drew (S := fun _ => True) (by kernel_rfl) trivial (fun hS => ?_)
        change wpAnyH _ _ (opsOf Try.f23 10) _ _ 10 (Array.replicate 10 false) _ _
        refine wpAnyH_pure (i := 0) (o := { dst := some 38, op := Op.move (Operand.tmp 9), type := 9, pos := "ref.go:39", after := #[], guard := none }) (v := .string T1) (by kernel_rfl) (by kernel_rfl) (by kernel_rfl) (by kernel_rfl) (fun _ _ _ h => h) (by kernel_rfl) (fun w hSw => by kernel_rfl) hS ?_
        simp only [Act.put, List.setIfInBounds_toArray, List.set_cons_succ, List.set_cons_zero]
        refine wpAnyH_pure (i := 1) (o := { dst := some 39, op := Op.index 9 (Operand.tmp 38) (Operand.const (Value.int IntKind.i64 0)), type := 5, pos := "ref.go:39", after := #[{ on := 0, ground := Ground.data }], guard := none }) (v := .int .u8 (y : Int)) (by kernel_rfl) (by kernel_rfl) (by kernel_rfl) (by kernel_rfl) (fun _ _ _ h => h) (by kernel_rfl) (fun w hSw => by go_simp) hS ?_
        simp only [Act.put, List.setIfInBounds_toArray, List.set_cons_succ, List.set_cons_zero]
        refine wpAnyH_pure (i := 2) (o := { dst := some 40, op := Op.move (Operand.tmp 7), type := 5, pos := "ref.go:39", after := #[], guard := none }) (v := .int .u8 (c : Int)) (by kernel_rfl) (by kernel_rfl) (by kernel_rfl) (by kernel_rfl) (fun _ _ _ h => h) (by kernel_rfl) (fun w hSw => by kernel_rfl) hS ?_
        simp only [Act.put, List.setIfInBounds_toArray, List.set_cons_succ, List.set_cons_zero]
        refine wpAnyH_pure (i := 3) (o := { dst := some 41, op := Op.binOp BinOp.xor 5 (Operand.tmp 39) (Operand.tmp 40) 5, type := 5, pos := "ref.go:39", after := #[{ on := 1, ground := Ground.data }, { on := 2, ground := Ground.data }], guard := none }) (v := .int .u8 (z : Int)) (by kernel_rfl) (by kernel_rfl) (by kernel_rfl) (by kernel_rfl) (fun _ _ _ h => h) (by kernel_rfl) (fun w hSw => by go_simp) hS ?_
        simp only [Act.put, List.setIfInBounds_toArray, List.set_cons_succ, List.set_cons_zero]
        refine wpAnyH_pure (i := 6) (o := { dst := some 44, op := Op.move (Operand.tmp 9), type := 9, pos := "ref.go:39", after := #[], guard := none }) (v := .string T1) (by kernel_rfl) (by kernel_rfl) (by kernel_rfl) (by kernel_rfl) (fun _ _ _ h => h) (by kernel_rfl) (fun w hSw => by kernel_rfl) hS ?_
        simp only [Act.put, List.setIfInBounds_toArray, List.set_cons_succ, List.set_cons_zero]
        refine wpAnyH_pure (i := 7) (o := { dst := some 45, op := Op.slice 9 (Operand.tmp 44) (some (Operand.const (Value.int IntKind.i64 1))) none none, type := 9, pos := "ref.go:39", after := #[{ on := 6, ground := Ground.data }], guard := none }) (v := .string TD) (by kernel_rfl) (by kernel_rfl) (by kernel_rfl) (by kernel_rfl) (fun _ _ _ h => h) (by kernel_rfl) (fun w hSw => by go_simp) hS ?_
        simp only [Act.put, List.setIfInBounds_toArray, List.set_cons_succ, List.set_cons_zero]
        refine wpAnyH_step (i := 4) (o := { dst := some 42, op := Op.buildSlice 33 1 #[(0, Operand.tmp 41)], type := 33, pos := "ref.go:39", after := #[{ on := 3, ground := Ground.data }], guard := none }) (by kernel_rfl) (by kernel_rfl) (by kernel_rfl) (fun Kc hKc => ?_)
        go_simp
        refine hKc.out _ _ trivial (fun _ => ?_)
        clear hKc Kc
        try simp only [Act.put, List.setIfInBounds_toArray, List.set_cons_succ, List.set_cons_zero]
        refine wpAnyH_step (i := 5) (o := { dst := some 43, op := Op.convert 33 9 (Operand.tmp 42), type := 9, pos := "ref.go:39", after := #[{ on := 4, ground := Ground.data }], guard := none }) (by kernel_rfl) (by kernel_rfl) (by kernel_rfl) (fun Kc hKc => ?_)
        go_simp
        refine hKc.out _ _ trivial (fun _ => ?_)
        clear hKc Kc
        try simp only [Act.put, List.setIfInBounds_toArray, List.set_cons_succ, List.set_cons_zero]
        refine wpAnyH_pure (i := 8) (o := { dst := some 46, op := Op.binOp BinOp.add 9 (Operand.tmp 43) (Operand.tmp 45) 9, type := 9, pos := "ref.go:39", after := #[{ on := 5, ground := Ground.data }, { on := 7, ground := Ground.data }], guard := none }) (v := .string T2) (by kernel_rfl) (by kernel_rfl) (by kernel_rfl) (by kernel_rfl) (fun _ _ _ h => h) (by kernel_rfl) (fun w hSw => by go_simp) trivial ?_
        simp only [Act.put, List.setIfInBounds_toArray, List.set_cons_succ, List.set_cons_zero]
        refine wpAnyH_pure (i := 9) (o := { dst := some 9, op := Op.assign (Operand.tmp 46), type := 9, pos := "ref.go:39", after := #[{ on := 8, ground := Ground.data }, { on := 0, ground := Ground.phase }, { on := 1, ground := Ground.phase }, { on := 2, ground := Ground.phase }, { on := 3, ground := Ground.phase }, { on := 4, ground := Ground.phase }, { on := 5, ground := Ground.phase }, { on := 6, ground := Ground.phase }, { on := 7, ground := Ground.phase }, { on := 8, ground := Ground.phase }], guard := none }) (v := .string T2) (by kernel_rfl) (by kernel_rfl) (by kernel_rfl) (by kernel_rfl) (fun _ _ _ h => h) (by kernel_rfl) (fun w hSw => by go_simp) trivial ?_
        simp only [Act.put, List.setIfInBounds_toArray, List.set_cons_succ, List.set_cons_zero]
        refine wpAnyH_done (by kernel_rfl) ?_ _
        have iT : Is (v1.alloc (.cells #[.int .u8 (z : Int)] 5)).drew w.heap.size 63 RT := iT1.alloc _
        have hB : Below w.heap.size w (v1.alloc (.cells #[.int .u8 (z : Int)] 5)).drew := belowN (hB1.alloc hB1.size _) 1
        generalize (v1.alloc (.cells #[.int .u8 (z : Int)] 5)).drew = v2 at *
        clear hcv iT1 hB1
        go_wp2_with (first
          | (go_at_call 46; refine (MU.out _).mono ?_; rintro e v ⟨rfl, rfl⟩)
          | (go_at_call 38; refine (C4.out _).mono ?_; rintro e v ⟨rfl, hb⟩; replace iT := iT.below hb iT.lt; replace hB := hB.trans (hb.mono hB.size); clear hb))
        go_roundw
        case rel => exact ⟨q + 1, by omega, by omega, by go_num, by rw [HSC.out], by rw [HSL.out], iT, hB⟩
        case measure => simp [intOf]; omega
      · by_cases hr4 : q % 8 = 4
        · have t0 : ((R : Int) == 0) = false := by simp; omega
          have t4 : ((R : Int) == 4) = true := by rw [show R = 4 by omega]; rfl
          have hK : keyT 8 q c T0 = subL T0 := by unfold keyT; dsimp only; rw [if_pos ⟨rfl, hr4⟩, if_neg (by omega)]
          have hC : (if q % 8 = 0 then mulN 2 c else c) = c := if_neg (by omega)
          rw [hK, hC] at hst
          have C2 := Lib.hid (fun w => SB.out T0 w (by rw [hT0l]; omega) (by rw [hT0l]; omega) hT0b)
          rw [← hTT] at C2
          have C4 := Lib.hid (fun w => lXor WW (subL T0) w (by rw [hWl]; omega) (by rw [hWl]; omega) (by rw [subL, List.length_map, hT0l, hWl]) hWb (subL_lt hT0b))
          have hXl : (strN (xorB WW (subL T0))).size = 4 := by rw [strN_size, xorB, List.length_zipWith, hWl, subL, List.length_map, hT0l]; rfl
          have hcat : LL ++ strN (xorB WW (subL T0)) = strN (L ++ xorB WW (subL T0)) := by rw [hLL, strN_app]
          have hnl : ¬ (9223372036854775807 < LL.size + (strN (xorB WW (subL T0))).size) := by rw [hXl, hLs]; omega
          obtain ⟨LN, hLN⟩ : ∃ LN, LN = strN (L ++ xorB WW (subL T0)) := ⟨_, rfl⟩
          rw [← hLN] at hcat
          have HSL := Lib.hid (show strN (expN (natL key) 8 (q + 1 - 8)).1 = LN by rw [hst, hLN])
          have HSC := Lib.hid (show (expN (natL key) 8 (q + 1 - 8)).2 = c by rw [hst])
          clear hst hLN hXl
          generalize strN (xorB WW (subL T0)) = XX at *
          generalize strN WW = WS at *
          clear hLL hLs hT0l hT0b hWl hWb hL hLb hTT hK hC
          generalize strN (subL T0) = T1 at *
          clear hR hr4
          go_wp2_with (first
            | (refine wpList_load_row rfl 63 _ rfl w.heap.size rfl _ _ _ _ iT Try.underlying63 rfl hin ?_)
            | (go_at_call 40; refine (C2.out _).mono ?_; rintro e v ⟨rfl, hb⟩; replace iT := iT.below hb iT.lt; replace hB := hB.trans (hb.mono hB.size); clear hb)
            | (go_at_call 38; refine (C4.out _).mono ?_; rintro e v ⟨rfl, hb⟩; replace iT := iT.below hb iT.lt; replace hB := hB.trans (hb.mono hB.size); clear hb))
          go_roundw
          case rel => exact ⟨q + 1, by omega, by omega, by go_num, by rw [HSC.out], by rw [HSL.out], iT, hB⟩
          case measure => simp [intOf]; omega
        · have t0 : ((R : Int) == 0) = false := by simp; omega
          have t4 : ((R : Int) == 4) = false := by simp; omega
          have hK : keyT 8 q c T0 = T0 := by unfold keyT; dsimp only; rw [if_neg (fun h => hr4 h.2), if_neg (by omega)]
          have hC : (if q % 8 = 0 then mulN 2 c else c) = c := if_neg (by omega)
          rw [hK, hC] at hst
          have C4 := Lib.hid (fun w => lXor WW T0 w (by rw [hWl]; omega) (by rw [hWl]; omega) (by rw [hT0l, hWl]) hWb hT0b)
          rw [← hTT] at C4
          have hXl : (strN (xorB WW (T0))).size = 4 := by rw [strN_size, xorB, List.length_zipWith, hWl, hT0l]; rfl
          have hcat : LL ++ strN (xorB WW (T0)) = strN (L ++ xorB WW (T0)) := by rw [hLL, strN_app]
          have hnl : ¬ (9223372036854775807 < LL.size + (strN (xorB WW (T0))).size) := by rw [hXl, hLs]; omega
          obtain ⟨LN, hLN⟩ : ∃ LN, LN = strN (L ++ xorB WW (T0)) := ⟨_, rfl⟩
          rw [← hLN] at hcat
          have HSL := Lib.hid (show strN (expN (natL key) 8 (q + 1 - 8)).1 = LN by rw [hst, hLN])
          have HSC := Lib.hid (show (expN (natL key) 8 (q + 1 - 8)).2 = c by rw [hst])
          clear hst hLN hXl
          generalize strN (xorB WW (T0)) = XX at *
          generalize strN WW = WS at *
          clear hLL hLs hT0l hT0b hWl hWb hL hLb hTT hK hC
          clear hR hr4
          go_wp2_with (go_at_call 38; refine (C4.out _).mono ?_; rintro e v ⟨rfl, hb⟩; replace iT := iT.below hb iT.lt; replace hB := hB.trans (hb.mono hB.size); clear hb)
          go_roundw
          case rel => exact ⟨q + 1, by omega, by omega, by go_num, by rw [HSC.out], by rw [HSL.out], iT, hB⟩
          case measure => simp [intOf]; omega
    · obtain rfl : q = 60 := by omega
      rw [show 60 - 8 = 52 from rfl]
      generalize hV : (expN (natL key) 8 52).1 = V at *
      have HV := Lib.hid hV
      clear hV
      go_wp2
      go_ret
      exact ⟨by rw [HV.out]; rfl, hB⟩
end Go.Proofs.Ytjfeloimlgfocaa
