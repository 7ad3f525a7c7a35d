/-
  TapeKeeps: the walk of the statement's function.
-/
import Derived.Test.YtchgkiallbpjkaaTapX
namespace Go.Proofs.Ytchgkiallbpjkaa
open Go.RowKit Go.Shelf

theorem cell_rowFar7 {W : World} {g : Nat} {cs : Array Value} {p : Addr} (h : p.block ≠ g) (_ : True) : (W.setRow g cs).cell? p = W.cell? p := by simp [World.cell?, setRow_other W g p.block cs h]
theorem first_below7 {w W W2 : World} (h : Below w.heap.size w W) (hb : Below W.drew.heap.size W.drew W2) : Below w.heap.size w (W2.drewN 0) := (belowN h 1).trans (hb.mono h.size)
theorem at7_zero (s : ByteArray) : at7 s 0 = 0 := by simp [at7, pickN]
set_option maxRecDepth 100000 in
set_option maxHeartbeats 4000000 in
theorem tkeeps_walk (s : ByteArray) (A : Option Addr) (cap : Nat) (L : List Int) (w : World) (_hs : s.size ≤ maxLen) (hl : L.length ≤ maxLen ∧ L.length ≤ cap) (_hn : A = none → cap = 0) (hc : InL w A L) (hb : ∀ y ∈ L, -9223372036854775808 ≤ y ∧ y ≤ 9223372036854775807) :
    Calls Try.prog 7 #[.string s, .slice A L.length cap] w fun e w' => e = .returned (.bool true) ∧ Below w.heap.size w w' := by
  obtain ⟨hl, _⟩ := hl
  unfold maxLen at hl
  have M1 := Lib.hid (fun w => tape7_any s 0 w ⟨by decide, by decide⟩)
  have hcs := cut7_size s
  rw [at7_zero] at M1
  generalize cut7 s = C at *
  have HC := Lib.hid hc
  have HY := Lib.hid hb
  have HS := Lib.hid (show C.size ≤ 500 by omega)
  clear hcs hc hb _hn
  go_enter Try.func7, Try.ntmps7
  go_wp2_with fail
  have hB0 : Below w.heap.size w w := Below.refl _ _
  refine (awake7_any _).mono ?_
  rintro e W1 ⟨rfl, hb⟩
  have hB1 := hB0.trans (hb.mono hB0.size)
  have HN1 := Lib.hid hb
  clear hb hB0 
  go_wp2_with fail
  refine (M1.out _).mono ?_
  rintro e W2 ⟨rfl, hb⟩
  have hB2 := hB1.trans (hb.mono hB1.size)
  have HN2 := Lib.hid hb
  clear hb hB1 
  have HA2 := Lib.hid hB2.size
  go_wp2
  obtain ⟨W3, hW3⟩ : ∃ W, W = W2.alloc (.cells #[.string C, .int .i64 (0)] 23) := ⟨_, rfl⟩
  obtain ⟨DA, hDA⟩ : ∃ D, D = W2.heap.size := ⟨_, rfl⟩
  have iA_3 : Is W3 DA 23 #[.string C, .int .i64 (0)] := by rw [hW3, hDA]; exact Is.new _ _ _
  have hB3 : Below w.heap.size w W3 := by rw [hW3]; exact hB2.alloc hB2.size _
  have HS3 := Lib.hid (show W3.heap.size = W2.heap.size + 1 by rw [hW3]; exact World.size_alloc _ _)
  have HN3 : Hid (Below W2.heap.size W2 W3) := Lib.hid (by rw [hW3]; exact (Below.refl _ _).alloc (Nat.le_refl _) _)
  rw [← hW3]
  try rw [← hDA]
  clear hB2  hW3
  have HDA := Lib.hid hDA
  clear hDA
  have hDA : w.heap.size ≤ DA := by rw [HDA.out]; exact HA2.out
  have e00 : (⟨#[]⟩ : ByteArray) = C.extract 0 (0 : Int).toNat := by apply ByteArray.ext; simp [ByteArray.data_extract]
  go_loopw [7, 8] (fun v i wr => ∃ (k : Nat) (t : Int), k ≤ 10 ∧ k ≤ L.length ∧ i = .int .i64 (k : Int) ∧ v = .string (C.extract 0 t.toNat) ∧ 0 ≤ t ∧ t ≤ (C.size : Int) ∧ Is wr DA 23 #[.string C, .int .i64 t] ∧ Below w.heap.size w wr)
    (fun _ i _ => 10 - (intOf i).toNat)
  case atStart => exact ⟨0, 0, by omega, by omega, rfl, congrArg Value.string e00, by omega, by omega, iA_3, hB3⟩
  case round =>
    clear iA_3 hB3 e00
    obtain ⟨k, t, hk10, hkl, rfl, rfl, ht0, ht1, iA, hB⟩ := hrel
    have hsz := HS.out
    have hr : rightV C t = true := rightV_iff.2 ⟨by omega, ht0, ht1⟩
    obtain ⟨lf, hlf⟩ : ∃ lf : Int, lf = (C.size : Int) - t := ⟨_, rfl⟩
    have ML := Lib.hid (fun w => tleft_any C t w)
    rw [leftV, if_pos hr, ← hlf] at ML
    by_cases hlt : k < L.length ∧ k < 10
    · obtain ⟨hlt, hlt2⟩ := hlt
      obtain ⟨b, off, rfl, hbw, hcell⟩ := HC.out k hlt
      have hyb := HY.out (L.getD k 0) (by rw [List.getD_eq_getElem?_getD, List.getElem?_eq_getElem hlt]; exact List.getElem_mem hlt)
      generalize L.getD k 0 = y at *
      have hcy : wr.cell? ⟨b, off + k, none⟩ = some (.int .i64 y) := (hB.cell (p := ⟨b, off + k, none⟩) hbw).trans hcell
      have hp := pickN_bd y (lf + 1) (by omega)
      have MP := Lib.hid (fun w => pick7_any y (lf + 1) w hyb.1 hyb.2 (by omega) (by omega))
      generalize pickN y (lf + 1) = p at *
      have MK := Lib.hid (fun w => ttake_any C t p w)
      rw [take_fine hr hp.1 (by omega)] at MK
      have MR := Lib.hid (fun w => tright_any C (t + p) w)
      rw [right_on hr hp.1 (by omega)] at MR
      have hXs : ((C.extract t.toNat (t + p).toNat).size : Int) = p := by rw [ByteArray.size_extract]; omega
      have hAX : C.extract 0 t.toNat ++ C.extract t.toNat (t + p).toNat = C.extract 0 (t + p).toNat := by
        have := take_cat C (a := 0) (b := t) (c := t + p) (by omega) (by omega) (by omega)
        simpa using this
      have hAs : (C.extract 0 t.toNat).size ≤ 500 := by rw [ByteArray.size_extract]; omega
      have HAX := Lib.hid hAX
      generalize C.extract t.toNat (t + p).toNat = X at *
      generalize C.extract 0 t.toNat = Al at *
      have w1i := IntWalk.i64_in (lf + 1) (by omega)
      have w2i := IntWalk.i64_in (t + p) (by omega)
      have w3i := IntWalk.i64_in ((k : Int) + 1) (by omega)
      have hAl : ¬ (9223372036854775807 < Al.size + X.size) := by omega
      have l1 : (k : Int) < (L.length : Int) := by omega
      have l2 : (k : Int) < 10 := by omega
      have hk1 : k + 1 ≤ 10 := by omega
      have hk2 : k + 1 ≤ L.length := by omega
      have ht2 : 0 ≤ t + p := by omega
      have ht3 : t + p ≤ (C.size : Int) := by omega
      have HT2 := Lib.hid ht2
      have HT3 := Lib.hid ht3
      have hDl := iA.lt
      clear hr hlf hp hyb hcell hAX hAs hsz ht2 ht3 hkl hk10
      go_wp2
      refine wp_region_held_drew (S := fun W => Is W DA 23 #[.string C, .int .i64 t] ∧ W.cell? ⟨b, off + k, none⟩ = some (.int .i64 y)) (by kernel_rfl) ⟨iA.drewN 1, hcy⟩ (fun hS => ?_)
      change wpAnyH _ _ (opsOf Try.f7 7) _ _ 18 (Array.replicate 18 false) _ _
      replace iA := iA.drewN 1
      replace hB := belowN hB 1
      replace hcy : (wr.drewN 1).cell? ⟨b, off + k, none⟩ = some (.int .i64 y) := hcy
      replace hDl : DA < (wr.drewN 1).heap.size := hDl
      clear hS
      change wpAnyH _ _ _ _ _ _ _ _ (wr.drewN 1)
      generalize wr.drewN 1 = Wv at *
      refine wpAnyH_pure (i := 0) (o := { dst := some 26, op := Op.load 23 (Operand.tmp 6), type := 23, pos := "law.go:128", after := #[], guard := none }) (v := .agg #[.string C, .int .i64 t]) (by kernel_rfl) (by kernel_rfl) (by kernel_rfl) (by kernel_rfl) (fun _ _ _ h => h) (by kernel_rfl) (fun wy hSw => by (have c0 : wy.cell? ⟨DA, 0, none⟩ = some (.string C) := Is.cell hSw.1 0; have c1 : wy.cell? ⟨DA, 1, none⟩ = some (.int .i64 t) := Is.cell hSw.1 1; go_simp)) ⟨iA, hcy⟩ ?_
      simp only [Act.put, List.setIfInBounds_toArray, List.set_cons_succ, List.set_cons_zero]
      refine wpAnyH_pure (i := 1) (o := { dst := some 27, op := Op.move (Operand.tmp 1), type := 24, pos := "law.go:128", after := #[], guard := none }) (v := .slice (some ⟨b, off, none⟩) L.length cap) (by kernel_rfl) (by kernel_rfl) (by kernel_rfl) (by kernel_rfl) (fun _ _ _ h => h) (by kernel_rfl) (fun wy hSw => by kernel_rfl) ⟨iA, hcy⟩ ?_
      simp only [Act.put, List.setIfInBounds_toArray, List.set_cons_succ, List.set_cons_zero]
      refine wpAnyH_pure (i := 2) (o := { dst := some 28, op := Op.move (Operand.tmp 8), type := 3, pos := "law.go:128", after := #[], guard := none }) (v := .int .i64 (k : Int)) (by kernel_rfl) (by kernel_rfl) (by kernel_rfl) (by kernel_rfl) (fun _ _ _ h => h) (by kernel_rfl) (fun wy hSw => by kernel_rfl) ⟨iA, hcy⟩ ?_
      simp only [Act.put, List.setIfInBounds_toArray, List.set_cons_succ, List.set_cons_zero]
      refine wpAnyH_pure (i := 3) (o := { dst := some 29, op := Op.indexAddr 24 (Operand.tmp 27) (Operand.tmp 28), type := 0, pos := "law.go:128", after := #[{ on := 1, ground := Ground.data }, { on := 2, ground := Ground.data }], guard := none }) (v := .pointer (some ⟨b, off + k, none⟩)) (by kernel_rfl) (by kernel_rfl) (by kernel_rfl) (by kernel_rfl) (fun _ _ _ h => h) (by kernel_rfl) (fun wy hSw => by go_simp) ⟨iA, hcy⟩ ?_
      simp only [Act.put, List.setIfInBounds_toArray, List.set_cons_succ, List.set_cons_zero]
      refine wpAnyH_pure (i := 4) (o := { dst := some 30, op := Op.load 3 (Operand.tmp 29), type := 3, pos := "law.go:128", after := #[{ on := 3, ground := Ground.data }], guard := none }) (v := .int .i64 y) (by kernel_rfl) (by kernel_rfl) (by kernel_rfl) (by kernel_rfl) (fun _ _ _ h => h) (by kernel_rfl) (fun wy hSw => by (have c0 := hSw.2; go_simp)) ⟨iA, hcy⟩ ?_
      simp only [Act.put, List.setIfInBounds_toArray, List.set_cons_succ, List.set_cons_zero]
      refine wpAnyH_pure (i := 5) (o := { dst := some 31, op := Op.load 23 (Operand.tmp 6), type := 23, pos := "law.go:128", after := #[], guard := none }) (v := .agg #[.string C, .int .i64 t]) (by kernel_rfl) (by kernel_rfl) (by kernel_rfl) (by kernel_rfl) (fun _ _ _ h => h) (by kernel_rfl) (fun wy hSw => by (have c0 : wy.cell? ⟨DA, 0, none⟩ = some (.string C) := Is.cell hSw.1 0; have c1 : wy.cell? ⟨DA, 1, none⟩ = some (.int .i64 t) := Is.cell hSw.1 1; go_simp)) ⟨iA, hcy⟩ ?_
      simp only [Act.put, List.setIfInBounds_toArray, List.set_cons_succ, List.set_cons_zero]
      refine wpAnyH_ready (by kernel_rfl) (by simp) (AllReadyH.cons (i := 6) (o := { dst := some 32, op := Op.call { callee := Callee.value (Operand.func 12), args := #[Operand.tmp 31], argTypes := #[23] }, type := 3, pos := "law.go:128", after := #[{ on := 5, ground := Ground.data }], guard := none }) (by kernel_rfl) ?_ (AllReadyH.cons (i := 14) (o := { dst := some 10, op := Op.alloc 23, type := 0, pos := "law.go:128", after := #[], guard := none }) (by kernel_rfl) ?_ (AllReadyH.nil)))
      · refine arm_call (by kernel_rfl) (fun wy => by kernel_rfl) ((ML.out _).mono ?_)
        rintro e Wl ⟨rfl, hb⟩
        replace iA := iA.below hb iA.lt
        replace hcy := (hb.cell (p := ⟨b, off + k, none⟩) (Nat.lt_of_lt_of_le hbw hB.size)).trans hcy
        replace hDl := Nat.lt_of_lt_of_le hDl hb.size
        replace hB := hB.trans (hb.mono hB.size)
        clear hb
        refine ⟨_, rfl, ⟨iA, hcy⟩, ?_⟩
        simp only [Act.put, List.setIfInBounds_toArray, List.set_cons_succ, List.set_cons_zero]
        refine wpAnyH_pure (i := 7) (o := { dst := some 33, op := Op.binOp BinOp.add 3 (Operand.tmp 32) (Operand.const (Value.int IntKind.i64 1)) 3, type := 3, pos := "law.go:128", after := #[{ on := 6, ground := Ground.data }], guard := none }) (v := .int .i64 (lf + 1)) (by kernel_rfl) (by kernel_rfl) (by kernel_rfl) (by kernel_rfl) (fun _ _ _ h => h) (by kernel_rfl) (fun wy hSw => by go_simp) ⟨iA, hcy⟩ ?_
        simp only [Act.put, List.setIfInBounds_toArray, List.set_cons_succ, List.set_cons_zero]
        refine wpAnyH_ready (by kernel_rfl) (by simp) (AllReadyH.cons (i := 8) (o := { dst := some 34, op := Op.call { callee := Callee.value (Operand.func 14), args := #[Operand.tmp 30, Operand.tmp 33], argTypes := #[3, 3] }, type := 3, pos := "law.go:128", after := #[{ on := 4, ground := Ground.data }, { on := 7, ground := Ground.data }, { on := 6, ground := Ground.chain }], guard := none }) (by kernel_rfl) ?_ (AllReadyH.cons (i := 14) (o := { dst := some 10, op := Op.alloc 23, type := 0, pos := "law.go:128", after := #[], guard := none }) (by kernel_rfl) ?_ (AllReadyH.nil)))
        · refine arm_call (by kernel_rfl) (fun wy => by kernel_rfl) ((MP.out _).mono ?_)
          rintro e w' ⟨rfl, rfl⟩
          refine ⟨_, rfl, ⟨iA, hcy⟩, ?_⟩
          simp only [Act.put, List.setIfInBounds_toArray, List.set_cons_succ, List.set_cons_zero]
          refine wpAnyH_ready (by kernel_rfl) (by simp) (AllReadyH.cons (i := 9) (o := { dst := some 35, op := Op.call { callee := Callee.value (Operand.func 15), args := #[Operand.tmp 26, Operand.tmp 34], argTypes := #[23, 3] }, type := 32, pos := "law.go:128", after := #[{ on := 0, ground := Ground.data }, { on := 8, ground := Ground.data }, { on := 8, ground := Ground.chain }], guard := none }) (by kernel_rfl) ?_ (AllReadyH.cons (i := 14) (o := { dst := some 10, op := Op.alloc 23, type := 0, pos := "law.go:128", after := #[], guard := none }) (by kernel_rfl) ?_ (AllReadyH.nil)))
          · refine arm_call (by kernel_rfl) (fun wy => by kernel_rfl) ((MK.out _).mono ?_)
            rintro e Wk ⟨rfl, hb⟩
            replace iA := iA.below hb iA.lt
            replace hcy := (hb.cell (p := ⟨b, off + k, none⟩) (Nat.lt_of_lt_of_le hbw hB.size)).trans hcy
            replace hDl := Nat.lt_of_lt_of_le hDl hb.size
            replace hB := hB.trans (hb.mono hB.size)
            clear hb
            refine ⟨_, rfl, ⟨iA, hcy⟩, ?_⟩
            simp only [Act.put, List.setIfInBounds_toArray, List.set_cons_succ, List.set_cons_zero]
            refine wpAnyH_pure (i := 10) (o := { dst := some 25, op := Op.move (Operand.tmp 35), type := 32, pos := "law.go:128", after := #[{ on := 9, ground := Ground.data }], guard := none }) (v := .tuple #[.string X, .agg #[.string C, .int .i64 (t + p)], .int .i64 0]) (by kernel_rfl) (by kernel_rfl) (by kernel_rfl) (by kernel_rfl) (fun _ _ _ h => h) (by kernel_rfl) (fun wy hSw => by kernel_rfl) ⟨iA, hcy⟩ ?_
            simp only [Act.put, List.setIfInBounds_toArray, List.set_cons_succ, List.set_cons_zero]
            refine wpAnyH_pure (i := 11) (o := { dst := some 36, op := Op.extract (Operand.tmp 25) 0, type := 9, pos := "law.go:128", after := #[{ on := 10, ground := Ground.data }], guard := none }) (v := .string X) (by kernel_rfl) (by kernel_rfl) (by kernel_rfl) (by kernel_rfl) (fun _ _ _ h => h) (by kernel_rfl) (fun wy hSw => by kernel_rfl) ⟨iA, hcy⟩ ?_
            simp only [Act.put, List.setIfInBounds_toArray, List.set_cons_succ, List.set_cons_zero]
            refine wpAnyH_pure (i := 12) (o := { dst := some 37, op := Op.extract (Operand.tmp 25) 1, type := 23, pos := "law.go:128", after := #[{ on := 10, ground := Ground.data }, { on := 15, ground := Ground.gcOnly Departure.lateStores }], guard := none }) (v := .agg #[.string C, .int .i64 (t + p)]) (by kernel_rfl) (by kernel_rfl) (by kernel_rfl) (by kernel_rfl) (fun _ _ _ h => h) (by kernel_rfl) (fun wy hSw => by kernel_rfl) ⟨iA, hcy⟩ ?_
            simp only [Act.put, List.setIfInBounds_toArray, List.set_cons_succ, List.set_cons_zero]
            refine wpAnyH_pure (i := 13) (o := { dst := some 38, op := Op.extract (Operand.tmp 25) 2, type := 31, pos := "law.go:128", after := #[{ on := 10, ground := Ground.data }, { on := 16, ground := Ground.gcOnly Departure.lateStores }], guard := none }) (v := .int .i64 0) (by kernel_rfl) (by kernel_rfl) (by kernel_rfl) (by kernel_rfl) (fun _ _ _ h => h) (by kernel_rfl) (fun wy hSw => by kernel_rfl) ⟨iA, hcy⟩ ?_
            simp only [Act.put, List.setIfInBounds_toArray, List.set_cons_succ, List.set_cons_zero]
            refine wpAnyH_ready (by kernel_rfl) (by simp) (AllReadyH.cons (i := 14) (o := { dst := some 10, op := Op.alloc 23, type := 0, pos := "law.go:128", after := #[], guard := none }) (by kernel_rfl) ?_ AllReadyH.nil)
            refine arm_value (by kernel_rfl) (run_alloc8 _ (by kernel_rfl)) ⟨iA.alloc _, Lib.cell?_alloc_some _ hcy⟩ ?_
            simp only [Act.put, List.setIfInBounds_toArray, List.set_cons_succ, List.set_cons_zero]
            replace hcy := Lib.cell?_alloc_some (.cells #[.string ⟨#[]⟩, .int .i64 0] 23) hcy
            have iD := Is.new (Wk) 23 #[.string ⟨#[]⟩, .int .i64 0]
            have hDD : DA < (Wk).heap.size := hDl
            replace iA := iA.alloc (.cells #[.string ⟨#[]⟩, .int .i64 0] 23)
            have hDW : w.heap.size ≤ (Wk).heap.size := hB.size
            replace hB := hB.alloc hB.size (.cells #[.string ⟨#[]⟩, .int .i64 0] 23)
            replace hDl := iA.lt
            generalize (Wk).heap.size = DD at *
            refine wpAnyH_pure (i := 15) (o := { dst := some 9, op := Op.assign (Operand.tmp 36), type := 9, pos := "law.go:128", after := #[{ on := 11, ground := Ground.data }, { on := 9, ground := Ground.chain }, { on := 0, ground := Ground.phase }, { on := 1, ground := Ground.phase }, { on := 2, ground := Ground.phase }, { on := 3, ground := Ground.phase }, { on := 4, ground := Ground.phase }, { on := 5, ground := Ground.phase }, { on := 6, ground := Ground.phase }, { on := 7, ground := Ground.phase }, { on := 8, ground := Ground.phase }, { on := 9, ground := Ground.phase }, { on := 10, ground := Ground.phase }, { on := 11, ground := Ground.phase }, { on := 12, ground := Ground.textOnly Departure.lateStores }, { on := 13, ground := Ground.textOnly Departure.lateStores }, { on := 14, ground := Ground.phase }], guard := none }) (v := .string X) (by kernel_rfl) (by kernel_rfl) (by kernel_rfl) (by kernel_rfl) (fun _ _ _ h => h) (by kernel_rfl) (fun wy hSw => by kernel_rfl) ⟨iA, hcy⟩ ?_
            simp only [Act.put, List.setIfInBounds_toArray, List.set_cons_succ, List.set_cons_zero]
            refine wpAnyH_ready (by kernel_rfl) (by simp) (AllReadyH.cons (i := 16) (o := { dst := none, op := Op.store 23 (Operand.tmp 10) (Operand.tmp 37), type := 0, pos := "law.go:128", after := #[{ on := 14, ground := Ground.data }, { on := 12, ground := Ground.data }, { on := 15, ground := Ground.chain }, { on := 0, ground := Ground.phase }, { on := 1, ground := Ground.phase }, { on := 2, ground := Ground.phase }, { on := 3, ground := Ground.phase }, { on := 4, ground := Ground.phase }, { on := 5, ground := Ground.phase }, { on := 6, ground := Ground.phase }, { on := 7, ground := Ground.phase }, { on := 8, ground := Ground.phase }, { on := 9, ground := Ground.phase }, { on := 10, ground := Ground.phase }, { on := 11, ground := Ground.phase }, { on := 12, ground := Ground.phase }, { on := 13, ground := Ground.textOnly Departure.lateStores }, { on := 14, ground := Ground.phase }, { on := 15, ground := Ground.phase }], guard := none }) (by kernel_rfl) ?_ AllReadyH.nil)
            have nAD : DA ≠ DD := Nat.ne_of_lt hDD
            refine arm_skip (by kernel_rfl) (run_store_rowO (ty := 23) (x := .tmp 10) (y := .tmp 37) (cs := #[.string C, .int .i64 (t + p)]) (by kernel_rfl) (by kernel_rfl) (by kernel_rfl) iD infoTape rfl (by kernel_rfl)) ⟨iA.rowFar nAD _, (cell_rowFar7 (by show b ≠ DD; omega) trivial).trans hcy⟩ ?_
            try simp only [Act.put]
            obtain ⟨WZ, hWZ⟩ : ∃ WZ, WZ = ((Wk).alloc (.cells #[.string ⟨#[]⟩, .int .i64 0] 23)).setRow DD #[.string C, .int .i64 (t + p)] := ⟨_, rfl⟩
            have zA : Is WZ DA 23 #[.string C, .int .i64 t] := by rw [hWZ]; exact iA.rowFar nAD _
            have zD : Is WZ DD 23 #[.string C, .int .i64 (t + p)] := by rw [hWZ]; exact iD.row _
            have zB : Below w.heap.size w WZ := by rw [hWZ]; exact belowRow hB hDW _
            have zc : WZ.cell? ⟨b, off + k, none⟩ = some (.int .i64 y) := by rw [hWZ]; exact (cell_rowFar7 (by show b ≠ DD; omega) trivial).trans hcy
            rw [← hWZ]
            clear iA hcy hB hWZ iD
            have iA := zA
            have hcy := zc
            refine wpAnyH_pure (i := 17) (o := { dst := some 11, op := Op.assign (Operand.tmp 38), type := 31, pos := "law.go:128", after := #[{ on := 13, ground := Ground.data }, { on := 16, ground := Ground.chain }, { on := 0, ground := Ground.phase }, { on := 1, ground := Ground.phase }, { on := 2, ground := Ground.phase }, { on := 3, ground := Ground.phase }, { on := 4, ground := Ground.phase }, { on := 5, ground := Ground.phase }, { on := 6, ground := Ground.phase }, { on := 7, ground := Ground.phase }, { on := 8, ground := Ground.phase }, { on := 9, ground := Ground.phase }, { on := 10, ground := Ground.phase }, { on := 11, ground := Ground.phase }, { on := 12, ground := Ground.phase }, { on := 13, ground := Ground.phase }, { on := 14, ground := Ground.phase }, { on := 15, ground := Ground.phase }, { on := 16, ground := Ground.phase }], guard := none }) (v := .int .i64 0) (by kernel_rfl) (by kernel_rfl) (by kernel_rfl) (by kernel_rfl) (fun _ _ _ h => h) (by kernel_rfl) (fun wy hSw => by kernel_rfl) ⟨iA, hcy⟩ ?_
            simp only [Act.put, List.setIfInBounds_toArray, List.set_cons_succ, List.set_cons_zero]
            refine wpAnyH_done (by kernel_rfl) ?_ _
            have cA0 : WZ.cell? ⟨DA, 0, none⟩ = some (.string C) := zA.cell 0
            have cA1 : WZ.cell? ⟨DA, 1, none⟩ = some (.int .i64 t) := zA.cell 1
            have cD0 : WZ.cell? ⟨DD, 0, none⟩ = some (.string C) := zD.cell 0
            have cD1 : WZ.cell? ⟨DD, 1, none⟩ = some (.int .i64 (t + p)) := zD.cell 1
            clear iA hcy zc
            go_wp2_with fail
            refine (MR.out _).mono ?_
            rintro e WY ⟨rfl, hb⟩
            have yA := zA.below hb zA.lt
            have yD := zD.below hb zD.lt
            have hBY := zB.trans (hb.mono zB.size)
            clear cA0 cA1 cD0 cD1 zA zD zB hb
            have cA0 : WY.cell? ⟨DA, 0, none⟩ = some (.string C) := yA.cell 0
            have cA1 : WY.cell? ⟨DA, 1, none⟩ = some (.int .i64 t) := yA.cell 1
            have fA0 := yA.frozen 0
            have fA1 := yA.frozen 1
            have cD0 : WY.cell? ⟨DD, 0, none⟩ = some (.string C) := yD.cell 0
            have cD1 : WY.cell? ⟨DD, 1, none⟩ = some (.int .i64 (t + p)) := yD.cell 1
            have yA2 := yA.pair (.string C) (.int .i64 (t + p))
            have hBY2 := below_pair hBY hDA (.string C) (.int .i64 (t + p))
            have hAX := HAX.out
            go_wp2
            go_roundw
            case rel => exact ⟨k + 1, t + p, hk1, hk2, by go_num, rfl, HT2.out, HT3.out, yA2, hBY2⟩
            case measure => simp [intOf]; omega
          · refine arm_value (by kernel_rfl) (run_alloc8 _ (by kernel_rfl)) ⟨iA.alloc _, Lib.cell?_alloc_some _ hcy⟩ ?_
            simp only [Act.put, List.setIfInBounds_toArray, List.set_cons_succ, List.set_cons_zero]
            replace hcy := Lib.cell?_alloc_some (.cells #[.string ⟨#[]⟩, .int .i64 0] 23) hcy
            have iD := Is.new (Wl) 23 #[.string ⟨#[]⟩, .int .i64 0]
            have hDD : DA < (Wl).heap.size := hDl
            replace iA := iA.alloc (.cells #[.string ⟨#[]⟩, .int .i64 0] 23)
            have hDW : w.heap.size ≤ (Wl).heap.size := hB.size
            replace hB := hB.alloc hB.size (.cells #[.string ⟨#[]⟩, .int .i64 0] 23)
            replace hDl := iA.lt
            generalize (Wl).heap.size = DD at *
            refine wpAnyH_ready (by kernel_rfl) (by simp) (AllReadyH.cons (i := 9) (o := { dst := some 35, op := Op.call { callee := Callee.value (Operand.func 15), args := #[Operand.tmp 26, Operand.tmp 34], argTypes := #[23, 3] }, type := 32, pos := "law.go:128", after := #[{ on := 0, ground := Ground.data }, { on := 8, ground := Ground.data }, { on := 8, ground := Ground.chain }], guard := none }) (by kernel_rfl) ?_ AllReadyH.nil)
            refine arm_call (by kernel_rfl) (fun wy => by kernel_rfl) ((MK.out _).mono ?_)
            rintro e Wk ⟨rfl, hb⟩
            replace iA := iA.below hb iA.lt
            replace iD := iD.below hb iD.lt
            replace hcy := (hb.cell (p := ⟨b, off + k, none⟩) (Nat.lt_of_lt_of_le hbw hB.size)).trans hcy
            replace hDl := Nat.lt_of_lt_of_le hDl hb.size
            replace hB := hB.trans (hb.mono hB.size)
            clear hb
            refine ⟨_, rfl, ⟨iA, hcy⟩, ?_⟩
            simp only [Act.put, List.setIfInBounds_toArray, List.set_cons_succ, List.set_cons_zero]
            refine wpAnyH_pure (i := 10) (o := { dst := some 25, op := Op.move (Operand.tmp 35), type := 32, pos := "law.go:128", after := #[{ on := 9, ground := Ground.data }], guard := none }) (v := .tuple #[.string X, .agg #[.string C, .int .i64 (t + p)], .int .i64 0]) (by kernel_rfl) (by kernel_rfl) (by kernel_rfl) (by kernel_rfl) (fun _ _ _ h => h) (by kernel_rfl) (fun wy hSw => by kernel_rfl) ⟨iA, hcy⟩ ?_
            simp only [Act.put, List.setIfInBounds_toArray, List.set_cons_succ, List.set_cons_zero]
            refine wpAnyH_pure (i := 11) (o := { dst := some 36, op := Op.extract (Operand.tmp 25) 0, type := 9, pos := "law.go:128", after := #[{ on := 10, ground := Ground.data }], guard := none }) (v := .string X) (by kernel_rfl) (by kernel_rfl) (by kernel_rfl) (by kernel_rfl) (fun _ _ _ h => h) (by kernel_rfl) (fun wy hSw => by kernel_rfl) ⟨iA, hcy⟩ ?_
            simp only [Act.put, List.setIfInBounds_toArray, List.set_cons_succ, List.set_cons_zero]
            refine wpAnyH_pure (i := 12) (o := { dst := some 37, op := Op.extract (Operand.tmp 25) 1, type := 23, pos := "law.go:128", after := #[{ on := 10, ground := Ground.data }, { on := 15, ground := Ground.gcOnly Departure.lateStores }], guard := none }) (v := .agg #[.string C, .int .i64 (t + p)]) (by kernel_rfl) (by kernel_rfl) (by kernel_rfl) (by kernel_rfl) (fun _ _ _ h => h) (by kernel_rfl) (fun wy hSw => by kernel_rfl) ⟨iA, hcy⟩ ?_
            simp only [Act.put, List.setIfInBounds_toArray, List.set_cons_succ, List.set_cons_zero]
            refine wpAnyH_pure (i := 13) (o := { dst := some 38, op := Op.extract (Operand.tmp 25) 2, type := 31, pos := "law.go:128", after := #[{ on := 10, ground := Ground.data }, { on := 16, ground := Ground.gcOnly Departure.lateStores }], guard := none }) (v := .int .i64 0) (by kernel_rfl) (by kernel_rfl) (by kernel_rfl) (by kernel_rfl) (fun _ _ _ h => h) (by kernel_rfl) (fun wy hSw => by kernel_rfl) ⟨iA, hcy⟩ ?_
            simp only [Act.put, List.setIfInBounds_toArray, List.set_cons_succ, List.set_cons_zero]
            refine wpAnyH_pure (i := 15) (o := { dst := some 9, op := Op.assign (Operand.tmp 36), type := 9, pos := "law.go:128", after := #[{ on := 11, ground := Ground.data }, { on := 9, ground := Ground.chain }, { on := 0, ground := Ground.phase }, { on := 1, ground := Ground.phase }, { on := 2, ground := Ground.phase }, { on := 3, ground := Ground.phase }, { on := 4, ground := Ground.phase }, { on := 5, ground := Ground.phase }, { on := 6, ground := Ground.phase }, { on := 7, ground := Ground.phase }, { on := 8, ground := Ground.phase }, { on := 9, ground := Ground.phase }, { on := 10, ground := Ground.phase }, { on := 11, ground := Ground.phase }, { on := 12, ground := Ground.textOnly Departure.lateStores }, { on := 13, ground := Ground.textOnly Departure.lateStores }, { on := 14, ground := Ground.phase }], guard := none }) (v := .string X) (by kernel_rfl) (by kernel_rfl) (by kernel_rfl) (by kernel_rfl) (fun _ _ _ h => h) (by kernel_rfl) (fun wy hSw => by kernel_rfl) ⟨iA, hcy⟩ ?_
            simp only [Act.put, List.setIfInBounds_toArray, List.set_cons_succ, List.set_cons_zero]
            refine wpAnyH_ready (by kernel_rfl) (by simp) (AllReadyH.cons (i := 16) (o := { dst := none, op := Op.store 23 (Operand.tmp 10) (Operand.tmp 37), type := 0, pos := "law.go:128", after := #[{ on := 14, ground := Ground.data }, { on := 12, ground := Ground.data }, { on := 15, ground := Ground.chain }, { on := 0, ground := Ground.phase }, { on := 1, ground := Ground.phase }, { on := 2, ground := Ground.phase }, { on := 3, ground := Ground.phase }, { on := 4, ground := Ground.phase }, { on := 5, ground := Ground.phase }, { on := 6, ground := Ground.phase }, { on := 7, ground := Ground.phase }, { on := 8, ground := Ground.phase }, { on := 9, ground := Ground.phase }, { on := 10, ground := Ground.phase }, { on := 11, ground := Ground.phase }, { on := 12, ground := Ground.phase }, { on := 13, ground := Ground.textOnly Departure.lateStores }, { on := 14, ground := Ground.phase }, { on := 15, ground := Ground.phase }], guard := none }) (by kernel_rfl) ?_ AllReadyH.nil)
            have nAD : DA ≠ DD := Nat.ne_of_lt hDD
            refine arm_skip (by kernel_rfl) (run_store_rowO (ty := 23) (x := .tmp 10) (y := .tmp 37) (cs := #[.string C, .int .i64 (t + p)]) (by kernel_rfl) (by kernel_rfl) (by kernel_rfl) iD infoTape rfl (by kernel_rfl)) ⟨iA.rowFar nAD _, (cell_rowFar7 (by show b ≠ DD; omega) trivial).trans hcy⟩ ?_
            try simp only [Act.put]
            obtain ⟨WZ, hWZ⟩ : ∃ WZ, WZ = (Wk).setRow DD #[.string C, .int .i64 (t + p)] := ⟨_, rfl⟩
            have zA : Is WZ DA 23 #[.string C, .int .i64 t] := by rw [hWZ]; exact iA.rowFar nAD _
            have zD : Is WZ DD 23 #[.string C, .int .i64 (t + p)] := by rw [hWZ]; exact iD.row _
            have zB : Below w.heap.size w WZ := by rw [hWZ]; exact belowRow hB hDW _
            have zc : WZ.cell? ⟨b, off + k, none⟩ = some (.int .i64 y) := by rw [hWZ]; exact (cell_rowFar7 (by show b ≠ DD; omega) trivial).trans hcy
            rw [← hWZ]
            clear iA hcy hB hWZ iD
            have iA := zA
            have hcy := zc
            refine wpAnyH_pure (i := 17) (o := { dst := some 11, op := Op.assign (Operand.tmp 38), type := 31, pos := "law.go:128", after := #[{ on := 13, ground := Ground.data }, { on := 16, ground := Ground.chain }, { on := 0, ground := Ground.phase }, { on := 1, ground := Ground.phase }, { on := 2, ground := Ground.phase }, { on := 3, ground := Ground.phase }, { on := 4, ground := Ground.phase }, { on := 5, ground := Ground.phase }, { on := 6, ground := Ground.phase }, { on := 7, ground := Ground.phase }, { on := 8, ground := Ground.phase }, { on := 9, ground := Ground.phase }, { on := 10, ground := Ground.phase }, { on := 11, ground := Ground.phase }, { on := 12, ground := Ground.phase }, { on := 13, ground := Ground.phase }, { on := 14, ground := Ground.phase }, { on := 15, ground := Ground.phase }, { on := 16, ground := Ground.phase }], guard := none }) (v := .int .i64 0) (by kernel_rfl) (by kernel_rfl) (by kernel_rfl) (by kernel_rfl) (fun _ _ _ h => h) (by kernel_rfl) (fun wy hSw => by kernel_rfl) ⟨iA, hcy⟩ ?_
            simp only [Act.put, List.setIfInBounds_toArray, List.set_cons_succ, List.set_cons_zero]
            refine wpAnyH_done (by kernel_rfl) ?_ _
            have cA0 : WZ.cell? ⟨DA, 0, none⟩ = some (.string C) := zA.cell 0
            have cA1 : WZ.cell? ⟨DA, 1, none⟩ = some (.int .i64 t) := zA.cell 1
            have cD0 : WZ.cell? ⟨DD, 0, none⟩ = some (.string C) := zD.cell 0
            have cD1 : WZ.cell? ⟨DD, 1, none⟩ = some (.int .i64 (t + p)) := zD.cell 1
            clear iA hcy zc
            go_wp2_with fail
            refine (MR.out _).mono ?_
            rintro e WY ⟨rfl, hb⟩
            have yA := zA.below hb zA.lt
            have yD := zD.below hb zD.lt
            have hBY := zB.trans (hb.mono zB.size)
            clear cA0 cA1 cD0 cD1 zA zD zB hb
            have cA0 : WY.cell? ⟨DA, 0, none⟩ = some (.string C) := yA.cell 0
            have cA1 : WY.cell? ⟨DA, 1, none⟩ = some (.int .i64 t) := yA.cell 1
            have fA0 := yA.frozen 0
            have fA1 := yA.frozen 1
            have cD0 : WY.cell? ⟨DD, 0, none⟩ = some (.string C) := yD.cell 0
            have cD1 : WY.cell? ⟨DD, 1, none⟩ = some (.int .i64 (t + p)) := yD.cell 1
            have yA2 := yA.pair (.string C) (.int .i64 (t + p))
            have hBY2 := below_pair hBY hDA (.string C) (.int .i64 (t + p))
            have hAX := HAX.out
            go_wp2
            go_roundw
            case rel => exact ⟨k + 1, t + p, hk1, hk2, by go_num, rfl, HT2.out, HT3.out, yA2, hBY2⟩
            case measure => simp [intOf]; omega
        · refine arm_value (by kernel_rfl) (run_alloc8 _ (by kernel_rfl)) ⟨iA.alloc _, Lib.cell?_alloc_some _ hcy⟩ ?_
          simp only [Act.put, List.setIfInBounds_toArray, List.set_cons_succ, List.set_cons_zero]
          replace hcy := Lib.cell?_alloc_some (.cells #[.string ⟨#[]⟩, .int .i64 0] 23) hcy
          have iD := Is.new (Wl) 23 #[.string ⟨#[]⟩, .int .i64 0]
          have hDD : DA < (Wl).heap.size := hDl
          replace iA := iA.alloc (.cells #[.string ⟨#[]⟩, .int .i64 0] 23)
          have hDW : w.heap.size ≤ (Wl).heap.size := hB.size
          replace hB := hB.alloc hB.size (.cells #[.string ⟨#[]⟩, .int .i64 0] 23)
          replace hDl := iA.lt
          generalize (Wl).heap.size = DD at *
          refine wpAnyH_ready (by kernel_rfl) (by simp) (AllReadyH.cons (i := 8) (o := { dst := some 34, op := Op.call { callee := Callee.value (Operand.func 14), args := #[Operand.tmp 30, Operand.tmp 33], argTypes := #[3, 3] }, type := 3, pos := "law.go:128", after := #[{ on := 4, ground := Ground.data }, { on := 7, ground := Ground.data }, { on := 6, ground := Ground.chain }], guard := none }) (by kernel_rfl) ?_ AllReadyH.nil)
          refine arm_call (by kernel_rfl) (fun wy => by kernel_rfl) ((MP.out _).mono ?_)
          rintro e w' ⟨rfl, rfl⟩
          refine ⟨_, rfl, ⟨iA, hcy⟩, ?_⟩
          simp only [Act.put, List.setIfInBounds_toArray, List.set_cons_succ, List.set_cons_zero]
          refine wpAnyH_ready (by kernel_rfl) (by simp) (AllReadyH.cons (i := 9) (o := { dst := some 35, op := Op.call { callee := Callee.value (Operand.func 15), args := #[Operand.tmp 26, Operand.tmp 34], argTypes := #[23, 3] }, type := 32, pos := "law.go:128", after := #[{ on := 0, ground := Ground.data }, { on := 8, ground := Ground.data }, { on := 8, ground := Ground.chain }], guard := none }) (by kernel_rfl) ?_ AllReadyH.nil)
          refine arm_call (by kernel_rfl) (fun wy => by kernel_rfl) ((MK.out _).mono ?_)
          rintro e Wk ⟨rfl, hb⟩
          replace iA := iA.below hb iA.lt
          replace iD := iD.below hb iD.lt
          replace hcy := (hb.cell (p := ⟨b, off + k, none⟩) (Nat.lt_of_lt_of_le hbw hB.size)).trans hcy
          replace hDl := Nat.lt_of_lt_of_le hDl hb.size
          replace hB := hB.trans (hb.mono hB.size)
          clear hb
          refine ⟨_, rfl, ⟨iA, hcy⟩, ?_⟩
          simp only [Act.put, List.setIfInBounds_toArray, List.set_cons_succ, List.set_cons_zero]
          refine wpAnyH_pure (i := 10) (o := { dst := some 25, op := Op.move (Operand.tmp 35), type := 32, pos := "law.go:128", after := #[{ on := 9, ground := Ground.data }], guard := none }) (v := .tuple #[.string X, .agg #[.string C, .int .i64 (t + p)], .int .i64 0]) (by kernel_rfl) (by kernel_rfl) (by kernel_rfl) (by kernel_rfl) (fun _ _ _ h => h) (by kernel_rfl) (fun wy hSw => by kernel_rfl) ⟨iA, hcy⟩ ?_
          simp only [Act.put, List.setIfInBounds_toArray, List.set_cons_succ, List.set_cons_zero]
          refine wpAnyH_pure (i := 11) (o := { dst := some 36, op := Op.extract (Operand.tmp 25) 0, type := 9, pos := "law.go:128", after := #[{ on := 10, ground := Ground.data }], guard := none }) (v := .string X) (by kernel_rfl) (by kernel_rfl) (by kernel_rfl) (by kernel_rfl) (fun _ _ _ h => h) (by kernel_rfl) (fun wy hSw => by kernel_rfl) ⟨iA, hcy⟩ ?_
          simp only [Act.put, List.setIfInBounds_toArray, List.set_cons_succ, List.set_cons_zero]
          refine wpAnyH_pure (i := 12) (o := { dst := some 37, op := Op.extract (Operand.tmp 25) 1, type := 23, pos := "law.go:128", after := #[{ on := 10, ground := Ground.data }, { on := 15, ground := Ground.gcOnly Departure.lateStores }], guard := none }) (v := .agg #[.string C, .int .i64 (t + p)]) (by kernel_rfl) (by kernel_rfl) (by kernel_rfl) (by kernel_rfl) (fun _ _ _ h => h) (by kernel_rfl) (fun wy hSw => by kernel_rfl) ⟨iA, hcy⟩ ?_
          simp only [Act.put, List.setIfInBounds_toArray, List.set_cons_succ, List.set_cons_zero]
          refine wpAnyH_pure (i := 13) (o := { dst := some 38, op := Op.extract (Operand.tmp 25) 2, type := 31, pos := "law.go:128", after := #[{ on := 10, ground := Ground.data }, { on := 16, ground := Ground.gcOnly Departure.lateStores }], guard := none }) (v := .int .i64 0) (by kernel_rfl) (by kernel_rfl) (by kernel_rfl) (by kernel_rfl) (fun _ _ _ h => h) (by kernel_rfl) (fun wy hSw => by kernel_rfl) ⟨iA, hcy⟩ ?_
          simp only [Act.put, List.setIfInBounds_toArray, List.set_cons_succ, List.set_cons_zero]
          refine wpAnyH_pure (i := 15) (o := { dst := some 9, op := Op.assign (Operand.tmp 36), type := 9, pos := "law.go:128", after := #[{ on := 11, ground := Ground.data }, { on := 9, ground := Ground.chain }, { on := 0, ground := Ground.phase }, { on := 1, ground := Ground.phase }, { on := 2, ground := Ground.phase }, { on := 3, ground := Ground.phase }, { on := 4, ground := Ground.phase }, { on := 5, ground := Ground.phase }, { on := 6, ground := Ground.phase }, { on := 7, ground := Ground.phase }, { on := 8, ground := Ground.phase }, { on := 9, ground := Ground.phase }, { on := 10, ground := Ground.phase }, { on := 11, ground := Ground.phase }, { on := 12, ground := Ground.textOnly Departure.lateStores }, { on := 13, ground := Ground.textOnly Departure.lateStores }, { on := 14, ground := Ground.phase }], guard := none }) (v := .string X) (by kernel_rfl) (by kernel_rfl) (by kernel_rfl) (by kernel_rfl) (fun _ _ _ h => h) (by kernel_rfl) (fun wy hSw => by kernel_rfl) ⟨iA, hcy⟩ ?_
          simp only [Act.put, List.setIfInBounds_toArray, List.set_cons_succ, List.set_cons_zero]
          refine wpAnyH_ready (by kernel_rfl) (by simp) (AllReadyH.cons (i := 16) (o := { dst := none, op := Op.store 23 (Operand.tmp 10) (Operand.tmp 37), type := 0, pos := "law.go:128", after := #[{ on := 14, ground := Ground.data }, { on := 12, ground := Ground.data }, { on := 15, ground := Ground.chain }, { on := 0, ground := Ground.phase }, { on := 1, ground := Ground.phase }, { on := 2, ground := Ground.phase }, { on := 3, ground := Ground.phase }, { on := 4, ground := Ground.phase }, { on := 5, ground := Ground.phase }, { on := 6, ground := Ground.phase }, { on := 7, ground := Ground.phase }, { on := 8, ground := Ground.phase }, { on := 9, ground := Ground.phase }, { on := 10, ground := Ground.phase }, { on := 11, ground := Ground.phase }, { on := 12, ground := Ground.phase }, { on := 13, ground := Ground.textOnly Departure.lateStores }, { on := 14, ground := Ground.phase }, { on := 15, ground := Ground.phase }], guard := none }) (by kernel_rfl) ?_ AllReadyH.nil)
          have nAD : DA ≠ DD := Nat.ne_of_lt hDD
          refine arm_skip (by kernel_rfl) (run_store_rowO (ty := 23) (x := .tmp 10) (y := .tmp 37) (cs := #[.string C, .int .i64 (t + p)]) (by kernel_rfl) (by kernel_rfl) (by kernel_rfl) iD infoTape rfl (by kernel_rfl)) ⟨iA.rowFar nAD _, (cell_rowFar7 (by show b ≠ DD; omega) trivial).trans hcy⟩ ?_
          try simp only [Act.put]
          obtain ⟨WZ, hWZ⟩ : ∃ WZ, WZ = (Wk).setRow DD #[.string C, .int .i64 (t + p)] := ⟨_, rfl⟩
          have zA : Is WZ DA 23 #[.string C, .int .i64 t] := by rw [hWZ]; exact iA.rowFar nAD _
          have zD : Is WZ DD 23 #[.string C, .int .i64 (t + p)] := by rw [hWZ]; exact iD.row _
          have zB : Below w.heap.size w WZ := by rw [hWZ]; exact belowRow hB hDW _
          have zc : WZ.cell? ⟨b, off + k, none⟩ = some (.int .i64 y) := by rw [hWZ]; exact (cell_rowFar7 (by show b ≠ DD; omega) trivial).trans hcy
          rw [← hWZ]
          clear iA hcy hB hWZ iD
          have iA := zA
          have hcy := zc
          refine wpAnyH_pure (i := 17) (o := { dst := some 11, op := Op.assign (Operand.tmp 38), type := 31, pos := "law.go:128", after := #[{ on := 13, ground := Ground.data }, { on := 16, ground := Ground.chain }, { on := 0, ground := Ground.phase }, { on := 1, ground := Ground.phase }, { on := 2, ground := Ground.phase }, { on := 3, ground := Ground.phase }, { on := 4, ground := Ground.phase }, { on := 5, ground := Ground.phase }, { on := 6, ground := Ground.phase }, { on := 7, ground := Ground.phase }, { on := 8, ground := Ground.phase }, { on := 9, ground := Ground.phase }, { on := 10, ground := Ground.phase }, { on := 11, ground := Ground.phase }, { on := 12, ground := Ground.phase }, { on := 13, ground := Ground.phase }, { on := 14, ground := Ground.phase }, { on := 15, ground := Ground.phase }, { on := 16, ground := Ground.phase }], guard := none }) (v := .int .i64 0) (by kernel_rfl) (by kernel_rfl) (by kernel_rfl) (by kernel_rfl) (fun _ _ _ h => h) (by kernel_rfl) (fun wy hSw => by kernel_rfl) ⟨iA, hcy⟩ ?_
          simp only [Act.put, List.setIfInBounds_toArray, List.set_cons_succ, List.set_cons_zero]
          refine wpAnyH_done (by kernel_rfl) ?_ _
          have cA0 : WZ.cell? ⟨DA, 0, none⟩ = some (.string C) := zA.cell 0
          have cA1 : WZ.cell? ⟨DA, 1, none⟩ = some (.int .i64 t) := zA.cell 1
          have cD0 : WZ.cell? ⟨DD, 0, none⟩ = some (.string C) := zD.cell 0
          have cD1 : WZ.cell? ⟨DD, 1, none⟩ = some (.int .i64 (t + p)) := zD.cell 1
          clear iA hcy zc
          go_wp2_with fail
          refine (MR.out _).mono ?_
          rintro e WY ⟨rfl, hb⟩
          have yA := zA.below hb zA.lt
          have yD := zD.below hb zD.lt
          have hBY := zB.trans (hb.mono zB.size)
          clear cA0 cA1 cD0 cD1 zA zD zB hb
          have cA0 : WY.cell? ⟨DA, 0, none⟩ = some (.string C) := yA.cell 0
          have cA1 : WY.cell? ⟨DA, 1, none⟩ = some (.int .i64 t) := yA.cell 1
          have fA0 := yA.frozen 0
          have fA1 := yA.frozen 1
          have cD0 : WY.cell? ⟨DD, 0, none⟩ = some (.string C) := yD.cell 0
          have cD1 : WY.cell? ⟨DD, 1, none⟩ = some (.int .i64 (t + p)) := yD.cell 1
          have yA2 := yA.pair (.string C) (.int .i64 (t + p))
          have hBY2 := below_pair hBY hDA (.string C) (.int .i64 (t + p))
          have hAX := HAX.out
          go_wp2
          go_roundw
          case rel => exact ⟨k + 1, t + p, hk1, hk2, by go_num, rfl, HT2.out, HT3.out, yA2, hBY2⟩
          case measure => simp [intOf]; omega
      · refine arm_value (by kernel_rfl) (run_alloc8 _ (by kernel_rfl)) ⟨iA.alloc _, Lib.cell?_alloc_some _ hcy⟩ ?_
        simp only [Act.put, List.setIfInBounds_toArray, List.set_cons_succ, List.set_cons_zero]
        replace hcy := Lib.cell?_alloc_some (.cells #[.string ⟨#[]⟩, .int .i64 0] 23) hcy
        have iD := Is.new (Wv) 23 #[.string ⟨#[]⟩, .int .i64 0]
        have hDD : DA < (Wv).heap.size := hDl
        replace iA := iA.alloc (.cells #[.string ⟨#[]⟩, .int .i64 0] 23)
        have hDW : w.heap.size ≤ (Wv).heap.size := hB.size
        replace hB := hB.alloc hB.size (.cells #[.string ⟨#[]⟩, .int .i64 0] 23)
        replace hDl := iA.lt
        generalize (Wv).heap.size = DD at *
        refine wpAnyH_ready (by kernel_rfl) (by simp) (AllReadyH.cons (i := 6) (o := { dst := some 32, op := Op.call { callee := Callee.value (Operand.func 12), args := #[Operand.tmp 31], argTypes := #[23] }, type := 3, pos := "law.go:128", after := #[{ on := 5, ground := Ground.data }], guard := none }) (by kernel_rfl) ?_ AllReadyH.nil)
        refine arm_call (by kernel_rfl) (fun wy => by kernel_rfl) ((ML.out _).mono ?_)
        rintro e Wl ⟨rfl, hb⟩
        replace iA := iA.below hb iA.lt
        replace iD := iD.below hb iD.lt
        replace hcy := (hb.cell (p := ⟨b, off + k, none⟩) (Nat.lt_of_lt_of_le hbw hB.size)).trans hcy
        replace hDl := Nat.lt_of_lt_of_le hDl hb.size
        replace hB := hB.trans (hb.mono hB.size)
        clear hb
        refine ⟨_, rfl, ⟨iA, hcy⟩, ?_⟩
        simp only [Act.put, List.setIfInBounds_toArray, List.set_cons_succ, List.set_cons_zero]
        refine wpAnyH_pure (i := 7) (o := { dst := some 33, op := Op.binOp BinOp.add 3 (Operand.tmp 32) (Operand.const (Value.int IntKind.i64 1)) 3, type := 3, pos := "law.go:128", after := #[{ on := 6, ground := Ground.data }], guard := none }) (v := .int .i64 (lf + 1)) (by kernel_rfl) (by kernel_rfl) (by kernel_rfl) (by kernel_rfl) (fun _ _ _ h => h) (by kernel_rfl) (fun wy hSw => by go_simp) ⟨iA, hcy⟩ ?_
        simp only [Act.put, List.setIfInBounds_toArray, List.set_cons_succ, List.set_cons_zero]
        refine wpAnyH_ready (by kernel_rfl) (by simp) (AllReadyH.cons (i := 8) (o := { dst := some 34, op := Op.call { callee := Callee.value (Operand.func 14), args := #[Operand.tmp 30, Operand.tmp 33], argTypes := #[3, 3] }, type := 3, pos := "law.go:128", after := #[{ on := 4, ground := Ground.data }, { on := 7, ground := Ground.data }, { on := 6, ground := Ground.chain }], guard := none }) (by kernel_rfl) ?_ AllReadyH.nil)
        refine arm_call (by kernel_rfl) (fun wy => by kernel_rfl) ((MP.out _).mono ?_)
        rintro e w' ⟨rfl, rfl⟩
        refine ⟨_, rfl, ⟨iA, hcy⟩, ?_⟩
        simp only [Act.put, List.setIfInBounds_toArray, List.set_cons_succ, List.set_cons_zero]
        refine wpAnyH_ready (by kernel_rfl) (by simp) (AllReadyH.cons (i := 9) (o := { dst := some 35, op := Op.call { callee := Callee.value (Operand.func 15), args := #[Operand.tmp 26, Operand.tmp 34], argTypes := #[23, 3] }, type := 32, pos := "law.go:128", after := #[{ on := 0, ground := Ground.data }, { on := 8, ground := Ground.data }, { on := 8, ground := Ground.chain }], guard := none }) (by kernel_rfl) ?_ AllReadyH.nil)
        refine arm_call (by kernel_rfl) (fun wy => by kernel_rfl) ((MK.out _).mono ?_)
        rintro e Wk ⟨rfl, hb⟩
        replace iA := iA.below hb iA.lt
        replace iD := iD.below hb iD.lt
        replace hcy := (hb.cell (p := ⟨b, off + k, none⟩) (Nat.lt_of_lt_of_le hbw hB.size)).trans hcy
        replace hDl := Nat.lt_of_lt_of_le hDl hb.size
        replace hB := hB.trans (hb.mono hB.size)
        clear hb
        refine ⟨_, rfl, ⟨iA, hcy⟩, ?_⟩
        simp only [Act.put, List.setIfInBounds_toArray, List.set_cons_succ, List.set_cons_zero]
        refine wpAnyH_pure (i := 10) (o := { dst := some 25, op := Op.move (Operand.tmp 35), type := 32, pos := "law.go:128", after := #[{ on := 9, ground := Ground.data }], guard := none }) (v := .tuple #[.string X, .agg #[.string C, .int .i64 (t + p)], .int .i64 0]) (by kernel_rfl) (by kernel_rfl) (by kernel_rfl) (by kernel_rfl) (fun _ _ _ h => h) (by kernel_rfl) (fun wy hSw => by kernel_rfl) ⟨iA, hcy⟩ ?_
        simp only [Act.put, List.setIfInBounds_toArray, List.set_cons_succ, List.set_cons_zero]
        refine wpAnyH_pure (i := 11) (o := { dst := some 36, op := Op.extract (Operand.tmp 25) 0, type := 9, pos := "law.go:128", after := #[{ on := 10, ground := Ground.data }], guard := none }) (v := .string X) (by kernel_rfl) (by kernel_rfl) (by kernel_rfl) (by kernel_rfl) (fun _ _ _ h => h) (by kernel_rfl) (fun wy hSw => by kernel_rfl) ⟨iA, hcy⟩ ?_
        simp only [Act.put, List.setIfInBounds_toArray, List.set_cons_succ, List.set_cons_zero]
        refine wpAnyH_pure (i := 12) (o := { dst := some 37, op := Op.extract (Operand.tmp 25) 1, type := 23, pos := "law.go:128", after := #[{ on := 10, ground := Ground.data }, { on := 15, ground := Ground.gcOnly Departure.lateStores }], guard := none }) (v := .agg #[.string C, .int .i64 (t + p)]) (by kernel_rfl) (by kernel_rfl) (by kernel_rfl) (by kernel_rfl) (fun _ _ _ h => h) (by kernel_rfl) (fun wy hSw => by kernel_rfl) ⟨iA, hcy⟩ ?_
        simp only [Act.put, List.setIfInBounds_toArray, List.set_cons_succ, List.set_cons_zero]
        refine wpAnyH_pure (i := 13) (o := { dst := some 38, op := Op.extract (Operand.tmp 25) 2, type := 31, pos := "law.go:128", after := #[{ on := 10, ground := Ground.data }, { on := 16, ground := Ground.gcOnly Departure.lateStores }], guard := none }) (v := .int .i64 0) (by kernel_rfl) (by kernel_rfl) (by kernel_rfl) (by kernel_rfl) (fun _ _ _ h => h) (by kernel_rfl) (fun wy hSw => by kernel_rfl) ⟨iA, hcy⟩ ?_
        simp only [Act.put, List.setIfInBounds_toArray, List.set_cons_succ, List.set_cons_zero]
        refine wpAnyH_pure (i := 15) (o := { dst := some 9, op := Op.assign (Operand.tmp 36), type := 9, pos := "law.go:128", after := #[{ on := 11, ground := Ground.data }, { on := 9, ground := Ground.chain }, { on := 0, ground := Ground.phase }, { on := 1, ground := Ground.phase }, { on := 2, ground := Ground.phase }, { on := 3, ground := Ground.phase }, { on := 4, ground := Ground.phase }, { on := 5, ground := Ground.phase }, { on := 6, ground := Ground.phase }, { on := 7, ground := Ground.phase }, { on := 8, ground := Ground.phase }, { on := 9, ground := Ground.phase }, { on := 10, ground := Ground.phase }, { on := 11, ground := Ground.phase }, { on := 12, ground := Ground.textOnly Departure.lateStores }, { on := 13, ground := Ground.textOnly Departure.lateStores }, { on := 14, ground := Ground.phase }], guard := none }) (v := .string X) (by kernel_rfl) (by kernel_rfl) (by kernel_rfl) (by kernel_rfl) (fun _ _ _ h => h) (by kernel_rfl) (fun wy hSw => by kernel_rfl) ⟨iA, hcy⟩ ?_
        simp only [Act.put, List.setIfInBounds_toArray, List.set_cons_succ, List.set_cons_zero]
        refine wpAnyH_ready (by kernel_rfl) (by simp) (AllReadyH.cons (i := 16) (o := { dst := none, op := Op.store 23 (Operand.tmp 10) (Operand.tmp 37), type := 0, pos := "law.go:128", after := #[{ on := 14, ground := Ground.data }, { on := 12, ground := Ground.data }, { on := 15, ground := Ground.chain }, { on := 0, ground := Ground.phase }, { on := 1, ground := Ground.phase }, { on := 2, ground := Ground.phase }, { on := 3, ground := Ground.phase }, { on := 4, ground := Ground.phase }, { on := 5, ground := Ground.phase }, { on := 6, ground := Ground.phase }, { on := 7, ground := Ground.phase }, { on := 8, ground := Ground.phase }, { on := 9, ground := Ground.phase }, { on := 10, ground := Ground.phase }, { on := 11, ground := Ground.phase }, { on := 12, ground := Ground.phase }, { on := 13, ground := Ground.textOnly Departure.lateStores }, { on := 14, ground := Ground.phase }, { on := 15, ground := Ground.phase }], guard := none }) (by kernel_rfl) ?_ AllReadyH.nil)
        have nAD : DA ≠ DD := Nat.ne_of_lt hDD
        refine arm_skip (by kernel_rfl) (run_store_rowO (ty := 23) (x := .tmp 10) (y := .tmp 37) (cs := #[.string C, .int .i64 (t + p)]) (by kernel_rfl) (by kernel_rfl) (by kernel_rfl) iD infoTape rfl (by kernel_rfl)) ⟨iA.rowFar nAD _, (cell_rowFar7 (by show b ≠ DD; omega) trivial).trans hcy⟩ ?_
        try simp only [Act.put]
        obtain ⟨WZ, hWZ⟩ : ∃ WZ, WZ = (Wk).setRow DD #[.string C, .int .i64 (t + p)] := ⟨_, rfl⟩
        have zA : Is WZ DA 23 #[.string C, .int .i64 t] := by rw [hWZ]; exact iA.rowFar nAD _
        have zD : Is WZ DD 23 #[.string C, .int .i64 (t + p)] := by rw [hWZ]; exact iD.row _
        have zB : Below w.heap.size w WZ := by rw [hWZ]; exact belowRow hB hDW _
        have zc : WZ.cell? ⟨b, off + k, none⟩ = some (.int .i64 y) := by rw [hWZ]; exact (cell_rowFar7 (by show b ≠ DD; omega) trivial).trans hcy
        rw [← hWZ]
        clear iA hcy hB hWZ iD
        have iA := zA
        have hcy := zc
        refine wpAnyH_pure (i := 17) (o := { dst := some 11, op := Op.assign (Operand.tmp 38), type := 31, pos := "law.go:128", after := #[{ on := 13, ground := Ground.data }, { on := 16, ground := Ground.chain }, { on := 0, ground := Ground.phase }, { on := 1, ground := Ground.phase }, { on := 2, ground := Ground.phase }, { on := 3, ground := Ground.phase }, { on := 4, ground := Ground.phase }, { on := 5, ground := Ground.phase }, { on := 6, ground := Ground.phase }, { on := 7, ground := Ground.phase }, { on := 8, ground := Ground.phase }, { on := 9, ground := Ground.phase }, { on := 10, ground := Ground.phase }, { on := 11, ground := Ground.phase }, { on := 12, ground := Ground.phase }, { on := 13, ground := Ground.phase }, { on := 14, ground := Ground.phase }, { on := 15, ground := Ground.phase }, { on := 16, ground := Ground.phase }], guard := none }) (v := .int .i64 0) (by kernel_rfl) (by kernel_rfl) (by kernel_rfl) (by kernel_rfl) (fun _ _ _ h => h) (by kernel_rfl) (fun wy hSw => by kernel_rfl) ⟨iA, hcy⟩ ?_
        simp only [Act.put, List.setIfInBounds_toArray, List.set_cons_succ, List.set_cons_zero]
        refine wpAnyH_done (by kernel_rfl) ?_ _
        have cA0 : WZ.cell? ⟨DA, 0, none⟩ = some (.string C) := zA.cell 0
        have cA1 : WZ.cell? ⟨DA, 1, none⟩ = some (.int .i64 t) := zA.cell 1
        have cD0 : WZ.cell? ⟨DD, 0, none⟩ = some (.string C) := zD.cell 0
        have cD1 : WZ.cell? ⟨DD, 1, none⟩ = some (.int .i64 (t + p)) := zD.cell 1
        clear iA hcy zc
        go_wp2_with fail
        refine (MR.out _).mono ?_
        rintro e WY ⟨rfl, hb⟩
        have yA := zA.below hb zA.lt
        have yD := zD.below hb zD.lt
        have hBY := zB.trans (hb.mono zB.size)
        clear cA0 cA1 cD0 cD1 zA zD zB hb
        have cA0 : WY.cell? ⟨DA, 0, none⟩ = some (.string C) := yA.cell 0
        have cA1 : WY.cell? ⟨DA, 1, none⟩ = some (.int .i64 t) := yA.cell 1
        have fA0 := yA.frozen 0
        have fA1 := yA.frozen 1
        have cD0 : WY.cell? ⟨DD, 0, none⟩ = some (.string C) := yD.cell 0
        have cD1 : WY.cell? ⟨DD, 1, none⟩ = some (.int .i64 (t + p)) := yD.cell 1
        have yA2 := yA.pair (.string C) (.int .i64 (t + p))
        have hBY2 := below_pair hBY hDA (.string C) (.int .i64 (t + p))
        have hAX := HAX.out
        go_wp2
        go_roundw
        case rel => exact ⟨k + 1, t + p, hk1, hk2, by go_num, rfl, HT2.out, HT3.out, yA2, hBY2⟩
        case measure => simp [intOf]; omega
    · have l12 : ¬ ((k : Int) < (L.length : Int) ∧ (k : Int) < 10) := by omega
      have hsl : ∀ wx : World, (Instr.slice 9 (.string C) none (some (.int .i64 t)) none).run Try.prog wx = .ok (.string (C.extract 0 t.toNat)) wx := fun wx =>
        run_slice_string_h (P := Try.prog) (w := wx) (t := 9) (s := C) Try.underlying9 .i64 t ht0 ht1
      have w4i := IntWalk.i64_in ((C.size : Int) - t) (by omega)
      have cA0 : wr.cell? ⟨DA, 0, none⟩ = some (.string C) := iA.cell 0
      have cA1 : wr.cell? ⟨DA, 1, none⟩ = some (.int .i64 t) := iA.cell 1
      have hDl := iA.lt
      have hd : (¬ k < L.length) ∨ (k < L.length ∧ ¬ k < 10) := by omega
      rw [hlf] at ML
      clear hlt l12 hlf hr HC HY hsz
      rcases hd with l1 | ⟨l1, l2⟩
      · have l1' : ¬ (k : Int) < (L.length : Int) := by omega
        go_wp2
        go_region_held3 (fun w' => w'.cell? ⟨DA, 0, none⟩ = some (.string C) ∧ w'.cell? ⟨DA, 1, none⟩ = some (.int .i64 t)) (go_keep)
          (first | (go_at_call 12; refine (ML.out _).mono ?_; rintro e w5 ⟨rfl, hb5⟩; have c50 : w5.cell? ⟨DA, 0, none⟩ = some (.string C) := (hb5.cell (p := ⟨DA, 0, none⟩) hDl).trans (by go_keep); have c51 : w5.cell? ⟨DA, 1, none⟩ = some (.int .i64 t) := (hb5.cell (p := ⟨DA, 1, none⟩) hDl).trans (by go_keep)))
        all_goals
          go_wp2
          go_ret
          exact ⟨rfl, first_below7 hB hb5⟩
      · have l1' : (k : Int) < (L.length : Int) := by omega
        have l2' : ¬ (k : Int) < 10 := by omega
        go_wp2
        go_region_held3 (fun w' => w'.cell? ⟨DA, 0, none⟩ = some (.string C) ∧ w'.cell? ⟨DA, 1, none⟩ = some (.int .i64 t)) (go_keep)
          (first | (go_at_call 12; refine (ML.out _).mono ?_; rintro e w5 ⟨rfl, hb5⟩; have c50 : w5.cell? ⟨DA, 0, none⟩ = some (.string C) := (hb5.cell (p := ⟨DA, 0, none⟩) hDl).trans (by go_keep); have c51 : w5.cell? ⟨DA, 1, none⟩ = some (.int .i64 t) := (hb5.cell (p := ⟨DA, 1, none⟩) hDl).trans (by go_keep)))
        all_goals
          go_wp2
          go_ret
          exact ⟨rfl, first_below7 hB hb5⟩
end Go.Proofs.Ytchgkiallbpjkaa
