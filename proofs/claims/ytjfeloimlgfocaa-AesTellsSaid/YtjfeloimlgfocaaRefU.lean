/-
  Contracts of the document's own answer for layer 3: Subs and Backs tell the tables. No conditions.
-/
import Derived.Test.YtjfeloimlgfocaaRefT
namespace Go.Proofs.Ytjfeloimlgfocaa
open Go.RowKit Go.Shelf

set_option maxRecDepth 100000 in
set_option maxHeartbeats 2000000 in
theorem rsubs_any (w : World) :
    Calls Try.prog 24 #[] w fun e w' => e = .returned (.agg (nA TS)) ∧ Below w.heap.size w w' := by
  obtain ⟨i6, hi6, hz6⟩ := info256
  obtain ⟨i7, hi7, hz7⟩ := info255
  have be0 := fun w => rbent_any 0 w (by decide)
  rw [show bentN 0 = TS.getD 0 0 by kernel_rfl] at be0
  have BE0 := Lib.hid be0
  have HPZ := Lib.hid (show PW.length = (zers 255).length by rw [pw_len, zers_len])
  clear be0
  go_enter Try.func24, Try.ntmps24
  go_wp2_with (first
    | (refine wpList_alloc_nA rfl 63 rfl (zers 256) hi6 hz6 ?_)
    | (refine wpList_alloc_nA rfl 79 rfl (zers 255) hi7 hz7 ?_))
  have iR : Is ((w.alloc (.cells (nA (zers 256)) 63)).alloc (.cells (nA (zers 255)) 79)) w.heap.size 63 (nA (zers 256)) := (Is.new w _ _).alloc _
  have iP : Is ((w.alloc (.cells (nA (zers 256)) 63)).alloc (.cells (nA (zers 255)) 79)) (w.heap.size + 1) 79 (nA (zers 255)) := heap_alloc2_new w _ _
  have hB0 : Below w.heap.size w ((w.alloc (.cells (nA (zers 256)) 63)).alloc (.cells (nA (zers 255)) 79)) := ((Below.refl _ _).alloc (Nat.le_refl _) _).alloc (by simp) _
  generalize ((w.alloc (.cells (nA (zers 256)) 63)).alloc (.cells (nA (zers 255)) 79)) = W0 at *
  obtain ⟨Br, hBr⟩ : ∃ Br, Br = w.heap.size := ⟨_, rfl⟩
  obtain ⟨Bp, hBp⟩ : ∃ Bp, Bp = w.heap.size + 1 := ⟨_, rfl⟩
  rw [← hBp, ← hBr]
  rw [← hBr] at iR
  rw [← hBp] at iP
  have q1 : w.heap.size ≤ Bp := by omega
  have q2 : w.heap.size ≤ Br := by omega
  have q3 : Br ≠ Bp := by omega
  clear hBr hBp
  go_loopw [2, 3] (fun x i wr => ∃ k : Nat, k ≤ 255 ∧ i = .int .i64 (k : Int) ∧ x = .int .u8 ((PW.getD (k % 255) 0 : Nat) : Int) ∧ Is wr Bp 79 (nA (thru PW (zers 255) k)) ∧ Is wr Br 63 (nA (zers 256)) ∧ Below w.heap.size w wr)
    (fun _ i _ => 255 - (intOf i).toNat)
  case atStart => exact ⟨0, by omega, rfl, rfl, by rw [thru_zero]; exact iP, iR, hB0⟩
  case round =>
    clear iP iR hB0
    obtain ⟨k, hk, rfl, rfl, iP, iR, hB⟩ := hrel
    by_cases hlt : k < 255
    · have hi1 : (k : Int) < 255 := by omega
      have hi0 : (0 : Int) ≤ (k : Int) := by omega
      rw [show k % 255 = k by omega]
      have hst := thru_set HPZ.out (n := k) (by rw [zers_len]; exact hlt)
      have hs2 := nA_set (thru PW (zers 255) k) k (PW.getD k 0)
      rw [hst] at hs2
      have HST := Lib.hid hs2
      have mu := fun w => rmul_any 3 (PW.getD k 0) w (by decide) (pw_lt k)
      rw [← pw_next hlt] at mu
      have cP : (wr.cell? ⟨Bp, k, none⟩).isSome = true := by rw [iP.cell, nA_get _ _ (by rw [thru_len HPZ.out, zers_len]; exact hlt)]; rfl
      obtain ⟨vP, cP⟩ := Option.isSome_iff_exists.1 cP
      have fP := iP.frozen k
      clear hst hs2
      generalize PW.getD k 0 = x at *
      generalize hy : PW.getD ((k + 1) % 255) 0 = y at *
      have HY := Lib.hid hy
      have MU := Lib.hid mu
      clear mu hy
      go_wp2_with fail
      refine (MU.out _).mono ?_
      rintro e w1 ⟨rfl, rfl⟩
      have jP : Is (wr.setCell ⟨Bp, k, none⟩ (.int .u8 (x : Int))) Bp 79 (nA (thru PW (zers 255) (k + 1))) := by
        have := iP.set k (.int .u8 (x : Int))
        rw [HST.out] at this
        exact this
      have jR := iR.far (p := ⟨Bp, k, none⟩) q3 (.int .u8 (x : Int))
      have jB := hB.setCell (p := ⟨Bp, k, none⟩) q1 (.int .u8 (x : Int))
      clear cP fP iP iR hB
      go_wp2
      go_roundw
      case rel => exact ⟨k + 1, by omega, by go_num, by rw [HY.out], jP, jR, jB⟩
      case measure => simp [intOf]; omega
    · obtain rfl : k = 255 := by omega
      rw [thru_all HPZ.out (by rw [zers_len]; omega)] at iP
      have iO : Is (wr.alloc (.cells (nA (zers 256)) 63)) wr.heap.size 63 (nA (zers 256)) := Is.new wr _ _
      have iP0 := iP.alloc (.cells (nA (zers 256)) 63)
      have iR0 := iR.alloc (.cells (nA (zers 256)) 63)
      have hB0 := hB.alloc hB.size (.cells (nA (zers 256)) 63)
      have q4 : Br ≠ wr.heap.size := by have := iR.lt; omega
      have q5 : Bp ≠ wr.heap.size := by have := iP.lt; omega
      have q6 : w.heap.size ≤ wr.heap.size := hB.size
      obtain ⟨wo, hwo⟩ : ∃ wo, wo = wr.alloc (.cells (nA (zers 256)) 63) := ⟨_, rfl⟩
      rw [← hwo] at iO iP0 iR0 hB0
      have HWO := Lib.hid hwo
      clear hwo iP iR hB
      have hd : ¬ ((255 : Nat) : Int) < 255 := by omega
      go_wp2_with (first
        | (refine wpList_alloc_nA rfl 63 rfl (zers 256) hi6 hz6 ?_; rw [← HWO.out]))
      obtain ⟨Bo, hBo⟩ : ∃ Bo, Bo = wr.heap.size := ⟨_, rfl⟩
      rw [← hBo] at q4 q5 q6 iO
      rw [← hBo]
      clear hBo
      refine (BE0.out _).mono ?_
      rintro e w1 ⟨rfl, h1⟩
      have jO := iO.below h1 iO.lt
      have jP := iP0.below h1 iP0.lt
      have jR := iR0.below h1 iR0.lt
      have jB : Below w.heap.size w w1 := hB0.trans (h1.mono hB0.size)
      have cO : w1.cell? ⟨Bo, 0, none⟩ = some (.int .u8 0) := by rw [jO.cell, nA_get _ _ (by rw [zers_len]; decide)]; rfl
      have fO := jO.frozen 0
      have jO1 : Is (w1.setCell ⟨Bo, 0, none⟩ (.int .u8 ((TS.getD 0 0 : Nat) : Int))) Bo 63 (nA (setF TS (0 :: PW) 1)) := by
        have := jO.set 0 (.int .u8 ((TS.getD 0 0 : Nat) : Int))
        rw [nA_set, ← setF_zero TS (0 :: PW)] at this
        have e := setF_step TS (0 :: PW) (k := 0) (by simp)
        rw [← e]
        exact this
      have jP1 := jP.far (p := ⟨Bo, 0, none⟩) q5 (.int .u8 ((TS.getD 0 0 : Nat) : Int))
      have jR1 := jR.far (p := ⟨Bo, 0, none⟩) q4 (.int .u8 ((TS.getD 0 0 : Nat) : Int))
      have jB1 := jB.setCell (p := ⟨Bo, 0, none⟩) q6 (.int .u8 ((TS.getD 0 0 : Nat) : Int))
      generalize TS.getD 0 0 = t0 at *
      clear h1 iO iP0 iR0 hB0 jO jP jR jB
      go_wp2
      go_loopw [5] (fun i wq => ∃ k : Nat, k ≤ 255 ∧ i = .int .i64 (k : Int) ∧ Is wq Bo 63 (nA (setF TS (0 :: PW) (k + 1))) ∧ Is wq Bp 79 (nA PW) ∧ Is wq Br 63 (nA (zers 256)) ∧ Below w.heap.size w wq)
        (fun i _ => 255 - (intOf i).toNat)
      case atStart => exact ⟨0, by omega, rfl, jO1, jP1, jR1, jB1⟩
      case round =>
        clear jO1 jP1 jR1 jB1 cO fO
        obtain ⟨k, hk, rfl, iO, iP, iR, hB⟩ := hrel
        by_cases hlt : k < 255
        · have hi1 : (k : Int) < 255 := by omega
          have hi0 : (0 : Int) ≤ (k : Int) := by omega
          obtain ⟨E, hE⟩ : ∃ E : Nat, E = (255 - k) % 255 := ⟨_, rfl⟩
          have hE1 : (255 - (k : Int)).tmod 255 = (E : Int) := by rw [Int.tmod_eq_emod_of_nonneg (by omega)]; omega
          have hE2 : (255 - (k : Int)) % 255 = (E : Int) := by omega
          have hE3 : (E : Int) < 255 := by omega
          have hE4 : (0 : Int) ≤ (E : Int) := by omega
          have wk1 := IntWalk.i64_in (255 - (k : Int)) (by omega)
          have wk2 := IntWalk.i64_in (E : Int) (by omega)
          have HC1 := Lib.hid (nA_get PW k (by rw [pw_len]; exact hlt))
          have HC2 := Lib.hid (nA_get PW E (by rw [pw_len]; omega))
          have be := fun w => rbent_any (PW.getD E 0) w (pw_lt E)
          rw [hE, pw_bent hlt, ← hE] at be
          have hst := setF_step TS (0 :: PW) (k := k + 1) (by rw [List.length_cons, pw_len]; omega)
          rw [show (0 :: PW).getD (k + 1) 0 = PW.getD k 0 from rfl] at hst
          have hs2 := nA_set (setF TS (0 :: PW) (k + 1)) (PW.getD k 0) (TS.getD (PW.getD k 0) 0)
          rw [hst] at hs2
          have HST := Lib.hid hs2
          have hy256 := pw_lt k
          have hy1 : ((PW.getD k 0 : Nat) : Int) < 256 := by omega
          have hy0 : (0 : Int) ≤ ((PW.getD k 0 : Nat) : Int) := by omega
          clear hst hs2 hE
          change ∀ w, Calls _ _ _ w fun e w' => e = .returned (.int .u8 ((TS.getD (PW.getD k 0) 0 : Nat) : Int)) ∧ _ at be
          generalize PW.getD E 0 = z at *
          generalize PW.getD k 0 = y at *
          generalize TS.getD y 0 = x at *
          have BE := Lib.hid be
          clear be
          have iPD : Is wr.drew Bp 79 (nA PW) := iP
          have iOD : Is wr.drew Bo 63 (nA (setF TS (0 :: PW) (k + 1))) := iO
          have iRD : Is wr.drew Br 63 (nA (zers 256)) := iR
          have hBD : Below w.heap.size w wr.drew := belowN hB 1
          go_wp2
          refine wp_region_held_drew (S := fun W => Is W Bp 79 (nA PW)) (by kernel_rfl) iPD (fun hS => ?_)
          change wpAnyH _ _ (opsOf Try.f24 13) _ _ 11 (Array.replicate 11 false) _ _
          refine wpAnyH_pure (i := 0) (o := { dst := some 21, op := Op.move (Operand.tmp 5), type := 3, pos := "ref.go:65", after := #[], guard := none }) (v := .int .i64 (k : Int)) (by kernel_rfl) (by kernel_rfl) (by kernel_rfl) (by kernel_rfl) (fun _ _ _ h => h) (by kernel_rfl) (fun w hSw => by kernel_rfl) hS ?_
          simp only [Act.put, List.setIfInBounds_toArray, List.set_cons_succ, List.set_cons_zero]
          refine wpAnyH_pure (i := 1) (o := { dst := some 22, op := Op.indexAddr 79 (Operand.tmp 1) (Operand.tmp 21), type := 0, pos := "ref.go:65", after := #[{ on := 0, ground := Ground.data }], guard := none }) (v := .pointer (some ⟨Bp, k, none⟩)) (by kernel_rfl) (by kernel_rfl) (by kernel_rfl) (by kernel_rfl) (fun _ _ _ h => h) (by kernel_rfl) (fun w hSw => by go_simp) hS ?_
          simp only [Act.put, List.setIfInBounds_toArray, List.set_cons_succ, List.set_cons_zero]
          refine wpAnyH_pure (i := 2) (o := { dst := some 23, op := Op.load 5 (Operand.tmp 22), type := 5, pos := "ref.go:65", after := #[{ on := 1, ground := Ground.data }], guard := none }) (v := .int .u8 (y : Int)) (by kernel_rfl) (by kernel_rfl) (by kernel_rfl) (by kernel_rfl) (fun _ _ _ h => h) (by kernel_rfl) (fun w hSw => by have hc := hSw.cell k; rw [HC1.out] at hc; go_simp) hS ?_
          simp only [Act.put, List.setIfInBounds_toArray, List.set_cons_succ, List.set_cons_zero]
          refine wpAnyH_pure (i := 3) (o := { dst := some 24, op := Op.move (Operand.tmp 5), type := 3, pos := "ref.go:65", after := #[], guard := none }) (v := .int .i64 (k : Int)) (by kernel_rfl) (by kernel_rfl) (by kernel_rfl) (by kernel_rfl) (fun _ _ _ h => h) (by kernel_rfl) (fun w hSw => by kernel_rfl) hS ?_
          simp only [Act.put, List.setIfInBounds_toArray, List.set_cons_succ, List.set_cons_zero]
          refine wpAnyH_pure (i := 4) (o := { dst := some 25, op := Op.binOp BinOp.sub 3 (Operand.const (Value.int IntKind.i64 255)) (Operand.tmp 24) 3, type := 3, pos := "ref.go:65", after := #[{ on := 3, ground := Ground.data }], guard := none }) (v := .int .i64 (255 - (k : Int))) (by kernel_rfl) (by kernel_rfl) (by kernel_rfl) (by kernel_rfl) (fun _ _ _ h => h) (by kernel_rfl) (fun w hSw => by go_simp) hS ?_
          simp only [Act.put, List.setIfInBounds_toArray, List.set_cons_succ, List.set_cons_zero]
          refine wpAnyH_pure (i := 5) (o := { dst := some 26, op := Op.binOp BinOp.rem 3 (Operand.tmp 25) (Operand.const (Value.int IntKind.i64 255)) 3, type := 3, pos := "ref.go:65", after := #[{ on := 4, ground := Ground.data }], guard := none }) (v := .int .i64 (E : Int)) (by kernel_rfl) (by kernel_rfl) (by kernel_rfl) (by kernel_rfl) (fun _ _ _ h => h) (by kernel_rfl) (fun w hSw => by go_simp) hS ?_
          simp only [Act.put, List.setIfInBounds_toArray, List.set_cons_succ, List.set_cons_zero]
          refine wpAnyH_pure (i := 6) (o := { dst := some 27, op := Op.indexAddr 79 (Operand.tmp 1) (Operand.tmp 26), type := 0, pos := "ref.go:65", after := #[{ on := 5, ground := Ground.data }], guard := none }) (v := .pointer (some ⟨Bp, E, none⟩)) (by kernel_rfl) (by kernel_rfl) (by kernel_rfl) (by kernel_rfl) (fun _ _ _ h => h) (by kernel_rfl) (fun w hSw => by go_simp) hS ?_
          simp only [Act.put, List.setIfInBounds_toArray, List.set_cons_succ, List.set_cons_zero]
          refine wpAnyH_pure (i := 7) (o := { dst := some 28, op := Op.load 5 (Operand.tmp 27), type := 5, pos := "ref.go:65", after := #[{ on := 6, ground := Ground.data }], guard := none }) (v := .int .u8 (z : Int)) (by kernel_rfl) (by kernel_rfl) (by kernel_rfl) (by kernel_rfl) (fun _ _ _ h => h) (by kernel_rfl) (fun w hSw => by have hc := hSw.cell E; rw [HC2.out] at hc; go_simp) hS ?_
          simp only [Act.put, List.setIfInBounds_toArray, List.set_cons_succ, List.set_cons_zero]
          refine wpAnyH_call (i := 8) (o := { dst := some 29, op := Op.call { callee := Callee.value (Operand.func 42), args := #[Operand.tmp 28], argTypes := #[5] }, type := 5, pos := "ref.go:65", after := #[{ on := 7, ground := Ground.data }], guard := none }) (by kernel_rfl) (by kernel_rfl) (by kernel_rfl) (fun w => by kernel_rfl) ((BE.out _).mono ?_)
          rintro e w3 ⟨rfl, hb3⟩
          have iP3 := iPD.below hb3 iPD.lt
          have iO3 := iOD.below hb3 iOD.lt
          have iR3 := iRD.below hb3 iRD.lt
          have hB3 : Below w.heap.size w w3 := hBD.trans (hb3.mono hBD.size)
          have cO3 : (w3.cell? ⟨Bo, y, none⟩).isSome = true := by rw [iO3.cell, nA_get _ _ (by rw [setF_len]; exact hy256)]; rfl
          obtain ⟨vO, cO⟩ := Option.isSome_iff_exists.1 cO3
          have fO := iO3.frozen y
          refine ⟨_, rfl, iP3, ?_⟩
          try simp only [Act.put, List.setIfInBounds_toArray, List.set_cons_succ, List.set_cons_zero]
          refine wpAnyH_pure (i := 9) (o := { dst := some 30, op := Op.indexAddr 63 (Operand.tmp 4) (Operand.tmp 23), type := 0, pos := "ref.go:65", after := #[{ on := 2, ground := Ground.data }, { on := 0, ground := Ground.phase }, { on := 1, ground := Ground.phase }, { on := 2, ground := Ground.phase }, { on := 3, ground := Ground.phase }, { on := 4, ground := Ground.phase }, { on := 5, ground := Ground.phase }, { on := 6, ground := Ground.phase }, { on := 7, ground := Ground.phase }, { on := 8, ground := Ground.phase }], guard := none }) (v := .pointer (some ⟨Bo, y, none⟩)) (by kernel_rfl) (by kernel_rfl) (by kernel_rfl) (by kernel_rfl) (fun _ _ _ h => h) (by kernel_rfl) (fun w hSw => by go_simp) iP3 ?_
          simp only [Act.put, List.setIfInBounds_toArray, List.set_cons_succ, List.set_cons_zero]
          refine wpAnyH_step (i := 10) (o := { dst := none, op := Op.store 5 (Operand.tmp 30) (Operand.tmp 29), type := 0, pos := "ref.go:65", after := #[{ on := 9, ground := Ground.data }, { on := 8, ground := Ground.data }, { on := 8, ground := Ground.chain }, { on := 0, ground := Ground.phase }, { on := 1, ground := Ground.phase }, { on := 2, ground := Ground.phase }, { on := 3, ground := Ground.phase }, { on := 4, ground := Ground.phase }, { on := 5, ground := Ground.phase }, { on := 6, ground := Ground.phase }, { on := 7, ground := Ground.phase }, { on := 8, ground := Ground.phase }], guard := none }) (by kernel_rfl) (by kernel_rfl) (by kernel_rfl) (fun Kc hKc => ?_)
          go_simp
          refine hKc.out _ _ (iP3.far (p := ⟨Bo, y, none⟩) q5 _) (fun _ => ?_)
          clear hKc Kc
          try simp only [Act.put, List.setIfInBounds_toArray, List.set_cons_succ, List.set_cons_zero]
          refine wpAnyH_done (by kernel_rfl) ?_ _
          have kO : Is (w3.setCell ⟨Bo, y, none⟩ (.int .u8 (x : Int))) Bo 63 (nA (setF TS (0 :: PW) (k + 1 + 1))) := by
            have := iO3.set y (.int .u8 (x : Int))
            rw [HST.out] at this
            exact this
          have kP := iP3.far (p := ⟨Bo, y, none⟩) q5 (.int .u8 (x : Int))
          have kR := iR3.far (p := ⟨Bo, y, none⟩) q4 (.int .u8 (x : Int))
          have kB := hB3.setCell (p := ⟨Bo, y, none⟩) q6 (.int .u8 (x : Int))
          go_wp2
          go_roundw
          case rel => exact ⟨k + 1, by omega, by go_num, kO, kP, kR, kB⟩
          case measure => simp [intOf]; omega
        · obtain rfl : k = 255 := by omega
          rw [setF_all TS (0 :: PW) ts_len (by rw [List.length_cons, pw_len]; omega) (fun j hj => all1_of idxS_all hj)] at iO
          have hone := nA_one TS
          have hs2 : (nA TS).size = 256 := by rw [nA_size, ts_len]
          have hin : (Try.prog.info? 63).map (·.size) = some (nA TS).size := by rw [hs2]; exact size256
          have hzz : (nA (zers 256)).size = (nA TS).size := by rw [hs2, nA_size, zers_len]
          generalize hR : nA TS = R at *
          have HR := Lib.hid hR
          clear hR hs2
          have hd : ¬ ((255 : Nat) : Int) < 255 := by omega
          go_wp2_with (first
            | (refine wpList_load_row rfl 63 _ rfl Bo rfl _ _ _ _ iO Try.underlying63 rfl hin ?_)
            | (refine wpList_store_row rfl 63 _ _ rfl Br R rfl rfl _ _ iR hin hzz hone ?_))
          refine bodyPost_ret (results_cell_row Try.results24 _ _ Br 63 R (0, 0) _ rfl (iR.row _) Try.underlying63 rfl hin) rfl ⟨by rw [HR.out], ?_⟩
          exact belowRow hB q2 _

set_option maxRecDepth 100000 in
set_option maxHeartbeats 2000000 in
theorem rbacks_any (w : World) :
    Calls Try.prog 37 #[] w fun e w' => e = .returned (.agg (nA TB)) ∧ Below w.heap.size w w' := by
  obtain ⟨i6, hi6, hz6⟩ := info256
  have hS256 : (nA TS).size = 256 := by rw [nA_size, ts_len]
  have hsin : (Try.prog.info? 63).map (·.size) = some (nA TS).size := by rw [hS256]; exact size256
  have hszz : (nA (zers 256)).size = (nA TS).size := by rw [hS256, nA_size, zers_len]
  have hsone := nA_one TS
  have RS := Lib.hid rsubs_any
  clear hS256
  go_enter Try.func37, Try.ntmps37
  have iR0 : Is (w.alloc (.cells (nA (zers 256)) 63)) w.heap.size 63 (nA (zers 256)) := Is.new w _ _
  have hB0 : Below w.heap.size w (w.alloc (.cells (nA (zers 256)) 63)) := (Below.refl _ _).alloc (Nat.le_refl _) _
  go_wp2_with (refine wpList_alloc_nA rfl 63 rfl (zers 256) hi6 hz6 ?_)
  refine (RS.out _).mono ?_
  rintro e w1 ⟨rfl, h1⟩
  have iR1 := iR0.below h1 iR0.lt
  have hB1 : Below w.heap.size w w1 := hB0.trans (h1.mono hB0.size)
  clear iR0 hB0 h1
  have q0 := iR1.lt
  generalize hTS : nA TS = RT at *
  have HTS := Lib.hid hTS
  clear hTS
  go_wp2_with (first
    | (refine wpList_alloc_nA rfl 63 rfl (zers 256) hi6 hz6 ?_)
    | (refine wpList_store_row rfl 63 _ _ rfl w1.heap.size RT rfl rfl _ _ (heap_alloc_new w1 _) hsin hszz hsone ?_; rw [World.setRow_alloc_new]))
  have iR : Is ((w1.alloc (.cells RT 63)).alloc (.cells (nA (zers 256)) 63)) w.heap.size 63 (nA (zers 256)) := (iR1.alloc _).alloc _
  have iS : Is ((w1.alloc (.cells RT 63)).alloc (.cells (nA (zers 256)) 63)) w1.heap.size 63 RT := (Is.new w1 _ _).alloc _
  have iO : Is ((w1.alloc (.cells RT 63)).alloc (.cells (nA (zers 256)) 63)) (w1.heap.size + 1) 63 (nA (zers 256)) := heap_alloc2_new w1 _ _
  have hB : Below w.heap.size w ((w1.alloc (.cells RT 63)).alloc (.cells (nA (zers 256)) 63)) := (hB1.alloc hB1.size _).alloc (by have := hB1.size; simp; omega) _
  generalize ((w1.alloc (.cells RT 63)).alloc (.cells (nA (zers 256)) 63)) = W0 at *
  rw [← HTS.out] at iS
  obtain ⟨Br, hBr⟩ : ∃ Br, Br = w.heap.size := ⟨_, rfl⟩
  obtain ⟨Bs, hBs⟩ : ∃ Bs, Bs = w1.heap.size := ⟨_, rfl⟩
  obtain ⟨Bo, hBo⟩ : ∃ Bo, Bo = w1.heap.size + 1 := ⟨_, rfl⟩
  rw [← hBo, ← hBs, ← hBr]
  rw [← hBr] at iR
  rw [← hBs] at iS
  rw [← hBo] at iO
  have q1 : w.heap.size ≤ Bo := by have := hB1.size; omega
  have q2 : w.heap.size ≤ Br := by omega
  have q4 : Br ≠ Bo := by omega
  have q5 : Bs ≠ Bo := by omega
  clear hBr hBs hBo iR1 hB1 q0
  go_loopw [3] (fun i wq => ∃ k : Nat, k ≤ 256 ∧ i = .int .i64 (k : Int) ∧ Is wq Bo 63 (nA (setF TB TS k)) ∧ Is wq Bs 63 (nA TS) ∧ Is wq Br 63 (nA (zers 256)) ∧ Below w.heap.size w wq)
    (fun i _ => 256 - (intOf i).toNat)
  case atStart => exact ⟨0, by omega, rfl, by rw [setF_zero]; exact iO, iS, iR, hB⟩
  case round =>
    clear iO iS iR hB
    obtain ⟨k, hk, rfl, iO, iS, iR, hB⟩ := hrel
    by_cases hlt : k < 256
    · have hi1 : (k : Int) < 256 := by omega
      have hi0 : (0 : Int) ≤ (k : Int) := by omega
      have cS : wr.cell? ⟨Bs, k, none⟩ = some (.int .u8 ((TS.getD k 0 : Nat) : Int)) := by rw [iS.cell, nA_get _ _ (by rw [ts_len]; exact hlt)]
      have hy256 : TS.getD k 0 < 256 := (inv_at hlt).s
      have hst := setF_step TB TS (k := k) (by rw [ts_len]; exact hlt)
      rw [show TB.getD (TS.getD k 0) 0 = k from (inv_at hlt).bs] at hst
      have hs2 := nA_set (setF TB TS k) (TS.getD k 0) k
      rw [hst] at hs2
      have HST := Lib.hid hs2
      have hy1 : ((TS.getD k 0 : Nat) : Int) < 256 := by omega
      have hy0 : (0 : Int) ≤ ((TS.getD k 0 : Nat) : Int) := by omega
      have wk : IntKind.u8.wrap (k : Int) = (k : Int) := by rw [IntKind.wrap_u8]; omega
      have cO3 : (wr.cell? ⟨Bo, TS.getD k 0, none⟩).isSome = true := by rw [iO.cell, nA_get _ _ (by rw [setF_len]; exact hy256)]; rfl
      obtain ⟨vO, cO⟩ := Option.isSome_iff_exists.1 cO3
      have fO := iO.frozen (TS.getD k 0)
      clear hst hs2 cO3
      generalize TS.getD k 0 = y at *
      go_wp2
      go_roundw
      case rel =>
        refine ⟨k + 1, by omega, by go_num, ?_, iS.far (p := ⟨Bo, y, none⟩) q5 _, iR.far (p := ⟨Bo, y, none⟩) q4 _, hB.setCell (p := ⟨Bo, y, none⟩) q1 _⟩
        have := iO.set y (.int .u8 (k : Int))
        rw [HST.out] at this
        exact this
      case measure => simp [intOf]; omega
    · obtain rfl : k = 256 := by omega
      rw [setF_all TB TS tb_len (by rw [ts_len]; omega) (fun j hj => all1_of idxB_all hj)] at iO
      have hone := nA_one TB
      have hs2 : (nA TB).size = 256 := by rw [nA_size, tb_len]
      have hin : (Try.prog.info? 63).map (·.size) = some (nA TB).size := by rw [hs2]; exact size256
      have hzz : (nA (zers 256)).size = (nA TB).size := by rw [hs2, nA_size, zers_len]
      generalize hR : nA TB = R at *
      have HR := Lib.hid hR
      clear hR hs2
      have hd : ¬ ((256 : Nat) : Int) < 256 := by omega
      go_wp2_with (first
        | (refine wpList_load_row rfl 63 _ rfl Bo rfl _ _ _ _ iO Try.underlying63 rfl hin ?_)
        | (refine wpList_store_row rfl 63 _ _ rfl Br R rfl rfl _ _ iR hin hzz hone ?_))
      refine bodyPost_ret (results_cell_row Try.results37 _ _ Br 63 R (0, 0) _ rfl (iR.row _) Try.underlying63 rfl hin) rfl ⟨by rw [HR.out], ?_⟩
      exact belowRow hB q2 _
end Go.Proofs.Ytjfeloimlgfocaa
