/-
  Contracts of tape.Number, and of the document's own. No conditions.
-/
import Derived.Test.YtchgkiallbpjkaaTapA
namespace Go.Proofs.Ytchgkiallbpjkaa
open Go.RowKit Go.Shelf


set_option maxRecDepth 100000 in
set_option maxHeartbeats 2000000 in
theorem tnum_less (B : ByteArray) (a n : Int) (w : World) (hr : rightV B a = true) (hn1 : 1 ≤ n) (hn2 : n ≤ 65536) (hm : (B.size : Int) - a < 2) :
    Calls Try.prog 17 #[.agg #[.string B, .int .i64 a], .int .i64 n] w fun e w' => e = .returned (.tuple #[.int .i64 0, .agg #[.string B, .int .i64 a], .int .i64 12]) ∧ Below w.heap.size w w' := by
  have C := Lib.hid (tright_any B a)
  have K := Lib.hid (ttake_any B a 2)
  obtain ⟨W1, hW1⟩ : ∃ W1, W1 = (w.alloc (.cells #[.string B, .int .i64 a] 23)).alloc (.cells #[.string ⟨#[]⟩, .int .i64 0] 23) := ⟨_, rfl⟩
  obtain ⟨h1, h2, h3⟩ := rightV_iff.1 hr
  have hl : leftV B a = (B.size : Int) - a := by rw [leftV, if_pos hr]
  have hE : takeE B a 2 = 12 := by rw [takeE, hr, hl]; simp; omega
  have hK : takeR B a 2 = .tuple #[.string ⟨#[]⟩, .agg #[.string B, .int .i64 a], .int .i64 12] := by
    rw [takeR, takeS, takeA, hE]; rfl
  rw [hr] at C
  rw [hK] at K
  clear hr hl hE hK
  go_enter Try.func17, Try.ntmps17
  go_wp2_with fail
  rw [← hW1]
  have hB1 : Below w.heap.size w W1 := by rw [hW1]; exact ((Below.refl _ _).alloc (Nat.le_refl _) _).alloc (by simp) _
  have iA1 : Is W1 w.heap.size 23 #[.string B, .int .i64 a] := by rw [hW1]; exact heap_alloc2_old w _ _
  have iR1 : Is W1 (w.heap.size + 1) 23 #[.string ⟨#[]⟩, .int .i64 0] := by rw [hW1]; exact heap_alloc2_new w _ _
  clear hW1
  refine (C.out _).mono ?_
  rintro e W2 ⟨rfl, hb⟩
  have hB2 := hB1.trans (hb.mono hB1.size)
  have iA2 := iA1.below hb iA1.lt
  have iR2 := iR1.below hb iR1.lt
  clear hb hB1 iA1 iR1
  have cA0 : W2.cell? ⟨w.heap.size, 0, none⟩ = some (.string B) := iA2.cell 0
  have cA1 : W2.cell? ⟨w.heap.size, 1, none⟩ = some (.int .i64 a) := iA2.cell 1
  have cR0 : W2.cell? ⟨w.heap.size + 1, 0, none⟩ = some (.string ⟨#[]⟩) := iR2.cell 0
  have cR1 : W2.cell? ⟨w.heap.size + 1, 1, none⟩ = some (.int .i64 0) := iR2.cell 1
  have fR0 := iR2.frozen 0
  have fR1 := iR2.frozen 1
  go_wp2_with fail
  refine (K.out _).mono ?_
  rintro e W3 ⟨rfl, hb⟩
  have hB3 := hB2.trans (hb.mono hB2.size)
  have iA3 := iA2.below hb iA2.lt
  have iR3 := iR2.below hb iR2.lt
  clear cA0 cA1 cR0 cR1 fR0 fR1
  clear hb hB2 iA2 iR2
  have cA0 : W3.cell? ⟨w.heap.size, 0, none⟩ = some (.string B) := iA3.cell 0
  have cA1 : W3.cell? ⟨w.heap.size, 1, none⟩ = some (.int .i64 a) := iA3.cell 1
  have cR0 : W3.cell? ⟨w.heap.size + 1, 0, none⟩ = some (.string ⟨#[]⟩) := iR3.cell 0
  have cR1 : W3.cell? ⟨w.heap.size + 1, 1, none⟩ = some (.int .i64 0) := iR3.cell 1
  have fR0 := iR3.frozen 0
  have fR1 := iR3.frozen 1
  go_wp2
  have iC4 : Is (W3.alloc (.cells #[.string B, .int .i64 (a)] 23)) W3.heap.size 23 #[.string B, .int .i64 (a)] := Is.new W3 _ _
  have hB4 : Below w.heap.size w (W3.alloc (.cells #[.string B, .int .i64 (a)] 23)) := hB3.alloc hB3.size _
  have iA4 := iA3.alloc (.cells #[.string B, .int .i64 (a)] 23)
  have iR4 := iR3.alloc (.cells #[.string B, .int .i64 (a)] 23)
  have hD := iR3.lt
  generalize W3.alloc (.cells #[.string B, .int .i64 (a)] 23) = W4 at *
  generalize W3.heap.size = D at *
  have hn1' : D ≠ w.heap.size + 1 := by omega
  have hn2' : w.heap.size + 1 ≠ D := by omega
  clear cA0 cA1 cR0 cR1 fR0 fR1 hB3 iA3 iR3
  have cA0 : W4.cell? ⟨w.heap.size, 0, none⟩ = some (.string B) := iA4.cell 0
  have cA1 : W4.cell? ⟨w.heap.size, 1, none⟩ = some (.int .i64 a) := iA4.cell 1
  have cR0 : W4.cell? ⟨w.heap.size + 1, 0, none⟩ = some (.string ⟨#[]⟩) := iR4.cell 0
  have cR1 : W4.cell? ⟨w.heap.size + 1, 1, none⟩ = some (.int .i64 0) := iR4.cell 1
  have fR0 := iR4.frozen 0
  have fR1 := iR4.frozen 1
  go_region_held3 (fun w' => w'.cell? ⟨w.heap.size, 0, none⟩ = some (.string B) ∧ w'.cell? ⟨w.heap.size, 1, none⟩ = some (.int .i64 a)) (go_keep) (fail)
  go_wp2
  have iZ : Is (((W4.setCell ⟨w.heap.size + 1, 0, none⟩ (.string B)).setCell ⟨w.heap.size + 1, 1, none⟩ (.int .i64 a)).drew) (w.heap.size + 1) 23 #[.string B, .int .i64 a] := (iR4.pair (.string B) (.int .i64 a)).drewN 1
  exact bodyPost_ret (results_tct Try.results17 _ _ _ (w.heap.size + 1) 23 #[.string B, .int .i64 a] (0, 0) _ rfl iZ Try.underlying23 infoTape) rfl ⟨rfl, below_pairN hB4 (by omega) _ _⟩

set_option maxRecDepth 100000 in
set_option maxHeartbeats 2000000 in
theorem tnum_more (B : ByteArray) (a n : Int) (w : World) (hr : rightV B a = true) (hn1 : 1 ≤ n) (hn2 : n ≤ 65536) (hm : 2 ≤ (B.size : Int) - a) :
    Calls Try.prog 17 #[.agg #[.string B, .int .i64 a], .int .i64 n] w fun e w' => e = .returned (.tuple #[.int .i64 ((twoN B a.toNat : Int) % n), .agg #[.string B, .int .i64 (a + 2)], .int .i64 0]) ∧ Below w.heap.size w w' := by
  have C := Lib.hid (tright_any B a)
  have K := Lib.hid (ttake_any B a 2)
  obtain ⟨W1, hW1⟩ : ∃ W1, W1 = (w.alloc (.cells #[.string B, .int .i64 a] 23)).alloc (.cells #[.string ⟨#[]⟩, .int .i64 0] 23) := ⟨_, rfl⟩
  obtain ⟨h1, h2, h3⟩ := rightV_iff.1 hr
  have hl : leftV B a = (B.size : Int) - a := by rw [leftV, if_pos hr]
  have hE : takeE B a 2 = 0 := by rw [takeE, hr, hl]; simp; omega
  have hK : takeR B a 2 = .tuple #[.string (B.extract a.toNat (a + 2).toNat), .agg #[.string B, .int .i64 (a + 2)], .int .i64 0] := by
    rw [takeR, takeS, takeA, hE]; rfl
  rw [hr] at C
  rw [hK] at K
  have hX : (B.extract a.toNat (a + 2).toNat).size = 2 := by rw [ByteArray.size_extract]; omega
  have l0 : 0 < (B.extract a.toNat (a + 2).toNat).size := by omega
  have l1 : 1 < (B.extract a.toNat (a + 2).toNat).size := by omega
  have g0 := bt7_get l0
  have g1 := bt7_get l1
  have b0 := bt7_lt B a.toNat
  have b1 := bt7_lt B (a.toNat + 1)
  rw [bt7_extract B a.toNat (a + 2).toNat 0 (by omega) (by omega)] at g0
  rw [bt7_extract B a.toNat (a + 2).toNat 1 (by omega) (by omega)] at g1
  rw [twoN]
  rw [Nat.add_zero] at g0
  generalize B.extract a.toNat (a + 2).toNat = X at *
  generalize bt7 B a.toNat = y at *
  generalize bt7 B (a.toNat + 1) = z at *
  have hn0 : n ≠ 0 := by omega
  have wy := IntWalk.i64_in (y : Int) (by omega)
  have wz := IntWalk.i64_in (z : Int) (by omega)
  have wp := IntWalk.i64_in ((y : Int) * 256) (by omega)
  have wq := IntWalk.i64_in (256 * (y : Int)) (by omega)
  have ws := IntWalk.i64_in (256 * (y : Int) + (z : Int)) (by omega)
  have hval : (bits .or .i64 ((y : Int) * 256) (z : Int)).tmod n = ((256 * y + z : Nat) : Int) % n := by rw [tor7 y z b0 b1, Int.tmod_eq_emod_of_nonneg (by omega)]
  have HV := Lib.hid hval
  clear hr hl hE hK hval
  go_enter Try.func17, Try.ntmps17
  go_wp2_with fail
  rw [← hW1]
  have hB1 : Below w.heap.size w W1 := by rw [hW1]; exact ((Below.refl _ _).alloc (Nat.le_refl _) _).alloc (by simp) _
  have iA1 : Is W1 w.heap.size 23 #[.string B, .int .i64 a] := by rw [hW1]; exact heap_alloc2_old w _ _
  have iR1 : Is W1 (w.heap.size + 1) 23 #[.string ⟨#[]⟩, .int .i64 0] := by rw [hW1]; exact heap_alloc2_new w _ _
  clear hW1
  refine (C.out _).mono ?_
  rintro e W2 ⟨rfl, hb⟩
  have hB2 := hB1.trans (hb.mono hB1.size)
  have iA2 := iA1.below hb iA1.lt
  have iR2 := iR1.below hb iR1.lt
  clear hb hB1 iA1 iR1
  have cA0 : W2.cell? ⟨w.heap.size, 0, none⟩ = some (.string B) := iA2.cell 0
  have cA1 : W2.cell? ⟨w.heap.size, 1, none⟩ = some (.int .i64 a) := iA2.cell 1
  have cR0 : W2.cell? ⟨w.heap.size + 1, 0, none⟩ = some (.string ⟨#[]⟩) := iR2.cell 0
  have cR1 : W2.cell? ⟨w.heap.size + 1, 1, none⟩ = some (.int .i64 0) := iR2.cell 1
  have fR0 := iR2.frozen 0
  have fR1 := iR2.frozen 1
  go_wp2_with fail
  refine (K.out _).mono ?_
  rintro e W3 ⟨rfl, hb⟩
  have hB3 := hB2.trans (hb.mono hB2.size)
  have iA3 := iA2.below hb iA2.lt
  have iR3 := iR2.below hb iR2.lt
  clear cA0 cA1 cR0 cR1 fR0 fR1
  clear hb hB2 iA2 iR2
  have cA0 : W3.cell? ⟨w.heap.size, 0, none⟩ = some (.string B) := iA3.cell 0
  have cA1 : W3.cell? ⟨w.heap.size, 1, none⟩ = some (.int .i64 a) := iA3.cell 1
  have cR0 : W3.cell? ⟨w.heap.size + 1, 0, none⟩ = some (.string ⟨#[]⟩) := iR3.cell 0
  have cR1 : W3.cell? ⟨w.heap.size + 1, 1, none⟩ = some (.int .i64 0) := iR3.cell 1
  have fR0 := iR3.frozen 0
  have fR1 := iR3.frozen 1
  go_wp2
  have iC4 : Is (W3.alloc (.cells #[.string B, .int .i64 (a + 2)] 23)) W3.heap.size 23 #[.string B, .int .i64 (a + 2)] := Is.new W3 _ _
  have hB4 : Below w.heap.size w (W3.alloc (.cells #[.string B, .int .i64 (a + 2)] 23)) := hB3.alloc hB3.size _
  have iA4 := iA3.alloc (.cells #[.string B, .int .i64 (a + 2)] 23)
  have iR4 := iR3.alloc (.cells #[.string B, .int .i64 (a + 2)] 23)
  have hD := iR3.lt
  generalize W3.alloc (.cells #[.string B, .int .i64 (a + 2)] 23) = W4 at *
  generalize W3.heap.size = D at *
  have hn1' : D ≠ w.heap.size + 1 := by omega
  have hn2' : w.heap.size + 1 ≠ D := by omega
  clear cA0 cA1 cR0 cR1 fR0 fR1 hB3 iA3 iR3
  have cA0 : W4.cell? ⟨w.heap.size, 0, none⟩ = some (.string B) := iA4.cell 0
  have cA1 : W4.cell? ⟨w.heap.size, 1, none⟩ = some (.int .i64 a) := iA4.cell 1
  have cR0 : W4.cell? ⟨w.heap.size + 1, 0, none⟩ = some (.string ⟨#[]⟩) := iR4.cell 0
  have cR1 : W4.cell? ⟨w.heap.size + 1, 1, none⟩ = some (.int .i64 0) := iR4.cell 1
  have fR0 := iR4.frozen 0
  have fR1 := iR4.frozen 1
  have cC0 : W4.cell? ⟨D, 0, none⟩ = some (.string B) := iC4.cell 0
  have cC1 : W4.cell? ⟨D, 1, none⟩ = some (.int .i64 (a + 2)) := iC4.cell 1
  go_region_held3 (fun w' => w'.cell? ⟨w.heap.size, 0, none⟩ = some (.string B) ∧ w'.cell? ⟨w.heap.size, 1, none⟩ = some (.int .i64 a) ∧ w'.cell? ⟨D, 0, none⟩ = some (.string B) ∧ w'.cell? ⟨D, 1, none⟩ = some (.int .i64 (a + 2))) (go_keep) (fail)
  all_goals
    go_wp2
    have iZ : Is (((W4.setCell ⟨w.heap.size + 1, 0, none⟩ (.string B)).setCell ⟨w.heap.size + 1, 1, none⟩ (.int .i64 (a + 2))).drew) (w.heap.size + 1) 23 #[.string B, .int .i64 (a + 2)] := (iR4.pair (.string B) (.int .i64 (a + 2))).drewN 1
    exact bodyPost_ret (results_tct Try.results17 _ _ _ (w.heap.size + 1) 23 #[.string B, .int .i64 (a + 2)] (0, 0) _ rfl iZ Try.underlying23 infoTape) rfl ⟨by rw [← HV.out]; (try simp only [wy, wz, wp, wq, ws]); rfl, below_pairN hB4 (by omega) _ _⟩

set_option maxRecDepth 100000 in
set_option maxHeartbeats 2000000 in
theorem tnum_any (B : ByteArray) (a n : Int) (w : World) :
    Calls Try.prog 17 #[.agg #[.string B, .int .i64 a], .int .i64 n] w fun e w' => e = .returned (numR B a n) ∧ Below w.heap.size w w' := by
  cases hr : rightV B a with
  | true =>
    have hl : leftV B a = (B.size : Int) - a := by rw [leftV, if_pos hr]
    by_cases hn1 : 1 ≤ n
    · by_cases hn2 : n ≤ 65536
      · have hE : numE B a n = if (B.size : Int) - a < 2 then 12 else 0 := by rw [numE, hr, hl]; simp [hn1, hn2]
        by_cases hm : (B.size : Int) - a < 2
        · rw [numR, numV, numA, hE, if_pos hm]
          exact tnum_less B a n w hr hn1 hn2 hm
        · rw [numR, numV, numA, hE, if_neg hm]
          exact tnum_more B a n w hr hn1 hn2 (by omega)
      · have hR : numR B a n = .tuple #[.int .i64 0, .agg #[.string B, .int .i64 a], .int .i64 1] := by
          have hE : numE B a n = 1 := by rw [numE, hr]; simp [hn2]
          rw [numR, numV, numA, hE]; rfl
        rw [hR]
        have C := Lib.hid (tright_any B a)
        rw [hr] at C
        clear hr hl hR
        obtain ⟨W1, hW1⟩ : ∃ W1, W1 = (w.alloc (.cells #[.string B, .int .i64 a] 23)).alloc (.cells #[.string ⟨#[]⟩, .int .i64 0] 23) := ⟨_, rfl⟩
        go_enter Try.func17, Try.ntmps17
        go_wp2_with fail
        rw [← hW1]
        have hB1 : Below w.heap.size w W1 := by rw [hW1]; exact ((Below.refl _ _).alloc (Nat.le_refl _) _).alloc (by simp) _
        have iA1 : Is W1 w.heap.size 23 #[.string B, .int .i64 a] := by rw [hW1]; exact heap_alloc2_old w _ _
        have iR1 : Is W1 (w.heap.size + 1) 23 #[.string ⟨#[]⟩, .int .i64 0] := by rw [hW1]; exact heap_alloc2_new w _ _
        clear hW1
        refine (C.out _).mono ?_
        rintro e W2 ⟨rfl, hb⟩
        have hB2 := hB1.trans (hb.mono hB1.size)
        have iA2 := iA1.below hb iA1.lt
        have iR2 := iR1.below hb iR1.lt
        clear hb hB1 iA1 iR1
        have cA0 : W2.cell? ⟨w.heap.size, 0, none⟩ = some (.string B) := iA2.cell 0
        have cA1 : W2.cell? ⟨w.heap.size, 1, none⟩ = some (.int .i64 a) := iA2.cell 1
        have cR0 : W2.cell? ⟨w.heap.size + 1, 0, none⟩ = some (.string ⟨#[]⟩) := iR2.cell 0
        have cR1 : W2.cell? ⟨w.heap.size + 1, 1, none⟩ = some (.int .i64 0) := iR2.cell 1
        have fR0 := iR2.frozen 0
        have fR1 := iR2.frozen 1
        go_wp2
        go_region_held3 (fun w' => w'.cell? ⟨w.heap.size, 0, none⟩ = some (.string B) ∧ w'.cell? ⟨w.heap.size, 1, none⟩ = some (.int .i64 a)) (go_keep) (fail)
        go_wp2
        have iZ : Is (((W2.setCell ⟨w.heap.size + 1, 0, none⟩ (.string B)).setCell ⟨w.heap.size + 1, 1, none⟩ (.int .i64 a)).drew) (w.heap.size + 1) 23 #[.string B, .int .i64 a] := (iR2.pair (.string B) (.int .i64 a)).drewN 1
        exact bodyPost_ret (results_tct Try.results17 _ _ _ (w.heap.size + 1) 23 #[.string B, .int .i64 a] (0, 0) _ rfl iZ Try.underlying23 infoTape) rfl ⟨rfl, below_pairN hB2 (by omega) _ _⟩
    · have hR : numR B a n = .tuple #[.int .i64 0, .agg #[.string B, .int .i64 a], .int .i64 1] := by
        have hE : numE B a n = 1 := by rw [numE, hr]; simp [hn1]
        rw [numR, numV, numA, hE]; rfl
      rw [hR]
      have C := Lib.hid (tright_any B a)
      rw [hr] at C
      clear hr hl hR
      obtain ⟨W1, hW1⟩ : ∃ W1, W1 = (w.alloc (.cells #[.string B, .int .i64 a] 23)).alloc (.cells #[.string ⟨#[]⟩, .int .i64 0] 23) := ⟨_, rfl⟩
      go_enter Try.func17, Try.ntmps17
      go_wp2_with fail
      rw [← hW1]
      have hB1 : Below w.heap.size w W1 := by rw [hW1]; exact ((Below.refl _ _).alloc (Nat.le_refl _) _).alloc (by simp) _
      have iA1 : Is W1 w.heap.size 23 #[.string B, .int .i64 a] := by rw [hW1]; exact heap_alloc2_old w _ _
      have iR1 : Is W1 (w.heap.size + 1) 23 #[.string ⟨#[]⟩, .int .i64 0] := by rw [hW1]; exact heap_alloc2_new w _ _
      clear hW1
      refine (C.out _).mono ?_
      rintro e W2 ⟨rfl, hb⟩
      have hB2 := hB1.trans (hb.mono hB1.size)
      have iA2 := iA1.below hb iA1.lt
      have iR2 := iR1.below hb iR1.lt
      clear hb hB1 iA1 iR1
      have cA0 : W2.cell? ⟨w.heap.size, 0, none⟩ = some (.string B) := iA2.cell 0
      have cA1 : W2.cell? ⟨w.heap.size, 1, none⟩ = some (.int .i64 a) := iA2.cell 1
      have cR0 : W2.cell? ⟨w.heap.size + 1, 0, none⟩ = some (.string ⟨#[]⟩) := iR2.cell 0
      have cR1 : W2.cell? ⟨w.heap.size + 1, 1, none⟩ = some (.int .i64 0) := iR2.cell 1
      have fR0 := iR2.frozen 0
      have fR1 := iR2.frozen 1
      go_wp2
      go_region_held3 (fun w' => w'.cell? ⟨w.heap.size, 0, none⟩ = some (.string B) ∧ w'.cell? ⟨w.heap.size, 1, none⟩ = some (.int .i64 a)) (go_keep) (fail)
      go_wp2
      have iZ : Is (((W2.setCell ⟨w.heap.size + 1, 0, none⟩ (.string B)).setCell ⟨w.heap.size + 1, 1, none⟩ (.int .i64 a)).drew) (w.heap.size + 1) 23 #[.string B, .int .i64 a] := (iR2.pair (.string B) (.int .i64 a)).drewN 1
      exact bodyPost_ret (results_tct Try.results17 _ _ _ (w.heap.size + 1) 23 #[.string B, .int .i64 a] (0, 0) _ rfl iZ Try.underlying23 infoTape) rfl ⟨rfl, below_pairN hB2 (by omega) _ _⟩
  | false =>
    have hR : numR B a n = .tuple #[.int .i64 0, .agg #[.string B, .int .i64 a], .int .i64 1] := by
      have hE : numE B a n = 1 := by rw [numE, hr]; rfl
      rw [numR, numV, numA, hE]; rfl
    rw [hR]
    have C := Lib.hid (tright_any B a)
    rw [hr] at C
    clear hr hR
    obtain ⟨W1, hW1⟩ : ∃ W1, W1 = (w.alloc (.cells #[.string B, .int .i64 a] 23)).alloc (.cells #[.string ⟨#[]⟩, .int .i64 0] 23) := ⟨_, rfl⟩
    go_enter Try.func17, Try.ntmps17
    go_wp2_with fail
    rw [← hW1]
    have hB1 : Below w.heap.size w W1 := by rw [hW1]; exact ((Below.refl _ _).alloc (Nat.le_refl _) _).alloc (by simp) _
    have iA1 : Is W1 w.heap.size 23 #[.string B, .int .i64 a] := by rw [hW1]; exact heap_alloc2_old w _ _
    have iR1 : Is W1 (w.heap.size + 1) 23 #[.string ⟨#[]⟩, .int .i64 0] := by rw [hW1]; exact heap_alloc2_new w _ _
    clear hW1
    refine (C.out _).mono ?_
    rintro e W2 ⟨rfl, hb⟩
    have hB2 := hB1.trans (hb.mono hB1.size)
    have iA2 := iA1.below hb iA1.lt
    have iR2 := iR1.below hb iR1.lt
    clear hb hB1 iA1 iR1
    have cA0 : W2.cell? ⟨w.heap.size, 0, none⟩ = some (.string B) := iA2.cell 0
    have cA1 : W2.cell? ⟨w.heap.size, 1, none⟩ = some (.int .i64 a) := iA2.cell 1
    have cR0 : W2.cell? ⟨w.heap.size + 1, 0, none⟩ = some (.string ⟨#[]⟩) := iR2.cell 0
    have cR1 : W2.cell? ⟨w.heap.size + 1, 1, none⟩ = some (.int .i64 0) := iR2.cell 1
    have fR0 := iR2.frozen 0
    have fR1 := iR2.frozen 1
    go_wp2
    go_region_held3 (fun w' => w'.cell? ⟨w.heap.size, 0, none⟩ = some (.string B) ∧ w'.cell? ⟨w.heap.size, 1, none⟩ = some (.int .i64 a)) (go_keep) (fail)
    go_wp2
    have iZ : Is (((W2.setCell ⟨w.heap.size + 1, 0, none⟩ (.string B)).setCell ⟨w.heap.size + 1, 1, none⟩ (.int .i64 a)).drew) (w.heap.size + 1) 23 #[.string B, .int .i64 a] := (iR2.pair (.string B) (.int .i64 a)).drewN 1
    exact bodyPost_ret (results_tct Try.results17 _ _ _ (w.heap.size + 1) 23 #[.string B, .int .i64 a] (0, 0) _ rfl iZ Try.underlying23 infoTape) rfl ⟨rfl, below_pairN hB2 (by omega) _ _⟩

set_option maxRecDepth 100000 in
set_option maxHeartbeats 2000000 in
theorem dnum_less (B : ByteArray) (a n : Int) (w : World) (hr : rightV B a = true) (hn1 : 1 ≤ n) (hn2 : n ≤ 65536) (hm : (B.size : Int) - a < 2) :
    Calls Try.prog 18 #[.agg #[.string B, .int .i64 a], .int .i64 n] w fun e w' => e = .returned (.tuple #[.int .i64 0, .agg #[.string B, .int .i64 a], .int .i64 12]) ∧ Below w.heap.size w w' := by
  have C := Lib.hid (dright_any B a)
  have K := Lib.hid (dtake_any B a 2)
  obtain ⟨W1, hW1⟩ : ∃ W1, W1 = (w.alloc (.cells #[.string B, .int .i64 a] 23)).alloc (.cells #[.string ⟨#[]⟩, .int .i64 0] 23) := ⟨_, rfl⟩
  obtain ⟨h1, h2, h3⟩ := rightV_iff.1 hr
  have hl : leftV B a = (B.size : Int) - a := by rw [leftV, if_pos hr]
  have hE : takeE B a 2 = 12 := by rw [takeE, hr, hl]; simp; omega
  have hK : takeR B a 2 = .tuple #[.string ⟨#[]⟩, .agg #[.string B, .int .i64 a], .int .i64 12] := by
    rw [takeR, takeS, takeA, hE]; rfl
  rw [hr] at C
  rw [hK] at K
  clear hr hl hE hK
  go_enter Try.func18, Try.ntmps18
  go_wp2_with fail
  rw [← hW1]
  have hB1 : Below w.heap.size w W1 := by rw [hW1]; exact ((Below.refl _ _).alloc (Nat.le_refl _) _).alloc (by simp) _
  have iA1 : Is W1 w.heap.size 23 #[.string B, .int .i64 a] := by rw [hW1]; exact heap_alloc2_old w _ _
  have iR1 : Is W1 (w.heap.size + 1) 23 #[.string ⟨#[]⟩, .int .i64 0] := by rw [hW1]; exact heap_alloc2_new w _ _
  clear hW1
  refine (C.out _).mono ?_
  rintro e W2 ⟨rfl, hb⟩
  have hB2 := hB1.trans (hb.mono hB1.size)
  have iA2 := iA1.below hb iA1.lt
  have iR2 := iR1.below hb iR1.lt
  clear hb hB1 iA1 iR1
  have cA0 : W2.cell? ⟨w.heap.size, 0, none⟩ = some (.string B) := iA2.cell 0
  have cA1 : W2.cell? ⟨w.heap.size, 1, none⟩ = some (.int .i64 a) := iA2.cell 1
  have cR0 : W2.cell? ⟨w.heap.size + 1, 0, none⟩ = some (.string ⟨#[]⟩) := iR2.cell 0
  have cR1 : W2.cell? ⟨w.heap.size + 1, 1, none⟩ = some (.int .i64 0) := iR2.cell 1
  have fR0 := iR2.frozen 0
  have fR1 := iR2.frozen 1
  go_wp2_with fail
  refine (K.out _).mono ?_
  rintro e W3 ⟨rfl, hb⟩
  have hB3 := hB2.trans (hb.mono hB2.size)
  have iA3 := iA2.below hb iA2.lt
  have iR3 := iR2.below hb iR2.lt
  clear cA0 cA1 cR0 cR1 fR0 fR1
  clear hb hB2 iA2 iR2
  have cA0 : W3.cell? ⟨w.heap.size, 0, none⟩ = some (.string B) := iA3.cell 0
  have cA1 : W3.cell? ⟨w.heap.size, 1, none⟩ = some (.int .i64 a) := iA3.cell 1
  have cR0 : W3.cell? ⟨w.heap.size + 1, 0, none⟩ = some (.string ⟨#[]⟩) := iR3.cell 0
  have cR1 : W3.cell? ⟨w.heap.size + 1, 1, none⟩ = some (.int .i64 0) := iR3.cell 1
  have fR0 := iR3.frozen 0
  have fR1 := iR3.frozen 1
  go_wp2
  have iC4 : Is (W3.alloc (.cells #[.string B, .int .i64 (a)] 23)) W3.heap.size 23 #[.string B, .int .i64 (a)] := Is.new W3 _ _
  have hB4 : Below w.heap.size w (W3.alloc (.cells #[.string B, .int .i64 (a)] 23)) := hB3.alloc hB3.size _
  have iA4 := iA3.alloc (.cells #[.string B, .int .i64 (a)] 23)
  have iR4 := iR3.alloc (.cells #[.string B, .int .i64 (a)] 23)
  have hD := iR3.lt
  generalize W3.alloc (.cells #[.string B, .int .i64 (a)] 23) = W4 at *
  generalize W3.heap.size = D at *
  have hn1' : D ≠ w.heap.size + 1 := by omega
  have hn2' : w.heap.size + 1 ≠ D := by omega
  clear cA0 cA1 cR0 cR1 fR0 fR1 hB3 iA3 iR3
  have cA0 : W4.cell? ⟨w.heap.size, 0, none⟩ = some (.string B) := iA4.cell 0
  have cA1 : W4.cell? ⟨w.heap.size, 1, none⟩ = some (.int .i64 a) := iA4.cell 1
  have cR0 : W4.cell? ⟨w.heap.size + 1, 0, none⟩ = some (.string ⟨#[]⟩) := iR4.cell 0
  have cR1 : W4.cell? ⟨w.heap.size + 1, 1, none⟩ = some (.int .i64 0) := iR4.cell 1
  have fR0 := iR4.frozen 0
  have fR1 := iR4.frozen 1
  go_region_held3 (fun w' => w'.cell? ⟨w.heap.size, 0, none⟩ = some (.string B) ∧ w'.cell? ⟨w.heap.size, 1, none⟩ = some (.int .i64 a)) (go_keep) (fail)
  go_wp2
  have iZ : Is (((W4.setCell ⟨w.heap.size + 1, 0, none⟩ (.string B)).setCell ⟨w.heap.size + 1, 1, none⟩ (.int .i64 a)).drew) (w.heap.size + 1) 23 #[.string B, .int .i64 a] := (iR4.pair (.string B) (.int .i64 a)).drewN 1
  exact bodyPost_ret (results_tct Try.results18 _ _ _ (w.heap.size + 1) 23 #[.string B, .int .i64 a] (0, 0) _ rfl iZ Try.underlying23 infoTape) rfl ⟨rfl, below_pairN hB4 (by omega) _ _⟩

set_option maxRecDepth 100000 in
set_option maxHeartbeats 2000000 in
theorem dnum_more (B : ByteArray) (a n : Int) (w : World) (hr : rightV B a = true) (hn1 : 1 ≤ n) (hn2 : n ≤ 65536) (hm : 2 ≤ (B.size : Int) - a) :
    Calls Try.prog 18 #[.agg #[.string B, .int .i64 a], .int .i64 n] w fun e w' => e = .returned (.tuple #[.int .i64 ((twoN B a.toNat : Int) % n), .agg #[.string B, .int .i64 (a + 2)], .int .i64 0]) ∧ Below w.heap.size w w' := by
  have C := Lib.hid (dright_any B a)
  have K := Lib.hid (dtake_any B a 2)
  obtain ⟨W1, hW1⟩ : ∃ W1, W1 = (w.alloc (.cells #[.string B, .int .i64 a] 23)).alloc (.cells #[.string ⟨#[]⟩, .int .i64 0] 23) := ⟨_, rfl⟩
  obtain ⟨h1, h2, h3⟩ := rightV_iff.1 hr
  have hl : leftV B a = (B.size : Int) - a := by rw [leftV, if_pos hr]
  have hE : takeE B a 2 = 0 := by rw [takeE, hr, hl]; simp; omega
  have hK : takeR B a 2 = .tuple #[.string (B.extract a.toNat (a + 2).toNat), .agg #[.string B, .int .i64 (a + 2)], .int .i64 0] := by
    rw [takeR, takeS, takeA, hE]; rfl
  rw [hr] at C
  rw [hK] at K
  have hX : (B.extract a.toNat (a + 2).toNat).size = 2 := by rw [ByteArray.size_extract]; omega
  have l0 : 0 < (B.extract a.toNat (a + 2).toNat).size := by omega
  have l1 : 1 < (B.extract a.toNat (a + 2).toNat).size := by omega
  have g0 := bt7_get l0
  have g1 := bt7_get l1
  have b0 := bt7_lt B a.toNat
  have b1 := bt7_lt B (a.toNat + 1)
  rw [bt7_extract B a.toNat (a + 2).toNat 0 (by omega) (by omega)] at g0
  rw [bt7_extract B a.toNat (a + 2).toNat 1 (by omega) (by omega)] at g1
  rw [twoN]
  rw [Nat.add_zero] at g0
  generalize B.extract a.toNat (a + 2).toNat = X at *
  generalize bt7 B a.toNat = y at *
  generalize bt7 B (a.toNat + 1) = z at *
  have hn0 : n ≠ 0 := by omega
  have wy := IntWalk.i64_in (y : Int) (by omega)
  have wz := IntWalk.i64_in (z : Int) (by omega)
  have wp := IntWalk.i64_in ((y : Int) * 256) (by omega)
  have wq := IntWalk.i64_in (256 * (y : Int)) (by omega)
  have ws := IntWalk.i64_in (256 * (y : Int) + (z : Int)) (by omega)
  have hval : ((256 : Int) * (y : Int) + (z : Int)).tmod n = ((256 * y + z : Nat) : Int) % n := by rw [show (256 : Int) * (y : Int) + (z : Int) = ((256 * y + z : Nat) : Int) by omega, Int.tmod_eq_emod_of_nonneg (by omega)]
  have HV := Lib.hid hval
  clear hr hl hE hK hval
  go_enter Try.func18, Try.ntmps18
  go_wp2_with fail
  rw [← hW1]
  have hB1 : Below w.heap.size w W1 := by rw [hW1]; exact ((Below.refl _ _).alloc (Nat.le_refl _) _).alloc (by simp) _
  have iA1 : Is W1 w.heap.size 23 #[.string B, .int .i64 a] := by rw [hW1]; exact heap_alloc2_old w _ _
  have iR1 : Is W1 (w.heap.size + 1) 23 #[.string ⟨#[]⟩, .int .i64 0] := by rw [hW1]; exact heap_alloc2_new w _ _
  clear hW1
  refine (C.out _).mono ?_
  rintro e W2 ⟨rfl, hb⟩
  have hB2 := hB1.trans (hb.mono hB1.size)
  have iA2 := iA1.below hb iA1.lt
  have iR2 := iR1.below hb iR1.lt
  clear hb hB1 iA1 iR1
  have cA0 : W2.cell? ⟨w.heap.size, 0, none⟩ = some (.string B) := iA2.cell 0
  have cA1 : W2.cell? ⟨w.heap.size, 1, none⟩ = some (.int .i64 a) := iA2.cell 1
  have cR0 : W2.cell? ⟨w.heap.size + 1, 0, none⟩ = some (.string ⟨#[]⟩) := iR2.cell 0
  have cR1 : W2.cell? ⟨w.heap.size + 1, 1, none⟩ = some (.int .i64 0) := iR2.cell 1
  have fR0 := iR2.frozen 0
  have fR1 := iR2.frozen 1
  go_wp2_with fail
  refine (K.out _).mono ?_
  rintro e W3 ⟨rfl, hb⟩
  have hB3 := hB2.trans (hb.mono hB2.size)
  have iA3 := iA2.below hb iA2.lt
  have iR3 := iR2.below hb iR2.lt
  clear cA0 cA1 cR0 cR1 fR0 fR1
  clear hb hB2 iA2 iR2
  have cA0 : W3.cell? ⟨w.heap.size, 0, none⟩ = some (.string B) := iA3.cell 0
  have cA1 : W3.cell? ⟨w.heap.size, 1, none⟩ = some (.int .i64 a) := iA3.cell 1
  have cR0 : W3.cell? ⟨w.heap.size + 1, 0, none⟩ = some (.string ⟨#[]⟩) := iR3.cell 0
  have cR1 : W3.cell? ⟨w.heap.size + 1, 1, none⟩ = some (.int .i64 0) := iR3.cell 1
  have fR0 := iR3.frozen 0
  have fR1 := iR3.frozen 1
  go_wp2
  have iC4 : Is (W3.alloc (.cells #[.string B, .int .i64 (a + 2)] 23)) W3.heap.size 23 #[.string B, .int .i64 (a + 2)] := Is.new W3 _ _
  have hB4 : Below w.heap.size w (W3.alloc (.cells #[.string B, .int .i64 (a + 2)] 23)) := hB3.alloc hB3.size _
  have iA4 := iA3.alloc (.cells #[.string B, .int .i64 (a + 2)] 23)
  have iR4 := iR3.alloc (.cells #[.string B, .int .i64 (a + 2)] 23)
  have hD := iR3.lt
  generalize W3.alloc (.cells #[.string B, .int .i64 (a + 2)] 23) = W4 at *
  generalize W3.heap.size = D at *
  have hn1' : D ≠ w.heap.size + 1 := by omega
  have hn2' : w.heap.size + 1 ≠ D := by omega
  clear cA0 cA1 cR0 cR1 fR0 fR1 hB3 iA3 iR3
  have cA0 : W4.cell? ⟨w.heap.size, 0, none⟩ = some (.string B) := iA4.cell 0
  have cA1 : W4.cell? ⟨w.heap.size, 1, none⟩ = some (.int .i64 a) := iA4.cell 1
  have cR0 : W4.cell? ⟨w.heap.size + 1, 0, none⟩ = some (.string ⟨#[]⟩) := iR4.cell 0
  have cR1 : W4.cell? ⟨w.heap.size + 1, 1, none⟩ = some (.int .i64 0) := iR4.cell 1
  have fR0 := iR4.frozen 0
  have fR1 := iR4.frozen 1
  have cC0 : W4.cell? ⟨D, 0, none⟩ = some (.string B) := iC4.cell 0
  have cC1 : W4.cell? ⟨D, 1, none⟩ = some (.int .i64 (a + 2)) := iC4.cell 1
  go_region_held3 (fun w' => w'.cell? ⟨w.heap.size, 0, none⟩ = some (.string B) ∧ w'.cell? ⟨w.heap.size, 1, none⟩ = some (.int .i64 a) ∧ w'.cell? ⟨D, 0, none⟩ = some (.string B) ∧ w'.cell? ⟨D, 1, none⟩ = some (.int .i64 (a + 2))) (go_keep) (fail)
  all_goals
    go_wp2
    have iZ : Is (((W4.setCell ⟨w.heap.size + 1, 0, none⟩ (.string B)).setCell ⟨w.heap.size + 1, 1, none⟩ (.int .i64 (a + 2))).drew) (w.heap.size + 1) 23 #[.string B, .int .i64 (a + 2)] := (iR4.pair (.string B) (.int .i64 (a + 2))).drewN 1
    exact bodyPost_ret (results_tct Try.results18 _ _ _ (w.heap.size + 1) 23 #[.string B, .int .i64 (a + 2)] (0, 0) _ rfl iZ Try.underlying23 infoTape) rfl ⟨by rw [← HV.out]; (try simp only [wy, wz, wp, wq, ws]); rfl, below_pairN hB4 (by omega) _ _⟩

set_option maxRecDepth 100000 in
set_option maxHeartbeats 2000000 in
theorem dnum_any (B : ByteArray) (a n : Int) (w : World) :
    Calls Try.prog 18 #[.agg #[.string B, .int .i64 a], .int .i64 n] w fun e w' => e = .returned (numR B a n) ∧ Below w.heap.size w w' := by
  cases hr : rightV B a with
  | true =>
    have hl : leftV B a = (B.size : Int) - a := by rw [leftV, if_pos hr]
    by_cases hn1 : 1 ≤ n
    · by_cases hn2 : n ≤ 65536
      · have hE : numE B a n = if (B.size : Int) - a < 2 then 12 else 0 := by rw [numE, hr, hl]; simp [hn1, hn2]
        by_cases hm : (B.size : Int) - a < 2
        · rw [numR, numV, numA, hE, if_pos hm]
          exact dnum_less B a n w hr hn1 hn2 hm
        · rw [numR, numV, numA, hE, if_neg hm]
          exact dnum_more B a n w hr hn1 hn2 (by omega)
      · have hR : numR B a n = .tuple #[.int .i64 0, .agg #[.string B, .int .i64 a], .int .i64 1] := by
          have hE : numE B a n = 1 := by rw [numE, hr]; simp [hn2]
          rw [numR, numV, numA, hE]; rfl
        rw [hR]
        have C := Lib.hid (dright_any B a)
        rw [hr] at C
        clear hr hl hR
        obtain ⟨W1, hW1⟩ : ∃ W1, W1 = (w.alloc (.cells #[.string B, .int .i64 a] 23)).alloc (.cells #[.string ⟨#[]⟩, .int .i64 0] 23) := ⟨_, rfl⟩
        go_enter Try.func18, Try.ntmps18
        go_wp2_with fail
        rw [← hW1]
        have hB1 : Below w.heap.size w W1 := by rw [hW1]; exact ((Below.refl _ _).alloc (Nat.le_refl _) _).alloc (by simp) _
        have iA1 : Is W1 w.heap.size 23 #[.string B, .int .i64 a] := by rw [hW1]; exact heap_alloc2_old w _ _
        have iR1 : Is W1 (w.heap.size + 1) 23 #[.string ⟨#[]⟩, .int .i64 0] := by rw [hW1]; exact heap_alloc2_new w _ _
        clear hW1
        refine (C.out _).mono ?_
        rintro e W2 ⟨rfl, hb⟩
        have hB2 := hB1.trans (hb.mono hB1.size)
        have iA2 := iA1.below hb iA1.lt
        have iR2 := iR1.below hb iR1.lt
        clear hb hB1 iA1 iR1
        have cA0 : W2.cell? ⟨w.heap.size, 0, none⟩ = some (.string B) := iA2.cell 0
        have cA1 : W2.cell? ⟨w.heap.size, 1, none⟩ = some (.int .i64 a) := iA2.cell 1
        have cR0 : W2.cell? ⟨w.heap.size + 1, 0, none⟩ = some (.string ⟨#[]⟩) := iR2.cell 0
        have cR1 : W2.cell? ⟨w.heap.size + 1, 1, none⟩ = some (.int .i64 0) := iR2.cell 1
        have fR0 := iR2.frozen 0
        have fR1 := iR2.frozen 1
        go_wp2
        go_region_held3 (fun w' => w'.cell? ⟨w.heap.size, 0, none⟩ = some (.string B) ∧ w'.cell? ⟨w.heap.size, 1, none⟩ = some (.int .i64 a)) (go_keep) (fail)
        go_wp2
        have iZ : Is (((W2.setCell ⟨w.heap.size + 1, 0, none⟩ (.string B)).setCell ⟨w.heap.size + 1, 1, none⟩ (.int .i64 a)).drew) (w.heap.size + 1) 23 #[.string B, .int .i64 a] := (iR2.pair (.string B) (.int .i64 a)).drewN 1
        exact bodyPost_ret (results_tct Try.results18 _ _ _ (w.heap.size + 1) 23 #[.string B, .int .i64 a] (0, 0) _ rfl iZ Try.underlying23 infoTape) rfl ⟨rfl, below_pairN hB2 (by omega) _ _⟩
    · have hR : numR B a n = .tuple #[.int .i64 0, .agg #[.string B, .int .i64 a], .int .i64 1] := by
        have hE : numE B a n = 1 := by rw [numE, hr]; simp [hn1]
        rw [numR, numV, numA, hE]; rfl
      rw [hR]
      have C := Lib.hid (dright_any B a)
      rw [hr] at C
      clear hr hl hR
      obtain ⟨W1, hW1⟩ : ∃ W1, W1 = (w.alloc (.cells #[.string B, .int .i64 a] 23)).alloc (.cells #[.string ⟨#[]⟩, .int .i64 0] 23) := ⟨_, rfl⟩
      go_enter Try.func18, Try.ntmps18
      go_wp2_with fail
      rw [← hW1]
      have hB1 : Below w.heap.size w W1 := by rw [hW1]; exact ((Below.refl _ _).alloc (Nat.le_refl _) _).alloc (by simp) _
      have iA1 : Is W1 w.heap.size 23 #[.string B, .int .i64 a] := by rw [hW1]; exact heap_alloc2_old w _ _
      have iR1 : Is W1 (w.heap.size + 1) 23 #[.string ⟨#[]⟩, .int .i64 0] := by rw [hW1]; exact heap_alloc2_new w _ _
      clear hW1
      refine (C.out _).mono ?_
      rintro e W2 ⟨rfl, hb⟩
      have hB2 := hB1.trans (hb.mono hB1.size)
      have iA2 := iA1.below hb iA1.lt
      have iR2 := iR1.below hb iR1.lt
      clear hb hB1 iA1 iR1
      have cA0 : W2.cell? ⟨w.heap.size, 0, none⟩ = some (.string B) := iA2.cell 0
      have cA1 : W2.cell? ⟨w.heap.size, 1, none⟩ = some (.int .i64 a) := iA2.cell 1
      have cR0 : W2.cell? ⟨w.heap.size + 1, 0, none⟩ = some (.string ⟨#[]⟩) := iR2.cell 0
      have cR1 : W2.cell? ⟨w.heap.size + 1, 1, none⟩ = some (.int .i64 0) := iR2.cell 1
      have fR0 := iR2.frozen 0
      have fR1 := iR2.frozen 1
      go_wp2
      go_region_held3 (fun w' => w'.cell? ⟨w.heap.size, 0, none⟩ = some (.string B) ∧ w'.cell? ⟨w.heap.size, 1, none⟩ = some (.int .i64 a)) (go_keep) (fail)
      go_wp2
      have iZ : Is (((W2.setCell ⟨w.heap.size + 1, 0, none⟩ (.string B)).setCell ⟨w.heap.size + 1, 1, none⟩ (.int .i64 a)).drew) (w.heap.size + 1) 23 #[.string B, .int .i64 a] := (iR2.pair (.string B) (.int .i64 a)).drewN 1
      exact bodyPost_ret (results_tct Try.results18 _ _ _ (w.heap.size + 1) 23 #[.string B, .int .i64 a] (0, 0) _ rfl iZ Try.underlying23 infoTape) rfl ⟨rfl, below_pairN hB2 (by omega) _ _⟩
  | false =>
    have hR : numR B a n = .tuple #[.int .i64 0, .agg #[.string B, .int .i64 a], .int .i64 1] := by
      have hE : numE B a n = 1 := by rw [numE, hr]; rfl
      rw [numR, numV, numA, hE]; rfl
    rw [hR]
    have C := Lib.hid (dright_any B a)
    rw [hr] at C
    clear hr hR
    obtain ⟨W1, hW1⟩ : ∃ W1, W1 = (w.alloc (.cells #[.string B, .int .i64 a] 23)).alloc (.cells #[.string ⟨#[]⟩, .int .i64 0] 23) := ⟨_, rfl⟩
    go_enter Try.func18, Try.ntmps18
    go_wp2_with fail
    rw [← hW1]
    have hB1 : Below w.heap.size w W1 := by rw [hW1]; exact ((Below.refl _ _).alloc (Nat.le_refl _) _).alloc (by simp) _
    have iA1 : Is W1 w.heap.size 23 #[.string B, .int .i64 a] := by rw [hW1]; exact heap_alloc2_old w _ _
    have iR1 : Is W1 (w.heap.size + 1) 23 #[.string ⟨#[]⟩, .int .i64 0] := by rw [hW1]; exact heap_alloc2_new w _ _
    clear hW1
    refine (C.out _).mono ?_
    rintro e W2 ⟨rfl, hb⟩
    have hB2 := hB1.trans (hb.mono hB1.size)
    have iA2 := iA1.below hb iA1.lt
    have iR2 := iR1.below hb iR1.lt
    clear hb hB1 iA1 iR1
    have cA0 : W2.cell? ⟨w.heap.size, 0, none⟩ = some (.string B) := iA2.cell 0
    have cA1 : W2.cell? ⟨w.heap.size, 1, none⟩ = some (.int .i64 a) := iA2.cell 1
    have cR0 : W2.cell? ⟨w.heap.size + 1, 0, none⟩ = some (.string ⟨#[]⟩) := iR2.cell 0
    have cR1 : W2.cell? ⟨w.heap.size + 1, 1, none⟩ = some (.int .i64 0) := iR2.cell 1
    have fR0 := iR2.frozen 0
    have fR1 := iR2.frozen 1
    go_wp2
    go_region_held3 (fun w' => w'.cell? ⟨w.heap.size, 0, none⟩ = some (.string B) ∧ w'.cell? ⟨w.heap.size, 1, none⟩ = some (.int .i64 a)) (go_keep) (fail)
    go_wp2
    have iZ : Is (((W2.setCell ⟨w.heap.size + 1, 0, none⟩ (.string B)).setCell ⟨w.heap.size + 1, 1, none⟩ (.int .i64 a)).drew) (w.heap.size + 1) 23 #[.string B, .int .i64 a] := (iR2.pair (.string B) (.int .i64 a)).drewN 1
    exact bodyPost_ret (results_tct Try.results18 _ _ _ (w.heap.size + 1) 23 #[.string B, .int .i64 a] (0, 0) _ rfl iZ Try.underlying23 infoTape) rfl ⟨rfl, below_pairN hB2 (by omega) _ _⟩
theorem turn_less (B : ByteArray) (a : Int) (j x : Nat) (hr : rightV B a = true) (hx : x < 1000) (hj : a + 2 * (j : Int) ≤ (B.size : Int)) (hm : (B.size : Int) - (a + 2 * (j : Int)) < 2) :
    numR B (a + 2 * (j : Int)) ((x : Int) + 1) = .tuple #[.int .i64 0, .agg #[.string B, .int .i64 (a + 2 * (j : Int))], .int .i64 12] := by
  obtain ⟨h1, h2, h3⟩ := rightV_iff.1 hr
  have hr2 : rightV B (a + 2 * (j : Int)) = true := rightV_iff.2 ⟨h1, by omega, hj⟩
  have hE : numE B (a + 2 * (j : Int)) ((x : Int) + 1) = 12 := by
    rw [numE, hr2, leftV, if_pos hr2, if_pos hm]
    have e1 : (1 : Int) ≤ (x : Int) + 1 := by omega
    have e2 : (x : Int) + 1 ≤ 65536 := by omega
    simp [e2]
    omega
  rw [numR, numV, numA, hE]
  rfl
theorem turn_more (B : ByteArray) (a : Int) (j x : Nat) (hr : rightV B a = true) (hx : x < 1000) (hj : a + 2 * (j : Int) ≤ (B.size : Int)) (hm : ¬ (B.size : Int) - (a + 2 * (j : Int)) < 2) :
    numR B (a + 2 * (j : Int)) ((x : Int) + 1) = .tuple #[.int .i64 ((twoN B (a.toNat + 2 * j) % (x + 1) : Nat) : Int), .agg #[.string B, .int .i64 (a + 2 * ((j + 1 : Nat) : Int))], .int .i64 0] := by
  obtain ⟨h1, h2, h3⟩ := rightV_iff.1 hr
  have hr2 : rightV B (a + 2 * (j : Int)) = true := rightV_iff.2 ⟨h1, by omega, hj⟩
  have hE : numE B (a + 2 * (j : Int)) ((x : Int) + 1) = 0 := by
    rw [numE, hr2, leftV, if_pos hr2, if_neg hm]
    have e1 : (1 : Int) ≤ (x : Int) + 1 := by omega
    have e2 : (x : Int) + 1 ≤ 65536 := by omega
    simp [e2]
    omega
  rw [numR, numV, numA, hE, if_pos rfl, if_pos rfl, show (a + 2 * (j : Int)).toNat = a.toNat + 2 * j by omega, show a + 2 * (j : Int) + 2 = a + 2 * ((j + 1 : Nat) : Int) by omega]
  rfl
end Go.Proofs.Ytchgkiallbpjkaa
