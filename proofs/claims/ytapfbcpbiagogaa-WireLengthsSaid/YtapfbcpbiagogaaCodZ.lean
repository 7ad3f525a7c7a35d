/-
  Contracts of the document's own TakeNumber. No conditions.
-/
import Derived.Test.YtapfbcpbiagogaaCodY
namespace Go.Proofs.Ytapfbcpbiagogaa
open Go.RowKit Go.Shelf

/-- the number that the first bytes from a place on are. -/
def rdo10 (B : ByteArray) (j : Nat) : Nat → Nat
  | 0 => 0
  | k + 1 => 256 * rdo10 B j k + bt7 B (j + k)
theorem rdo_four10 (B : ByteArray) (j : Nat) : rdo10 B j 4 = rd10 B j := by
  simp only [rdo10, rd10, Nat.add_zero]; omega
theorem rdo_bd10 (B : ByteArray) (j k : Nat) (h : k < 4) : rdo10 B j k < 16777216 := by
  have h0 := bt7_lt B (j + 0)
  have h1 := bt7_lt B (j + 1)
  have h2 := bt7_lt B (j + 2)
  rcases (by omega : k = 0 ∨ k = 1 ∨ k = 2 ∨ k = 3) with rfl | rfl | rfl | rfl <;> simp only [rdo10] <;> omega

set_option maxRecDepth 100000 in
set_option maxHeartbeats 4000000 in
theorem dn_any10 (B : ByteArray) (a : Int) (w : World) :
    Calls Try.prog 39 #[.agg #[.string B, .int .i64 a]] w fun e w' => e = .returned (tnR10 B a) ∧ Below w.heap.size w w' := by
  have C := Lib.hid (dright_any10 B a)
  obtain ⟨W1, hW1⟩ : ∃ W1, W1 = (w.alloc (.cells #[.string B, .int .i64 a] 64)).alloc (.cells #[.string ⟨#[]⟩, .int .i64 0] 64) := ⟨_, rfl⟩
  cases hr : rightV B a with
  | true =>
    obtain ⟨h1, h2, h3⟩ := rightV_iff.1 hr
    rw [hr] at C
    by_cases h4 : (B.size : Int) - a < 4
    · have hv : tnV10 B a = (0, a, 10) := by rw [tnV10, if_pos hr, if_pos h4]
      have HR := Lib.hid (show tnR10 B a = .tuple #[.int .i64 0, .agg #[.string B, .int .i64 a], .int .i64 10] by rw [tnR10, hv])
      have w1i := IntWalk.i64_in ((B.size : Int) - a) (by omega)
      clear hr hv
      go_enter Try.func39, Try.ntmps39
      go_wp2_with fail
      rw [← hW1]
      have hB1 : Below w.heap.size w W1 := by rw [hW1]; exact ((Below.refl _ _).alloc (Nat.le_refl _) _).alloc (by simp) _
      have iA1 : Is W1 w.heap.size 64 #[.string B, .int .i64 a] := by rw [hW1]; exact heap_alloc2_old w _ _
      have iR1 : Is W1 (w.heap.size + 1) 64 #[.string ⟨#[]⟩, .int .i64 0] := by rw [hW1]; exact heap_alloc2_new w _ _
      clear hW1
      refine (C.out _).mono ?_
      rintro e W2 ⟨rfl, hb⟩
      have hB2 := hB1.trans (hb.mono hB1.size)
      have iA2 := iA1.below hb iA1.lt
      have iR2 := iR1.below hb iR1.lt
      clear hb hB1 iA1 iR1
      have cA0 : W2.cell? ⟨w.heap.size, 0, none⟩ = some (.string B) := iA2.cell 0
      have cA1 : W2.cell? ⟨w.heap.size, 1, none⟩ = some (.int .i64 a) := iA2.cell 1
      have cR0 : W2.cell? ⟨w.heap.size + 1, 0, none⟩ = some (.string ⟨#[]⟩) := iR2.cell 0
      have cR1 : W2.cell? ⟨w.heap.size + 1, 1, none⟩ = some (.int .i64 0) := iR2.cell 1
      have fR0 := iR2.frozen 0
      have fR1 := iR2.frozen 1
      go_wp2
      go_region_held3 (fun w' => w'.cell? ⟨w.heap.size, 0, none⟩ = some (.string B) ∧ w'.cell? ⟨w.heap.size, 1, none⟩ = some (.int .i64 a)) (go_keep) (fail)
      go_wp2
      have iZ : Is (((W2.setCell ⟨w.heap.size + 1, 0, none⟩ (.string B)).setCell ⟨w.heap.size + 1, 1, none⟩ (.int .i64 a)).drew) (w.heap.size + 1) 64 #[.string B, .int .i64 a] := (iR2.pair10 (.string B) (.int .i64 a)).drewN 1
      exact bodyPost_ret (results_tct10 Try.results39 _ _ _ (w.heap.size + 1) 64 #[.string B, .int .i64 a] (0, 0) _ rfl iZ Try.underlying64 infoCur10) rfl ⟨by rw [HR.out]; rfl, below_pair10 hB2 (by omega) _ _⟩
    · obtain ⟨m, rfl⟩ : ∃ m : Nat, a = (m : Int) := ⟨a.toNat, by omega⟩
      have hf : 2147483647 < rdo10 B m 4 → tnR10 B (m : Int) = .tuple #[.int .i64 0, .agg #[.string B, .int .i64 (m : Int)], .int .i64 13] := fun h => by
        rw [rdo_four10] at h
        rw [tnR10, tnV10, if_pos hr, if_neg h4, if_pos (by show 2147483647 < (rd10 B m : Int); omega)]
      have ho : ¬ 2147483647 < rdo10 B m 4 → tnR10 B (m : Int) = .tuple #[.int .i64 (rdo10 B m 4 : Int), .agg #[.string B, .int .i64 ((m : Int) + 4)], .int .i64 0] := fun h => by
        rw [rdo_four10] at h ⊢
        rw [tnR10, tnV10, if_pos hr, if_neg h4, if_neg (by show ¬ 2147483647 < (rd10 B m : Int); omega)]
        rfl
      have HF := Lib.hid hf
      have HO := Lib.hid ho
      have HBD := Lib.hid (rdo_bd10 B m)
      have H4 := Lib.hid (show m + 4 ≤ B.size by omega)
      have H65 := Lib.hid h1
      have w1i := IntWalk.i64_in ((B.size : Int) - (m : Int)) (by omega)
      clear hr hf ho h1 h3
      go_enter Try.func39, Try.ntmps39
      go_wp2_with fail
      rw [← hW1]
      have hB1 : Below w.heap.size w W1 := by rw [hW1]; exact ((Below.refl _ _).alloc (Nat.le_refl _) _).alloc (by simp) _
      have iA1 : Is W1 w.heap.size 64 #[.string B, .int .i64 (m : Int)] := by rw [hW1]; exact heap_alloc2_old w _ _
      have iR1 : Is W1 (w.heap.size + 1) 64 #[.string ⟨#[]⟩, .int .i64 0] := by rw [hW1]; exact heap_alloc2_new w _ _
      clear hW1
      refine (C.out _).mono ?_
      rintro e W2 ⟨rfl, hb⟩
      have hB2 := hB1.trans (hb.mono hB1.size)
      have iA2 := iA1.below hb iA1.lt
      have iR2 := iR1.below hb iR1.lt
      clear hb hB1 iA1 iR1
      have cA0 : W2.cell? ⟨w.heap.size, 0, none⟩ = some (.string B) := iA2.cell 0
      have cA1 : W2.cell? ⟨w.heap.size, 1, none⟩ = some (.int .i64 (m : Int)) := iA2.cell 1
      have cR0 : W2.cell? ⟨w.heap.size + 1, 0, none⟩ = some (.string ⟨#[]⟩) := iR2.cell 0
      have cR1 : W2.cell? ⟨w.heap.size + 1, 1, none⟩ = some (.int .i64 0) := iR2.cell 1
      have fR0 := iR2.frozen 0
      have fR1 := iR2.frozen 1
      go_wp2
      go_loopw [5, 6] (fun n i wr => ∃ k : Nat, k ≤ 4 ∧ i = .int .i64 (k : Int) ∧ n = .int .i64 (rdo10 B m k : Int) ∧ W2 = wr)
        (fun _ i _ => 4 - (intOf i).toNat)
      case atStart => exact ⟨0, by omega, rfl, rfl, rfl⟩
      case round =>
        obtain ⟨k, hk, rfl, rfl, rfl⟩ := hrel
        by_cases hlt : k < 4
        · have g2 : (k : Int) < 4 := by omega
          have hb := HBD.out k hlt
          have HST := Lib.hid (show rdo10 B m (k + 1) = 256 * rdo10 B m k + bt7 B (m + k) from rfl)
          have hkl : m + k < B.size := by have := H4.out; omega
          have hget := bt7_get hkl
          have hbl := bt7_lt B (m + k)
          have hm6 : m ≤ 65536 := by have := H65.out; omega
          generalize rdo10 B m k = y at *
          generalize bt7 B (m + k) = z at *
          have wp := IntWalk.i64_in (256 * (y : Int)) (by omega)
          have wq := IntWalk.i64_in (256 * (y : Int) + (z : Int)) (by omega)
          have wr' := IntWalk.i64_in ((m : Int) + (k : Int)) (by omega)
          go_wp2
          go_roundw
          case rel => exact ⟨k + 1, by omega, by go_num, by rw [HST.out]; go_num, trivial⟩
          case measure => simp [intOf]; omega
        · have g2 : ¬ (k : Int) < 4 := by omega
          obtain rfl : k = 4 := by omega
          generalize rdo10 B m 4 = N at *
          by_cases hN : 2147483647 < N
          · have g3 : 2147483647 < (N : Int) := by omega
            have HR := Lib.hid (HF.out hN)
            clear hN HF HO
            go_wp2
            go_region_held3 (fun w' => w'.cell? ⟨w.heap.size, 0, none⟩ = some (.string B) ∧ w'.cell? ⟨w.heap.size, 1, none⟩ = some (.int .i64 (m : Int))) (go_keep) (fail)
            go_wp2
            have iZ : Is (((W2.setCell ⟨w.heap.size + 1, 0, none⟩ (.string B)).setCell ⟨w.heap.size + 1, 1, none⟩ (.int .i64 (m : Int))).drew) (w.heap.size + 1) 64 #[.string B, .int .i64 (m : Int)] := (iR2.pair10 (.string B) (.int .i64 (m : Int))).drewN 1
            exact bodyPost_ret (results_tct10 Try.results39 _ _ _ (w.heap.size + 1) 64 #[.string B, .int .i64 (m : Int)] (0, 0) _ rfl iZ Try.underlying64 infoCur10) rfl ⟨by rw [HR.out]; rfl, below_pair10 hB2 (by omega) _ _⟩
          · have g3 : ¬ 2147483647 < (N : Int) := by omega
            have HR := Lib.hid (HO.out hN)
            have hm6 : m ≤ 65536 := by have := H65.out; have := H4.out; omega
            have w4i := IntWalk.i64_in ((m : Int) + 4) (by omega)
            clear hN HF HO
            go_wp2
            go_region_held3 (fun w' => w'.cell? ⟨w.heap.size, 0, none⟩ = some (.string B) ∧ w'.cell? ⟨w.heap.size, 1, none⟩ = some (.int .i64 (m : Int))) (go_keep) (fail)
            go_wp2
            have iZ : Is (((W2.setCell ⟨w.heap.size + 1, 0, none⟩ (.string B)).setCell ⟨w.heap.size + 1, 1, none⟩ (.int .i64 ((m : Int) + 4))).drew) (w.heap.size + 1) 64 #[.string B, .int .i64 ((m : Int) + 4)] := (iR2.pair10 (.string B) (.int .i64 ((m : Int) + 4))).drewN 1
            exact bodyPost_ret (results_tct10 Try.results39 _ _ _ (w.heap.size + 1) 64 #[.string B, .int .i64 ((m : Int) + 4)] (0, 0) _ rfl iZ Try.underlying64 infoCur10) rfl ⟨by rw [HR.out]; rfl, below_pair10 hB2 (by omega) _ _⟩
  | false =>
    have hv := tn_wrong10 hr
    have HR := Lib.hid (show tnR10 B a = .tuple #[.int .i64 0, .agg #[.string B, .int .i64 a], .int .i64 1] by rw [tnR10, hv])
    rw [hr] at C
    clear hr hv
    go_enter Try.func39, Try.ntmps39
    go_wp2_with fail
    rw [← hW1]
    have hB1 : Below w.heap.size w W1 := by rw [hW1]; exact ((Below.refl _ _).alloc (Nat.le_refl _) _).alloc (by simp) _
    have iA1 : Is W1 w.heap.size 64 #[.string B, .int .i64 a] := by rw [hW1]; exact heap_alloc2_old w _ _
    have iR1 : Is W1 (w.heap.size + 1) 64 #[.string ⟨#[]⟩, .int .i64 0] := by rw [hW1]; exact heap_alloc2_new w _ _
    clear hW1
    refine (C.out _).mono ?_
    rintro e W2 ⟨rfl, hb⟩
    have hB2 := hB1.trans (hb.mono hB1.size)
    have iA2 := iA1.below hb iA1.lt
    have iR2 := iR1.below hb iR1.lt
    clear hb hB1 iA1 iR1
    have cA0 : W2.cell? ⟨w.heap.size, 0, none⟩ = some (.string B) := iA2.cell 0
    have cA1 : W2.cell? ⟨w.heap.size, 1, none⟩ = some (.int .i64 a) := iA2.cell 1
    have cR0 : W2.cell? ⟨w.heap.size + 1, 0, none⟩ = some (.string ⟨#[]⟩) := iR2.cell 0
    have cR1 : W2.cell? ⟨w.heap.size + 1, 1, none⟩ = some (.int .i64 0) := iR2.cell 1
    have fR0 := iR2.frozen 0
    have fR1 := iR2.frozen 1
    go_wp2
    go_region_held3 (fun w' => w'.cell? ⟨w.heap.size, 0, none⟩ = some (.string B) ∧ w'.cell? ⟨w.heap.size, 1, none⟩ = some (.int .i64 a)) (go_keep) (fail)
    go_wp2
    have iZ : Is (((W2.setCell ⟨w.heap.size + 1, 0, none⟩ (.string B)).setCell ⟨w.heap.size + 1, 1, none⟩ (.int .i64 a)).drew) (w.heap.size + 1) 64 #[.string B, .int .i64 a] := (iR2.pair10 (.string B) (.int .i64 a)).drewN 1
    exact bodyPost_ret (results_tct10 Try.results39 _ _ _ (w.heap.size + 1) 64 #[.string B, .int .i64 a] (0, 0) _ rfl iZ Try.underlying64 infoCur10) rfl ⟨by rw [HR.out]; rfl, below_pair10 hB2 (by omega) _ _⟩
end Go.Proofs.Ytapfbcpbiagogaa
