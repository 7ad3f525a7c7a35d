/-
  Contracts of the document's own TakeText. No conditions.
-/
import Derived.Test.YtapfbcpbiagogaaCodZ
namespace Go.Proofs.Ytapfbcpbiagogaa
open Go.RowKit Go.Shelf

set_option maxRecDepth 100000 in
set_option maxHeartbeats 4000000 in
theorem dt_any10 (B : ByteArray) (a : Int) (w : World) :
    Calls Try.prog 64 #[.agg #[.string B, .int .i64 a]] w fun e w' => e = .returned (ttR10 B a) ∧ Below w.heap.size w w' := by
  have C := Lib.hid (dn_any10 B a)
  obtain ⟨W1, hW1⟩ : ∃ W1, W1 = (w.alloc (.cells #[.string B, .int .i64 a] 64)).alloc (.cells #[.string ⟨#[]⟩, .int .i64 0] 64) := ⟨_, rfl⟩
  by_cases he : (tnV10 B a).2.2 = 0
  · obtain ⟨hN, hb⟩ := tn_ok10 he
    have hq : tnV10 B a = ((tnV10 B a).1, a + 4, 0) := Prod.ext rfl (Prod.ext hb he)
    have h1 := hN.right
    have h2 := hN.bd
    rw [tnR10, hb, he] at C
    generalize (tnV10 B a).1 = n at *
    have g0 := h1.1
    have g1 := h1.2.1
    have g2 := h1.2.2
    have g3 := h2.1
    have g4 := h2.2
    by_cases hs : (B.size : Int) - (a + 4) < n
    · have HR := Lib.hid (show ttR10 B a = .tuple #[.string ⟨#[]⟩, .agg #[.string B, .int .i64 a], .int .i64 10] by rw [ttR10, tt_short10 hq (by omega)])
      clear hN hb hq he h1 h2
      go_enter Try.func64, Try.ntmps64
      go_wp2_with fail
      rw [← hW1]
      have hB1 : Below w.heap.size w W1 := by rw [hW1]; exact ((Below.refl _ _).alloc (Nat.le_refl _) _).alloc (by simp) _
      have iA1 : Is W1 w.heap.size 64 #[.string B, .int .i64 a] := by rw [hW1]; exact heap_alloc2_old w _ _
      have iR1 : Is W1 (w.heap.size + 1) 64 #[.string ⟨#[]⟩, .int .i64 0] := by rw [hW1]; exact heap_alloc2_new w _ _
      clear hW1
      refine (C.out _).mono ?_
      rintro e W2 ⟨rfl, hb⟩
      have hB2 := hB1.trans (hb.mono hB1.size)
      have iA2 := iA1.below hb iA1.lt
      have iR2 := iR1.below hb iR1.lt
      clear hb hB1 iA1 iR1
      have cA0 : W2.cell? ⟨w.heap.size, 0, none⟩ = some (.string B) := iA2.cell 0
      have cA1 : W2.cell? ⟨w.heap.size, 1, none⟩ = some (.int .i64 a) := iA2.cell 1
      have cR0 : W2.cell? ⟨w.heap.size + 1, 0, none⟩ = some (.string ⟨#[]⟩) := iR2.cell 0
      have cR1 : W2.cell? ⟨w.heap.size + 1, 1, none⟩ = some (.int .i64 0) := iR2.cell 1
      have fR0 := iR2.frozen 0
      have fR1 := iR2.frozen 1
      go_wp2
      have iD3 : Is (W2.alloc (.cells #[.string B, .int .i64 (a + 4)] 64)) W2.heap.size 64 #[.string B, .int .i64 (a + 4)] := Is.new W2 _ _
      have hB3 : Below w.heap.size w (W2.alloc (.cells #[.string B, .int .i64 (a + 4)] 64)) := hB2.alloc hB2.size _
      have iA3 := iA2.alloc (.cells #[.string B, .int .i64 (a + 4)] 64)
      have iR3 := iR2.alloc (.cells #[.string B, .int .i64 (a + 4)] 64)
      have hD := iR2.lt
      generalize W2.alloc (.cells #[.string B, .int .i64 (a + 4)] 64) = W3 at *
      generalize W2.heap.size = D at *
      have hn1' : D ≠ w.heap.size + 1 := by omega
      have hn2' : w.heap.size + 1 ≠ D := by omega
      clear cA0 cA1 cR0 cR1 fR0 fR1 hB2 iA2 iR2
      have cA0 : W3.cell? ⟨w.heap.size, 0, none⟩ = some (.string B) := iA3.cell 0
      have cA1 : W3.cell? ⟨w.heap.size, 1, none⟩ = some (.int .i64 a) := iA3.cell 1
      have cR0 : W3.cell? ⟨w.heap.size + 1, 0, none⟩ = some (.string ⟨#[]⟩) := iR3.cell 0
      have cR1 : W3.cell? ⟨w.heap.size + 1, 1, none⟩ = some (.int .i64 0) := iR3.cell 1
      have fR0 := iR3.frozen 0
      have fR1 := iR3.frozen 1
      go_region_held3 (fun w' => w'.cell? ⟨w.heap.size, 0, none⟩ = some (.string B) ∧ w'.cell? ⟨w.heap.size, 1, none⟩ = some (.int .i64 a)) (go_keep) (fail)
      go_wp2
      have iZ : Is (((W3.setCell ⟨w.heap.size + 1, 0, none⟩ (.string B)).setCell ⟨w.heap.size + 1, 1, none⟩ (.int .i64 a)).drew) (w.heap.size + 1) 64 #[.string B, .int .i64 a] := (iR3.pair10 (.string B) (.int .i64 a)).drewN 1
      exact bodyPost_ret (results_tct10 Try.results64 _ _ _ (w.heap.size + 1) 64 #[.string B, .int .i64 a] (0, 0) _ rfl iZ Try.underlying64 infoCur10) rfl ⟨by rw [HR.out]; rfl, below_pair10 hB3 (by omega) _ _⟩
    · have HR := Lib.hid (show ttR10 B a = .tuple #[.string (B.extract (a + 4).toNat (a + 4 + n).toNat), .agg #[.string B, .int .i64 (a + 4 + n)], .int .i64 0] by rw [ttR10, tt_of10 hq (by omega)])
      have hsl := fun wx : World => run_slice_string (P := Try.prog) wx 9 B .i64 .i64 (a + 4) (a + 4 + n) Try.underlying9 (by omega) (by omega) (by omega)
      have w1i := IntWalk.i64_in (a + 4 + n) (by omega)
      clear hN hb hq he h1 h2
      go_enter Try.func64, Try.ntmps64
      go_wp2_with fail
      rw [← hW1]
      have hB1 : Below w.heap.size w W1 := by rw [hW1]; exact ((Below.refl _ _).alloc (Nat.le_refl _) _).alloc (by simp) _
      have iA1 : Is W1 w.heap.size 64 #[.string B, .int .i64 a] := by rw [hW1]; exact heap_alloc2_old w _ _
      have iR1 : Is W1 (w.heap.size + 1) 64 #[.string ⟨#[]⟩, .int .i64 0] := by rw [hW1]; exact heap_alloc2_new w _ _
      clear hW1
      refine (C.out _).mono ?_
      rintro e W2 ⟨rfl, hb⟩
      have hB2 := hB1.trans (hb.mono hB1.size)
      have iA2 := iA1.below hb iA1.lt
      have iR2 := iR1.below hb iR1.lt
      clear hb hB1 iA1 iR1
      have cA0 : W2.cell? ⟨w.heap.size, 0, none⟩ = some (.string B) := iA2.cell 0
      have cA1 : W2.cell? ⟨w.heap.size, 1, none⟩ = some (.int .i64 a) := iA2.cell 1
      have cR0 : W2.cell? ⟨w.heap.size + 1, 0, none⟩ = some (.string ⟨#[]⟩) := iR2.cell 0
      have cR1 : W2.cell? ⟨w.heap.size + 1, 1, none⟩ = some (.int .i64 0) := iR2.cell 1
      have fR0 := iR2.frozen 0
      have fR1 := iR2.frozen 1
      go_wp2
      have iD3 : Is (W2.alloc (.cells #[.string B, .int .i64 (a + 4)] 64)) W2.heap.size 64 #[.string B, .int .i64 (a + 4)] := Is.new W2 _ _
      have hB3 : Below w.heap.size w (W2.alloc (.cells #[.string B, .int .i64 (a + 4)] 64)) := hB2.alloc hB2.size _
      have iA3 := iA2.alloc (.cells #[.string B, .int .i64 (a + 4)] 64)
      have iR3 := iR2.alloc (.cells #[.string B, .int .i64 (a + 4)] 64)
      have hD := iR2.lt
      generalize W2.alloc (.cells #[.string B, .int .i64 (a + 4)] 64) = W3 at *
      generalize W2.heap.size = D at *
      have hn1' : D ≠ w.heap.size + 1 := by omega
      have hn2' : w.heap.size + 1 ≠ D := by omega
      clear cA0 cA1 cR0 cR1 fR0 fR1 hB2 iA2 iR2
      have cA0 : W3.cell? ⟨w.heap.size, 0, none⟩ = some (.string B) := iA3.cell 0
      have cA1 : W3.cell? ⟨w.heap.size, 1, none⟩ = some (.int .i64 a) := iA3.cell 1
      have cR0 : W3.cell? ⟨w.heap.size + 1, 0, none⟩ = some (.string ⟨#[]⟩) := iR3.cell 0
      have cR1 : W3.cell? ⟨w.heap.size + 1, 1, none⟩ = some (.int .i64 0) := iR3.cell 1
      have fR0 := iR3.frozen 0
      have fR1 := iR3.frozen 1
      have cD0 : W3.cell? ⟨D, 0, none⟩ = some (.string B) := iD3.cell 0
      have cD1 : W3.cell? ⟨D, 1, none⟩ = some (.int .i64 (a + 4)) := iD3.cell 1
      go_region_held3 (fun w' => w'.cell? ⟨D, 0, none⟩ = some (.string B) ∧ w'.cell? ⟨D, 1, none⟩ = some (.int .i64 (a + 4))) (go_keep) (fail)
      go_wp2
      have iZ : Is (((W3.setCell ⟨w.heap.size + 1, 0, none⟩ (.string B)).setCell ⟨w.heap.size + 1, 1, none⟩ (.int .i64 (a + 4 + n))).drew) (w.heap.size + 1) 64 #[.string B, .int .i64 (a + 4 + n)] := (iR3.pair10 (.string B) (.int .i64 (a + 4 + n))).drewN 1
      exact bodyPost_ret (results_tct10 Try.results64 _ _ _ (w.heap.size + 1) 64 #[.string B, .int .i64 (a + 4 + n)] (0, 0) _ rfl iZ Try.underlying64 infoCur10) rfl ⟨by rw [HR.out]; rfl, below_pair10 hB3 (by omega) _ _⟩
  · have hk := tn_keep10 he
    have HR := Lib.hid (show ttR10 B a = .tuple #[.string ⟨#[]⟩, .agg #[.string B, .int .i64 a], .int .i64 (tnV10 B a).2.2] by rw [ttR10, tt_num10 he])
    rw [tnR10, hk] at C
    clear hk
    generalize (tnV10 B a).2.2 = e0 at *
    go_enter Try.func64, Try.ntmps64
    go_wp2_with fail
    rw [← hW1]
    have hB1 : Below w.heap.size w W1 := by rw [hW1]; exact ((Below.refl _ _).alloc (Nat.le_refl _) _).alloc (by simp) _
    have iA1 : Is W1 w.heap.size 64 #[.string B, .int .i64 a] := by rw [hW1]; exact heap_alloc2_old w _ _
    have iR1 : Is W1 (w.heap.size + 1) 64 #[.string ⟨#[]⟩, .int .i64 0] := by rw [hW1]; exact heap_alloc2_new w _ _
    clear hW1
    refine (C.out _).mono ?_
    rintro e W2 ⟨rfl, hb⟩
    have hB2 := hB1.trans (hb.mono hB1.size)
    have iA2 := iA1.below hb iA1.lt
    have iR2 := iR1.below hb iR1.lt
    clear hb hB1 iA1 iR1
    have cA0 : W2.cell? ⟨w.heap.size, 0, none⟩ = some (.string B) := iA2.cell 0
    have cA1 : W2.cell? ⟨w.heap.size, 1, none⟩ = some (.int .i64 a) := iA2.cell 1
    have cR0 : W2.cell? ⟨w.heap.size + 1, 0, none⟩ = some (.string ⟨#[]⟩) := iR2.cell 0
    have cR1 : W2.cell? ⟨w.heap.size + 1, 1, none⟩ = some (.int .i64 0) := iR2.cell 1
    have fR0 := iR2.frozen 0
    have fR1 := iR2.frozen 1
    go_wp2
    have iD3 : Is (W2.alloc (.cells #[.string B, .int .i64 (a)] 64)) W2.heap.size 64 #[.string B, .int .i64 (a)] := Is.new W2 _ _
    have hB3 : Below w.heap.size w (W2.alloc (.cells #[.string B, .int .i64 (a)] 64)) := hB2.alloc hB2.size _
    have iA3 := iA2.alloc (.cells #[.string B, .int .i64 (a)] 64)
    have iR3 := iR2.alloc (.cells #[.string B, .int .i64 (a)] 64)
    have hD := iR2.lt
    generalize W2.alloc (.cells #[.string B, .int .i64 (a)] 64) = W3 at *
    generalize W2.heap.size = D at *
    have hn1' : D ≠ w.heap.size + 1 := by omega
    have hn2' : w.heap.size + 1 ≠ D := by omega
    clear cA0 cA1 cR0 cR1 fR0 fR1 hB2 iA2 iR2
    have cA0 : W3.cell? ⟨w.heap.size, 0, none⟩ = some (.string B) := iA3.cell 0
    have cA1 : W3.cell? ⟨w.heap.size, 1, none⟩ = some (.int .i64 a) := iA3.cell 1
    have cR0 : W3.cell? ⟨w.heap.size + 1, 0, none⟩ = some (.string ⟨#[]⟩) := iR3.cell 0
    have cR1 : W3.cell? ⟨w.heap.size + 1, 1, none⟩ = some (.int .i64 0) := iR3.cell 1
    have fR0 := iR3.frozen 0
    have fR1 := iR3.frozen 1
    go_region_held3 (fun w' => w'.cell? ⟨w.heap.size, 0, none⟩ = some (.string B) ∧ w'.cell? ⟨w.heap.size, 1, none⟩ = some (.int .i64 a)) (go_keep) (fail)
    go_wp2
    have iZ : Is (((W3.setCell ⟨w.heap.size + 1, 0, none⟩ (.string B)).setCell ⟨w.heap.size + 1, 1, none⟩ (.int .i64 a)).drew) (w.heap.size + 1) 64 #[.string B, .int .i64 a] := (iR3.pair10 (.string B) (.int .i64 a)).drewN 1
    exact bodyPost_ret (results_tct10 Try.results64 _ _ _ (w.heap.size + 1) 64 #[.string B, .int .i64 a] (0, 0) _ rfl iZ Try.underlying64 infoCur10) rfl ⟨by rw [HR.out]; rfl, below_pair10 hB3 (by omega) _ _⟩
end Go.Proofs.Ytapfbcpbiagogaa
