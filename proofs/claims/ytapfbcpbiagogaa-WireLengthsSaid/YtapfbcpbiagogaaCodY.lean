/-
  Contracts of codec.TakeNumber, TakeText, TakeList and End: they answer what the plain functions say, errors and all. No conditions.
-/
import Derived.Test.YtapfbcpbiagogaaCodX
namespace Go.Proofs.Ytapfbcpbiagogaa
open Go.RowKit Go.Shelf

set_option maxRecDepth 100000 in
set_option maxHeartbeats 2000000 in
theorem cn_any10 (B : ByteArray) (a : Int) (w : World) :
    Calls Try.prog 59 #[.agg #[.string B, .int .i64 a]] w fun e w' => e = .returned (tnR10 B a) ∧ Below w.heap.size w w' := by
  have C := Lib.hid (take_n10 B a)
  obtain ⟨W1, hW1⟩ : ∃ W1, W1 = (w.alloc (.cells #[.string B, .int .i64 a] 64)).alloc (.cells #[.string ⟨#[]⟩, .int .i64 0] 64) := ⟨_, rfl⟩
  rw [tnR10] at C ⊢
  generalize tnV10 B a = V at *
  obtain ⟨x, p, e0⟩ := V
  simp only at C ⊢
  go_enter Try.func59, Try.ntmps59
  go_wp2_with fail
  rw [← hW1]
  have hB1 : Below w.heap.size w W1 := by rw [hW1]; exact ((Below.refl _ _).alloc (Nat.le_refl _) _).alloc (by simp) _
  have iA1 : Is W1 w.heap.size 64 #[.string B, .int .i64 a] := by rw [hW1]; exact heap_alloc2_old w _ _
  have iR1 : Is W1 (w.heap.size + 1) 64 #[.string ⟨#[]⟩, .int .i64 0] := by rw [hW1]; exact heap_alloc2_new w _ _
  clear hW1
  refine (C.out _).mono ?_
  rintro e W2 ⟨rfl, hb⟩
  have hB2 := hB1.trans (hb.mono hB1.size)
  have iA2 := iA1.below hb iA1.lt
  have iR2 := iR1.below hb iR1.lt
  clear hb hB1 iA1 iR1
  have cA0 : W2.cell? ⟨w.heap.size, 0, none⟩ = some (.string B) := iA2.cell 0
  have cA1 : W2.cell? ⟨w.heap.size, 1, none⟩ = some (.int .i64 a) := iA2.cell 1
  have cR0 : W2.cell? ⟨w.heap.size + 1, 0, none⟩ = some (.string ⟨#[]⟩) := iR2.cell 0
  have cR1 : W2.cell? ⟨w.heap.size + 1, 1, none⟩ = some (.int .i64 0) := iR2.cell 1
  have fR0 := iR2.frozen 0
  have fR1 := iR2.frozen 1
  go_wp2
  have iZ : Is ((W2.setCell ⟨w.heap.size + 1, 0, none⟩ (.string B)).setCell ⟨w.heap.size + 1, 1, none⟩ (.int .i64 p)) (w.heap.size + 1) 64 #[.string B, .int .i64 p] := iR2.pair10 _ _
  exact bodyPost_ret (results_tct10 Try.results59 _ _ _ (w.heap.size + 1) 64 #[.string B, .int .i64 p] (0, 0) _ rfl iZ Try.underlying64 infoCur10) rfl ⟨rfl, (hB2.setCell (p := ⟨w.heap.size + 1, 0, none⟩) (by simp) _).setCell (p := ⟨w.heap.size + 1, 1, none⟩) (by simp) _⟩

set_option maxRecDepth 100000 in
set_option maxHeartbeats 2000000 in
theorem cl_any10 (B : ByteArray) (a : Int) (w : World) :
    Calls Try.prog 61 #[.agg #[.string B, .int .i64 a]] w fun e w' => ∃ A c, e = .returned (tlR10 B a A c) ∧ Lst10 w.heap.size w' A (tlV10 B a).1 ∧ Below w.heap.size w w' := by
  have C := Lib.hid (take_l10 B a)
  obtain ⟨W1, hW1⟩ : ∃ W1, W1 = (w.alloc (.cells #[.string B, .int .i64 a] 64)).alloc (.cells #[.string ⟨#[]⟩, .int .i64 0] 64) := ⟨_, rfl⟩
  simp only [tlR10] at C ⊢
  generalize tlV10 B a = V at *
  obtain ⟨x, p, e0⟩ := V
  simp only at C ⊢
  go_enter Try.func61, Try.ntmps61
  go_wp2_with fail
  rw [← hW1]
  have hB1 : Below w.heap.size w W1 := by rw [hW1]; exact ((Below.refl _ _).alloc (Nat.le_refl _) _).alloc (by simp) _
  have iA1 : Is W1 w.heap.size 64 #[.string B, .int .i64 a] := by rw [hW1]; exact heap_alloc2_old w _ _
  have iR1 : Is W1 (w.heap.size + 1) 64 #[.string ⟨#[]⟩, .int .i64 0] := by rw [hW1]; exact heap_alloc2_new w _ _
  clear hW1
  refine (C.out _).mono ?_
  rintro e W2 ⟨A', c', rfl, hL, hb⟩
  have hB2 := hB1.trans (hb.mono hB1.size)
  have iA2 := iA1.below hb iA1.lt
  have iR2 := iR1.below hb iR1.lt
  have hL2 : Lst10 W1.heap.size W2 A' x := hL
  have hB1s := hB1.size
  have hRl := iR1.lt
  clear hL
  clear hb hB1 iA1 iR1
  have cA0 : W2.cell? ⟨w.heap.size, 0, none⟩ = some (.string B) := iA2.cell 0
  have cA1 : W2.cell? ⟨w.heap.size, 1, none⟩ = some (.int .i64 a) := iA2.cell 1
  have cR0 : W2.cell? ⟨w.heap.size + 1, 0, none⟩ = some (.string ⟨#[]⟩) := iR2.cell 0
  have cR1 : W2.cell? ⟨w.heap.size + 1, 1, none⟩ = some (.int .i64 0) := iR2.cell 1
  have fR0 := iR2.frozen 0
  have fR1 := iR2.frozen 1
  go_wp2
  have iZ : Is ((W2.setCell ⟨w.heap.size + 1, 0, none⟩ (.string B)).setCell ⟨w.heap.size + 1, 1, none⟩ (.int .i64 p)) (w.heap.size + 1) 64 #[.string B, .int .i64 p] := iR2.pair10 _ _
  exact bodyPost_ret (results_tct10 Try.results61 _ _ _ (w.heap.size + 1) 64 #[.string B, .int .i64 p] (0, 0) _ rfl iZ Try.underlying64 infoCur10) rfl ⟨A', c', rfl, (((hL2.far (p := ⟨w.heap.size + 1, 0, none⟩) hRl _).far (p := ⟨w.heap.size + 1, 1, none⟩) hRl _)).mono hB1s, (hB2.setCell (p := ⟨w.heap.size + 1, 0, none⟩) (by simp) _).setCell (p := ⟨w.heap.size + 1, 1, none⟩) (by simp) _⟩

set_option maxRecDepth 100000 in
set_option maxHeartbeats 1000000 in
theorem cend_any10 (B : ByteArray) (a : Int) (w : World) :
    Calls Try.prog 62 #[.agg #[.string B, .int .i64 a]] w fun e w' => e = .returned (.int .i64 (endV10 B a)) ∧ Below w.heap.size w w' := by
  have C := Lib.hid (cright_any10 B a)
  have hB : Below w.heap.size w (w.alloc (.cells #[.string B, .int .i64 a] 64)) := (Below.refl _ _).alloc (Nat.le_refl _) _
  have i1 := Is.new w 64 #[.string B, .int .i64 a]
  obtain ⟨W1, hW1⟩ : ∃ W1, W1 = w.alloc (.cells #[.string B, .int .i64 a] 64) := ⟨_, rfl⟩
  rw [← hW1] at hB i1
  cases hr : rightV B a with
  | true =>
    rw [hr] at C
    by_cases h : a < (B.size : Int)
    · have hv : endV10 B a = 13 := by rw [endV10, if_pos hr, if_pos h]
      rw [hv]
      clear hr hv
      go_enter Try.func62, Try.ntmps62
      go_wp2_with fail
      rw [← hW1]
      clear hW1
      refine (C.out _).mono ?_
      rintro e W2 ⟨rfl, hb⟩
      have i2 := i1.below hb i1.lt
      have c0 : W2.cell? ⟨w.heap.size, 0, none⟩ = some (.string B) := i2.cell 0
      have c1 : W2.cell? ⟨w.heap.size, 1, none⟩ = some (.int .i64 a) := i2.cell 1
      go_wp2
      go_ret
      exact ⟨rfl, hB.trans (hb.mono hB.size)⟩
    · have hv : endV10 B a = 0 := by rw [endV10, if_pos hr, if_neg h]
      rw [hv]
      clear hr hv
      go_enter Try.func62, Try.ntmps62
      go_wp2_with fail
      rw [← hW1]
      clear hW1
      refine (C.out _).mono ?_
      rintro e W2 ⟨rfl, hb⟩
      have i2 := i1.below hb i1.lt
      have c0 : W2.cell? ⟨w.heap.size, 0, none⟩ = some (.string B) := i2.cell 0
      have c1 : W2.cell? ⟨w.heap.size, 1, none⟩ = some (.int .i64 a) := i2.cell 1
      go_wp2
      go_ret
      exact ⟨rfl, hB.trans (hb.mono hB.size)⟩
  | false =>
    rw [hr] at C
    have hv : endV10 B a = 1 := by rw [endV10, if_neg (by rw [hr]; decide)]
    rw [hv]
    clear hr hv
    go_enter Try.func62, Try.ntmps62
    go_wp2_with fail
    rw [← hW1]
    clear hW1
    refine (C.out _).mono ?_
    rintro e W2 ⟨rfl, hb⟩
    go_wp2
    go_ret
    exact ⟨rfl, hB.trans (hb.mono hB.size)⟩

set_option maxRecDepth 100000 in
set_option maxHeartbeats 1000000 in
theorem dright_any10 (B : ByteArray) (a : Int) (w : World) :
    Calls Try.prog 63 #[.agg #[.string B, .int .i64 a]] w fun e w' => e = .returned (.bool (rightV B a)) ∧ Below w.heap.size w w' := by
  have HD : Hid (rightV B a = (decide ((B.size : Int) ≤ 65536) && (decide (0 ≤ a) && decide (a ≤ (B.size : Int))))) := Lib.hid rfl
  generalize rightV B a = R at *
  have hB : Below w.heap.size w (w.alloc (.cells #[.string B, .int .i64 a] 64)) := (Below.refl _ _).alloc (Nat.le_refl _) _
  have i1 := Is.new w 64 #[.string B, .int .i64 a]
  have c0 : (w.alloc (.cells #[.string B, .int .i64 a] 64)).cell? ⟨w.heap.size, 0, none⟩ = some (.string B) := i1.cell 0
  have c1 : (w.alloc (.cells #[.string B, .int .i64 a] 64)).cell? ⟨w.heap.size, 1, none⟩ = some (.int .i64 a) := i1.cell 1
  clear i1
  by_cases h1 : (B.size : Int) ≤ 65536
  · by_cases h2 : 0 ≤ a
    · by_cases h3 : a ≤ (B.size : Int)
      · obtain rfl : R = true := by rw [HD.out]; simp [h1, h2, h3]
        go_enter Try.func63, Try.ntmps63
        go_wp2
        go_ret
        exact ⟨rfl, hB⟩
      · obtain rfl : R = false := by rw [HD.out]; simp [h3]
        go_enter Try.func63, Try.ntmps63
        go_wp2
        go_ret
        exact ⟨rfl, hB⟩
    · obtain rfl : R = false := by rw [HD.out]; simp [h2]
      go_enter Try.func63, Try.ntmps63
      go_wp2
      go_ret
      exact ⟨rfl, hB⟩
  · obtain rfl : R = false := by rw [HD.out]; simp [h1]
    go_enter Try.func63, Try.ntmps63
    go_wp2
    go_ret
    exact ⟨rfl, hB⟩

set_option maxRecDepth 100000 in
set_option maxHeartbeats 1000000 in
theorem dend_any10 (B : ByteArray) (a : Int) (w : World) :
    Calls Try.prog 41 #[.agg #[.string B, .int .i64 a]] w fun e w' => e = .returned (.int .i64 (endV10 B a)) ∧ Below w.heap.size w w' := by
  have C := Lib.hid (dright_any10 B a)
  have hB : Below w.heap.size w (w.alloc (.cells #[.string B, .int .i64 a] 64)) := (Below.refl _ _).alloc (Nat.le_refl _) _
  have i1 := Is.new w 64 #[.string B, .int .i64 a]
  obtain ⟨W1, hW1⟩ : ∃ W1, W1 = w.alloc (.cells #[.string B, .int .i64 a] 64) := ⟨_, rfl⟩
  rw [← hW1] at hB i1
  cases hr : rightV B a with
  | true =>
    rw [hr] at C
    by_cases h : a < (B.size : Int)
    · have hv : endV10 B a = 13 := by rw [endV10, if_pos hr, if_pos h]
      rw [hv]
      clear hr hv
      go_enter Try.func41, Try.ntmps41
      go_wp2_with fail
      rw [← hW1]
      clear hW1
      refine (C.out _).mono ?_
      rintro e W2 ⟨rfl, hb⟩
      have i2 := i1.below hb i1.lt
      have c0 : W2.cell? ⟨w.heap.size, 0, none⟩ = some (.string B) := i2.cell 0
      have c1 : W2.cell? ⟨w.heap.size, 1, none⟩ = some (.int .i64 a) := i2.cell 1
      go_wp2
      go_ret
      exact ⟨rfl, hB.trans (hb.mono hB.size)⟩
    · have hv : endV10 B a = 0 := by rw [endV10, if_pos hr, if_neg h]
      rw [hv]
      clear hr hv
      go_enter Try.func41, Try.ntmps41
      go_wp2_with fail
      rw [← hW1]
      clear hW1
      refine (C.out _).mono ?_
      rintro e W2 ⟨rfl, hb⟩
      have i2 := i1.below hb i1.lt
      have c0 : W2.cell? ⟨w.heap.size, 0, none⟩ = some (.string B) := i2.cell 0
      have c1 : W2.cell? ⟨w.heap.size, 1, none⟩ = some (.int .i64 a) := i2.cell 1
      go_wp2
      go_ret
      exact ⟨rfl, hB.trans (hb.mono hB.size)⟩
  | false =>
    rw [hr] at C
    have hv : endV10 B a = 1 := by rw [endV10, if_neg (by rw [hr]; decide)]
    rw [hv]
    clear hr hv
    go_enter Try.func41, Try.ntmps41
    go_wp2_with fail
    rw [← hW1]
    clear hW1
    refine (C.out _).mono ?_
    rintro e W2 ⟨rfl, hb⟩
    go_wp2
    go_ret
    exact ⟨rfl, hB.trans (hb.mono hB.size)⟩
end Go.Proofs.Ytapfbcpbiagogaa
