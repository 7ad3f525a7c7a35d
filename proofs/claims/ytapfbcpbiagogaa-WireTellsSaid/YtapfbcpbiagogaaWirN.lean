/-
  Contracts of the document's own Same and Alike.
-/
import Derived.Test.YtapfbcpbiagogaaWirL
namespace Go.Proofs.Ytapfbcpbiagogaa
open Go.RowKit Go.Shelf

set_option maxRecDepth 100000 in
set_option maxHeartbeats 4000000 in
theorem same_any11 (k k2 : Int) (A1 A2 B1 B2 : Option Addr) (c1 c2 e1 e2 : Nat) (L C L2 C2 : List ByteArray) (w : World) (hl : L.length ≤ 9223372036854775807) (hl2 : C.length ≤ 9223372036854775807) (hl3 : L2.length ≤ 9223372036854775807) (hl4 : C2.length ≤ 9223372036854775807)
    (h1 : InV w A1 (tL10 L)) (h2 : InV w A2 (tL10 C)) (h3 : InV w B1 (tL10 L2)) (h4 : InV w B2 (tL10 C2)) :
    Calls Try.prog 20 #[.agg #[.int .i64 k, .slice A1 L.length c1, .slice A2 C.length c2], .agg #[.int .i64 k2, .slice B1 L2.length e1, .slice B2 C2.length e2]] w fun e w' => e = .returned (.bool (decide (k = k2) && (decide (L = L2) && decide (C = C2)))) ∧ Below w.heap.size w w' := by
  obtain ⟨W1, hW1⟩ : ∃ W1, W1 = (w.alloc (.cells #[.int .i64 k, .slice A1 L.length c1, .slice A2 C.length c2] 26)).alloc (.cells #[.int .i64 k2, .slice B1 L2.length e1, .slice B2 C2.length e2] 26) := ⟨_, rfl⟩
  have ia : Is W1 w.heap.size 26 #[.int .i64 k, .slice A1 L.length c1, .slice A2 C.length c2] := by rw [hW1]; exact heap_alloc2_old w _ _
  have ib : Is W1 (w.heap.size + 1) 26 #[.int .i64 k2, .slice B1 L2.length e1, .slice B2 C2.length e2] := by rw [hW1]; exact heap_alloc2_new w _ _
  have hB : Below w.heap.size w W1 := by rw [hW1]; exact ((Below.refl _ _).alloc (Nat.le_refl _) _).alloc (by simp) _
  have T1 := Lib.hid (texts_any11 A1 B1 c1 e1 L L2 W1 hl hl3 (h1.keep hB) (h3.keep hB))
  have T2 := Lib.hid (fun W (hb : Below w.heap.size w W) => texts_any11 A2 B2 c2 e2 C C2 W hl2 hl4 (h2.keep hb) (h4.keep hb))
  have IA := Lib.hid ia
  have IB := Lib.hid ib
  have a0 : W1.cell? ⟨w.heap.size, 0, none⟩ = some (.int .i64 k) := ia.cell 0
  have a1 : W1.cell? ⟨w.heap.size, 1, none⟩ = some (.slice A1 L.length c1) := ia.cell 1
  have b0 : W1.cell? ⟨w.heap.size + 1, 0, none⟩ = some (.int .i64 k2) := ib.cell 0
  have b1 : W1.cell? ⟨w.heap.size + 1, 1, none⟩ = some (.slice B1 L2.length e1) := ib.cell 1
  generalize decide (L = L2) = x at *
  generalize decide (C = C2) = y at *
  clear h1 h2 h3 h4 ia ib
  generalize L.length = n1 at *
  generalize C.length = n2 at *
  generalize L2.length = n3 at *
  generalize C2.length = n4 at *
  go_enter Try.func20, Try.ntmps20
  by_cases hk : k = k2
  · subst hk
    rw [decide_eq_true (rfl : k = k), Bool.true_and]
    go_wp2_with fail
    rw [← hW1]
    clear hW1
    refine T1.out.mono ?_
    rintro e W2 ⟨rfl, hb⟩
    have ia2 := IA.out.below hb IA.out.lt
    have ib2 := IB.out.below hb IB.out.lt
    have hB2 := hB.trans (hb.mono hB.size)
    have a2 : W2.cell? ⟨w.heap.size, 2, none⟩ = some (.slice A2 n2 c2) := ia2.cell 2
    have b2 : W2.cell? ⟨w.heap.size + 1, 2, none⟩ = some (.slice B2 n4 e2) := ib2.cell 2
    clear a0 a1 b0 b1 hb hB ia2 ib2
    cases x with
    | false =>
      go_wp2
      go_ret
      exact ⟨rfl, hB2⟩
    | true =>
      go_wp2_with fail
      refine (T2.out _ hB2).mono ?_
      rintro e W3 ⟨rfl, hb⟩
      have hB3 := hB2.trans (hb.mono hB2.size)
      clear hb a2 b2 hB2
      cases y <;> (go_wp2; go_ret; exact ⟨rfl, hB3⟩)
  · have hk2 : (k == k2) = false := by simpa using hk
    rw [decide_eq_false hk, Bool.false_and]
    go_wp2_with fail
    try rw [← hW1]
    clear hW1
    try go_wp2
    go_ret
    exact ⟨rfl, hB⟩

set_option maxRecDepth 100000 in
set_option maxHeartbeats 4000000 in
theorem alike_any11 (k st m r k2 st2 m2 r2 : Int) (A B : Option Addr) (c d : Nat) (C D : List ByteArray) (w : World) (hl : C.length ≤ 9223372036854775807) (hl2 : D.length ≤ 9223372036854775807) (h1 : InV w A (tL10 C)) (h2 : InV w B (tL10 D)) :
    Calls Try.prog 21 #[.agg #[.int .i64 k, .int .i64 st, .slice A C.length c, .int .i64 m, .int .i64 r], .agg #[.int .i64 k2, .int .i64 st2, .slice B D.length d, .int .i64 m2, .int .i64 r2]] w fun e w' => e = .returned (.bool (decide (k = k2) && (decide (st = st2) && (decide (m = m2) && (decide (r = r2) && decide (C = D)))))) ∧ Below w.heap.size w w' := by
  obtain ⟨W1, hW1⟩ : ∃ W1, W1 = (w.alloc (.cells #[.int .i64 k, .int .i64 st, .slice A C.length c, .int .i64 m, .int .i64 r] 28)).alloc (.cells #[.int .i64 k2, .int .i64 st2, .slice B D.length d, .int .i64 m2, .int .i64 r2] 28) := ⟨_, rfl⟩
  have ia : Is W1 w.heap.size 28 #[.int .i64 k, .int .i64 st, .slice A C.length c, .int .i64 m, .int .i64 r] := by rw [hW1]; exact heap_alloc2_old w _ _
  have ib : Is W1 (w.heap.size + 1) 28 #[.int .i64 k2, .int .i64 st2, .slice B D.length d, .int .i64 m2, .int .i64 r2] := by rw [hW1]; exact heap_alloc2_new w _ _
  have hB : Below w.heap.size w W1 := by rw [hW1]; exact ((Below.refl _ _).alloc (Nat.le_refl _) _).alloc (by simp) _
  have T1 := Lib.hid (texts_any11 A B c d C D W1 hl hl2 (h1.keep hB) (h2.keep hB))
  generalize decide (C = D) = x at *
  clear h1 h2
  generalize C.length = n1 at *
  generalize D.length = n2 at *
  clear ia ib
  go_enter Try.func21, Try.ntmps21
  by_cases hk : k = k2
  · subst hk
    by_cases hs : st = st2
    · subst hs
      by_cases hm : m = m2
      · subst hm
        by_cases hr : r = r2
        · subst hr
          rw [decide_eq_true (rfl : k = k), decide_eq_true (rfl : st = st), decide_eq_true (rfl : m = m), decide_eq_true (rfl : r = r), Bool.true_and, Bool.true_and, Bool.true_and, Bool.true_and]
          go_wp2_with fail
          rw [← hW1]
          clear hW1
          refine T1.out.mono ?_
          rintro e W2 ⟨rfl, hb⟩
          have hB2 := hB.trans (hb.mono hB.size)
          clear hb hB
          cases x <;> (go_wp2; go_ret; exact ⟨rfl, hB2⟩)
        · have hz : (r == r2) = false := by simpa using hr
          rw [decide_eq_false hr, Bool.false_and, Bool.and_false, Bool.and_false, Bool.and_false]
          rw [hW1] at hB
          clear hW1 T1
          go_wp2
          go_ret
          exact ⟨rfl, hB⟩
      · have hz : (m == m2) = false := by simpa using hm
        rw [decide_eq_false hm, Bool.false_and, Bool.and_false, Bool.and_false]
        rw [hW1] at hB
        clear hW1 T1
        go_wp2
        go_ret
        exact ⟨rfl, hB⟩
    · have hz : (st == st2) = false := by simpa using hs
      rw [decide_eq_false hs, Bool.false_and, Bool.and_false]
      rw [hW1] at hB
      clear hW1 T1
      go_wp2
      go_ret
      exact ⟨rfl, hB⟩
  · have hz : (k == k2) = false := by simpa using hk
    rw [decide_eq_false hk, Bool.false_and]
    rw [hW1] at hB
    clear hW1 T1
    go_wp2
    go_ret
    exact ⟨rfl, hB⟩
end Go.Proofs.Ytapfbcpbiagogaa
