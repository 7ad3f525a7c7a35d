import Derived.Test.YtmggbbmpckcleaaGreatWirL
set_option maxRecDepth 100000
set_option maxHeartbeats 16000000
namespace Go.Proofs.YtmggbbmpckcleaaGreat
open Go.RowKit Go.Shelf
theorem alike_any11 (k st m r k2 st2 m2 r2 : Int) (A B : Option Addr) (c d : Nat) (C D : List ByteArray) (w : World) (hl : C.length ≤ 9223372036854775807) (hl2 : D.length ≤ 9223372036854775807) (h1 : InV w A (tL10 C)) (h2 : InV w B (tL10 D)) :
  Calls Tryz.prog 17 #[.agg #[.int .i64 k, .int .i64 st, .slice A C.length c, .int .i64 m, .int .i64 r], .agg #[.int .i64 k2, .int .i64 st2, .slice B D.length d, .int .i64 m2, .int .i64 r2]] w fun e w' => e = .returned (.bool (decide (k = k2) && (decide (st = st2) && (decide (m = m2) && (decide (r = r2) && decide (C = D)))))) ∧ Below w.heap.size w w' := by
 obtain ⟨W1, hW1⟩ : ∃ W1, W1 = (w.alloc (.cells #[.int .i64 k, .int .i64 st, .slice A C.length c, .int .i64 m, .int .i64 r] 45)).alloc (.cells #[.int .i64 k2, .int .i64 st2, .slice B D.length d, .int .i64 m2, .int .i64 r2] 45) := ⟨_, rfl⟩
 have ia : Is W1 w.heap.size 45 #[.int .i64 k, .int .i64 st, .slice A C.length c, .int .i64 m, .int .i64 r] := by rw [hW1]; exact heap_alloc2_old w _ _
 have ib : Is W1 (w.heap.size + 1) 45 #[.int .i64 k2, .int .i64 st2, .slice B D.length d, .int .i64 m2, .int .i64 r2] := by rw [hW1]; exact heap_alloc2_new w _ _
 have hB : Below w.heap.size w W1 := by rw [hW1]; exact ((Below.refl _ _).alloc (Nat.le_refl _) _).alloc (by simp) _
 have T1 := Lib.hid (texts_any11 A B c d C D W1 hl hl2 (h1.keep hB) (h2.keep hB))
 generalize decide (C = D) = x at *
 clear h1 h2
 generalize C.length = n1 at *
 generalize D.length = n2 at *
 clear ia ib
 go_enter Tryz.func17, Tryz.ntmps17
 by_cases hk : k = k2
 ·
  subst hk
  by_cases hs : st = st2
  ·
   subst hs
   by_cases hm : m = m2
   ·
    subst hm
    by_cases hr : r = r2
    ·
     subst hr
     rw [decide_eq_true (rfl : k = k), decide_eq_true (rfl : st = st), decide_eq_true (rfl : m = m), decide_eq_true (rfl : r = r), Bool.true_and, Bool.true_and, Bool.true_and, Bool.true_and]
     go_wp2_with fail
     rw [← hW1]
     clear hW1
     refine T1.out.mono ?_
     rintro e W2 ⟨rfl, hb⟩
     have hB2 := hB.trans (hb.mono hB.size)
     clear hb hB
     cases x <;> (go_wp2; go_ret; exact ⟨rfl, hB2⟩)
    ·
     have hz : (r == r2) = false := by simpa using hr
     rw [decide_eq_false hr, Bool.false_and, Bool.and_false, Bool.and_false, Bool.and_false]
     rw [hW1] at hB
     clear hW1 T1
     go_wp2
     go_ret
     exact ⟨rfl, hB⟩
   ·
    have hz : (m == m2) = false := by simpa using hm
    rw [decide_eq_false hm, Bool.false_and, Bool.and_false, Bool.and_false]
    rw [hW1] at hB
    clear hW1 T1
    go_wp2
    go_ret
    exact ⟨rfl, hB⟩
  ·
   have hz : (st == st2) = false := by simpa using hs
   rw [decide_eq_false hs, Bool.false_and, Bool.and_false]
   rw [hW1] at hB
   clear hW1 T1
   go_wp2
   go_ret
   exact ⟨rfl, hB⟩
 ·
  have hz : (k == k2) = false := by simpa using hk
  rw [decide_eq_false hk, Bool.false_and]
  rw [hW1] at hB
  clear hW1 T1
  go_wp2
  go_ret
  exact ⟨rfl, hB⟩
end Go.Proofs.YtmggbbmpckcleaaGreat
