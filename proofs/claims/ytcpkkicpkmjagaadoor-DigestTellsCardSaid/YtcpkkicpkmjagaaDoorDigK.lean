/-
  Contracts of the statements' own helpers: awake answers true; pick answers the remainder. Conditions: the tables hold what their initialisers lay.
-/
import Derived.Test.YtcpkkicpkmjagaaDoorDigE
import Derived.Test.YtcpkkicpkmjagaaDoorPick
namespace Go.Proofs.YtcpkkicpkmjagaaDoor
open Go.RowKit

theorem endS_size (x : Hs) : (endS x).size = 32 := by rw [endS, str_size, wbTo_length]
theorem six (s : ByteArray) (l : List UInt8) (h : s.data.toList.take 6 = l) : s.extract 0 6 = ⟨l.toArray⟩ := by
  apply ByteArray.ext
  rw [ByteArray.data_extract]
  apply Array.toList_inj.1
  simp [← h, Array.toList_extract]

set_option maxRecDepth 100000 in
set_option maxHeartbeats 1000000 in
theorem awake_any (w : World) (hT : Tab w) :
    Calls Tryd.prog 10 #[] w fun e w' => e = .returned (.bool true) ∧ Below w.heap.size w w' := by
  go_enter Tryd.func10, Tryd.ntmps10
  go_wp2_with fail
  refine (sum_ok ⟨#[]⟩ _ hT (by decide)).mono ?_
  rintro e w1 ⟨rfl, hb1⟩
  have hA := six _ _ ex_empty
  have hAs := endS_size (addH Hs0 ⟨#[]⟩)
  generalize endS (addH Hs0 ⟨#[]⟩) = a at *
  have HA := Lib.hid hA
  have HAs := Lib.hid hAs
  clear hA hAs
  go_wp2_with fail
  refine (sum_ok ⟨#[97, 98, 99]⟩ _ (hT.below hb1 hT.two) (by decide)).mono ?_
  rintro e w2 ⟨rfl, hb2⟩
  have hC := six _ _ ex_abc
  have hCs := endS_size (addH Hs0 ⟨#[97, 98, 99]⟩)
  generalize endS (addH Hs0 ⟨#[97, 98, 99]⟩) = c at *
  have HC := Lib.hid hC
  have HCs := Lib.hid hCs
  clear hC hCs
  have hB2 : Below w.heap.size w w2 := hb1.trans (hb2.mono hb1.size)
  clear hb1 hb2
  go_wp2_with fail
  refine (compress_arg ⟨0, 0, 0, 0, 0, 0, 0, 0⟩ ⟨#[120]⟩ _ (by decide)).mono ?_
  rintro e w3 ⟨rfl, hb3⟩
  have hB3 : Below w.heap.size w w3 := hB2.trans (hb3.mono hB2.size)
  clear hb3 hB2
  go_wp2_with fail
  have hB3' := hB3.alloc hB3.size (.cells (S8.mk 0 0 0 0 0 0 0 0).arr 23)
  refine (end_arg ⟨⟨0, 0, 0, 0, 0, 0, 0, 0⟩, ⟨#[]⟩, 1⟩ _ (by decide)).mono ?_
  rintro e w4 ⟨rfl, hb4⟩
  have hB4 : Below w.heap.size w w4 := hB3'.trans (hb4.mono hB3'.size)
  clear hb4 hB3 hB3'
  have q1 : ((a.size : Int) == 32) = true := by rw [HAs.out]; rfl
  have q2 : ((c.size : Int) == 32) = true := by rw [HCs.out]; rfl
  have q3 : (6 : Int) ≤ (a.size : Int) := by rw [HAs.out]; decide
  have q4 : (6 : Int) ≤ (c.size : Int) := by rw [HCs.out]; decide
  have hA := HA.out
  have hC := HC.out
  go_wp2_with fail
  refine (new_any _ (hT.below hB4 hT.two)).mono ?_
  rintro e w5 ⟨rfl, hb5⟩
  have hB5 : Below w.heap.size w w5 := hB4.trans (hb5.mono hB4.size)
  clear hb5 hB4
  have hrn : rightB Hs0 = true := right_new
  have HRN := Lib.hid hrn
  clear hrn
  go_wp2_with fail
  refine (right_any Hs0 _).mono ?_
  rintro e w6 ⟨rfl, hb6⟩
  rw [HRN.out]
  have hB6 : Below w.heap.size w w6 := hB5.trans (hb6.mono hB5.size)
  clear hb6 hB5
  go_wp2
  go_ret
  exact ⟨rfl, hB6⟩

set_option maxHeartbeats 1000000 in
theorem pick_any (c n : Int) (w : World) (h0 : -9223372036854775808 ≤ c) (h1 : c ≤ 9223372036854775807) (hn : 0 < n) (hn2 : n ≤ 9223372036854775807) :
    Calls Tryd.prog 18 #[.int .i64 c, .int .i64 n] w fun e w' => e = .returned (.int .i64 (pickN c n)) ∧ w = w' := by
  by_cases hc : c < 0
  · have hd : pickN c n = (-(c + 1)) % n := by simp [pickN, hc]
    rw [hd]
    clear hd
    go_enter Tryd.func18, Tryd.ntmps18
    go_wp2
    go_ret
    refine ⟨?_, rfl⟩
    have e : -((c + 1).tmod n) = (-(c + 1)) % n := by rw [← Int.neg_tmod, Int.tmod_eq_emod_of_nonneg (by omega)]
    rw [← e]
    rfl
  · have hd : pickN c n = c % n := by simp [pickN, hc]
    rw [hd]
    clear hd
    go_enter Tryd.func18, Tryd.ntmps18
    go_wp2
    go_ret
    exact ⟨rfl, rfl⟩

/-- eight words are the same as themselves. -/
theorem eqIn8 (a : S8) (w : World) : (Op.equalIn 10000 23 (.agg a.arr) (.agg a.arr)).run Tryd.prog w = .ok true w := by
  have h22 : ∀ x : Int, (Op.equalIn 9999 22 (.int .u32 x) (.int .u32 x)).run Tryd.prog w = .ok true w := fun x => by
    have := run_equalIn_int (P := Tryd.prog) (w := w) 9998 22 .u32 .u32 x x Tryd.underlying22
    simpa using this
  show (Op.equalIn (9999 + 1) 23 (.agg a.arr) (.agg a.arr)).run Tryd.prog w = .ok true w
  unfold Op.equalIn
  rw [Sem.run_bind, run_underlying Tryd.underlying23]
  simp only [Result.andThen]
  simp [List.range', go_sem, h22]

set_option maxRecDepth 100000 in
set_option maxHeartbeats 1000000 in
theorem same_self (x : Hs) (w : World) :
    Calls Tryd.prog 17 #[.agg x.arr, .agg x.arr] w fun e w' => e = .returned (.bool true) ∧ Below w.heap.size w w' := by
  have he := eqIn8 x.h
  go_enter Tryd.func17, Tryd.ntmps17
  go_wp2
  go_ret
  exact ⟨rfl, ((Below.refl _ _).alloc (Nat.le_refl _) _).alloc (by simp) _⟩
end Go.Proofs.YtcpkkicpkmjagaaDoor
