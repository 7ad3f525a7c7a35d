/-
  StreamCounts: the walk of the statement's function.
-/
import Derived.Test.YtefiecgadbacjaaGStr
namespace Go.Proofs.Ytefiecgadbacjaa
open Go.RowKit Go.Shelf

set_option maxRecDepth 100000 in
set_option maxHeartbeats 4000000 in
theorem scounts_walk (counter : ByteArray) (m n : Int) (w : World) (hc : counter.size ≤ reachBytes) (hm : -9223372036854775808 ≤ m ∧ m ≤ 9223372036854775807) (hn : -9223372036854775808 ≤ n ∧ n ≤ 9223372036854775807) :
    Calls Try.prog 5 #[.string counter, .int .i64 m, .int .i64 n] w fun e w' => e = .returned (.bool true) ∧ Below w.heap.size w w' := by
  have hpm := pickN_bd m 549755813888 (by decide)
  obtain ⟨p, hp⟩ : ∃ p : Nat, pickN m 549755813888 = (p : Int) := ⟨(pickN m 549755813888).toNat, by omega⟩
  have hpn := pickN_bd n 549755813888 (by decide)
  obtain ⟨q, hq⟩ : ∃ q : Nat, pickN n 549755813888 = (q : Int) := ⟨(pickN n 549755813888).toNat, by omega⟩
  have PM := Lib.hid (show ∀ w, Calls Try.prog 11 #[.int .i64 m, .int .i64 549755813888] w fun e w' => e = .returned (.int .i64 (p : Int)) ∧ w = w' from fun w => by rw [← hp]; exact pick5_any m 549755813888 w hm.1 hm.2 (by decide) (by decide))
  have PN := Lib.hid (show ∀ w, Calls Try.prog 11 #[.int .i64 n, .int .i64 549755813888] w fun e w' => e = .returned (.int .i64 (q : Int)) ∧ w = w' from fun w => by rw [← hq]; exact pick5_any n 549755813888 w hn.1 hn.2 (by decide) (by decide))
  have hp1 : p < 549755813888 := by omega
  have hq1 : q < 549755813888 := by omega
  clear hpm hp hpn hq hm hn
  have CC := Lib.hid (fun w => chunk_any counter w hc)
  have h16 := chunkB_size counter
  generalize chunkB counter = c at *
  clear hc
  have M1 := Lib.hid (fun w => next_fine c p w h16 (by omega))
  have m2 := fun w => next_fine (ctrS c p) q w (ctrS_size c p) (by omega)
  rw [ctrS_add] at m2
  have M2 := Lib.hid m2
  have m3 : ∀ w, Calls Try.prog 13 #[.string c, .int .i64 ((p : Int) + (q : Int))] w fun e w' => e = .returned (.tuple #[.string (ctrS c (p + q)), .int .i64 0]) ∧ Below w.heap.size w w' := fun w => by
    have := next_fine c (p + q) w h16 (by omega)
    rwa [show ((p + q : Nat) : Int) = (p : Int) + (q : Int) by omega] at this
  have M3 := Lib.hid m3
  have m4 : ∀ w, Calls Try.prog 13 #[.string c, .int .i64 0] w fun e w' => e = .returned (.tuple #[.string c, .int .i64 0]) ∧ Below w.heap.size w w' := fun w => by
    have := next_fine c 0 w h16 (by omega)
    rwa [ctrS_zero h16] at this
  have M4 := Lib.hid m4
  have hST : ∃ b : Bool, ((ctrS c p).toList == c.toList) = b ∧ ((p : Int) == 0) = b := by
    by_cases h : p = 0
    · exact ⟨true, by rw [h, ctrS_zero h16]; simp, by rw [h]; rfl⟩
    · exact ⟨false, beqL (fun e => h (ctrS_inj (c := c) (by omega) (by omega) (e.trans (ctrS_zero h16).symm))), by simp; omega⟩
  clear m2 m3 m4
  generalize ctrS c p = B at *
  generalize ctrS c (p + q) = C at *
  obtain ⟨b, hb1, hb2⟩ := hST
  clear h16
  go_enter Try.func5, Try.ntmps5
  go_wp2_with fail
  refine (awake5_any _).mono ?_
  rintro e w1 ⟨rfl, hB1⟩
  go_wp2_with fail
  refine (CC.out _).mono ?_
  rintro e w2 ⟨rfl, hb⟩
  have hB2 : Below w.heap.size w w2 := hB1.trans (hb.mono hB1.size)
  clear hb hB1
  go_wp2_with fail
  refine (PM.out _).mono ?_
  rintro e w' ⟨rfl, rfl⟩
  go_wp2_with fail
  refine (PN.out _).mono ?_
  rintro e w' ⟨rfl, rfl⟩
  go_wp2_with fail
  refine (M1.out _).mono ?_
  rintro e w3 ⟨rfl, hb⟩
  have hB3 : Below w.heap.size w w3 := hB2.trans (hb.mono hB2.size)
  clear hb hB2
  go_wp2_with fail
  refine (M2.out _).mono ?_
  rintro e w4 ⟨rfl, hb⟩
  have hB4 : Below w.heap.size w w4 := hB3.trans (hb.mono hB3.size)
  clear hb hB3
  go_wp2_with fail
  refine (M3.out _).mono ?_
  rintro e w5 ⟨rfl, hb⟩
  have hB5 : Below w.heap.size w w5 := hB4.trans (hb.mono hB4.size)
  clear hb hB4
  go_wp2_with fail
  refine (M4.out _).mono ?_
  rintro e w6 ⟨rfl, hb⟩
  have hB6 : Below w.heap.size w w6 := hB5.trans (hb.mono hB5.size)
  clear hb hB5
  go_wp2
  go_ret
  exact ⟨rfl, hB6⟩
end Go.Proofs.Ytefiecgadbacjaa
