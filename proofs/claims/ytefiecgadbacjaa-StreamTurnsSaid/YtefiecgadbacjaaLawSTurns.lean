/-
  StreamTurns: the walk of the statement's function.
-/
import Derived.Test.YtefiecgadbacjaaGStr
namespace Go.Proofs.Ytefiecgadbacjaa
open Go.RowKit Go.Shelf

set_option maxRecDepth 100000 in
set_option maxHeartbeats 4000000 in
theorem sturns_walk (m n : Int) (w : World) (hm : -9223372036854775808 ≤ m ∧ m ≤ 9223372036854775807) (hn : -9223372036854775808 ≤ n ∧ n ≤ 9223372036854775807) :
    Calls Try.prog 7 #[.int .i64 m, .int .i64 n] w fun e w' => e = .returned (.bool true) ∧ Below w.heap.size w w' := by
  have hpm := pickN_bd m 549755813888 (by decide)
  obtain ⟨p, hp⟩ : ∃ p : Nat, pickN m 549755813888 = (p : Int) := ⟨(pickN m 549755813888).toNat, by omega⟩
  have hpn := pickN_bd n 549755813888 (by decide)
  obtain ⟨q, hq⟩ : ∃ q : Nat, pickN n 549755813888 = (q : Int) := ⟨(pickN n 549755813888).toNat, by omega⟩
  have PM := Lib.hid (show ∀ w, Calls Try.prog 11 #[.int .i64 m, .int .i64 549755813888] w fun e w' => e = .returned (.int .i64 (p : Int)) ∧ w = w' from fun w => by rw [← hp]; exact pick5_any m 549755813888 w hm.1 hm.2 (by decide) (by decide))
  have PN := Lib.hid (show ∀ w, Calls Try.prog 11 #[.int .i64 n, .int .i64 549755813888] w fun e w' => e = .returned (.int .i64 (q : Int)) ∧ w = w' from fun w => by rw [← hq]; exact pick5_any n 549755813888 w hn.1 hn.2 (by decide) (by decide))
  have hp1 : p < 549755813888 := by omega
  have hq1 : q < 549755813888 := by omega
  clear hpm hp hpn hq hm hn
  have CM := Lib.hid (fun w => chunk_any mostB w (by decide))
  have CZ := Lib.hid (fun w => chunk_any ⟨#[]⟩ w (Nat.zero_le _))
  rw [chunk_most] at CM
  rw [chunk_none] at CZ
  have m1 : ∀ w, Calls Try.prog 13 #[.string mostB, .int .i64 (1 + (p : Int))] w fun e w' => e = .returned (.tuple #[.string (ctrS (nulB 16) p), .int .i64 0]) ∧ Below w.heap.size w w' := fun w => by
    have := next_fine mostB (p + 1) w (by decide) (by omega)
    rwa [ctrS_turn, show ((p + 1 : Nat) : Int) = 1 + (p : Int) by omega] at this
  have M1 := Lib.hid m1
  have M2 := Lib.hid (fun w => next_fine (nulB 16) p w (by rw [nulB_size]) (by omega))
  have M3 := Lib.hid (fun w => next_fine (nulB 16) q w (by rw [nulB_size]) (by omega))
  have hST : ∃ b : Bool, ((ctrS (nulB 16) p).toList == (ctrS (nulB 16) q).toList) = b ∧ ((p : Int) == (q : Int)) = b := by
    by_cases h : p = q
    · exact ⟨true, by rw [h]; simp, by rw [h]; simp⟩
    · exact ⟨false, beqL (fun e => h (ctrS_inj (by omega) (by omega) e)), by simp; omega⟩
  clear m1
  generalize ctrS (nulB 16) p = B at *
  generalize ctrS (nulB 16) q = C at *
  generalize nulB 16 = Z at *
  obtain ⟨b, hb1, hb2⟩ := hST
  have e1 : (1 : Int) + (p : Int) - 1 = (p : Int) := by omega
  simp only [mostB] at CM M1
  go_enter Try.func7, Try.ntmps7
  go_wp2_with fail
  refine (awake5_any _).mono ?_
  rintro e w1 ⟨rfl, hB1⟩
  go_wp2_with fail
  refine (CM.out _).mono ?_
  rintro e w2 ⟨rfl, hb⟩
  have hB2 : Below w.heap.size w w2 := hB1.trans (hb.mono hB1.size)
  clear hb hB1
  go_wp2_with fail
  refine (CZ.out _).mono ?_
  rintro e w3 ⟨rfl, hb⟩
  have hB3 : Below w.heap.size w w3 := hB2.trans (hb.mono hB2.size)
  clear hb hB2
  go_wp2_with fail
  refine (PM.out _).mono ?_
  rintro e w' ⟨rfl, rfl⟩
  go_wp2_with fail
  refine (PN.out _).mono ?_
  rintro e w' ⟨rfl, rfl⟩
  go_wp2_with fail
  refine (M1.out _).mono ?_
  rintro e w4 ⟨rfl, hb⟩
  have hB4 : Below w.heap.size w w4 := hB3.trans (hb.mono hB3.size)
  clear hb hB3
  go_wp2_with fail
  refine (M2.out _).mono ?_
  rintro e w5 ⟨rfl, hb⟩
  have hB5 : Below w.heap.size w w5 := hB4.trans (hb.mono hB4.size)
  clear hb hB4
  go_wp2_with fail
  refine (M3.out _).mono ?_
  rintro e w6 ⟨rfl, hb⟩
  have hB6 : Below w.heap.size w w6 := hB5.trans (hb.mono hB5.size)
  clear hb hB5
  go_wp2
  go_ret
  exact ⟨rfl, hB6⟩
end Go.Proofs.Ytefiecgadbacjaa
