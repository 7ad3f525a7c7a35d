/-
  StreamBack: the walk of the statement's function.
-/
import Derived.Test.YtefiecgadbacjaaGStr
namespace Go.Proofs.Ytefiecgadbacjaa
open Go.RowKit Go.Shelf

set_option maxRecDepth 100000 in
set_option maxHeartbeats 4000000 in
theorem sback_walk (key counter s : ByteArray) (l : Bool) (at_ : Int) (w : World) (hkey : key.size ≤ reachBytes) (hc : counter.size ≤ reachBytes) (_hs : s.size ≤ maxLen) (ha : -9223372036854775808 ≤ at_ ∧ at_ ≤ 9223372036854775807) :
    Calls Try.prog 3 #[.string key, .string counter, .string s, .bool l, .int .i64 at_] w fun e w' => e = .returned (.bool true) ∧ Below w.heap.size w w' := by
  have CK := Lib.hid (fun w => key_any key l w hkey)
  have CC := Lib.hid (fun w => chunk_any counter w hc)
  have hkm := keyB_may key l
  have h16 := chunkB_size counter
  generalize keyB key l = k at *
  generalize chunkB counter = c at *
  clear hkey hc
  have s1 := cut_run s 200 200 rfl
  have xz := cutB_size s 200
  generalize cutB s 200 = x at *
  have hpa := pickN_bd at_ ((x.size : Int) / 16 + 1) (by omega)
  obtain ⟨N, hN⟩ : ∃ N : Nat, pickN at_ ((x.size : Int) / 16 + 1) = (N : Int) := ⟨(pickN at_ ((x.size : Int) / 16 + 1)).toNat, by omega⟩
  have PA := Lib.hid (show ∀ w, Calls Try.prog 11 #[.int .i64 at_, .int .i64 ((x.size : Int) / 16 + 1)] w fun e w' => e = .returned (.int .i64 (N : Int)) ∧ w = w' from fun w => by rw [← hN]; exact pick5_any at_ ((x.size : Int) / 16 + 1) w ha.1 ha.2 (by omega) (by omega))
  have hN2 : 16 * N ≤ x.size := by omega
  clear hpa hN ha
  have s2 : ∀ wx : World, (Instr.slice 9 (.string x) none (some (.int .i64 (16 * (N : Int)))) none).run Try.prog wx = .ok (.string (x.extract 0 (16 * N))) wx := fun wx => by
    have := run_slice_string_h (P := Try.prog) (w := wx) (t := 9) (s := x) Try.underlying9 .i64 (16 * (N : Int)) (by omega) (by omega)
    rw [show (16 * (N : Int)).toNat = 16 * N by omega] at this
    exact this
  have s3 : ∀ wx : World, (Instr.slice 9 (.string x) (some (.int .i64 (16 * (N : Int)))) none none).run Try.prog wx = .ok (.string (x.extract (16 * N) x.size)) wx := fun wx => by
    have := run_slice_string_l (P := Try.prog) (w := wx) (t := 9) (s := x) Try.underlying9 .i64 (16 * (N : Int)) (by omega) (by omega)
    rw [show (16 * (N : Int)).toNat = 16 * N by omega] at this
    exact this
  have z1 : (x.extract 0 (16 * N)).size = 16 * N := by simp; omega
  have z2 : (x.extract (16 * N) x.size).size ≤ 200 := by simp; omega
  have hcat : x.extract 0 (16 * N) ++ x.extract (16 * N) x.size = x := natL_inj (by
    have happ : ∀ a b : ByteArray, natL (a ++ b) = natL a ++ natL b := fun a b => by simp [natL]
    rw [happ, natL_extract, natL_extract, List.drop_zero, Nat.sub_zero, List.take_of_length_le (l := (natL x).drop (16 * N)) (by rw [List.length_drop, natL_len]; omega), List.take_append_drop])
  have hA := xorT_parts (ctr := c) hkm (x.extract 0 (16 * N)) (x.extract (16 * N) x.size) z1
  rw [hcat] at hA
  have M1 := Lib.hid (fun w => xor_fine k c x w hkm h16 (by omega))
  have m2 := fun w => xor_fine k c (xorT k c x) w hkm h16 (by rw [xorT_size]; omega)
  rw [xorT_back hkm] at m2
  have M2 := Lib.hid m2
  have M3 := Lib.hid (fun w => xor_fine k c (x.extract 0 (16 * N)) w hkm h16 (by omega))
  have M4 := Lib.hid (fun w => next_fine c N w h16 (by omega))
  have M5 := Lib.hid (fun w => xor_fine k (ctrS c N) (x.extract (16 * N) x.size) w hkm (ctrS_size c N) (by omega))
  have zA : ((xorT k c x).size : Int) = (x.size : Int) := by rw [xorT_size]
  have hcn : ¬ (9223372036854775807 < (xorT k c (x.extract 0 (16 * N))).size + (xorT k (ctrS c N) (x.extract (16 * N) x.size)).size) := by rw [xorT_size, xorT_size]; omega
  clear m2 z1 z2 hcat hkm h16
  generalize x.extract 0 (16 * N) = x1 at *
  generalize x.extract (16 * N) x.size = x2 at *
  generalize xorT k c x1 = D at *
  generalize ctrS c N = m at *
  generalize xorT k m x2 = Q at *
  generalize xorT k c x = A at *
  go_enter Try.func3, Try.ntmps3
  go_wp2_with fail
  refine (awake5_any _).mono ?_
  rintro e w1 ⟨rfl, hB1⟩
  go_wp2_with fail
  refine (CK.out _).mono ?_
  rintro e w2 ⟨rfl, hb⟩
  have hB2 : Below w.heap.size w w2 := hB1.trans (hb.mono hB1.size)
  clear hb hB1
  go_wp2_with fail
  refine (CC.out _).mono ?_
  rintro e w3 ⟨rfl, hb⟩
  have hB3 : Below w.heap.size w w3 := hB2.trans (hb.mono hB2.size)
  clear hb hB2
  go_wp2_with fail
  refine (PA.out _).mono ?_
  rintro e w' ⟨rfl, rfl⟩
  go_wp2_with fail
  refine (M1.out _).mono ?_
  rintro e w4 ⟨rfl, hb⟩
  have hB4 : Below w.heap.size w w4 := hB3.trans (hb.mono hB3.size)
  clear hb hB3
  go_wp2_with fail
  refine (M2.out _).mono ?_
  rintro e w5 ⟨rfl, hb⟩
  have hB5 : Below w.heap.size w w5 := hB4.trans (hb.mono hB4.size)
  clear hb hB4
  go_wp2_with fail
  refine (M3.out _).mono ?_
  rintro e w6 ⟨rfl, hb⟩
  have hB6 : Below w.heap.size w w6 := hB5.trans (hb.mono hB5.size)
  clear hb hB5
  go_wp2_with fail
  refine (M4.out _).mono ?_
  rintro e w7 ⟨rfl, hb⟩
  have hB7 : Below w.heap.size w w7 := hB6.trans (hb.mono hB6.size)
  clear hb hB6
  go_wp2_with fail
  refine (M5.out _).mono ?_
  rintro e w8 ⟨rfl, hb⟩
  have hB8 : Below w.heap.size w w8 := hB7.trans (hb.mono hB7.size)
  clear hb hB7
  clear s1 s2 s3
  go_wp2
  go_ret
  exact ⟨rfl, hB8⟩
end Go.Proofs.Ytefiecgadbacjaa
