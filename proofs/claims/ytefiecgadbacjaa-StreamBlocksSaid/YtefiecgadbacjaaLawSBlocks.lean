/-
  StreamBlocks: the walk of the statement's function.
-/
import Derived.Test.YtefiecgadbacjaaGStr
import Derived.Test.YtefiecgadbacjaaGRf4
namespace Go.Proofs.Ytefiecgadbacjaa
open Go.RowKit Go.Shelf

set_option maxRecDepth 100000 in
set_option maxHeartbeats 4000000 in
theorem sblocks_walk (key counter : ByteArray) (l : Bool) (at_ n : Int) (w : World) (hkey : key.size ≤ reachBytes) (hc : counter.size ≤ reachBytes) (ha : -9223372036854775808 ≤ at_ ∧ at_ ≤ 9223372036854775807) (hn : -9223372036854775808 ≤ n ∧ n ≤ 9223372036854775807) :
    Calls Try.prog 4 #[.string key, .string counter, .bool l, .int .i64 at_, .int .i64 n] w fun e w' => e = .returned (.bool true) ∧ Below w.heap.size w w' := by
  have CK := Lib.hid (fun w => key_any key l w hkey)
  have CC := Lib.hid (fun w => chunk_any counter w hc)
  have hkm := keyB_may key l
  have h16 := chunkB_size counter
  generalize keyB key l = k at *
  generalize chunkB counter = c at *
  clear hkey hc
  have hpa := pickN_bd at_ 5 (by decide)
  obtain ⟨I, hI⟩ : ∃ I : Nat, pickN at_ 5 = (I : Int) := ⟨(pickN at_ 5).toNat, by omega⟩
  have PA := Lib.hid (show ∀ w, Calls Try.prog 11 #[.int .i64 at_, .int .i64 5] w fun e w' => e = .returned (.int .i64 (I : Int)) ∧ w = w' from fun w => by rw [← hI]; exact pick5_any at_ 5 w ha.1 ha.2 (by decide) (by decide))
  have hpn := pickN_bd n 90 (by decide)
  obtain ⟨M, hM⟩ : ∃ M : Nat, pickN n 90 = (M : Int) := ⟨(pickN n 90).toNat, by omega⟩
  have PN := Lib.hid (show ∀ w, Calls Try.prog 11 #[.int .i64 n, .int .i64 90] w fun e w' => e = .returned (.int .i64 (M : Int)) ∧ w = w' from fun w => by rw [← hM]; exact pick5_any n 90 w hn.1 hn.2 (by decide) (by decide))
  have hI5 : I < 5 := by omega
  have hM90 : M < 90 := by omega
  clear hpa hI ha hpn hM hn
  have hr := right_of hkm h16
  have hzA := keyS_size k c 96
  have s1 : ∀ wx : World, (Instr.slice 9 (.string (keyS k c 96)) none (some (.int .i64 (M : Int))) none).run Try.prog wx = .ok (.string (keyS k c M)) wx := fun wx => by
    have := run_slice_string_h (P := Try.prog) (w := wx) (t := 9) (s := keyS k c 96) Try.underlying9 .i64 (M : Int) (by omega) (by omega)
    rw [Int.toNat_natCast, show (keyS k c 96).extract 0 M = keyS k c M from natL_inj (by rw [natL_extract, List.drop_zero, Nat.sub_zero, keyS_nat c hr, keyS_nat c hr, keysN_take _ _ (by omega)])] at this
    exact this
  have s2 : ∀ wx : World, (Instr.slice 9 (.string (keyS k c 96)) (some (.int .i64 (16 * (I : Int)))) (some (.int .i64 (16 * (I : Int) + 16))) none).run Try.prog wx = .ok (.string (encV k (ctrS c I))) wx := fun wx => by
    have := run_slice_string (P := Try.prog) (w := wx) 9 (keyS k c 96) .i64 .i64 (16 * (I : Int)) (16 * (I : Int) + 16) Try.underlying9 (by omega) (by omega) (by omega)
    rw [show (16 * (I : Int)).toNat = 16 * I by omega, show (16 * (I : Int) + 16).toNat = 16 * I + 16 by omega, show (keyS k c 96).extract (16 * I) (16 * I + 16) = encV k (ctrS c I) from natL_inj (by
      rw [natL_extract, show 16 * I + 16 - 16 * I = 16 by omega, keyS_nat c hr, keysN_mid (natL_key hkm) (natL_lt k) _ (by omega), encV_ok hkm (ctrS_size c I), ctrS_nat, strN_nat (aesE_blk (natL_key hkm) (natL_lt k) (nextN_blk _ _)).lt])] at this
    exact this
  have M1 := Lib.hid (fun w => keys_fine k c 96 w hkm h16 (by omega))
  have M2 := Lib.hid (fun w => keys_fine k c M w hkm h16 (by omega))
  have M3 := Lib.hid (fun w => next_fine c I w h16 (by omega))
  have m4 : ∀ w, Calls Try.prog 15 #[.string k, .string (ctrS c I)] w fun e w' => e = .returned (.tuple #[.string (encV k (ctrS c I)), .int .i64 0]) ∧ Below w.heap.size w w' := fun w => by
    have := rencrypt_any k (ctrS c I) w
    rwa [may2_of hkm (ctrS_size c I), show errV true = 0 from rfl] at this
  have M4 := Lib.hid m4
  have zA : ((keyS k c 96).size : Int) = 96 := by rw [hzA]; rfl
  clear m4 hzA hr hkm h16
  generalize keyS k c 96 = A at *
  generalize keyS k c M = B at *
  generalize encV k (ctrS c I) = E at *
  generalize ctrS c I = d at *
  go_enter Try.func4, Try.ntmps4
  go_wp2_with fail
  refine (awake5_any _).mono ?_
  rintro e w1 ⟨rfl, hB1⟩
  go_wp2_with fail
  refine (CK.out _).mono ?_
  rintro e w2 ⟨rfl, hb⟩
  have hB2 : Below w.heap.size w w2 := hB1.trans (hb.mono hB1.size)
  clear hb hB1
  go_wp2_with fail
  refine (CC.out _).mono ?_
  rintro e w3 ⟨rfl, hb⟩
  have hB3 : Below w.heap.size w w3 := hB2.trans (hb.mono hB2.size)
  clear hb hB2
  go_wp2_with fail
  refine (PA.out _).mono ?_
  rintro e w' ⟨rfl, rfl⟩
  go_wp2_with fail
  refine (PN.out _).mono ?_
  rintro e w' ⟨rfl, rfl⟩
  go_wp2_with fail
  refine (M1.out _).mono ?_
  rintro e w4 ⟨rfl, hb⟩
  have hB4 : Below w.heap.size w w4 := hB3.trans (hb.mono hB3.size)
  clear hb hB3
  go_wp2_with fail
  refine (M2.out _).mono ?_
  rintro e w5 ⟨rfl, hb⟩
  have hB5 : Below w.heap.size w w5 := hB4.trans (hb.mono hB4.size)
  clear hb hB4
  go_wp2_with fail
  refine (M3.out _).mono ?_
  rintro e w6 ⟨rfl, hb⟩
  have hB6 : Below w.heap.size w w6 := hB5.trans (hb.mono hB5.size)
  clear hb hB5
  go_wp2_with fail
  refine (M4.out _).mono ?_
  rintro e w7 ⟨rfl, hb⟩
  have hB7 : Below w.heap.size w w7 := hB6.trans (hb.mono hB6.size)
  clear hb hB6
  go_wp2
  go_ret
  exact ⟨rfl, hB7⟩
end Go.Proofs.Ytefiecgadbacjaa
