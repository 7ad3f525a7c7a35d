/-
  MacKeys: the walk of the statement's function.
-/
import Derived.Test.YtcpkkicpkmjagaaDoorRefN
import Derived.Test.YtcpkkicpkmjagaaDoorMacZ
namespace Go.Proofs.YtcpkkicpkmjagaaDoor
open Go.RowKit

theorem keyL_sum (k : ByteArray) (h : 64 < k.size) : keyL (sumB k) = keyL k := by
  have h1 : keyOf k = sumB k := by unfold keyOf; rw [if_pos h]
  have h2 : keyOf (sumB k) = sumB k := by unfold keyOf; rw [if_neg (by rw [sumB_size]; omega)]
  rw [keyL, keyL, h1, h2]

set_option maxRecDepth 100000 in
set_option maxHeartbeats 1000000 in
theorem keys_walk (key s : ByteArray) (n : Int) (w : World) (hT : Tab w) (hk : key.size ≤ maxLen) (hs : s.size ≤ maxLen) (hn : -9223372036854775808 ≤ n ∧ n ≤ 9223372036854775807) :
    Calls Tryd.prog 6 #[.string key, .string s, .int .i64 n] w fun e w' => e = .returned (.bool true) ∧ Below w.heap.size w w' := by
  unfold maxLen at hk hs
  go_enter Tryd.func6, Tryd.ntmps6
  go_wp2_with fail
  refine (awake2_any _ hT).mono ?_
  rintro e w1 ⟨rfl, hB1⟩
  go_wp2_with fail
  have hK : (key.extract 0 (min (key.size : Int) 200).toNat).size ≤ 200 := by simp; omega
  have hX : (s.extract 0 (min (s.size : Int) 300).toNat).size ≤ 300 := by simp; omega
  generalize key.extract 0 (min (key.size : Int) 200).toNat = K at *
  generalize s.extract 0 (min (s.size : Int) 300).toNat = X at *
  refine (mac_ok K X _ (hT.below hB1 hT.two) (by omega) (by omega)).mono ?_
  rintro e w2 ⟨rfl, hb2⟩
  have hB2 : Below w.heap.size w w2 := hB1.trans (hb2.mono hB1.size)
  clear hb2 hB1 hk hs
  by_cases h64 : 64 < K.size
  · have hd : decide (64 < (K.size : Int)) = true := by simp; omega
    have hkl := keyL_sum K h64
    go_wp2_with fail
    refine (rwhole_any K _ (by omega)).mono ?_
    rintro e w3 ⟨rfl, hb3⟩
    have hv : endS (addH Hs0 K) = sumB K := rfl
    rw [hv]
    clear hv
    have hB3 : Below w.heap.size w w3 := hB2.trans (hb3.mono hB2.size)
    clear hb3 hB2
    have hmk := fun w hT => mac_ok (sumB K) X w hT (by rw [sumB_size]; decide) (by omega)
    rw [hkl] at hmk
    have HMK := Lib.hid hmk
    generalize sumB K = k2 at *
    clear hmk hkl
    generalize tagB (keyL K) X = t at *
    go_wp2_with fail
    refine (HMK.out _ (hT.below hB3 hT.two)).mono ?_
    rintro e w4 ⟨rfl, hb4⟩
    have hB4 : Below w.heap.size w w4 := hB3.trans (hb4.mono hB3.size)
    clear hb4 hB3
    go_wp2
    go_ret
    exact ⟨rfl, hB4⟩
  · have hd : decide (64 < (K.size : Int)) = false := by simp; omega
    have hpk := pickN_bd n (65 - (K.size : Int)) (by omega)
    have ppk := fun w => pick2_any n (65 - (K.size : Int)) w hn.1 hn.2 (by omega) (by omega)
    obtain ⟨z, hz⟩ : ∃ z : Nat, pickN n (65 - (K.size : Int)) = (z : Int) := ⟨(pickN n (65 - (K.size : Int))).toNat, by omega⟩
    rw [hz] at hpk ppk
    have PPK := Lib.hid ppk
    have hz2 : K.size + z ≤ 64 := by omega
    clear ppk hpk hz
    have hkl := keyL_noughts K (zerosB z) (zerosB_all z) (by rw [zerosB_size]; exact hz2)
    have hsz : (K ++ zerosB z).size ≤ 64 := by rw [ByteArray.size_append, zerosB_size]; exact hz2
    have hmk := fun w hT => mac_ok (K ++ zerosB z) X w hT (by omega) (by omega)
    rw [hkl] at hmk
    have HMK := Lib.hid hmk
    have hts := tagB_size (keyL K) X
    have mk0 := fun W => run_make0 W z (by omega)
    have cv := run_conv0 (Is.new w2 5 (zcells z))
    have nl : ¬ (9223372036854775807 < K.size + (zerosB z).size) := by rw [zerosB_size]; omega
    generalize tagB (keyL K) X = t at *
    have hq : ((t.size : Int) == 32) = true := by rw [hts]; rfl
    clear hmk hkl hts hsz
    go_wp2_with fail
    refine (PPK.out _).mono ?_
    rintro e w' ⟨rfl, rfl⟩
    go_wp2_with fail
    have hB3 := hB2.alloc hB2.size (.cells (zcells z) 5)
    refine (HMK.out _ (hT.below hB3 hT.two)).mono ?_
    rintro e w4 ⟨rfl, hb4⟩
    have hB4 : Below w.heap.size w w4 := hB3.trans (hb4.mono hB3.size)
    clear hb4 hB3 hB2 cv
    go_wp2
    go_ret
    exact ⟨rfl, hB4⟩
end Go.Proofs.YtcpkkicpkmjagaaDoor
