/-
  StreamSums: the walk of the statement's function.
-/
import Derived.Test.YtefiecgadbacjaaGStr
namespace Go.Proofs.Ytefiecgadbacjaa
open Go.RowKit Go.Shelf

set_option maxRecDepth 100000 in
set_option maxHeartbeats 4000000 in
theorem ssums_walk (key counter one two : ByteArray) (w : World) (hkey : key.size ≤ reachBytes) (hc : counter.size ≤ reachBytes) (h1 : one.size ≤ maxLen) (h2 : two.size ≤ maxLen) :
    Calls Try.prog 6 #[.string key, .string counter, .string one, .string two] w fun e w' => e = .returned (.bool true) ∧ Below w.heap.size w w' := by
  unfold maxLen at h1 h2
  have CK := Lib.hid (fun w => key_any key false w hkey)
  have CC := Lib.hid (fun w => chunk_any counter w hc)
  have hkm := keyB_may key false
  have h16 := chunkB_size counter
  generalize keyB key false = k at *
  generalize chunkB counter = c at *
  clear hkey hc
  go_enter Try.func6, Try.ntmps6
  go_wp2_with fail
  refine (awake5_any _).mono ?_
  rintro e w1 ⟨rfl, hB1⟩
  go_wp2_with fail
  refine (CK.out _).mono ?_
  rintro e w2 ⟨rfl, hb⟩
  have hB2 : Below w.heap.size w w2 := hB1.trans (hb.mono hB1.size)
  clear hb hB1
  go_wp2_with fail
  refine (CC.out _).mono ?_
  rintro e w3 ⟨rfl, hb⟩
  have hB3 : Below w.heap.size w w3 := hB2.trans (hb.mono hB2.size)
  clear hb hB2
  go_wp2_with fail
  have xz : (one.extract 0 (min (one.size : Int) 100).toNat).size ≤ 100 := by simp; omega
  have yz : (two.extract 0 (min (two.size : Int) 100).toNat).size ≤ 100 := by simp; omega
  generalize one.extract 0 (min (one.size : Int) 100).toNat = x at *
  generalize two.extract 0 (min (two.size : Int) 100).toNat = y at *
  have M1 := Lib.hid (fun w => xor_fine k c x w hkm h16 (by omega))
  have M2 := Lib.hid (fun w => xor_fine k c y w hkm h16 (by omega))
  have m3 := fun w => xor_fine k c (nulB x.size) w hkm h16 (by rw [nulB_size]; omega)
  rw [xorT_zero] at m3
  have M3 := Lib.hid m3
  have M4 := Lib.hid (fun w => keys_fine k c x.size w hkm h16 (by omega))
  have hzA := xorT_size k c x
  have hzB := xorT_size k c y
  have hbt : ∀ i, i < x.size → i < y.size → btN (xorT k c x) i ^^^ btN (xorT k c y) i = btN x i ^^^ btN y i := fun i hi hj => by
    simp only [btN]
    rw [xorT_nat hkm, xorT_nat hkm]
    exact xorS_sums _ _ (by rw [natL_len]; exact hi) (by rw [natL_len]; exact hj)
  have HBT := Lib.hid hbt
  have zA : ((xorT k c x).size : Int) = (x.size : Int) := by rw [xorT_size]
  have zB : ((xorT k c y).size : Int) = (y.size : Int) := by rw [xorT_size]
  clear m3 hkm h16 hbt
  generalize xorT k c x = A at *
  generalize xorT k c y = B at *
  generalize keyS k c x.size = K at *
  have HZA := Lib.hid hzA
  have HZB := Lib.hid hzB
  clear hzA hzB
  have mk : ∀ W : World, (Instr.makeSlice 35 (.int .i64 (x.size : Int)) (.int .i64 (x.size : Int))).run Try.prog W = .ok (.slice (some ⟨W.heap.size, 0, none⟩) x.size x.size) (W.alloc (.cells (nulC x.size) 5)) := fun W => run_makeN W x.size (by omega)
  refine (M1.out _).mono ?_
  rintro e w4 ⟨rfl, hb⟩
  have hB4 : Below w.heap.size w w4 := hB3.trans (hb.mono hB3.size)
  clear hb hB3
  go_wp2_with fail
  refine (M2.out _).mono ?_
  rintro e w5 ⟨rfl, hb⟩
  have hB5 : Below w.heap.size w w5 := hB4.trans (hb.mono hB4.size)
  clear hb hB4
  have cv := run_convN (Is.new w5 5 (nulC x.size))
  have hBa := hB5.alloc hB5.size (.cells (nulC x.size) 5)
  go_wp2_with fail
  refine (M3.out _).mono ?_
  rintro e w6 ⟨rfl, hb⟩
  have hB6 : Below w.heap.size w w6 := hBa.trans (hb.mono hBa.size)
  clear hb hB5 hBa cv
  go_wp2_with fail
  refine (M4.out _).mono ?_
  rintro e w7 ⟨rfl, hb⟩
  have hB7 : Below w.heap.size w w7 := hB6.trans (hb.mono hB6.size)
  clear hb hB6
  go_wp2
  clear zA zB mk
  go_loopw [22] (fun a wr => ∃ i : Nat, i ≤ x.size ∧ i ≤ y.size ∧ a = .int .i64 (i : Int) ∧ Below w.heap.size w wr) (fun a _ => x.size - (intOf a).toNat)
  case atStart => exact ⟨0, by omega, by omega, rfl, hB7⟩
  case round =>
    clear hB7
    obtain ⟨i, hi0, hi1, rfl, hB⟩ := hrel
    by_cases hlx : i < x.size
    · by_cases hly : i < y.size
      · have kx : (i : Int) < (x.size : Int) := by omega
        have ky : (i : Int) < (y.size : Int) := by omega
        have hia : i < A.size := by rw [HZA.out]; exact hlx
        have hib : i < B.size := by rw [HZB.out]; exact hly
        have ka : (i : Int) < (A.size : Int) := by omega
        have kb : (i : Int) < (B.size : Int) := by omega
        have gx := btN_get hlx
        have gy := btN_get hly
        have ga := btN_get hia
        have gb := btN_get hib
        have hx1 := u8_xor_nat (btN A i) (btN B i) (btN_lt A i) (btN_lt B i)
        have hx2 := u8_xor_nat (btN x i) (btN y i) (btN_lt x i) (btN_lt y i)
        rw [HBT.out i hlx hly] at hx1
        generalize btN x i ^^^ btN y i = z at *
        generalize btN x i = b1 at *
        generalize btN y i = b2 at *
        generalize btN A i = b3 at *
        generalize btN B i = b4 at *
        go_wp2
        go_region
        go_wp2
        go_roundw
        case rel => exact ⟨i + 1, by omega, by omega, by go_num, belowN hB 1⟩
        case measure => simp [intOf]; omega
      · have kx : (i : Int) < (x.size : Int) := by omega
        have ky : ¬ (i : Int) < (y.size : Int) := by omega
        go_wp2
        go_ret
        exact ⟨rfl, hB⟩
    · have kx : ¬ (i : Int) < (x.size : Int) := by omega
      go_wp2
      go_ret
      exact ⟨rfl, hB⟩
end Go.Proofs.Ytefiecgadbacjaa
