/-
  SealStreams: the walk of the statement's function.
-/
import Derived.Test.YtancchoelmdaiaaGreatDoorGSea
namespace Go.Proofs.YtancchoelmdaiaaGreatDoor
open Go.RowKit Go.Shelf

set_option maxRecDepth 100000 in
set_option maxHeartbeats 4000000 in
theorem zstr_walk (key nonce one two : ByteArray) (w : World) (hT : Tab w) (hkey : key.size ≤ reachBytes) (hc : nonce.size ≤ reachBytes) (_h1 : one.size ≤ maxLen) (_h2 : two.size ≤ maxLen) :
    Calls Tryz.prog 5 #[.string key, .string nonce, .string one, .string two] w fun e w' => e = .returned (.bool true) ∧ Below w.heap.size w w' := by
  have CK := Lib.hid (fun w => key_any key true w hkey)
  have CC := Lib.hid (fun w => chunk_any nonce w hc)
  have h32 : (keyB key true).size = 32 := keyB_size key true
  have h16 := chunkB_size nonce
  generalize keyB key true = k at *
  generalize chunkB nonce = c at *
  clear hkey hc
  have s1 := cut_run one 200 200 rfl
  have s2 := cut_run two 200 200 rfl
  have xz := cutB_size one 200
  have yz := cutB_size two 200
  generalize cutB one 200 = x at *
  generalize cutB two 200 = y at *
  have M1 := Lib.hid (fun w hT => shut_ok k c ⟨#[111, 110, 101]⟩ x w hT h32 h16 (by decide) (by omega))
  have M2 := Lib.hid (fun w hT => shut_ok k c ⟨#[116, 119, 111]⟩ y w hT h32 h16 (by decide) (by omega))
  have hzA := box_size k c ⟨#[111, 110, 101]⟩ x
  have hzB := box_size k c ⟨#[116, 119, 111]⟩ y
  have hbt : ∀ i, i < x.size → i < y.size → btN (boxB k c ⟨#[111, 110, 101]⟩ x) i ^^^ btN (boxB k c ⟨#[116, 119, 111]⟩ y) i = btN x i ^^^ btN y i := fun i hi hj => by
    rw [box_at _ _ _ _ hi, box_at _ _ _ _ hj, hid_sums k c x y hi hj]
  have HBT := Lib.hid hbt
  clear h32 h16 hbt
  generalize boxB k c ⟨#[111, 110, 101]⟩ x = A at *
  generalize boxB k c ⟨#[116, 119, 111]⟩ y = B at *
  have zA : x.size ≤ A.size := by omega
  have zB : y.size ≤ B.size := by omega
  have zA2 : ¬ A.size < x.size := by omega
  have zB2 : ¬ B.size < y.size := by omega
  have HZA := Lib.hid hzA
  have HZB := Lib.hid hzB
  clear hzA hzB
  go_enter Tryz.func5, Tryz.ntmps5
  go_wp2_with fail
  refine (awake6_any _ hT).mono ?_
  rintro e w1 ⟨rfl, hB1⟩
  go_wp2_with fail
  refine (CK.out _).mono ?_
  rintro e w2 ⟨rfl, hb⟩
  have hB2 : Below w.heap.size w w2 := hB1.trans (hb.mono hB1.size)
  clear hb hB1
  go_wp2_with fail
  refine (CC.out _).mono ?_
  rintro e w3 ⟨rfl, hb⟩
  have hB3 : Below w.heap.size w w3 := hB2.trans (hb.mono hB2.size)
  clear hb hB2
  go_wp2_with fail
  refine (M1.out _ (hT.below hB3 hT.two)).mono ?_
  rintro e w4 ⟨rfl, hb⟩
  have hB4 : Below w.heap.size w w4 := hB3.trans (hb.mono hB3.size)
  clear hb hB3
  go_wp2_with fail
  refine (M2.out _ (hT.below hB4 hT.two)).mono ?_
  rintro e w5 ⟨rfl, hb⟩
  have hB5 : Below w.heap.size w w5 := hB4.trans (hb.mono hB4.size)
  clear hb hB4
  go_wp2
  clear zA zB zA2 zB2 s1 s2
  go_loopw [18] (fun a wr => ∃ i : Nat, i ≤ x.size ∧ i ≤ y.size ∧ a = .int .i64 (i : Int) ∧ Below w.heap.size w wr) (fun a _ => x.size - (intOf a).toNat)
  case atStart => exact ⟨0, by omega, by omega, rfl, hB5⟩
  case round =>
    clear hB5
    obtain ⟨i, hi0, hi1, rfl, hB⟩ := hrel
    by_cases hlx : i < x.size
    · by_cases hly : i < y.size
      · have kx : (i : Int) < (x.size : Int) := by omega
        have ky : (i : Int) < (y.size : Int) := by omega
        have hia : i < A.size := by rw [HZA.out]; omega
        have hib : i < B.size := by rw [HZB.out]; omega
        have ka : (i : Int) < (A.size : Int) := by omega
        have kb : (i : Int) < (B.size : Int) := by omega
        have gx := btN_get hlx
        have gy := btN_get hly
        have ga := btN_get hia
        have gb := btN_get hib
        have hx1 := u8_xor_nat (btN A i) (btN B i) (btN_lt A i) (btN_lt B i)
        have hx2 := u8_xor_nat (btN x i) (btN y i) (btN_lt x i) (btN_lt y i)
        rw [HBT.out i hlx hly] at hx1
        generalize btN x i ^^^ btN y i = z at *
        generalize btN x i = b1 at *
        generalize btN y i = b2 at *
        generalize btN A i = b3 at *
        generalize btN B i = b4 at *
        go_wp2
        go_region
        go_wp2
        go_roundw
        case rel => exact ⟨i + 1, by omega, by omega, by go_num, belowN hB 1⟩
        case measure => simp [intOf]; omega
      · have kx : (i : Int) < (x.size : Int) := by omega
        have ky : ¬ (i : Int) < (y.size : Int) := by omega
        go_wp2
        go_ret
        exact ⟨rfl, hB⟩
    · have kx : ¬ (i : Int) < (x.size : Int) := by omega
      go_wp2
      go_ret
      exact ⟨rfl, hB⟩
end Go.Proofs.YtancchoelmdaiaaGreatDoor
