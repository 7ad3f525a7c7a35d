/-
  SealBack: the walk of the statement's function.
-/
import Derived.Test.YtancchoelmdaiaaGreatDoorGSea
namespace Go.Proofs.YtancchoelmdaiaaGreatDoor
open Go.RowKit Go.Shelf

set_option maxRecDepth 100000 in
set_option maxHeartbeats 4000000 in
theorem zback_walk (key nonce wit s : ByteArray) (w : World) (hT : Tab w) (hkey : key.size ≤ reachBytes) (hc : nonce.size ≤ reachBytes) (_hw : wit.size ≤ maxLen) (_hs : s.size ≤ maxLen) :
    Calls Tryz.prog 3 #[.string key, .string nonce, .string wit, .string s] w fun e w' => e = .returned (.bool true) ∧ Below w.heap.size w w' := by
  have CK := Lib.hid (fun w => key_any key true w hkey)
  have CC := Lib.hid (fun w => chunk_any nonce w hc)
  have h32 : (keyB key true).size = 32 := keyB_size key true
  have h16 := chunkB_size nonce
  generalize keyB key true = k at *
  generalize chunkB nonce = c at *
  clear hkey hc
  have s1 := cut_run wit 200 200 rfl
  have s2 := cut_run s 200 200 rfl
  have wz := cutB_size wit 200
  have xz := cutB_size s 200
  generalize cutB wit 200 = wi at *
  generalize cutB s 200 = x at *
  have M1 := Lib.hid (fun w hT => shut_ok k c wi x w hT h32 h16 (by omega) (by omega))
  have M2 := Lib.hid (fun w hT => opn_box k c wi x w hT h32 h16 (by omega) (by omega))
  have zA : ((boxB k c wi x).size : Int) = (x.size : Int) + 16 := by rw [box_size]; omega
  generalize boxB k c wi x = A at *
  clear h32 h16 wz
  go_enter Tryz.func3, Tryz.ntmps3
  go_wp2_with fail
  refine (awake6_any _ hT).mono ?_
  rintro e w1 ⟨rfl, hB1⟩
  go_wp2_with fail
  refine (CK.out _).mono ?_
  rintro e w2 ⟨rfl, hb⟩
  have hB2 : Below w.heap.size w w2 := hB1.trans (hb.mono hB1.size)
  clear hb hB1
  go_wp2_with fail
  refine (CC.out _).mono ?_
  rintro e w3 ⟨rfl, hb⟩
  have hB3 : Below w.heap.size w w3 := hB2.trans (hb.mono hB2.size)
  clear hb hB2
  go_wp2_with fail
  refine (M1.out _ (hT.below hB3 hT.two)).mono ?_
  rintro e w4 ⟨rfl, hb⟩
  have hB4 : Below w.heap.size w w4 := hB3.trans (hb.mono hB3.size)
  clear hb hB3
  go_wp2_with fail
  refine (M2.out _ (hT.below hB4 hT.two)).mono ?_
  rintro e w5 ⟨rfl, hb⟩
  have hB5 : Below w.heap.size w w5 := hB4.trans (hb.mono hB4.size)
  clear hb hB4
  go_wp2_with fail
  refine (M1.out _ (hT.below hB5 hT.two)).mono ?_
  rintro e w6 ⟨rfl, hb⟩
  have hB6 : Below w.heap.size w w6 := hB5.trans (hb.mono hB5.size)
  clear hb hB5
  clear s1 s2
  go_wp2
  go_ret
  exact ⟨rfl, hB6⟩
end Go.Proofs.YtancchoelmdaiaaGreatDoor
