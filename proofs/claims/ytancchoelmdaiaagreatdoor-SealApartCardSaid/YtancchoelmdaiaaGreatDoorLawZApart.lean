/-
  SealApart: the walk of the statement's function.
-/
import Derived.Test.YtancchoelmdaiaaGreatDoorGSea
namespace Go.Proofs.YtancchoelmdaiaaGreatDoor
open Go.RowKit Go.Shelf

set_option maxRecDepth 100000 in
set_option maxHeartbeats 4000000 in
theorem zapart_walk (key nonce one two s : ByteArray) (w : World) (hT : Tab w) (hkey : key.size ≤ reachBytes) (hc : nonce.size ≤ reachBytes) (_h1 : one.size ≤ maxLen) (_h2 : two.size ≤ maxLen) (_hs : s.size ≤ maxLen) :
    Calls Tryz.prog 6 #[.string key, .string nonce, .string one, .string two, .string s] w fun e w' => e = .returned (.bool true) ∧ Below w.heap.size w w' := by
  have CK := Lib.hid (fun w => key_any key true w hkey)
  have CC := Lib.hid (fun w => chunk_any nonce w hc)
  have h32 : (keyB key true).size = 32 := keyB_size key true
  have h16 := chunkB_size nonce
  generalize keyB key true = k at *
  generalize chunkB nonce = c at *
  clear hkey hc
  have s1 := cut_run one 100 100 rfl
  have s2 := cut_run two 100 100 rfl
  have s3 := cut_run s 100 100 rfl
  have z1 := cutB_size one 100
  have z2 := cutB_size two 100
  have xz := cutB_size s 100
  have hsame : one = two → cutB one 100 = cutB two 100 := fun h => by rw [h]
  generalize cutB one 100 = p at *
  generalize cutB two 100 = q at *
  generalize cutB s 100 = x at *
  have M1 := Lib.hid (fun w hT => shut_ok k c p x w hT h32 h16 (by omega) (by omega))
  have M2 := Lib.hid (fun w hT => shut_ok k c q x w hT h32 h16 (by omega) (by omega))
  have zA : ((boxB k c p x).size : Int) = (x.size : Int) + 16 := by rw [box_size]; omega
  have zB : ((boxB k c q x).size : Int) = (x.size : Int) + 16 := by rw [box_size]; omega
  have cA := box_cut k c p x
  have cB := box_cut k c q x
  have hAB : one = two → boxB k c p x = boxB k c q x := fun h => by rw [hsame h]
  generalize boxB k c p x = A at *
  generalize boxB k c q x = B at *
  have q1 : ∀ wx : World, (Instr.slice 9 (.string A) none (some (.int .i64 (x.size : Int))) none).run Tryz.prog wx = .ok (.string (hidB k c x)) wx := fun wx => by
    have := run_slice_string_h (P := Tryz.prog) (w := wx) (t := 9) (s := A) Tryz.underlying9 .i64 (x.size : Int) (by omega) (by omega)
    rwa [Int.toNat_natCast, cA] at this
  have q2 : ∀ wx : World, (Instr.slice 9 (.string B) none (some (.int .i64 (x.size : Int))) none).run Tryz.prog wx = .ok (.string (hidB k c x)) wx := fun wx => by
    have := run_slice_string_h (P := Tryz.prog) (w := wx) (t := 9) (s := B) Tryz.underlying9 .i64 (x.size : Int) (by omega) (by omega)
    rwa [Int.toNat_natCast, cB] at this
  generalize hidB k c x = H at *
  clear h32 h16 z1 z2 cA cB hsame
  have HAB := Lib.hid hAB
  clear hAB
  go_enter Tryz.func6, Tryz.ntmps6
  go_wp2_with fail
  refine (awake6_any _ hT).mono ?_
  rintro e w1 ⟨rfl, hB1⟩
  go_wp2_with fail
  refine (CK.out _).mono ?_
  rintro e w2 ⟨rfl, hb⟩
  have hB2 : Below w.heap.size w w2 := hB1.trans (hb.mono hB1.size)
  clear hb hB1
  go_wp2_with fail
  refine (CC.out _).mono ?_
  rintro e w3 ⟨rfl, hb⟩
  have hB3 : Below w.heap.size w w3 := hB2.trans (hb.mono hB2.size)
  clear hb hB2
  go_wp2_with fail
  refine (M1.out _ (hT.below hB3 hT.two)).mono ?_
  rintro e w4 ⟨rfl, hb⟩
  have hB4 : Below w.heap.size w w4 := hB3.trans (hb.mono hB3.size)
  clear hb hB3
  go_wp2_with fail
  refine (M2.out _ (hT.below hB4 hT.two)).mono ?_
  rintro e w5 ⟨rfl, hb⟩
  have hB5 : Below w.heap.size w w5 := hB4.trans (hb.mono hB4.size)
  clear hb hB4
  clear s1 s2 s3
  by_cases hot : one = two
  · obtain rfl := HAB.out hot
    subst hot
    go_wp2
    go_region
    go_wp2
    go_ret
    exact ⟨rfl, belowN hB5 1⟩
  · have hne := beqL hot
    go_wp2
    go_region
    go_wp2
    go_ret
    exact ⟨rfl, belowN hB5 1⟩
end Go.Proofs.YtancchoelmdaiaaGreatDoor
