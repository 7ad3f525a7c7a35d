/-
  Contracts of digest.wordAt and digest.schedule: the word at a place; the 64 words of a block. Conditions: the block has 64 bytes.
-/
import Derived.Test.YtcpkkicpkmjagaaDoorDigA
import Derived.IntWalk
import Derived.StillTailTactics
namespace Go.Proofs.YtcpkkicpkmjagaaDoor
open Go.RowKit

set_option maxHeartbeats 1000000 in
theorem wordAt_any (s : ByteArray) (i : Nat) (w : World) (hi : i * 4 + 3 < s.size) (hs : s.size ≤ 64) :
    Calls Tryd.prog 60 #[.string s, .int .i64 i] w fun e w' => e = .returned (.int .u32 (wd s i)) ∧ ∃ n, w' = w.drewN n := by
  have hi0 : i * 4 < s.size := by omega
  have hi1 : i * 4 + 1 < s.size := by omega
  have hi2 : i * 4 + 2 < s.size := by omega
  have h0 : (i : Int) * 4 < s.size := by omega
  have h1 : (i : Int) * 4 + 1 < s.size := by omega
  have h2 : (i : Int) * 4 + 2 < s.size := by omega
  have h3 : (i : Int) * 4 + 3 < s.size := by omega
  have hq : (0 : Int) ≤ (i : Int) * 4 := by omega
  have hq1 : (0 : Int) ≤ (i : Int) * 4 + 1 := by omega
  have hq2 : (0 : Int) ≤ (i : Int) * 4 + 2 := by omega
  have hq3 : (0 : Int) ≤ (i : Int) * 4 + 3 := by omega
  have e1 := IntWalk.i64_in ((i : Int) * 4 + 1) (by omega)
  have e2 := IntWalk.i64_in ((i : Int) * 4 + 2) (by omega)
  have e3 := IntWalk.i64_in ((i : Int) * 4 + 3) (by omega)
  have t0 : ((i : Int) * 4).toNat = i * 4 := by omega
  have t1 : ((i : Int) * 4 + 1).toNat = i * 4 + 1 := by omega
  have t2 : ((i : Int) * 4 + 2).toNat = i * 4 + 2 := by omega
  have t3 : ((i : Int) * 4 + 3).toNat = i * 4 + 3 := by omega
  go_enter Tryd.func60, Tryd.ntmps60
  go_wp2
  go_quiet (fail)
  go_wp2
  go_ret
  refine ⟨?_, nq, rfl⟩
  have hw := or_word (bt_bd s (i * 4)) (bt_bd s (i * 4 + 1)) (bt_bd s (i * 4 + 2)) (bt_bd s (i * 4 + 3))
  rw [← bt_get hi0, ← bt_get hi1, ← bt_get hi2, ← bt_get hi] at hw
  simp only [wd, ← bt_get hi0, ← bt_get hi1, ← bt_get hi2, ← bt_get hi, ← hw]
  rfl

set_option maxRecDepth 100000 in
set_option maxHeartbeats 2000000 in
theorem schedule_any (s : ByteArray) (w : World) (hs : s.size = 64) :
    Calls Tryd.prog 51 #[.string s] w fun e w' => e = .returned (.agg (row64 (schN s 48))) ∧ Below w.heap.size w w' := by
  have hs1 : s.size ≤ 64 := by omega
  have hs2 : 64 ≤ s.size := by omega
  clear hs
  have hz := Tryd.zeroValue58
  go_enter Tryd.func51, Tryd.ntmps51
  go_wp2
  go_loopw [8] (fun i wr => ∃ k : Nat, k ≤ 16 ∧ i = .int .i64 k ∧ Is wr (w.heap.size + 1) 58 (row64 ((List.range k).map (wd s))) ∧ Is wr w.heap.size 58 (row64 []) ∧ Below w.heap.size w wr)
    (fun i _ => 16 - (intOf i).toNat)
  case atStart =>
    refine ⟨0, by omega, rfl, ?_, ?_, ?_⟩
    · exact heap_alloc2_new w _ _
    · exact heap_alloc2_old w _ _
    · exact ((Below.refl _ _).alloc (Nat.le_refl _) _).alloc (by simp) _
  case round =>
    obtain ⟨k, hk, rfl, hI, hJ, hB⟩ := hrel
    by_cases hlt : k < 16
    · have hc : wr.cell? ⟨w.heap.size + 1, k, none⟩ = some (.int .u32 0) := by
        rw [hI.cell]; exact row64_zero _ _ (by simp) (by omega)
      have hf : wr.frozen? ⟨w.heap.size + 1, k, none⟩ = false := hI.frozen k
      go_wp2_with (go_at_call 60; refine (wordAt_any _ _ _ (by omega) (by omega)).mono ?_; rintro e w' ⟨rfl, nq, rfl⟩)
      go_roundw
      case rel =>
        refine ⟨k + 1, by omega, by go_num, ?_, hJ.far (by simp) _, (belowN hB _).setCell (by simp) _⟩
        have := (hI.drewN nq).set k (.int .u32 (wd s k))
        rw [List.range_succ, List.map_append]
        have h2 := row64_set ((List.range k).map (wd s)) (wd s k) (by simp; omega)
        simp only [List.length_map, List.length_range] at h2
        rw [h2] at this
        exact this
      case measure => simp [intOf]; omega
    · have hI0 : Is wr (w.heap.size + 1) 58 (row64 (schN s (16 - 16))) := by
        have hk16 : k = 16 := by omega
        rw [hk16] at hI
        exact hI
      clear hI
      go_wp2
      go_loopw [5] (fun i wr => ∃ k : Nat, 16 ≤ k ∧ k ≤ 64 ∧ i = .int .i64 k ∧ Is wr (w.heap.size + 1) 58 (row64 (schN s (k - 16))) ∧ Is wr w.heap.size 58 (row64 []) ∧ Below w.heap.size w wr)
        (fun i _ => 64 - (intOf i).toNat)
      case atStart =>
        exact ⟨16, by omega, by omega, rfl, hI0, hJ, hB⟩
      case round =>
        clear hI0 hJ hB
        obtain ⟨k, hk0, hk, rfl, hI, hJ, hB⟩ := hrel
        by_cases hlt : k < 64
        · have hlen := schN_length s (k - 16)
          have c15 : wr.cell? ⟨w.heap.size + 1, k - 15, none⟩ = some (.int .u32 (at_ (schN s (k - 16)) (k - 15))) := (hI.cell _).trans (row64_get _ _ (by omega))
          have c2 : wr.cell? ⟨w.heap.size + 1, k - 2, none⟩ = some (.int .u32 (at_ (schN s (k - 16)) (k - 2))) := (hI.cell _).trans (row64_get _ _ (by omega))
          have c16 : wr.cell? ⟨w.heap.size + 1, k - 16, none⟩ = some (.int .u32 (at_ (schN s (k - 16)) (k - 16))) := (hI.cell _).trans (row64_get _ _ (by omega))
          have c7 : wr.cell? ⟨w.heap.size + 1, k - 7, none⟩ = some (.int .u32 (at_ (schN s (k - 16)) (k - 7))) := (hI.cell _).trans (row64_get _ _ (by omega))
          have c0 : wr.cell? ⟨w.heap.size + 1, k, none⟩ = some (.int .u32 0) := (hI.cell _).trans (row64_zero _ _ (by omega) (by omega))
          have hf : wr.frozen? ⟨w.heap.size + 1, k, none⟩ = false := hI.frozen k
          have HL := Lib.hid hlen
          clear hlen
          have b15 : (0 : Int) ≤ (k : Int) - 15 := by omega
          have b2 : (0 : Int) ≤ (k : Int) - 2 := by omega
          have b16 : (0 : Int) ≤ (k : Int) - 16 := by omega
          have b7 : (0 : Int) ≤ (k : Int) - 7 := by omega
          have g16 : (16 : Int) ≤ k := by omega
          have g7 : (7 : Int) ≤ k := by omega
          have l15 : (k : Int) - 15 < 64 := by omega
          have l2 : (k : Int) - 2 < 64 := by omega
          have l16 : (k : Int) - 16 < 64 := by omega
          have l7 : (k : Int) - 7 < 64 := by omega
          have e15 := IntWalk.i64_in ((k : Int) - 15) (by omega)
          have e2 := IntWalk.i64_in ((k : Int) - 2) (by omega)
          have e16 := IntWalk.i64_in ((k : Int) - 16) (by omega)
          have e7 := IntWalk.i64_in ((k : Int) - 7) (by omega)
          have t15 : ((k : Int) - 15).toNat = k - 15 := by omega
          have t2 : ((k : Int) - 2).toNat = k - 2 := by omega
          have t16 : ((k : Int) - 16).toNat = k - 16 := by omega
          have t7 : ((k : Int) - 7).toNat = k - 7 := by omega
          go_wp2
          go_quiet (fail)
          go_wp2
          refine wp_region_still_tail 29 (by kernel_rfl) (by kernel_rfl) ?_
          change wpStill _ _ (wr.drewN (nq + 1)) (fun a' => wpList _ _ _ _ a' (wr.drewN (nq + 1))) _ _
          simp only [List.take_succ_cons, List.take_zero, List.drop_succ_cons, List.drop_zero]
          repeat (first | still_step | still_call (qstill (turn_any _ _ _ (by omega) (by omega))))
          refine wpStill_nil ?_
          go_wp2
          go_roundw
          case rel =>
            refine ⟨k + 1, by omega, by omega, by go_num, ?_, hJ.far (by simp) _, (belowN hB _).setCell (by simp) _⟩
            have h1 := (hI.drewN (nq + 1)).set k (.int .u32 (nxt (schN s (k - 16))))
            have h2 := row64_set (schN s (k - 16)) (nxt (schN s (k - 16))) (by rw [HL.out]; omega)
            have hl : (schN s (k - 16)).length = k := by rw [HL.out]; omega
            rw [hl] at h2
            rw [h2] at h1
            rw [show k + 1 - 16 = (k - 16) + 1 by omega, schN]
            have e : nxt (schN s (k - 16)) = (at_ (schN s (k - 16)) (k - 16) + at_ (schN s (k - 16)) (k - 7) + sigX (at_ (schN s (k - 16)) (k - 15)) + sigY (at_ (schN s (k - 16)) (k - 2))) % 4294967296 := by rw [nxt, hl]
            generalize nxt (schN s (k - 16)) = x at *
            subst e
            exact h1
          case measure => simp [intOf]; omega
        · have hk64 : k = 64 := by omega
          subst hk64
          have hsz : (Tryd.prog.info? 58).map (·.size) = some (row64 (schN s 48)).size := by rw [row64_size _ (by rw [schN_length]; omega)]; kernel_rfl
          have HS := Lib.hid hsz
          clear hsz
          have ho : (row64 []).size = (row64 (schN s 48)).size := by rw [row64_size _ (by simp), row64_size _ (by rw [schN_length]; omega)]
          have HO := Lib.hid ho
          clear ho
          go_wp2_with (first
            | (refine wpList_load_row rfl 58 _ rfl (w.heap.size + 1) rfl _ _ _ _ hI Tryd.underlying58 rfl HS.out ?_)
            | (refine wpList_store_row rfl 58 _ _ rfl w.heap.size (row64 (schN s 48)) rfl rfl _ _ hJ HS.out HO.out (row64_one _) ?_))
          refine bodyPost_ret (results_cell_row Tryd.results51 _ _ w.heap.size 58 (row64 (schN s 48)) (0, 0) _ rfl (hJ.row _) Tryd.underlying58 rfl HS.out) rfl ⟨rfl, ?_⟩
          exact belowRow hB (Nat.le_refl _) _
end Go.Proofs.YtcpkkicpkmjagaaDoor
