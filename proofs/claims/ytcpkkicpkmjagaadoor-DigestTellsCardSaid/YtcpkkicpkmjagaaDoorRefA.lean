/-
  Contracts of the document's own answer for layer 1: turn, first, rounds, schedule. Conditions: the block has 64 bytes.
-/
import Derived.Test.YtcpkkicpkmjagaaDoorDigM
import Derived.Test.YtcpkkicpkmjagaaDoorQTail
namespace Go.Proofs.YtcpkkicpkmjagaaDoor
open Go.RowKit

set_option maxHeartbeats 400000 in
theorem rturn_any (n x : Int) (w : World) (h0 : 0 ≤ n) (h1 : n ≤ 32) :
    Calls Tryd.prog 38 #[.int .i64 n, .int .u32 x] w fun e w' => e = .returned (.int .u32 (tw n x)) ∧ ∃ m, w' = w.drewN m := by
  go_enter Tryd.func38, Tryd.ntmps38
  go_wp2
  go_quiet (fail)
  go_wp2
  go_ret
  exact ⟨rfl, nq, rfl⟩

set_option maxRecDepth 100000 in
set_option maxHeartbeats 400000 in
theorem rfirst_any (w : World) :
    Calls Tryd.prog 41 #[] w fun e w' => e = .returned (.agg H0.arr) ∧ Below w.heap.size w w' := by
  go_enter Tryd.func41, Tryd.ntmps41
  go_wp2
  exact bodyPost_ret (results_cell_row Tryd.results41 _ _ w.heap.size 23 H0.arr (0, 0) _ rfl (heap_alloc_new w _) Tryd.underlying23 rfl (by kernel_rfl)) rfl ⟨rfl, (Below.refl _ _).alloc (Nat.le_refl _) _⟩

/-- a word, from its first bytes. -/
def pw (s : ByteArray) (i : Nat) : Nat → Int
  | 0 => 0
  | k + 1 => (256 * pw s i k + bt s (4 * i + k)) % 4294967296
theorem pw_four (s : ByteArray) (i : Nat) : pw s i 4 = wd s i := by
  have h0 := bt_bd s (4 * i)
  have h1 := bt_bd s (4 * i + 1)
  have h2 := bt_bd s (4 * i + 2)
  have h3 := bt_bd s (4 * i + 3)
  simp only [pw, wd, Nat.add_zero, Nat.mul_comm i 4]
  omega
theorem row64_pad (l : List Int) (h : l.length < 64) : row64 (l ++ [0]) = row64 l := by
  have e : 64 - l.length = (64 - (l.length + 1)) + 1 := by omega
  simp [row64, e, List.replicate_succ]
theorem row64_turn (l : List Int) (x y : Int) : (row64 (l ++ [x])).setIfInBounds l.length (.int .u32 y) = row64 (l ++ [y]) := by
  simp [row64]
theorem row64_last (l : List Int) (x : Int) : (row64 (l ++ [x]))[l.length]? = some (.int .u32 x) := by
  rw [row64_get _ _ (by simp)]
  simp [at_]

set_option maxRecDepth 100000 in
set_option maxHeartbeats 4000000 in
theorem rschedule_any (s : ByteArray) (w : World) (hs : s.size = 64) :
    Calls Tryd.prog 36 #[.string s] w fun e w' => e = .returned (.agg (row64 (schN s 48))) ∧ Below w.heap.size w w' := by
  have hs1 : s.size ≤ 64 := by omega
  have hs2 : 64 ≤ s.size := by omega
  clear hs
  have hz := Tryd.zeroValue58
  go_enter Tryd.func36, Tryd.ntmps36
  go_wp2
  clear hz
  go_loopw [4] (fun i wr => ∃ k : Nat, k ≤ 16 ∧ i = .int .i64 k ∧ Is wr (w.heap.size + 1) 58 (row64 ((List.range k).map (wd s))) ∧ Is wr w.heap.size 58 (row64 []) ∧ Below w.heap.size w wr)
    (fun i _ => 16 - (intOf i).toNat)
  case atStart =>
    refine ⟨0, by omega, rfl, ?_, ?_, ?_⟩
    · exact heap_alloc2_new w _ _
    · exact heap_alloc2_old w _ _
    · exact ((Below.refl _ _).alloc (Nat.le_refl _) _).alloc (by simp) _
  case round =>
    obtain ⟨i, hi, rfl, hI, hJ, hB⟩ := hrel
    by_cases hlt : i < 16
    · have hI0 : Is wr (w.heap.size + 1) 58 (row64 ((List.range i).map (wd s) ++ [pw s i 0])) := by
        rw [show pw s i 0 = 0 from rfl, row64_pad _ (by simp; omega)]; exact hI
      clear hI
      have hdi : decide ((i : Int) < 16) = true := by simp; omega
      go_wp2
      go_loopw [5] (fun q wr => ∃ k : Nat, k ≤ 4 ∧ q = .int .i64 k ∧ Is wr (w.heap.size + 1) 58 (row64 ((List.range i).map (wd s) ++ [pw s i k])) ∧ Is wr w.heap.size 58 (row64 []) ∧ Below w.heap.size w wr)
        (fun q _ => 4 - (intOf q).toNat)
      case atStart => exact ⟨0, by omega, rfl, hI0, hJ, hB⟩
      case round =>
        clear hI0 hJ hB
        obtain ⟨k, hk, rfl, hI, hJ, hB⟩ := hrel
        by_cases hlk : k < 4
        · have hc : wr.cell? ⟨w.heap.size + 1, i, none⟩ = some (.int .u32 (pw s i k)) := by
            rw [hI.cell]
            have := row64_last ((List.range i).map (wd s)) (pw s i k)
            simpa using this
          have hf : wr.frozen? ⟨w.heap.size + 1, i, none⟩ = false := hI.frozen i
          have hi64 : (i : Int) < 64 := by omega
          have hi0 : (0 : Int) ≤ (i : Int) := by omega
          have hb : 4 * i + k < s.size := by omega
          have hbI : 4 * (i : Int) + (k : Int) < (s.size : Int) := by omega
          have hq1 : (0 : Int) ≤ 4 * (i : Int) + (k : Int) := by omega
          have e1 := IntWalk.i64_in (4 * (i : Int)) (by omega)
          have e2 := IntWalk.i64_in (4 * (i : Int) + (k : Int)) (by omega)
          have t1 : (4 * (i : Int) + (k : Int)).toNat = 4 * i + k := by omega
          go_wp2
          refine wp_region_still_tail 14 (by kernel_rfl) (by kernel_rfl) ?_
          change wpStill _ _ (wr.drewN 1) (fun a' => wpList _ _ _ _ a' (wr.drewN 1)) _ _
          simp only [List.take_succ_cons, List.take_zero, List.drop_succ_cons, List.drop_zero]
          repeat still_step
          refine wpStill_nil ?_
          go_wp2
          go_roundw
          case rel =>
            refine ⟨k + 1, by omega, by go_num, ?_, hJ.far (by simp) _, (belowN hB _).setCell (by simp) _⟩
            have h1 := (hI.drewN 1).set i (.int .u32 (pw s i (k + 1)))
            have h2 := row64_turn ((List.range i).map (wd s)) (pw s i k) (pw s i (k + 1))
            simp only [List.length_map, List.length_range] at h2
            rw [h2] at h1
            have e : pw s i (k + 1) = (256 * pw s i k + (s[4 * i + k].toNat : Int)) % 4294967296 := by rw [pw, bt_get hb]
            generalize pw s i (k + 1) = x at *
            subst e
            exact h1
          case measure => simp [intOf]; omega
        · have hI4 : Is wr (w.heap.size + 1) 58 (row64 ((List.range (i + 1)).map (wd s))) := by
            have e : k = 4 := by omega
            rw [e, pw_four] at hI
            rw [List.range_succ, List.map_append]
            exact hI
          clear hI
          go_wp2
          go_roundw
          case rel => exact ⟨i + 1, by omega, by go_num, hI4, hJ, hB⟩
          case measure => simp [intOf]; omega
    · have hI0 : Is wr (w.heap.size + 1) 58 (row64 (schN s (16 - 16))) := by
        have hk16 : i = 16 := by omega
        rw [hk16] at hI
        exact hI
      clear hI
      go_wp2
      go_loopw [6] (fun i wr => ∃ k : Nat, 16 ≤ k ∧ k ≤ 64 ∧ i = .int .i64 k ∧ Is wr (w.heap.size + 1) 58 (row64 (schN s (k - 16))) ∧ Is wr w.heap.size 58 (row64 []) ∧ Below w.heap.size w wr)
        (fun i _ => 64 - (intOf i).toNat)
      case atStart =>
        exact ⟨16, by omega, by omega, rfl, hI0, hJ, hB⟩
      case round =>
        clear hI0 hJ hB
        obtain ⟨k, hk0, hk, rfl, hI, hJ, hB⟩ := hrel
        by_cases hlt : k < 64
        · have hlen := schN_length s (k - 16)
          have c15 : wr.cell? ⟨w.heap.size + 1, k - 15, none⟩ = some (.int .u32 (at_ (schN s (k - 16)) (k - 15))) := (hI.cell _).trans (row64_get _ _ (by omega))
          have c2 : wr.cell? ⟨w.heap.size + 1, k - 2, none⟩ = some (.int .u32 (at_ (schN s (k - 16)) (k - 2))) := (hI.cell _).trans (row64_get _ _ (by omega))
          have c16 : wr.cell? ⟨w.heap.size + 1, k - 16, none⟩ = some (.int .u32 (at_ (schN s (k - 16)) (k - 16))) := (hI.cell _).trans (row64_get _ _ (by omega))
          have c7 : wr.cell? ⟨w.heap.size + 1, k - 7, none⟩ = some (.int .u32 (at_ (schN s (k - 16)) (k - 7))) := (hI.cell _).trans (row64_get _ _ (by omega))
          have c0 : wr.cell? ⟨w.heap.size + 1, k, none⟩ = some (.int .u32 0) := (hI.cell _).trans (row64_zero _ _ (by omega) (by omega))
          have hf : wr.frozen? ⟨w.heap.size + 1, k, none⟩ = false := hI.frozen k
          have HL := Lib.hid hlen
          clear hlen
          have b15 : (0 : Int) ≤ (k : Int) - 15 := by omega
          have b2 : (0 : Int) ≤ (k : Int) - 2 := by omega
          have b16 : (0 : Int) ≤ (k : Int) - 16 := by omega
          have b7 : (0 : Int) ≤ (k : Int) - 7 := by omega
          have g16 : (16 : Int) ≤ k := by omega
          have g15 : (15 : Int) ≤ k := by omega
          have g2 : (2 : Int) ≤ k := by omega
          have g7 : (7 : Int) ≤ k := by omega
          have hk64 : (k : Int) < 64 := by omega
          have l15 : (k : Int) - 15 < 64 := by omega
          have l2 : (k : Int) - 2 < 64 := by omega
          have l16 : (k : Int) - 16 < 64 := by omega
          have l7 : (k : Int) - 7 < 64 := by omega
          have e15 := IntWalk.i64_in ((k : Int) - 15) (by omega)
          have e2 := IntWalk.i64_in ((k : Int) - 2) (by omega)
          have e16 := IntWalk.i64_in ((k : Int) - 16) (by omega)
          have e7 := IntWalk.i64_in ((k : Int) - 7) (by omega)
          have t15 : ((k : Int) - 15).toNat = k - 15 := by omega
          have t2 : ((k : Int) - 2).toNat = k - 2 := by omega
          have t16 : ((k : Int) - 16).toNat = k - 16 := by omega
          have t7 : ((k : Int) - 7).toNat = k - 7 := by omega
          go_wp2
          refine region_quiet_tail 29 (by kernel_rfl) (by kernel_rfl) ?_
          simp only [List.take_succ_cons, List.take_zero, List.drop_succ_cons, List.drop_zero]
          repeat (first | go_big_quiet_step ((go_at_call 38; exact Calls.quiet_of (rturn_any _ _ _ (by decide) (by decide)))) | quiet_step ((go_at_call 38; exact Calls.quiet_of (rturn_any _ _ _ (by decide) (by decide)))))
          refine wpQuiet_nil ?_
          intro _ hw'
          obtain ⟨nq, hw''⟩ := hw'
          subst hw''
          go_wp2
          go_roundw
          case rel =>
            refine ⟨k + 1, by omega, by omega, by go_num, ?_, hJ.far (by simp) _, (belowN hB _).setCell (by simp) _⟩
            have h1 := (hI.drewN nq).set k (.int .u32 (nxt (schN s (k - 16))))
            have h2 := row64_set (schN s (k - 16)) (nxt (schN s (k - 16))) (by rw [HL.out]; omega)
            have hl : (schN s (k - 16)).length = k := by rw [HL.out]; omega
            rw [hl] at h2
            rw [h2] at h1
            rw [show k + 1 - 16 = (k - 16) + 1 by omega, schN]
            have e : nxt (schN s (k - 16)) = (at_ (schN s (k - 16)) (k - 16) + at_ (schN s (k - 16)) (k - 7) + sigX (at_ (schN s (k - 16)) (k - 15)) + sigY (at_ (schN s (k - 16)) (k - 2))) % 4294967296 := by rw [nxt, hl]
            generalize nxt (schN s (k - 16)) = x at *
            subst e
            exact h1
          case measure => simp [intOf]; omega
        · have hI64 : Is wr (w.heap.size + 1) 58 (row64 (schN s 48)) := by
            have hk64 : k = 64 := by omega
            rw [hk64] at hI
            exact hI
          clear hI
          have hsz : (Tryd.prog.info? 58).map (·.size) = some (row64 (schN s 48)).size := by rw [row64_size _ (by rw [schN_length]; omega)]; kernel_rfl
          have ho : (row64 []).size = (row64 (schN s 48)).size := by rw [row64_size _ (by simp), row64_size _ (by rw [schN_length]; omega)]
          have hro := row64_one (schN s 48)
          generalize hR : row64 (schN s 48) = R at *
          have HR := Lib.hid hR
          have HS := Lib.hid hsz
          have HO := Lib.hid ho
          have HRO := Lib.hid hro
          clear hR hsz ho hro
          have hdk : decide ((k : Int) < 64) = false := by simp; omega
          go_wp2_with (first
            | (refine wpList_load_row rfl 58 _ rfl (w.heap.size + 1) rfl _ _ _ _ hI64 Tryd.underlying58 rfl HS.out ?_)
            | (refine wpList_store_row rfl 58 _ _ rfl w.heap.size R rfl rfl _ _ hJ HS.out HO.out HRO.out ?_))
          refine bodyPost_ret (results_cell_row Tryd.results36 _ _ w.heap.size 58 R (0, 0) _ rfl (hJ.row _) Tryd.underlying58 rfl HS.out) rfl ⟨by rw [HR.out], ?_⟩
          exact belowRow hB (Nat.le_refl _) _
end Go.Proofs.YtcpkkicpkmjagaaDoor
