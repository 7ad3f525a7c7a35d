/-
  Contract of (square).shifted. Conditions: a block of bytes; moved by 1 or 3.
-/
import Derived.Test.YtjfeloimlgfocaaAesC
namespace Go.Proofs.Ytjfeloimlgfocaa
open Go.RowKit Go.Shelf

theorem shiftL_len (S : List Nat) (b : Nat) : (shiftL S b).length = 16 := by simp [shiftL]
theorem shiftL_get (S : List Nat) (b c r : Nat) (hc : c < 4) (hr : r < 4) : (shiftL S b).getD (c * 4 + r) 0 = S.getD ((c + r * b) % 4 * 4 + r) 0 := by
  have h1 : (c * 4 + r) / 4 = c := by omega
  have h2 : (c * 4 + r) % 4 = r := by omega
  rw [shiftL, List.getD_eq_getElem?_getD, List.getElem?_map, List.getElem?_range (by omega)]
  simp only [Option.map_some, Option.getD_some]
  rw [h1, h2, Nat.mul_comm b r, Nat.mul_comm 4]

set_option maxRecDepth 100000 in
set_option maxHeartbeats 1000000 in
theorem shifted_any (S : List Nat) (b : Nat) (w : World) (hS : S.length = 16) (hb : b ≤ 3) :
    Calls Try.prog 28 #[.agg (nA S), .int .i64 (b : Int)] w fun e w' => e = .returned (.agg (nA (shiftL S b))) ∧ Below w.heap.size w w' := by
  have hz : #[Value.int .u8 0, .int .u8 0, .int .u8 0, .int .u8 0, .int .u8 0, .int .u8 0, .int .u8 0, .int .u8 0, .int .u8 0, .int .u8 0, .int .u8 0, .int .u8 0, .int .u8 0, .int .u8 0, .int .u8 0, .int .u8 0] = nA zer16 := rfl
  have HS := Lib.hid hS
  have HD := Lib.hid (show (shiftL S b).length = zer16.length by rw [shiftL_len]; rfl)
  have HZ := Lib.hid (show zer16.length = 16 from rfl)
  clear hS
  go_enter Try.func28, Try.ntmps28
  go_wp2
  clear hz
  have iX : Is (((w.alloc (.cells (nA S) 60)).alloc (.cells (nA zer16) 60)).alloc (.cells (nA zer16) 60)) w.heap.size 60 (nA S) := ((Is.new w _ _).alloc _).alloc _
  have iR : Is (((w.alloc (.cells (nA S) 60)).alloc (.cells (nA zer16) 60)).alloc (.cells (nA zer16) 60)) (w.heap.size + 1) 60 (nA zer16) := Is.alloc (heap_alloc2_new w _ _) _
  have iO : Is (((w.alloc (.cells (nA S) 60)).alloc (.cells (nA zer16) 60)).alloc (.cells (nA zer16) 60)) (w.heap.size + 1 + 1) 60 (nA zer16) := by
    have := Is.new ((w.alloc (.cells (nA S) 60)).alloc (.cells (nA zer16) 60)) 60 (nA zer16)
    simpa using this
  have hB0 : Below w.heap.size w (((w.alloc (.cells (nA S) 60)).alloc (.cells (nA zer16) 60)).alloc (.cells (nA zer16) 60)) := (((Below.refl _ _).alloc (Nat.le_refl _) _).alloc (by simp) _).alloc (by simp; omega) _
  generalize (((w.alloc (.cells (nA S) 60)).alloc (.cells (nA zer16) 60)).alloc (.cells (nA zer16) 60)) = W0 at *
  obtain ⟨Bx, hBx⟩ : ∃ Bx, Bx = w.heap.size := ⟨_, rfl⟩
  obtain ⟨Br, hBr⟩ : ∃ Br, Br = w.heap.size + 1 := ⟨_, rfl⟩
  obtain ⟨Bo, hBo⟩ : ∃ Bo, Bo = w.heap.size + 1 + 1 := ⟨_, rfl⟩
  rw [← hBo, ← hBr, ← hBx]
  rw [← hBx] at iX
  rw [← hBr] at iR
  rw [← hBo] at iO
  have q1 : w.heap.size ≤ Bo := by omega
  have q2 : w.heap.size ≤ Br := by omega
  have q3 : Br ≠ Bo := by omega
  have q4 : Bx ≠ Bo := by omega
  clear hBx hBr hBo
  go_loopw [8] (fun i wr => ∃ c : Nat, c ≤ 4 ∧ i = .int .i64 (c : Int) ∧ Is wr Bo 60 (nA (thru (shiftL S b) zer16 (c * 4))) ∧ Is wr Bx 60 (nA S) ∧ Is wr Br 60 (nA zer16) ∧ Below w.heap.size w wr)
    (fun i _ => 4 - (intOf i).toNat)
  case atStart => exact ⟨0, by omega, rfl, by rw [Nat.zero_mul, thru_zero]; exact iO, iX, iR, hB0⟩
  case round =>
    clear iX iO iR hB0
    obtain ⟨c, hc, rfl, iO, iX, iR, hB⟩ := hrel
    by_cases hlt : c < 4
    · have hi1 : (c : Int) < 4 := by omega
      go_wp2
      go_loopw [11] (fun i wr => ∃ r : Nat, r ≤ 4 ∧ i = .int .i64 (r : Int) ∧ Is wr Bo 60 (nA (thru (shiftL S b) zer16 (c * 4 + r))) ∧ Is wr Bx 60 (nA S) ∧ Is wr Br 60 (nA zer16) ∧ Below w.heap.size w wr)
        (fun i _ => 4 - (intOf i).toNat)
      case atStart => exact ⟨0, by omega, rfl, iO, iX, iR, hB⟩
      case round =>
        clear iX iO iR hB
        obtain ⟨r, hr, rfl, iO, iX, iR, hB⟩ := hrel
        by_cases hlt2 : r < 4
        · have hi2 : (r : Int) < 4 := by omega
          have hr0 : (0 : Int) ≤ (r : Int) := by omega
          have hc0 : (0 : Int) ≤ (c : Int) := by omega
          have hst := thru_set HD.out (n := c * 4 + r) (by rw [HZ.out]; omega)
          rw [shiftL_get S b c r hlt hlt2] at hst
          have hrb : r * b ≤ 9 := Nat.mul_le_mul (by omega : r ≤ 3) hb
          obtain ⟨m, hm⟩ : ∃ m, m = (c + r * b) % 4 := ⟨_, rfl⟩
          have hm4 : m < 4 := by omega
          rw [← hm] at hst
          have cX : wr.cell? ⟨Bx, m * 4 + r, none⟩ = some (.int .u8 ((S.getD (m * 4 + r) 0 : Nat) : Int)) := by rw [iX.cell, nA_get _ _ (by rw [HS.out]; omega)]
          have cO : (wr.cell? ⟨Bo, c * 4 + r, none⟩).isSome = true := by rw [iO.cell, nA_get _ _ (by rw [thru_len HD.out, HZ.out]; omega)]; rfl
          obtain ⟨vO, cO⟩ := Option.isSome_iff_exists.1 cO
          have fO := iO.frozen (c * 4 + r)
          have e1 : (r : Int) * (b : Int) = ((r * b : Nat) : Int) := by simp
          have e2 : (c : Int) + ((r * b : Nat) : Int) = ((c + r * b : Nat) : Int) := by simp
          have w1 : IntKind.i64.wrap ((r : Int) * (b : Int)) = ((r * b : Nat) : Int) := by rw [e1]; exact IntWalk.i64_in _ (by omega)
          have w2 : IntKind.i64.wrap ((c : Int) + ((r * b : Nat) : Int)) = ((c + r * b : Nat) : Int) := by rw [e2]; exact IntWalk.i64_in _ (by omega)
          have w3 : ((c + r * b : Nat) : Int).tmod 4 = (m : Int) := by rw [Int.tmod_eq_emod_of_nonneg (by omega)]; omega
          have hm0 : (0 : Int) ≤ (m : Int) := by omega
          have hm1 : (m : Int) < 4 := by omega
          generalize S.getD (m * 4 + r) 0 = x at *
          have hs2 := nA_set (thru (shiftL S b) zer16 (c * 4 + r)) (c * 4 + r) x
          rw [hst] at hs2
          have HST := Lib.hid hs2
          clear hst hs2 hm e1 e2
          generalize r * b = rb at *
          generalize hcr : c + rb = crb at *
          clear hcr
          go_wp2
          go_region
          clear w1 w2 w3
          go_wp2
          go_roundw
          case rel =>
            refine ⟨r + 1, by omega, by go_num, ?_, iX.far (p := ⟨Bo, c * 4 + r, none⟩) q4 _, iR.far (p := ⟨Bo, c * 4 + r, none⟩) q3 _, belowD (hB.setCell (p := ⟨Bo, c * 4 + r, none⟩) q1 _)⟩
            have := iO.set (c * 4 + r) (.int .u8 (x : Int))
            rw [HST.out] at this
            exact this
          case measure => simp [intOf]; omega
        · have hi2 : ¬ (r : Int) < 4 := by omega
          obtain rfl : r = 4 := by omega
          rw [show c * 4 + 4 = (c + 1) * 4 by omega] at iO
          go_wp2
          go_roundw
          case rel => exact ⟨c + 1, by omega, by go_num, iO, iX, iR, hB⟩
          case measure => simp [intOf]; omega
    · have hi1 : ¬ (c : Int) < 4 := by omega
      obtain rfl : c = 4 := by omega
      rw [thru_all HD.out (by rw [HZ.out]; omega)] at iO
      have hl : (shiftL S b).length = 16 := shiftL_len S b
      have hone := nA_one (shiftL S b)
      have hin : (Try.prog.info? 60).map (·.size) = some (nA (shiftL S b)).size := by rw [nA_size, hl]; exact info16
      have hs2 : (nA (shiftL S b)).size = 16 := by rw [nA_size, hl]
      generalize hR : nA (shiftL S b) = R at *
      have HR := Lib.hid hR
      clear hR hl
      go_wp2_with (first
        | (refine wpList_load_row rfl 60 _ rfl Bo rfl _ _ _ _ iO Try.underlying60 rfl hin ?_)
        | (refine wpList_store_row rfl 60 _ _ rfl Br R rfl rfl _ _ iR hin (by rw [hs2]; rfl) hone ?_))
      refine bodyPost_ret (results_cell_row Try.results28 _ _ Br 60 R (0, 0) _ rfl (iR.row _) Try.underlying60 rfl hin) rfl ⟨by rw [HR.out], ?_⟩
      exact belowRow hB q2 _
end Go.Proofs.Ytjfeloimlgfocaa
