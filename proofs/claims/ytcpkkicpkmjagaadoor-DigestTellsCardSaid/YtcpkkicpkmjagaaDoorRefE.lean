/-
  Contracts of the document's own answer for layer 1: End. Conditions: the words are in their range.
-/
import Derived.Test.YtcpkkicpkmjagaaDoorRefD
import Derived.Test.YtcpkkicpkmjagaaDoorByA
import Derived.Test.YtcpkkicpkmjagaaDoorKitR
namespace Go.Proofs.YtcpkkicpkmjagaaDoor
open Go.RowKit

set_option maxRecDepth 100000 in
set_option maxHeartbeats 1000000 in
theorem rend_arg (x : Hs) (w : World) (hr : rightB x = false) :
    Calls Tryd.prog 20 #[.agg x.arr] w fun e w' => e = .returned (.tuple #[.string ⟨#[]⟩, .int .i64 1]) ∧ Below w.heap.size w w' := by
  have HR := Lib.hid hr
  clear hr
  go_enter Tryd.func20, Tryd.ntmps20
  go_wp2_with fail
  refine (rright_any x _).mono ?_
  rintro e w1 ⟨rfl, hb1⟩
  rw [HR.out]
  have hB1 : Below w.heap.size w w1 := ((Below.refl _ _).alloc (Nat.le_refl _) _).trans (hb1.mono (by simp))
  clear hb1
  go_wp2
  go_ret2
  exact ⟨rfl, hB1⟩

theorem append_nums_nil (A : ByteArray) : A ++ strOfNums [] = A := by
  apply ByteArray.ext
  simp [strOfNums, ByteArray.data_append]
def strLen : Value → Nat
  | .string s => s.size
  | _ => 0
theorem strOfNums_append (a b : List Int) : strOfNums (a ++ b) = strOfNums a ++ strOfNums b := by
  apply ByteArray.ext
  simp [strOfNums]
/-- the lowest bytes of a number, the last one the lowest. -/
def tl (M : Int) : Nat → List Int
  | 0 => []
  | j + 1 => (M / 256 ^ j % 256) :: tl M j
theorem tl_length (M : Int) (j : Nat) : (tl M j).length = j := by
  induction j with
  | zero => rfl
  | succ j ih => rw [tl, List.length_cons, ih]
def tailL (M : Int) (j : Nat) : List Int := List.replicate (8 - j) 0 ++ tl M j
theorem tailL_length (M : Int) (j : Nat) (h : j ≤ 8) : (tailL M j).length = 8 := by rw [tailL, List.length_append, List.length_replicate, tl_length]; omega
theorem tailL_get (M : Int) (j : Nat) (h : j < 8) : (tailL M j).getD (7 - j) 0 = 0 := by
  rw [tailL, List.getD_eq_getElem?_getD, List.getElem?_append_left (by rw [List.length_replicate]; omega), List.getElem?_replicate]
  split <;> rfl
theorem tailL_set (M : Int) (j : Nat) (h : j < 8) : (tailL M j).set (7 - j) (M / 256 ^ j % 256) = tailL M (j + 1) := by
  rw [tailL, tailL, tl, show 8 - j = (7 - j) + 1 by omega, List.replicate_succ', List.append_assoc, List.set_append_right _ _ (by rw [List.length_replicate]; omega), List.length_replicate, Nat.sub_self]
  rw [show 8 - (j + 1) = 7 - j by omega]
  rfl
theorem tailL_8 (m : Int) : tailL (8 * m) 8 = lenTo m 8 := by
  rw [Int.mul_comm]
  simp [tailL, tl, lenTo, List.range_succ]

set_option maxRecDepth 100000 in
set_option maxHeartbeats 1000000 in
theorem rend_ok (x : Hs) (w : World) (hh : x.h.Ok) (hr : rightB x = true) :
    Calls Tryd.prog 20 #[.agg x.arr] w fun e w' => e = .returned (.tuple #[.string (endS x), .int .i64 0]) ∧ Below w.heap.size w w' := by
  have hr' := hr
  simp only [rightB, Bool.and_eq_true, decide_eq_true_eq, beq_iff_eq] at hr'
  obtain ⟨⟨h0, h1⟩, h2⟩ := hr'
  have hrs : x.r.size < 64 := by omega
  have HR := Lib.hid hr
  have HH := Lib.hid hh
  have H2 := Lib.hid h2
  clear hr h2 hh
  go_enter Tryd.func20, Tryd.ntmps20
  go_wp2_with fail
  refine (rright_any x _).mono ?_
  rintro e w1 ⟨rfl, hb1⟩
  rw [HR.out]
  have iX : Is w1 w.heap.size 25 x.arr := Is.below (heap_alloc_new w _) hb1 (by simp)
  have hB1 : Below w.heap.size w w1 := ((Below.refl _ _).alloc (Nat.le_refl _) _).trans (hb1.mono (by simp))
  have hB1s : w.heap.size < w1.heap.size := iX.lt
  clear hb1
  have a0 : w1.cell? ⟨w.heap.size, 0, none⟩ = some (.int .u32 x.h.a) := iX.cell 0
  have a1 : w1.cell? ⟨w.heap.size, 1, none⟩ = some (.int .u32 x.h.b) := iX.cell 1
  have a2 : w1.cell? ⟨w.heap.size, 2, none⟩ = some (.int .u32 x.h.c) := iX.cell 2
  have a3 : w1.cell? ⟨w.heap.size, 3, none⟩ = some (.int .u32 x.h.d) := iX.cell 3
  have a4 : w1.cell? ⟨w.heap.size, 4, none⟩ = some (.int .u32 x.h.e) := iX.cell 4
  have a5 : w1.cell? ⟨w.heap.size, 5, none⟩ = some (.int .u32 x.h.f) := iX.cell 5
  have a6 : w1.cell? ⟨w.heap.size, 6, none⟩ = some (.int .u32 x.h.g) := iX.cell 6
  have a7 : w1.cell? ⟨w.heap.size, 7, none⟩ = some (.int .u32 x.h.h) := iX.cell 7
  have a8 : w1.cell? ⟨w.heap.size, 8, none⟩ = some (.string x.r) := iX.cell 8
  have a9 : w1.cell? ⟨w.heap.size, 9, none⟩ = some (.int .i64 x.m) := iX.cell 9
  have hnl : ¬ (9223372036854775807 < x.r.size + 1) := by omega
  go_wp2
  have hN : ∃ N : Nat, N = noughts x.m ∧ N < 64 ∧ ∀ j : Nat, j ≤ N → (((x.r.size : Int) + 1 + j) % 64 = 56 ↔ j = N) := by
    refine ⟨_, rfl, noughts_lt _, fun j hj => ?_⟩
    have h2 := H2.out
    unfold noughts at hj ⊢
    omega
  obtain ⟨N, hN, hN64, hNj⟩ := hN
  have HN := Lib.hid hN
  clear hN
  clear a0 a1 a2 a3 a4 a5 a6 a7
  have hz : ∀ j : Nat, (x.r ++ strOfNums (128 :: List.replicate j 0)).size = x.r.size + 1 + j := fun j => by
    rw [ByteArray.size_append, str_size]; simp; omega
  have hs0 : x.r ++ ⟨#[128]⟩ = x.r ++ strOfNums (128 :: List.replicate 0 0) := rfl
  rw [hs0]
  have hsn : ∀ j : Nat, x.r ++ strOfNums (128 :: List.replicate j 0) ++ ⟨#[0]⟩ = x.r ++ strOfNums (128 :: List.replicate (j + 1) 0) := fun j => by
    rw [ByteArray.append_assoc]
    congr 1
    rw [List.replicate_succ', ← List.cons_append, strOfNums_append]
    rfl
  go_loopw [4] (fun v wr => ∃ j : Nat, j ≤ N ∧ v = .string (x.r ++ strOfNums (128 :: List.replicate j 0)) ∧ w1 = wr)
    (fun v _ => 200 - strLen v)
  case atStart => exact ⟨0, by omega, rfl, rfl⟩
  case round =>
    obtain ⟨j, hj, rfl, rfl⟩ := hrel
    have hzj := hz j
    have hsj := hsn j
    have hz2 := hz (j + 1)
    by_cases he : j = N
    · have heq : ((x.r.size : Int) + 1 + j) % 64 = 56 := (hNj j hj).2 he
      subst he
      generalize hA : x.r ++ strOfNums (128 :: List.replicate j 0) = A at *
      have HA := Lib.hid hA
      clear hA hsj hz2 hz hsn
      have hdn : (((A.size : Nat) : Int) % 64 != 56) = false := by
        rw [hzj]; simpa using heq
      have hwn := IntWalk.i64_in (8 * x.m) (by omega)
      go_wp2
      have hAz : A.size ≤ 128 := by omega
      have hAm : (A.size + 8) % 64 = 0 := by omega
      clear hdn hwn heq hNj hzj
      go_loopw [5, 7] (fun n i wr => ∃ j : Nat, j ≤ 8 ∧ i = .int .i64 (7 - (j : Int)) ∧ n = .int .i64 (8 * x.m / 256 ^ j) ∧ Is wr w1.heap.size 65 (byA (tailL (8 * x.m) j)) ∧ Is wr w.heap.size 25 x.arr ∧ Below w.heap.size w wr)
        (fun _ i _ => (intOf i + 1).toNat)
      case atStart => exact ⟨0, by omega, rfl, by simp, Is.new w1 _ _, iX.alloc _, hB1.alloc hB1.size _⟩
      case round =>
        clear iX hB1
        obtain ⟨p, hp, rfl, rfl, iT, iX, hB⟩ := hrel
        by_cases hlt : p < 8
        · have hv0 : 0 ≤ 8 * x.m / 256 ^ p := Int.ediv_nonneg (by omega) (Int.le_of_lt (Int.pow_pos (by decide)))
          have hv1 : 8 * x.m / 256 ^ p ≤ 8388608 := Int.le_trans (Int.ediv_le_self _ (by omega)) (by omega)
          have hset := tailL_set (8 * x.m) p hlt
          have hdiv : 8 * x.m / 256 ^ (p + 1) = 8 * x.m / 256 ^ p / 256 := by rw [Int.pow_succ, Int.ediv_ediv_of_nonneg (Int.le_of_lt (Int.pow_pos (by decide)))]
          have ht : (7 - (p : Int)).toNat = 7 - p := by omega
          have hc : wr.cell? ⟨w1.heap.size, 7 - p, none⟩ = some (.int .u8 0) := by rw [iT.cell, byA_get _ _ (by rw [tailL_length _ _ hp]; omega), tailL_get _ _ hlt]
          have hf : wr.frozen? ⟨w1.heap.size, 7 - p, none⟩ = false := iT.frozen _
          generalize hvv : 8 * x.m / 256 ^ p = v at *
          have HSET := Lib.hid hset
          have HDIV := Lib.hid hdiv
          clear hset hdiv hvv
          have hd : decide (0 ≤ 7 - (p : Int)) = true := by simp; omega
          have hn1 : (0 : Int) ≤ 7 - (p : Int) := by omega
          have hn2 : 7 - (p : Int) < 8 := by omega
          have hw8 := IntWalk.u8_in (v % 256) (by omega)
          go_wp2
          go_roundw
          case rel =>
            refine ⟨p + 1, by omega, by go_num, by rw [HDIV.out], ?_, iX.far (by have := hB.size; simp; omega) _, hB.setCell (Nat.le_of_lt hB1s) _⟩
            have h3 := iT.set (7 - p) (.int .u8 (v % 256))
            rw [byA_set, HSET.out] at h3
            exact h3
          case measure => simp [intOf]; omega
        · have e8 : p = 8 := by omega
          rw [e8, tailL_8] at iT
          have hll := lenTo_length x.m 8
          generalize hL8 : lenTo x.m 8 = L at *
          have HL8 := Lib.hid hL8
          have HLL := Lib.hid hll
          have hd : decide (0 ≤ 7 - (p : Int)) = false := by simp; omega
          have hn : ¬ (0 : Int) ≤ 7 - (p : Int) := by omega
          clear hL8 hll e8
          go_wp2
          clear hd hn
          go_loopw [4, 8] (fun v i wr => ∃ q : Nat, q ≤ 8 ∧ i = .int .i64 q ∧ v = .string (A ++ strOfNums (L.take q)) ∧ Is wr w1.heap.size 65 (byA L) ∧ Is wr w.heap.size 25 x.arr ∧ Below w.heap.size w wr)
            (fun _ i _ => 8 - (intOf i).toNat)
          case atStart => exact ⟨0, by omega, rfl, by rw [List.take_zero, append_nums_nil], iT, iX, hB⟩
          case round =>
            clear iX hB iT
            obtain ⟨q, hq, rfl, rfl, iT, iX, hB⟩ := hrel
            by_cases hlt : q < 8
            · have hc : wr.cell? ⟨w1.heap.size, q, none⟩ = some (.int .u8 (L.getD q 0)) := by rw [iT.cell, byA_get _ _ (by rw [HLL.out]; exact hlt)]
              have hnx : A ++ strOfNums (L.take q) ++ strOfNums [L.getD q 0] = A ++ strOfNums (L.take (q + 1)) := by
                rw [ByteArray.append_assoc, ← strOfNums_append, List.take_succ_eq_append_getElem (by rw [HLL.out]; exact hlt), List.getD_eq_getElem?_getD, List.getElem?_eq_getElem (by rw [HLL.out]; exact hlt)]
                rfl
              have hAq : (A ++ strOfNums (L.take q)).size ≤ 136 := by rw [ByteArray.size_append, str_size, List.length_take]; omega
              generalize L.getD q 0 = y at *
              generalize A ++ strOfNums (L.take q) = B at *
              have HNX := Lib.hid hnx
              clear hnx
              have hcv := run_convert_bytes_arg (P := Tryd.prog) (wr.alloc (.cells #[.int .u8 y] 5)) 42 5 Tryd.underlying42 Tryd.underlying5 wr.heap.size 0 1 1 [y] rfl (fun i hi => by
                obtain rfl : i = 0 := by omega
                exact (Is.new wr 5 #[.int .u8 y]).cell 0) 9 Tryd.underlying9
              have hys : (strOfNums [y]).size = 1 := by rw [str_size]; rfl
              have hnl3 : ¬ (9223372036854775807 < B.size + (strOfNums [y]).size) := by rw [hys]; omega
              generalize strOfNums [y] = Y at *
              clear hys
              go_wp2
              go_roundw
              case rel => exact ⟨q + 1, by omega, by go_num, by rw [HNX.out], iT.alloc _, iX.alloc _, hB.alloc hB.size _⟩
              case measure => simp [intOf]; omega
            · have e8 : q = 8 := by omega
              have hTe : A ++ strOfNums (L.take q) = x.r ++ strOfNums (padTo x.m 8) := by
                rw [e8, List.take_of_length_le (by rw [HLL.out]; omega), ← HA.out, ByteArray.append_assoc, ← strOfNums_append, ← HL8.out, padTo, ← HN.out]
                rfl
              have hTs : (A ++ strOfNums (L.take q)).size = A.size + 8 := by rw [ByteArray.size_append, str_size, List.length_take, HLL.out, e8]; rfl
              generalize A ++ strOfNums (L.take q) = T at *
              have hTz : T.size ≤ 136 := by omega
              have hTm : T.size % 64 = 0 := by omega
              have HTE := Lib.hid hTe
              clear hTe hTs e8
              have b0 : wr.cell? ⟨w.heap.size, 0, none⟩ = some (.int .u32 x.h.a) := iX.cell 0
              have b1 : wr.cell? ⟨w.heap.size, 1, none⟩ = some (.int .u32 x.h.b) := iX.cell 1
              have b2 : wr.cell? ⟨w.heap.size, 2, none⟩ = some (.int .u32 x.h.c) := iX.cell 2
              have b3 : wr.cell? ⟨w.heap.size, 3, none⟩ = some (.int .u32 x.h.d) := iX.cell 3
              have b4 : wr.cell? ⟨w.heap.size, 4, none⟩ = some (.int .u32 x.h.e) := iX.cell 4
              have b5 : wr.cell? ⟨w.heap.size, 5, none⟩ = some (.int .u32 x.h.f) := iX.cell 5
              have b6 : wr.cell? ⟨w.heap.size, 6, none⟩ = some (.int .u32 x.h.g) := iX.cell 6
              have b7 : wr.cell? ⟨w.heap.size, 7, none⟩ = some (.int .u32 x.h.h) := iX.cell 7
              have hdq : decide ((q : Int) < 8) = false := by simp; omega
              go_wp2
              clear b0 b1 b2 b3 b4 b5 b6 b7 hdq
              have iN : Is (wr.alloc (.cells x.h.arr 23)) wr.heap.size 23 x.h.arr := Is.new wr _ _
              have hB2 := hB.alloc hB.size (.cells x.h.arr 23)
              have hGs : w.heap.size < wr.heap.size := iX.lt
              obtain ⟨G, hG⟩ : ∃ G, G = wr.heap.size := ⟨_, rfl⟩
              rw [← hG] at iN hGs ⊢
              clear hG iX iT hB
              go_loopw [10] (fun i wr => ∃ k : Nat, k * 64 ≤ T.size ∧ i = .int .i64 ((k : Int) * 64) ∧ Is wr G 23 (mixL x.h (blks T k)).arr ∧ Below w.heap.size w wr)
                (fun i _ => T.size - (intOf i).toNat)
              case atStart => exact ⟨0, by omega, rfl, iN, hB2⟩
              case round =>
                clear iN hB2
                obtain ⟨k, hk, rfl, iS, hB⟩ := hrel
                by_cases hlt : k * 64 < T.size
                · have hle : k * 64 + 64 ≤ T.size := by omega
                  have hok : (mixL x.h (blks T k)).Ok := mixL_ok HH.out _
                  have hnx : mixL x.h (blks T (k + 1)) = mixS (mixL x.h (blks T k)) (T.extract (k * 64) (k * 64 + 64)) := by
                    rw [blks_succ, mixL_snoc, blk, dif_pos hle]
                  generalize hsr : mixL x.h (blks T k) = sr at *
                  have HOK := Lib.hid hok
                  have HNX := Lib.hid hnx
                  clear hsr hok hnx
                  have hsz : (T.extract (k * 64) (k * 64 + 64)).size = 64 := by simp; omega
                  have HSZ := Lib.hid hsz
                  clear hsz
                  have hd : decide ((k : Int) * 64 < (T.size : Int)) = true := by simp; omega
                  have hsl : ∀ wx : World, (Instr.slice 9 (.string T) (some (.int .i64 ((k : Int) * 64))) (some (.int .i64 ((k : Int) * 64 + 64))) none).run Tryd.prog wx = .ok (.string (T.extract (k * 64) (k * 64 + 64))) wx := fun wx => by
                    have h := run_slice_string (P := Tryd.prog) (w := wx) 9 T .i64 .i64 ((k : Int) * 64) ((k : Int) * 64 + 64) Tryd.underlying9 (by omega) (by omega) (by omega)
                    have e1 : ((k : Int) * 64).toNat = k * 64 := by omega
                    have e2 : ((k : Int) * 64 + 64).toNat = k * 64 + 64 := by omega
                    rw [e1, e2] at h
                    exact h
                  generalize T.extract (k * 64) (k * 64 + 64) = B at *
                  have c0 : wr.cell? ⟨G, 0, none⟩ = some (.int .u32 sr.a) := iS.cell 0
                  have c1 : wr.cell? ⟨G, 1, none⟩ = some (.int .u32 sr.b) := iS.cell 1
                  have c2 : wr.cell? ⟨G, 2, none⟩ = some (.int .u32 sr.c) := iS.cell 2
                  have c3 : wr.cell? ⟨G, 3, none⟩ = some (.int .u32 sr.d) := iS.cell 3
                  have c4 : wr.cell? ⟨G, 4, none⟩ = some (.int .u32 sr.e) := iS.cell 4
                  have c5 : wr.cell? ⟨G, 5, none⟩ = some (.int .u32 sr.f) := iS.cell 5
                  have c6 : wr.cell? ⟨G, 6, none⟩ = some (.int .u32 sr.g) := iS.cell 6
                  have c7 : wr.cell? ⟨G, 7, none⟩ = some (.int .u32 sr.h) := iS.cell 7
                  have hwk := IntWalk.i64_in ((k : Int) * 64 + 64) (by omega)
                  go_wp2
                  go_region_with
                    (first | (go_at_call 12; refine (rcompress_ok sr B _ HSZ.out HOK.out).mono ?_; rintro e w2 ⟨rfl, hb2⟩; generalize hmm : mixS sr B = mm; have HMM := Lib.hid hmm; clear hmm; have j2 : Is w2 G 23 sr.arr := Is.below (iS.drewN 1) hb2 iS.lt; have hB2 : Below w.heap.size w w2 := (belowN hB 1).trans (hb2.mono hB.size); have b0 : w2.cell? ⟨G, 0, none⟩ = some (.int .u32 sr.a) := j2.cell 0; have y0 := j2.frozen 0; have b1 : w2.cell? ⟨G, 1, none⟩ = some (.int .u32 sr.b) := j2.cell 1; have y1 := j2.frozen 1; have b2 : w2.cell? ⟨G, 2, none⟩ = some (.int .u32 sr.c) := j2.cell 2; have y2 := j2.frozen 2; have b3 : w2.cell? ⟨G, 3, none⟩ = some (.int .u32 sr.d) := j2.cell 3; have y3 := j2.frozen 3; have b4 : w2.cell? ⟨G, 4, none⟩ = some (.int .u32 sr.e) := j2.cell 4; have y4 := j2.frozen 4; have b5 : w2.cell? ⟨G, 5, none⟩ = some (.int .u32 sr.f) := j2.cell 5; have y5 := j2.frozen 5; have b6 : w2.cell? ⟨G, 6, none⟩ = some (.int .u32 sr.g) := j2.cell 6; have y6 := j2.frozen 6; have b7 : w2.cell? ⟨G, 7, none⟩ = some (.int .u32 sr.h) := j2.cell 7; have y7 := j2.frozen 7; clear hb2 c0 c1 c2 c3 c4 c5 c6 c7))
                  go_wp2
                  go_roundw
                  case rel =>
                    refine ⟨k + 1, by omega, by go_num, ?_, below8 hB2 (Nat.le_of_lt hGs) mm⟩
                    rw [HNX.out, HMM.out]
                    exact j2.set8 mm
                  case measure => simp [intOf]; omega
                · have hmt : mixL x.h (blks T k) = mixT x.h T := by rw [mixT, show T.size / 64 = k by omega]
                  rw [hmt] at iS
                  have hes : endS x = strOfNums (wbTo (mixT x.h T) 8) := by rw [endS, HTE.out]
                  generalize mixT x.h T = sr at *
                  have HES := Lib.hid hes
                  clear hmt hes
                  have hd : decide ((k : Int) * 64 < (T.size : Int)) = false := by simp; omega
                  go_wp2
                  clear hd
                  obtain ⟨i0, hi, hz0, hz1, hz2⟩ := info_parts infoByte
                  go_loopw [11, 12] (fun v i wr => ∃ k : Nat, k ≤ 8 ∧ i = .int .i64 k ∧ wr.ownsRow (G + 1) 5 1 v (4 * k) ((wbTo sr k).map (Value.int .u8)) ∧ Is wr G 23 sr.arr ∧ Below w.heap.size w wr)
                    (fun _ i _ => 8 - (intOf i).toNat)
                  case atStart => exact ⟨0, by omega, rfl, World.ownsRow_nil _ _ _ _, iS, hB⟩
                  case round =>
                    clear iS hB
                    obtain ⟨k, hk, rfl, hown, iS, hB⟩ := hrel
                    by_cases hlt : k < 8
                    · have hc : wr.cell? ⟨G, k, none⟩ = some (.int .u32 (sr.get k)) := (iS.cell _).trans (by rw [arr_arrF]; exact arrF_get _ _ hlt)
                      have hck : sr.arr[k]? = some (.int .u32 (sr.get k)) := by rw [arr_arrF]; exact arrF_get _ _ hlt
                      have hwb := wbTo_succ sr k
                      generalize sr.get k = h at *
                      have hS1 : ∀ o, ((wr.alloc o).drew).cell? ⟨G, k, none⟩ = some (.int .u32 h) := fun o => ((iS.alloc o).cell k).trans hck
                      have HCK := Lib.hid hck
                      have HS1 := Lib.hid hS1
                      clear hck hS1
                      obtain ⟨v, hv⟩ : ∃ v, v = u11 := ⟨_, rfl⟩
                      subst hv
                      have HWB := Lib.hid hwb
                      clear hwb
                      have hi1 : (0 : Int) ≤ (k : Int) := by omega
                      have hi2 : (k : Int) < 8 := by omega
                      go_wp2
                      refine wp_region_held_drew (S := fun W => W.cell? ⟨G, k, none⟩ = some (.int .u32 h)) (by kernel_rfl) hc (fun hS => ?_)
                      refine wpAnyH_take (i := 0) (v := v) rfl (by kernel_rfl) (by kernel_rfl) (by kernel_rfl) (fun _ _ _ h => h) (Or.inl ⟨by rfl, fun w hSw => by go_simp⟩) hS ?_
                      simp only [Act.put]
                      refine wpAnyH_take (i := 1) (v := .int .i64 (k : Int)) rfl (by kernel_rfl) (by kernel_rfl) (by kernel_rfl) (fun _ _ _ h => h) (Or.inl ⟨by rfl, fun w hSw => by go_simp⟩) hS ?_
                      simp only [Act.put]
                      refine wpAnyH_take (i := 2) (v := .pointer (some ⟨G, k, none⟩)) rfl (by kernel_rfl) (by kernel_rfl) (by kernel_rfl) (fun _ _ _ h => h) (Or.inl ⟨by rfl, fun w hSw => by go_simp⟩) hS ?_
                      simp only [Act.put]
                      refine wpAnyH_take (i := 3) (v := .int .u32 h) rfl (by kernel_rfl) (by kernel_rfl) (by kernel_rfl) (fun _ _ _ h => h) (Or.inl ⟨by rfl, fun w hSw => by (dsimp only at hSw; go_simp)⟩) hS ?_
                      simp only [Act.put]
                      refine wpAnyH_take (i := 4) (v := .int .u32 (h / 16777216)) rfl (by kernel_rfl) (by kernel_rfl) (by kernel_rfl) (fun _ _ _ h => h) (Or.inl ⟨by rfl, fun w hSw => by go_simp⟩) hS ?_
                      simp only [Act.put]
                      refine wpAnyH_take (i := 5) (v := .int .u8 (h / 16777216 % 256)) rfl (by kernel_rfl) (by kernel_rfl) (by kernel_rfl) (fun _ _ _ h => h) (Or.inl ⟨by rfl, fun w hSw => by (go_simp; exact IntKind.wrap_u8 _)⟩) hS ?_
                      simp only [Act.put]
                      refine wpAnyH_take (i := 6) (v := .int .i64 (k : Int)) rfl (by kernel_rfl) (by kernel_rfl) (by kernel_rfl) (fun _ _ _ h => h) (Or.inl ⟨by rfl, fun w hSw => by go_simp⟩) hS ?_
                      simp only [Act.put]
                      refine wpAnyH_take (i := 7) (v := .pointer (some ⟨G, k, none⟩)) rfl (by kernel_rfl) (by kernel_rfl) (by kernel_rfl) (fun _ _ _ h => h) (Or.inl ⟨by rfl, fun w hSw => by go_simp⟩) hS ?_
                      simp only [Act.put]
                      refine wpAnyH_take (i := 8) (v := .int .u32 h) rfl (by kernel_rfl) (by kernel_rfl) (by kernel_rfl) (fun _ _ _ h => h) (Or.inl ⟨by rfl, fun w hSw => by (dsimp only at hSw; go_simp)⟩) hS ?_
                      simp only [Act.put]
                      refine wpAnyH_take (i := 9) (v := .int .u32 (h / 65536)) rfl (by kernel_rfl) (by kernel_rfl) (by kernel_rfl) (fun _ _ _ h => h) (Or.inl ⟨by rfl, fun w hSw => by go_simp⟩) hS ?_
                      simp only [Act.put]
                      refine wpAnyH_take (i := 10) (v := .int .u8 (h / 65536 % 256)) rfl (by kernel_rfl) (by kernel_rfl) (by kernel_rfl) (fun _ _ _ h => h) (Or.inl ⟨by rfl, fun w hSw => by (go_simp; exact IntKind.wrap_u8 _)⟩) hS ?_
                      simp only [Act.put]
                      refine wpAnyH_take (i := 11) (v := .int .i64 (k : Int)) rfl (by kernel_rfl) (by kernel_rfl) (by kernel_rfl) (fun _ _ _ h => h) (Or.inl ⟨by rfl, fun w hSw => by go_simp⟩) hS ?_
                      simp only [Act.put]
                      refine wpAnyH_take (i := 12) (v := .pointer (some ⟨G, k, none⟩)) rfl (by kernel_rfl) (by kernel_rfl) (by kernel_rfl) (fun _ _ _ h => h) (Or.inl ⟨by rfl, fun w hSw => by go_simp⟩) hS ?_
                      simp only [Act.put]
                      refine wpAnyH_take (i := 13) (v := .int .u32 h) rfl (by kernel_rfl) (by kernel_rfl) (by kernel_rfl) (fun _ _ _ h => h) (Or.inl ⟨by rfl, fun w hSw => by (dsimp only at hSw; go_simp)⟩) hS ?_
                      simp only [Act.put]
                      refine wpAnyH_take (i := 14) (v := .int .u32 (h / 256)) rfl (by kernel_rfl) (by kernel_rfl) (by kernel_rfl) (fun _ _ _ h => h) (Or.inl ⟨by rfl, fun w hSw => by go_simp⟩) hS ?_
                      simp only [Act.put]
                      refine wpAnyH_take (i := 15) (v := .int .u8 (h / 256 % 256)) rfl (by kernel_rfl) (by kernel_rfl) (by kernel_rfl) (fun _ _ _ h => h) (Or.inl ⟨by rfl, fun w hSw => by (go_simp; exact IntKind.wrap_u8 _)⟩) hS ?_
                      simp only [Act.put]
                      refine wpAnyH_take (i := 16) (v := .int .i64 (k : Int)) rfl (by kernel_rfl) (by kernel_rfl) (by kernel_rfl) (fun _ _ _ h => h) (Or.inl ⟨by rfl, fun w hSw => by go_simp⟩) hS ?_
                      simp only [Act.put]
                      refine wpAnyH_take (i := 17) (v := .pointer (some ⟨G, k, none⟩)) rfl (by kernel_rfl) (by kernel_rfl) (by kernel_rfl) (fun _ _ _ h => h) (Or.inl ⟨by rfl, fun w hSw => by go_simp⟩) hS ?_
                      simp only [Act.put]
                      refine wpAnyH_take (i := 18) (v := .int .u32 h) rfl (by kernel_rfl) (by kernel_rfl) (by kernel_rfl) (fun _ _ _ h => h) (Or.inl ⟨by rfl, fun w hSw => by (dsimp only at hSw; go_simp)⟩) hS ?_
                      simp only [Act.put]
                      refine wpAnyH_take (i := 19) (v := .int .u8 (h % 256)) rfl (by kernel_rfl) (by kernel_rfl) (by kernel_rfl) (fun _ _ _ h => h) (Or.inl ⟨by rfl, fun w hSw => by (go_simp; exact IntKind.wrap_u8 _)⟩) hS ?_
                      simp only [Act.put]
                      refine wpAnyH_next (i := 20) (by kernel_rfl) rfl (fun Kc hKc => ?_)
                      go_simp
                      refine hKc.out _ _ (HS1.out _) (fun _ => ?_)
                      clear hKc Kc
                      try simp only [Act.put]
                      refine wpAnyH_next (i := 21) (by kernel_rfl) rfl (fun Kc hKc => ?_)
                      rw [if_pos (by rfl)]
                      refine wp_append_own _ _ _ 42 rfl (G + 1) 5 i0 (.int .u8 0) 1 1 Tryd.underlying42 hi hz0 hz1 hz2 rfl (by decide) v (4 * k) ((wbTo sr k).map (Value.int .u8)) rfl (World.ownsRow.drew (hown.alloc _)) ⟨wr.heap.size, 0, none⟩ 4 4 [.int .u8 (h / 16777216 % 256), .int .u8 (h / 65536 % 256), .int .u8 (h / 256 % 256), .int .u8 (h % 256)] rfl rfl ?k1 ?k2 ?k3 ?k4 ?k5 ?k6
                      case k1 => exact cells4 wr _ _ _ _ _
                      case k2 => intro u hu; simp only [List.mem_cons, List.not_mem_nil, or_false] at hu; rcases hu with rfl | rfl | rfl | rfl <;> rfl
                      case k3 => unfold maxLen; omega
                      case k4 => omega
                      case k5 => have := iS.lt; show G + 1 ≤ (wr.alloc _).heap.size; simp; omega
                      intro v' w2 hown' hgrow _
                      have hGv : some G ≠ v.ownBlock := fun e => by have := (hown.lt G e.symm).1; omega
                      have iS2 : Is w2 G 23 sr.arr := (hgrow.block G (by show G < (wr.alloc _).heap.size; have := iS.lt; simp; omega) hGv).trans (iS.alloc _)
                      have hB2 : Below w.heap.size w w2 := (belowN (hB.alloc hB.size _) 1).grown hgrow (by have := hB.size; show w.heap.size ≤ (wr.alloc _).heap.size; simp; omega) (fun g e => by have := (hown.lt g e).1; omega)
                      have hown2 : w2.ownsRow (G + 1) 5 1 v' (4 * (k + 1)) ((wbTo sr (k + 1)).map (Value.int .u8)) := by
                        rw [HWB.out, List.map_append]
                        exact hown'
                      have hS2 : w2.cell? ⟨G, k, none⟩ = some (.int .u32 h) := (iS2.cell k).trans HCK.out
                      clear hown' hgrow
                      refine hKc.out _ _ hS2 (fun _ => ?_)
                      clear hKc Kc
                      try simp only [Act.put]
                      refine wpAnyH_next (i := 22) (by kernel_rfl) rfl (fun Kc hKc => ?_)
                      go_simp
                      refine hKc.out _ _ hS2 (fun _ => ?_)
                      clear hKc Kc
                      try simp only [Act.put]
                      refine wpAnyH_done (by kernel_rfl) ?_ _
                      go_wp2
                      go_roundw
                      case rel => exact ⟨k + 1, by omega, by go_num, hown2, iS2, hB2⟩
                      case measure => simp [intOf]; omega
                    · have hown8 : wr.ownsRow (G + 1) 5 1 u11 32 ((wbTo sr 8).map (Value.int .u8)) := by
                        have e : k = 8 := by omega
                        rw [e] at hown
                        exact hown
                      obtain ⟨g, cap, rfl⟩ := ownsRow_succ hown8
                      have hcv := run_convert_bytes_arg (P := Tryd.prog) wr 42 5 Tryd.underlying42 Tryd.underlying5 g 0 32 cap (wbTo sr 8) (wbTo_length sr 8) (fun i hi => by
                        rw [Nat.zero_add, hown8.cellAt i (by omega)]
                        have hl := wbTo_length sr 8
                        rw [List.getElem?_map, List.getElem?_eq_getElem (by omega), List.getD_eq_getElem?_getD, List.getElem?_eq_getElem (by omega)]
                        rfl) 9 Tryd.underlying9
                      rw [← HES.out] at hcv
                      generalize hst : endS x = st at hcv
                      have HST := Lib.hid hst
                      have hd : decide ((k : Int) < 8) = false := by simp; omega
                      clear hst hown hown8
                      go_wp2
                      go_ret2
                      exact ⟨by rw [HST.out]; rfl, hB⟩
    · have hne : ¬ (((x.r.size : Int) + 1 + j) % 64 = 56) := fun h => he ((hNj j hj).1 h)
      generalize x.r ++ strOfNums (128 :: List.replicate j 0) = A at *
      have hdn : (((A.size : Nat) : Int) % 64 != 56) = true := by
        rw [hzj]; simpa using hne
      have hnl2 : ¬ (9223372036854775807 < A.size + 1) := by omega
      go_wp2
      go_roundw
      case rel => exact ⟨j + 1, by omega, rfl, trivial⟩
      case measure =>
        show 200 - (x.r ++ strOfNums (128 :: List.replicate (j + 1) 0)).size < 200 - A.size
        omega
end Go.Proofs.YtcpkkicpkmjagaaDoor
