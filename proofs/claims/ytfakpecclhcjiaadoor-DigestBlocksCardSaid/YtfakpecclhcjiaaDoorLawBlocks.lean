/-
  DigestBlocks: the walk of the statement's function.
-/
import Derived.Test.YtfakpecclhcjiaaDoorDigK
import Derived.Test.YtfakpecclhcjiaaDoorDigQ
namespace Go.Proofs.YtfakpecclhcjiaaDoor
open Go.RowKit

/-- a raw block's first k bytes. -/
def bkTo (q : Int) (k : Nat) : List Int := (List.range k).map fun j : Nat => (q + (j : Int) * (j : Int)) % 256
theorem bkTo_succ (q : Int) (k : Nat) : bkTo q (k + 1) = bkTo q k ++ [(q + (k : Int) * (k : Int)) % 256] := by simp [bkTo, List.range_succ]
theorem bkTo_length (q : Int) (k : Nat) : (bkTo q k).length = k := by simp [bkTo]
def bkS (q : Int) : ByteArray := strOfNums (bkTo q 64)
theorem bkS_size (q : Int) : (bkS q).size = 64 := by rw [bkS, str_size, bkTo_length]
/-- all of j raw blocks, and what they make. -/
def allB (c : Nat → Int) : Nat → ByteArray
  | 0 => ⟨#[]⟩
  | j + 1 => allB c j ++ bkS (pickN (c j) 251)
def stB (c : Nat → Int) : Nat → S8
  | 0 => H0
  | j + 1 => mixS (stB c j) (bkS (pickN (c j) 251))
theorem allB_size (c : Nat → Int) (j : Nat) : (allB c j).size = 64 * j := by
  induction j with
  | zero => rfl
  | succ j ih => rw [allB, ByteArray.size_append, ih, bkS_size]; omega
theorem allB_mix (c : Nat → Int) (j : Nat) : mixT H0 (allB c j) = stB c j := by
  induction j with
  | zero => exact mixT_short _ _ (by rw [allB_size]; omega)
  | succ j ih => rw [allB, stB, mixT_append _ _ _ (by rw [allB_size]; omega), ih, mixT_one _ _ (bkS_size _)]
theorem empty_append' (X : ByteArray) : (⟨#[]⟩ : ByteArray) ++ X = X := by
  apply ByteArray.ext
  simp [ByteArray.data_append]
theorem add_blocks (c : Nat → Int) (j : Nat) : addH Hs0 (allB c j) = ⟨stB c j, ⟨#[]⟩, ((64 * j : Nat) : Int)⟩ := by
  have hs := allB_size c j
  unfold addH
  simp only [Hs0, empty_append']
  rw [allB_mix, hs, show 64 * j - 64 * j % 64 = 64 * j by omega]
  have e : (allB c j).extract (64 * j) (64 * j) = ⟨#[]⟩ := by
    apply ext_bytes
    rw [extract_list, Nat.sub_self, List.take_zero]
  rw [e]
  simp

theorem own_same {w w' : World} {base : Nat} {e : TypeId} {size n : Nat} {v : Value} {xs : List Value} (h : w.ownsRow base e size v n xs) (hs : ∀ g, v.ownBlock = some g → w'.heap[g]? = w.heap[g]?) : w'.ownsRow base e size v n xs := by
  refine ⟨h.1, ?_⟩
  rcases h.2 with h0 | ⟨g, cap, cur, rfl, h1, h2, h3⟩
  · exact .inl h0
  · exact .inr ⟨g, cap, cur, rfl, h1, (hs g rfl).trans h2, h3⟩

set_option maxRecDepth 100000 in
set_option maxHeartbeats 2000000 in
theorem blocks_walk (A : Option Addr) (len cap : Nat) (c : Nat → Int) (w : World) (hT : Tab w) (hlen : len ≤ maxLen)
    (hc : ∀ j, j < len → ∃ b off, A = some ⟨b, off, none⟩ ∧ b < w.heap.size ∧ w.cell? ⟨b, off + j, none⟩ = some (.int .i64 (c j)) ∧ -9223372036854775808 ≤ c j ∧ c j ≤ 9223372036854775807) :
    Calls Tryd.prog 6 #[.slice A len cap] w fun e w' => e = .returned (.bool true) ∧ Below w.heap.size w w' := by
  unfold maxLen at hlen
  have HC := Lib.hid hc
  clear hc
  obtain ⟨i0, hi, hz0, hz1, hz2⟩ := info_parts infoByte
  go_enter Tryd.func6, Tryd.ntmps6
  go_wp2_with fail
  refine (awake_any _ hT).mono ?_
  rintro e w1 ⟨rfl, hB1⟩
  go_wp2_with fail
  refine (new_any _ (hT.below hB1 hT.two)).mono ?_
  rintro e w2 ⟨rfl, hb2⟩
  have hB2 : Below w.heap.size w w2 := hB1.trans (hb2.mono hB1.size)
  clear hb2 hB1
  have hsz2 := hB2.size
  generalize hh0 : Hs0 = x0
  have HX0 := Lib.hid hh0
  clear hh0
  go_wp2
  go_loopw [6, 7] (fun t i wr => ∃ j : Nat, j ≤ 6 ∧ j ≤ len ∧ i = .int .i64 j ∧ t = .string (allB c j) ∧ Is wr w2.heap.size 25 x0.arr ∧ Is wr (w2.heap.size + 1) 23 (stB c j).arr ∧ Below w.heap.size w wr ∧ w2.heap.size + 2 ≤ wr.heap.size)
    (fun _ i _ => 6 - (intOf i).toNat)
  case atStart =>
    refine ⟨0, by omega, by omega, rfl, rfl, ?_, ?_, ?_, ?_⟩
    · exact heap_alloc2_old w2 _ _
    · have e : stB c 0 = x0.h := by rw [← HX0.out]; rfl
      rw [e]
      exact heap_alloc2_new w2 _ _
    · exact (hB2.alloc hB2.size _).alloc (by simp; omega) _
    · simp
  case round =>
    obtain ⟨j, hj6, hjl, rfl, rfl, iX, iN, hB, hwr⟩ := hrel
    have hal := allB_size c j
    have HAL := Lib.hid hal
    clear hal
    by_cases hlt : j < len ∧ j < 6
    · obtain ⟨hlt, hlt6⟩ := hlt
      obtain ⟨b, off, rfl, hbw, hcell, hc0, hc1⟩ := HC.out j hlt
      have hd1 : decide ((j : Int) < (len : Int)) = true := by simp; omega
      have hd2 : decide ((j : Int) < 6) = true := by simp; omega
      have bq := pickN_bd (c j) 251 (by omega)
      go_wp2
      generalize hq : pickN (c j) 251 = q at bq
      have HQ := Lib.hid hq
      clear hq
      obtain ⟨hq0, hq1⟩ := bq
      go_loopw [8, 9] (fun v i wq => ∃ k : Nat, k ≤ 64 ∧ i = .int .i64 k ∧ wq.ownsRow (w2.heap.size + 2) 5 1 v k ((bkTo q k).map (Value.int .u8)) ∧ Is wq w2.heap.size 25 x0.arr ∧ Is wq (w2.heap.size + 1) 23 (stB c j).arr ∧ Below w.heap.size w wq ∧ w2.heap.size + 2 ≤ wq.heap.size)
        (fun _ i _ => 64 - (intOf i).toNat)
      case atStart => exact ⟨0, by omega, rfl, World.ownsRow_nil _ _ _ _, iX, iN, hB, hwr⟩
      case round =>
        clear iX iN hB hwr
        obtain ⟨k, hk, rfl, hown, iX, iN, hB, hwr⟩ := hrel
        by_cases hlk : k < 64
        · have cr : wr.cell? ⟨b, off + j, none⟩ = some (.int .i64 (c j)) := (hB.cell (p := ⟨b, off + j, none⟩) hbw).trans hcell
          have hkk0 : (0 : Int) ≤ (k : Int) * (k : Int) := Int.mul_nonneg (by omega) (by omega)
          have hkk1 : (k : Int) * (k : Int) ≤ 4096 := by
            have h1 : (k : Int) * (k : Int) ≤ 64 * 64 := Int.mul_le_mul (by omega) (by omega) (by omega) (by omega)
            omega
          go_wp2_with (first
            | (go_at_call 16; refine (pick_any (c j) 251 _ hc0 hc1 (by omega) (by omega)).mono ?_; rintro e w' ⟨rfl, rfl⟩; rw [HQ.out])
            | (at_builtin; refine wpList_append_own _ rfl _ _ 44 rfl (w2.heap.size + 2) 5 i0 (.int .u8 0) 1 1 Tryd.underlying44 hi hz0 hz1 hz2 rfl (by decide) _ _ _ rfl (hown.alloc _) ⟨wr.heap.size, 0, none⟩ 1 1 [.int .u8 ((q + (k : Int) * (k : Int)) % 256)] rfl rfl ?c1 ?c2 ?c3 ?c4 ?c5 ?_))
          case c1 =>
            intro j u hj
            match j, hj with
            | 0, hj => simp at hj; subst hj; simp [Addr.add]
          case c2 => intro u hu; simp only [List.mem_cons, List.not_mem_nil, or_false] at hu; subst hu; rfl
          case c3 => unfold maxLen; omega
          case c4 => omega
          case c5 => simp; omega
          intro v' w1 hown' hgrow _
          have hlt0 : ∀ g, u8.ownBlock = some g → w2.heap.size + 2 ≤ g := fun g e => (hown.lt g e).1
          have hne4 : some w2.heap.size ≠ u8.ownBlock := fun e => by have := hlt0 _ e.symm; omega
          have hne5 : some (w2.heap.size + 1) ≠ u8.ownBlock := fun e => by have := hlt0 _ e.symm; omega
          have iX1 : Is w1 w2.heap.size 25 x0.arr := (hgrow.block _ (by simp; omega) hne4).trans (iX.alloc _)
          have iN1 : Is w1 (w2.heap.size + 1) 23 (stB c j).arr := (hgrow.block _ (by simp; omega) hne5).trans (iN.alloc _)
          have hB1 : Below w.heap.size w w1 := (hB.alloc hB.size _).grown hgrow (by have := hB.size; simp; omega) (fun g e => by have := hlt0 g e; omega)
          have hw1 : w2.heap.size + 2 ≤ w1.heap.size := by have := hgrow.size; simp at this; omega
          have hown1 : w1.ownsRow (w2.heap.size + 2) 5 1 v' (k + 1) ((bkTo q (k + 1)).map (Value.int .u8)) := by
            rw [bkTo_succ, List.map_append]
            exact hown'
          clear hown' hgrow hown hB iX iN cr hne4 hne5 hlt0
          go_wp2
          go_roundw
          case rel => exact ⟨k + 1, by omega, by go_num, hown1, iX1, iN1, hB1, hw1⟩
          case measure => simp [intOf]; omega
        · have hown8 : wr.ownsRow (w2.heap.size + 2) 5 1 u8 64 ((bkTo q 64).map (Value.int .u8)) := by
            have e : k = 64 := by omega
            rw [e] at hown
            exact hown
          clear hown
          obtain ⟨g, cap', rfl⟩ := ownsRow_succ hown8
          have hcvW : ∀ wx : World, wx.ownsRow (w2.heap.size + 2) 5 1 (.slice (some ⟨g, 0, none⟩) 64 cap') 64 ((bkTo q 64).map (Value.int .u8)) → (convert 44 9 (.slice (some ⟨g, 0, none⟩) 64 cap')).run Tryd.prog wx = .ok (.string (bkS q)) wx := fun wx ho =>
            run_convert_bytes_arg (P := Tryd.prog) wx 44 5 Tryd.underlying44 Tryd.underlying5 g 0 64 cap' (bkTo q 64) (bkTo_length q 64) (fun i hi => by
              rw [Nat.zero_add, ho.cellAt i (by omega)]
              have hl := bkTo_length q 64
              rw [List.getElem?_map, List.getElem?_eq_getElem (by omega), List.getD_eq_getElem?_getD, List.getElem?_eq_getElem (by omega)]
              rfl) 9 Tryd.underlying9
          have hcv := hcvW wr hown8
          have HW := Lib.hid hcvW
          clear hcvW
          have c0 := iN.cell 0
          have c1 := iN.cell 1
          have c2 := iN.cell 2
          have c3 := iN.cell 3
          have c4 := iN.cell 4
          have c5 := iN.cell 5
          have c6 := iN.cell 6
          have c7 := iN.cell 7
          go_wp2_with fail
          refine (compress_ok (stB c j) (bkS q) _ (bkS_size q) (hT.below hB hT.two)).mono ?_
          rintro e w3 ⟨rfl, hb3⟩
          have iX3 : Is w3 w2.heap.size 25 x0.arr := iX.below hb3 iX.lt
          have iN3 : Is w3 (w2.heap.size + 1) 23 (stB c j).arr := iN.below hb3 iN.lt
          have hB3 : Below w.heap.size w w3 := hB.trans (hb3.mono hB.size)
          have hlo : w2.heap.size + 2 ≤ g ∧ g < wr.heap.size := hown8.lt g rfl
          have hown3 : w3.ownsRow (w2.heap.size + 2) 5 1 (.slice (some ⟨g, 0, none⟩) 64 cap') 64 ((bkTo q 64).map (Value.int .u8)) := own_same hown8 (fun g' e => by cases e; exact hb3.block g hlo.2)
          have hw3 : w2.heap.size + 2 ≤ w3.heap.size := Nat.le_trans hwr hb3.size
          have hg3 : g < w3.heap.size := Nat.lt_of_lt_of_le hlo.2 hb3.size
          clear hb3 hcv c0 c1 c2 c3 c4 c5 c6 c7 iX iN hB hown8
          generalize hmx : mixS (stB c j) (bkS q) = mx
          have HMX := Lib.hid hmx
          clear hmx
          have hown4 : ((set8 w3 (w2.heap.size + 1) mx).alloc (.cells mx.arr 23)).ownsRow (w2.heap.size + 2) 5 1 (.slice (some ⟨g, 0, none⟩) 64 cap') 64 ((bkTo q 64).map (Value.int .u8)) :=
            (own_same (w' := set8 w3 (w2.heap.size + 1) mx) hown3 (fun g' e => by cases e; exact heap_set8 w3 _ g mx (by omega))).alloc _
          have hcv := HW.out _ hown4
          clear hown4 hown3
          have c0 := iN3.cell 0
          have c1 := iN3.cell 1
          have c2 := iN3.cell 2
          have c3 := iN3.cell 3
          have c4 := iN3.cell 4
          have c5 := iN3.cell 5
          have c6 := iN3.cell 6
          have c7 := iN3.cell 7
          have f0 := iN3.frozen 0
          have f1 := iN3.frozen 1
          have f2 := iN3.frozen 2
          have f3 := iN3.frozen 3
          have f4 := iN3.frozen 4
          have f5 := iN3.frozen 5
          have f6 := iN3.frozen 6
          have f7 := iN3.frozen 7
          have hsa : (allB c j).size ≤ 384 := by rw [HAL.out]; omega
          have hsb : (bkS q).size ≤ 64 := by rw [bkS_size]; omega
          have hlt5 : w2.heap.size + 1 < w3.heap.size := by omega
          have e1 : allB c (j + 1) = allB c j ++ bkS q := by rw [allB, HQ.out]
          have e2 : stB c (j + 1) = mx := by rw [stB, HQ.out, HMX.out]
          have E1 := Lib.hid e1
          have E2 := Lib.hid e2
          clear e1 e2
          generalize bkS q = B at *
          go_wp2
          go_roundw
          case rel =>
            refine ⟨j + 1, by omega, by omega, by go_num, by rw [E1.out], ?_, ?_, ?_, ?_⟩
            · exact (iX3.far8 (by omega) mx).alloc _
            · rw [E2.out]; exact (iN3.set8 mx).alloc _
            · exact (below8 hB3 (by omega) mx).alloc (by have := (below8 hB3 (g := w2.heap.size + 1) (by omega) mx).size; exact this) _
            · have := (below8 (Below.refl 0 w3) (g := w2.heap.size + 1) (by omega) mx).size; simp; omega
          case measure => simp [intOf]; omega
    · have hTr := hT.below hB hT.two
      have c8 : wr.cell? ⟨w2.heap.size, 8, none⟩ = some (.string x0.r) := iX.cell 8
      have c9 : wr.cell? ⟨w2.heap.size, 9, none⟩ = some (.int .i64 x0.m) := iX.cell 9
      have c0 : wr.cell? ⟨w2.heap.size, 0, none⟩ = some (.int .u32 x0.h.a) := iX.cell 0
      have c1 : wr.cell? ⟨w2.heap.size, 1, none⟩ = some (.int .u32 x0.h.b) := iX.cell 1
      have c2 : wr.cell? ⟨w2.heap.size, 2, none⟩ = some (.int .u32 x0.h.c) := iX.cell 2
      have c3 : wr.cell? ⟨w2.heap.size, 3, none⟩ = some (.int .u32 x0.h.d) := iX.cell 3
      have c4 : wr.cell? ⟨w2.heap.size, 4, none⟩ = some (.int .u32 x0.h.e) := iX.cell 4
      have c5 : wr.cell? ⟨w2.heap.size, 5, none⟩ = some (.int .u32 x0.h.f) := iX.cell 5
      have c6 : wr.cell? ⟨w2.heap.size, 6, none⟩ = some (.int .u32 x0.h.g) := iX.cell 6
      have c7 : wr.cell? ⟨w2.heap.size, 7, none⟩ = some (.int .u32 x0.h.h) := iX.cell 7
      have hx0r : rightB x0 = true := by rw [← HX0.out]; exact right_new
      have hx0l : ((allB c j).size : Int) ≤ 1048576 - x0.m := by rw [← HX0.out, HAL.out]; show ((64 * j : Nat) : Int) ≤ 1048576 - 0; omega
      have had : addH x0 (allB c j) = ⟨stB c j, ⟨#[]⟩, ((64 * j : Nat) : Int)⟩ := by rw [← HX0.out]; exact add_blocks c j
      have HR := Lib.hid hx0r
      have HL := Lib.hid hx0l
      have HAD := Lib.hid had
      clear hx0r hx0l had
      have hq : ((64 * (j : Int)) == ((allB c j).size : Int)) = true := by rw [HAL.out]; simp
      have heq := eqIn8 (stB c j)
      have fin : Calls Tryd.prog 11 #[.agg x0.arr, .string (allB c j)] wr fun e w' => e = .returned (.tuple #[.agg (Hs.mk (stB c j) ⟨#[]⟩ ((64 * j : Nat) : Int)).arr, .int .i64 0]) ∧ Below wr.heap.size wr w' := by
        have := add_ok x0 (allB c j) wr hTr HR.out HL.out
        rw [HAD.out] at this
        exact this
      have HFIN := Lib.hid fin
      clear fin
      generalize hst : stB c j = st at *
      clear hst
      by_cases h1 : j < len
      · have h6 : ¬ (j : Int) < 6 := by omega
        have hd1 : decide ((j : Int) < (len : Int)) = true := by simp; omega
        have hd2 : decide ((j : Int) < 6) = false := by simp; omega
        go_wp2_with fail
        refine HFIN.out.mono ?_
        rintro e w3 ⟨rfl, hb3⟩
        have iN3 : Is w3 (w2.heap.size + 1) 23 st.arr := iN.below hb3 iN.lt
        have hB3 : Below w.heap.size w w3 := hB.trans (hb3.mono hB.size)
        have hl3 : w2.heap.size + 1 < w3.heap.size := iN3.lt
        clear hb3 c0 c1 c2 c3 c4 c5 c6 c7 c8 c9
        have c0 := iN3.cell 0
        have c1 := iN3.cell 1
        have c2 := iN3.cell 2
        have c3 := iN3.cell 3
        have c4 := iN3.cell 4
        have c5 := iN3.cell 5
        have c6 := iN3.cell 6
        have c7 := iN3.cell 7
        go_wp2
        go_ret
        exact ⟨rfl, hB3.alloc hB3.size _⟩
      · have hd1 : decide ((j : Int) < (len : Int)) = false := by simp; omega
        go_wp2_with fail
        refine HFIN.out.mono ?_
        rintro e w3 ⟨rfl, hb3⟩
        have iN3 : Is w3 (w2.heap.size + 1) 23 st.arr := iN.below hb3 iN.lt
        have hB3 : Below w.heap.size w w3 := hB.trans (hb3.mono hB.size)
        have hl3 : w2.heap.size + 1 < w3.heap.size := iN3.lt
        clear hb3 c0 c1 c2 c3 c4 c5 c6 c7 c8 c9
        have c0 := iN3.cell 0
        have c1 := iN3.cell 1
        have c2 := iN3.cell 2
        have c3 := iN3.cell 3
        have c4 := iN3.cell 4
        have c5 := iN3.cell 5
        have c6 := iN3.cell 6
        have c7 := iN3.cell 7
        go_wp2
        go_ret
        exact ⟨rfl, hB3.alloc hB3.size _⟩
end Go.Proofs.YtfakpecclhcjiaaDoor
