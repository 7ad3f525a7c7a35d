/-
  Contracts of mac.sum, mac.masked and mac.keyBlock. Conditions: the tables of layer 1 hold what their initialisers lay; texts of at most a million and some bytes.
-/
import Derived.Test.YtcpkkicpkmjagaaDoorDigY
import Derived.Test.YtcpkkicpkmjagaaDoorByA
namespace Go.Proofs.YtcpkkicpkmjagaaDoor
open Go.RowKit

/-- a text's sum. -/
def sumB (s : ByteArray) : ByteArray := endS (addH Hs0 s)
theorem sumB_size (s : ByteArray) : (sumB s).size = 32 := by rw [sumB, endS, str_size, wbTo_length]
/-- each byte put together with one by exclusive or. -/
def maskL (X : List Int) (m : Int) : List Int := X.map fun a => bits BinOp.xor IntKind.u8 a m
theorem maskL_length (X : List Int) (m : Int) : (maskL X m).length = X.length := by simp [maskL]
def maskTo (X : List Int) (m : Int) (k : Nat) : List Int := maskL (X.take k) m ++ X.drop k
theorem maskTo_zero (X : List Int) (m : Int) : maskTo X m 0 = X := by simp [maskTo, maskL]
theorem maskTo_all (X : List Int) (m : Int) (k : Nat) (h : X.length ≤ k) : maskTo X m k = maskL X m := by
  rw [maskTo, List.take_of_length_le h, List.drop_of_length_le h, List.append_nil]
theorem maskTo_length (X : List Int) (m : Int) (k : Nat) : (maskTo X m k).length = X.length := by
  rw [maskTo, List.length_append, maskL_length, List.length_take, List.length_drop]; omega
theorem maskTo_get (X : List Int) (m : Int) (k : Nat) : (maskTo X m k).getD k 0 = X.getD k 0 := by
  rw [maskTo, List.getD_eq_getElem?_getD, List.getD_eq_getElem?_getD]
  by_cases h : k < X.length
  · rw [List.getElem?_append_right (by simp [maskL_length]; omega)]
    simp only [maskL_length, List.length_take, List.getElem?_drop]
    congr 2; omega
  · rw [List.getElem?_eq_none (by simp [maskL_length]; omega), List.getElem?_eq_none (by omega)]
theorem maskTo_succ (X : List Int) (m : Int) (k : Nat) (h : k < X.length) : (maskTo X m k).set k (bits BinOp.xor IntKind.u8 (X.getD k 0) m) = maskTo X m (k + 1) := by
  have hd : X.drop k = X[k] :: X.drop (k + 1) := List.drop_eq_getElem_cons h
  have ht : X.take (k + 1) = X.take k ++ [X[k]] := List.take_succ_eq_append_getElem h
  rw [maskTo, maskTo, ht, hd, List.set_append_right _ _ (by simp [maskL_length]; omega)]
  have e : k - (maskL (X.take k) m).length = 0 := by simp [maskL_length]; omega
  rw [e]
  simp only [maskL, List.map_append, List.map_cons, List.map_nil, List.set_cons_zero, List.append_assoc, List.cons_append, List.nil_append]
  rw [List.getD_eq_getElem?_getD, List.getElem?_eq_getElem h]
  rfl

set_option maxRecDepth 100000 in
set_option maxHeartbeats 1000000 in
theorem msum_ok (s : ByteArray) (w : World) (hT : Tab w) (hs : s.size ≤ 1048576) :
    Calls Tryd.prog 55 #[.string s] w fun e w' => e = .returned (.string (sumB s)) ∧ Below w.heap.size w w' := by
  go_enter Tryd.func55, Tryd.ntmps55
  go_wp2_with fail
  refine (sum_ok s _ hT hs).mono ?_
  rintro e w1 ⟨rfl, hb1⟩
  generalize hes : endS (addH Hs0 s) = es
  have HES := Lib.hid hes
  clear hes
  go_wp2
  go_ret
  exact ⟨by rw [sumB, HES.out]; rfl, hb1⟩

set_option maxRecDepth 100000 in
set_option maxHeartbeats 1000000 in
theorem masked_any (X : List Int) (m : Int) (w : World) (hX : X.length = 64) :
    Calls Tryd.prog 56 #[.agg (byA X), .int .u8 m] w fun e w' => e = .returned (.string (strOfNums (maskL X m))) ∧ Below w.heap.size w w' := by
  have HX := Lib.hid hX
  clear hX
  go_enter Tryd.func56, Tryd.ntmps56
  go_wp2
  go_loopw [6] (fun i wr => ∃ k : Nat, k ≤ 64 ∧ i = .int .i64 k ∧ Is wr w.heap.size 68 (byA (maskTo X m k)) ∧ Below w.heap.size w wr)
    (fun i _ => 64 - (intOf i).toNat)
  case atStart =>
    refine ⟨0, by omega, rfl, ?_, (Below.refl _ _).alloc (Nat.le_refl _) _⟩
    rw [maskTo_zero]
    exact Is.new w _ _
  case round =>
    obtain ⟨k, hk, rfl, hI, hB⟩ := hrel
    by_cases hlt : k < 64
    · have hc : wr.cell? ⟨w.heap.size, k, none⟩ = some (.int .u8 (X.getD k 0)) := by
        rw [hI.cell, byA_get _ _ (by rw [maskTo_length, HX.out]; exact hlt), maskTo_get]
      have hf : wr.frozen? ⟨w.heap.size, k, none⟩ = false := hI.frozen k
      generalize hx : X.getD k 0 = x at hc
      have HXK := Lib.hid hx
      clear hx
      have HI := Lib.hid hI
      clear hI
      go_wp2
      go_roundw
      case rel =>
        refine ⟨k + 1, by omega, by go_num, ?_, hB.setCell (Nat.le_refl _) _⟩
        have := HI.out.set k (.int .u8 (bits BinOp.xor IntKind.u8 x m))
        rw [byA_set, ← HXK.out, maskTo_succ _ _ _ (by rw [HX.out]; exact hlt), HXK.out] at this
        exact this
      case measure => simp [intOf]; omega
    · have hI8 : Is wr w.heap.size 68 (byA (maskL X m)) := by
        rw [maskTo_all _ _ _ (by rw [HX.out]; omega)] at hI
        exact hI
      have hml : (maskL X m).length = 64 := by rw [maskL_length, HX.out]
      have hcv := run_convert_bytes_arg (P := Tryd.prog) wr 42 5 Tryd.underlying42 Tryd.underlying5 w.heap.size 0 64 64 (maskL X m) hml (fun i hi => by
        rw [Nat.zero_add, hI8.cell, byA_get _ _ (by rw [hml]; exact hi)]) 9 Tryd.underlying9
      generalize hst : strOfNums (maskL X m) = st at hcv
      have HST := Lib.hid hst
      clear hst hI hI8 hml
      go_wp2
      go_ret
      exact ⟨by rw [HST.out]; rfl, hB⟩

/-- a text's bytes as numbers. -/
def bytesL (s : ByteArray) : List Int := s.data.toList.map fun b => (b.toNat : Int)
theorem bytesL_length (s : ByteArray) : (bytesL s).length = s.size := by rw [bytesL, List.length_map, Array.length_toList]; rfl
/-- a key, or its sum. -/
def keyOf (key : ByteArray) : ByteArray := if 64 < key.size then sumB key else key
theorem keyOf_size (key : ByteArray) : (keyOf key).size ≤ 64 := by
  unfold keyOf; split
  · rw [sumB_size]; omega
  · omega
def padL (k : ByteArray) : List Int := bytesL k ++ List.replicate (64 - k.size) 0
theorem padL_length (k : ByteArray) (h : k.size ≤ 64) : (padL k).length = 64 := by rw [padL, List.length_append, bytesL_length, List.length_replicate]; omega
/-- a key's 64 bytes. -/
def keyL (key : ByteArray) : List Int := padL (keyOf key)
theorem keyL_length (key : ByteArray) : (keyL key).length = 64 := padL_length _ (keyOf_size _)

abbrev Z64 : Array Value := #[.int .u8 0, .int .u8 0, .int .u8 0, .int .u8 0, .int .u8 0, .int .u8 0, .int .u8 0, .int .u8 0, .int .u8 0, .int .u8 0, .int .u8 0, .int .u8 0, .int .u8 0, .int .u8 0, .int .u8 0, .int .u8 0, .int .u8 0, .int .u8 0, .int .u8 0, .int .u8 0, .int .u8 0, .int .u8 0, .int .u8 0, .int .u8 0, .int .u8 0, .int .u8 0, .int .u8 0, .int .u8 0, .int .u8 0, .int .u8 0, .int .u8 0, .int .u8 0, .int .u8 0, .int .u8 0, .int .u8 0, .int .u8 0, .int .u8 0, .int .u8 0, .int .u8 0, .int .u8 0, .int .u8 0, .int .u8 0, .int .u8 0, .int .u8 0, .int .u8 0, .int .u8 0, .int .u8 0, .int .u8 0, .int .u8 0, .int .u8 0, .int .u8 0, .int .u8 0, .int .u8 0, .int .u8 0, .int .u8 0, .int .u8 0, .int .u8 0, .int .u8 0, .int .u8 0, .int .u8 0, .int .u8 0, .int .u8 0, .int .u8 0, .int .u8 0]
theorem Z64_copy (k : ByteArray) : (Z64.toList.take 0 ++ Lib.byteCells k.data.toList ++ Z64.toList.drop (0 + k.size)).toArray = byA (padL k) := by
  have hz : Z64.toList = List.replicate 64 (Value.int .u8 0) := rfl
  rw [hz, byA, padL, List.map_append, List.take_zero, List.nil_append, Nat.zero_add, List.drop_replicate, List.map_replicate]
  simp [bytesL, Lib.byteCells]

set_option maxRecDepth 100000 in
set_option maxHeartbeats 1000000 in
theorem keyBlock_any (key : ByteArray) (w : World) (hT : Tab w) (hk : key.size ≤ 1000) :
    Calls Tryd.prog 45 #[.string key] w fun e w' => e = .returned (.agg (byA (keyL key))) ∧ Below w.heap.size w w' := by
  have hinfo : (Tryd.prog.info? 5).map (·.size) = some 1 := by kernel_rfl
  by_cases hlt : 64 < key.size
  · go_enter Tryd.func45, Tryd.ntmps45
    go_wp2_with fail
    refine (msum_ok key _ (hT.below ((Below.refl _ _).alloc (Nat.le_refl _) _) hT.two) (by omega)).mono ?_
    rintro e W ⟨rfl, hb⟩
    have iW : Is W w.heap.size 68 Z64 := Is.below (Is.new w _ _) hb (by simp)
    have hB : Below w.heap.size w W := ((Below.refl _ _).alloc (Nat.le_refl _) _).trans (hb.mono (by simp))
    have hk64 : (sumB key).size ≤ 64 := by rw [sumB_size]; omega
    have hke : keyOf key = sumB key := by unfold keyOf; rw [if_pos hlt]
    clear hb
    have hW : w.heap.size < W.heap.size := iW.lt
    generalize sumB key = k at *
    have HK := Lib.hid hke
    clear hke
    have hcp := Lib.run_copy_row_string (P := Tryd.prog) (W.alloc (.cells Z64 68)) 42 9 3 5 W.heap.size 0 64 64 k Z64 68 Tryd.underlying42 hinfo (heap_alloc_new W _) hk64 (by show 0 + k.size ≤ 64; omega)
    rw [Z64_copy k, World.setRow_alloc_new] at hcp
    have hR1 := byA_one (padL k)
    have hR2 : (Tryd.prog.info? 68).map (·.size) = some (byA (padL k)).size := by rw [byA_size, padL_length k hk64]; kernel_rfl
    have hR3 : Z64.size = (byA (padL k)).size := by rw [byA_size, padL_length k hk64]; rfl
    generalize hR : byA (padL k) = R at *
    have HR := Lib.hid hR
    have HR1 := Lib.hid hR1
    have HR2 := Lib.hid hR2
    have HR3 := Lib.hid hR3
    clear hR hR1 hR2 hR3
    go_wp2_with (first
      | (refine wpList_store_row rfl 68 _ _ rfl w.heap.size R rfl rfl _ _ (iW.alloc _) HR2.out HR3.out HR1.out ?_)
      | (refine wpList_load_row rfl 68 _ rfl W.heap.size rfl _ _ _ _ (heap_alloc_new W _) Tryd.underlying68 rfl HR2.out ?_))
    refine bodyPost_ret (results_cell_row Tryd.results45 _ _ w.heap.size 68 R (0, 0) _ rfl (Is.row (iW.alloc _) _) Tryd.underlying68 rfl HR2.out) rfl ⟨by rw [keyL, HK.out, HR.out], ?_⟩
    exact belowRow (hB.alloc hB.size _) (Nat.le_refl _) _
  · have hk64 : key.size ≤ 64 := by omega
    have hke : keyOf key = key := by unfold keyOf; rw [if_neg hlt]
    have HK := Lib.hid hke
    clear hke
    have iW : Is (w.alloc (.cells Z64 68)) w.heap.size 68 Z64 := Is.new w _ _
    have hB : Below w.heap.size w (w.alloc (.cells Z64 68)) := (Below.refl _ _).alloc (Nat.le_refl _) _
    go_enter Tryd.func45, Tryd.ntmps45
    obtain ⟨W, hWe⟩ : ∃ W, W = w.alloc (.cells Z64 68) := ⟨_, rfl⟩
    have hW : w.heap.size < W.heap.size := by rw [hWe]; exact iW.lt
    rw [← hWe] at iW hB
    have HW := Lib.hid hWe
    clear hWe
    obtain ⟨k, rfl⟩ : ∃ k, k = key := ⟨_, rfl⟩
    have hcp := Lib.run_copy_row_string (P := Tryd.prog) (W.alloc (.cells Z64 68)) 42 9 3 5 W.heap.size 0 64 64 k Z64 68 Tryd.underlying42 hinfo (heap_alloc_new W _) hk64 (by show 0 + k.size ≤ 64; omega)
    rw [Z64_copy k, World.setRow_alloc_new] at hcp
    have hR1 := byA_one (padL k)
    have hR2 : (Tryd.prog.info? 68).map (·.size) = some (byA (padL k)).size := by rw [byA_size, padL_length k hk64]; kernel_rfl
    have hR3 : Z64.size = (byA (padL k)).size := by rw [byA_size, padL_length k hk64]; rfl
    generalize hR : byA (padL k) = R at *
    have HR := Lib.hid hR
    have HR1 := Lib.hid hR1
    have HR2 := Lib.hid hR2
    have HR3 := Lib.hid hR3
    clear hR hR1 hR2 hR3
    rw [HW.out] at hcp iW hB hW
    simp only [World.size_alloc] at hcp
    go_wp2_with (first
      | (refine wpList_store_row rfl 68 _ _ rfl w.heap.size R rfl rfl _ _ (iW.alloc _) HR2.out HR3.out HR1.out ?_)
      | (refine wpList_load_row rfl 68 _ rfl (w.heap.size + 1) rfl _ _ _ _ (heap_alloc2_new w _ _) Tryd.underlying68 rfl HR2.out ?_))
    refine bodyPost_ret (results_cell_row Tryd.results45 _ _ w.heap.size 68 R (0, 0) _ rfl (Is.row (iW.alloc _) _) Tryd.underlying68 rfl HR2.out) rfl ⟨by rw [keyL, HK.out, HR.out], ?_⟩
    exact belowRow (hB.alloc hB.size _) (Nat.le_refl _) _
end Go.Proofs.YtcpkkicpkmjagaaDoor
