/-
  Contracts of mac.sum, mac.masked and mac.keyBlock. Conditions: the tables of layer 1 hold what their initialisers lay; texts of at most a million and some bytes.
  Contracts of mac.tag and mac.Mac. Conditions: the tables of layer 1 hold what their initialisers lay; the text is at most 2^20 - 64 bytes.
  Contracts of mac.parts (the iterator over the parts of what is derived) and mac.Derive. Conditions: keys and names of at most 1000 bytes, at most 4096 bytes asked for; the tables of layer 1 hold what their initialisers lay.
  Contract of mac.Same: whether two texts are the same, and how many bytes were looked at. Conditions: texts are no longer than memory allows.
  mac.Derive refused; how many bytes it tells.
-/
import Derived.Test.YtfgdcpolfekgjaaGreatGGDig
import Derived.Test.YtfgdcpolfekgjaaGreatGKit
import Derived.RangeFuncNested
import Derived.RangeFuncBound
import Derived.RangeFuncCalls
import Derived.RangeFuncLeaves
import Derived.Shelf.Abstract
import Derived.Shelf.RegionOpen
import Derived.OwnWalkIn
import Derived.TacticsInMore
import Derived.LoopNIn
import Derived.LoopIn
import Derived.Lib.BufStepsIn
import Derived.Lib.OthersKept
import Derived.Test.YtfgdcpolfekgjaaGreatChecked
import Derived.Laws.LoneSync
import Derived.RegionTactic
namespace Go.Proofs.YtfgdcpolfekgjaaGreat
open Go.RowKit
variable [Tabs]

/-- a text's sum. -/
def sumB (s : ByteArray) : ByteArray := endS (addH Hs0 s)
theorem sumB_size (s : ByteArray) : (sumB s).size = 32 := by rw [sumB, endS, str_size, wbTo_length]
/-- each byte put together with one by exclusive or. -/
def maskL (X : List Int) (m : Int) : List Int := X.map fun a => bits BinOp.xor IntKind.u8 a m
omit [Tabs] in
theorem maskL_length (X : List Int) (m : Int) : (maskL X m).length = X.length := by simp [maskL]
def maskTo (X : List Int) (m : Int) (k : Nat) : List Int := maskL (X.take k) m ++ X.drop k
omit [Tabs] in
theorem maskTo_zero (X : List Int) (m : Int) : maskTo X m 0 = X := by simp [maskTo, maskL]
omit [Tabs] in
theorem maskTo_all (X : List Int) (m : Int) (k : Nat) (h : X.length ≤ k) : maskTo X m k = maskL X m := by
  rw [maskTo, List.take_of_length_le h, List.drop_of_length_le h, List.append_nil]
omit [Tabs] in
theorem maskTo_length (X : List Int) (m : Int) (k : Nat) : (maskTo X m k).length = X.length := by
  rw [maskTo, List.length_append, maskL_length, List.length_take, List.length_drop]; omega
omit [Tabs] in
theorem maskTo_get (X : List Int) (m : Int) (k : Nat) : (maskTo X m k).getD k 0 = X.getD k 0 := by
  rw [maskTo, List.getD_eq_getElem?_getD, List.getD_eq_getElem?_getD]
  by_cases h : k < X.length
  · rw [List.getElem?_append_right (by simp [maskL_length]; omega)]
    simp only [maskL_length, List.length_take, List.getElem?_drop]
    congr 2; omega
  · rw [List.getElem?_eq_none (by simp [maskL_length]; omega), List.getElem?_eq_none (by omega)]
omit [Tabs] in
theorem maskTo_succ (X : List Int) (m : Int) (k : Nat) (h : k < X.length) : (maskTo X m k).set k (bits BinOp.xor IntKind.u8 (X.getD k 0) m) = maskTo X m (k + 1) := by
  have hd : X.drop k = X[k] :: X.drop (k + 1) := List.drop_eq_getElem_cons h
  have ht : X.take (k + 1) = X.take k ++ [X[k]] := List.take_succ_eq_append_getElem h
  rw [maskTo, maskTo, ht, hd, List.set_append_right _ _ (by simp [maskL_length]; omega)]
  have e : k - (maskL (X.take k) m).length = 0 := by simp [maskL_length]; omega
  rw [e]
  simp only [maskL, List.map_append, List.map_cons, List.map_nil, List.set_cons_zero, List.append_assoc, List.cons_append, List.nil_append]
  rw [List.getD_eq_getElem?_getD, List.getElem?_eq_getElem h]
  rfl

set_option maxRecDepth 100000 in
set_option maxHeartbeats 1000000 in
theorem msum_ok (s : ByteArray) (w : World) (hT : Tab w) (hs : s.size ≤ 1048576) :
    Calls Tryz.prog 153 #[.string s] w fun e w' => e = .returned (.string (sumB s)) ∧ Below w.heap.size w w' := by
  go_enter Tryz.func153, Tryz.ntmps153
  go_wp2_with fail
  refine (sum_ok s _ hT hs).mono ?_
  rintro e w1 ⟨rfl, hb1⟩
  generalize hes : endS (addH Hs0 s) = es
  have HES := Lib.hid hes
  clear hes
  go_wp2
  go_ret
  exact ⟨by rw [sumB, HES.out]; rfl, hb1⟩

set_option maxRecDepth 100000 in
set_option maxHeartbeats 1000000 in
omit [Tabs] in
theorem masked_any (X : List Int) (m : Int) (w : World) (hX : X.length = 64) :
    Calls Tryz.prog 154 #[.agg (byA X), .int .u8 m] w fun e w' => e = .returned (.string (strOfNums (maskL X m))) ∧ Below w.heap.size w w' := by
  have HX := Lib.hid hX
  clear hX
  go_enter Tryz.func154, Tryz.ntmps154
  go_wp2
  go_loopw [6] (fun i wr => ∃ k : Nat, k ≤ 64 ∧ i = .int .i64 k ∧ Is wr w.heap.size 189 (byA (maskTo X m k)) ∧ Below w.heap.size w wr)
    (fun i _ => 64 - (intOf i).toNat)
  case atStart =>
    refine ⟨0, by omega, rfl, ?_, (Below.refl _ _).alloc (Nat.le_refl _) _⟩
    rw [maskTo_zero]
    exact Is.new w _ _
  case round =>
    obtain ⟨k, hk, rfl, hI, hB⟩ := hrel
    by_cases hlt : k < 64
    · have hc : wr.cell? ⟨w.heap.size, k, none⟩ = some (.int .u8 (X.getD k 0)) := by
        rw [hI.cell, byA_get _ _ (by rw [maskTo_length, HX.out]; exact hlt), maskTo_get]
      have hf : wr.frozen? ⟨w.heap.size, k, none⟩ = false := hI.frozen k
      generalize hx : X.getD k 0 = x at hc
      have HXK := Lib.hid hx
      clear hx
      have HI := Lib.hid hI
      clear hI
      go_wp2
      go_roundw
      case rel =>
        refine ⟨k + 1, by omega, by go_num, ?_, hB.setCell (Nat.le_refl _) _⟩
        have := HI.out.set k (.int .u8 (bits BinOp.xor IntKind.u8 x m))
        rw [byA_set, ← HXK.out, maskTo_succ _ _ _ (by rw [HX.out]; exact hlt), HXK.out] at this
        exact this
      case measure => simp [intOf]; omega
    · have hI8 : Is wr w.heap.size 189 (byA (maskL X m)) := by
        rw [maskTo_all _ _ _ (by rw [HX.out]; omega)] at hI
        exact hI
      have hml : (maskL X m).length = 64 := by rw [maskL_length, HX.out]
      have hcv := run_convert_bytes_arg (P := Tryz.prog) wr 63 5 Tryz.underlying63 Tryz.underlying5 w.heap.size 0 64 64 (maskL X m) hml (fun i hi => by
        rw [Nat.zero_add, hI8.cell, byA_get _ _ (by rw [hml]; exact hi)]) 9 Tryz.underlying9
      generalize hst : strOfNums (maskL X m) = st at hcv
      have HST := Lib.hid hst
      clear hst hI hI8 hml
      go_wp2
      go_ret
      exact ⟨by rw [HST.out]; rfl, hB⟩

/-- a text's bytes as numbers. -/
def bytesL (s : ByteArray) : List Int := s.data.toList.map fun b => (b.toNat : Int)
omit [Tabs] in
theorem bytesL_length (s : ByteArray) : (bytesL s).length = s.size := by rw [bytesL, List.length_map, Array.length_toList]; rfl
/-- a key, or its sum. -/
def keyOf (key : ByteArray) : ByteArray := if 64 < key.size then sumB key else key
theorem keyOf_size (key : ByteArray) : (keyOf key).size ≤ 64 := by
  unfold keyOf; split
  · rw [sumB_size]; omega
  · omega
def padL (k : ByteArray) : List Int := bytesL k ++ List.replicate (64 - k.size) 0
omit [Tabs] in
theorem padL_length (k : ByteArray) (h : k.size ≤ 64) : (padL k).length = 64 := by rw [padL, List.length_append, bytesL_length, List.length_replicate]; omega
/-- a key's 64 bytes. -/
def keyL (key : ByteArray) : List Int := padL (keyOf key)
theorem keyL_length (key : ByteArray) : (keyL key).length = 64 := padL_length _ (keyOf_size _)

abbrev Z64 : Array Value := #[.int .u8 0, .int .u8 0, .int .u8 0, .int .u8 0, .int .u8 0, .int .u8 0, .int .u8 0, .int .u8 0, .int .u8 0, .int .u8 0, .int .u8 0, .int .u8 0, .int .u8 0, .int .u8 0, .int .u8 0, .int .u8 0, .int .u8 0, .int .u8 0, .int .u8 0, .int .u8 0, .int .u8 0, .int .u8 0, .int .u8 0, .int .u8 0, .int .u8 0, .int .u8 0, .int .u8 0, .int .u8 0, .int .u8 0, .int .u8 0, .int .u8 0, .int .u8 0, .int .u8 0, .int .u8 0, .int .u8 0, .int .u8 0, .int .u8 0, .int .u8 0, .int .u8 0, .int .u8 0, .int .u8 0, .int .u8 0, .int .u8 0, .int .u8 0, .int .u8 0, .int .u8 0, .int .u8 0, .int .u8 0, .int .u8 0, .int .u8 0, .int .u8 0, .int .u8 0, .int .u8 0, .int .u8 0, .int .u8 0, .int .u8 0, .int .u8 0, .int .u8 0, .int .u8 0, .int .u8 0, .int .u8 0, .int .u8 0, .int .u8 0, .int .u8 0]
omit [Tabs] in
theorem Z64_copy (k : ByteArray) : (Z64.toList.take 0 ++ Lib.byteCells k.data.toList ++ Z64.toList.drop (0 + k.size)).toArray = byA (padL k) := by
  have hz : Z64.toList = List.replicate 64 (Value.int .u8 0) := rfl
  rw [hz, byA, padL, List.map_append, List.take_zero, List.nil_append, Nat.zero_add, List.drop_replicate, List.map_replicate]
  simp [bytesL, Lib.byteCells]

set_option maxRecDepth 100000 in
set_option maxHeartbeats 1000000 in
theorem keyBlock_any (key : ByteArray) (w : World) (hT : Tab w) (hk : key.size ≤ 1000) :
    Calls Tryz.prog 140 #[.string key] w fun e w' => e = .returned (.agg (byA (keyL key))) ∧ Below w.heap.size w w' := by
  have hinfo : (Tryz.prog.info? 5).map (·.size) = some 1 := by kernel_rfl
  by_cases hlt : 64 < key.size
  · go_enter Tryz.func140, Tryz.ntmps140
    go_wp2_with fail
    refine (msum_ok key _ (hT.below ((Below.refl _ _).alloc (Nat.le_refl _) _) hT.two) (by omega)).mono ?_
    rintro e W ⟨rfl, hb⟩
    have iW : Is W w.heap.size 189 Z64 := Is.below (Is.new w _ _) hb (by simp)
    have hB : Below w.heap.size w W := ((Below.refl _ _).alloc (Nat.le_refl _) _).trans (hb.mono (by simp))
    have hk64 : (sumB key).size ≤ 64 := by rw [sumB_size]; omega
    have hke : keyOf key = sumB key := by unfold keyOf; rw [if_pos hlt]
    clear hb
    have hW : w.heap.size < W.heap.size := iW.lt
    generalize sumB key = k at *
    have HK := Lib.hid hke
    clear hke
    have hcp := Lib.run_copy_row_string (P := Tryz.prog) (W.alloc (.cells Z64 189)) 63 9 3 5 W.heap.size 0 64 64 k Z64 189 Tryz.underlying63 hinfo (heap_alloc_new W _) hk64 (by show 0 + k.size ≤ 64; omega)
    rw [Z64_copy k, World.setRow_alloc_new] at hcp
    have hR1 := byA_one (padL k)
    have hR2 : (Tryz.prog.info? 189).map (·.size) = some (byA (padL k)).size := by rw [byA_size, padL_length k hk64]; kernel_rfl
    have hR3 : Z64.size = (byA (padL k)).size := by rw [byA_size, padL_length k hk64]; rfl
    generalize hR : byA (padL k) = R at *
    have HR := Lib.hid hR
    have HR1 := Lib.hid hR1
    have HR2 := Lib.hid hR2
    have HR3 := Lib.hid hR3
    clear hR hR1 hR2 hR3
    go_wp2_with (first
      | (refine wpList_store_row rfl 189 _ _ rfl w.heap.size R rfl rfl _ _ (iW.alloc _) HR2.out HR3.out HR1.out ?_)
      | (refine wpList_load_row rfl 189 _ rfl W.heap.size rfl _ _ _ _ (heap_alloc_new W _) Tryz.underlying189 rfl HR2.out ?_))
    refine bodyPost_ret (results_cell_row Tryz.results140 _ _ w.heap.size 189 R (0, 0) _ rfl (Is.row (iW.alloc _) _) Tryz.underlying189 rfl HR2.out) rfl ⟨by rw [keyL, HK.out, HR.out], ?_⟩
    exact belowRow (hB.alloc hB.size _) (Nat.le_refl _) _
  · have hk64 : key.size ≤ 64 := by omega
    have hke : keyOf key = key := by unfold keyOf; rw [if_neg hlt]
    have HK := Lib.hid hke
    clear hke
    have iW : Is (w.alloc (.cells Z64 189)) w.heap.size 189 Z64 := Is.new w _ _
    have hB : Below w.heap.size w (w.alloc (.cells Z64 189)) := (Below.refl _ _).alloc (Nat.le_refl _) _
    go_enter Tryz.func140, Tryz.ntmps140
    obtain ⟨W, hWe⟩ : ∃ W, W = w.alloc (.cells Z64 189) := ⟨_, rfl⟩
    have hW : w.heap.size < W.heap.size := by rw [hWe]; exact iW.lt
    rw [← hWe] at iW hB
    have HW := Lib.hid hWe
    clear hWe
    obtain ⟨k, rfl⟩ : ∃ k, k = key := ⟨_, rfl⟩
    have hcp := Lib.run_copy_row_string (P := Tryz.prog) (W.alloc (.cells Z64 189)) 63 9 3 5 W.heap.size 0 64 64 k Z64 189 Tryz.underlying63 hinfo (heap_alloc_new W _) hk64 (by show 0 + k.size ≤ 64; omega)
    rw [Z64_copy k, World.setRow_alloc_new] at hcp
    have hR1 := byA_one (padL k)
    have hR2 : (Tryz.prog.info? 189).map (·.size) = some (byA (padL k)).size := by rw [byA_size, padL_length k hk64]; kernel_rfl
    have hR3 : Z64.size = (byA (padL k)).size := by rw [byA_size, padL_length k hk64]; rfl
    generalize hR : byA (padL k) = R at *
    have HR := Lib.hid hR
    have HR1 := Lib.hid hR1
    have HR2 := Lib.hid hR2
    have HR3 := Lib.hid hR3
    clear hR hR1 hR2 hR3
    rw [HW.out] at hcp iW hB hW
    simp only [World.size_alloc] at hcp
    go_wp2_with (first
      | (refine wpList_store_row rfl 189 _ _ rfl w.heap.size R rfl rfl _ _ (iW.alloc _) HR2.out HR3.out HR1.out ?_)
      | (refine wpList_load_row rfl 189 _ rfl (w.heap.size + 1) rfl _ _ _ _ (heap_alloc2_new w _ _) Tryz.underlying189 rfl HR2.out ?_))
    refine bodyPost_ret (results_cell_row Tryz.results140 _ _ w.heap.size 189 R (0, 0) _ rfl (Is.row (iW.alloc _) _) Tryz.underlying189 rfl HR2.out) rfl ⟨by rw [keyL, HK.out, HR.out], ?_⟩
    exact belowRow (hB.alloc hB.size _) (Nat.le_refl _) _
end Go.Proofs.YtfgdcpolfekgjaaGreat
namespace Go.Proofs.YtfgdcpolfekgjaaGreat
open Go.RowKit
variable [Tabs]

/-- a text's tag, by a key's 64 bytes. -/
def tagB (X : List Int) (s : ByteArray) : ByteArray := sumB (strOfNums (maskL X 92) ++ sumB (strOfNums (maskL X 54) ++ s))
theorem tagB_size (X : List Int) (s : ByteArray) : (tagB X s).size = 32 := sumB_size _
omit [Tabs] in
theorem maskS_size (X : List Int) (m : Int) (h : X.length = 64) : (strOfNums (maskL X m)).size = 64 := by rw [str_size, maskL_length, h]

omit [Tabs] in
theorem rangeB {W W' : World} {b : Nat} {cs : List Value} {B : Nat} (h : W.rangeAt b 0 cs) (hb : Below B W W') (hB : b < B) : W'.rangeAt b 0 cs := fun j v hv =>
  (hb.cell (p := ⟨b, 0 + j, none⟩) hB).trans (h j v hv)
omit [Tabs] in
theorem range_is {W : World} {b : Nat} {t : TypeId} {X : List Int} (h : Is W b t (byA X)) : W.rangeAt b 0 (X.map (Value.int .u8)) := fun j v hv => by
  rw [Nat.zero_add, h.cell]
  simpa [byA] using hv

set_option maxRecDepth 100000 in
set_option maxHeartbeats 1000000 in
theorem tag_any (X : List Int) (s : ByteArray) (w : World) (hT : Tab w) (hX : X.length = 64) (hs : s.size ≤ 1048512) :
    Calls Tryz.prog 141 #[.agg (byA X), .string s] w fun e w' => e = .returned (.string (tagB X s)) ∧ Below w.heap.size w w' := by
  have m92 : ∀ w, Calls Tryz.prog 154 #[.agg (byA X), .int .u8 92] w fun e w' => e = .returned (.string (strOfNums (maskL X 92))) ∧ Below w.heap.size w w' := fun w => masked_any X 92 w hX
  have m54 : ∀ w, Calls Tryz.prog 154 #[.agg (byA X), .int .u8 54] w fun e w' => e = .returned (.string (strOfNums (maskL X 54))) ∧ Below w.heap.size w w' := fun w => masked_any X 54 w hX
  have z92 := maskS_size X 92 hX
  have z54 := maskS_size X 54 hX
  have hi : (Tryz.prog.info? 189).map (·.size) = some (X.map (Value.int .u8)).length := by rw [List.length_map, hX]; kernel_rfl
  have hu := Tryz.underlying189
  have hR0 := range_is (Is.new w 189 (byA X))
  have ht : tagB X s = sumB (strOfNums (maskL X 92) ++ sumB (strOfNums (maskL X 54) ++ s)) := rfl
  unfold byA at m92 m54 hR0 ⊢
  generalize strOfNums (maskL X 92) = p at *
  generalize strOfNums (maskL X 54) = q at *
  generalize X.map (Value.int .u8) = cs at *
  generalize tagB X s = r at *
  have zq : (q ++ s).size ≤ 1048576 := by rw [ByteArray.size_append, z54]; omega
  have zr : (p ++ sumB (q ++ s)).size ≤ 1048576 := by rw [ByteArray.size_append, z92, sumB_size]; omega
  have n1 : ¬ (9223372036854775807 < q.size + s.size) := by omega
  have n2 : ¬ (9223372036854775807 < p.size + (sumB (q ++ s)).size) := by rw [z92, sumB_size]; omega
  have M1 := Lib.hid m92
  have M2 := Lib.hid m54
  have HT := Lib.hid ht
  clear m92 m54 z92 z54 ht hX
  have hB0 : Below w.heap.size w (w.alloc (.cells cs.toArray 189)) := (Below.refl _ _).alloc (Nat.le_refl _) _
  have hz0 : w.heap.size < (w.alloc (.cells cs.toArray 189)).heap.size := by simp
  go_enter Tryz.func141, Tryz.ntmps141
  go_wp2
  generalize w.alloc (.cells cs.toArray 189) = W at *
  refine wp_region_held_drew (S := fun w' => w'.rangeAt w.heap.size 0 cs) (by kernel_rfl) hR0 (fun hS0 => ?_)
  refine wpAnyH_take (i := 0) rfl (by kernel_rfl) (by kernel_rfl) (by kernel_rfl) (fun _ _ _ h => h) (yieldsIf_load_mid (by rfl) _ _ rfl _ _ rfl cs _ (fun w h => h) hu rfl hi) hS0 ?_
  simp only [Act.put]
  refine wpAnyH_take (i := 2) rfl (by kernel_rfl) (by kernel_rfl) (by kernel_rfl) (fun _ _ _ h => h) (yieldsIf_load_mid (by rfl) _ _ rfl _ _ rfl cs _ (fun w h => h) hu rfl hi) hS0 ?_
  simp only [Act.put]
  refine wpAnyH_take (i := 4) (v := .string s) rfl (by kernel_rfl) (by kernel_rfl) (by kernel_rfl) (fun _ _ _ h => h) (Or.inl ⟨by rfl, fun w _ => by go_simp⟩) hS0 ?_
  simp only [Act.put]
  refine wpAnyH_next (i := 1) (by kernel_rfl) rfl (fun K hK => ?_)
  go_simp
  go_at_call 154
  refine (M1.out _).mono ?_
  rintro e w1 ⟨rfl, hb⟩
  have hR1 : w1.rangeAt w.heap.size 0 cs := rangeB (W := W.drewN 1) hR0 hb hz0
  have hB1 : Below w.heap.size w w1 := (belowN hB0 1).trans (hb.mono hB0.size)
  have hz1 : w.heap.size < w1.heap.size := Nat.lt_of_lt_of_le hz0 hb.size
  clear hb
  refine hK.out _ _ hR1 (fun _ => ?_)
  clear hK K
  try simp only [Act.put]
  refine wpAnyH_next (i := 3) (by kernel_rfl) rfl (fun K hK => ?_)
  go_simp
  go_at_call 154
  refine (M2.out _).mono ?_
  rintro e w2 ⟨rfl, hb⟩
  have hR2 : w2.rangeAt w.heap.size 0 cs := rangeB hR1 hb hz1
  have hB2 : Below w.heap.size w w2 := hB1.trans (hb.mono hB1.size)
  have hz2 : w.heap.size < w2.heap.size := Nat.lt_of_lt_of_le hz1 hb.size
  clear hb
  refine hK.out _ _ hR2 (fun _ => ?_)
  clear hK K
  try simp only [Act.put]
  refine wpAnyH_next (i := 5) (by kernel_rfl) rfl (fun K hK => ?_)
  go_simp
  refine hK.out _ _ hR2 (fun _ => ?_)
  clear hK K
  try simp only [Act.put]
  refine wpAnyH_next (i := 6) (by kernel_rfl) rfl (fun K hK => ?_)
  go_simp
  go_at_call 153
  refine (msum_ok (q ++ s) _ (hT.below hB2 hT.two) zq).mono ?_
  rintro e w3 ⟨rfl, hb⟩
  have hR3 : w3.rangeAt w.heap.size 0 cs := rangeB hR2 hb hz2
  have hB3 : Below w.heap.size w w3 := hB2.trans (hb.mono hB2.size)
  have hz3 : w.heap.size < w3.heap.size := Nat.lt_of_lt_of_le hz2 hb.size
  clear hb
  generalize hv : sumB (q ++ s) = v at *
  have HV := Lib.hid hv
  clear hv
  refine hK.out _ _ hR3 (fun _ => ?_)
  clear hK K
  try simp only [Act.put]
  refine wpAnyH_next (i := 7) (by kernel_rfl) rfl (fun K hK => ?_)
  go_simp
  refine hK.out _ _ hR3 (fun _ => ?_)
  clear hK K
  try simp only [Act.put]
  refine wpAnyH_next (i := 8) (by kernel_rfl) rfl (fun K hK => ?_)
  go_simp
  go_at_call 153
  refine (msum_ok (p ++ v) _ (hT.below hB3 hT.two) zr).mono ?_
  rintro e w4 ⟨rfl, hb⟩
  have hR4 : w4.rangeAt w.heap.size 0 cs := rangeB hR3 hb hz3
  have hB4 : Below w.heap.size w w4 := hB3.trans (hb.mono hB3.size)
  clear hb
  generalize hv : sumB (p ++ v) = v4 at *
  have HV4 := Lib.hid hv
  clear hv
  refine hK.out _ _ hR4 (fun _ => ?_)
  clear hK K
  try simp only [Act.put]
  refine wpAnyH_next (i := 9) (by kernel_rfl) rfl (fun K hK => ?_)
  go_simp
  refine hK.out _ _ hR4 (fun _ => ?_)
  clear hK K
  refine wpAnyH_done (by kernel_rfl) ?_ _
  go_wp2
  go_ret
  exact ⟨by rw [HT.out, ← HV4.out]; rfl, hB4⟩

set_option maxRecDepth 100000 in
set_option maxHeartbeats 1000000 in
theorem mac_ok (key s : ByteArray) (w : World) (hT : Tab w) (hk : key.size ≤ 1000) (hs : s.size ≤ 1048512) :
    Calls Tryz.prog 126 #[.string key, .string s] w fun e w' => e = .returned (.tuple #[.string (tagB (keyL key) s), .int .i64 0]) ∧ Below w.heap.size w w' := by
  go_enter Tryz.func126, Tryz.ntmps126
  go_wp2_with fail
  refine (keyBlock_any key _ hT hk).mono ?_
  rintro e w1 ⟨rfl, hb1⟩
  go_wp2_with fail
  refine (tag_any (keyL key) s _ (hT.below hb1 hT.two) (keyL_length key) hs).mono ?_
  rintro e w2 ⟨rfl, hb2⟩
  have hB2 : Below w.heap.size w w2 := hb1.trans (hb2.mono hb1.size)
  generalize byA (keyL key) = X
  generalize ht : tagB (keyL key) s = t
  have HT := Lib.hid ht
  clear hb1 hb2 ht
  go_wp2
  go_ret2
  exact ⟨by rw [HT.out]; rfl, hB2⟩
end Go.Proofs.YtfgdcpolfekgjaaGreat
namespace Go.Proofs.YtfgdcpolfekgjaaGreat
open Go.RowKit Go.Shelf
variable [Tabs]
attribute [local go_sem] Oper.semAt_some

omit [Tabs] in
theorem wpListIn_load_row {F : Fence} {n : Nat} {P : Program} {ops : Array Oper} {rest : List Oper} {o : Oper} {a : Act} {w : World} {Q : Exit → Act → World → Prop} (hgd : o.guard = none) (ty : TypeId) (x : Operand) (ho : o.op = .load ty x)
    (g : Nat) (hx : a.eval x = .pointer (some ⟨g, 0, none⟩)) (t : TypeId) (cs : Array Value) (fr : Nat × Nat) (d : TypeDesc) (hg : w.heap[g]? = some (.cells cs t fr))
    (hu : P.underlying ty = some d) (hd : (match d with | .struct _ | .array _ _ => true | _ => false) = true) (hi : (P.info? ty).map (·.size) = some cs.size)
    (h : wpListIn F n P ops Q rest (a.put o.dst (.agg cs)) w) : wpListIn F n P ops Q (o :: rest) a w := by
  refine wpListIn_plain hgd fun K hK' => ?_
  unfold Oper.wpIn
  refine ⟨?_, ?_⟩
  · simp [Oper.about, ho]
  · rw [Oper.semAt_plain F _ _ (by rw [ho]; intro c hc'; cases hc')]
    simp only [execOp, ho, hx, Instr.loadAt, Instr.sureAddr, Sem.run_bind, Sem.run_pure, Result.andThen_ok, run_loadVar_row w g t ty cs fr d hg hu hd hi]
    exact hK' _ _ h

omit [Tabs] in
theorem grown_of_below {W W1 : World} (hb : Below W.heap.size W W1) : W.grownBy W1 none := ⟨hb.os, hb.tape, hb.output, hb.size, fun k hk _ => hb.block k hk⟩

/-- one byte. -/
def one8 (i : Int) : ByteArray := strOfNums [i]
omit [Tabs] in
theorem one8_size (i : Int) : (one8 i).size = 1 := by rw [one8, str_size]; rfl
/-- the parts of what is derived, an empty one first. -/
def tgs (X : List Int) (name : ByteArray) : Nat → ByteArray
  | 0 => ⟨#[]⟩
  | k + 1 => tagB X (tgs X name k ++ name ++ one8 ((k : Int) + 1))
theorem tgs_size (X : List Int) (name : ByteArray) (k : Nat) : (tgs X name k).size ≤ 32 := by
  cases k with
  | zero => simp [tgs, ByteArray.size]
  | succ k => rw [tgs, tagB_size]; omega
abbrev B32 := { x : ByteArray // x.size = 32 }
def prt (X : List Int) (name : ByteArray) (j : Nat) : B32 := ⟨tgs X name (j + 1), tagB_size _ _⟩
def prts (X : List Int) (name : ByteArray) (k : Nat) : List B32 := (List.range k).map (prt X name)
theorem prts_succ (X : List Int) (name : ByteArray) (k : Nat) : prts X name (k + 1) = prts X name k ++ [prt X name k] := by simp [prts, List.range_succ]
theorem prts_length (X : List Int) (name : ByteArray) (k : Nat) : (prts X name k).length = k := by simp [prts]

/-- what a round of Derive leaves alone. -/
def KpD (n0 Bn Bx Bs : Nat) (W W' : World) : Prop := Below n0 W W' ∧ SameAtD Bn W W' ∧ SameAtD Bx W W' ∧ SameAtD Bs W W'

set_option maxRecDepth 100000 in
set_option maxHeartbeats 1000000 in
theorem parts1_in (n : Nat) (hn : 1 ≤ n) (l n0 Bn Bx Bs : Nat) (hn0 : 2 ≤ n0) (X : List Int) (hX : X.length = 64) (name : ByteArray) (hname : name.size ≤ 1000) (N : Nat) (hN : N ≤ 4096) (J Jx : List B32 → World → Prop)
    (W : World) (hJ : AbidesFrom W.heap.size J)
    (hY : ∀ pre x W, J pre W → pre.length < (N + 31) / 32 → YieldAt Fence.wide (n - 1) Tryz.prog l #[.string x.1] W fun e W' =>
      (e = .returned (.bool true) ∧ J (pre ++ [x]) W' ∧ KpD n0 Bn Bx Bs W W') ∨ (e = .returned (.bool false) ∧ Jx (pre ++ [x]) W'))
    (hT : Tab W) (hBn : Is W Bn 3 #[.int .i64 (N : Int)]) (hBx : Is W Bx 189 (byA X)) (hBs : Is W Bs 9 #[.string name]) (h0 : J [] W) :
    CallsIn Fence.wide n Tryz.prog 152 #[.func (.yield l) #[] #[], .pointer (some ⟨Bn, 0, none⟩), .pointer (some ⟨Bx, 0, none⟩), .pointer (some ⟨Bs, 0, none⟩)] W fun e W' => (∃ v, e = .returned v) ∧
      ((∃ ys, ys = prts X name ((N + 31) / 32) ∧ J ys W') ∨ (∃ pre, True ∧ Jx pre W')) := by
  have HX := Lib.hid hX
  clear hX
  have hXs : (Tryz.prog.info? 189).map (·.size) = some (byA X).size := by rw [byA_size, HX.out]; kernel_rfl
  have HXs := Lib.hid hXs
  clear hXs
  refine callsIn_of_wp Tryz.func152 rfl trivial ?_ rfl
  simp only [Tryz.ntmps152, List.size_toArray, List.length_cons, List.length_nil, Nat.reduceAdd, Nat.reduceSub, Array.replicate_succ, Array.replicate_zero, List.push_toArray, List.append_toArray, List.nil_append, List.cons_append]
  gi_wp2
  gi_loopw [5, 6] (fun ah i wr => ∃ k : Nat, ah = .string (tgs X name k) ∧ i = .int .i64 ((k : Int) + 1) ∧ k ≤ (N + 31) / 32 ∧ Tab wr ∧ Is wr Bn 3 #[.int .i64 (N : Int)] ∧ Is wr Bx 189 (byA X) ∧ Is wr Bs 9 #[.string name] ∧ J (prts X name k) wr)
    (fun _ i _ => 4200 - (intOf i).toNat)
  case atStart =>
    exact ⟨0, rfl, rfl, by omega, hT, hBn, hBx, hBs, h0⟩
  case round =>
    clear hT hBn hBx hBs h0
    obtain ⟨k, rfl, rfl, hk, hT, hBn, hBx, hBs, hJk⟩ := hrel
    have cn := hBn.cell 0
    have cs := hBs.cell 0
    have hts := tgs_size X name k
    by_cases hlt : k * 32 < N
    · have hl1 : (k : Int) * 32 < (N : Int) := by omega
      have hst : tgs X name (k + 1) = tagB X (tgs X name k ++ name ++ one8 ((k : Int) + 1)) := rfl
      generalize tgs X name k = ah at *
      have HST := Lib.hid hst
      clear hst
      have n1 : ¬ (9223372036854775807 < ah.size + name.size) := by omega
      have n2 : ¬ (9223372036854775807 < (ah ++ name).size + (one8 ((k : Int) + 1)).size) := by rw [ByteArray.size_append, one8_size]; omega
      have n3 : (ah ++ name ++ one8 ((k : Int) + 1)).size ≤ 1048512 := by rw [ByteArray.size_append, ByteArray.size_append, one8_size]; omega
      have hcv := run_convert_bytes_arg (P := Tryz.prog) (wr.alloc (.cells #[.int .u8 ((k : Int) + 1)] 5)) 63 5 Tryz.underlying63 Tryz.underlying5 wr.heap.size 0 1 1 [(k : Int) + 1] rfl (fun i hi => by
        obtain rfl : i = 0 := by omega
        exact (Is.new wr 5 #[.int .u8 ((k : Int) + 1)]).cell 0) 9 Tryz.underlying9
      change _ = Result.ok (Value.string (one8 ((k : Int) + 1))) _ at hcv
      have N3 := Lib.hid n3
      clear n3
      gi_wp2_with (first
        | (refine wpListIn_load_row rfl 189 _ rfl Bx rfl _ _ _ _ hBx Tryz.underlying189 rfl HXs.out ?_)
        | (refine ⟨trivial, ?_⟩; gi_at_call 141; refine (callsIn_wide.2 (tag_any X _ _ (hT.below ((Below.refl wr.heap.size wr).alloc (Nat.le_refl _) _) hT.two) HX.out N3.out)).mono ?_; rintro e w1 ⟨rfl, hb1⟩; have hB1 : Below wr.heap.size wr w1 := ((Below.refl _ _).alloc (Nat.le_refl _) _).trans (hb1.mono (by simp)); have hJ1 : J (prts X name k) w1 := hJ _ _ _ none hJk (grown_of_below hB1) (fun r e => by cases e); obtain ⟨fn, tmps, assign, body, hy, hR⟩ := hY (prts X name k) (prt X name k) w1 hJ1 (by rw [prts_length]; omega); rw [show (prt X name k).1 = tgs X name (k + 1) from rfl, HST.out] at hy; generalize tagB X (ah ++ name ++ one8 ((k : Int) + 1)) = tg at hy HST ⊢; have HR := Lib.hid hR; clear hR hb1 hcv))
      refine HR.out.mono ?_
      rintro e W3 (⟨rfl, hJ3, hk3⟩ | ⟨rfl, hJx3⟩)
      · obtain ⟨hk0, hk1, hk2, hk4⟩ := hk3
        have jn : Is W3 Bn 3 #[.int .i64 (N : Int)] := hk1.trans (hBn.below hB1 hBn.lt)
        have jx : Is W3 Bx 189 (byA X) := hk2.trans (hBx.below hB1 hBx.lt)
        have js : Is W3 Bs 9 #[.string name] := hk4.trans (hBs.below hB1 hBs.lt)
        have hT3 : Tab W3 := (hT.below hB1 hT.two).below hk0 hn0
        gi_wp2
        go_roundw
        case rel =>
          refine ⟨k + 1, by rw [HST.out], by go_num, by omega, hT3, jn, jx, js, ?_⟩
          rw [prts_succ]; exact hJ3
        case measure => simp [intOf]; omega
      · gi_wp2
        refine bodyPost_ret (results_none rfl _ _ _) rfl ?_
        exact ⟨⟨_, rfl⟩, .inr ⟨_, trivial, hJx3⟩⟩
    · have hl1 : ¬ (k : Int) * 32 < (N : Int) := by omega
      have he : prts X name ((N + 31) / 32) = prts X name k := by rw [show (N + 31) / 32 = k by omega]
      have HE := Lib.hid he
      clear he
      gi_wp2
      go_end0
      exact ⟨⟨_, rfl⟩, .inl (by rw [HE.out]; exact hJk)⟩

set_option maxRecDepth 100000 in
set_option maxHeartbeats 1000000 in
omit [Tabs] in
theorem parts_in (n : Nat) (X : List Int) (name : ByteArray) (N : Int) (w : World) :
    CallsIn Fence.wide n Tryz.prog 139 #[.agg (byA X), .string name, .int .i64 N] w fun e w' => e = .returned (.func (.func 152) #[] #[.pointer (some ⟨w.heap.size + 1 + 1, 0, none⟩), .pointer (some ⟨w.heap.size, 0, none⟩), .pointer (some ⟨w.heap.size + 1, 0, none⟩)]) ∧
      w' = ((w.alloc (.cells (byA X) 189)).alloc (.cells #[.string name] 9)).alloc (.cells #[.int .i64 N] 3) := by
  generalize byA X = R
  refine callsIn_of_wp Tryz.func139 rfl trivial ?_ rfl
  simp only [Tryz.ntmps139, List.size_toArray, List.length_cons, List.length_nil, Nat.reduceAdd, Nat.reduceSub, Array.replicate_succ, Array.replicate_zero, List.push_toArray, List.append_toArray, List.nil_append, List.cons_append]
  gi_wp2
  go_ret
  exact ⟨rfl, rfl⟩

theorem parts_stops (n : Nat) (hn : 1 ≤ n) (n0 Bn Bx Bs : Nat) (hn0 : 2 ≤ n0) (X : List Int) (hX : X.length = 64) (name : ByteArray) (hname : name.size ≤ 1000) (N : Nat) (hN : N ≤ 4096) (w : World)
    (hT : Tab w) (hBn : Is w Bn 3 #[.int .i64 (N : Int)]) (hBx : Is w Bx 189 (byA X)) (hBs : Is w Bs 9 #[.string name]) :
    SeqStopsK Fence.wide n Tryz.prog 152 #[.pointer (some ⟨Bn, 0, none⟩), .pointer (some ⟨Bx, 0, none⟩), .pointer (some ⟨Bs, 0, none⟩)] (fun x : B32 => #[Value.string x.1]) (KpD n0 Bn Bx Bs) (fun ys => ys = prts X name ((N + 31) / 32)) (fun _ => True) ((N + 31) / 32) w := fun l J Jx W hW hJ _ hY h0 =>
  parts1_in n hn l n0 Bn Bx Bs hn0 X hX name hname N hN J Jx W hJ hY (hT.below hW hT.two) (hBn.below hW hBn.lt) (hBx.below hW hBx.lt) (hBs.below hW hBs.lt) h0

/-- all bytes of parts. -/
def flatL (l : List B32) : List Int := l.flatMap fun b => bytesL b.1
omit [Tabs] in
theorem flatL_snoc (l : List B32) (b : B32) : flatL (l ++ [b]) = flatL l ++ bytesL b.1 := by simp [flatL]
omit [Tabs] in
theorem flatL_length (l : List B32) : (flatL l).length = 32 * l.length := by
  induction l with
  | nil => rfl
  | cons b l ih =>
    have : flatL (b :: l) = bytesL b.1 ++ flatL l := rfl
    rw [this, List.length_append, ih, bytesL_length, b.2, List.length_cons]; omega
/-- what is derived. -/
def drv (X : List Int) (name : ByteArray) (N : Nat) : ByteArray := strOfNums ((flatL (prts X name ((N + 31) / 32))).take N)

omit [Tabs] in
theorem rowF_kept {W W' : World} {base : Nat} {e : TypeId} {v : Value} {n : Nat} {xs : List Value} {row : Option Nat} (h : W.ownsRowF base e 1 v n xs) (hg : W.grownBy W' row) (hr : ∀ r, row = some r → ∃ o : Obj, W.heap[r]? = some o ∧ o.isCells = false) : W'.ownsRowF base e 1 v n xs := by
  refine h.kept hg ?_
  cases hv : v.ownBlock with
  | none => exact .inl rfl
  | some g =>
    refine .inr fun e => ?_
    obtain ⟨o, ho, hc⟩ := hr g e.symm
    obtain ⟨c, fz, hk⟩ := Lib.ownsRowF_kind h g hv
    rw [hk] at ho
    cases ho
    cases hc

omit [Tabs] in
theorem rowF_form {W : World} {base : Nat} {e : TypeId} {v : Value} {n : Nat} {xs : List Value} (h : W.ownsRowF base e 1 v n xs) (hn : 0 < n) : ∃ g cap, v = .slice (some ⟨g, 0, none⟩) n cap := by
  rcases h.2 with ⟨_, h0⟩ | ⟨g, cap, _, _, rfl, _⟩
  · omega
  · exact ⟨g, cap, rfl⟩
omit [Tabs] in
theorem keeps_of_grown {W W' : World} {row : Option Nat} (hg : W.grownBy W' row) (hr : ∀ r, row = some r → ∃ o : Obj, W.heap[r]? = some o ∧ o.isCells = true) : KeepsOthers W W' :=
  ⟨hg.size, fun k o hk ho => (hg.block k (Array.getElem?_eq_some_iff.1 hk).1 (fun e => by
    obtain ⟨o', h1, h2⟩ := hr k e.symm
    rw [hk] at h1
    cases h1
    rw [ho] at h2
    cases h2)).trans hk⟩
omit [Tabs] in
theorem grown_setCell (w : World) (p : Addr) (v : Value) : w.grownBy (w.setCell p v) (some p.block) :=
  ⟨rfl, rfl, rfl, by simp, fun k _ hne => heap_setCell_other w p k v (fun e => hne (by rw [e]))⟩
omit [Tabs] in
theorem strCells_bytesL (s : ByteArray) : Lib.strCells s = (bytesL s).map (Value.int .u8) := by simp [Lib.strCells, bytesL]
/-- what holds at the head of each round of Derive. -/
def ID (B Bo Bn Bx Bs : Nat) (X : List Int) (name : ByteArray) (N : Nat) (pre : List B32) (W : World) : Prop :=
  (∃ g cap, Is W Bo 63 #[.slice (some ⟨g, 0, none⟩) (32 * pre.length) cap] ∧ W.ownsRowF B 5 1 (.slice (some ⟨g, 0, none⟩) (32 * pre.length) cap) (32 * pre.length) ((flatL pre).map (Value.int .u8))) ∧
  Is W Bn 3 #[.int .i64 (N : Int)] ∧ Is W Bx 189 (byA X) ∧ Is W Bs 9 #[.string name]

set_option maxRecDepth 100000 in
set_option maxHeartbeats 1000000 in
theorem derive_ok (key name : ByteArray) (N : Nat) (w : World) (hT : Tab w) (hk : key.size ≤ 1000) (hname : name.size ≤ 1000) (hN : N ≤ 4096) :
    Calls Tryz.prog 125 #[.string key, .string name, .int .i64 (N : Int)] w fun e w' => e = .returned (.tuple #[.string (drv (keyL key) name N), .int .i64 0]) ∧ Below w.heap.size w w' := by
  obtain ⟨i0, hi, hz0, hz1, hz2⟩ := info_parts infoByte
  have kb : ∀ w, Tab w → Calls Tryz.prog 140 #[.string key] w fun e w' => e = .returned (.agg (byA (keyL key))) ∧ Below w.heap.size w w' := fun w hT => keyBlock_any key w hT hk
  have hXl := keyL_length key
  generalize keyL key = X at *
  have KB := Lib.hid kb
  have HX := Lib.hid hXl
  clear kb hXl
  refine (callsIn_wide (n := 5)).1 ?_
  refine callsIn_of_wp_marks Tryz.func125 rfl trivial ?_ rfl
  simp only [Tryz.ntmps125, List.size_toArray, List.length_cons, List.length_nil, Nat.reduceAdd, Nat.reduceSub, Array.replicate_succ, Array.replicate_zero, List.push_toArray, List.append_toArray, List.nil_append, List.cons_append]
  have hN0 : (0 : Int) ≤ (N : Int) := by omega
  have hN1 : (N : Int) ≤ 4096 := by omega
  have d1 : decide (1000 < (key.size : Int)) = false := by simp; omega
  have d2 : decide (1000 < (name.size : Int)) = false := by simp; omega
  have d3 : decide ((N : Int) < 0) = false := by simp
  have d4 : decide (4096 < (N : Int)) = false := by simp; omega
  gi_wp2_with (first
    | (gi_at_make; refine wpListIn_make_own _ rfl _ _ 63 rfl w.heap.size 5 i0 (.int .u8 0) 1 Tryz.underlying63 hi hz0 hz1 .i64 .i64 ((N : Int) + 32) (N + 32) rfl rfl (by omega) (by rw [hz2]; omega) (by unfold maxLen; omega) (Nat.le_refl _) ?_; intro wm hown0 hg0; have hBm : Below w.heap.size w wm := (Below.refl _ _).grown hg0 (Nat.le_refl _) (fun k e => by cases e))
    | (refine ⟨trivial, ?_⟩; gi_at_call 140; refine (callsIn_wide.2 (KB.out _ (hT.below (hBm.alloc hBm.size _) hT.two))).mono ?_; rintro e W1 ⟨rfl, hb1⟩)
    | (refine ⟨trivial, ?_⟩; gi_at_call 139; refine (parts_in _ X name (N : Int) _).mono ?_; rintro e w' ⟨rfl, rfl⟩))
  have hBo : Below w.heap.size w (wm.alloc (.cells #[.slice (some ⟨w.heap.size, 0, none⟩) 0 (N + 32)] 63)) := hBm.alloc hBm.size _
  have hB1 : Below w.heap.size w W1 := hBo.trans (hb1.mono hBo.size)
  have iO1 : Is W1 wm.heap.size 63 #[.slice (some ⟨w.heap.size, 0, none⟩) 0 (N + 32)] := Is.below (Is.new wm _ _) hb1 (by simp)
  have hown1 : W1.ownsRowF w.heap.size 5 1 (.slice (some ⟨w.heap.size, 0, none⟩) 0 (N + 32)) 0 [] := rowF_kept ((World.ownsRowF_of hown0).alloc _) (grown_of_below hb1) (fun r e => by cases e)
  clear hb1 hBo hown0 hg0
  have iX := ((Is.new W1 189 (byA X)).alloc (.cells #[.string name] 9)).alloc (.cells #[.int .i64 (N : Int)] 3)
  have iS : Is (((W1.alloc (.cells (byA X) 189)).alloc (.cells #[.string name] 9)).alloc (.cells #[.int .i64 (N : Int)] 3)) (W1.heap.size + 1) 9 #[.string name] := Is.alloc (heap_alloc2_new W1 _ _) _
  have iN : Is (((W1.alloc (.cells (byA X) 189)).alloc (.cells #[.string name] 9)).alloc (.cells #[.int .i64 (N : Int)] 3)) (W1.heap.size + 1 + 1) 3 #[.int .i64 (N : Int)] := by
    have := Is.new ((W1.alloc (.cells (byA X) 189)).alloc (.cells #[.string name] 9)) 3 #[.int .i64 (N : Int)]
    simpa using this
  have iO := ((iO1.alloc (.cells (byA X) 189)).alloc (.cells #[.string name] 9)).alloc (.cells #[.int .i64 (N : Int)] 3)
  have hown := ((hown1.alloc (.cells (byA X) 189)).alloc (.cells #[.string name] 9)).alloc (.cells #[.int .i64 (N : Int)] 3)
  have hB0 : Below w.heap.size w (((W1.alloc (.cells (byA X) 189)).alloc (.cells #[.string name] 9)).alloc (.cells #[.int .i64 (N : Int)] 3)) := ((hB1.alloc hB1.size _).alloc (by have := hB1.size; simp; omega) _).alloc (by have := hB1.size; simp; omega) _
  have hsz : (((W1.alloc (.cells (byA X) 189)).alloc (.cells #[.string name] 9)).alloc (.cells #[.int .i64 (N : Int)] 3)).heap.size = W1.heap.size + 1 + 1 + 1 := by simp
  have hOl := iO1.lt
  change Code.wpIn _ _ _ _ _ _ (((W1.alloc (.cells (byA X) 189)).alloc (.cells #[.string name] 9)).alloc (.cells #[.int .i64 (N : Int)] 3))
  generalize ((W1.alloc (.cells (byA X) 189)).alloc (.cells #[.string name] 9)).alloc (.cells #[.int .i64 (N : Int)] 3) = W0 at *
  clear iO1 hown1 hB1
  obtain ⟨Bo, hBoe⟩ : ∃ Bo, Bo = wm.heap.size := ⟨_, rfl⟩
  obtain ⟨Bx, hBxe⟩ : ∃ Bx, Bx = W1.heap.size := ⟨_, rfl⟩
  obtain ⟨Bs, hBse⟩ : ∃ Bs, Bs = W1.heap.size + 1 := ⟨_, rfl⟩
  obtain ⟨Bn, hBne⟩ : ∃ Bn, Bn = W1.heap.size + 1 + 1 := ⟨_, rfl⟩
  have q1 : Bo < Bx := by omega
  have q2 : Bx < Bs := by omega
  have q3 : Bs < Bn := by omega
  have q4 : Bn < W0.heap.size := by omega
  rw [← hBne, ← hBse, ← hBxe, ← hBoe]
  rw [← hBoe] at iO
  rw [← hBxe] at iX
  rw [← hBse] at iS
  rw [← hBne] at iN
  have hOw0 : w.heap.size ≤ Bo := by rw [hBoe]; exact hBm.size
  have HBo := Lib.hid hOw0
  clear hBoe hBxe hBse hBne hsz hOl W1 hBm wm d1 d2 d3 d4 hOw0
  refine wpIn_rangeFunc_ownF rfl (by omega) (gf := 152) (lb := #[.pointer (some ⟨Bn, 0, none⟩), .pointer (some ⟨Bx, 0, none⟩), .pointer (some ⟨Bs, 0, none⟩)]) rfl trivial (enters_of Tryz.func152 (by kernel_rfl) rfl)
    (parts_stops _ (by omega) w.heap.size Bn Bx Bs hT.two X HX.out name hname N hN W0 (hT.below hB0 hT.two) iN iX iS)
    (fun h1 h2 => ⟨h1.1.trans h2.1, h2.2.1.trans h1.2.1, h2.2.2.1.trans h1.2.2.1, h2.2.2.2.trans h1.2.2.2⟩)
    (fun W l o o' hl h1 h2 h3 => ⟨belowK_b hB0.size W l o o' hl h1 h2 h3, World.putObj_heap_other (by omega), World.putObj_heap_other (by omega), World.putObj_heap_other (by omega)⟩) (Below.refl _ _) (fun _ => rfl)
    (fun pre W => ID w.heap.size Bo Bn Bx Bs X name N pre W ∧ Below w.heap.size w W)
    (fun _ _ _ => False)
    (OwnFrom.and (fun s A B row hs hg hr => by
      obtain ⟨⟨g, cap, h1, h2⟩, h3, h4, h5⟩ := hs
      exact ⟨⟨g, cap, h1.keptD hg (fun r e => (hr r e).2), rowF_kept h2 hg (fun r e => (hr r e).2)⟩, h3.keptD hg (fun r e => (hr r e).2), h4.keptD hg (fun r e => (hr r e).2), h5.keptD hg (fun r e => (hr r e).2)⟩) (ownFrom_below (Nat.le_refl _) hB0.size))
    (fun _ _ _ _ _ hs _ _ => hs)
    ⟨⟨⟨_, _, iO, hown⟩, iN, iX, iS⟩, hB0⟩
    (fun x => { tmps := #[.string key, .string name, .int .i64 (N : Int), undef, undef, undef, .string ⟨#[]⟩, .int .i64 0, .pointer (some ⟨Bo, 0, none⟩), .string x.1, .string key, .int .i64 (key.size : Int), .bool false, .bool false, .string name, .int .i64 (name.size : Int), .bool false, .bool false, .bool false, .int .i64 (N : Int), .bool false, .bool false, .bool false, .int .i64 (N : Int), .bool false, .bool false, .int .i64 (N : Int), .int .i64 ((N : Int) + 32), .slice (some ⟨w.heap.size, 0, none⟩) 0 (N + 32), .string key, .agg (byA X), .string name, .int .i64 (N : Int), .func (.func 152) #[] #[.pointer (some ⟨Bn, 0, none⟩), .pointer (some ⟨Bx, 0, none⟩), .pointer (some ⟨Bs, 0, none⟩)], .string x.1, undef, undef, undef, undef, undef, undef, undef], defers := [] }) ?assign ?body ?done ?stop
  case assign =>
    intro l x W K hK
    gi_wp2
    exact hK
  case body =>
    rintro l pre x W ⟨⟨⟨g, cap, jO, hw⟩, jN, jX, jS⟩, hB⟩ hpl
    have hTW : Tab W := hT.below hB hT.two
    have c0 := jO.cell 0
    have nO := Lib.ownBlock_neF hw jO (by decide)
    have nN := Lib.ownBlock_neF hw jN (by decide)
    have nX := Lib.ownBlock_neF hw jX (by decide)
    have nS := Lib.ownBlock_neF hw jS (by decide)
    have hx2 := x.2
    have hkd := Lib.ownsRowF_kind hw
    have hlt := hw.lt
    obtain ⟨L, hL⟩ : ∃ L, L = 32 * pre.length := ⟨_, rfl⟩
    have hL2 : L ≤ 4096 := by omega
    rw [← hL] at c0 jO hw nO nN nX nS hkd hlt
    have HX2 := Lib.hid hx2
    have HL := Lib.hid hL
    clear hx2 hTW hL
    gi_wp2_with (gi_at_builtin; refine Lib.wpListIn_append_own_stringF _ rfl _ _ 63 9 rfl w.heap.size 5 i0 Tryz.underlying63 Tryz.underlying9 hi hz0 hz1 hz2 (.slice (some ⟨g, 0, none⟩) L cap) _ _ rfl hw x.1 rfl (by rw [HX2.out]; unfold maxLen; omega) (by rw [HX2.out]; omega) hB.size ?_; intro v' w3 hw3 hg3 _; rw [HX2.out] at hw3; obtain ⟨g', cap', rfl⟩ := rowF_form hw3 (by omega); have k3 : Is w3 Bo 63 #[.slice (some ⟨g, 0, none⟩) L cap] := (hg3.block Bo jO.lt (Ne.symm nO)).trans jO; have c3 := k3.cell 0; have f3 := k3.frozen 0)
    have m3 := Lib.ownBlock_neF hw3 k3 (by decide)
    have hBw : Below w.heap.size W w3 := (Below.refl _ _).grown hg3 hB.size (fun k e => (hlt k e).1)
    have hk1 : KeepsOthers W w3 := keeps_of_grown hg3 (fun r e => by obtain ⟨c, fz, h⟩ := hkd r e; exact ⟨_, h, rfl⟩)
    have sN : SameAtD Bn W w3 := hg3.block Bn jN.lt (Ne.symm nN)
    have sX : SameAtD Bx W w3 := hg3.block Bx jX.lt (Ne.symm nX)
    have sS : SameAtD Bs W w3 := hg3.block Bs jS.lt (Ne.symm nS)
    have hOw : w.heap.size ≤ Bo := HBo.out
    have tN : SameAtD Bn w3 (w3.setCell ⟨Bo, 0, none⟩ (.slice (some ⟨g', 0, none⟩) (L + 32) cap')) := heap_setCell_other _ _ _ _ (by show Bn ≠ Bo; omega)
    have tX : SameAtD Bx w3 (w3.setCell ⟨Bo, 0, none⟩ (.slice (some ⟨g', 0, none⟩) (L + 32) cap')) := heap_setCell_other _ _ _ _ (by show Bx ≠ Bo; omega)
    have tS : SameAtD Bs w3 (w3.setCell ⟨Bo, 0, none⟩ (.slice (some ⟨g', 0, none⟩) (L + 32) cap')) := heap_setCell_other _ _ _ _ (by show Bs ≠ Bo; omega)
    have eL : 32 * (pre ++ [x]).length = L + 32 := by rw [HL.out, List.length_append, List.length_singleton]; omega
    have hw4 : (w3.setCell ⟨Bo, 0, none⟩ (.slice (some ⟨g', 0, none⟩) (L + 32) cap')).ownsRowF w.heap.size 5 1 (.slice (some ⟨g', 0, none⟩) (L + 32) cap') (L + 32) ((flatL (pre ++ [x])).map (Value.int .u8)) := by
      rw [flatL_snoc, List.map_append, ← strCells_bytesL]
      exact hw3.kept (grown_setCell _ _ _) (.inr m3)
    refine ⟨hk1.trans (KeepsOthers.setCell _ _ _), ⟨hBw.setCell hOw _, tN.trans sN, tX.trans sX, tS.trans sS⟩, ⟨⟨⟨g', cap', ?_, ?_⟩, (tN.trans sN).trans jN, (tX.trans sX).trans jX, (tS.trans sS).trans jS⟩, (hB.trans hBw).setCell hOw _⟩⟩
    · rw [eL]
      exact k3.set 0 _
    · rw [eL]
      exact hw4
  case done =>
    rintro D ys W hD rfl ⟨⟨⟨g, cap, jO, hw⟩, jN, jX, jS⟩, hB⟩ hK
    rw [prts_length] at jO hw
    obtain ⟨L, hL⟩ : ∃ L, L = 32 * ((N + 31) / 32) := ⟨_, rfl⟩
    have hL2 : N ≤ L := by omega
    rw [← hL] at jO hw
    have hd : drv X name N = strOfNums ((flatL (prts X name ((N + 31) / 32))).take N) := rfl
    have hfl : (flatL (prts X name ((N + 31) / 32))).length = L := by rw [flatL_length, prts_length, hL]
    generalize flatL (prts X name ((N + 31) / 32)) = fl at *
    have hcap : L ≤ cap := by
      rcases hw.2 with ⟨h, _⟩ | ⟨g2, cap2, cur2, fz2, h, _, _, _, h2, _⟩
      · cases h
      · cases h; exact h2
    have hcv := run_convert_bytes_arg (P := Tryz.prog) W 63 5 Tryz.underlying63 Tryz.underlying5 g 0 N cap (fl.take N) (by rw [List.length_take, hfl]; omega) (fun i hi => by
      have h1 := hw.cells rfl i (.int .u8 ((fl.take N).getD i 0)) (by
        rw [List.getElem?_map, List.getElem?_eq_getElem (by omega), List.getD_eq_getElem?_getD, List.getElem?_take, if_pos hi, List.getElem?_eq_getElem (by omega)]
        rfl)
      have hadd : (⟨g, 0, none⟩ : Addr).add i = ⟨g, 0 + i, none⟩ := Addr.add_mid g 0 i
      rw [hadd] at h1
      exact h1) 9 Tryz.underlying9
    rw [← hd] at hcv
    generalize hdd : drv X name N = dd at hcv hd
    have HDD := Lib.hid hdd
    clear hdd
    have HL := Lib.hid hL
    have HFL := Lib.hid hfl
    have HD := Lib.hid hd
    clear hL hfl hd
    have c0 := jO.cell 0
    have hc1 : (N : Int) ≤ (cap : Int) := by omega
    gi_wp2
    refine ⟨by simp, .inl ⟨_, _, rfl, run_takeDeferred hK, ?_⟩⟩
    refine ⟨.tuple #[.string dd, .int .i64 0], by simp [results, Tryz.results125, go_sem], by rw [HDD.out], ?_⟩
    exact hB.trans (belowK_b (w := w) (Nat.le_refl _) W D _ _ (by have := hB0.size; omega) hK rfl rfl)
  case stop =>
    rintro D c pre W _ _ h _
    exact h.elim
end Go.Proofs.YtfgdcpolfekgjaaGreat
namespace Go.Proofs.YtfgdcpolfekgjaaGreat
open Go.RowKit
variable [Tabs]

set_option maxHeartbeats 1000000 in
omit [Tabs] in
theorem atAdd (g : Nat) (v : Int) (w : World) (h0 : w.cell? ⟨g, 0, none⟩ = some (.int .i64 v)) (f0 : w.frozen? ⟨g, 0, none⟩ = false) (h1 : 0 ≤ v) (h2 : v < 9223372036854775807) :
    Calls Tryz.prog 155 #[.pointer (some ⟨g, 0, none⟩), .int .i64 1] w fun e w' => e = .returned (.int .i64 (v + 1)) ∧ w' = w.setCell ⟨g, 0, none⟩ (.int .i64 (v + 1)) := by
  have hadd := run_call_add (P := Tryz.prog) Tryz.func161 (by kernel_rfl) (by kernel_rfl) (by kernel_rfl) .i64 (by kernel_rfl) (y := 1) (s := v + 1) h0 f0 (by simp [go_sem, IntWalk.i64_in (v + 1) (by omega)])
  go_enter Tryz.func155, Tryz.ntmps155
  go_wp2
  go_ret
  exact ⟨rfl, rfl⟩
set_option maxHeartbeats 1000000 in
omit [Tabs] in
theorem atLoad (g : Nat) (v : Int) (w : World) (h0 : w.cell? ⟨g, 0, none⟩ = some (.int .i64 v)) :
    Calls Tryz.prog 156 #[.pointer (some ⟨g, 0, none⟩)] w fun e w' => e = .returned (.int .i64 v) ∧ w = w' := by
  have hld := run_call_load (P := Tryz.prog) Tryz.func162 (by kernel_rfl) (by kernel_rfl) (by kernel_rfl) .i64 (by kernel_rfl) h0
  go_enter Tryz.func156, Tryz.ntmps156
  go_wp2
  go_ret
  exact ⟨rfl, rfl⟩

/-- all bytes' unlikenesses, put together. -/
def orX (a b : ByteArray) (k : Nat) : Int := (List.range k).foldl (fun u j => bits BinOp.or IntKind.u8 u (bits BinOp.xor IntKind.u8 (bt a j) (bt b j))) 0
omit [Tabs] in
theorem orX_succ (a b : ByteArray) (k : Nat) : orX a b (k + 1) = bits BinOp.or IntKind.u8 (orX a b k) (bits BinOp.xor IntKind.u8 (bt a k) (bt b k)) := by
  simp [orX, List.range_succ]
omit [Tabs] in
theorem xor_bd {x y : Int} (hx : 0 ≤ x ∧ x < 256) (hy : 0 ≤ y ∧ y < 256) : (0 ≤ bits BinOp.xor IntKind.u8 x y ∧ bits BinOp.xor IntKind.u8 x y < 256) ∧ (bits BinOp.xor IntKind.u8 x y = 0 ↔ x = y) := by
  rw [u8_xor x y hx.1 hx.2 hy.1 hy.2]
  have h : x.toNat ^^^ y.toNat < 2 ^ 8 := Nat.xor_lt_two_pow (by omega) (by omega)
  refine ⟨by omega, ?_⟩
  constructor
  · intro e
    have e' : x.toNat ^^^ y.toNat = 0 := by omega
    have e2 : (x.toNat ^^^ y.toNat) ^^^ y.toNat = 0 ^^^ y.toNat := by rw [e']
    rw [Nat.xor_assoc, Nat.xor_self, Nat.xor_zero, Nat.zero_xor] at e2
    omega
  · rintro rfl
    simp
omit [Tabs] in
theorem or_bd {x y : Int} (hx : 0 ≤ x ∧ x < 256) (hy : 0 ≤ y ∧ y < 256) : (0 ≤ bits BinOp.or IntKind.u8 x y ∧ bits BinOp.or IntKind.u8 x y < 256) ∧ (bits BinOp.or IntKind.u8 x y = 0 ↔ x = 0 ∧ y = 0) := by
  rw [u8_or x y hx.1 hx.2 hy.1 hy.2]
  have h : x.toNat ||| y.toNat < 2 ^ 8 := Nat.or_lt_two_pow (by omega) (by omega)
  refine ⟨by omega, ?_⟩
  have h1 : x.toNat ≤ x.toNat ||| y.toNat := Nat.left_le_or
  have h2 : y.toNat ≤ x.toNat ||| y.toNat := Nat.right_le_or
  constructor
  · intro e
    omega
  · rintro ⟨rfl, rfl⟩
    rfl
omit [Tabs] in
theorem orX_bd (a b : ByteArray) (k : Nat) : (0 ≤ orX a b k ∧ orX a b k < 256) ∧ (orX a b k = 0 ↔ ∀ j, j < k → bt a j = bt b j) := by
  induction k with
  | zero => exact ⟨by simp [orX], by simp [orX]⟩
  | succ k ih =>
    obtain ⟨hb, he⟩ := ih
    have hx := xor_bd (bt_bd a k) (bt_bd b k)
    have ho := or_bd hb hx.1
    rw [orX_succ]
    refine ⟨ho.1, ?_⟩
    rw [ho.2, he, hx.2]
    constructor
    · rintro ⟨h1, h2⟩ j hj
      rcases (by omega : j < k ∨ j = k) with h | rfl
      · exact h1 j h
      · exact h2
    · exact fun h => ⟨fun j hj => h j (by omega), h k (by omega)⟩
omit [Tabs] in
theorem same_bytes (a b : ByteArray) (h : a.size = b.size) : (∀ j, j < a.size → bt a j = bt b j) ↔ a = b := by
  constructor
  · intro hj
    apply ByteArray.ext
    apply Array.ext (by exact h)
    intro i h1 h2
    have := hj i h1
    rw [← bt_get (s := a) h1, ← bt_get (s := b) h2] at this
    have e : (a[i]).toNat = (b[i]).toNat := by omega
    exact UInt8.toNat_inj.1 e
  · rintro rfl _ _
    rfl
/-- are two texts of one length the same? -/
def eqB (a b : ByteArray) : Bool := orX a b a.size == 0
omit [Tabs] in
theorem eqB_true (a : ByteArray) : eqB a a = true := by
  rw [eqB, beq_iff_eq, (orX_bd a a a.size).2]
  exact fun _ _ => rfl
omit [Tabs] in
theorem eqB_false {a b : ByteArray} (h : a.size = b.size) (hn : a ≠ b) : eqB a b = false := by
  rw [eqB, beq_eq_false_iff_ne, Ne, (orX_bd a b a.size).2, same_bytes a b h]
  exact hn

set_option maxRecDepth 100000 in
set_option maxHeartbeats 1000000 in
omit [Tabs] in
theorem msame_yes (a b : ByteArray) (w : World) (h : a.size = b.size) (ha : a.size ≤ maxLen) :
    Calls Tryz.prog 144 #[.string a, .string b] w fun e w' => e = .returned (.tuple #[.bool (eqB a b), .int .i64 (a.size : Int)]) ∧ Below w.heap.size w w' := by
  unfold maxLen at ha
  have hne : ((a.size : Int) != (b.size : Int)) = false := by rw [h]; simp
  have H := Lib.hid h
  clear h
  go_enter Tryz.func144, Tryz.ntmps144
  go_wp2
  clear hne
  go_loopw [7, 16] (fun u i wr => ∃ k : Nat, k ≤ a.size ∧ i = .int .i64 k ∧ u = .int .u8 (orX a b k) ∧ Is wr w.heap.size 207 #[.int .i64 k] ∧ Below w.heap.size w wr)
    (fun _ i _ => a.size - (intOf i).toNat)
  case atStart => exact ⟨0, by omega, rfl, rfl, Is.new w _ _, (Below.refl _ _).alloc (Nat.le_refl _) _⟩
  case round =>
    obtain ⟨k, hk, rfl, rfl, hI, hB⟩ := hrel
    by_cases hlt : k < a.size
    · have hlb : k < b.size := by have := H.out; omega
      have ga := bt_get hlt
      have gb := bt_get hlb
      have hs := orX_succ a b k
      generalize orX a b k = u at *
      have HSU := Lib.hid hs
      clear hs
      have hi1 : (0 : Int) ≤ (k : Int) := by omega
      have hi2 : (k : Int) < (a.size : Int) := by omega
      have hi3 : (k : Int) < (b.size : Int) := by omega
      go_wp2
      go_quiet (fail)
      go_wp2_with fail
      refine (atAdd w.heap.size (k : Int) _ ((hI.drewN _).cell 0) ((hI.drewN _).frozen 0) (by omega) (by omega)).mono ?_
      rintro e w1 ⟨rfl, rfl⟩
      go_wp2
      go_roundw
      case rel => exact ⟨k + 1, by omega, by go_num, by rw [HSU.out], by
        rw [show ((k + 1 : Nat) : Int) = (k : Int) + 1 by omega]
        exact Is.drewN (hI.set 0 (.int .i64 ((k : Int) + 1))) _, (belowN hB _).setCell (Nat.le_refl _) _⟩
      case measure => simp [intOf]; omega
    · have hkk : k = a.size := by omega
      subst hkk
      have he : eqB a b = (orX a b a.size == 0) := rfl
      generalize orX a b a.size = u at he ⊢
      have HE := Lib.hid he
      clear he
      go_wp2_with fail
      refine (atLoad w.heap.size (a.size : Int) _ (hI.cell 0)).mono ?_
      rintro e w1 ⟨rfl, rfl⟩
      go_wp2
      go_ret2
      exact ⟨by rw [HE.out]; rfl, hB⟩
end Go.Proofs.YtfgdcpolfekgjaaGreat
namespace Go.Proofs.YtfgdcpolfekgjaaGreat
open Go.RowKit
variable [Tabs]

end Go.Proofs.YtfgdcpolfekgjaaGreat

