/-
  Contracts of aes.each and aes.sum, over words of four bytes. Conditions: the arguments are bytes; what each is handed is a function of bytes that leaves all that was there as it was.
  Contracts of the blocks' own steps in package aes (eachByte, eachColumn, plus, shifted, squareOf, text), over lists of 16 bytes. Conditions: the arguments are bytes.
  Contracts of (square).plus and (square).shifted. Conditions: the arguments are bytes.
  Contract of (square).shifted. Conditions: a block of bytes; moved by 1 or 3.
  Contracts of aes.squareOf and (square).text. Conditions: a text of 16 bytes; a block of bytes.
  Plain facts on the words of a key, expanded, by their number; a made slice of words as a block of noughts. Nothing of the program but its types stands here.
  Contract of aes.expanded. Conditions: a key of 16 or 32 bytes.
  Contract of aes.squaresOf. Conditions: the words of a key, expanded, lie in a block of their own.
-/
import Derived.Test.YtfgdcpolfekgjaaGreatGFld
import Derived.Test.YtfgdcpolfekgjaaGreatGPl
import Derived.Test.YtfgdcpolfekgjaaGreatGKit
import Derived.Shelf.Abstract
import Derived.RegionTactic
import Derived.Lib.UnsafeStr
import Derived.OwnWalk
import Derived.Laws.BytesArg
namespace Go.Proofs.YtfgdcpolfekgjaaGreat
open Go.RowKit Go.Shelf

/-- bytes as cells. -/
def nA (X : List Nat) : Array Value := (X.map fun x : Nat => Value.int .u8 (x : Int)).toArray
theorem nA_size (X : List Nat) : (nA X).size = X.length := by simp [nA]
theorem nA_one (X : List Nat) : (nA X).all (·.oneCell') = true := by
  rw [Array.all_eq_true_iff_forall_mem]
  intro v hv
  simp only [nA, List.mem_toArray, List.mem_map] at hv
  obtain ⟨x, _, rfl⟩ := hv
  rfl
theorem nA_get (X : List Nat) (j : Nat) (h : j < X.length) : (nA X)[j]? = some (.int .u8 ((X.getD j 0 : Nat) : Int)) := by
  simp [nA, h]
theorem nA_set (X : List Nat) (j : Nat) (x : Nat) : (nA X).setIfInBounds j (.int .u8 (x : Int)) = nA (X.set j x) := by
  simp [nA, List.map_set]
theorem C4.nA (x : C4) : nA x.nl = x.arr := rfl

theorem belowD {B : Nat} {a w : World} (h : Below B a w) : Below B a w.drew := ⟨h.os, h.tape, h.output, h.size, h.block⟩
/-- a call of a byte that tells f, and leaves all that was there as it was. -/
def ByteFn (F : FuncId) (f : Nat → Nat) : Prop := Enters Tryz.prog F ∧ ∀ (a : Nat) (w : World), a < 256 → f a < 256 ∧ Calls Tryz.prog F #[.int .u8 (a : Int)] w fun e w' => e = .returned (.int .u8 ((f a : Nat) : Int)) ∧ Below w.heap.size w w'
theorem sub_fn : ByteFn 178 subN := ⟨enters_of Tryz.func178 (by kernel_rfl) rfl, fun a w ha => ⟨(inv_at ha).s, fsub_any a w ha⟩⟩
/-- the first k mapped. -/
def mapTo (f : Nat → Nat) (X : List Nat) (k : Nat) : List Nat := (X.take k).map f ++ X.drop k
theorem mapTo_zero (f : Nat → Nat) (X : List Nat) : mapTo f X 0 = X := by simp [mapTo]
theorem mapTo_all (f : Nat → Nat) (X : List Nat) (k : Nat) (h : X.length ≤ k) : mapTo f X k = X.map f := by
  rw [mapTo, List.take_of_length_le h, List.drop_of_length_le h, List.append_nil]
theorem mapTo_length (f : Nat → Nat) (X : List Nat) (k : Nat) : (mapTo f X k).length = X.length := by
  rw [mapTo, List.length_append, List.length_map, List.length_take, List.length_drop]; omega
theorem mapTo_get (f : Nat → Nat) (X : List Nat) (k : Nat) : (mapTo f X k).getD k 0 = X.getD k 0 := by
  rw [mapTo, List.getD_eq_getElem?_getD, List.getD_eq_getElem?_getD]
  by_cases h : k < X.length
  · rw [List.getElem?_append_right (by simp; omega)]
    simp only [List.length_map, List.length_take, List.getElem?_drop]
    congr 2; omega
  · rw [List.getElem?_eq_none (by simp; omega), List.getElem?_eq_none (by omega)]
theorem mapTo_succ (f : Nat → Nat) (X : List Nat) (k : Nat) (h : k < X.length) : (mapTo f X k).set k (f (X.getD k 0)) = mapTo f X (k + 1) := by
  have hd : X.drop k = X[k] :: X.drop (k + 1) := List.drop_eq_getElem_cons h
  have ht : X.take (k + 1) = X.take k ++ [X[k]] := List.take_succ_eq_append_getElem h
  rw [mapTo, mapTo, ht, hd, List.set_append_right _ _ (by simp; omega)]
  have e : k - ((X.take k).map f).length = 0 := by simp; omega
  rw [e]
  simp only [List.map_append, List.map_cons, List.map_nil, List.set_cons_zero, List.append_assoc, List.cons_append, List.nil_append]
  rw [List.getD_eq_getElem?_getD, List.getElem?_eq_getElem h]
  rfl

theorem getD_mem_lt {X : List Nat} (hb : ∀ x ∈ X, x < 256) (k : Nat) : X.getD k 0 < 256 := getD_lt hb k
theorem nA4_info {X : List Nat} (h : X.length = 4) : (Tryz.prog.info? 160).map (·.size) = some (nA X).size := by rw [nA_size, h]; kernel_rfl

set_option maxRecDepth 100000 in
set_option maxHeartbeats 1000000 in
theorem each_any (F : FuncId) (f : Nat → Nat) (hF : ByteFn F f) (X : List Nat) (w : World) (hX : X.length = 4) (hb : ∀ x ∈ X, x < 256) :
    Calls Tryz.prog 194 #[.agg (nA X), .func (.func F) #[] #[]] w fun e w' => e = .returned (.agg (nA (X.map f))) ∧ Below w.heap.size w w' := by
  have HX := Lib.hid hX
  have hz : #[Value.int .u8 0, .int .u8 0, .int .u8 0, .int .u8 0] = nA [0, 0, 0, 0] := rfl
  clear hX
  go_enter Tryz.func194, Tryz.ntmps194
  go_wp2
  clear hz
  have iX : Is ((w.alloc (.cells (nA X) 160)).alloc (.cells (nA [0, 0, 0, 0]) 160)) w.heap.size 160 (nA X) := (Is.new w _ _).alloc _
  have iR : Is ((w.alloc (.cells (nA X) 160)).alloc (.cells (nA [0, 0, 0, 0]) 160)) (w.heap.size + 1) 160 (nA [0, 0, 0, 0]) := heap_alloc2_new w _ _
  have hB0 : Below w.heap.size w ((w.alloc (.cells (nA X) 160)).alloc (.cells (nA [0, 0, 0, 0]) 160)) := ((Below.refl _ _).alloc (Nat.le_refl _) _).alloc (by simp) _
  generalize ((w.alloc (.cells (nA X) 160)).alloc (.cells (nA [0, 0, 0, 0]) 160)) = W0 at *
  obtain ⟨Bx, hBx⟩ : ∃ Bx, Bx = w.heap.size := ⟨_, rfl⟩
  obtain ⟨Br, hBr⟩ : ∃ Br, Br = w.heap.size + 1 := ⟨_, rfl⟩
  rw [← hBr, ← hBx]
  rw [← hBx] at iX
  rw [← hBr] at iR
  have q1 : w.heap.size ≤ Bx := by omega
  have q2 : w.heap.size ≤ Br := by omega
  have q3 : Br ≠ Bx := by omega
  clear hBx hBr
  go_loopw [6] (fun i wr => ∃ k : Nat, k ≤ 4 ∧ i = .int .i64 (k : Int) ∧ Is wr Bx 160 (nA (mapTo f X k)) ∧ Is wr Br 160 (nA [0, 0, 0, 0]) ∧ Below w.heap.size w wr)
    (fun i _ => 4 - (intOf i).toNat)
  case atStart => exact ⟨0, by omega, rfl, by rw [mapTo_zero]; exact iX, iR, hB0⟩
  case round =>
    clear iX iR hB0
    obtain ⟨k, hk, rfl, iX, iR, hB⟩ := hrel
    by_cases hlt : k < 4
    · have hi1 : (k : Int) < 4 := by omega
      have hkl : k < X.length := by rw [HX.out]; exact hlt
      have cX : wr.cell? ⟨Bx, k, none⟩ = some (.int .u8 ((X.getD k 0 : Nat) : Int)) := by rw [iX.cell k, nA_get _ _ (by rw [mapTo_length]; exact hkl), mapTo_get]
      have hC := (hF.2 (X.getD k 0) wr (getD_mem_lt hb k)).2
      have hE := hF.1 #[.int .u8 ((X.getD k 0 : Nat) : Int)]
      have hst := mapTo_succ f X k hkl
      generalize X.getD k 0 = x at *
      have HC := Lib.hid hC
      have HST := Lib.hid hst
      clear hst hC hkl
      go_wp2_with fail
      refine HC.out.mono ?_
      rintro e w1 ⟨rfl, h1⟩
      have jX := iX.below h1 iX.lt
      have jR := iR.below h1 iR.lt
      have jB : Below w.heap.size w w1 := hB.trans (h1.mono hB.size)
      have d1 : w1.cell? ⟨Bx, k, none⟩ = some (.int .u8 (x : Int)) := (h1.cell (p := ⟨Bx, k, none⟩) iX.lt).trans cX
      have e1 := jX.frozen k
      generalize hfx : f x = y at *
      clear h1 cX
      go_wp2
      go_roundw
      case rel =>
        refine ⟨k + 1, by omega, by go_num, ?_, jR.far (p := ⟨Bx, k, none⟩) q3 _, jB.setCell q1 _⟩
        have := jX.set k (.int .u8 (y : Int))
        rw [nA_set, HST.out] at this
        exact this
      case measure => simp [intOf]; omega
    · have hi1 : ¬ (k : Int) < 4 := by omega
      obtain rfl : k = 4 := by omega
      rw [mapTo_all _ _ _ (by rw [HX.out]; omega)] at iX
      have hl : (X.map f).length = 4 := by rw [List.length_map, HX.out]
      have hone := nA_one (X.map f)
      have hin := nA4_info hl
      have hs2 : (nA (X.map f)).size = 4 := by rw [nA_size, hl]
      generalize hR : nA (X.map f) = R at *
      have HR := Lib.hid hR
      clear hR
      go_wp2_with (first
        | (refine wpList_load_row rfl 160 _ rfl Bx rfl _ _ _ _ iX Tryz.underlying160 rfl hin ?_)
        | (refine wpList_store_row rfl 160 _ _ rfl Br R rfl rfl _ _ iR hin (by rw [hs2]; rfl) hone ?_))
      refine bodyPost_ret (results_cell_row Tryz.results194 _ _ Br 160 R (0, 0) _ rfl (iR.row _) Tryz.underlying160 rfl hin) rfl ⟨by rw [HR.out], ?_⟩
      exact belowRow hB q2 _

/-- the first k put together. -/
def xorTo (X Y : List Nat) (k : Nat) : List Nat := xorB (X.take k) (Y.take k) ++ X.drop k
theorem xorTo_zero (X Y : List Nat) : xorTo X Y 0 = X := by simp [xorTo, xorB]
theorem xorTo_all (X Y : List Nat) (k : Nat) (h : X.length ≤ k) (hY : Y.length ≤ k) : xorTo X Y k = xorB X Y := by
  rw [xorTo, List.take_of_length_le h, List.take_of_length_le hY, List.drop_of_length_le h, List.append_nil]
theorem xorTo_length (X Y : List Nat) (k : Nat) (h : X.length = Y.length) : (xorTo X Y k).length = X.length := by
  simp [xorTo, xorB, ← h]; omega
theorem xorTo_get (X Y : List Nat) (k : Nat) (h : X.length = Y.length) (hk : k < X.length) : (xorTo X Y k).getD k 0 = X.getD k 0 := by
  rw [xorTo, getD_app_right (by simp [xorB, ← h]; omega)]
  simp only [xorB, List.length_zipWith, List.length_take, ← h, Nat.min_self]
  rw [List.getD_eq_getElem?_getD, List.getElem?_drop, List.getD_eq_getElem?_getD]
  congr 2; omega
theorem xorTo_succ (X Y : List Nat) (k : Nat) (h : X.length = Y.length) (hk : k < X.length) : (xorTo X Y k).set k (X.getD k 0 ^^^ Y.getD k 0) = xorTo X Y (k + 1) := by
  have hd : X.drop k = X[k] :: X.drop (k + 1) := List.drop_eq_getElem_cons hk
  have ht : X.take (k + 1) = X.take k ++ [X[k]] := List.take_succ_eq_append_getElem hk
  have ht2 : Y.take (k + 1) = Y.take k ++ [Y[k]'(by omega)] := List.take_succ_eq_append_getElem (by omega)
  have hl : (xorB (X.take k) (Y.take k)).length = k := by simp [xorB, ← h]; omega
  rw [xorTo, xorTo, ht, ht2, hd, List.set_append_right _ _ (by omega), hl, Nat.sub_self, List.set_cons_zero]
  rw [show xorB (X.take k ++ [X[k]]) (Y.take k ++ [Y[k]'(by omega)]) = xorB (X.take k) (Y.take k) ++ [X[k] ^^^ Y[k]'(by omega)] by
    unfold xorB; rw [List.zipWith_append (by simp; omega)]; rfl]
  rw [List.getD_eq_getElem?_getD, List.getElem?_eq_getElem hk, List.getD_eq_getElem?_getD, List.getElem?_eq_getElem (by omega : k < Y.length), List.append_assoc]
  rfl

set_option maxRecDepth 100000 in
set_option maxHeartbeats 1000000 in
theorem sum_any (X Y : List Nat) (w : World) (hX : X.length = 4) (hY : Y.length = 4) (hb : ∀ x ∈ X, x < 256) (hc : ∀ x ∈ Y, x < 256) :
    Calls Tryz.prog 198 #[.agg (nA X), .agg (nA Y)] w fun e w' => e = .returned (.agg (nA (xorB X Y))) ∧ Below w.heap.size w w' := by
  have hz : #[Value.int .u8 0, .int .u8 0, .int .u8 0, .int .u8 0] = nA [0, 0, 0, 0] := rfl
  have HX := Lib.hid hX
  have HY := Lib.hid hY
  have HXY := Lib.hid (hX.trans hY.symm)
  clear hX hY
  go_enter Tryz.func198, Tryz.ntmps198
  go_wp2
  clear hz
  have iX : Is (((w.alloc (.cells (nA X) 160)).alloc (.cells (nA Y) 160)).alloc (.cells (nA [0, 0, 0, 0]) 160)) w.heap.size 160 (nA X) := ((Is.new w _ _).alloc _).alloc _
  have iY : Is (((w.alloc (.cells (nA X) 160)).alloc (.cells (nA Y) 160)).alloc (.cells (nA [0, 0, 0, 0]) 160)) (w.heap.size + 1) 160 (nA Y) := Is.alloc (heap_alloc2_new w _ _) _
  have iR : Is (((w.alloc (.cells (nA X) 160)).alloc (.cells (nA Y) 160)).alloc (.cells (nA [0, 0, 0, 0]) 160)) (w.heap.size + 1 + 1) 160 (nA [0, 0, 0, 0]) := by
    have := Is.new ((w.alloc (.cells (nA X) 160)).alloc (.cells (nA Y) 160)) 160 (nA [0, 0, 0, 0])
    simpa using this
  have hB0 : Below w.heap.size w (((w.alloc (.cells (nA X) 160)).alloc (.cells (nA Y) 160)).alloc (.cells (nA [0, 0, 0, 0]) 160)) := (((Below.refl _ _).alloc (Nat.le_refl _) _).alloc (by simp) _).alloc (by simp; omega) _
  generalize (((w.alloc (.cells (nA X) 160)).alloc (.cells (nA Y) 160)).alloc (.cells (nA [0, 0, 0, 0]) 160)) = W0 at *
  obtain ⟨Bx, hBx⟩ : ∃ Bx, Bx = w.heap.size := ⟨_, rfl⟩
  obtain ⟨By, hBy⟩ : ∃ By, By = w.heap.size + 1 := ⟨_, rfl⟩
  obtain ⟨Br, hBr⟩ : ∃ Br, Br = w.heap.size + 1 + 1 := ⟨_, rfl⟩
  rw [← hBr, ← hBy, ← hBx]
  rw [← hBx] at iX
  rw [← hBy] at iY
  rw [← hBr] at iR
  have q1 : w.heap.size ≤ Bx := by omega
  have q2 : w.heap.size ≤ Br := by omega
  have q3 : Br ≠ Bx := by omega
  have q4 : By ≠ Bx := by omega
  clear hBx hBr hBy
  go_loopw [6] (fun i wr => ∃ k : Nat, k ≤ 4 ∧ i = .int .i64 (k : Int) ∧ Is wr Bx 160 (nA (xorTo X Y k)) ∧ Is wr By 160 (nA Y) ∧ Is wr Br 160 (nA [0, 0, 0, 0]) ∧ Below w.heap.size w wr)
    (fun i _ => 4 - (intOf i).toNat)
  case atStart => exact ⟨0, by omega, rfl, by rw [xorTo_zero]; exact iX, iY, iR, hB0⟩
  case round =>
    clear iX iY iR hB0
    obtain ⟨k, hk, rfl, iX, iY, iR, hB⟩ := hrel
    by_cases hlt : k < 4
    · have hi1 : (k : Int) < 4 := by omega
      have hkl : k < X.length := by rw [HX.out]; exact hlt
      have hyl : k < Y.length := by rw [HY.out]; exact hlt
      have cX : wr.cell? ⟨Bx, k, none⟩ = some (.int .u8 ((X.getD k 0 : Nat) : Int)) := by rw [iX.cell k, nA_get _ _ (by rw [xorTo_length _ _ _ HXY.out]; exact hkl), xorTo_get _ _ _ HXY.out hkl]
      have cY : wr.cell? ⟨By, k, none⟩ = some (.int .u8 ((Y.getD k 0 : Nat) : Int)) := by rw [iY.cell k, nA_get _ _ hyl]
      have fX := iX.frozen k
      have hx := u8_xor_nat _ _ (getD_mem_lt hb k) (getD_mem_lt hc k)
      have hst := xorTo_succ X Y k HXY.out hkl
      generalize X.getD k 0 = x at *
      generalize Y.getD k 0 = y at *
      have hst2 := nA_set (xorTo X Y k) k (x ^^^ y)
      rw [hst, ← hx] at hst2
      have HST := Lib.hid hst2
      clear hst hst2 hx hkl hyl
      go_wp2
      go_region
      go_wp2
      go_roundw
      case rel =>
        refine ⟨k + 1, by omega, by go_num, ?_, iY.far (p := ⟨Bx, k, none⟩) q4 _, iR.far (p := ⟨Bx, k, none⟩) q3 _, belowD (hB.setCell (p := ⟨Bx, k, none⟩) q1 _)⟩
        have := iX.set k (.int .u8 (bits .xor .u8 (x : Int) (y : Int)))
        rw [HST.out] at this
        exact this
      case measure => simp [intOf]; omega
    · have hi1 : ¬ (k : Int) < 4 := by omega
      obtain rfl : k = 4 := by omega
      rw [xorTo_all _ _ _ (by rw [HX.out]; omega) (by rw [HY.out]; omega)] at iX
      have hl : (xorB X Y).length = 4 := by simp [xorB, HX.out, HY.out]
      have hone := nA_one (xorB X Y)
      have hin := nA4_info hl
      have hs2 : (nA (xorB X Y)).size = 4 := by rw [nA_size, hl]
      generalize hR : nA (xorB X Y) = R at *
      have HR := Lib.hid hR
      clear hR
      go_wp2_with (first
        | (refine wpList_load_row rfl 160 _ rfl Bx rfl _ _ _ _ iX Tryz.underlying160 rfl hin ?_)
        | (refine wpList_store_row rfl 160 _ _ rfl Br R rfl rfl _ _ iR hin (by rw [hs2]; rfl) hone ?_))
      refine bodyPost_ret (results_cell_row Tryz.results198 _ _ Br 160 R (0, 0) _ rfl (iR.row _) Tryz.underlying160 rfl hin) rfl ⟨by rw [HR.out], ?_⟩
      exact belowRow hB q2 _
end Go.Proofs.YtfgdcpolfekgjaaGreat
namespace Go.Proofs.YtfgdcpolfekgjaaGreat
open Go.RowKit Go.Shelf

/-- the first n of D, then what stands behind in S. -/
def thru (D S : List Nat) (n : Nat) : List Nat := D.take n ++ S.drop n
section
variable {D S : List Nat} {n : Nat}
theorem thru_zero (D S : List Nat) : thru D S 0 = S := by simp [thru]
theorem thru_all (h : D.length = S.length) (hn : S.length ≤ n) : thru D S n = D := by
  rw [thru, List.take_of_length_le (by omega), List.drop_of_length_le hn, List.append_nil]
theorem thru_len (h : D.length = S.length) : (thru D S n).length = S.length := by
  rw [thru, List.length_append, List.length_take, List.length_drop]; omega
theorem thru_drop (h : D.length = S.length) (hn : n ≤ S.length) : (thru D S n).drop n = S.drop n := by
  rw [thru, List.drop_append_of_le_length (by rw [List.length_take]; omega), List.drop_of_length_le (by rw [List.length_take]; omega), List.nil_append]
theorem thru_set (h : D.length = S.length) (hn : n < S.length) : (thru D S n).set n (D.getD n 0) = thru D S (n + 1) := by
  have hd : S.drop n = S[n] :: S.drop (n + 1) := List.drop_eq_getElem_cons hn
  have ht : D.take (n + 1) = D.take n ++ [D[n]'(by omega)] := List.take_succ_eq_append_getElem (by omega)
  have hl : (D.take n).length = n := by rw [List.length_take]; omega
  rw [thru, thru, ht, hd, List.set_append_right _ _ (by omega), hl, Nat.sub_self, List.set_cons_zero, List.append_assoc]
  rw [List.getD_eq_getElem?_getD, List.getElem?_eq_getElem (by omega : n < D.length)]
  rfl
end
/-- bytes as a list of cells. -/
def nL (X : List Nat) : List Value := X.map fun x : Nat => Value.int .u8 (x : Int)
theorem nL_arr (X : List Nat) : (nL X).toArray = nA X := rfl
theorem nA_list (X : List Nat) : (nA X).toList = nL X := rfl
theorem nL_len (X : List Nat) : (nL X).length = X.length := by simp [nL]
theorem nA_range {w : World} {g : Nat} {t : TypeId} {X : List Nat} (h : Is w g t (nA X)) (o n : Nat) : w.rangeAt g o (nL ((X.drop o).take n)) := by
  have := World.rangeAt_of_block h o n
  rw [show ((nA X).extract o (o + n)).toList = nL ((X.drop o).take n) by simp [nA, nL, List.map_take, List.map_drop, List.extract_eq_take_drop]] at this
  exact this
theorem nA_there {w : World} {g : Nat} {t : TypeId} {X : List Nat} (h : Is w g t (nA X)) (o n : Nat) (hn : o + n ≤ X.length) : w.there g o n := fun j hj => ⟨by rw [h.cell, nA_get _ _ (by omega)]; rfl, h.frozen _⟩

/-- cells set one behind the other. -/
def setAll (cs : Array Value) (o : Nat) : List Value → Array Value
  | [] => cs
  | v :: r => setAll (cs.setIfInBounds o v) (o + 1) r
theorem Is.setCells {g : Nat} {t : TypeId} : ∀ (vs : List Value) {w : World} {cs : Array Value} (o : Nat), Is w g t cs → Is (w.setCells g o vs) g t (setAll cs o vs)
  | [], _, _, _, h => h
  | _ :: r, _, _, o, h => Is.setCells r (o + 1) (h.set o _)
theorem Is.farCells {g b : Nat} {t : TypeId} {cs : Array Value} (hb : g ≠ b) : ∀ (vs : List Value) {w : World} (o : Nat), Is w g t cs → Is (w.setCells b o vs) g t cs
  | [], _, _, h => h
  | _ :: r, _, o, h => Is.farCells hb r (o + 1) (h.far (p := ⟨b, o, none⟩) hb _)
theorem belowCells {B b : Nat} {a : World} (hb : B ≤ b) : ∀ (vs : List Value) {w : World} (o : Nat), Below B a w → Below B a (w.setCells b o vs)
  | [], _, _, h => h
  | _ :: r, _, o, h => belowCells hb r (o + 1) (h.setCell (p := ⟨b, o, none⟩) hb _)
theorem setAll_thru {D S : List Nat} (h : D.length = S.length) : ∀ (m n : Nat), n + m ≤ S.length → setAll (nA (thru D S n)) n (nL ((D.drop n).take m)) = nA (thru D S (n + m))
  | 0, n, _ => by simp [nL, setAll]
  | m + 1, n, hn => by
    have hd : (D.drop n).take (m + 1) = D.getD n 0 :: (D.drop (n + 1)).take m := by
      rw [List.drop_eq_getElem_cons (by omega : n < D.length), List.take_succ_cons, List.getD_eq_getElem?_getD, List.getElem?_eq_getElem (by omega : n < D.length)]; rfl
    rw [hd]
    show setAll ((nA (thru D S n)).setIfInBounds n (.int .u8 ((D.getD n 0 : Nat) : Int))) (n + 1) (nL _) = _
    rw [nA_set, thru_set h (by omega), setAll_thru h m (n + 1) (by omega), show n + 1 + m = n + (m + 1) by omega]

/-- four bytes out of a block. -/
theorem wpList_load_nA {P : Program} {ops : Array Oper} {rest : List Oper} {op : Oper} {a : Act} {w : World} {Q : Exit → Act → World → Prop} (hgd : op.guard = none) (ty : TypeId) (x : Operand) (ho : op.op = .load ty x)
    (b o : Nat) (hx : a.eval x = .pointer (some ⟨b, o, none⟩)) (X : List Nat) (d : TypeDesc) (hc : w.rangeAt b o (nL X))
    (hu : P.underlying ty = some d) (hd : d.isRow = true) (hi : (P.info? ty).map (·.size) = some X.length)
    (h : wpList P ops Q rest (a.put op.dst (.agg (nA X))) w) : wpList P ops Q (op :: rest) a w :=
  wpList_load_mid hgd ty x ho b o hx (nL X) d hc hu hd (by rw [nL_len]; exact hi) h
/-- bytes into a block. -/
theorem wpList_store_nA {P : Program} {ops : Array Oper} {rest : List Oper} {op : Oper} {a : Act} {w : World} {Q : Exit → Act → World → Prop} (hgd : op.guard = none) (ty : TypeId) (x y : Operand) (ho : op.op = .store ty x y)
    (b o : Nat) (X : List Nat) (hx : a.eval x = .pointer (some ⟨b, o, none⟩)) (hy : a.eval y = .agg (nA X))
    (ht : w.there b o X.length) (hi : (P.info? ty).map (·.size) = some X.length)
    (h : wpList P ops Q rest (a.put op.dst undef) (w.setCells b o (nL X))) : wpList P ops Q (op :: rest) a w :=
  wpList_store_mid hgd ty x y ho b o (nA X) hx hy (by rw [nA_size]; exact ht) (by rw [nA_size]; exact hi) (nA_one X) h

theorem info4 : (Tryz.prog.info? 160).map (·.size) = some 4 := by kernel_rfl
theorem info16 : (Tryz.prog.info? 233).map (·.size) = some 16 := by kernel_rfl
/-- sixteen noughts. -/
def zer16 : List Nat := List.replicate 16 0
/-- column k. -/
def colL (S : List Nat) (k : Nat) : List Nat := (S.drop (k * 4)).take 4
theorem colL_len {S : List Nat} (h : S.length = 16) {k : Nat} (hk : k < 4) : (colL S k).length = 4 := by
  rw [colL, List.length_take, List.length_drop]; omega
theorem colL_lt {S : List Nat} (h : ∀ x ∈ S, x < 256) (k : Nat) : ∀ x ∈ colL S k, x < 256 := fun x hx => h x (List.mem_of_mem_drop (List.mem_of_mem_take hx))
theorem col_thru {D S : List Nat} (hD : D.length = S.length) (hS : S.length = 16) {k : Nat} (hk : k < 4) : colL (thru D S (k * 4)) k = colL S k := by
  rw [colL, colL, thru_drop hD (by omega)]

set_option maxRecDepth 100000 in
set_option maxHeartbeats 1000000 in
theorem eachByte_any (F : FuncId) (f : Nat → Nat) (hF : ByteFn F f) (S : List Nat) (w : World) (hS : S.length = 16) (hb : ∀ x ∈ S, x < 256) :
    Calls Tryz.prog 177 #[.agg (nA S), .func (.func F) #[] #[]] w fun e w' => e = .returned (.agg (nA (S.map f))) ∧ Below w.heap.size w w' := by
  have HS := Lib.hid hS
  have hz : #[Value.int .u8 0, .int .u8 0, .int .u8 0, .int .u8 0, .int .u8 0, .int .u8 0, .int .u8 0, .int .u8 0, .int .u8 0, .int .u8 0, .int .u8 0, .int .u8 0, .int .u8 0, .int .u8 0, .int .u8 0, .int .u8 0] = nA zer16 := rfl
  have HD := Lib.hid (show (S.map f).length = S.length by simp)
  clear hS
  go_enter Tryz.func177, Tryz.ntmps177
  go_wp2
  clear hz
  have iX : Is ((w.alloc (.cells (nA S) 233)).alloc (.cells (nA zer16) 233)) w.heap.size 233 (nA S) := (Is.new w _ _).alloc _
  have iR : Is ((w.alloc (.cells (nA S) 233)).alloc (.cells (nA zer16) 233)) (w.heap.size + 1) 233 (nA zer16) := heap_alloc2_new w _ _
  have hB0 : Below w.heap.size w ((w.alloc (.cells (nA S) 233)).alloc (.cells (nA zer16) 233)) := ((Below.refl _ _).alloc (Nat.le_refl _) _).alloc (by simp) _
  generalize ((w.alloc (.cells (nA S) 233)).alloc (.cells (nA zer16) 233)) = W0 at *
  obtain ⟨Bx, hBx⟩ : ∃ Bx, Bx = w.heap.size := ⟨_, rfl⟩
  obtain ⟨Br, hBr⟩ : ∃ Br, Br = w.heap.size + 1 := ⟨_, rfl⟩
  rw [← hBr, ← hBx]
  rw [← hBx] at iX
  rw [← hBr] at iR
  have q1 : w.heap.size ≤ Bx := by omega
  have q2 : w.heap.size ≤ Br := by omega
  have q3 : Br ≠ Bx := by omega
  clear hBx hBr
  go_loopw [6] (fun i wr => ∃ k : Nat, k ≤ 4 ∧ i = .int .i64 (k : Int) ∧ Is wr Bx 233 (nA (thru (S.map f) S (k * 4))) ∧ Is wr Br 233 (nA zer16) ∧ Below w.heap.size w wr)
    (fun i _ => 4 - (intOf i).toNat)
  case atStart => exact ⟨0, by omega, rfl, by rw [Nat.zero_mul, thru_zero]; exact iX, iR, hB0⟩
  case round =>
    clear iX iR hB0
    obtain ⟨k, hk, rfl, iX, iR, hB⟩ := hrel
    by_cases hlt : k < 4
    · have hi1 : (k : Int) < 4 := by omega
      have hR : wr.rangeAt Bx (k * 4) (nL (colL S k)) := by
        have := nA_range iX (k * 4) 4
        rw [← colL, col_thru HD.out HS.out hlt] at this
        exact this
      have hcl := colL_len HS.out hlt
      have HE := Lib.hid (each_any F f hF (colL S k) wr hcl (colL_lt hb k))
      have HCL := Lib.hid hcl
      have hmap : (colL S k).map f = colL (S.map f) k := by simp [colL, List.map_take, List.map_drop]
      have HMP := Lib.hid hmap
      clear hcl hmap
      go_wp2_with (first
        | (refine wpList_load_nA rfl 160 _ rfl Bx (k * 4) rfl (colL S k) _ hR Tryz.underlying160 rfl (by rw [HCL.out]; exact info4) ?_)
        | (go_at_call 194; refine HE.out.mono ?_; rintro e w1 ⟨rfl, h1⟩; have jX := iX.below h1 iX.lt; have jR := iR.below h1 iR.lt; have jB : Below w.heap.size w w1 := hB.trans (h1.mono hB.size))
        | (refine wpList_store_nA rfl 160 _ _ rfl Bx (k * 4) ((colL S k).map f) rfl rfl (nA_there jX _ _ (by rw [thru_len HD.out, HS.out, List.length_map, HCL.out]; omega)) (by rw [List.length_map, HCL.out]; exact info4) ?_))
      go_roundw
      case rel =>
        refine ⟨k + 1, by omega, by go_num, ?_, jR.farCells q3 _ _, belowCells q1 _ _ jB⟩
        have := jX.setCells (nL ((colL S k).map f)) (k * 4)
        rw [HMP.out, colL, setAll_thru HD.out _ _ (by rw [HS.out]; omega), show k * 4 + 4 = (k + 1) * 4 by omega] at this
        rw [HMP.out]
        exact this
      case measure => simp [intOf]; omega
    · have hi1 : ¬ (k : Int) < 4 := by omega
      obtain rfl : k = 4 := by omega
      rw [thru_all HD.out (by rw [HS.out]; omega)] at iX
      have hl : (S.map f).length = 16 := by rw [List.length_map, HS.out]
      have hone := nA_one (S.map f)
      have hin : (Tryz.prog.info? 233).map (·.size) = some (nA (S.map f)).size := by rw [nA_size, hl]; exact info16
      have hs2 : (nA (S.map f)).size = 16 := by rw [nA_size, hl]
      generalize hR : nA (S.map f) = R at *
      have HR := Lib.hid hR
      clear hR
      go_wp2_with (first
        | (refine wpList_load_row rfl 233 _ rfl Bx rfl _ _ _ _ iX Tryz.underlying233 rfl hin ?_)
        | (refine wpList_store_row rfl 233 _ _ rfl Br R rfl rfl _ _ iR hin (by rw [hs2]; rfl) hone ?_))
      refine bodyPost_ret (results_cell_row Tryz.results177 _ _ Br 233 R (0, 0) _ rfl (iR.row _) Tryz.underlying233 rfl hin) rfl ⟨by rw [HR.out], ?_⟩
      exact belowRow hB q2 _
/-- a word: four bytes. -/
structure Wd (X : List Nat) : Prop where
  len : X.length = 4
  lt : ∀ x ∈ X, x < 256
/-- a call of a word that tells f, and leaves all that was there as it was. -/
def ColFn (F : FuncId) (f : List Nat → List Nat) : Prop := Enters Tryz.prog F ∧ ∀ (X : List Nat) (w : World), Wd X → Wd (f X) ∧ Calls Tryz.prog F #[.agg (nA X)] w fun e w' => e = .returned (.agg (nA (f X))) ∧ Below w.heap.size w w'
/-- a word mixed, and what undoes it. -/
def mixW (X : List Nat) : List Nat := (mixC (colN X 0)).nl
theorem Wd.col {X : List Nat} (h : Wd X) : nA X = (colN X 0).arr := by
  match X, h.len with
  | [a, b, c, d], _ => rfl
theorem mix_fn : ColFn 182 mixW := ⟨enters_of Tryz.func182 (by kernel_rfl) rfl, fun X w h => ⟨⟨rfl, C4.nl_lt (mixC_ok (colN_ok h.lt 0))⟩, by
  rw [h.col]
  exact mix_any (colN X 0) w (colN_ok h.lt 0)⟩⟩
/-- each column by f. -/
def colsL (f : List Nat → List Nat) (S : List Nat) : List Nat := f (colL S 0) ++ f (colL S 1) ++ f (colL S 2) ++ f (colL S 3)
section
variable {f : List Nat → List Nat} (hf : ∀ X, Wd X → (f X).length = 4) {S : List Nat} (hS : S.length = 16) (hb : ∀ x ∈ S, x < 256)
include hf hS hb
theorem colsL_len : (colsL f S).length = 16 := by
  simp only [colsL, List.length_append, hf _ ⟨colL_len hS (by omega : 0 < 4), colL_lt hb 0⟩, hf _ ⟨colL_len hS (by omega : 1 < 4), colL_lt hb 1⟩, hf _ ⟨colL_len hS (by omega : 2 < 4), colL_lt hb 2⟩, hf _ ⟨colL_len hS (by omega : 3 < 4), colL_lt hb 3⟩]
theorem colL_cols {k : Nat} (hk : k < 4) : colL (colsL f S) k = f (colL S k) := by
  have h0 := hf _ ⟨colL_len hS (by omega : 0 < 4), colL_lt hb 0⟩
  have h1 := hf _ ⟨colL_len hS (by omega : 1 < 4), colL_lt hb 1⟩
  have h2 := hf _ ⟨colL_len hS (by omega : 2 < 4), colL_lt hb 2⟩
  have h3 := hf _ ⟨colL_len hS (by omega : 3 < 4), colL_lt hb 3⟩
  have e : ∀ T, colL T k = (T.drop (k * 4)).take 4 := fun _ => rfl
  rw [e]
  unfold colsL
  rcases (by omega : k = 0 ∨ k = 1 ∨ k = 2 ∨ k = 3) with rfl | rfl | rfl | rfl
  · rw [List.append_assoc, List.append_assoc, Nat.zero_mul, List.drop_zero, List.take_left' h0]
  · rw [List.append_assoc, List.append_assoc, List.drop_left' h0, List.take_left' h1]
  · rw [List.append_assoc, List.drop_left' (by rw [List.length_append, h0, h1]), List.take_left' h2]
  · rw [List.drop_left' (by rw [List.length_append, List.length_append, h0, h1, h2]), List.take_of_length_le (by omega)]
end
theorem cols_mix {S : List Nat} (h : S.length = 16) : colsL mixW S = mixL S := by
  obtain ⟨a0, a1, a2, a3, a4, a5, a6, a7, a8, a9, a10, a11, a12, a13, a14, a15, rfl⟩ := list16 h
  rfl
set_option maxRecDepth 100000 in
set_option maxHeartbeats 1000000 in
theorem eachColumn_any (F : FuncId) (f : List Nat → List Nat) (hF : ColFn F f) (S : List Nat) (w : World) (hS : S.length = 16) (hb : ∀ x ∈ S, x < 256) :
    Calls Tryz.prog 181 #[.agg (nA S), .func (.func F) #[] #[]] w fun e w' => e = .returned (.agg (nA (colsL f S))) ∧ Below w.heap.size w w' := by
  have HS := Lib.hid hS
  have hz : #[Value.int .u8 0, .int .u8 0, .int .u8 0, .int .u8 0, .int .u8 0, .int .u8 0, .int .u8 0, .int .u8 0, .int .u8 0, .int .u8 0, .int .u8 0, .int .u8 0, .int .u8 0, .int .u8 0, .int .u8 0, .int .u8 0] = nA zer16 := rfl
  have HD := Lib.hid ((colsL_len (fun X h => (hF.2 X w h).1.len) hS hb).trans hS.symm)
  clear hS
  go_enter Tryz.func181, Tryz.ntmps181
  go_wp2
  clear hz
  have iX : Is ((w.alloc (.cells (nA S) 233)).alloc (.cells (nA zer16) 233)) w.heap.size 233 (nA S) := (Is.new w _ _).alloc _
  have iR : Is ((w.alloc (.cells (nA S) 233)).alloc (.cells (nA zer16) 233)) (w.heap.size + 1) 233 (nA zer16) := heap_alloc2_new w _ _
  have hB0 : Below w.heap.size w ((w.alloc (.cells (nA S) 233)).alloc (.cells (nA zer16) 233)) := ((Below.refl _ _).alloc (Nat.le_refl _) _).alloc (by simp) _
  generalize ((w.alloc (.cells (nA S) 233)).alloc (.cells (nA zer16) 233)) = W0 at *
  obtain ⟨Bx, hBx⟩ : ∃ Bx, Bx = w.heap.size := ⟨_, rfl⟩
  obtain ⟨Br, hBr⟩ : ∃ Br, Br = w.heap.size + 1 := ⟨_, rfl⟩
  rw [← hBr, ← hBx]
  rw [← hBx] at iX
  rw [← hBr] at iR
  have q1 : w.heap.size ≤ Bx := by omega
  have q2 : w.heap.size ≤ Br := by omega
  have q3 : Br ≠ Bx := by omega
  clear hBx hBr
  go_loopw [6] (fun i wr => ∃ k : Nat, k ≤ 4 ∧ i = .int .i64 (k : Int) ∧ Is wr Bx 233 (nA (thru (colsL f S) S (k * 4))) ∧ Is wr Br 233 (nA zer16) ∧ Below w.heap.size w wr)
    (fun i _ => 4 - (intOf i).toNat)
  case atStart => exact ⟨0, by omega, rfl, by rw [Nat.zero_mul, thru_zero]; exact iX, iR, hB0⟩
  case round =>
    clear iX iR hB0
    obtain ⟨k, hk, rfl, iX, iR, hB⟩ := hrel
    by_cases hlt : k < 4
    · have hi1 : (k : Int) < 4 := by omega
      have hR : wr.rangeAt Bx (k * 4) (nL (colL S k)) := by
        have := nA_range iX (k * 4) 4
        rw [← colL, col_thru HD.out HS.out hlt] at this
        exact this
      have hcl := colL_len HS.out hlt
      have hwd : Wd (colL S k) := ⟨hcl, colL_lt hb k⟩
      have HE := Lib.hid (hF.2 (colL S k) wr hwd).2
      have HFL := Lib.hid (hF.2 (colL S k) wr hwd).1.len
      have hen := hF.1 #[.agg (nA (colL S k))]
      have HCL := Lib.hid hcl
      have hmap : f (colL S k) = colL (colsL f S) k := (colL_cols (fun X h => (hF.2 X w h).1.len) HS.out hb hlt).symm
      have HMP := Lib.hid hmap
      clear hcl hmap hwd
      go_wp2_with (first
        | (refine wpList_load_nA rfl 160 _ rfl Bx (k * 4) rfl (colL S k) _ hR Tryz.underlying160 rfl (by rw [HCL.out]; exact info4) ?_)
        | (refine HE.out.mono ?_; rintro e w1 ⟨rfl, h1⟩; have jX := iX.below h1 iX.lt; have jR := iR.below h1 iR.lt; have jB : Below w.heap.size w w1 := hB.trans (h1.mono hB.size))
        | (refine wpList_store_nA rfl 160 _ _ rfl Bx (k * 4) (f (colL S k)) rfl rfl (nA_there jX _ _ (by rw [thru_len HD.out, HS.out, HFL.out]; omega)) (by rw [HFL.out]; exact info4) ?_))
      go_roundw
      case rel =>
        refine ⟨k + 1, by omega, by go_num, ?_, jR.farCells q3 _ _, belowCells q1 _ _ jB⟩
        have := jX.setCells (nL (f (colL S k))) (k * 4)
        rw [HMP.out, colL, setAll_thru HD.out _ _ (by rw [HS.out]; omega), show k * 4 + 4 = (k + 1) * 4 by omega] at this
        rw [HMP.out]
        exact this
      case measure => simp [intOf]; omega
    · have hi1 : ¬ (k : Int) < 4 := by omega
      obtain rfl : k = 4 := by omega
      rw [thru_all HD.out (by rw [HS.out]; omega)] at iX
      have hl : (colsL f S).length = 16 := by rw [HD.out, HS.out]
      have hone := nA_one (colsL f S)
      have hin : (Tryz.prog.info? 233).map (·.size) = some (nA (colsL f S)).size := by rw [nA_size, hl]; exact info16
      have hs2 : (nA (colsL f S)).size = 16 := by rw [nA_size, hl]
      generalize hR : nA (colsL f S) = R at *
      have HR := Lib.hid hR
      clear hR
      go_wp2_with (first
        | (refine wpList_load_row rfl 233 _ rfl Bx rfl _ _ _ _ iX Tryz.underlying233 rfl hin ?_)
        | (refine wpList_store_row rfl 233 _ _ rfl Br R rfl rfl _ _ iR hin (by rw [hs2]; rfl) hone ?_))
      refine bodyPost_ret (results_cell_row Tryz.results181 _ _ Br 233 R (0, 0) _ rfl (iR.row _) Tryz.underlying233 rfl hin) rfl ⟨by rw [HR.out], ?_⟩
      exact belowRow hB q2 _
end Go.Proofs.YtfgdcpolfekgjaaGreat
namespace Go.Proofs.YtfgdcpolfekgjaaGreat
open Go.RowKit Go.Shelf

theorem col_xor (S K : List Nat) (k : Nat) : xorB (colL S k) (colL K k) = colL (xorB S K) k := by
  rw [colL, colL, colL, xorB, xorB, List.drop_zipWith, List.take_zipWith]

set_option maxRecDepth 100000 in
set_option maxHeartbeats 1000000 in
theorem plus_any (S K : List Nat) (w : World) (hS : Blk S) (hK : Blk K) :
    Calls Tryz.prog 183 #[.agg (nA S), .agg (nA K)] w fun e w' => e = .returned (.agg (nA (xorB S K))) ∧ Below w.heap.size w w' := by
  have hz : #[Value.int .u8 0, .int .u8 0, .int .u8 0, .int .u8 0, .int .u8 0, .int .u8 0, .int .u8 0, .int .u8 0, .int .u8 0, .int .u8 0, .int .u8 0, .int .u8 0, .int .u8 0, .int .u8 0, .int .u8 0, .int .u8 0] = nA zer16 := rfl
  have HS := Lib.hid hS.len
  have HD := Lib.hid ((hS.xor hK).len.trans hS.len.symm)
  have HK := Lib.hid hK.len
  have HSK := Lib.hid (hS.len.trans hK.len.symm)
  have hb := hS.lt
  have hc := hK.lt
  clear hS hK
  go_enter Tryz.func183, Tryz.ntmps183
  go_wp2
  clear hz
  have iX : Is (((w.alloc (.cells (nA S) 233)).alloc (.cells (nA K) 233)).alloc (.cells (nA zer16) 233)) w.heap.size 233 (nA S) := ((Is.new w _ _).alloc _).alloc _
  have iY : Is (((w.alloc (.cells (nA S) 233)).alloc (.cells (nA K) 233)).alloc (.cells (nA zer16) 233)) (w.heap.size + 1) 233 (nA K) := Is.alloc (heap_alloc2_new w _ _) _
  have iR : Is (((w.alloc (.cells (nA S) 233)).alloc (.cells (nA K) 233)).alloc (.cells (nA zer16) 233)) (w.heap.size + 1 + 1) 233 (nA zer16) := by
    have := Is.new ((w.alloc (.cells (nA S) 233)).alloc (.cells (nA K) 233)) 233 (nA zer16)
    simpa using this
  have hB0 : Below w.heap.size w (((w.alloc (.cells (nA S) 233)).alloc (.cells (nA K) 233)).alloc (.cells (nA zer16) 233)) := (((Below.refl _ _).alloc (Nat.le_refl _) _).alloc (by simp) _).alloc (by simp; omega) _
  generalize (((w.alloc (.cells (nA S) 233)).alloc (.cells (nA K) 233)).alloc (.cells (nA zer16) 233)) = W0 at *
  obtain ⟨Bx, hBx⟩ : ∃ Bx, Bx = w.heap.size := ⟨_, rfl⟩
  obtain ⟨By, hBy⟩ : ∃ By, By = w.heap.size + 1 := ⟨_, rfl⟩
  obtain ⟨Br, hBr⟩ : ∃ Br, Br = w.heap.size + 1 + 1 := ⟨_, rfl⟩
  rw [← hBr, ← hBy, ← hBx]
  rw [← hBx] at iX
  rw [← hBy] at iY
  rw [← hBr] at iR
  have q1 : w.heap.size ≤ Bx := by omega
  have q2 : w.heap.size ≤ Br := by omega
  have q3 : Br ≠ Bx := by omega
  have q4 : By ≠ Bx := by omega
  clear hBx hBr hBy
  go_loopw [6] (fun i wr => ∃ k : Nat, k ≤ 4 ∧ i = .int .i64 (k : Int) ∧ Is wr Bx 233 (nA (thru (xorB S K) S (k * 4))) ∧ Is wr By 233 (nA K) ∧ Is wr Br 233 (nA zer16) ∧ Below w.heap.size w wr)
    (fun i _ => 4 - (intOf i).toNat)
  case atStart => exact ⟨0, by omega, rfl, by rw [Nat.zero_mul, thru_zero]; exact iX, iY, iR, hB0⟩
  case round =>
    clear iX iY iR hB0
    obtain ⟨k, hk, rfl, iX, iY, iR, hB⟩ := hrel
    by_cases hlt : k < 4
    · have hi1 : (k : Int) < 4 := by omega
      have hi0 : (0 : Int) ≤ (k : Int) := by omega
      have hR : wr.rangeAt Bx (k * 4) (nL (colL S k)) := by
        have := nA_range iX (k * 4) 4
        rw [← colL, col_thru HD.out HS.out hlt] at this
        exact this
      have hR0 : wr.drew.rangeAt Bx (k * 4) (nL (colL S k)) := fun j v h => by rw [World.cell?_drew]; exact hR j v h
      have hR2 : wr.rangeAt By (k * 4) (nL (colL K k)) := nA_range iY (k * 4) 4
      have hcl := colL_len HS.out hlt
      have hcl2 := colL_len HK.out hlt
      have hE := fun w => sum_any (colL S k) (colL K k) w hcl hcl2 (colL_lt hb k) (colL_lt hc k)
      have hxl : (xorB (colL S k) (colL K k)).length = 4 := by simp [xorB, hcl, hcl2]
      have HXL := Lib.hid hxl
      have HMP := Lib.hid (col_xor S K k)
      have HE := Lib.hid hE
      have HCL := Lib.hid hcl
      have HCL2 := Lib.hid hcl2
      clear hcl hcl2 hE hxl
      go_wp2
      refine wp_region_held_drew (S := fun w' => w'.rangeAt By (k * 4) (nL (colL K k))) (by kernel_rfl) hR2 (fun hS => ?_)
      change wpAnyH _ _ (opsOf Tryz.f183 4) _ _ 10 (Array.replicate 10 false) _ _
      refine wpAnyH_pure (i := 0) (v := .int .i64 (k : Int)) (at_nth rfl) (by kernel_rfl) (by kernel_rfl) (by kernel_rfl) (fun _ _ _ h => h) (by kernel_rfl) (fun w hSw => by kernel_rfl) hS ?_
      simp only [Act.put]
      refine wpAnyH_pure (i := 1) (v := .int .i64 (k : Int)) (at_nth rfl) (by kernel_rfl) (by kernel_rfl) (by kernel_rfl) (fun _ _ _ h => h) (by kernel_rfl) (fun w hSw => by kernel_rfl) hS ?_
      simp only [Act.put]
      refine wpAnyH_pure (i := 2) (v := .pointer (some ⟨Bx, k * 4, none⟩)) (at_nth rfl) (by kernel_rfl) (by kernel_rfl) (by kernel_rfl) (fun _ _ _ h => h) (by kernel_rfl) (fun w hSw => by go_simp) hS ?_
      simp only [Act.put]
      refine wpAnyH_pure (i := 4) (v := .int .i64 (k : Int)) (at_nth rfl) (by kernel_rfl) (by kernel_rfl) (by kernel_rfl) (fun _ _ _ h => h) (by kernel_rfl) (fun w hSw => by kernel_rfl) hS ?_
      simp only [Act.put]
      refine wpAnyH_pure (i := 5) (v := .pointer (some ⟨By, k * 4, none⟩)) (at_nth rfl) (by kernel_rfl) (by kernel_rfl) (by kernel_rfl) (fun _ _ _ h => h) (by kernel_rfl) (fun w hSw => by go_simp) hS ?_
      simp only [Act.put]
      refine wpAnyH_take (i := 6) (v := .agg (nA (colL K k))) (at_nth rfl) (by kernel_rfl) (by kernel_rfl) (by kernel_rfl) (fun _ _ _ h => h) (yieldsIf_load_mid (by kernel_rfl) 160 (.tmp 14) rfl (By) (k * 4) rfl (nL (colL K k)) _ (fun _ h => h) Tryz.underlying160 rfl (by rw [nL_len, HCL2.out]; exact info4)) hS ?_
      simp only [Act.put]
      refine wpAnyH_loadmid (i := 3) (b := Bx) (off := k * 4) (cs := nL (colL S k)) (by kernel_rfl) (at_nth rfl) (by kernel_rfl) rfl (by kernel_rfl) hR0 Tryz.underlying160 rfl (by rw [nL_len, HCL.out]; exact info4) hS ?_
      rw [nL_arr]
      simp only [Act.put]
      refine wpAnyH_call (i := 7) (by kernel_rfl) (at_nth rfl) (by kernel_rfl) (fun w => by kernel_rfl) ((HE.out _).mono ?_)
      rintro e w1 ⟨rfl, h1⟩
      have jX : Is w1 Bx 233 (nA (thru (xorB S K) S (k * 4))) := Is.below (w := wr.drew) iX h1 iX.lt
      have jY : Is w1 By 233 (nA K) := Is.below (w := wr.drew) iY h1 iY.lt
      have jR : Is w1 Br 233 (nA zer16) := Is.below (w := wr.drew) iR h1 iR.lt
      have jB : Below w.heap.size w w1 := (belowD hB).trans (h1.mono hB.size)
      have hR3 : w1.rangeAt By (k * 4) (nL (colL K k)) := nA_range jY (k * 4) 4
      refine ⟨_, rfl, hR3, ?_⟩
      try simp only [Act.put]
      refine wpAnyH_pure (i := 8) (v := .pointer (some ⟨Bx, k * 4, none⟩)) (at_nth rfl) (by kernel_rfl) (by kernel_rfl) (by kernel_rfl) (fun _ _ _ h => h) (by kernel_rfl) (fun w hSw => by go_simp) hR3 ?_
      simp only [Act.put]
      have hth : w1.there Bx (k * 4) (nA (xorB (colL S k) (colL K k))).size := by rw [nA_size, HXL.out]; exact nA_there jX _ _ (by rw [thru_len HD.out, HS.out]; omega)
      have hi9 : (Tryz.prog.info? 160).map (·.size) = some (nA (xorB (colL S k) (colL K k))).size := by rw [nA_size, HXL.out]; exact info4
      have mX := jX.setCells (nL (xorB (colL S k) (colL K k))) (k * 4)
      rw [show setAll (nA (thru (xorB S K) S (k * 4))) (k * 4) (nL (xorB (colL S k) (colL K k))) = nA (thru (xorB S K) S ((k + 1) * 4)) by rw [HMP.out, colL, setAll_thru HD.out _ _ (by rw [HS.out]; omega), show k * 4 + 4 = (k + 1) * 4 by omega]] at mX
      have mY := jY.farCells q4 (nL (xorB (colL S k) (colL K k))) (k * 4)
      have mR := jR.farCells q3 (nL (xorB (colL S k) (colL K k))) (k * 4)
      have mB := belowCells q1 (nL (xorB (colL S k) (colL K k))) (k * 4) jB
      refine wpAnyH_storemid (i := 9) (b := Bx) (off := k * 4) (cs := nA (xorB (colL S k) (colL K k))) (by kernel_rfl) (at_nth rfl) (by kernel_rfl) rfl (by kernel_rfl) (by kernel_rfl) hth hi9 (nA_one _) (nA_range mY (k * 4) 4) ?_
      simp only [Act.put]
      rw [nA_list]
      generalize w1.setCells Bx (k * 4) (nL (xorB (colL S k) (colL K k))) = W2 at *
      refine wpAnyH_done (by kernel_rfl) ?_ _
      go_wp2
      go_roundw
      case rel => exact ⟨k + 1, by omega, by go_num, mX, mY, mR, mB⟩
      case measure => simp [intOf]; omega
    · have hi1 : ¬ (k : Int) < 4 := by omega
      obtain rfl : k = 4 := by omega
      rw [thru_all HD.out (by rw [HS.out]; omega)] at iX
      have hl : (xorB S K).length = 16 := by rw [HD.out, HS.out]
      have hone := nA_one (xorB S K)
      have hin : (Tryz.prog.info? 233).map (·.size) = some (nA (xorB S K)).size := by rw [nA_size, hl]; exact info16
      have hs2 : (nA (xorB S K)).size = 16 := by rw [nA_size, hl]
      generalize hR : nA (xorB S K) = R at *
      have HR := Lib.hid hR
      clear hR
      go_wp2_with (first
        | (refine wpList_load_row rfl 233 _ rfl Bx rfl _ _ _ _ iX Tryz.underlying233 rfl hin ?_)
        | (refine wpList_store_row rfl 233 _ _ rfl Br R rfl rfl _ _ iR hin (by rw [hs2]; rfl) hone ?_))
      refine bodyPost_ret (results_cell_row Tryz.results183 _ _ Br 233 R (0, 0) _ rfl (iR.row _) Tryz.underlying233 rfl hin) rfl ⟨by rw [HR.out], ?_⟩
      exact belowRow hB q2 _
end Go.Proofs.YtfgdcpolfekgjaaGreat
namespace Go.Proofs.YtfgdcpolfekgjaaGreat
open Go.RowKit Go.Shelf

theorem shiftL_len (S : List Nat) (b : Nat) : (shiftL S b).length = 16 := by simp [shiftL]
theorem shiftL_get (S : List Nat) (b c r : Nat) (hc : c < 4) (hr : r < 4) : (shiftL S b).getD (c * 4 + r) 0 = S.getD ((c + r * b) % 4 * 4 + r) 0 := by
  have h1 : (c * 4 + r) / 4 = c := by omega
  have h2 : (c * 4 + r) % 4 = r := by omega
  rw [shiftL, List.getD_eq_getElem?_getD, List.getElem?_map, List.getElem?_range (by omega)]
  simp only [Option.map_some, Option.getD_some]
  rw [h1, h2, Nat.mul_comm b r, Nat.mul_comm 4]

set_option maxRecDepth 100000 in
set_option maxHeartbeats 1000000 in
theorem shifted_any (S : List Nat) (b : Nat) (w : World) (hS : S.length = 16) (hb : b ≤ 3) :
    Calls Tryz.prog 179 #[.agg (nA S), .int .i64 (b : Int)] w fun e w' => e = .returned (.agg (nA (shiftL S b))) ∧ Below w.heap.size w w' := by
  have hz : #[Value.int .u8 0, .int .u8 0, .int .u8 0, .int .u8 0, .int .u8 0, .int .u8 0, .int .u8 0, .int .u8 0, .int .u8 0, .int .u8 0, .int .u8 0, .int .u8 0, .int .u8 0, .int .u8 0, .int .u8 0, .int .u8 0] = nA zer16 := rfl
  have HS := Lib.hid hS
  have HD := Lib.hid (show (shiftL S b).length = zer16.length by rw [shiftL_len]; rfl)
  have HZ := Lib.hid (show zer16.length = 16 from rfl)
  clear hS
  go_enter Tryz.func179, Tryz.ntmps179
  go_wp2
  clear hz
  have iX : Is (((w.alloc (.cells (nA S) 233)).alloc (.cells (nA zer16) 233)).alloc (.cells (nA zer16) 233)) w.heap.size 233 (nA S) := ((Is.new w _ _).alloc _).alloc _
  have iR : Is (((w.alloc (.cells (nA S) 233)).alloc (.cells (nA zer16) 233)).alloc (.cells (nA zer16) 233)) (w.heap.size + 1) 233 (nA zer16) := Is.alloc (heap_alloc2_new w _ _) _
  have iO : Is (((w.alloc (.cells (nA S) 233)).alloc (.cells (nA zer16) 233)).alloc (.cells (nA zer16) 233)) (w.heap.size + 1 + 1) 233 (nA zer16) := by
    have := Is.new ((w.alloc (.cells (nA S) 233)).alloc (.cells (nA zer16) 233)) 233 (nA zer16)
    simpa using this
  have hB0 : Below w.heap.size w (((w.alloc (.cells (nA S) 233)).alloc (.cells (nA zer16) 233)).alloc (.cells (nA zer16) 233)) := (((Below.refl _ _).alloc (Nat.le_refl _) _).alloc (by simp) _).alloc (by simp; omega) _
  generalize (((w.alloc (.cells (nA S) 233)).alloc (.cells (nA zer16) 233)).alloc (.cells (nA zer16) 233)) = W0 at *
  obtain ⟨Bx, hBx⟩ : ∃ Bx, Bx = w.heap.size := ⟨_, rfl⟩
  obtain ⟨Br, hBr⟩ : ∃ Br, Br = w.heap.size + 1 := ⟨_, rfl⟩
  obtain ⟨Bo, hBo⟩ : ∃ Bo, Bo = w.heap.size + 1 + 1 := ⟨_, rfl⟩
  rw [← hBo, ← hBr, ← hBx]
  rw [← hBx] at iX
  rw [← hBr] at iR
  rw [← hBo] at iO
  have q1 : w.heap.size ≤ Bo := by omega
  have q2 : w.heap.size ≤ Br := by omega
  have q3 : Br ≠ Bo := by omega
  have q4 : Bx ≠ Bo := by omega
  clear hBx hBr hBo
  go_loopw [8] (fun i wr => ∃ c : Nat, c ≤ 4 ∧ i = .int .i64 (c : Int) ∧ Is wr Bo 233 (nA (thru (shiftL S b) zer16 (c * 4))) ∧ Is wr Bx 233 (nA S) ∧ Is wr Br 233 (nA zer16) ∧ Below w.heap.size w wr)
    (fun i _ => 4 - (intOf i).toNat)
  case atStart => exact ⟨0, by omega, rfl, by rw [Nat.zero_mul, thru_zero]; exact iO, iX, iR, hB0⟩
  case round =>
    clear iX iO iR hB0
    obtain ⟨c, hc, rfl, iO, iX, iR, hB⟩ := hrel
    by_cases hlt : c < 4
    · have hi1 : (c : Int) < 4 := by omega
      go_wp2
      go_loopw [11] (fun i wr => ∃ r : Nat, r ≤ 4 ∧ i = .int .i64 (r : Int) ∧ Is wr Bo 233 (nA (thru (shiftL S b) zer16 (c * 4 + r))) ∧ Is wr Bx 233 (nA S) ∧ Is wr Br 233 (nA zer16) ∧ Below w.heap.size w wr)
        (fun i _ => 4 - (intOf i).toNat)
      case atStart => exact ⟨0, by omega, rfl, iO, iX, iR, hB⟩
      case round =>
        clear iX iO iR hB
        obtain ⟨r, hr, rfl, iO, iX, iR, hB⟩ := hrel
        by_cases hlt2 : r < 4
        · have hi2 : (r : Int) < 4 := by omega
          have hr0 : (0 : Int) ≤ (r : Int) := by omega
          have hc0 : (0 : Int) ≤ (c : Int) := by omega
          have hst := thru_set HD.out (n := c * 4 + r) (by rw [HZ.out]; omega)
          rw [shiftL_get S b c r hlt hlt2] at hst
          have hrb : r * b ≤ 9 := Nat.mul_le_mul (by omega : r ≤ 3) hb
          obtain ⟨m, hm⟩ : ∃ m, m = (c + r * b) % 4 := ⟨_, rfl⟩
          have hm4 : m < 4 := by omega
          rw [← hm] at hst
          have cX : wr.cell? ⟨Bx, m * 4 + r, none⟩ = some (.int .u8 ((S.getD (m * 4 + r) 0 : Nat) : Int)) := by rw [iX.cell, nA_get _ _ (by rw [HS.out]; omega)]
          have cO : (wr.cell? ⟨Bo, c * 4 + r, none⟩).isSome = true := by rw [iO.cell, nA_get _ _ (by rw [thru_len HD.out, HZ.out]; omega)]; rfl
          obtain ⟨vO, cO⟩ := Option.isSome_iff_exists.1 cO
          have fO := iO.frozen (c * 4 + r)
          have e1 : (r : Int) * (b : Int) = ((r * b : Nat) : Int) := by simp
          have e2 : (c : Int) + ((r * b : Nat) : Int) = ((c + r * b : Nat) : Int) := by simp
          have w1 : IntKind.i64.wrap ((r : Int) * (b : Int)) = ((r * b : Nat) : Int) := by rw [e1]; exact IntWalk.i64_in _ (by omega)
          have w2 : IntKind.i64.wrap ((c : Int) + ((r * b : Nat) : Int)) = ((c + r * b : Nat) : Int) := by rw [e2]; exact IntWalk.i64_in _ (by omega)
          have w3 : ((c + r * b : Nat) : Int).tmod 4 = (m : Int) := by rw [Int.tmod_eq_emod_of_nonneg (by omega)]; omega
          have hm0 : (0 : Int) ≤ (m : Int) := by omega
          have hm1 : (m : Int) < 4 := by omega
          generalize S.getD (m * 4 + r) 0 = x at *
          have hs2 := nA_set (thru (shiftL S b) zer16 (c * 4 + r)) (c * 4 + r) x
          rw [hst] at hs2
          have HST := Lib.hid hs2
          clear hst hs2 hm e1 e2
          generalize r * b = rb at *
          generalize hcr : c + rb = crb at *
          clear hcr
          go_wp2
          go_region
          clear w1 w2 w3
          go_wp2
          go_roundw
          case rel =>
            refine ⟨r + 1, by omega, by go_num, ?_, iX.far (p := ⟨Bo, c * 4 + r, none⟩) q4 _, iR.far (p := ⟨Bo, c * 4 + r, none⟩) q3 _, belowD (hB.setCell (p := ⟨Bo, c * 4 + r, none⟩) q1 _)⟩
            have := iO.set (c * 4 + r) (.int .u8 (x : Int))
            rw [HST.out] at this
            exact this
          case measure => simp [intOf]; omega
        · have hi2 : ¬ (r : Int) < 4 := by omega
          obtain rfl : r = 4 := by omega
          rw [show c * 4 + 4 = (c + 1) * 4 by omega] at iO
          go_wp2
          go_roundw
          case rel => exact ⟨c + 1, by omega, by go_num, iO, iX, iR, hB⟩
          case measure => simp [intOf]; omega
    · have hi1 : ¬ (c : Int) < 4 := by omega
      obtain rfl : c = 4 := by omega
      rw [thru_all HD.out (by rw [HZ.out]; omega)] at iO
      have hl : (shiftL S b).length = 16 := shiftL_len S b
      have hone := nA_one (shiftL S b)
      have hin : (Tryz.prog.info? 233).map (·.size) = some (nA (shiftL S b)).size := by rw [nA_size, hl]; exact info16
      have hs2 : (nA (shiftL S b)).size = 16 := by rw [nA_size, hl]
      generalize hR : nA (shiftL S b) = R at *
      have HR := Lib.hid hR
      clear hR hl
      go_wp2_with (first
        | (refine wpList_load_row rfl 233 _ rfl Bo rfl _ _ _ _ iO Tryz.underlying233 rfl hin ?_)
        | (refine wpList_store_row rfl 233 _ _ rfl Br R rfl rfl _ _ iR hin (by rw [hs2]; rfl) hone ?_))
      refine bodyPost_ret (results_cell_row Tryz.results179 _ _ Br 233 R (0, 0) _ rfl (iR.row _) Tryz.underlying233 rfl hin) rfl ⟨by rw [HR.out], ?_⟩
      exact belowRow hB q2 _
end Go.Proofs.YtfgdcpolfekgjaaGreat
namespace Go.Proofs.YtfgdcpolfekgjaaGreat
open Go.RowKit Go.Shelf

/-- a text's bytes as numbers. -/
def natL (s : ByteArray) : List Nat := s.data.toList.map UInt8.toNat
theorem natL_len (s : ByteArray) : (natL s).length = s.size := by rw [natL, List.length_map, Array.length_toList]; rfl
theorem natL_lt (s : ByteArray) : ∀ x ∈ natL s, x < 256 := fun x hx => by
  obtain ⟨y, _, rfl⟩ := List.mem_map.1 hx
  exact y.toNat_lt
theorem natL_blk {s : ByteArray} (h : s.size = 16) : Blk (natL s) := ⟨by rw [natL_len, h], natL_lt s⟩
theorem natL_inj {s t : ByteArray} (h : natL s = natL t) : s = t := by
  have h2 : s.data.toList = t.data.toList := List.map_inj_right (fun x y hxy => UInt8.toNat_inj.1 hxy) |>.1 h
  cases s; cases t
  congr
  exact Array.toList_inj.1 h2
theorem natL_extract (s : ByteArray) (a b : Nat) : natL (s.extract a b) = ((natL s).drop a).take (b - a) := by
  simp [natL, ByteArray.data_extract, List.map_drop, List.map_take, List.extract_eq_take_drop]

/-- 'copy(dst, s)', s a text that is longer than dst, or as long: dst is filled. -/
theorem run_copy_string_fills {P : Program} (w : World) (dT sT ty elem : TypeId) (b o dLen dCap : Nat) (t : ByteArray)
    (hu : P.underlying dT = some (.slice elem)) (hs : (P.info? elem).map (·.size) = some 1) (hle : dLen ≤ t.size) (ht : w.there b o dLen) :
    (Builtin.copy_ #[dT, sT] ty #[.slice (some ⟨b, o, none⟩) dLen dCap, .string t]).run P w = .ok (goInt dLen) (w.setCells b o (nL ((natL t).take dLen))) := by
  have hmin : Nat.min t.size dLen = dLen := Nat.min_eq_right hle
  have hl : (nL ((natL t).take dLen)).length = dLen := by rw [nL_len, List.length_take, natL_len]; omega
  have hst := run_storeCells_cells (P := P) b o (nL ((natL t).take dLen)) 0 w (by rw [hl]; exact fun j hj => (ht j hj).1) (by rw [hl]; exact fun j hj => (ht j hj).2) (by
    intro v hv
    obtain ⟨x, _, rfl⟩ := List.mem_map.1 hv
    rfl)
  have htk : List.take dLen (List.map (fun b : UInt8 => Value.int IntKind.u8 (b.toNat : Int)) t.data.toList) = nL ((natL t).take dLen) := by
    simp [nL, natL, List.map_take]
    rfl
  simp only [Nat.add_zero] at hst
  cases hq : P.info? elem with
  | none => simp [hq] at hs
  | some i =>
    simp [Builtin.copy_, run_underlying hu, Builtin.lenOf, Builtin.firstCells, sizeOf, typeInfo, hq, hmin]
    rw [htk, hst]
    simp [Result.andThen]

theorem info8 : (Tryz.prog.info? 5).map (·.size) = some 1 := by kernel_rfl

set_option maxRecDepth 100000 in
set_option maxHeartbeats 1000000 in
theorem squareOf_any (s : ByteArray) (w : World) (hs : s.size = 16) :
    Calls Tryz.prog 175 #[.string s] w fun e w' => e = .returned (.agg (nA (natL s))) ∧ Below w.heap.size w w' := by
  have hz : #[Value.int .u8 0, .int .u8 0, .int .u8 0, .int .u8 0, .int .u8 0, .int .u8 0, .int .u8 0, .int .u8 0, .int .u8 0, .int .u8 0, .int .u8 0, .int .u8 0, .int .u8 0, .int .u8 0, .int .u8 0, .int .u8 0] = nA zer16 := rfl
  have HS := Lib.hid hs
  have HD := Lib.hid (show (natL s).length = zer16.length by rw [natL_len, hs]; rfl)
  have HZ := Lib.hid (show zer16.length = 16 from rfl)
  have h15 : 15 < s.size := by omega
  have h17 : s.size < 17 := by omega
  clear hs
  go_enter Tryz.func175, Tryz.ntmps175
  go_wp2
  clear hz
  have iR : Is ((w.alloc (.cells (nA zer16) 233)).alloc (.cells (nA zer16) 233)) w.heap.size 233 (nA zer16) := (Is.new w _ _).alloc _
  have iO : Is ((w.alloc (.cells (nA zer16) 233)).alloc (.cells (nA zer16) 233)) (w.heap.size + 1) 233 (nA zer16) := heap_alloc2_new w _ _
  have hB0 : Below w.heap.size w ((w.alloc (.cells (nA zer16) 233)).alloc (.cells (nA zer16) 233)) := ((Below.refl _ _).alloc (Nat.le_refl _) _).alloc (by simp) _
  generalize ((w.alloc (.cells (nA zer16) 233)).alloc (.cells (nA zer16) 233)) = W0 at *
  obtain ⟨Br, hBr⟩ : ∃ Br, Br = w.heap.size := ⟨_, rfl⟩
  obtain ⟨Bo, hBo⟩ : ∃ Bo, Bo = w.heap.size + 1 := ⟨_, rfl⟩
  rw [← hBo, ← hBr]
  rw [← hBr] at iR
  rw [← hBo] at iO
  have q1 : w.heap.size ≤ Bo := by omega
  have q2 : w.heap.size ≤ Br := by omega
  have q3 : Br ≠ Bo := by omega
  clear hBr hBo
  go_loopw [5] (fun i wr => ∃ c : Nat, c ≤ 4 ∧ i = .int .i64 (c : Int) ∧ Is wr Bo 233 (nA (thru (natL s) zer16 (c * 4))) ∧ Is wr Br 233 (nA zer16) ∧ Below w.heap.size w wr)
    (fun i _ => 4 - (intOf i).toNat)
  case atStart => exact ⟨0, by omega, rfl, by rw [Nat.zero_mul, thru_zero]; exact iO, iR, hB0⟩
  case round =>
    clear iO iR hB0
    obtain ⟨c, hc, rfl, iO, iR, hB⟩ := hrel
    by_cases hlt : c < 4
    · have hi1 : (c : Int) < 4 := by omega
      have hc0 : (0 : Int) ≤ (c : Int) := by omega
      have hcp := run_copy_string_fills (P := Tryz.prog) wr.drew 63 9 3 5 Bo (c * 4) 4 4 (s.extract (c * 4) s.size) Tryz.underlying63 info8 (by rw [ByteArray.size_extract]; omega) (nA_there (w := wr.drew) iO (c * 4) 4 (by rw [thru_len HD.out, HZ.out]; omega))
      have hcol : ((natL (s.extract (c * 4) s.size)).take 4) = colL (natL s) c := by
        rw [natL_extract, List.take_take, HS.out, colL]; congr 1; omega
      rw [hcol] at hcp
      have w1 : IntKind.i64.wrap ((c : Int) * 4) = ((c * 4 : Nat) : Int) := by rw [IntWalk.i64_in _ (by omega)]; omega
      have hle1 : ((c * 4 : Nat) : Int) ≤ (s.size : Int) := by omega
      have hle0 : (0 : Int) ≤ ((c * 4 : Nat) : Int) := by omega
      go_wp2
      go_region
      clear hcp w1 hcol
      go_wp2
      go_roundw
      case rel =>
        have mO := Is.setCells (w := wr.drew) (nL (colL (natL s) c)) (c * 4) iO
        rw [colL, setAll_thru HD.out _ _ (by rw [HZ.out]; omega), show c * 4 + 4 = (c + 1) * 4 by omega] at mO
        exact ⟨c + 1, by omega, by go_num, mO, Is.farCells (w := wr.drew) q3 _ _ iR, belowCells (w := wr.drew) q1 _ _ (belowD hB)⟩
      case measure => simp [intOf]; omega
    · have hi1 : ¬ (c : Int) < 4 := by omega
      obtain rfl : c = 4 := by omega
      rw [thru_all HD.out (by rw [HZ.out]; omega)] at iO
      have hl : (natL s).length = 16 := by rw [natL_len, HS.out]
      have hone := nA_one (natL s)
      have hin : (Tryz.prog.info? 233).map (·.size) = some (nA (natL s)).size := by rw [nA_size, hl]; exact info16
      have hs2 : (nA (natL s)).size = 16 := by rw [nA_size, hl]
      generalize hR : nA (natL s) = R at *
      have HR := Lib.hid hR
      clear hR hl
      go_wp2_with (first
        | (refine wpList_load_row rfl 233 _ rfl Bo rfl _ _ _ _ iO Tryz.underlying233 rfl hin ?_)
        | (refine wpList_store_row rfl 233 _ _ rfl Br R rfl rfl _ _ iR hin (by rw [hs2]; rfl) hone ?_))
      refine bodyPost_ret (results_cell_row Tryz.results175 _ _ Br 233 R (0, 0) _ rfl (iR.row _) Tryz.underlying233 rfl hin) rfl ⟨by rw [HR.out], ?_⟩
      exact belowRow hB q2 _
/-- bytes as a text. -/
def strN (S : List Nat) : ByteArray := strOfNums (S.map fun x : Nat => (x : Int))
theorem strN_nat {S : List Nat} (h : ∀ x ∈ S, x < 256) : natL (strN S) = S := by
  rw [natL, strN, strOfNums_data, List.map_map, List.map_map]
  conv => rhs; rw [← List.map_id S]
  refine List.map_congr_left fun x hx => ?_
  simp only [Function.comp_apply, Int.toNat_natCast, id_eq]
  rw [UInt8.toNat_ofNat']
  exact Nat.mod_eq_of_lt (h x hx)
theorem strN_size (S : List Nat) : (strN S).size = S.length := by rw [strN, strOfNums_size, List.length_map]
theorem infoU8 : (Tryz.prog.info? 5).map (fun i => (i.zero, i.size, i.bytes)) = some (some (.int .u8 0), 1, 1) := by kernel_rfl
theorem infoThree {P : Program} {t : TypeId} {z : Value} {s b : Nat} (h : (P.info? t).map (fun i => (i.zero, i.size, i.bytes)) = some (some z, s, b)) : ∃ i, P.info? t = some i ∧ i.zero = some z ∧ i.size = s ∧ i.bytes = b := by
  cases hq : P.info? t with
  | none => rw [hq] at h; cases h
  | some i =>
    rw [hq] at h
    simp only [Option.map_some, Option.some.injEq, Prod.mk.injEq] at h
    exact ⟨i, rfl, h.1, h.2.1, h.2.2⟩
theorem idx_col (S : List Nat) (k : Nat) (hk : k < 4) (W : World) : (Instr.index 233 (.agg (nA S)) (.int .i64 (k : Int))).run Tryz.prog W = .ok (.agg (nA (colL S k))) W := by
  have hsz : ∀ W, (sizeOf 160).run Tryz.prog W = .ok 4 W := fun W => by
    have := info4
    cases hq : Tryz.prog.info? 160 with
    | none => rw [hq] at this; cases this
    | some i =>
      rw [hq] at this
      simp only [Option.map_some, Option.some.injEq] at this
      simp [sizeOf, typeInfo, hq, this]
  have hag : ∀ W, (isAgg 160).run Tryz.prog W = .ok true W := fun W => by
    unfold isAgg
    rw [Sem.run_bind, run_underlying Tryz.underlying160 W]
    rfl
  have hex : (nA S).extract (k * 4) (k * 4 + 4) = nA (colL S k) := by
    simp [nA, colL, List.map_take, List.map_drop, List.extract_eq_take_drop]
  simp [Instr.index, asIntOf, run_underlying Tryz.underlying233, part, hsz, hag, hex]
  intro h
  omega

set_option maxRecDepth 100000 in
set_option maxHeartbeats 1000000 in
theorem text_any (S : List Nat) (w : World) (hS : S.length = 16) :
    Calls Tryz.prog 184 #[.agg (nA S)] w fun e w' => e = .returned (.string (strN S)) ∧ Below w.heap.size w w' := by
  obtain ⟨i0, hi, hz0, hz1, hz2⟩ := infoThree infoU8
  have HI := Lib.hid hi
  have HZ0 := Lib.hid hz0
  have HZ1 := Lib.hid hz1
  have HZ2 := Lib.hid hz2
  have HS := Lib.hid hS
  have hin : (Tryz.prog.info? 233).map (·.size) = some (nA S).size := by rw [nA_size, hS]; exact info16
  clear hi hz0 hz1 hz2 hS
  go_enter Tryz.func184, Tryz.ntmps184
  have iX : Is (w.alloc (.cells (nA S) 233)) w.heap.size 233 (nA S) := Is.new w _ _
  have hB0 : Below w.heap.size w (w.alloc (.cells (nA S) 233)) := (Below.refl _ _).alloc (Nat.le_refl _) _
  go_wp2_with (first
    | (refine wpList_make_own _ rfl _ _ 63 rfl w.heap.size 5 i0 (.int .u8 0) 1 Tryz.underlying63 HI.out HZ0.out HZ1.out .i64 .i64 16 16 rfl rfl rfl (by rw [HZ2.out]; omega) (by unfold maxLen; omega) (by simp) ?_; intro wm hown hg; have jX : Is wm w.heap.size 233 (nA S) := (hg.block _ (by simp) (by simp)).trans iX; have jB : Below w.heap.size w wm := hB0.grown hg (by simp) (fun k e => by cases e))
    | (refine wpList_load_row rfl 233 _ rfl w.heap.size rfl _ _ _ _ jX Tryz.underlying233 rfl hin ?_))
  rw [show (w.alloc (.cells (nA S) 233)).heap.size = w.heap.size + 1 by simp] at hown
  clear hg iX hB0 jX hin
  obtain ⟨g, hg⟩ : ∃ g, g = w.heap.size + 1 := ⟨_, rfl⟩
  rw [← hg] at hown
  rw [← hg]
  have hgB : w.heap.size ≤ g := by omega
  clear hg
  go_loopw [3, 8] (fun v i wr => ∃ k : Nat, k ≤ 4 ∧ i = .int .i64 (k : Int) ∧ v = .slice (some ⟨g, 0, none⟩) (k * 4) 16 ∧ wr.ownsRow w.heap.size 5 1 (.slice (some ⟨g, 0, none⟩) (k * 4) 16) (k * 4) (nL (S.take (k * 4))) ∧ Below w.heap.size w wr)
    (fun _ i _ => 4 - (intOf i).toNat)
  case atStart => exact ⟨0, by omega, rfl, rfl, by rw [Nat.zero_mul, List.take_zero]; exact hown, jB⟩
  case round =>
    clear hown jB
    obtain ⟨k, hk, rfl, rfl, hown, hB⟩ := hrel
    by_cases hlt : k < 4
    · have hi1 : (k : Int) < 4 := by omega
      have hidx := idx_col S k hlt
      have hcl := colL_len HS.out hlt
      have hcA : (Tryz.prog.info? 160).map (·.size) = some (nA (colL S k)).size := by rw [nA_size, hcl]; exact info4
      have hc2 : (nA (colL S k)).size = 4 := by rw [nA_size, hcl]
      have hone := nA_one (colL S k)
      have happ : nL (S.take (k * 4)) ++ nL (colL S k) = nL (S.take ((k + 1) * 4)) := by
        rw [nL, nL, nL, ← List.map_append, colL, show (k + 1) * 4 = k * 4 + 4 by omega, List.take_add]
      have HAP := Lib.hid happ
      have HCL := Lib.hid hcl
      have HC2 := Lib.hid hc2
      have iC : Is (wr.alloc (.cells (nA (colL S k)) 160)) wr.heap.size 160 (nA (colL S k)) := Is.new wr _ _
      have hrg := nA_range iC 0 4
      rw [List.drop_zero, List.take_of_length_le (by rw [hcl]; exact Nat.le_refl _)] at hrg
      have hown2 := hown.alloc (.cells (nA (colL S k)) 160)
      have hB2 := hB.alloc hB.size (.cells (nA (colL S k)) 160)
      clear happ hcl hc2
      generalize hcc : nA (colL S k) = C at *
      have HCC := Lib.hid hcc
      clear hcc
      go_wp2_with (first
        | (refine wpList_store_row rfl 160 _ _ rfl wr.heap.size C rfl rfl _ _ (heap_alloc_new wr _) hcA (by rw [HC2.out]; rfl) hone ?_; rw [World.setRow_alloc_new])
        | (refine wpList_append_fits _ rfl _ _ 63 rfl w.heap.size 5 i0 1 Tryz.underlying63 HI.out HZ1.out g (k * 4) 16 _ rfl hown2 ⟨wr.heap.size, 0, none⟩ 4 4 (nL (colL S k)) rfl (by rw [nL_len, HCL.out]) (fun j u hj => by have h0 := hrg j u hj; rw [Nat.zero_add] at h0; rw [Addr.add_mid, Nat.zero_add]; exact h0) (fun u hu => by obtain ⟨x, _, rfl⟩ := List.mem_map.1 hu; rfl) (by omega) ?_; intro wa hown3 hg3))
      have hB3 : Below w.heap.size w wa := hB2.grown hg3 (by have := hB.size; simp; omega) (fun k e => by cases e; exact hgB)
      rw [HAP.out, show k * 4 + 4 = (k + 1) * 4 by omega] at hown3
      go_roundw
      case rel => exact ⟨k + 1, by omega, by go_num, by rw [show k * 4 + 4 = (k + 1) * 4 by omega], hown3, hB3⟩
      case measure => simp [intOf]; omega
    · have hi1 : ¬ (k : Int) < 4 := by omega
      obtain rfl : k = 4 := by omega
      rw [List.take_of_length_le (by rw [HS.out]; exact Nat.le_refl _)] at hown
      have hcv := run_convert_bytes_arg (P := Tryz.prog) wr 63 5 Tryz.underlying63 Tryz.underlying5 g 0 16 16 (S.map fun x : Nat => (x : Int)) (by rw [List.length_map, HS.out]) (fun i hi => by
        rw [Nat.zero_add, hown.cellAt i (by omega), nL, List.getElem?_map, List.getD_eq_getElem?_getD, List.getElem?_map, List.getElem?_eq_getElem (by rw [HS.out]; exact hi)]
        rfl) 9 Tryz.underlying9
      rw [← strN] at hcv
      go_wp2
      go_ret
      exact ⟨rfl, hB⟩
end Go.Proofs.YtfgdcpolfekgjaaGreat
namespace Go.Proofs.YtfgdcpolfekgjaaGreat
open Go.RowKit Go.Shelf

/-- how many words a key has: four or eight. -/
structure KeyN (key : List Nat) (n : Nat) : Prop where
  len : key.length = 4 * n
  two : n = 4 ∨ n = 8
theorem KeyN.pos {key : List Nat} {n : Nat} (h : KeyN key n) : 1 ≤ n := by have := h.two; omega
theorem KeyN.div {key : List Nat} {n : Nat} (h : KeyN key n) : key.length / 4 = n := by have := h.len; omega
theorem KeyN.or {key : List Nat} {n : Nat} (h : KeyN key n) : key.length = 16 ∨ key.length = 32 := by have := h.len; have := h.two; omega
theorem KeyN.exp {key : List Nat} {n : Nat} (h : KeyN key n) : expB key = (expN key n (3 * n + 28)).1 := by rw [expB, h.div]
theorem KeyN.expLen {key : List Nat} {n : Nat} (h : KeyN key n) : (expB key).length = 16 * (n + 7) := by rw [expB_len h.or, h.len]; omega
theorem take_drop_take {α : Type} (l : List α) (a b c : Nat) (h : a + b ≤ c) : ((l.take c).drop a).take b = (l.drop a).take b := by
  rw [List.drop_take, List.take_take]; congr 1; omega
/-- the key's own words. -/
theorem word_key {key : List Nat} {n : Nat} (h : KeyN key n) {i : Nat} (hi : i < n) : colL (expB key) i = colL key i := by
  have ht := expN_take (key := key) (n := n) h.len h.pos (j := 0) (J := 3 * n + 28) (by omega)
  rw [← h.exp] at ht
  rw [colL, ← take_drop_take (expB key) (i * 4) 4 (4 * (n + 0)) (by omega), ht]
  rfl
/-- each further word. -/
theorem word_next {key : List Nat} {n : Nat} (h : KeyN key n) {j : Nat} (hj : j < 3 * n + 28) :
    colL (expB key) (n + j) = xorB (colL (expB key) j) (keyT n (n + j) (expN key n j).2 (colL (expB key) (n + j - 1))) := by
  have h1 := expN_take (key := key) (n := n) h.len h.pos (j := j) (J := 3 * n + 28) (by omega)
  have h2 := expN_take (key := key) (n := n) h.len h.pos (j := j + 1) (J := 3 * n + 28) (by omega)
  rw [← h.exp] at h1 h2
  have hl := expN_len (key := key) h.len h.pos j
  have hn := h.pos
  have e1 : ((expN key n j).1.drop (4 * (n + j - n))).take 4 = colL (expB key) j := by
    rw [← h1, take_drop_take _ _ _ _ (by omega), colL, show 4 * (n + j - n) = j * 4 by omega]
  have e2 : (expN key n j).1.drop (4 * (n + j) - 4) = colL (expB key) (n + j - 1) := by
    have : ((expN key n j).1.drop (4 * (n + j) - 4)).take 4 = (expN key n j).1.drop (4 * (n + j) - 4) := List.take_of_length_le (by rw [List.length_drop, hl]; omega)
    rw [← this, ← h1, take_drop_take _ _ _ _ (by omega), colL, show 4 * (n + j) - 4 = (n + j - 1) * 4 by omega]
  rw [colL, ← take_drop_take (expB key) ((n + j) * 4) 4 (4 * (n + (j + 1))) (by omega), h2]
  show ((( (expN key n j).1 ++ xorB (((expN key n j).1.drop (4 * (n + j - n))).take 4) (keyT n (n + j) (expN key n j).2 ((expN key n j).1.drop (4 * (n + j) - 4)))).drop ((n + j) * 4)).take 4) = _
  rw [e1, e2, List.drop_left' (by rw [hl]; omega), List.take_of_length_le]
  rw [xorB, List.length_zipWith]
  have : (colL (expB key) j).length ≤ 4 := by rw [colL]; exact List.length_take_le _ _
  omega
theorem expC_lt (key : List Nat) (hk : ∀ x ∈ key, x < 256) (n j : Nat) : (expN key n j).2 < 256 := (expN_lt hk j).2
theorem expC_next (key : List Nat) (n j : Nat) : (expN key n (j + 1)).2 = if (n + j) % n = 0 then mulN 2 (expN key n j).2 else (expN key n j).2 := rfl

/-- noughts. -/
def zers (n : Nat) : List Nat := List.replicate n 0
theorem zers_len (n : Nat) : (zers n).length = n := by simp [zers]
theorem made_zers (n : Nat) : (madeCells #[Value.int .u8 0, .int .u8 0, .int .u8 0, .int .u8 0] (n * 4)).toList = nL (zers (n * 4)) := by
  apply List.ext_getElem
  · simp [size_madeCells, nL, zers]
  · intro i h1 h2
    simp only [madeCells, nL, zers, List.map_replicate, List.getElem_replicate, Array.getElem_toList, Array.getElem_map, Array.getElem_range]
    have : i % 4 = 0 ∨ i % 4 = 1 ∨ i % 4 = 2 ∨ i % 4 = 3 := by omega
    show (#[Value.int .u8 0, .int .u8 0, .int .u8 0, .int .u8 0])[i % 4]! = _
    rcases this with h | h | h | h <;> rw [h] <;> rfl
theorem made_zers16 (n : Nat) : (madeCells (nA zer16) (n * 16)).toList = nL (zers (n * 16)) := by
  apply List.ext_getElem
  · simp [size_madeCells, nL, zers]
  · intro i h1 h2
    simp only [madeCells, nL, zers, List.map_replicate, List.getElem_replicate, Array.getElem_toList, Array.getElem_map, Array.getElem_range]
    show (nA zer16)[i % 16]! = _
    have h16 : i % 16 < 16 := Nat.mod_lt _ (by decide)
    generalize i % 16 = j at *
    rw [getElem!_pos (nA zer16) j (by rw [nA_size]; exact h16)]
    show ((List.replicate 16 (Value.int .u8 0)).toArray)[j]'(by simp; exact h16) = _
    rw [List.getElem_toArray, List.getElem_replicate]
    rfl
/-- a made slice is a block of its own. -/
theorem owned_is {w : World} {base : Nat} {e : TypeId} {size g n : Nat} {X : List Nat} (h : w.ownsRow base e size (.slice (some ⟨g, 0, none⟩) n n) n (nL X)) : Is w g e (nA X) ∧ base ≤ g := by
  rcases h.2 with ⟨h1, _⟩ | ⟨g2, cap2, cur, h1, hb, hg, _, _, hs, ht⟩
  · cases h1
  · cases h1
    refine ⟨?_, hb⟩
    rw [List.take_of_length_le (by rw [Array.length_toList, hs]; exact Nat.le_refl _)] at ht
    have : cur = nA X := by rw [← Array.toList_inj, ht]; rfl
    rw [this] at hg
    exact hg
theorem infoWord : (Tryz.prog.info? 160).map (fun i => (i.zero, i.size, i.bytes)) = some (some (.agg #[.int .u8 0, .int .u8 0, .int .u8 0, .int .u8 0]), 4, 4) := by kernel_rfl
theorem infoSquare : (Tryz.prog.info? 233).map (fun i => (i.zero, i.size, i.bytes)) = some (some (.agg (nA zer16)), 16, 16) := by kernel_rfl
theorem nA_range0 {w : World} {g : Nat} {t : TypeId} {X : List Nat} (h : Is w g t (nA X)) : w.rangeAt g 0 (nL X) := by
  have := nA_range h 0 X.length
  rw [List.drop_zero, List.take_length] at this
  exact this
/-- a word of what is there already. -/
theorem thru_take_drop {D S : List Nat} (h : D.length = S.length) {n i : Nat} (hn : n ≤ S.length) (hi : i * 4 + 4 ≤ n) : ((thru D S n).drop (i * 4)).take 4 = colL D i := by
  rw [thru, List.drop_append_of_le_length (by rw [List.length_take]; omega), List.take_append_of_le_length (by rw [List.length_drop, List.length_take]; omega), take_drop_take _ _ _ _ hi]
  rfl
theorem keyT_plain {n i c : Nat} {t : List Nat} (h1 : i % n ≠ 0) (h2 : ¬ (n = 8 ∧ i % n = 4)) : keyT n i c t = t := by
  unfold keyT
  dsimp only
  rw [if_neg (by rintro ⟨rfl, h⟩; exact h2 ⟨rfl, h⟩), if_neg h1]
theorem keyT_sub {n i c : Nat} {t : List Nat} (h1 : n = 8) (h2 : i % n = 4) : keyT n i c t = subL t := by
  subst h1
  unfold keyT
  dsimp only
  rw [if_pos ⟨rfl, h2⟩, if_neg (by omega)]
theorem keyT_turn {n i c : Nat} {t : List Nat} (h1 : i % n = 0) : keyT n i c t = hdX c (subL (t.drop 1 ++ t.take 1)) := by
  unfold keyT
  dsimp only
  rw [if_neg (by rintro ⟨rfl, h⟩; omega), if_pos h1]
end Go.Proofs.YtfgdcpolfekgjaaGreat
namespace Go.Proofs.YtfgdcpolfekgjaaGreat
open Go.RowKit Go.Shelf

set_option maxRecDepth 100000 in
set_option maxHeartbeats 2000000 in
theorem expanded_any (key : ByteArray) (n : Nat) (w : World) (hk : KeyN (natL key) n) :
    Calls Tryz.prog 208 #[.string key] w fun e w' => ∃ g, e = .returned (.slice (some ⟨g, 0, none⟩) (4 * (n + 7)) (4 * (n + 7))) ∧ Is w' g 160 (nA (expB (natL key))) ∧ w.heap.size ≤ g ∧ Below w.heap.size w w' := by
  obtain ⟨i0, hi, hz0, hz1, hz2⟩ := infoThree infoWord
  have HI := Lib.hid hi
  have HZ0 := Lib.hid hz0
  have HZ1 := Lib.hid hz1
  have HZ2 := Lib.hid hz2
  have hsz : key.size = 4 * n := by rw [← natL_len, hk.len]
  have HSZ := Lib.hid hsz
  have HK := Lib.hid hk
  have hn8 : n ≤ 8 := by have := hk.two; omega
  have hn4 : 4 ≤ n := by have := hk.two; omega
  have hq : (key.size : Int) / 4 = (n : Int) := by omega
  have HDL := Lib.hid hk.expLen
  clear hi hz0 hz1 hz2 hk hsz
  go_enter Tryz.func208, Tryz.ntmps208
  go_wp2_with (refine wpList_make_full _ rfl _ _ 258 rfl w.heap.size 160 i0 (.agg #[.int .u8 0, .int .u8 0, .int .u8 0, .int .u8 0]) 4 Tryz.underlying258 HI.out HZ0.out HZ1.out .i64 .i64 _ _ (4 * (n + 7)) rfl rfl (by omega) (by omega) (by rw [HZ2.out]; omega) (by unfold maxLen; omega) (Nat.le_refl _) ?_; intro wm hown hg; rw [show (Value.agg #[Value.int .u8 0, .int .u8 0, .int .u8 0, .int .u8 0]).cells = #[Value.int .u8 0, .int .u8 0, .int .u8 0, .int .u8 0] from rfl, made_zers] at hown; obtain ⟨iG, hgB⟩ := owned_is hown; have hB0 : Below w.heap.size w wm := (Below.refl _ _).grown hg (Nat.le_refl _) (fun k e => by cases e))
  obtain ⟨g, hg'⟩ : ∃ g, g = w.heap.size := ⟨_, rfl⟩
  rw [← hg'] at iG
  rw [← hg']
  have q1 : w.heap.size ≤ g := by omega
  clear hg' hown hg hgB hq
  obtain ⟨m, hm⟩ : ∃ m, m = 4 * (n + 7) := ⟨_, rfl⟩
  rw [← hm] at iG
  rw [← hm]
  have hmn : n < m := by omega
  have hm60 : m ≤ 60 := by omega
  have hmj : m = n + (3 * n + 28) := by omega
  have HM := Lib.hid hm
  have HMJ := Lib.hid hmj
  have HD := Lib.hid (show (expB (natL key)).length = (zers (m * 4)).length by rw [HDL.out, zers_len, hm]; omega)
  have HZ := Lib.hid (zers_len (m * 4))
  clear hm hmj
  obtain ⟨D, hD⟩ : ∃ D, D = expB (natL key) := ⟨_, rfl⟩
  rw [← hD] at HD
  have HDE := Lib.hid hD
  have HDB := Lib.hid (show ∀ x ∈ D, x < 256 by rw [hD]; exact expB_lt (natL_lt key))
  clear hD
  go_loopw [20] (fun a wr => ∃ i : Nat, i ≤ n ∧ a = .int .i64 (i : Int) ∧ Is wr g 160 (nA (thru D (zers (m * 4)) (i * 4))) ∧ Below w.heap.size w wr)
    (fun a _ => n - (intOf a).toNat)
  case atStart => exact ⟨0, by omega, rfl, by rw [Nat.zero_mul, thru_zero]; exact iG, hB0⟩
  case round =>
    clear iG hB0
    obtain ⟨i, hi, rfl, iG, hB⟩ := hrel
    by_cases hlt : i < n
    · have hi1 : (i : Int) < (n : Int) := by omega
      have hi2 : (i : Int) < (m : Int) := by omega
      have hi3 : i < m := by omega
      have hi0 : (0 : Int) ≤ (i : Int) := by omega
      have hs4 := HSZ.out
      have hcp := run_copy_string_fills (P := Tryz.prog) wr.drew 63 9 3 5 g (i * 4) 4 4 (key.extract (i * 4) key.size) Tryz.underlying63 info8 (by rw [ByteArray.size_extract]; omega) (nA_there (w := wr.drew) iG (i * 4) 4 (by rw [thru_len HD.out, HZ.out]; omega))
      have hcol : ((natL (key.extract (i * 4) key.size)).take 4) = colL D i := by
        rw [HDE.out, word_key HK.out hlt, natL_extract, List.take_take, hs4, colL, show min 4 (4 * n - i * 4) = 4 by omega]
      rw [hcol] at hcp
      have w1 : IntKind.i64.wrap ((i : Int) * 4) = ((i * 4 : Nat) : Int) := by rw [IntWalk.i64_in _ (by omega)]; omega
      have hle1 : ((i * 4 : Nat) : Int) ≤ (key.size : Int) := by omega
      have hle2 : i * 4 ≤ key.size := by omega
      have hle0 : (0 : Int) ≤ ((i * 4 : Nat) : Int) := by omega
      clear hcol hs4
      go_wp2
      go_region
      clear hcp w1
      go_wp2
      go_roundw
      case rel =>
        have mO := Is.setCells (w := wr.drew) (nL (colL D i)) (i * 4) iG
        rw [colL, setAll_thru HD.out _ _ (by rw [HZ.out]; omega), show i * 4 + 4 = (i + 1) * 4 by omega] at mO
        exact ⟨i + 1, by omega, by go_num, mO, belowCells (w := wr.drew) q1 _ _ (belowD hB)⟩
      case measure => simp [intOf]; omega
    · have hi1 : ¬ (i : Int) < (n : Int) := by omega
      obtain rfl : n = i := by omega
      go_wp2
      clear hi hlt hi1
      go_loopw [7, 8] (fun c a wr => ∃ p : Nat, n ≤ p + 1 ∧ p + 1 ≤ m ∧ a = .int .i64 ((p : Int) + 1) ∧ c = .int .u8 (((expN (natL key) n (p + 1 - n)).2 : Nat) : Int) ∧ Is wr g 160 (nA (thru D (zers (m * 4)) ((p + 1) * 4))) ∧ Below w.heap.size w wr)
        (fun _ a _ => m - (intOf a).toNat)
      case atStart => exact ⟨n - 1, by omega, by omega, by rw [show ((n - 1 : Nat) : Int) + 1 = (n : Int) by omega], by rw [show n - 1 + 1 - n = 0 by omega]; rfl, by rw [show n - 1 + 1 = n by omega]; exact iG, hB⟩
      case round =>
        clear iG hB
        obtain ⟨p, hp1, hp2, rfl, rfl, iG, hB⟩ := hrel
        have hcb := expC_lt (natL key) (natL_lt key) n (p + 1 - n)
        by_cases hlt : p + 1 < m
        · have hi1 : (p : Int) + 1 < (m : Int) := by omega
          have hi2 : p < m := by omega
          have hi3 : (p : Int) < (m : Int) := by omega
          obtain ⟨j, hj⟩ : ∃ j, p + 1 = n + j := ⟨p + 1 - n, by omega⟩
          have hj2 : j < 3 * n + 28 := by have := HMJ.out; omega
          have hjn : p + 1 - n = j := by omega
          have hwn := word_next HK.out hj2
          rw [← HDE.out, ← hj, Nat.add_sub_cancel] at hwn
          have hcn := expC_next (natL key) n j
          rw [← hj] at hcn
          rw [hjn] at hcb
          rw [hjn]
          rw [show j + 1 = p + 1 + 1 - n by omega] at hcn
          have cl4 : (colL D p).length = 4 := by rw [colL, List.length_take, List.length_drop, HD.out, HZ.out]; omega
          have hXb := colL_lt HDB.out p
          have hR : wr.rangeAt g (p * 4) (nL (colL D p)) := by
            have h0 := nA_range iG (p * 4) 4
            rw [thru_take_drop HD.out (by rw [HZ.out]; omega) (by omega)] at h0
            exact h0
          generalize hX : colL D p = X at *
          generalize hc : (expN (natL key) n j).2 = c at *
          have hgT : g ≠ wr.heap.size := by have := iG.lt; omega
          obtain ⟨Bt, hBt⟩ : ∃ Bt, Bt = wr.heap.size := ⟨_, rfl⟩
          have hsX : (Tryz.prog.info? 160).map (·.size) = some (nA X).size := by rw [nA_size, cl4]; exact info4
          have hs2 : (nA X).size = 4 := by rw [nA_size, cl4]
          have hone := nA_one X
          have HWN := Lib.hid hwn
          have HCN := Lib.hid hcn
          have HXL0 := Lib.hid cl4
          have HXB := Lib.hid hXb
          have HJ := Lib.hid hj
          have HS2 := Lib.hid hs2
          have HBT := Lib.hid hBt
          clear hwn hcn cl4 hXb hj hs2 hBt hX hc hjn
          have iT : Is (wr.alloc (.cells (nA X) 160)) wr.heap.size 160 (nA X) := Is.new wr _ _
          have iG1 := iG.alloc (.cells (nA X) 160)
          have hB1 := hB.alloc hB.size (.cells (nA X) 160)
          have hnz : ¬ (n : Int) = 0 := by omega
          have hnz2 : ((n : Int) == 0) = false := by simp; omega
          obtain ⟨r, hr⟩ : ∃ r, r = (p + 1) % n := ⟨_, rfl⟩
          have e1 : ((p : Int) + 1) % (n : Int) = (r : Int) := by rw [hr]; simp
          have HR := Lib.hid hr
          have HB0 := Lib.hid hB.size
          clear hr iG hB
          have iG := iG1
          have hB := hB1
          have HBW := Lib.hid (show w.heap.size ≤ wr.heap.size from HB0.out)
          by_cases hA : r = 0
          · have e2 : ((r : Int) == 0) = true := by simp; omega
            have H0 := Lib.hid hA
            clear hA
            obtain ⟨x0, x1, x2, x3, hX4⟩ : ∃ x0 x1 x2 x3, X = [x0, x1, x2, x3] := by
              have := HXL0.out
              match X, this with
              | [a, b, c, d], _ => exact ⟨a, b, c, d, rfl⟩
            have hY0 : X.drop 1 ++ X.take 1 = [x1, x2, x3, x0] := by rw [hX4]; rfl
            have hYb : ∀ x ∈ [x1, x2, x3, x0], x < 256 := by
              intro x hx
              exact HXB.out x (by rw [hX4]; simp only [List.mem_cons, List.not_mem_nil, or_false] at hx ⊢; omega)
            have k0 := iT.cell 0
            have k1 := iT.cell 1
            have k2 := iT.cell 2
            have k3 := iT.cell 3
            rw [nA_get _ _ (by rw [HXL0.out]; omega), show X.getD 0 0 = x0 by rw [hX4]; rfl] at k0
            rw [nA_get _ _ (by rw [HXL0.out]; omega), show X.getD 1 0 = x1 by rw [hX4]; rfl] at k1
            rw [nA_get _ _ (by rw [HXL0.out]; omega), show X.getD 2 0 = x2 by rw [hX4]; rfl] at k2
            rw [nA_get _ _ (by rw [HXL0.out]; omega), show X.getD 3 0 = x3 by rw [hX4]; rfl] at k3
            have hbld : #[Value.int .u8 (x1 : Int), .int .u8 (x2 : Int), .int .u8 (x3 : Int), .int .u8 (x0 : Int)] = nA [x1, x2, x3, x0] := rfl
            have HE := Lib.hid (fun w => each_any 178 subN sub_fn [x1, x2, x3, x0] w rfl hYb)
            obtain ⟨Y, hY⟩ : ∃ Y, Y = [x1, x2, x3, x0].map subN := ⟨_, rfl⟩
            rw [← hY] at HE
            have hYl : Y.length = 4 := by rw [hY]; rfl
            have hYB : ∀ x ∈ Y, x < 256 := by rw [hY]; exact subL_lt hYb
            have hsY : (Tryz.prog.info? 160).map (·.size) = some (nA Y).size := by rw [nA_size, hYl]; exact info4
            have hoY := nA_one Y
            have HY2 := Lib.hid (show (nA Y).size = 4 by rw [nA_size, hYl])
            have HYE := Lib.hid (show Y = subL (X.drop 1 ++ X.take 1) by rw [hY0, hY]; rfl)
            have HYL := Lib.hid hYl
            have HYB := Lib.hid hYB
            have hM : ∀ w, Calls Tryz.prog 210 #[.int .u8 2, .int .u8 (c : Int)] w fun e w' => e = .returned (.int .u8 ((mulN 2 c : Nat) : Int)) ∧ Below w.heap.size w w' := fun w => mul_any 2 c w (by decide) hcb
            have HMU := Lib.hid hM
            have hxo := u8_xor_nat (Y.getD 0 0) c (getD_mem_lt hYB 0) hcb
            have hset : (nA Y).setIfInBounds 0 (.int .u8 ((Y.getD 0 0 ^^^ c : Nat) : Int)) = nA (hdX c Y) := by
              rw [nA_set]
              match Y, hYl with
              | [a, b, d, e], _ => rfl
            rw [← hxo] at hset
            have HSET := Lib.hid hset
            clear hX4 hY0 hYb hY hYl hYB hM hxo hset
            go_wp2_with (first | (refine wpList_load_nA rfl 160 (.tmp 43) rfl g (p * 4) rfl X _ hR Tryz.underlying160 rfl (by rw [HXL0.out]; exact info4) ?_) | (refine wpList_store_row rfl 160 (.tmp 9) (.tmp 44) rfl wr.heap.size (nA X) rfl rfl _ _ (heap_alloc_new wr _) hsX (by rw [HS2.out]; rfl) hone ?_; rw [World.setRow_alloc_new]; generalize (wr.alloc (.cells (nA X) 160)) = W1 at *; generalize wr.heap.size = Bv at *) | (go_at_call 194; refine (HE.out _).mono ?_; rintro e w1 ⟨rfl, h1⟩; have jT := iT.below h1 iT.lt; have jG := iG.below h1 iG.lt; have jB : Below w.heap.size w w1 := hB.trans (h1.mono hB.size)) | (refine wpList_store_row rfl 160 (.tmp 9) (.tmp 59) rfl Bv (nA Y) rfl rfl _ _ jT hsY (by rw [HS2.out, HY2.out]) hoY ?_; have kT : Is (w1.setRow Bv (nA Y)) Bv 160 (nA Y) := jT.row _; have kG := jG.rowFar hgT (nA Y); have kB := belowRow jB HBW.out (nA Y); have m0 := kT.cell 0; rw [nA_get _ _ (by rw [HYL.out]; omega)] at m0; have m1 := kT.frozen 0; generalize (w1.setRow Bv (nA Y)) = W2 at *; generalize Y.getD 0 0 = y0 at *) | (go_at_call 210; refine (HMU.out _).mono ?_; rintro e w3 ⟨rfl, h3⟩))
            have nT := kT.set 0 (.int .u8 (bits BinOp.xor IntKind.u8 (y0 : Int) (c : Int)))
            rw [HSET.out] at nT
            have nG := kG.far (p := ⟨Bv, 0, none⟩) hgT (.int .u8 (bits BinOp.xor IntKind.u8 (y0 : Int) (c : Int)))
            have nB := kB.setCell (p := ⟨Bv, 0, none⟩) HBW.out (.int .u8 (bits BinOp.xor IntKind.u8 (y0 : Int) (c : Int)))
            have oT := nT.below h3 nT.lt
            have oG := nG.below h3 nG.lt
            have oB : Below w.heap.size w w3 := nB.trans (h3.mono nB.size)
            clear nT nG nB kT kG kB jT jG jB h1 h3 m0 m1 k0 k1 k2 k3 hbld HE hsY hoY HMU HSET iT iG hB iG1 hB1
            have iT := oT
            have iG := oG
            have hB := oB
            clear oT oG oB
            generalize w3 = W20 at *
            rw [← HBT.out] at iT hgT
            rw [← HBT.out]
            obtain ⟨T, hT⟩ : ∃ T, T = hdX c Y := ⟨_, rfl⟩
            have HTL := Lib.hid (show T.length = 4 by rw [hT]; exact (by rw [hdX_len, HYL.out]))
            have HTB := Lib.hid (show ∀ x ∈ T, x < 256 by rw [hT]; exact hdX_lt hcb HYB.out)
            have HT := Lib.hid (show xorB (colL D j) T = colL D (p + 1) by rw [HWN.out, hT]; rw [keyT_turn (by rw [← HR.out]; exact H0.out), ← HYE.out])
            have HC2 := Lib.hid (show (expN (natL key) n (p + 1 + 1 - n)).2 = mulN 2 c by rw [HCN.out]; rw [if_pos (by rw [← HR.out]; exact H0.out)])
            have hjj1 : p + 1 ≤ n + j := by have := HJ.out; omega
            have hjj2 : n + j ≤ p + 1 := by have := HJ.out; omega
            have hp0 : (0 : Int) ≤ (p : Int) + 1 := by omega
            rw [← hT] at iT
            clear hT hcb hR hsX hone HWN HCN
            clear e1 hnz hnz2
            have hT4 := HTL.out
            have cl4 : (colL D j).length = 4 := by rw [colL, List.length_take, List.length_drop, HD.out, HZ.out]; omega
            have hxl : (xorB (colL D j) T).length = 4 := by simp [xorB, cl4, hT4]
            have hE := fun w => sum_any (colL D j) T w cl4 hT4 (colL_lt HDB.out j) HTB.out
            have hRj : W20.drew.rangeAt g (j * 4) (nL (colL D j)) := by
              have h0 := nA_range (w := W20.drew) iG (j * 4) 4
              rw [thru_take_drop HD.out (by rw [HZ.out]; omega) (by omega)] at h0
              exact h0
            have HE := Lib.hid hE
            have HXL := Lib.hid hxl
            have HC4 := Lib.hid cl4
            have hlj : j < m := by omega
            have hlj1 : (j : Int) < (m : Int) := by omega
            have hlj0 : (0 : Int) ≤ (j : Int) := by omega
            have hwp : IntKind.i64.wrap ((p : Int) + 1 - (n : Int)) = (j : Int) := by rw [show (p : Int) + 1 - (n : Int) = (j : Int) by omega]; exact IntWalk.i64_in _ (by omega)
            have htn : ((p : Int) + 1).toNat = p + 1 := by omega
            clear hE hxl cl4 hT4
            refine wp_region_held_drew (S := fun W => Is W Bt 160 (nA T)) (by kernel_rfl) (Is.drewN iT 1) (fun hS => ?_)
            change wpAnyH _ _ (opsOf Tryz.f208 20) _ _ 12 (Array.replicate 12 false) _ _
            refine wpAnyH_pure (i := 0) (v := .slice (some ⟨g, 0, none⟩) m m) (at_nth rfl) (by kernel_rfl) (by kernel_rfl) (by kernel_rfl) (fun _ _ _ h => h) (by kernel_rfl) (fun w hSw => by kernel_rfl) hS ?_
            simp only [Act.put, List.setIfInBounds_toArray, List.set_cons_succ, List.set_cons_zero]
            refine wpAnyH_pure (i := 1) (v := .int .i64 ((p : Int) + 1)) (at_nth rfl) (by kernel_rfl) (by kernel_rfl) (by kernel_rfl) (fun _ _ _ h => h) (by kernel_rfl) (fun w hSw => by kernel_rfl) hS ?_
            simp only [Act.put, List.setIfInBounds_toArray, List.set_cons_succ, List.set_cons_zero]
            refine wpAnyH_pure (i := 2) (v := .slice (some ⟨g, 0, none⟩) m m) (at_nth rfl) (by kernel_rfl) (by kernel_rfl) (by kernel_rfl) (fun _ _ _ h => h) (by kernel_rfl) (fun w hSw => by kernel_rfl) hS ?_
            simp only [Act.put, List.setIfInBounds_toArray, List.set_cons_succ, List.set_cons_zero]
            refine wpAnyH_pure (i := 3) (v := .int .i64 ((p : Int) + 1)) (at_nth rfl) (by kernel_rfl) (by kernel_rfl) (by kernel_rfl) (fun _ _ _ h => h) (by kernel_rfl) (fun w hSw => by kernel_rfl) hS ?_
            simp only [Act.put, List.setIfInBounds_toArray, List.set_cons_succ, List.set_cons_zero]
            refine wpAnyH_pure (i := 4) (v := .int .i64 (n : Int)) (at_nth rfl) (by kernel_rfl) (by kernel_rfl) (by kernel_rfl) (fun _ _ _ h => h) (by kernel_rfl) (fun w hSw => by kernel_rfl) hS ?_
            simp only [Act.put, List.setIfInBounds_toArray, List.set_cons_succ, List.set_cons_zero]
            refine wpAnyH_pure (i := 5) (v := .int .i64 (j : Int)) (at_nth rfl) (by kernel_rfl) (by kernel_rfl) (by kernel_rfl) (fun _ _ _ h => h) (by kernel_rfl) (fun w hSw => by go_simp) hS ?_
            simp only [Act.put, List.setIfInBounds_toArray, List.set_cons_succ, List.set_cons_zero]
            refine wpAnyH_pure (i := 6) (v := .pointer (some ⟨g, j * 4, none⟩)) (at_nth rfl) (by kernel_rfl) (by kernel_rfl) (by kernel_rfl) (fun _ _ _ h => h) (by kernel_rfl) (fun w hSw => by go_simp) hS ?_
            simp only [Act.put, List.setIfInBounds_toArray, List.set_cons_succ, List.set_cons_zero]
            refine wpAnyH_take (i := 8) (v := .agg (nA (T))) (at_nth rfl) (by kernel_rfl) (by kernel_rfl) (by kernel_rfl) (fun _ _ _ h => h) (yieldsIf_load_mid (by kernel_rfl) 160 (.tmp 9) rfl (Bt) (0) (by kernel_rfl) (nL (T)) _ (fun _ h => nA_range0 h) Tryz.underlying160 rfl (by rw [nL_len, HTL.out]; exact info4)) hS ?_
            simp only [Act.put, List.setIfInBounds_toArray, List.set_cons_succ, List.set_cons_zero]
            refine wpAnyH_loadmid (i := 7) (b := g) (off := j * 4) (cs := nL (colL D j)) (by kernel_rfl) (at_nth rfl) (by kernel_rfl) rfl (by kernel_rfl) hRj Tryz.underlying160 rfl (by rw [nL_len, HC4.out]; exact info4) hS ?_
            rw [nL_arr]
            simp only [Act.put, List.setIfInBounds_toArray, List.set_cons_succ, List.set_cons_zero]
            refine wpAnyH_call (i := 9) (by kernel_rfl) (at_nth rfl) (by kernel_rfl) (fun w => by kernel_rfl) ((HE.out _).mono ?_)
            rintro e w1 ⟨rfl, h1⟩
            have jG : Is w1 g 160 (nA (thru D (zers (m * 4)) ((p + 1) * 4))) := Is.below (w := W20.drew) iG h1 iG.lt
            have jT : Is w1 Bt 160 (nA T) := Is.below (w := W20.drew) iT h1 iT.lt
            have jB : Below w.heap.size w w1 := (belowD hB).trans (h1.mono hB.size)
            refine ⟨_, rfl, jT, ?_⟩
            try simp only [Act.put, List.setIfInBounds_toArray, List.set_cons_succ, List.set_cons_zero]
            refine wpAnyH_pure (i := 10) (v := .pointer (some ⟨g, (p + 1) * 4, none⟩)) (at_nth rfl) (by kernel_rfl) (by kernel_rfl) (by kernel_rfl) (fun _ _ _ h => h) (by kernel_rfl) (fun w hSw => by go_simp) jT ?_
            simp only [Act.put, List.setIfInBounds_toArray, List.set_cons_succ, List.set_cons_zero]
            have hth : w1.there g ((p + 1) * 4) (nA (xorB (colL D j) T)).size := by rw [nA_size, HXL.out]; exact nA_there jG _ _ (by rw [thru_len HD.out, HZ.out]; omega)
            have hi9 : (Tryz.prog.info? 160).map (·.size) = some (nA (xorB (colL D j) T)).size := by rw [nA_size, HXL.out]; exact info4
            have mG := jG.setCells (nL (xorB (colL D j) T)) ((p + 1) * 4)
            rw [show setAll (nA (thru D (zers (m * 4)) ((p + 1) * 4))) ((p + 1) * 4) (nL (xorB (colL D j) T)) = nA (thru D (zers (m * 4)) ((p + 1 + 1) * 4)) by rw [HT.out, colL, setAll_thru HD.out _ _ (by rw [HZ.out]; omega), show (p + 1) * 4 + 4 = (p + 1 + 1) * 4 by omega]] at mG
            have mT := jT.farCells hgT.symm (nL (xorB (colL D j) T)) ((p + 1) * 4)
            have mB := belowCells q1 (nL (xorB (colL D j) T)) ((p + 1) * 4) jB
            clear hwp htn
            refine wpAnyH_storemid (i := 11) (b := g) (off := (p + 1) * 4) (cs := nA (xorB (colL D j) T)) (by kernel_rfl) (at_nth rfl) (by kernel_rfl) rfl (by kernel_rfl) (by kernel_rfl) hth hi9 (nA_one _) mT ?_
            simp only [Act.put]
            rw [nA_list]
            generalize w1.setCells g ((p + 1) * 4) (nL (xorB (colL D j) T)) = W2 at *
            refine wpAnyH_done (by kernel_rfl) ?_ _
            clear hth hi9 hRj
            go_wp2
            go_roundw
            case rel => exact ⟨p + 1, by omega, by omega, by go_num, by rw [HC2.out], mG, mB⟩
            case measure => simp [intOf]; omega
          · have e2 : ((r : Int) == 0) = false := by simp; omega
            by_cases h8 : n = 8
            · by_cases h4 : r = 4
              · have e3 : ((r : Int) == 4) = true := by simp; omega
                have e4 : ((n : Int) == 8) = true := by simp; omega
                have H8 := Lib.hid h8
                have H4 := Lib.hid h4
                clear h8 h4
                have hsY : (Tryz.prog.info? 160).map (·.size) = some (nA (X.map subN)).size := by rw [nA_size, List.length_map, HXL0.out]; exact info4
                have hoY := nA_one (X.map subN)
                have hY2 : (nA (X.map subN)).size = 4 := by rw [nA_size, List.length_map, HXL0.out]
                have HY2 := Lib.hid hY2
                have HE := Lib.hid (fun w => each_any 178 subN sub_fn X w HXL0.out HXB.out)
                clear hY2
                go_wp2_with (first | (refine wpList_load_nA rfl 160 (.tmp 43) rfl g (p * 4) rfl X _ hR Tryz.underlying160 rfl (by rw [HXL0.out]; exact info4) ?_) | (refine wpList_store_row rfl 160 (.tmp 9) (.tmp 44) rfl wr.heap.size (nA X) rfl rfl _ _ (heap_alloc_new wr _) hsX (by rw [HS2.out]; rfl) hone ?_; rw [World.setRow_alloc_new]) | (refine wpList_load_row rfl 160 (.tmp 9) rfl wr.heap.size rfl _ _ _ _ iT Tryz.underlying160 rfl hsX ?_) | (go_at_call 194; refine (HE.out _).mono ?_; rintro e w1 ⟨rfl, h1⟩; have jT := iT.below h1 iT.lt; have jG := iG.below h1 iG.lt; have jB : Below w.heap.size w w1 := hB.trans (h1.mono hB.size)) | (refine wpList_store_row rfl 160 (.tmp 9) (.tmp 77) rfl wr.heap.size (nA (X.map subN)) rfl rfl _ _ jT hsY (by rw [HS2.out, HY2.out]) hoY ?_))
                have kT : Is (w1.setRow wr.heap.size (nA (X.map subN))) wr.heap.size 160 (nA (X.map subN)) := jT.row _
                have kG := jG.rowFar hgT (nA (X.map subN))
                have kB := belowRow (g := wr.heap.size) jB HBW.out (nA (X.map subN))
                clear hsY hoY HE jT jG jB h1 iT iG hB iG1 hB1
                have iT := kT
                have iG := kG
                have hB := kB
                clear kT kG kB
                generalize (w1.setRow wr.heap.size (nA (X.map subN))) = W20 at *
                rw [← HBT.out] at iT hgT
                rw [← HBT.out]
                obtain ⟨T, hT⟩ : ∃ T, T = X.map subN := ⟨_, rfl⟩
                have HTL := Lib.hid (show T.length = 4 by rw [hT]; exact (by rw [List.length_map, HXL0.out]))
                have HTB := Lib.hid (show ∀ x ∈ T, x < 256 by rw [hT]; exact subL_lt HXB.out)
                have HT := Lib.hid (show xorB (colL D j) T = colL D (p + 1) by rw [HWN.out, hT]; rw [keyT_sub H8.out (by rw [← HR.out]; exact H4.out)]; rfl)
                have HC2 := Lib.hid (show (expN (natL key) n (p + 1 + 1 - n)).2 = c by rw [HCN.out]; rw [if_neg (by rw [← HR.out]; omega)])
                have hjj1 : p + 1 ≤ n + j := by have := HJ.out; omega
                have hjj2 : n + j ≤ p + 1 := by have := HJ.out; omega
                have hp0 : (0 : Int) ≤ (p : Int) + 1 := by omega
                rw [← hT] at iT
                clear hT hcb hR hsX hone HWN HCN
                clear e1 hnz hnz2
                have hT4 := HTL.out
                have cl4 : (colL D j).length = 4 := by rw [colL, List.length_take, List.length_drop, HD.out, HZ.out]; omega
                have hxl : (xorB (colL D j) T).length = 4 := by simp [xorB, cl4, hT4]
                have hE := fun w => sum_any (colL D j) T w cl4 hT4 (colL_lt HDB.out j) HTB.out
                have hRj : W20.drew.rangeAt g (j * 4) (nL (colL D j)) := by
                  have h0 := nA_range (w := W20.drew) iG (j * 4) 4
                  rw [thru_take_drop HD.out (by rw [HZ.out]; omega) (by omega)] at h0
                  exact h0
                have HE := Lib.hid hE
                have HXL := Lib.hid hxl
                have HC4 := Lib.hid cl4
                have hlj : j < m := by omega
                have hlj1 : (j : Int) < (m : Int) := by omega
                have hlj0 : (0 : Int) ≤ (j : Int) := by omega
                have hwp : IntKind.i64.wrap ((p : Int) + 1 - (n : Int)) = (j : Int) := by rw [show (p : Int) + 1 - (n : Int) = (j : Int) by omega]; exact IntWalk.i64_in _ (by omega)
                have htn : ((p : Int) + 1).toNat = p + 1 := by omega
                clear hE hxl cl4 hT4
                refine wp_region_held_drew (S := fun W => Is W Bt 160 (nA T)) (by kernel_rfl) (Is.drewN iT 1) (fun hS => ?_)
                change wpAnyH _ _ (opsOf Tryz.f208 20) _ _ 12 (Array.replicate 12 false) _ _
                refine wpAnyH_pure (i := 0) (v := .slice (some ⟨g, 0, none⟩) m m) (at_nth rfl) (by kernel_rfl) (by kernel_rfl) (by kernel_rfl) (fun _ _ _ h => h) (by kernel_rfl) (fun w hSw => by kernel_rfl) hS ?_
                simp only [Act.put, List.setIfInBounds_toArray, List.set_cons_succ, List.set_cons_zero]
                refine wpAnyH_pure (i := 1) (v := .int .i64 ((p : Int) + 1)) (at_nth rfl) (by kernel_rfl) (by kernel_rfl) (by kernel_rfl) (fun _ _ _ h => h) (by kernel_rfl) (fun w hSw => by kernel_rfl) hS ?_
                simp only [Act.put, List.setIfInBounds_toArray, List.set_cons_succ, List.set_cons_zero]
                refine wpAnyH_pure (i := 2) (v := .slice (some ⟨g, 0, none⟩) m m) (at_nth rfl) (by kernel_rfl) (by kernel_rfl) (by kernel_rfl) (fun _ _ _ h => h) (by kernel_rfl) (fun w hSw => by kernel_rfl) hS ?_
                simp only [Act.put, List.setIfInBounds_toArray, List.set_cons_succ, List.set_cons_zero]
                refine wpAnyH_pure (i := 3) (v := .int .i64 ((p : Int) + 1)) (at_nth rfl) (by kernel_rfl) (by kernel_rfl) (by kernel_rfl) (fun _ _ _ h => h) (by kernel_rfl) (fun w hSw => by kernel_rfl) hS ?_
                simp only [Act.put, List.setIfInBounds_toArray, List.set_cons_succ, List.set_cons_zero]
                refine wpAnyH_pure (i := 4) (v := .int .i64 (n : Int)) (at_nth rfl) (by kernel_rfl) (by kernel_rfl) (by kernel_rfl) (fun _ _ _ h => h) (by kernel_rfl) (fun w hSw => by kernel_rfl) hS ?_
                simp only [Act.put, List.setIfInBounds_toArray, List.set_cons_succ, List.set_cons_zero]
                refine wpAnyH_pure (i := 5) (v := .int .i64 (j : Int)) (at_nth rfl) (by kernel_rfl) (by kernel_rfl) (by kernel_rfl) (fun _ _ _ h => h) (by kernel_rfl) (fun w hSw => by go_simp) hS ?_
                simp only [Act.put, List.setIfInBounds_toArray, List.set_cons_succ, List.set_cons_zero]
                refine wpAnyH_pure (i := 6) (v := .pointer (some ⟨g, j * 4, none⟩)) (at_nth rfl) (by kernel_rfl) (by kernel_rfl) (by kernel_rfl) (fun _ _ _ h => h) (by kernel_rfl) (fun w hSw => by go_simp) hS ?_
                simp only [Act.put, List.setIfInBounds_toArray, List.set_cons_succ, List.set_cons_zero]
                refine wpAnyH_take (i := 8) (v := .agg (nA (T))) (at_nth rfl) (by kernel_rfl) (by kernel_rfl) (by kernel_rfl) (fun _ _ _ h => h) (yieldsIf_load_mid (by kernel_rfl) 160 (.tmp 9) rfl (Bt) (0) (by kernel_rfl) (nL (T)) _ (fun _ h => nA_range0 h) Tryz.underlying160 rfl (by rw [nL_len, HTL.out]; exact info4)) hS ?_
                simp only [Act.put, List.setIfInBounds_toArray, List.set_cons_succ, List.set_cons_zero]
                refine wpAnyH_loadmid (i := 7) (b := g) (off := j * 4) (cs := nL (colL D j)) (by kernel_rfl) (at_nth rfl) (by kernel_rfl) rfl (by kernel_rfl) hRj Tryz.underlying160 rfl (by rw [nL_len, HC4.out]; exact info4) hS ?_
                rw [nL_arr]
                simp only [Act.put, List.setIfInBounds_toArray, List.set_cons_succ, List.set_cons_zero]
                refine wpAnyH_call (i := 9) (by kernel_rfl) (at_nth rfl) (by kernel_rfl) (fun w => by kernel_rfl) ((HE.out _).mono ?_)
                rintro e w1 ⟨rfl, h1⟩
                have jG : Is w1 g 160 (nA (thru D (zers (m * 4)) ((p + 1) * 4))) := Is.below (w := W20.drew) iG h1 iG.lt
                have jT : Is w1 Bt 160 (nA T) := Is.below (w := W20.drew) iT h1 iT.lt
                have jB : Below w.heap.size w w1 := (belowD hB).trans (h1.mono hB.size)
                refine ⟨_, rfl, jT, ?_⟩
                try simp only [Act.put, List.setIfInBounds_toArray, List.set_cons_succ, List.set_cons_zero]
                refine wpAnyH_pure (i := 10) (v := .pointer (some ⟨g, (p + 1) * 4, none⟩)) (at_nth rfl) (by kernel_rfl) (by kernel_rfl) (by kernel_rfl) (fun _ _ _ h => h) (by kernel_rfl) (fun w hSw => by go_simp) jT ?_
                simp only [Act.put, List.setIfInBounds_toArray, List.set_cons_succ, List.set_cons_zero]
                have hth : w1.there g ((p + 1) * 4) (nA (xorB (colL D j) T)).size := by rw [nA_size, HXL.out]; exact nA_there jG _ _ (by rw [thru_len HD.out, HZ.out]; omega)
                have hi9 : (Tryz.prog.info? 160).map (·.size) = some (nA (xorB (colL D j) T)).size := by rw [nA_size, HXL.out]; exact info4
                have mG := jG.setCells (nL (xorB (colL D j) T)) ((p + 1) * 4)
                rw [show setAll (nA (thru D (zers (m * 4)) ((p + 1) * 4))) ((p + 1) * 4) (nL (xorB (colL D j) T)) = nA (thru D (zers (m * 4)) ((p + 1 + 1) * 4)) by rw [HT.out, colL, setAll_thru HD.out _ _ (by rw [HZ.out]; omega), show (p + 1) * 4 + 4 = (p + 1 + 1) * 4 by omega]] at mG
                have mT := jT.farCells hgT.symm (nL (xorB (colL D j) T)) ((p + 1) * 4)
                have mB := belowCells q1 (nL (xorB (colL D j) T)) ((p + 1) * 4) jB
                clear hwp htn
                refine wpAnyH_storemid (i := 11) (b := g) (off := (p + 1) * 4) (cs := nA (xorB (colL D j) T)) (by kernel_rfl) (at_nth rfl) (by kernel_rfl) rfl (by kernel_rfl) (by kernel_rfl) hth hi9 (nA_one _) mT ?_
                simp only [Act.put]
                rw [nA_list]
                generalize w1.setCells g ((p + 1) * 4) (nL (xorB (colL D j) T)) = W2 at *
                refine wpAnyH_done (by kernel_rfl) ?_ _
                clear hth hi9 hRj
                go_wp2
                go_roundw
                case rel => exact ⟨p + 1, by omega, by omega, by go_num, by rw [HC2.out], mG, mB⟩
                case measure => simp [intOf]; omega
              · -- neither
                have e3 : ((r : Int) == 4) = false := by simp; omega
                have e4 : ((n : Int) == 8) = true := by simp; omega
                have H8 := Lib.hid h8
                clear h8
                go_wp2_with (first | (refine wpList_load_nA rfl 160 _ rfl g (p * 4) rfl X _ hR Tryz.underlying160 rfl (by rw [HXL0.out]; exact info4) ?_) | (refine wpList_store_row rfl 160 _ _ rfl wr.heap.size (nA X) rfl rfl _ _ (heap_alloc_new wr _) hsX (by rw [HS2.out]; rfl) hone ?_; rw [World.setRow_alloc_new]))
                generalize (wr.alloc (.cells (nA X) 160)) = W20 at *
                rw [← HBT.out] at iT hgT
                rw [← HBT.out]
                obtain ⟨T, hT⟩ : ∃ T, T = X := ⟨_, rfl⟩
                have HTL := Lib.hid (show T.length = 4 by rw [hT]; exact HXL0.out)
                have HTB := Lib.hid (show ∀ x ∈ T, x < 256 by rw [hT]; exact HXB.out)
                have HT := Lib.hid (show xorB (colL D j) T = colL D (p + 1) by rw [HWN.out, hT]; rw [keyT_plain (by rw [← HR.out]; omega) (by have := HR.out; (try have := H8.out); omega)])
                have HC2 := Lib.hid (show (expN (natL key) n (p + 1 + 1 - n)).2 = c by rw [HCN.out]; rw [if_neg (by rw [← HR.out]; omega)])
                have hjj1 : p + 1 ≤ n + j := by have := HJ.out; omega
                have hjj2 : n + j ≤ p + 1 := by have := HJ.out; omega
                have hp0 : (0 : Int) ≤ (p : Int) + 1 := by omega
                rw [← hT] at iT
                clear hT hcb hR hsX hone HWN HCN
                clear e1 hnz hnz2
                have hT4 := HTL.out
                have cl4 : (colL D j).length = 4 := by rw [colL, List.length_take, List.length_drop, HD.out, HZ.out]; omega
                have hxl : (xorB (colL D j) T).length = 4 := by simp [xorB, cl4, hT4]
                have hE := fun w => sum_any (colL D j) T w cl4 hT4 (colL_lt HDB.out j) HTB.out
                have hRj : W20.drew.rangeAt g (j * 4) (nL (colL D j)) := by
                  have h0 := nA_range (w := W20.drew) iG (j * 4) 4
                  rw [thru_take_drop HD.out (by rw [HZ.out]; omega) (by omega)] at h0
                  exact h0
                have HE := Lib.hid hE
                have HXL := Lib.hid hxl
                have HC4 := Lib.hid cl4
                have hlj : j < m := by omega
                have hlj1 : (j : Int) < (m : Int) := by omega
                have hlj0 : (0 : Int) ≤ (j : Int) := by omega
                have hwp : IntKind.i64.wrap ((p : Int) + 1 - (n : Int)) = (j : Int) := by rw [show (p : Int) + 1 - (n : Int) = (j : Int) by omega]; exact IntWalk.i64_in _ (by omega)
                have htn : ((p : Int) + 1).toNat = p + 1 := by omega
                clear hE hxl cl4 hT4
                refine wp_region_held_drew (S := fun W => Is W Bt 160 (nA T)) (by kernel_rfl) (Is.drewN iT 1) (fun hS => ?_)
                change wpAnyH _ _ (opsOf Tryz.f208 20) _ _ 12 (Array.replicate 12 false) _ _
                refine wpAnyH_pure (i := 0) (v := .slice (some ⟨g, 0, none⟩) m m) (at_nth rfl) (by kernel_rfl) (by kernel_rfl) (by kernel_rfl) (fun _ _ _ h => h) (by kernel_rfl) (fun w hSw => by kernel_rfl) hS ?_
                simp only [Act.put, List.setIfInBounds_toArray, List.set_cons_succ, List.set_cons_zero]
                refine wpAnyH_pure (i := 1) (v := .int .i64 ((p : Int) + 1)) (at_nth rfl) (by kernel_rfl) (by kernel_rfl) (by kernel_rfl) (fun _ _ _ h => h) (by kernel_rfl) (fun w hSw => by kernel_rfl) hS ?_
                simp only [Act.put, List.setIfInBounds_toArray, List.set_cons_succ, List.set_cons_zero]
                refine wpAnyH_pure (i := 2) (v := .slice (some ⟨g, 0, none⟩) m m) (at_nth rfl) (by kernel_rfl) (by kernel_rfl) (by kernel_rfl) (fun _ _ _ h => h) (by kernel_rfl) (fun w hSw => by kernel_rfl) hS ?_
                simp only [Act.put, List.setIfInBounds_toArray, List.set_cons_succ, List.set_cons_zero]
                refine wpAnyH_pure (i := 3) (v := .int .i64 ((p : Int) + 1)) (at_nth rfl) (by kernel_rfl) (by kernel_rfl) (by kernel_rfl) (fun _ _ _ h => h) (by kernel_rfl) (fun w hSw => by kernel_rfl) hS ?_
                simp only [Act.put, List.setIfInBounds_toArray, List.set_cons_succ, List.set_cons_zero]
                refine wpAnyH_pure (i := 4) (v := .int .i64 (n : Int)) (at_nth rfl) (by kernel_rfl) (by kernel_rfl) (by kernel_rfl) (fun _ _ _ h => h) (by kernel_rfl) (fun w hSw => by kernel_rfl) hS ?_
                simp only [Act.put, List.setIfInBounds_toArray, List.set_cons_succ, List.set_cons_zero]
                refine wpAnyH_pure (i := 5) (v := .int .i64 (j : Int)) (at_nth rfl) (by kernel_rfl) (by kernel_rfl) (by kernel_rfl) (fun _ _ _ h => h) (by kernel_rfl) (fun w hSw => by go_simp) hS ?_
                simp only [Act.put, List.setIfInBounds_toArray, List.set_cons_succ, List.set_cons_zero]
                refine wpAnyH_pure (i := 6) (v := .pointer (some ⟨g, j * 4, none⟩)) (at_nth rfl) (by kernel_rfl) (by kernel_rfl) (by kernel_rfl) (fun _ _ _ h => h) (by kernel_rfl) (fun w hSw => by go_simp) hS ?_
                simp only [Act.put, List.setIfInBounds_toArray, List.set_cons_succ, List.set_cons_zero]
                refine wpAnyH_take (i := 8) (v := .agg (nA (T))) (at_nth rfl) (by kernel_rfl) (by kernel_rfl) (by kernel_rfl) (fun _ _ _ h => h) (yieldsIf_load_mid (by kernel_rfl) 160 (.tmp 9) rfl (Bt) (0) (by kernel_rfl) (nL (T)) _ (fun _ h => nA_range0 h) Tryz.underlying160 rfl (by rw [nL_len, HTL.out]; exact info4)) hS ?_
                simp only [Act.put, List.setIfInBounds_toArray, List.set_cons_succ, List.set_cons_zero]
                refine wpAnyH_loadmid (i := 7) (b := g) (off := j * 4) (cs := nL (colL D j)) (by kernel_rfl) (at_nth rfl) (by kernel_rfl) rfl (by kernel_rfl) hRj Tryz.underlying160 rfl (by rw [nL_len, HC4.out]; exact info4) hS ?_
                rw [nL_arr]
                simp only [Act.put, List.setIfInBounds_toArray, List.set_cons_succ, List.set_cons_zero]
                refine wpAnyH_call (i := 9) (by kernel_rfl) (at_nth rfl) (by kernel_rfl) (fun w => by kernel_rfl) ((HE.out _).mono ?_)
                rintro e w1 ⟨rfl, h1⟩
                have jG : Is w1 g 160 (nA (thru D (zers (m * 4)) ((p + 1) * 4))) := Is.below (w := W20.drew) iG h1 iG.lt
                have jT : Is w1 Bt 160 (nA T) := Is.below (w := W20.drew) iT h1 iT.lt
                have jB : Below w.heap.size w w1 := (belowD hB).trans (h1.mono hB.size)
                refine ⟨_, rfl, jT, ?_⟩
                try simp only [Act.put, List.setIfInBounds_toArray, List.set_cons_succ, List.set_cons_zero]
                refine wpAnyH_pure (i := 10) (v := .pointer (some ⟨g, (p + 1) * 4, none⟩)) (at_nth rfl) (by kernel_rfl) (by kernel_rfl) (by kernel_rfl) (fun _ _ _ h => h) (by kernel_rfl) (fun w hSw => by go_simp) jT ?_
                simp only [Act.put, List.setIfInBounds_toArray, List.set_cons_succ, List.set_cons_zero]
                have hth : w1.there g ((p + 1) * 4) (nA (xorB (colL D j) T)).size := by rw [nA_size, HXL.out]; exact nA_there jG _ _ (by rw [thru_len HD.out, HZ.out]; omega)
                have hi9 : (Tryz.prog.info? 160).map (·.size) = some (nA (xorB (colL D j) T)).size := by rw [nA_size, HXL.out]; exact info4
                have mG := jG.setCells (nL (xorB (colL D j) T)) ((p + 1) * 4)
                rw [show setAll (nA (thru D (zers (m * 4)) ((p + 1) * 4))) ((p + 1) * 4) (nL (xorB (colL D j) T)) = nA (thru D (zers (m * 4)) ((p + 1 + 1) * 4)) by rw [HT.out, colL, setAll_thru HD.out _ _ (by rw [HZ.out]; omega), show (p + 1) * 4 + 4 = (p + 1 + 1) * 4 by omega]] at mG
                have mT := jT.farCells hgT.symm (nL (xorB (colL D j) T)) ((p + 1) * 4)
                have mB := belowCells q1 (nL (xorB (colL D j) T)) ((p + 1) * 4) jB
                clear hwp htn
                refine wpAnyH_storemid (i := 11) (b := g) (off := (p + 1) * 4) (cs := nA (xorB (colL D j) T)) (by kernel_rfl) (at_nth rfl) (by kernel_rfl) rfl (by kernel_rfl) (by kernel_rfl) hth hi9 (nA_one _) mT ?_
                simp only [Act.put]
                rw [nA_list]
                generalize w1.setCells g ((p + 1) * 4) (nL (xorB (colL D j) T)) = W2 at *
                refine wpAnyH_done (by kernel_rfl) ?_ _
                clear hth hi9 hRj
                go_wp2
                go_roundw
                case rel => exact ⟨p + 1, by omega, by omega, by go_num, by rw [HC2.out], mG, mB⟩
                case measure => simp [intOf]; omega
            · have e4 : ((n : Int) == 8) = false := by simp; omega
              go_wp2_with (first | (refine wpList_load_nA rfl 160 _ rfl g (p * 4) rfl X _ hR Tryz.underlying160 rfl (by rw [HXL0.out]; exact info4) ?_) | (refine wpList_store_row rfl 160 _ _ rfl wr.heap.size (nA X) rfl rfl _ _ (heap_alloc_new wr _) hsX (by rw [HS2.out]; rfl) hone ?_; rw [World.setRow_alloc_new]))
              generalize (wr.alloc (.cells (nA X) 160)) = W20 at *
              rw [← HBT.out] at iT hgT
              rw [← HBT.out]
              obtain ⟨T, hT⟩ : ∃ T, T = X := ⟨_, rfl⟩
              have HTL := Lib.hid (show T.length = 4 by rw [hT]; exact HXL0.out)
              have HTB := Lib.hid (show ∀ x ∈ T, x < 256 by rw [hT]; exact HXB.out)
              have HT := Lib.hid (show xorB (colL D j) T = colL D (p + 1) by rw [HWN.out, hT]; rw [keyT_plain (by rw [← HR.out]; omega) (by have := HR.out; (try have := H8.out); omega)])
              have HC2 := Lib.hid (show (expN (natL key) n (p + 1 + 1 - n)).2 = c by rw [HCN.out]; rw [if_neg (by rw [← HR.out]; omega)])
              have hjj1 : p + 1 ≤ n + j := by have := HJ.out; omega
              have hjj2 : n + j ≤ p + 1 := by have := HJ.out; omega
              have hp0 : (0 : Int) ≤ (p : Int) + 1 := by omega
              rw [← hT] at iT
              clear hT hcb hR hsX hone HWN HCN
              clear e1 hnz hnz2
              have hT4 := HTL.out
              have cl4 : (colL D j).length = 4 := by rw [colL, List.length_take, List.length_drop, HD.out, HZ.out]; omega
              have hxl : (xorB (colL D j) T).length = 4 := by simp [xorB, cl4, hT4]
              have hE := fun w => sum_any (colL D j) T w cl4 hT4 (colL_lt HDB.out j) HTB.out
              have hRj : W20.drew.rangeAt g (j * 4) (nL (colL D j)) := by
                have h0 := nA_range (w := W20.drew) iG (j * 4) 4
                rw [thru_take_drop HD.out (by rw [HZ.out]; omega) (by omega)] at h0
                exact h0
              have HE := Lib.hid hE
              have HXL := Lib.hid hxl
              have HC4 := Lib.hid cl4
              have hlj : j < m := by omega
              have hlj1 : (j : Int) < (m : Int) := by omega
              have hlj0 : (0 : Int) ≤ (j : Int) := by omega
              have hwp : IntKind.i64.wrap ((p : Int) + 1 - (n : Int)) = (j : Int) := by rw [show (p : Int) + 1 - (n : Int) = (j : Int) by omega]; exact IntWalk.i64_in _ (by omega)
              have htn : ((p : Int) + 1).toNat = p + 1 := by omega
              clear hE hxl cl4 hT4
              refine wp_region_held_drew (S := fun W => Is W Bt 160 (nA T)) (by kernel_rfl) (Is.drewN iT 1) (fun hS => ?_)
              change wpAnyH _ _ (opsOf Tryz.f208 20) _ _ 12 (Array.replicate 12 false) _ _
              refine wpAnyH_pure (i := 0) (v := .slice (some ⟨g, 0, none⟩) m m) (at_nth rfl) (by kernel_rfl) (by kernel_rfl) (by kernel_rfl) (fun _ _ _ h => h) (by kernel_rfl) (fun w hSw => by kernel_rfl) hS ?_
              simp only [Act.put, List.setIfInBounds_toArray, List.set_cons_succ, List.set_cons_zero]
              refine wpAnyH_pure (i := 1) (v := .int .i64 ((p : Int) + 1)) (at_nth rfl) (by kernel_rfl) (by kernel_rfl) (by kernel_rfl) (fun _ _ _ h => h) (by kernel_rfl) (fun w hSw => by kernel_rfl) hS ?_
              simp only [Act.put, List.setIfInBounds_toArray, List.set_cons_succ, List.set_cons_zero]
              refine wpAnyH_pure (i := 2) (v := .slice (some ⟨g, 0, none⟩) m m) (at_nth rfl) (by kernel_rfl) (by kernel_rfl) (by kernel_rfl) (fun _ _ _ h => h) (by kernel_rfl) (fun w hSw => by kernel_rfl) hS ?_
              simp only [Act.put, List.setIfInBounds_toArray, List.set_cons_succ, List.set_cons_zero]
              refine wpAnyH_pure (i := 3) (v := .int .i64 ((p : Int) + 1)) (at_nth rfl) (by kernel_rfl) (by kernel_rfl) (by kernel_rfl) (fun _ _ _ h => h) (by kernel_rfl) (fun w hSw => by kernel_rfl) hS ?_
              simp only [Act.put, List.setIfInBounds_toArray, List.set_cons_succ, List.set_cons_zero]
              refine wpAnyH_pure (i := 4) (v := .int .i64 (n : Int)) (at_nth rfl) (by kernel_rfl) (by kernel_rfl) (by kernel_rfl) (fun _ _ _ h => h) (by kernel_rfl) (fun w hSw => by kernel_rfl) hS ?_
              simp only [Act.put, List.setIfInBounds_toArray, List.set_cons_succ, List.set_cons_zero]
              refine wpAnyH_pure (i := 5) (v := .int .i64 (j : Int)) (at_nth rfl) (by kernel_rfl) (by kernel_rfl) (by kernel_rfl) (fun _ _ _ h => h) (by kernel_rfl) (fun w hSw => by go_simp) hS ?_
              simp only [Act.put, List.setIfInBounds_toArray, List.set_cons_succ, List.set_cons_zero]
              refine wpAnyH_pure (i := 6) (v := .pointer (some ⟨g, j * 4, none⟩)) (at_nth rfl) (by kernel_rfl) (by kernel_rfl) (by kernel_rfl) (fun _ _ _ h => h) (by kernel_rfl) (fun w hSw => by go_simp) hS ?_
              simp only [Act.put, List.setIfInBounds_toArray, List.set_cons_succ, List.set_cons_zero]
              refine wpAnyH_take (i := 8) (v := .agg (nA (T))) (at_nth rfl) (by kernel_rfl) (by kernel_rfl) (by kernel_rfl) (fun _ _ _ h => h) (yieldsIf_load_mid (by kernel_rfl) 160 (.tmp 9) rfl (Bt) (0) (by kernel_rfl) (nL (T)) _ (fun _ h => nA_range0 h) Tryz.underlying160 rfl (by rw [nL_len, HTL.out]; exact info4)) hS ?_
              simp only [Act.put, List.setIfInBounds_toArray, List.set_cons_succ, List.set_cons_zero]
              refine wpAnyH_loadmid (i := 7) (b := g) (off := j * 4) (cs := nL (colL D j)) (by kernel_rfl) (at_nth rfl) (by kernel_rfl) rfl (by kernel_rfl) hRj Tryz.underlying160 rfl (by rw [nL_len, HC4.out]; exact info4) hS ?_
              rw [nL_arr]
              simp only [Act.put, List.setIfInBounds_toArray, List.set_cons_succ, List.set_cons_zero]
              refine wpAnyH_call (i := 9) (by kernel_rfl) (at_nth rfl) (by kernel_rfl) (fun w => by kernel_rfl) ((HE.out _).mono ?_)
              rintro e w1 ⟨rfl, h1⟩
              have jG : Is w1 g 160 (nA (thru D (zers (m * 4)) ((p + 1) * 4))) := Is.below (w := W20.drew) iG h1 iG.lt
              have jT : Is w1 Bt 160 (nA T) := Is.below (w := W20.drew) iT h1 iT.lt
              have jB : Below w.heap.size w w1 := (belowD hB).trans (h1.mono hB.size)
              refine ⟨_, rfl, jT, ?_⟩
              try simp only [Act.put, List.setIfInBounds_toArray, List.set_cons_succ, List.set_cons_zero]
              refine wpAnyH_pure (i := 10) (v := .pointer (some ⟨g, (p + 1) * 4, none⟩)) (at_nth rfl) (by kernel_rfl) (by kernel_rfl) (by kernel_rfl) (fun _ _ _ h => h) (by kernel_rfl) (fun w hSw => by go_simp) jT ?_
              simp only [Act.put, List.setIfInBounds_toArray, List.set_cons_succ, List.set_cons_zero]
              have hth : w1.there g ((p + 1) * 4) (nA (xorB (colL D j) T)).size := by rw [nA_size, HXL.out]; exact nA_there jG _ _ (by rw [thru_len HD.out, HZ.out]; omega)
              have hi9 : (Tryz.prog.info? 160).map (·.size) = some (nA (xorB (colL D j) T)).size := by rw [nA_size, HXL.out]; exact info4
              have mG := jG.setCells (nL (xorB (colL D j) T)) ((p + 1) * 4)
              rw [show setAll (nA (thru D (zers (m * 4)) ((p + 1) * 4))) ((p + 1) * 4) (nL (xorB (colL D j) T)) = nA (thru D (zers (m * 4)) ((p + 1 + 1) * 4)) by rw [HT.out, colL, setAll_thru HD.out _ _ (by rw [HZ.out]; omega), show (p + 1) * 4 + 4 = (p + 1 + 1) * 4 by omega]] at mG
              have mT := jT.farCells hgT.symm (nL (xorB (colL D j) T)) ((p + 1) * 4)
              have mB := belowCells q1 (nL (xorB (colL D j) T)) ((p + 1) * 4) jB
              clear hwp htn
              refine wpAnyH_storemid (i := 11) (b := g) (off := (p + 1) * 4) (cs := nA (xorB (colL D j) T)) (by kernel_rfl) (at_nth rfl) (by kernel_rfl) rfl (by kernel_rfl) (by kernel_rfl) hth hi9 (nA_one _) mT ?_
              simp only [Act.put]
              rw [nA_list]
              generalize w1.setCells g ((p + 1) * 4) (nL (xorB (colL D j) T)) = W2 at *
              refine wpAnyH_done (by kernel_rfl) ?_ _
              clear hth hi9 hRj
              go_wp2
              go_roundw
              case rel => exact ⟨p + 1, by omega, by omega, by go_num, by rw [HC2.out], mG, mB⟩
              case measure => simp [intOf]; omega
        · have hi1 : ¬ (p : Int) + 1 < (m : Int) := by omega
          rw [thru_all HD.out (by rw [HZ.out]; omega)] at iG
          go_wp2
          refine bodyPost_ret (v := .slice (some ⟨g, 0, none⟩) m m) (by simp [results, Tryz.results208, go_sem]) rfl ⟨g, by rw [HM.out], by rw [← HDE.out]; exact iG, q1, hB⟩
end Go.Proofs.YtfgdcpolfekgjaaGreat
namespace Go.Proofs.YtfgdcpolfekgjaaGreat
open Go.RowKit Go.Shelf

/-- 'copy(dst, src)' of slices whose elements have several cells each. -/
theorem run_copy_wide {P : Program} (w : World) (dT sT ty elem : TypeId) (size k b o dLen dCap : Nat) (a : Addr) (sLen sCap : Nat) (cs : List Value)
    (hu : P.underlying dT = some (.slice elem)) (hs : (P.info? elem).map (·.size) = some size) (hk : Nat.min sLen dLen = k) (hn : cs.length = k * size)
    (hsrc : ∀ j v, cs[j]? = some v → w.cell? (a.add j) = some v) (ht : w.there b o cs.length) (h1 : ∀ v ∈ cs, v.oneCell' = true) :
    (Builtin.copy_ #[dT, sT] ty #[.slice (some ⟨b, o, none⟩) dLen dCap, .slice (some a) sLen sCap]).run P w = .ok (goInt k) (w.setCells b o cs) := by
  have hl := run_loadCells_list (P := P) w a cs hsrc
  have hst := run_storeCells_cells (P := P) b o cs 0 w (fun j hj => (ht j hj).1) (fun j hj => (ht j hj).2) h1
  cases hq : P.info? elem with
  | none => simp [hq] at hs
  | some i =>
    have hi : i.size = size := by simpa [hq] using hs
    simp [Builtin.copy_, run_underlying hu, Builtin.lenOf, Builtin.firstCells, sizeOf, typeInfo, hq, hi, hk, ← hn, hl, hst]

/-- block k of sixteen bytes. -/
def sqL (D : List Nat) (k : Nat) : List Nat := (D.drop (k * 16)).take 16
theorem keyK_sq (key : List Nat) (r : Nat) : keyK key r = sqL (expB key) r := by rw [keyK, sqL, Nat.mul_comm]

set_option maxRecDepth 100000 in
set_option maxHeartbeats 1000000 in
theorem squaresOf_any (D : List Nat) (n g : Nat) (w : World) (hD : D.length = n * 16) (hn : n ≤ 15) (hn1 : 1 ≤ n) (hG : Is w g 160 (nA D)) :
    Calls Tryz.prog 207 #[.slice (some ⟨g, 0, none⟩) (4 * n) (4 * n)] w fun e w' => ∃ h, e = .returned (.slice (some ⟨h, 0, none⟩) n n) ∧ Is w' h 233 (nA D) ∧ w.heap.size ≤ h ∧ Below w.heap.size w w' := by
  obtain ⟨i0, hi, hz0, hz1, hz2⟩ := infoThree infoSquare
  have HI := Lib.hid hi
  have HZ0 := Lib.hid hz0
  have HZ1 := Lib.hid hz1
  have HZ2 := Lib.hid hz2
  have HDL := Lib.hid hD
  have HD := Lib.hid (show D.length = (zers (n * 16)).length by rw [hD, zers_len])
  have HZ := Lib.hid (zers_len (n * 16))
  obtain ⟨m, hm⟩ : ∃ m, m = 4 * n := ⟨_, rfl⟩
  rw [← hm]
  have HM := Lib.hid hm
  have hq : (m : Int) / 4 = (n : Int) := by omega
  have hm60 : m ≤ 60 := by omega
  have hm4 : m ≤ 4 * n := by omega
  have hm5 : 4 * n ≤ m := by omega
  clear hi hz0 hz1 hz2 hD hm
  go_enter Tryz.func207, Tryz.ntmps207
  go_wp2_with (refine wpList_make_full _ rfl _ _ 229 rfl w.heap.size 233 i0 (.agg (nA zer16)) 16 Tryz.underlying229 HI.out HZ0.out HZ1.out .i64 .i64 _ _ n rfl rfl rfl rfl (by rw [HZ2.out]; omega) (by unfold maxLen; omega) (Nat.le_refl _) ?_; intro wm hown hg; rw [show (Value.agg (nA zer16)).cells = nA zer16 from rfl, made_zers16] at hown; obtain ⟨iH, hgB⟩ := owned_is hown; have hB0 : Below w.heap.size w wm := (Below.refl _ _).grown hg (Nat.le_refl _) (fun k e => by cases e))
  have iG : Is wm g 160 (nA D) := hG.below hB0 hG.lt
  obtain ⟨h, hh⟩ : ∃ h, h = w.heap.size := ⟨_, rfl⟩
  rw [← hh] at iH
  rw [← hh]
  have q1 : w.heap.size ≤ h := by omega
  have q2 : g ≠ h := by have := hG.lt; omega
  clear hh hown hg hgB hq hG
  go_loopw [11] (fun a wr => ∃ i : Nat, i ≤ n ∧ a = .int .i64 (i : Int) ∧ Is wr h 233 (nA (thru D (zers (n * 16)) (i * 16))) ∧ Is wr g 160 (nA D) ∧ Below w.heap.size w wr)
    (fun a _ => n - (intOf a).toNat)
  case atStart => exact ⟨0, by omega, rfl, by rw [Nat.zero_mul, thru_zero]; exact iH, iG, hB0⟩
  case round =>
    clear iG iH hB0
    obtain ⟨i, hi, rfl, iH, iG, hB⟩ := hrel
    by_cases hlt : i < n
    · have hi1 : (i : Int) < (n : Int) := by omega
      have hi0 : (0 : Int) ≤ (i : Int) := by omega
      have hl16 : (nL (sqL D i)).length = 4 * 4 := by rw [nL_len, sqL, List.length_take, List.length_drop, HDL.out]; omega
      have hrg := nA_range (w := wr.drew) iG (i * 16) 16
      have hcp := run_copy_wide (P := Tryz.prog) wr.drew 258 258 3 160 4 4 h (i * 16) 4 4 ⟨g, i * 4 * 4, none⟩ (m - i * 4) (m - i * 4) (nL (sqL D i)) Tryz.underlying258 info4 (Nat.min_eq_right (by omega)) hl16 (fun j v hj => by
        have := hrg j v hj
        rw [Addr.add_mid, show i * 4 * 4 = i * 16 by omega]; exact this) (by rw [hl16]; exact nA_there (w := wr.drew) iH (i * 16) _ (by rw [thru_len HD.out, HZ.out]; omega)) (fun u hu => by obtain ⟨x, _, rfl⟩ := List.mem_map.1 hu; rfl)
      have w1 : IntKind.i64.wrap ((i : Int) * 4) = ((i * 4 : Nat) : Int) := by rw [IntWalk.i64_in _ (by omega)]; omega
      have hle1 : ((i * 4 : Nat) : Int) ≤ (m : Int) := by omega
      have hle2 : i * 4 ≤ m := by omega
      have hle0 : (0 : Int) ≤ ((i * 4 : Nat) : Int) := by omega
      have hne : ¬ m = i * 4 := by omega
      have hne2 : ¬ i * 4 = m := by omega
      clear hl16 hrg
      go_wp2
      go_region
      clear hcp w1
      go_wp2
      go_roundw
      case rel =>
        have mH := Is.setCells (w := wr.drew) (nL (sqL D i)) (i * 16) iH
        rw [sqL, setAll_thru HD.out _ _ (by rw [HZ.out]; omega), show i * 16 + 16 = (i + 1) * 16 by omega] at mH
        exact ⟨i + 1, by omega, by go_num, mH, Is.farCells (w := wr.drew) q2 _ _ iG, belowCells (w := wr.drew) q1 _ _ (belowD hB)⟩
      case measure => simp [intOf]; omega
    · have hi1 : ¬ (i : Int) < (n : Int) := by omega
      rw [thru_all HD.out (by rw [HZ.out]; omega)] at iH
      go_wp2
      exact bodyPost_ret (v := .slice (some ⟨h, 0, none⟩) n n) (by simp [results, Tryz.results207, go_sem]) rfl ⟨h, rfl, iH, q1, hB⟩
end Go.Proofs.YtfgdcpolfekgjaaGreat

