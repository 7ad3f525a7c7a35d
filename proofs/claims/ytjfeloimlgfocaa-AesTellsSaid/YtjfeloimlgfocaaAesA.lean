/-
  Contracts of aes.each and aes.sum, over words of four bytes. Conditions: the arguments are bytes; what each is handed is a function of bytes that leaves all that was there as it was.
-/
import Derived.Test.YtjfeloimlgfocaaFldU
import Derived.Test.YtjfeloimlgfocaaAesK
import Derived.Shelf.Abstract
import Derived.RegionTactic
namespace Go.Proofs.Ytjfeloimlgfocaa
open Go.RowKit Go.Shelf

/-- bytes as cells. -/
def nA (X : List Nat) : Array Value := (X.map fun x : Nat => Value.int .u8 (x : Int)).toArray
theorem nA_size (X : List Nat) : (nA X).size = X.length := by simp [nA]
theorem nA_one (X : List Nat) : (nA X).all (·.oneCell') = true := by
  rw [Array.all_eq_true_iff_forall_mem]
  intro v hv
  simp only [nA, List.mem_toArray, List.mem_map] at hv
  obtain ⟨x, _, rfl⟩ := hv
  rfl
theorem nA_get (X : List Nat) (j : Nat) (h : j < X.length) : (nA X)[j]? = some (.int .u8 ((X.getD j 0 : Nat) : Int)) := by
  simp [nA, h]
theorem nA_set (X : List Nat) (j : Nat) (x : Nat) : (nA X).setIfInBounds j (.int .u8 (x : Int)) = nA (X.set j x) := by
  simp [nA, List.map_set]
theorem C4.nA (x : C4) : nA x.nl = x.arr := rfl

theorem belowD {B : Nat} {a w : World} (h : Below B a w) : Below B a w.drew := ⟨h.os, h.tape, h.output, h.size, h.block⟩
/-- a call of a byte that tells f, and leaves all that was there as it was. -/
def ByteFn (F : FuncId) (f : Nat → Nat) : Prop := Enters Try.prog F ∧ ∀ (a : Nat) (w : World), a < 256 → f a < 256 ∧ Calls Try.prog F #[.int .u8 (a : Int)] w fun e w' => e = .returned (.int .u8 ((f a : Nat) : Int)) ∧ Below w.heap.size w w'
theorem sub_fn : ByteFn 27 subN := ⟨enters_of Try.func27 (by kernel_rfl) rfl, fun a w ha => ⟨(inv_at ha).s, fsub_any a w ha⟩⟩
theorem back_fn : ByteFn 36 backN := ⟨enters_of Try.func36 (by kernel_rfl) rfl, fun a w ha => ⟨(inv_at ha).b, fback_any a w ha⟩⟩

/-- the first k mapped. -/
def mapTo (f : Nat → Nat) (X : List Nat) (k : Nat) : List Nat := (X.take k).map f ++ X.drop k
theorem mapTo_zero (f : Nat → Nat) (X : List Nat) : mapTo f X 0 = X := by simp [mapTo]
theorem mapTo_all (f : Nat → Nat) (X : List Nat) (k : Nat) (h : X.length ≤ k) : mapTo f X k = X.map f := by
  rw [mapTo, List.take_of_length_le h, List.drop_of_length_le h, List.append_nil]
theorem mapTo_length (f : Nat → Nat) (X : List Nat) (k : Nat) : (mapTo f X k).length = X.length := by
  rw [mapTo, List.length_append, List.length_map, List.length_take, List.length_drop]; omega
theorem mapTo_get (f : Nat → Nat) (X : List Nat) (k : Nat) : (mapTo f X k).getD k 0 = X.getD k 0 := by
  rw [mapTo, List.getD_eq_getElem?_getD, List.getD_eq_getElem?_getD]
  by_cases h : k < X.length
  · rw [List.getElem?_append_right (by simp; omega)]
    simp only [List.length_map, List.length_take, List.getElem?_drop]
    congr 2; omega
  · rw [List.getElem?_eq_none (by simp; omega), List.getElem?_eq_none (by omega)]
theorem mapTo_succ (f : Nat → Nat) (X : List Nat) (k : Nat) (h : k < X.length) : (mapTo f X k).set k (f (X.getD k 0)) = mapTo f X (k + 1) := by
  have hd : X.drop k = X[k] :: X.drop (k + 1) := List.drop_eq_getElem_cons h
  have ht : X.take (k + 1) = X.take k ++ [X[k]] := List.take_succ_eq_append_getElem h
  rw [mapTo, mapTo, ht, hd, List.set_append_right _ _ (by simp; omega)]
  have e : k - ((X.take k).map f).length = 0 := by simp; omega
  rw [e]
  simp only [List.map_append, List.map_cons, List.map_nil, List.set_cons_zero, List.append_assoc, List.cons_append, List.nil_append]
  rw [List.getD_eq_getElem?_getD, List.getElem?_eq_getElem h]
  rfl

theorem getD_mem_lt {X : List Nat} (hb : ∀ x ∈ X, x < 256) (k : Nat) : X.getD k 0 < 256 := getD_lt hb k
theorem nA4_info {X : List Nat} (h : X.length = 4) : (Try.prog.info? 58).map (·.size) = some (nA X).size := by rw [nA_size, h]; kernel_rfl

set_option maxRecDepth 100000 in
set_option maxHeartbeats 1000000 in
theorem each_any (F : FuncId) (f : Nat → Nat) (hF : ByteFn F f) (X : List Nat) (w : World) (hX : X.length = 4) (hb : ∀ x ∈ X, x < 256) :
    Calls Try.prog 47 #[.agg (nA X), .func (.func F) #[] #[]] w fun e w' => e = .returned (.agg (nA (X.map f))) ∧ Below w.heap.size w w' := by
  have HX := Lib.hid hX
  have hz : #[Value.int .u8 0, .int .u8 0, .int .u8 0, .int .u8 0] = nA [0, 0, 0, 0] := rfl
  clear hX
  go_enter Try.func47, Try.ntmps47
  go_wp2
  clear hz
  have iX : Is ((w.alloc (.cells (nA X) 58)).alloc (.cells (nA [0, 0, 0, 0]) 58)) w.heap.size 58 (nA X) := (Is.new w _ _).alloc _
  have iR : Is ((w.alloc (.cells (nA X) 58)).alloc (.cells (nA [0, 0, 0, 0]) 58)) (w.heap.size + 1) 58 (nA [0, 0, 0, 0]) := heap_alloc2_new w _ _
  have hB0 : Below w.heap.size w ((w.alloc (.cells (nA X) 58)).alloc (.cells (nA [0, 0, 0, 0]) 58)) := ((Below.refl _ _).alloc (Nat.le_refl _) _).alloc (by simp) _
  generalize ((w.alloc (.cells (nA X) 58)).alloc (.cells (nA [0, 0, 0, 0]) 58)) = W0 at *
  obtain ⟨Bx, hBx⟩ : ∃ Bx, Bx = w.heap.size := ⟨_, rfl⟩
  obtain ⟨Br, hBr⟩ : ∃ Br, Br = w.heap.size + 1 := ⟨_, rfl⟩
  rw [← hBr, ← hBx]
  rw [← hBx] at iX
  rw [← hBr] at iR
  have q1 : w.heap.size ≤ Bx := by omega
  have q2 : w.heap.size ≤ Br := by omega
  have q3 : Br ≠ Bx := by omega
  clear hBx hBr
  go_loopw [6] (fun i wr => ∃ k : Nat, k ≤ 4 ∧ i = .int .i64 (k : Int) ∧ Is wr Bx 58 (nA (mapTo f X k)) ∧ Is wr Br 58 (nA [0, 0, 0, 0]) ∧ Below w.heap.size w wr)
    (fun i _ => 4 - (intOf i).toNat)
  case atStart => exact ⟨0, by omega, rfl, by rw [mapTo_zero]; exact iX, iR, hB0⟩
  case round =>
    clear iX iR hB0
    obtain ⟨k, hk, rfl, iX, iR, hB⟩ := hrel
    by_cases hlt : k < 4
    · have hi1 : (k : Int) < 4 := by omega
      have hkl : k < X.length := by rw [HX.out]; exact hlt
      have cX : wr.cell? ⟨Bx, k, none⟩ = some (.int .u8 ((X.getD k 0 : Nat) : Int)) := by rw [iX.cell k, nA_get _ _ (by rw [mapTo_length]; exact hkl), mapTo_get]
      have hC := (hF.2 (X.getD k 0) wr (getD_mem_lt hb k)).2
      have hE := hF.1 #[.int .u8 ((X.getD k 0 : Nat) : Int)]
      have hst := mapTo_succ f X k hkl
      generalize X.getD k 0 = x at *
      have HC := Lib.hid hC
      have HST := Lib.hid hst
      clear hst hC hkl
      go_wp2_with fail
      refine HC.out.mono ?_
      rintro e w1 ⟨rfl, h1⟩
      have jX := iX.below h1 iX.lt
      have jR := iR.below h1 iR.lt
      have jB : Below w.heap.size w w1 := hB.trans (h1.mono hB.size)
      have d1 : w1.cell? ⟨Bx, k, none⟩ = some (.int .u8 (x : Int)) := (h1.cell (p := ⟨Bx, k, none⟩) iX.lt).trans cX
      have e1 := jX.frozen k
      generalize hfx : f x = y at *
      clear h1 cX
      go_wp2
      go_roundw
      case rel =>
        refine ⟨k + 1, by omega, by go_num, ?_, jR.far (p := ⟨Bx, k, none⟩) q3 _, jB.setCell q1 _⟩
        have := jX.set k (.int .u8 (y : Int))
        rw [nA_set, HST.out] at this
        exact this
      case measure => simp [intOf]; omega
    · have hi1 : ¬ (k : Int) < 4 := by omega
      obtain rfl : k = 4 := by omega
      rw [mapTo_all _ _ _ (by rw [HX.out]; omega)] at iX
      have hl : (X.map f).length = 4 := by rw [List.length_map, HX.out]
      have hone := nA_one (X.map f)
      have hin := nA4_info hl
      have hs2 : (nA (X.map f)).size = 4 := by rw [nA_size, hl]
      generalize hR : nA (X.map f) = R at *
      have HR := Lib.hid hR
      clear hR
      go_wp2_with (first
        | (refine wpList_load_row rfl 58 _ rfl Bx rfl _ _ _ _ iX Try.underlying58 rfl hin ?_)
        | (refine wpList_store_row rfl 58 _ _ rfl Br R rfl rfl _ _ iR hin (by rw [hs2]; rfl) hone ?_))
      refine bodyPost_ret (results_cell_row Try.results47 _ _ Br 58 R (0, 0) _ rfl (iR.row _) Try.underlying58 rfl hin) rfl ⟨by rw [HR.out], ?_⟩
      exact belowRow hB q2 _

/-- the first k put together. -/
def xorTo (X Y : List Nat) (k : Nat) : List Nat := xorB (X.take k) (Y.take k) ++ X.drop k
theorem xorTo_zero (X Y : List Nat) : xorTo X Y 0 = X := by simp [xorTo, xorB]
theorem xorTo_all (X Y : List Nat) (k : Nat) (h : X.length ≤ k) (hY : Y.length ≤ k) : xorTo X Y k = xorB X Y := by
  rw [xorTo, List.take_of_length_le h, List.take_of_length_le hY, List.drop_of_length_le h, List.append_nil]
theorem xorTo_length (X Y : List Nat) (k : Nat) (h : X.length = Y.length) : (xorTo X Y k).length = X.length := by
  simp [xorTo, xorB, ← h]; omega
theorem xorTo_get (X Y : List Nat) (k : Nat) (h : X.length = Y.length) (hk : k < X.length) : (xorTo X Y k).getD k 0 = X.getD k 0 := by
  rw [xorTo, getD_app_right (by simp [xorB, ← h]; omega)]
  simp only [xorB, List.length_zipWith, List.length_take, ← h, Nat.min_self]
  rw [List.getD_eq_getElem?_getD, List.getElem?_drop, List.getD_eq_getElem?_getD]
  congr 2; omega
theorem xorTo_succ (X Y : List Nat) (k : Nat) (h : X.length = Y.length) (hk : k < X.length) : (xorTo X Y k).set k (X.getD k 0 ^^^ Y.getD k 0) = xorTo X Y (k + 1) := by
  have hd : X.drop k = X[k] :: X.drop (k + 1) := List.drop_eq_getElem_cons hk
  have ht : X.take (k + 1) = X.take k ++ [X[k]] := List.take_succ_eq_append_getElem hk
  have ht2 : Y.take (k + 1) = Y.take k ++ [Y[k]'(by omega)] := List.take_succ_eq_append_getElem (by omega)
  have hl : (xorB (X.take k) (Y.take k)).length = k := by simp [xorB, ← h]; omega
  rw [xorTo, xorTo, ht, ht2, hd, List.set_append_right _ _ (by omega), hl, Nat.sub_self, List.set_cons_zero]
  rw [show xorB (X.take k ++ [X[k]]) (Y.take k ++ [Y[k]'(by omega)]) = xorB (X.take k) (Y.take k) ++ [X[k] ^^^ Y[k]'(by omega)] by
    unfold xorB; rw [List.zipWith_append (by simp; omega)]; rfl]
  rw [List.getD_eq_getElem?_getD, List.getElem?_eq_getElem hk, List.getD_eq_getElem?_getD, List.getElem?_eq_getElem (by omega : k < Y.length), List.append_assoc]
  rfl

set_option maxRecDepth 100000 in
set_option maxHeartbeats 1000000 in
theorem sum_any (X Y : List Nat) (w : World) (hX : X.length = 4) (hY : Y.length = 4) (hb : ∀ x ∈ X, x < 256) (hc : ∀ x ∈ Y, x < 256) :
    Calls Try.prog 51 #[.agg (nA X), .agg (nA Y)] w fun e w' => e = .returned (.agg (nA (xorB X Y))) ∧ Below w.heap.size w w' := by
  have hz : #[Value.int .u8 0, .int .u8 0, .int .u8 0, .int .u8 0] = nA [0, 0, 0, 0] := rfl
  have HX := Lib.hid hX
  have HY := Lib.hid hY
  have HXY := Lib.hid (hX.trans hY.symm)
  clear hX hY
  go_enter Try.func51, Try.ntmps51
  go_wp2
  clear hz
  have iX : Is (((w.alloc (.cells (nA X) 58)).alloc (.cells (nA Y) 58)).alloc (.cells (nA [0, 0, 0, 0]) 58)) w.heap.size 58 (nA X) := ((Is.new w _ _).alloc _).alloc _
  have iY : Is (((w.alloc (.cells (nA X) 58)).alloc (.cells (nA Y) 58)).alloc (.cells (nA [0, 0, 0, 0]) 58)) (w.heap.size + 1) 58 (nA Y) := Is.alloc (heap_alloc2_new w _ _) _
  have iR : Is (((w.alloc (.cells (nA X) 58)).alloc (.cells (nA Y) 58)).alloc (.cells (nA [0, 0, 0, 0]) 58)) (w.heap.size + 1 + 1) 58 (nA [0, 0, 0, 0]) := by
    have := Is.new ((w.alloc (.cells (nA X) 58)).alloc (.cells (nA Y) 58)) 58 (nA [0, 0, 0, 0])
    simpa using this
  have hB0 : Below w.heap.size w (((w.alloc (.cells (nA X) 58)).alloc (.cells (nA Y) 58)).alloc (.cells (nA [0, 0, 0, 0]) 58)) := (((Below.refl _ _).alloc (Nat.le_refl _) _).alloc (by simp) _).alloc (by simp; omega) _
  generalize (((w.alloc (.cells (nA X) 58)).alloc (.cells (nA Y) 58)).alloc (.cells (nA [0, 0, 0, 0]) 58)) = W0 at *
  obtain ⟨Bx, hBx⟩ : ∃ Bx, Bx = w.heap.size := ⟨_, rfl⟩
  obtain ⟨By, hBy⟩ : ∃ By, By = w.heap.size + 1 := ⟨_, rfl⟩
  obtain ⟨Br, hBr⟩ : ∃ Br, Br = w.heap.size + 1 + 1 := ⟨_, rfl⟩
  rw [← hBr, ← hBy, ← hBx]
  rw [← hBx] at iX
  rw [← hBy] at iY
  rw [← hBr] at iR
  have q1 : w.heap.size ≤ Bx := by omega
  have q2 : w.heap.size ≤ Br := by omega
  have q3 : Br ≠ Bx := by omega
  have q4 : By ≠ Bx := by omega
  clear hBx hBr hBy
  go_loopw [6] (fun i wr => ∃ k : Nat, k ≤ 4 ∧ i = .int .i64 (k : Int) ∧ Is wr Bx 58 (nA (xorTo X Y k)) ∧ Is wr By 58 (nA Y) ∧ Is wr Br 58 (nA [0, 0, 0, 0]) ∧ Below w.heap.size w wr)
    (fun i _ => 4 - (intOf i).toNat)
  case atStart => exact ⟨0, by omega, rfl, by rw [xorTo_zero]; exact iX, iY, iR, hB0⟩
  case round =>
    clear iX iY iR hB0
    obtain ⟨k, hk, rfl, iX, iY, iR, hB⟩ := hrel
    by_cases hlt : k < 4
    · have hi1 : (k : Int) < 4 := by omega
      have hkl : k < X.length := by rw [HX.out]; exact hlt
      have hyl : k < Y.length := by rw [HY.out]; exact hlt
      have cX : wr.cell? ⟨Bx, k, none⟩ = some (.int .u8 ((X.getD k 0 : Nat) : Int)) := by rw [iX.cell k, nA_get _ _ (by rw [xorTo_length _ _ _ HXY.out]; exact hkl), xorTo_get _ _ _ HXY.out hkl]
      have cY : wr.cell? ⟨By, k, none⟩ = some (.int .u8 ((Y.getD k 0 : Nat) : Int)) := by rw [iY.cell k, nA_get _ _ hyl]
      have fX := iX.frozen k
      have hx := u8_xor_nat _ _ (getD_mem_lt hb k) (getD_mem_lt hc k)
      have hst := xorTo_succ X Y k HXY.out hkl
      generalize X.getD k 0 = x at *
      generalize Y.getD k 0 = y at *
      have hst2 := nA_set (xorTo X Y k) k (x ^^^ y)
      rw [hst, ← hx] at hst2
      have HST := Lib.hid hst2
      clear hst hst2 hx hkl hyl
      go_wp2
      go_region
      go_wp2
      go_roundw
      case rel =>
        refine ⟨k + 1, by omega, by go_num, ?_, iY.far (p := ⟨Bx, k, none⟩) q4 _, iR.far (p := ⟨Bx, k, none⟩) q3 _, belowD (hB.setCell (p := ⟨Bx, k, none⟩) q1 _)⟩
        have := iX.set k (.int .u8 (bits .xor .u8 (x : Int) (y : Int)))
        rw [HST.out] at this
        exact this
      case measure => simp [intOf]; omega
    · have hi1 : ¬ (k : Int) < 4 := by omega
      obtain rfl : k = 4 := by omega
      rw [xorTo_all _ _ _ (by rw [HX.out]; omega) (by rw [HY.out]; omega)] at iX
      have hl : (xorB X Y).length = 4 := by simp [xorB, HX.out, HY.out]
      have hone := nA_one (xorB X Y)
      have hin := nA4_info hl
      have hs2 : (nA (xorB X Y)).size = 4 := by rw [nA_size, hl]
      generalize hR : nA (xorB X Y) = R at *
      have HR := Lib.hid hR
      clear hR
      go_wp2_with (first
        | (refine wpList_load_row rfl 58 _ rfl Bx rfl _ _ _ _ iX Try.underlying58 rfl hin ?_)
        | (refine wpList_store_row rfl 58 _ _ rfl Br R rfl rfl _ _ iR hin (by rw [hs2]; rfl) hone ?_))
      refine bodyPost_ret (results_cell_row Try.results51 _ _ Br 58 R (0, 0) _ rfl (iR.row _) Try.underlying58 rfl hin) rfl ⟨by rw [HR.out], ?_⟩
      exact belowRow hB q2 _
end Go.Proofs.Ytjfeloimlgfocaa
