/-
  Contracts of the blocks' own steps in package aes (eachByte, eachColumn, plus, shifted, squareOf, text), over lists of 16 bytes. Conditions: the arguments are bytes.
-/
import Derived.Test.YtjfeloimlgfocaaAesA
namespace Go.Proofs.Ytjfeloimlgfocaa
open Go.RowKit Go.Shelf

/-- the first n of D, then what stands behind in S. -/
def thru (D S : List Nat) (n : Nat) : List Nat := D.take n ++ S.drop n
section
variable {D S : List Nat} {n : Nat}
theorem thru_zero (D S : List Nat) : thru D S 0 = S := by simp [thru]
theorem thru_all (h : D.length = S.length) (hn : S.length ≤ n) : thru D S n = D := by
  rw [thru, List.take_of_length_le (by omega), List.drop_of_length_le hn, List.append_nil]
theorem thru_len (h : D.length = S.length) : (thru D S n).length = S.length := by
  rw [thru, List.length_append, List.length_take, List.length_drop]; omega
theorem thru_drop (h : D.length = S.length) (hn : n ≤ S.length) : (thru D S n).drop n = S.drop n := by
  rw [thru, List.drop_append_of_le_length (by rw [List.length_take]; omega), List.drop_of_length_le (by rw [List.length_take]; omega), List.nil_append]
theorem thru_set (h : D.length = S.length) (hn : n < S.length) : (thru D S n).set n (D.getD n 0) = thru D S (n + 1) := by
  have hd : S.drop n = S[n] :: S.drop (n + 1) := List.drop_eq_getElem_cons hn
  have ht : D.take (n + 1) = D.take n ++ [D[n]'(by omega)] := List.take_succ_eq_append_getElem (by omega)
  have hl : (D.take n).length = n := by rw [List.length_take]; omega
  rw [thru, thru, ht, hd, List.set_append_right _ _ (by omega), hl, Nat.sub_self, List.set_cons_zero, List.append_assoc]
  rw [List.getD_eq_getElem?_getD, List.getElem?_eq_getElem (by omega : n < D.length)]
  rfl
end
/-- bytes as a list of cells. -/
def nL (X : List Nat) : List Value := X.map fun x : Nat => Value.int .u8 (x : Int)
theorem nL_arr (X : List Nat) : (nL X).toArray = nA X := rfl
theorem nA_list (X : List Nat) : (nA X).toList = nL X := rfl
theorem nL_len (X : List Nat) : (nL X).length = X.length := by simp [nL]
theorem nA_range {w : World} {g : Nat} {t : TypeId} {X : List Nat} (h : Is w g t (nA X)) (o n : Nat) : w.rangeAt g o (nL ((X.drop o).take n)) := by
  have := World.rangeAt_of_block h o n
  rw [show ((nA X).extract o (o + n)).toList = nL ((X.drop o).take n) by simp [nA, nL, List.map_take, List.map_drop, List.extract_eq_take_drop]] at this
  exact this
theorem nA_there {w : World} {g : Nat} {t : TypeId} {X : List Nat} (h : Is w g t (nA X)) (o n : Nat) (hn : o + n ≤ X.length) : w.there g o n := fun j hj => ⟨by rw [h.cell, nA_get _ _ (by omega)]; rfl, h.frozen _⟩

/-- cells set one behind the other. -/
def setAll (cs : Array Value) (o : Nat) : List Value → Array Value
  | [] => cs
  | v :: r => setAll (cs.setIfInBounds o v) (o + 1) r
theorem Is.setCells {g : Nat} {t : TypeId} : ∀ (vs : List Value) {w : World} {cs : Array Value} (o : Nat), Is w g t cs → Is (w.setCells g o vs) g t (setAll cs o vs)
  | [], _, _, _, h => h
  | _ :: r, _, _, o, h => Is.setCells r (o + 1) (h.set o _)
theorem Is.farCells {g b : Nat} {t : TypeId} {cs : Array Value} (hb : g ≠ b) : ∀ (vs : List Value) {w : World} (o : Nat), Is w g t cs → Is (w.setCells b o vs) g t cs
  | [], _, _, h => h
  | _ :: r, _, o, h => Is.farCells hb r (o + 1) (h.far (p := ⟨b, o, none⟩) hb _)
theorem belowCells {B b : Nat} {a : World} (hb : B ≤ b) : ∀ (vs : List Value) {w : World} (o : Nat), Below B a w → Below B a (w.setCells b o vs)
  | [], _, _, h => h
  | _ :: r, _, o, h => belowCells hb r (o + 1) (h.setCell (p := ⟨b, o, none⟩) hb _)
theorem setAll_thru {D S : List Nat} (h : D.length = S.length) : ∀ (m n : Nat), n + m ≤ S.length → setAll (nA (thru D S n)) n (nL ((D.drop n).take m)) = nA (thru D S (n + m))
  | 0, n, _ => by simp [nL, setAll]
  | m + 1, n, hn => by
    have hd : (D.drop n).take (m + 1) = D.getD n 0 :: (D.drop (n + 1)).take m := by
      rw [List.drop_eq_getElem_cons (by omega : n < D.length), List.take_succ_cons, List.getD_eq_getElem?_getD, List.getElem?_eq_getElem (by omega : n < D.length)]; rfl
    rw [hd]
    show setAll ((nA (thru D S n)).setIfInBounds n (.int .u8 ((D.getD n 0 : Nat) : Int))) (n + 1) (nL _) = _
    rw [nA_set, thru_set h (by omega), setAll_thru h m (n + 1) (by omega), show n + 1 + m = n + (m + 1) by omega]

/-- four bytes out of a block. -/
theorem wpList_load_nA {P : Program} {ops : Array Oper} {rest : List Oper} {op : Oper} {a : Act} {w : World} {Q : Exit → Act → World → Prop} (hgd : op.guard = none) (ty : TypeId) (x : Operand) (ho : op.op = .load ty x)
    (b o : Nat) (hx : a.eval x = .pointer (some ⟨b, o, none⟩)) (X : List Nat) (d : TypeDesc) (hc : w.rangeAt b o (nL X))
    (hu : P.underlying ty = some d) (hd : d.isRow = true) (hi : (P.info? ty).map (·.size) = some X.length)
    (h : wpList P ops Q rest (a.put op.dst (.agg (nA X))) w) : wpList P ops Q (op :: rest) a w :=
  wpList_load_mid hgd ty x ho b o hx (nL X) d hc hu hd (by rw [nL_len]; exact hi) h
/-- bytes into a block. -/
theorem wpList_store_nA {P : Program} {ops : Array Oper} {rest : List Oper} {op : Oper} {a : Act} {w : World} {Q : Exit → Act → World → Prop} (hgd : op.guard = none) (ty : TypeId) (x y : Operand) (ho : op.op = .store ty x y)
    (b o : Nat) (X : List Nat) (hx : a.eval x = .pointer (some ⟨b, o, none⟩)) (hy : a.eval y = .agg (nA X))
    (ht : w.there b o X.length) (hi : (P.info? ty).map (·.size) = some X.length)
    (h : wpList P ops Q rest (a.put op.dst undef) (w.setCells b o (nL X))) : wpList P ops Q (op :: rest) a w :=
  wpList_store_mid hgd ty x y ho b o (nA X) hx hy (by rw [nA_size]; exact ht) (by rw [nA_size]; exact hi) (nA_one X) h

theorem info4 : (Try.prog.info? 58).map (·.size) = some 4 := by kernel_rfl
theorem info16 : (Try.prog.info? 60).map (·.size) = some 16 := by kernel_rfl
/-- sixteen noughts. -/
def zer16 : List Nat := List.replicate 16 0
/-- column k. -/
def colL (S : List Nat) (k : Nat) : List Nat := (S.drop (k * 4)).take 4
theorem colL_len {S : List Nat} (h : S.length = 16) {k : Nat} (hk : k < 4) : (colL S k).length = 4 := by
  rw [colL, List.length_take, List.length_drop]; omega
theorem colL_lt {S : List Nat} (h : ∀ x ∈ S, x < 256) (k : Nat) : ∀ x ∈ colL S k, x < 256 := fun x hx => h x (List.mem_of_mem_drop (List.mem_of_mem_take hx))
theorem col_thru {D S : List Nat} (hD : D.length = S.length) (hS : S.length = 16) {k : Nat} (hk : k < 4) : colL (thru D S (k * 4)) k = colL S k := by
  rw [colL, colL, thru_drop hD (by omega)]

set_option maxRecDepth 100000 in
set_option maxHeartbeats 1000000 in
theorem eachByte_any (F : FuncId) (f : Nat → Nat) (hF : ByteFn F f) (S : List Nat) (w : World) (hS : S.length = 16) (hb : ∀ x ∈ S, x < 256) :
    Calls Try.prog 26 #[.agg (nA S), .func (.func F) #[] #[]] w fun e w' => e = .returned (.agg (nA (S.map f))) ∧ Below w.heap.size w w' := by
  have HS := Lib.hid hS
  have hz : #[Value.int .u8 0, .int .u8 0, .int .u8 0, .int .u8 0, .int .u8 0, .int .u8 0, .int .u8 0, .int .u8 0, .int .u8 0, .int .u8 0, .int .u8 0, .int .u8 0, .int .u8 0, .int .u8 0, .int .u8 0, .int .u8 0] = nA zer16 := rfl
  have HD := Lib.hid (show (S.map f).length = S.length by simp)
  clear hS
  go_enter Try.func26, Try.ntmps26
  go_wp2
  clear hz
  have iX : Is ((w.alloc (.cells (nA S) 60)).alloc (.cells (nA zer16) 60)) w.heap.size 60 (nA S) := (Is.new w _ _).alloc _
  have iR : Is ((w.alloc (.cells (nA S) 60)).alloc (.cells (nA zer16) 60)) (w.heap.size + 1) 60 (nA zer16) := heap_alloc2_new w _ _
  have hB0 : Below w.heap.size w ((w.alloc (.cells (nA S) 60)).alloc (.cells (nA zer16) 60)) := ((Below.refl _ _).alloc (Nat.le_refl _) _).alloc (by simp) _
  generalize ((w.alloc (.cells (nA S) 60)).alloc (.cells (nA zer16) 60)) = W0 at *
  obtain ⟨Bx, hBx⟩ : ∃ Bx, Bx = w.heap.size := ⟨_, rfl⟩
  obtain ⟨Br, hBr⟩ : ∃ Br, Br = w.heap.size + 1 := ⟨_, rfl⟩
  rw [← hBr, ← hBx]
  rw [← hBx] at iX
  rw [← hBr] at iR
  have q1 : w.heap.size ≤ Bx := by omega
  have q2 : w.heap.size ≤ Br := by omega
  have q3 : Br ≠ Bx := by omega
  clear hBx hBr
  go_loopw [6] (fun i wr => ∃ k : Nat, k ≤ 4 ∧ i = .int .i64 (k : Int) ∧ Is wr Bx 60 (nA (thru (S.map f) S (k * 4))) ∧ Is wr Br 60 (nA zer16) ∧ Below w.heap.size w wr)
    (fun i _ => 4 - (intOf i).toNat)
  case atStart => exact ⟨0, by omega, rfl, by rw [Nat.zero_mul, thru_zero]; exact iX, iR, hB0⟩
  case round =>
    clear iX iR hB0
    obtain ⟨k, hk, rfl, iX, iR, hB⟩ := hrel
    by_cases hlt : k < 4
    · have hi1 : (k : Int) < 4 := by omega
      have hR : wr.rangeAt Bx (k * 4) (nL (colL S k)) := by
        have := nA_range iX (k * 4) 4
        rw [← colL, col_thru HD.out HS.out hlt] at this
        exact this
      have hcl := colL_len HS.out hlt
      have HE := Lib.hid (each_any F f hF (colL S k) wr hcl (colL_lt hb k))
      have HCL := Lib.hid hcl
      have hmap : (colL S k).map f = colL (S.map f) k := by simp [colL, List.map_take, List.map_drop]
      have HMP := Lib.hid hmap
      clear hcl hmap
      go_wp2_with (first
        | (refine wpList_load_nA rfl 58 _ rfl Bx (k * 4) rfl (colL S k) _ hR Try.underlying58 rfl (by rw [HCL.out]; exact info4) ?_)
        | (go_at_call 47; refine HE.out.mono ?_; rintro e w1 ⟨rfl, h1⟩; have jX := iX.below h1 iX.lt; have jR := iR.below h1 iR.lt; have jB : Below w.heap.size w w1 := hB.trans (h1.mono hB.size))
        | (refine wpList_store_nA rfl 58 _ _ rfl Bx (k * 4) ((colL S k).map f) rfl rfl (nA_there jX _ _ (by rw [thru_len HD.out, HS.out, List.length_map, HCL.out]; omega)) (by rw [List.length_map, HCL.out]; exact info4) ?_))
      go_roundw
      case rel =>
        refine ⟨k + 1, by omega, by go_num, ?_, jR.farCells q3 _ _, belowCells q1 _ _ jB⟩
        have := jX.setCells (nL ((colL S k).map f)) (k * 4)
        rw [HMP.out, colL, setAll_thru HD.out _ _ (by rw [HS.out]; omega), show k * 4 + 4 = (k + 1) * 4 by omega] at this
        rw [HMP.out]
        exact this
      case measure => simp [intOf]; omega
    · have hi1 : ¬ (k : Int) < 4 := by omega
      obtain rfl : k = 4 := by omega
      rw [thru_all HD.out (by rw [HS.out]; omega)] at iX
      have hl : (S.map f).length = 16 := by rw [List.length_map, HS.out]
      have hone := nA_one (S.map f)
      have hin : (Try.prog.info? 60).map (·.size) = some (nA (S.map f)).size := by rw [nA_size, hl]; exact info16
      have hs2 : (nA (S.map f)).size = 16 := by rw [nA_size, hl]
      generalize hR : nA (S.map f) = R at *
      have HR := Lib.hid hR
      clear hR
      go_wp2_with (first
        | (refine wpList_load_row rfl 60 _ rfl Bx rfl _ _ _ _ iX Try.underlying60 rfl hin ?_)
        | (refine wpList_store_row rfl 60 _ _ rfl Br R rfl rfl _ _ iR hin (by rw [hs2]; rfl) hone ?_))
      refine bodyPost_ret (results_cell_row Try.results26 _ _ Br 60 R (0, 0) _ rfl (iR.row _) Try.underlying60 rfl hin) rfl ⟨by rw [HR.out], ?_⟩
      exact belowRow hB q2 _
/-- a word: four bytes. -/
structure Wd (X : List Nat) : Prop where
  len : X.length = 4
  lt : ∀ x ∈ X, x < 256
/-- a call of a word that tells f, and leaves all that was there as it was. -/
def ColFn (F : FuncId) (f : List Nat → List Nat) : Prop := Enters Try.prog F ∧ ∀ (X : List Nat) (w : World), Wd X → Wd (f X) ∧ Calls Try.prog F #[.agg (nA X)] w fun e w' => e = .returned (.agg (nA (f X))) ∧ Below w.heap.size w w'
/-- a word mixed, and what undoes it. -/
def mixW (X : List Nat) : List Nat := (mixC (colN X 0)).nl
def unmW (X : List Nat) : List Nat := (unC3 (colN X 0)).nl
theorem Wd.col {X : List Nat} (h : Wd X) : nA X = (colN X 0).arr := by
  match X, h.len with
  | [a, b, c, d], _ => rfl
theorem mix_fn : ColFn 31 mixW := ⟨enters_of Try.func31 (by kernel_rfl) rfl, fun X w h => ⟨⟨rfl, C4.nl_lt (mixC_ok (colN_ok h.lt 0))⟩, by
  rw [h.col]
  exact mix_any (colN X 0) w (colN_ok h.lt 0)⟩⟩
theorem unmix_fn : ColFn 35 unmW := ⟨enters_of Try.func35 (by kernel_rfl) rfl, fun X w h => ⟨⟨rfl, C4.nl_lt (unC3_ok (colN_ok h.lt 0))⟩, by
  rw [h.col]
  exact unmix_any (colN X 0) w (colN_ok h.lt 0)⟩⟩
/-- each column by f. -/
def colsL (f : List Nat → List Nat) (S : List Nat) : List Nat := f (colL S 0) ++ f (colL S 1) ++ f (colL S 2) ++ f (colL S 3)
section
variable {f : List Nat → List Nat} (hf : ∀ X, Wd X → (f X).length = 4) {S : List Nat} (hS : S.length = 16) (hb : ∀ x ∈ S, x < 256)
include hf hS hb
theorem colsL_len : (colsL f S).length = 16 := by
  simp only [colsL, List.length_append, hf _ ⟨colL_len hS (by omega : 0 < 4), colL_lt hb 0⟩, hf _ ⟨colL_len hS (by omega : 1 < 4), colL_lt hb 1⟩, hf _ ⟨colL_len hS (by omega : 2 < 4), colL_lt hb 2⟩, hf _ ⟨colL_len hS (by omega : 3 < 4), colL_lt hb 3⟩]
theorem colL_cols {k : Nat} (hk : k < 4) : colL (colsL f S) k = f (colL S k) := by
  have h0 := hf _ ⟨colL_len hS (by omega : 0 < 4), colL_lt hb 0⟩
  have h1 := hf _ ⟨colL_len hS (by omega : 1 < 4), colL_lt hb 1⟩
  have h2 := hf _ ⟨colL_len hS (by omega : 2 < 4), colL_lt hb 2⟩
  have h3 := hf _ ⟨colL_len hS (by omega : 3 < 4), colL_lt hb 3⟩
  have e : ∀ T, colL T k = (T.drop (k * 4)).take 4 := fun _ => rfl
  rw [e]
  unfold colsL
  rcases (by omega : k = 0 ∨ k = 1 ∨ k = 2 ∨ k = 3) with rfl | rfl | rfl | rfl
  · rw [List.append_assoc, List.append_assoc, Nat.zero_mul, List.drop_zero, List.take_left' h0]
  · rw [List.append_assoc, List.append_assoc, List.drop_left' h0, List.take_left' h1]
  · rw [List.append_assoc, List.drop_left' (by rw [List.length_append, h0, h1]), List.take_left' h2]
  · rw [List.drop_left' (by rw [List.length_append, List.length_append, h0, h1, h2]), List.take_of_length_le (by omega)]
end
theorem cols_mix {S : List Nat} (h : S.length = 16) : colsL mixW S = mixL S := by
  obtain ⟨a0, a1, a2, a3, a4, a5, a6, a7, a8, a9, a10, a11, a12, a13, a14, a15, rfl⟩ := list16 h
  rfl
theorem cols_unmix {S : List Nat} (h : S.length = 16) : colsL unmW S = unmixL S := by
  obtain ⟨a0, a1, a2, a3, a4, a5, a6, a7, a8, a9, a10, a11, a12, a13, a14, a15, rfl⟩ := list16 h
  rfl

set_option maxRecDepth 100000 in
set_option maxHeartbeats 1000000 in
theorem eachColumn_any (F : FuncId) (f : List Nat → List Nat) (hF : ColFn F f) (S : List Nat) (w : World) (hS : S.length = 16) (hb : ∀ x ∈ S, x < 256) :
    Calls Try.prog 30 #[.agg (nA S), .func (.func F) #[] #[]] w fun e w' => e = .returned (.agg (nA (colsL f S))) ∧ Below w.heap.size w w' := by
  have HS := Lib.hid hS
  have hz : #[Value.int .u8 0, .int .u8 0, .int .u8 0, .int .u8 0, .int .u8 0, .int .u8 0, .int .u8 0, .int .u8 0, .int .u8 0, .int .u8 0, .int .u8 0, .int .u8 0, .int .u8 0, .int .u8 0, .int .u8 0, .int .u8 0] = nA zer16 := rfl
  have HD := Lib.hid ((colsL_len (fun X h => (hF.2 X w h).1.len) hS hb).trans hS.symm)
  clear hS
  go_enter Try.func30, Try.ntmps30
  go_wp2
  clear hz
  have iX : Is ((w.alloc (.cells (nA S) 60)).alloc (.cells (nA zer16) 60)) w.heap.size 60 (nA S) := (Is.new w _ _).alloc _
  have iR : Is ((w.alloc (.cells (nA S) 60)).alloc (.cells (nA zer16) 60)) (w.heap.size + 1) 60 (nA zer16) := heap_alloc2_new w _ _
  have hB0 : Below w.heap.size w ((w.alloc (.cells (nA S) 60)).alloc (.cells (nA zer16) 60)) := ((Below.refl _ _).alloc (Nat.le_refl _) _).alloc (by simp) _
  generalize ((w.alloc (.cells (nA S) 60)).alloc (.cells (nA zer16) 60)) = W0 at *
  obtain ⟨Bx, hBx⟩ : ∃ Bx, Bx = w.heap.size := ⟨_, rfl⟩
  obtain ⟨Br, hBr⟩ : ∃ Br, Br = w.heap.size + 1 := ⟨_, rfl⟩
  rw [← hBr, ← hBx]
  rw [← hBx] at iX
  rw [← hBr] at iR
  have q1 : w.heap.size ≤ Bx := by omega
  have q2 : w.heap.size ≤ Br := by omega
  have q3 : Br ≠ Bx := by omega
  clear hBx hBr
  go_loopw [6] (fun i wr => ∃ k : Nat, k ≤ 4 ∧ i = .int .i64 (k : Int) ∧ Is wr Bx 60 (nA (thru (colsL f S) S (k * 4))) ∧ Is wr Br 60 (nA zer16) ∧ Below w.heap.size w wr)
    (fun i _ => 4 - (intOf i).toNat)
  case atStart => exact ⟨0, by omega, rfl, by rw [Nat.zero_mul, thru_zero]; exact iX, iR, hB0⟩
  case round =>
    clear iX iR hB0
    obtain ⟨k, hk, rfl, iX, iR, hB⟩ := hrel
    by_cases hlt : k < 4
    · have hi1 : (k : Int) < 4 := by omega
      have hR : wr.rangeAt Bx (k * 4) (nL (colL S k)) := by
        have := nA_range iX (k * 4) 4
        rw [← colL, col_thru HD.out HS.out hlt] at this
        exact this
      have hcl := colL_len HS.out hlt
      have hwd : Wd (colL S k) := ⟨hcl, colL_lt hb k⟩
      have HE := Lib.hid (hF.2 (colL S k) wr hwd).2
      have HFL := Lib.hid (hF.2 (colL S k) wr hwd).1.len
      have hen := hF.1 #[.agg (nA (colL S k))]
      have HCL := Lib.hid hcl
      have hmap : f (colL S k) = colL (colsL f S) k := (colL_cols (fun X h => (hF.2 X w h).1.len) HS.out hb hlt).symm
      have HMP := Lib.hid hmap
      clear hcl hmap hwd
      go_wp2_with (first
        | (refine wpList_load_nA rfl 58 _ rfl Bx (k * 4) rfl (colL S k) _ hR Try.underlying58 rfl (by rw [HCL.out]; exact info4) ?_)
        | (refine HE.out.mono ?_; rintro e w1 ⟨rfl, h1⟩; have jX := iX.below h1 iX.lt; have jR := iR.below h1 iR.lt; have jB : Below w.heap.size w w1 := hB.trans (h1.mono hB.size))
        | (refine wpList_store_nA rfl 58 _ _ rfl Bx (k * 4) (f (colL S k)) rfl rfl (nA_there jX _ _ (by rw [thru_len HD.out, HS.out, HFL.out]; omega)) (by rw [HFL.out]; exact info4) ?_))
      go_roundw
      case rel =>
        refine ⟨k + 1, by omega, by go_num, ?_, jR.farCells q3 _ _, belowCells q1 _ _ jB⟩
        have := jX.setCells (nL (f (colL S k))) (k * 4)
        rw [HMP.out, colL, setAll_thru HD.out _ _ (by rw [HS.out]; omega), show k * 4 + 4 = (k + 1) * 4 by omega] at this
        rw [HMP.out]
        exact this
      case measure => simp [intOf]; omega
    · have hi1 : ¬ (k : Int) < 4 := by omega
      obtain rfl : k = 4 := by omega
      rw [thru_all HD.out (by rw [HS.out]; omega)] at iX
      have hl : (colsL f S).length = 16 := by rw [HD.out, HS.out]
      have hone := nA_one (colsL f S)
      have hin : (Try.prog.info? 60).map (·.size) = some (nA (colsL f S)).size := by rw [nA_size, hl]; exact info16
      have hs2 : (nA (colsL f S)).size = 16 := by rw [nA_size, hl]
      generalize hR : nA (colsL f S) = R at *
      have HR := Lib.hid hR
      clear hR
      go_wp2_with (first
        | (refine wpList_load_row rfl 60 _ rfl Bx rfl _ _ _ _ iX Try.underlying60 rfl hin ?_)
        | (refine wpList_store_row rfl 60 _ _ rfl Br R rfl rfl _ _ iR hin (by rw [hs2]; rfl) hone ?_))
      refine bodyPost_ret (results_cell_row Try.results30 _ _ Br 60 R (0, 0) _ rfl (iR.row _) Try.underlying60 rfl hin) rfl ⟨by rw [HR.out], ?_⟩
      exact belowRow hB q2 _
end Go.Proofs.Ytjfeloimlgfocaa
