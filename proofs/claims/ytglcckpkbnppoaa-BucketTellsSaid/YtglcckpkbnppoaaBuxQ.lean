/-
  slices.SortFunc at pairs of texts: the shelf's contract, laid over this program; strings.Compare; what bucket.All sorts by.
-/
import Derived.Test.YtglcckpkbnppoaaBuxP
import Derived.Shelf.SlSortCmp.WholeK
import Derived.Shelf.SlSortCmp.NoneTotal
import Derived.Shelf.Small.Strs
namespace Go.Proofs.Ytglcckpkbnppoaa
open Go.RowKit Go.Shelf Go.Lib Go.Sort

def renF12 (n : Nat) : Nat := if n = 6 then 41 else if n = 14 then 53 else if n = 15 then 54 else if n = 20 then 60 else if n = 21 then 61 else if n = 22 then 62 else if n = 23 then 63 else if n = 24 then 64 else if n = 25 then 65 else if n = 26 then 66 else if n = 27 then 67 else if n = 28 then 68 else if n = 29 then 69 else if n = 46 then 72 else if n = 47 then 73 else if n = 48 then 74 else if n = 49 then 75 else if n = 50 then 76 else if n = 57 then 77 else n
def renT12 (n : Nat) : Nat := if n = 0 then 0 else if n = 3 then 3 else if n = 4 then 4 else if n = 5 then 5 else if n = 9 then 9 else if n = 22 then 42 else if n = 24 then 53 else if n = 25 then 69 else if n = 39 then 74 else if n = 45 then 89 else if n = 46 then 90 else if n = 50 then 70 else if n = 53 then 96 else if n = 55 then 98 else if n = 66 then 99 else if n = 70 then 103 else if n = 76 then 105 else if n = 77 then 62 else n
def ren12 : Ren := ⟨renF12, renT12, fun n => n⟩
theorem lays12 : SlLaysF0.n6 Try.prog ren12 where
  mixed := by kernel_rfl
  f6 := ⟨"slices.SortFunc[[][2]string,[2]string]", by decide, Try.func41.trans (by kernel_rfl)⟩
  f14 := ⟨"slices.pdqsortCmpFunc[[2]string]", by decide, Try.func53.trans (by kernel_rfl)⟩
  f15 := Try.func54.trans (by kernel_rfl)
  f20 := ⟨"slices.insertionSortCmpFunc[[2]string]", by decide, Try.func60.trans (by kernel_rfl)⟩
  f21 := ⟨"slices.heapSortCmpFunc[[2]string]", by decide, Try.func61.trans (by kernel_rfl)⟩
  f22 := ⟨"slices.breakPatternsCmpFunc[[2]string]", by decide, Try.func62.trans (by kernel_rfl)⟩
  f23 := ⟨"slices.choosePivotCmpFunc[[2]string]", by decide, Try.func63.trans (by kernel_rfl)⟩
  f24 := ⟨"slices.reverseRangeCmpFunc[[2]string]", by decide, Try.func64.trans (by kernel_rfl)⟩
  f25 := ⟨"slices.partialInsertionSortCmpFunc[[2]string]", by decide, Try.func65.trans (by kernel_rfl)⟩
  f26 := ⟨"slices.partitionEqualCmpFunc[[2]string]", by decide, Try.func66.trans (by kernel_rfl)⟩
  f27 := ⟨"slices.partitionCmpFunc[[2]string]", by decide, Try.func67.trans (by kernel_rfl)⟩
  f28 := Try.func68.trans (by kernel_rfl)
  f29 := Try.func69.trans (by kernel_rfl)
  f46 := ⟨"slices.siftDownCmpFunc[[2]string]", by decide, Try.func72.trans (by kernel_rfl)⟩
  f47 := Try.func73.trans (by kernel_rfl)
  f48 := Try.func74.trans (by kernel_rfl)
  f49 := ⟨"slices.medianAdjacentCmpFunc[[2]string]", by decide, Try.func75.trans (by kernel_rfl)⟩
  f50 := ⟨"slices.medianCmpFunc[[2]string]", by decide, Try.func76.trans (by kernel_rfl)⟩
  f57 := ⟨"slices.order2CmpFunc[[2]string]", by decide, Try.func77.trans (by kernel_rfl)⟩
  t0 := Try.underlying0
  a0 := Try.isAgg0
  z0 := Try.sizeOf0
  v0 := Try.zeroValue0
  t3 := Try.underlying3
  a3 := Try.isAgg3
  z3 := Try.sizeOf3
  v3 := Try.zeroValue3
  t4 := Try.underlying4
  a4 := Try.isAgg4
  z4 := Try.sizeOf4
  v4 := Try.zeroValue4
  t5 := Try.underlying5
  a5 := Try.isAgg5
  z5 := Try.sizeOf5
  v5 := Try.zeroValue5
  t9 := Try.underlying9
  a9 := Try.isAgg9
  z9 := Try.sizeOf9
  v9 := Try.zeroValue9
  t22 := Try.underlying42
  a22 := Try.isAgg42
  z22 := Try.sizeOf42
  v22 := Try.zeroValue42
  t25 := Try.underlying69
  a25 := Try.isAgg69
  z25 := Try.sizeOf69
  v25 := Try.zeroValue69
  t39 := Try.underlying74
  a39 := Try.isAgg74
  z39 := Try.sizeOf74
  v39 := Try.zeroValue74
  t45 := Try.underlying89
  a45 := Try.isAgg89
  z45 := Try.sizeOf89
  v45 := Try.zeroValue89
  t46 := Try.underlying90
  a46 := Try.isAgg90
  z46 := Try.sizeOf90
  v46 := Try.zeroValue90
  t50 := Try.underlying70
  a50 := Try.isAgg70
  z50 := Try.sizeOf70
  v50 := Try.zeroValue70
  t53 := Try.underlying96
  a53 := Try.isAgg96
  z53 := Try.sizeOf96
  v53 := Try.zeroValue96
  t55 := Try.underlying98
  a55 := Try.isAgg98
  z55 := Try.sizeOf98
  v55 := Try.zeroValue98
  t66 := Try.underlying99
  a66 := Try.isAgg99
  z66 := Try.sizeOf99
  v66 := Try.zeroValue99
  t70 := Try.underlying103
  a70 := Try.isAgg103
  z70 := Try.sizeOf103
  v70 := Try.zeroValue103
  t76 := Try.underlying105
  a76 := Try.isAgg105
  z76 := Try.sizeOf105
  v76 := Try.zeroValue105
  t77 := Try.underlying62
  a77 := Try.isAgg62
  z77 := Try.sizeOf62
  v77 := Try.zeroValue62
def renG12 (n : Nat) : Nat := if n = 106 then 43 else if n = 213 then 55 else if n = 265 then 70 else n
def renH12 (n : Nat) : Nat := if n = 3 then 3 else if n = 9 then 9 else n
def renc12 : Ren := ⟨renG12, renH12, fun n => n⟩
theorem laysc12 : Lays.n106 Try.prog renc12 where
  mixed := by kernel_rfl
  f106 := Try.func43.trans (by kernel_rfl)
  f213 := Try.func55.trans (by kernel_rfl)
  f265 := Try.func70.trans (by kernel_rfl)
  t3 := Try.underlying3
  a3 := Try.isAgg3
  z3 := Try.sizeOf3
  v3 := Try.zeroValue3
  t9 := Try.underlying9
  a9 := Try.isAgg9
  z9 := Try.sizeOf9
  v9 := Try.zeroValue9
abbrev Par12 := ByteArray × ByteArray
def enc12 (x : Par12) : List Value := [.string x.1, .string x.2]
def cmp12 (x y : Par12) : Int := Lib.compareBytes x.1.data.toList y.1.data.toList
set_option maxHeartbeats 1000000 in
theorem closure12 (x y : Par12) (W : World) : Calls Try.prog 42 #[.agg #[.string x.1, .string x.2], .agg #[.string y.1, .string y.2]] W fun e w' => e = .returned (.int .i64 (cmp12 x y)) ∧ ∃ q os', w' = grow (W.drewN q) os' := by
  have hcon := fun W' => Any.strings_Compare laysc12 x.1 y.1 W'
  change ∀ W', Calls Try.prog 43 _ _ _ at hcon
  have hr : cmp12 x y = Lib.compareBytes x.1.data.toList y.1.data.toList := rfl
  rw [hr]
  generalize Lib.compareBytes x.1.data.toList y.1.data.toList = r at hcon ⊢
  clear hr
  have HC := Lib.hid hcon
  clear hcon
  obtain ⟨x1, x2⟩ := x
  obtain ⟨y1, y2⟩ := y
  simp only at HC ⊢
  go_enter Try.func42, Try.ntmps42
  go_wp2_with (go_at_call 43; refine (HC.out _).mono ?_; rintro e w' ⟨rfl, rfl⟩)
  go_ret
  exact ⟨rfl, 0, _, by rw [alloc_eq_grow, alloc_eq_grow, grow_grow]; rfl⟩
theorem cmpb_less12 : ∀ a b : List UInt8, decide (Lib.compareBytes a b < 0) = Op.bytesLess a b
  | [], [] => rfl
  | [], _ :: _ => rfl
  | _ :: _, [] => rfl
  | x :: a, y :: b => by
    have ih := cmpb_less12 a b
    show decide ((if x < y then (-1 : Int) else if y < x then 1 else Lib.compareBytes a b) < 0) = (decide (x < y) || (x == y && Op.bytesLess a b))
    by_cases h1 : x < y
    · simp [h1]
    · by_cases h2 : y < x
      · have hne : (x == y) = false := by
          rw [beq_eq_false_iff_ne]
          rintro rfl
          exact UInt8.lt_irrefl _ h2
        simp [h1, h2, hne]
      · have he : x = y := by
          rw [UInt8.not_lt] at h1 h2
          exact UInt8.le_antisymm h2 h1
        rw [if_neg h1, if_neg h2, ih]
        simp [he]
def ltP12 (x y : Par12) : Bool := Op.bytesLess x.1.data.toList y.1.data.toList
theorem ltOf12 (x y : Par12) : ltOf cmp12 x y = ltP12 x y := cmpb_less12 _ _
theorem swo12 : SWO (ltOf cmp12) where
  irrefl x := by rw [ltOf12]; exact less_irr12 _
  trans x y z h1 h2 := by rw [ltOf12] at *; exact less_trans12 _ _ _ h1 h2
  ntrans x y z h1 h2 := by
    rw [ltOf12] at *
    cases h3 : ltP12 x z with
    | false => rfl
    | true =>
      exfalso
      cases h4 : ltP12 y x with
      | true => rw [show ltP12 y z = true from less_trans12 _ _ _ h4 h3] at h2; cases h2
      | false =>
        have := less_tot12 _ _ h1 h4
        have h5 : ltP12 y z = true := by unfold ltP12 at h3 ⊢; rw [← this]; exact h3
        rw [h5] at h2; cases h2
abbrev flP (L : List Par12) : List Value := L.flatMap fun x => [.string x.1, .string x.2]
theorem flP_len (L : List Par12) : (flP L).length = L.length * 2 := by
  induction L with
  | nil => rfl
  | cons x r ih => rw [flP, List.flatMap_cons, List.length_append, ih, List.length_cons]; simp only [List.length_cons, List.length_nil]; omega
theorem flP_at {L : List Par12} {k : Nat} {x : Par12} (h : L[k]? = some x) (j : Nat) (hj : j < 2) : (flP L)[k * 2 + j]? = ([.string x.1, .string x.2] : List Value)[j]? := by
  induction L generalizing k with
  | nil => rw [List.getElem?_nil] at h; cases h
  | cons y r ih =>
    rw [flP, List.flatMap_cons, List.getElem?_append]
    cases k with
    | zero => cases h; rw [if_pos (by show 0 * 2 + j < 2; omega), Nat.zero_mul, Nat.zero_add]
    | succ k =>
      rw [List.getElem?_cons_succ] at h
      rw [if_neg (by show ¬ (k + 1) * 2 + j < 2; omega), ← ih h]
      congr 1
      show (k + 1) * 2 + j - 2 = _
      omega
theorem flP_one (L : List Par12) : ∀ u ∈ flP L, u.oneCell' = true := fun u hu => by
  obtain ⟨x, _, hx⟩ := List.mem_flatMap.1 hu
  simp only [List.mem_cons, List.not_mem_nil, or_false] at hx
  rcases hx with rfl | rfl <;> rfl
theorem flP_app (A B : List Par12) : flP (A ++ B) = flP A ++ flP B := by simp [flP]
theorem flatK12 (L : List Par12) {j : Nat} (hj : j < L.length * 2) : (flP L)[j]? = some (flatK enc12 2 L.toArray)[j]! := by
  have hk : L[j / 2]? = some L[j / 2] := List.getElem?_eq_getElem (by omega)
  rw [get_flatK enc12 2 L.toArray j (by simpa using hj)]
  have h1 := flP_at hk (j % 2) (by omega)
  rw [show j / 2 * 2 + j % 2 = j by omega] at h1
  rw [h1]
  have e : L.toArray[j / 2]! = L[j / 2] := by
    rw [getElem!_pos _ _ (by simp; omega)]; simp
  rw [e]
  have : j % 2 = 0 ∨ j % 2 = 1 := by omega
  rcases this with e | e <;> (rw [e]; rfl)
/-- a row of pairs of one's own. -/
abbrev RowP (W : World) (base : Nat) (A : Option Addr) (c : Nat) (L : List Par12) : Prop := RowV W base 53 2 A c L.length (flP L)
theorem grown_sorted12 {w : World} {g n off : Nat} {os : Array Obj} (d : Array Value) : w.grownBy (grow (putRow id (Sort.ahead w n) g off d) os) (some g) := by
  refine ⟨rfl, rfl, rfl, by simp, fun k hk hne => ?_⟩
  rw [heap_grow_old _ _ (by simpa using hk)]
  have : g ≠ k := fun e => hne (by rw [e])
  simp [putRow, mapBlock, Sort.ahead, Array.getElem?_modify, this]
theorem pair_agg12 (w : World) : (isAgg 53).run Try.prog w = .ok true w := Try.isAgg53 w
theorem pair_size12 (w : World) : (Go.sizeOf 53).run Try.prog w = .ok 2 w := Try.sizeOf53 w
/-- sorted by labels. -/
theorem sort_any12 (A : Option Addr) (c base : Nat) (L : List Par12) (w : World) (h : RowP w base A c L) (hl : L.length ≤ 4096) :
    Calls Try.prog 41 #[.slice A L.length c, .func (.func 42) #[] #[]] w fun e w' => e = .returned (.tuple #[]) ∧ ∃ L' : List Par12, L'.length = L.length ∧ L'.Perm L ∧ (L'.Pairwise fun x y => ltP12 y x = false) ∧ InV w' A (flP L') ∧ w.grownBy w' (Value.slice A L.length c).ownBlock := by
  obtain ⟨hlen, hh⟩ := h
  rcases hh with ⟨hv, h0⟩ | ⟨g, cap, cur, hv, hb, hg, hn, hm, hs, ht⟩
  · have : L = [] := List.eq_nil_of_length_eq_zero h0
    subst this
    simp only [Value.slice.injEq] at hv
    obtain ⟨rfl, _, rfl⟩ := hv
    refine (AnyF.slices_SortFunc_none lays12 none 0 _ w).mono ?_
    rintro e w' ⟨rfl, rfl⟩
    exact ⟨rfl, [], rfl, List.Perm.refl _, List.Pairwise.nil, fun j u hj => (by cases hj), ⟨rfl, rfl, rfl, Nat.le_refl _, fun _ _ _ => rfl⟩⟩
  · cases hv
    have hg' : Is w g 53 cur := hg
    have hH : HoldsK enc12 2 w g 0 L.toArray := fun j hj => by
      have hj' : j < L.length * 2 := by simpa using hj
      refine ⟨?_, hg'.frozen _⟩
      rw [Nat.zero_add, hg'.cell, ← Array.getElem?_toList]
      have h1 : (cur.toList.take (L.length * 2))[j]? = (flP L)[j]? := by rw [ht]
      rw [List.getElem?_take_of_lt hj'] at h1
      rw [h1, flatK12 L hj']
      rfl
    have hgl := hg'.lt
    have hcon := AnyQ.slices_SortFunc lays12 2 pair_agg12 pair_size12 enc12 (fun _ => rfl) (fun x v hv => by simp [enc12] at hv; rcases hv with rfl | rfl <;> rfl) cmp12 swo12 42 #[] g 0 c L.toArray w (enters_of Try.func42 (by kernel_rfl) rfl) (fun _ _ _ _ x y => closure12 x y _) hH hgl (by simp; omega)
    refine Calls.mono hcon ?_
    rintro e w' ⟨rfl, d', n, os, hp, hso, rfl⟩
    obtain ⟨hd1, _, hd3⟩ := hp
    have hdl : d'.toList.length = L.length := by rw [Array.length_toList, hd1]; simp
    refine ⟨rfl, d'.toList, hdl, ?_, ?_, ?_, grown_sorted12 _⟩
    · have e1 : d'.extract 0 L.toArray.size = d' := by rw [← hd1]; exact Array.extract_size
      have e2 : L.toArray.extract 0 L.toArray.size = L.toArray := Array.extract_size
      rw [e1, e2] at hd3
      simpa using hd3
    · rw [List.pairwise_iff_getElem]
      intro i j hi hj hij
      have := hso i j (by omega) hij (by rw [← hd1]; simpa using hj)
      rw [ltOf12, getElem!_pos _ _ (by simpa using hj), getElem!_pos _ _ (by simpa using hi)] at this
      simpa using this
    · have hK := holdsK_sortWorldK_c enc12 2 w g 0 L.toArray d' n os hH hgl hd1
      intro j u hj
      have hjl := (List.getElem?_eq_some_iff.1 hj).1
      rw [flP_len] at hjl
      refine ⟨g, 0, rfl, Nat.lt_of_lt_of_le hgl (size_sortWorldK_c enc12 2 w g 0 n d' os), ?_⟩
      have h1 := (hK j (by simpa using hjl)).1
      rw [h1]
      have h2 := flatK12 d'.toList hjl
      rw [hj] at h2
      rw [Option.some.inj h2]
      simp
end Go.Proofs.Ytglcckpkbnppoaa
