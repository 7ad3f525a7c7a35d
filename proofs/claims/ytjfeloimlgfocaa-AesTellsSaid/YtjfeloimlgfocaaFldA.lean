/-
  Contracts of field.parts (the iterator over a product's parts) and field.Mul. Conditions: the arguments are bytes.
-/
import Derived.RangeFuncNested
import Derived.RangeFuncBound
import Derived.RangeFuncCalls
import Derived.RangeFuncLeaves
import Derived.RangeFuncFrom
import Derived.Shelf.Abstract
import Derived.Shelf.RegionOpen
import Derived.OwnWalkIn
import Derived.TacticsInMore
import Derived.LoopNIn
import Derived.LoopIn
import Derived.Laws.BitsAllLaws
import Derived.Test.YtjfeloimlgfocaaChecked
import Derived.Test.YtjfeloimlgfocaaKit
import Derived.Test.YtjfeloimlgfocaaFldI
namespace Go.Proofs.Ytjfeloimlgfocaa
open Go.RowKit Go.Shelf
attribute [local go_sem] Oper.semAt_some

/-- a byte. -/
abbrev B8 := { x : Nat // x < 256 }
/-- a byte times x, so often. -/
def xtk (a : Nat) : Nat → Nat
  | 0 => a
  | k + 1 => xt (xtk a k)
theorem xtk_lt {a : Nat} (ha : a < 256) (k : Nat) : xtk a k < 256 := by
  induction k with
  | zero => exact ha
  | succ k ih => exact xt_lt ih
def prtN (a b k : Nat) : Nat := pick1 (b.testBit k) (xtk a k)
theorem prtN_lt {a : Nat} (ha : a < 256) (b k : Nat) : prtN a b k < 256 := pick1_lt (xtk_lt ha k)
def prt8 (a : Nat) (ha : a < 256) (b k : Nat) : B8 := ⟨prtN a b k, prtN_lt ha b k⟩
def prts8 (a : Nat) (ha : a < 256) (b k : Nat) : List B8 := (List.range k).map (prt8 a ha b)
theorem prts8_succ (a : Nat) (ha : a < 256) (b k : Nat) : prts8 a ha b (k + 1) = prts8 a ha b k ++ [prt8 a ha b k] := by simp [prts8, List.range_succ]
theorem prts8_length (a : Nat) (ha : a < 256) (b k : Nat) : (prts8 a ha b k).length = k := by simp [prts8]
def xorL (l : List B8) : Nat := l.foldl (fun p x => p ^^^ x.1) 0
theorem xorL_snoc (l : List B8) (x : B8) : xorL (l ++ [x]) = xorL l ^^^ x.1 := by simp [xorL]
theorem xorL_lt (l : List B8) : xorL l < 256 := by
  suffices h : ∀ (l : List B8) (p : Nat), p < 256 → l.foldl (fun p x => p ^^^ x.1) p < 256 from h l 0 (by decide)
  intro l
  induction l with
  | nil => exact fun p h => h
  | cons x l ih => exact fun p h => ih _ (xor_lt h x.2)
theorem xorL_prts (a : Nat) (ha : a < 256) (b : Nat) : xorL (prts8 a ha b 8) = mulN a b := by
  show 0 ^^^ prtN a b 0 ^^^ prtN a b 1 ^^^ prtN a b 2 ^^^ prtN a b 3 ^^^ prtN a b 4 ^^^ prtN a b 5 ^^^ prtN a b 6 ^^^ prtN a b 7 = _
  rw [Nat.zero_xor]
  rfl

theorem bit_is (b k : Nat) (hb : b < 256) : bits BinOp.and IntKind.u8 ((b : Int) / 2 ^ k) 1 = if b.testBit k then 1 else 0 := by
  have hk : b / 2 ^ k < 256 := Nat.lt_of_le_of_lt (Nat.div_le_self _ _) hb
  rw [show (b : Int) / 2 ^ k = ((b / 2 ^ k : Nat) : Int) by simp, show (1 : Int) = ((1 : Nat) : Int) from rfl, u8_and_nat _ _ hk (by decide), Nat.and_one_is_mod, Nat.testBit_eq_decide_div_mod_eq]
  by_cases h : b / 2 ^ k % 2 = 1
  · simp [h]
  · have : b / 2 ^ k % 2 = 0 := by omega
    simp [this]
theorem prt_is (t b k : Nat) (ht : t < 256) (hb : b < 256) : ((pick1 (b.testBit k) t : Nat) : Int) = bits BinOp.and IntKind.u8 (t : Int) (-bits BinOp.and IntKind.u8 ((b : Int) / 2 ^ k) 1 % 256) := by
  rw [bit_is b k hb]
  cases b.testBit k
  · show ((0 : Nat) : Int) = bits BinOp.and IntKind.u8 (t : Int) ((0 : Nat) : Int)
    rw [u8_and_nat _ _ ht (by decide), Nat.and_zero]
  · show (t : Int) = bits BinOp.and IntKind.u8 (t : Int) ((255 : Nat) : Int)
    rw [u8_and_nat _ _ ht (by decide), show 255 = 2 ^ 8 - 1 from rfl, Nat.and_two_pow_sub_one_of_lt_two_pow ht]
theorem xt_is (t : Nat) (ht : t < 256) : ((xt t : Nat) : Int) = bits BinOp.xor IntKind.u8 ((t : Int) * 2 % 256) (bits BinOp.and IntKind.u8 27 (-((t : Int) / 128) % 256)) := by
  have e : (t : Int) * 2 % 256 = ((t * 2 % 256 : Nat) : Int) := by omega
  rw [e]
  unfold xt
  by_cases h : 128 ≤ t
  · rw [if_pos h, show (-((t : Int) / 128) % 256) = ((255 : Nat) : Int) by omega, show (27 : Int) = ((27 : Nat) : Int) from rfl, u8_and_nat _ _ (by decide) (by decide), show 27 &&& 255 = 27 from rfl, u8_xor_nat _ _ (Nat.mod_lt _ (by decide)) (by decide)]
  · rw [if_neg h, show (-((t : Int) / 128) % 256) = ((0 : Nat) : Int) by omega, show (27 : Int) = ((27 : Nat) : Int) from rfl, u8_and_nat _ _ (by decide) (by decide), show 27 &&& 0 = 0 from rfl, u8_xor_nat _ _ (Nat.mod_lt _ (by decide)) (by decide), Nat.xor_zero]

/-- one block is as it was. -/
def SameAt (b : Nat) (W W' : World) : Prop := W'.heap[b]? = W.heap[b]?
theorem Is.kept {W W' : World} {g : Nat} {t : TypeId} {cs : Array Value} {row : Option Nat} (h : Is W g t cs) (hg : W.grownBy W' row) (hr : ∀ r, row = some r → ∃ o : Obj, W.heap[r]? = some o ∧ o.isCells = false) : Is W' g t cs :=
  (grownBy_keeps_cells hg hr h rfl).trans h

/-- what a round of Mul leaves alone. -/
def KpM (Ba Bb : Nat) (W W' : World) : Prop := SameAt Ba W W' ∧ SameAt Bb W W'

set_option maxRecDepth 100000 in
set_option maxHeartbeats 1000000 in
theorem fparts1_in (F : Fence) (n : Nat) (h6 : F.fn 67) (hro : F.round = none) (hn : 1 ≤ n) (l Ba Bb : Nat) (a b : Nat) (ha : a < 256) (hb : b < 256) (J Jx : List B8 → World → Prop)
    (hY : ∀ pre x W, J pre W → pre.length < 8 → YieldAt F (n - 1) Try.prog l #[.int .u8 (x.1 : Int)] W fun e W' =>
      (e = .returned (.bool true) ∧ J (pre ++ [x]) W' ∧ KpM Ba Bb W W') ∨ (e = .returned (.bool false) ∧ Jx (pre ++ [x]) W'))
    (W : World) (hBa : Is W Ba 5 #[.int .u8 (a : Int)]) (hBb : Is W Bb 5 #[.int .u8 (b : Int)]) (h0 : J [] W) :
    CallsIn F n Try.prog 67 #[.func (.yield l) #[] #[], .pointer (some ⟨Ba, 0, none⟩), .pointer (some ⟨Bb, 0, none⟩)] W fun e W' => (∃ v, e = .returned v) ∧
      ((∃ ys, ys = prts8 a ha b 8 ∧ J ys W') ∨ (∃ pre, True ∧ Jx pre W')) := by
  refine callsIn_of_wp Try.func67 rfl h6 ?_ hro
  simp only [Try.ntmps67, List.size_toArray, List.length_cons, List.length_nil, Nat.reduceAdd, Nat.reduceSub, Array.replicate_succ, Array.replicate_zero, List.push_toArray, List.append_toArray, List.nil_append, List.cons_append]
  have ca := hBa.cell 0
  have cb := hBb.cell 0
  gi_wp2
  gi_loopw [4, 7] (fun t i wr => ∃ k : Nat, t = .int .u8 (xtk a k : Int) ∧ i = .int .i64 (k : Int) ∧ k ≤ 8 ∧ Is wr Bb 5 #[.int .u8 (b : Int)] ∧ J (prts8 a ha b k) wr)
    (fun _ i _ => 8 - (intOf i).toNat)
  case atStart =>
    exact ⟨0, rfl, rfl, by omega, hBb, h0⟩
  case round =>
    clear ca cb hBa hBb h0
    obtain ⟨k, rfl, rfl, hk, hBb, hJ⟩ := hrel
    have cb := hBb.cell 0
    by_cases hlt : k < 8
    · have hi1 : (k : Int) < 8 := by omega
      have ht := xtk_lt ha k
      obtain ⟨fn, tmps, assign, body, hy, hR⟩ := hY (prts8 a ha b k) (prt8 a ha b k) wr hJ (by rw [prts8_length]; omega)
      have HR := Lib.hid hR
      clear hR
      have hst := xt_is (xtk a k) ht
      have hp : ((prt8 a ha b k).1 : Int) = _ := prt_is (xtk a k) b k ht hb
      rw [hp] at hy
      change ((xtk a (k + 1) : Nat) : Int) = _ at hst
      generalize xtk a k = t at *
      have HST := Lib.hid hst
      clear hst hp
      gi_wp2
      refine HR.out.mono ?_
      rintro e W3 (⟨rfl, hJ3, hk3⟩ | ⟨rfl, hJx3⟩)
      · have jb : Is W3 Bb 5 #[.int .u8 (b : Int)] := hk3.2.trans hBb
        gi_wp2
        go_roundw
        case rel =>
          refine ⟨k + 1, ?_, by go_num, by omega, jb, ?_⟩
          · rw [HST.out]
          · rw [prts8_succ]; exact hJ3
        case measure => simp [intOf]; omega
      · gi_wp2
        refine bodyPost_ret (results_none rfl _ _ _) rfl ?_
        exact ⟨⟨_, rfl⟩, .inr ⟨_, trivial, hJx3⟩⟩
    · have hi1 : ¬ (k : Int) < 8 := by omega
      obtain rfl : k = 8 := by omega
      gi_wp2
      go_end0
      exact ⟨⟨_, rfl⟩, .inl hJ⟩

set_option maxHeartbeats 1000000 in
theorem fparts_in (F : Fence) (n : Nat) (h5 : F.fn 62) (hro : F.round = none) (a b : Int) (w : World) :
    CallsIn F n Try.prog 62 #[.int .u8 a, .int .u8 b] w fun e w' => e = .returned (.func (.func 67) #[] #[.pointer (some ⟨w.heap.size, 0, none⟩), .pointer (some ⟨w.heap.size + 1, 0, none⟩)]) ∧ w' = (w.alloc (.cells #[.int .u8 a] 5)).alloc (.cells #[.int .u8 b] 5) := by
  refine callsIn_of_wp Try.func62 rfl h5 ?_ hro
  simp only [Try.ntmps62, List.size_toArray, List.length_cons, List.length_nil, Nat.reduceAdd, Nat.reduceSub, Array.replicate_succ, Array.replicate_zero, List.push_toArray, List.append_toArray, List.nil_append, List.cons_append]
  gi_wp2
  go_ret
  exact ⟨rfl, rfl⟩

theorem fparts_stops (F : Fence) (n : Nat) (h6 : F.fn 67) (hro : F.round = none) (hn : 1 ≤ n) (Ba Bb : Nat) (a b : Nat) (ha : a < 256) (hb : b < 256) (w : World)
    (hBa : Is w Ba 5 #[.int .u8 (a : Int)]) (hBb : Is w Bb 5 #[.int .u8 (b : Int)]) :
    SeqStopsK F n Try.prog 67 #[.pointer (some ⟨Ba, 0, none⟩), .pointer (some ⟨Bb, 0, none⟩)] (fun x : B8 => #[Value.int .u8 (x.1 : Int)]) (KpM Ba Bb) (fun ys => ys = prts8 a ha b 8) (fun _ => True) 8 w := fun l J Jx W hW _ _ hY h0 =>
  fparts1_in F n h6 hro hn l Ba Bb a b ha hb J Jx hY W (hBa.below hW hBa.lt) (hBb.below hW hBb.lt) h0

set_option maxRecDepth 100000 in
set_option maxHeartbeats 1000000 in
theorem mul_any (a b : Nat) (w : World) (ha : a < 256) (hb : b < 256) :
    Calls Try.prog 59 #[.int .u8 (a : Int), .int .u8 (b : Int)] w fun e w' => e = .returned (.int .u8 ((mulN a b : Nat) : Int)) ∧ Below w.heap.size w w' := by
  refine (callsIn_wide (n := 5)).1 ?_
  refine callsIn_of_wp_marks Try.func59 rfl trivial ?_ rfl
  simp only [Try.ntmps59, List.size_toArray, List.length_cons, List.length_nil, Nat.reduceAdd, Nat.reduceSub, Array.replicate_succ, Array.replicate_zero, List.push_toArray, List.append_toArray, List.nil_append, List.cons_append]
  gi_wp2_with (refine ⟨trivial, ?_⟩; gi_at_call 62; refine (fparts_in Fence.wide _ trivial rfl _ _ _).mono ?_; rintro e w' ⟨rfl, rfl⟩)
  have i0 : Is (((w.alloc (.cells #[.int .u8 0] 5)).alloc (.cells #[.int .u8 (a : Int)] 5)).alloc (.cells #[.int .u8 (b : Int)] 5)) w.heap.size 5 #[.int .u8 0] := ((Is.new w _ _).alloc _).alloc _
  have i1 : Is (((w.alloc (.cells #[.int .u8 0] 5)).alloc (.cells #[.int .u8 (a : Int)] 5)).alloc (.cells #[.int .u8 (b : Int)] 5)) (w.heap.size + 1) 5 #[.int .u8 (a : Int)] := Is.alloc (heap_alloc2_new w _ _) _
  have i2 : Is (((w.alloc (.cells #[.int .u8 0] 5)).alloc (.cells #[.int .u8 (a : Int)] 5)).alloc (.cells #[.int .u8 (b : Int)] 5)) (w.heap.size + 1 + 1) 5 #[.int .u8 (b : Int)] := by
    have := Is.new ((w.alloc (.cells #[.int .u8 0] 5)).alloc (.cells #[.int .u8 (a : Int)] 5)) 5 #[.int .u8 (b : Int)]
    simpa using this
  have hB0 : Below w.heap.size w (((w.alloc (.cells #[.int .u8 0] 5)).alloc (.cells #[.int .u8 (a : Int)] 5)).alloc (.cells #[.int .u8 (b : Int)] 5)) := (((Below.refl _ _).alloc (Nat.le_refl _) _).alloc (by simp) _).alloc (by simp; omega) _
  have hsz : (((w.alloc (.cells #[.int .u8 0] 5)).alloc (.cells #[.int .u8 (a : Int)] 5)).alloc (.cells #[.int .u8 (b : Int)] 5)).heap.size = w.heap.size + 1 + 1 + 1 := by simp
  change Code.wpIn _ _ _ _ _ _ (((w.alloc (.cells #[.int .u8 0] 5)).alloc (.cells #[.int .u8 (a : Int)] 5)).alloc (.cells #[.int .u8 (b : Int)] 5))
  generalize (((w.alloc (.cells #[.int .u8 0] 5)).alloc (.cells #[.int .u8 (a : Int)] 5)).alloc (.cells #[.int .u8 (b : Int)] 5)) = W0 at *
  have HSZ := Lib.hid hsz
  clear hsz
  refine wpIn_rangeFunc_ownF rfl (by omega) (gf := 67) (lb := #[.pointer (some ⟨w.heap.size + 1, 0, none⟩), .pointer (some ⟨w.heap.size + 1 + 1, 0, none⟩)]) rfl trivial (enters_of Try.func67 (by kernel_rfl) rfl)
    (fparts_stops Fence.wide _ trivial rfl (by omega) (w.heap.size + 1) (w.heap.size + 1 + 1) a b ha hb W0 i1 i2) (fun h1 h2 => ⟨Eq.trans h2.1 h1.1, Eq.trans h2.2 h1.2⟩) (fun W l o o' hl _ _ _ => ⟨World.putObj_heap_other (by rw [HSZ.out] at hl; omega), World.putObj_heap_other (by rw [HSZ.out] at hl; omega)⟩) (Below.refl _ _) (fun _ => rfl)
    (fun pre W => (Is W w.heap.size 5 #[.int .u8 ((xorL pre : Nat) : Int)] ∧ Is W (w.heap.size + 1) 5 #[.int .u8 (a : Int)] ∧ Is W (w.heap.size + 1 + 1) 5 #[.int .u8 (b : Int)]) ∧ Below w.heap.size w W)
    (fun _ _ _ => False)
    (OwnFrom.and (fun s A B row hs hg hr => ⟨hs.1.kept hg (fun r e => (hr r e).2), hs.2.1.kept hg (fun r e => (hr r e).2), hs.2.2.kept hg (fun r e => (hr r e).2)⟩) (ownFrom_below (Nat.le_refl _) (by rw [HSZ.out]; omega)))
    (fun _ _ _ _ _ hs _ _ => hs)
    ⟨⟨i0, i1, i2⟩, hB0⟩
    (fun x => { tmps := #[.int .u8 (a : Int), .int .u8 (b : Int), undef, undef, .int .u8 0, .pointer (some ⟨w.heap.size, 0, none⟩), .int .u8 (x.1 : Int), .int .u8 (a : Int), .int .u8 (b : Int), .func (.func 67) #[] #[.pointer (some ⟨w.heap.size + 1, 0, none⟩), .pointer (some ⟨w.heap.size + 1 + 1, 0, none⟩)], .int .u8 (x.1 : Int), undef, undef, undef, undef], defers := [] }) ?assign ?body ?done ?stop
  case assign =>
    intro l x W K hK
    gi_wp2
    exact hK
  case body =>
    rintro l pre x W ⟨⟨j0, j1, j2⟩, hB⟩ _
    have hx := u8_xor_nat (xorL pre) x.1 (xorL_lt pre) x.2
    rw [← xorL_snoc] at hx
    generalize xorL pre = m at *
    have HX := Lib.hid hx
    clear hx
    have c0 := j0.cell 0
    have f0 := j0.frozen 0
    gi_wp2
    have j0' := j0.set 0 (.int .u8 (bits BinOp.xor IntKind.u8 (m : Int) (x.1 : Int)))
    refine ⟨KeepsOthers.setCell _ _ _, ⟨heap_setCell_other _ _ _ _ (by show w.heap.size + 1 ≠ w.heap.size; omega), heap_setCell_other _ _ _ _ (by show w.heap.size + 1 + 1 ≠ w.heap.size; omega)⟩, ⟨⟨?_, j1.far (by show w.heap.size + 1 ≠ w.heap.size; omega) _, j2.far (by show w.heap.size + 1 + 1 ≠ w.heap.size; omega) _⟩, hB.setCell (Nat.le_refl _) _⟩⟩
    rw [← HX.out]
    exact j0'
  case done =>
    rintro D ys W hD rfl ⟨⟨j0, j1, j2⟩, hB⟩ hK
    rw [xorL_prts] at j0
    generalize hm : mulN a b = m at *
    have HM := Lib.hid hm
    clear hm
    have c0 := j0.cell 0
    gi_wp2
    rw [HSZ.out] at hD
    refine ⟨by simp, .inl ⟨_, _, rfl, run_takeDeferred hK, ?_⟩⟩
    exact ⟨_, results_tmp rfl _ _ _, by rw [HM.out]; rfl, hB.trans (belowK_b (w := w) (Nat.le_refl _) W D _ _ (by omega) hK rfl rfl)⟩
  case stop =>
    rintro D c pre W _ _ h _
    exact h.elim
end Go.Proofs.Ytjfeloimlgfocaa
