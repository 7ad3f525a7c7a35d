/-
  Contracts of field.parts (the iterator over a product's parts) and field.Mul. Conditions: the arguments are bytes.
  Contracts of field.Inv, field.turned, field.Sub, field.Back. Conditions: the arguments are bytes.
  Contracts of field.mixed, field.Mix, field.Unmix. Conditions: the arguments are bytes.
  Contracts of field.Mix, field.Unmix. Conditions: the arguments are bytes.
-/
import Derived.Test.YtfgdcpolfekgjaaGreatGKit
import Derived.Test.YtfgdcpolfekgjaaGreatGPl
import Derived.RangeFuncNested
import Derived.RangeFuncBound
import Derived.RangeFuncCalls
import Derived.RangeFuncLeaves
import Derived.RangeFuncFrom
import Derived.Shelf.Abstract
import Derived.Shelf.RegionOpen
import Derived.OwnWalkIn
import Derived.TacticsInMore
import Derived.LoopNIn
import Derived.LoopIn
import Derived.Laws.BitsAllLaws
import Derived.Test.YtfgdcpolfekgjaaGreatChecked
namespace Go.Proofs.YtfgdcpolfekgjaaGreat
open Go.RowKit Go.Shelf
attribute [local go_sem] Oper.semAt_some

/-- a byte. -/
abbrev B8 := { x : Nat // x < 256 }
/-- a byte times x, so often. -/
def xtk (a : Nat) : Nat → Nat
  | 0 => a
  | k + 1 => xt (xtk a k)
theorem xtk_lt {a : Nat} (ha : a < 256) (k : Nat) : xtk a k < 256 := by
  induction k with
  | zero => exact ha
  | succ k ih => exact xt_lt ih
def prtN (a b k : Nat) : Nat := pick1 (b.testBit k) (xtk a k)
theorem prtN_lt {a : Nat} (ha : a < 256) (b k : Nat) : prtN a b k < 256 := pick1_lt (xtk_lt ha k)
def prt8 (a : Nat) (ha : a < 256) (b k : Nat) : B8 := ⟨prtN a b k, prtN_lt ha b k⟩
def prts8 (a : Nat) (ha : a < 256) (b k : Nat) : List B8 := (List.range k).map (prt8 a ha b)
theorem prts8_succ (a : Nat) (ha : a < 256) (b k : Nat) : prts8 a ha b (k + 1) = prts8 a ha b k ++ [prt8 a ha b k] := by simp [prts8, List.range_succ]
theorem prts8_length (a : Nat) (ha : a < 256) (b k : Nat) : (prts8 a ha b k).length = k := by simp [prts8]
def xorL (l : List B8) : Nat := l.foldl (fun p x => p ^^^ x.1) 0
theorem xorL_snoc (l : List B8) (x : B8) : xorL (l ++ [x]) = xorL l ^^^ x.1 := by simp [xorL]
theorem xorL_lt (l : List B8) : xorL l < 256 := by
  suffices h : ∀ (l : List B8) (p : Nat), p < 256 → l.foldl (fun p x => p ^^^ x.1) p < 256 from h l 0 (by decide)
  intro l
  induction l with
  | nil => exact fun p h => h
  | cons x l ih => exact fun p h => ih _ (xor_lt h x.2)
theorem xorL_prts (a : Nat) (ha : a < 256) (b : Nat) : xorL (prts8 a ha b 8) = mulN a b := by
  show 0 ^^^ prtN a b 0 ^^^ prtN a b 1 ^^^ prtN a b 2 ^^^ prtN a b 3 ^^^ prtN a b 4 ^^^ prtN a b 5 ^^^ prtN a b 6 ^^^ prtN a b 7 = _
  rw [Nat.zero_xor]
  rfl

theorem bit_is (b k : Nat) (hb : b < 256) : bits BinOp.and IntKind.u8 ((b : Int) / 2 ^ k) 1 = if b.testBit k then 1 else 0 := by
  have hk : b / 2 ^ k < 256 := Nat.lt_of_le_of_lt (Nat.div_le_self _ _) hb
  rw [show (b : Int) / 2 ^ k = ((b / 2 ^ k : Nat) : Int) by simp, show (1 : Int) = ((1 : Nat) : Int) from rfl, u8_and_nat _ _ hk (by decide), Nat.and_one_is_mod, Nat.testBit_eq_decide_div_mod_eq]
  by_cases h : b / 2 ^ k % 2 = 1
  · simp [h]
  · have : b / 2 ^ k % 2 = 0 := by omega
    simp [this]
theorem prt_is (t b k : Nat) (ht : t < 256) (hb : b < 256) : ((pick1 (b.testBit k) t : Nat) : Int) = bits BinOp.and IntKind.u8 (t : Int) (-bits BinOp.and IntKind.u8 ((b : Int) / 2 ^ k) 1 % 256) := by
  rw [bit_is b k hb]
  cases b.testBit k
  · show ((0 : Nat) : Int) = bits BinOp.and IntKind.u8 (t : Int) ((0 : Nat) : Int)
    rw [u8_and_nat _ _ ht (by decide), Nat.and_zero]
  · show (t : Int) = bits BinOp.and IntKind.u8 (t : Int) ((255 : Nat) : Int)
    rw [u8_and_nat _ _ ht (by decide), show 255 = 2 ^ 8 - 1 from rfl, Nat.and_two_pow_sub_one_of_lt_two_pow ht]
theorem xt_is (t : Nat) (ht : t < 256) : ((xt t : Nat) : Int) = bits BinOp.xor IntKind.u8 ((t : Int) * 2 % 256) (bits BinOp.and IntKind.u8 27 (-((t : Int) / 128) % 256)) := by
  have e : (t : Int) * 2 % 256 = ((t * 2 % 256 : Nat) : Int) := by omega
  rw [e]
  unfold xt
  by_cases h : 128 ≤ t
  · rw [if_pos h, show (-((t : Int) / 128) % 256) = ((255 : Nat) : Int) by omega, show (27 : Int) = ((27 : Nat) : Int) from rfl, u8_and_nat _ _ (by decide) (by decide), show 27 &&& 255 = 27 from rfl, u8_xor_nat _ _ (Nat.mod_lt _ (by decide)) (by decide)]
  · rw [if_neg h, show (-((t : Int) / 128) % 256) = ((0 : Nat) : Int) by omega, show (27 : Int) = ((27 : Nat) : Int) from rfl, u8_and_nat _ _ (by decide) (by decide), show 27 &&& 0 = 0 from rfl, u8_xor_nat _ _ (Nat.mod_lt _ (by decide)) (by decide), Nat.xor_zero]

/-- one block is as it was. -/
def SameAt (b : Nat) (W W' : World) : Prop := W'.heap[b]? = W.heap[b]?
theorem Is.kept {W W' : World} {g : Nat} {t : TypeId} {cs : Array Value} {row : Option Nat} (h : Is W g t cs) (hg : W.grownBy W' row) (hr : ∀ r, row = some r → ∃ o : Obj, W.heap[r]? = some o ∧ o.isCells = false) : Is W' g t cs :=
  (grownBy_keeps_cells hg hr h rfl).trans h

/-- what a round of Mul leaves alone. -/
def KpM (Ba Bb : Nat) (W W' : World) : Prop := SameAt Ba W W' ∧ SameAt Bb W W'

set_option maxRecDepth 100000 in
set_option maxHeartbeats 1000000 in
theorem fparts1_in (F : Fence) (n : Nat) (h6 : F.fn 229) (hro : F.round = none) (hn : 1 ≤ n) (l Ba Bb : Nat) (a b : Nat) (ha : a < 256) (hb : b < 256) (J Jx : List B8 → World → Prop)
    (hY : ∀ pre x W, J pre W → pre.length < 8 → YieldAt F (n - 1) Tryz.prog l #[.int .u8 (x.1 : Int)] W fun e W' =>
      (e = .returned (.bool true) ∧ J (pre ++ [x]) W' ∧ KpM Ba Bb W W') ∨ (e = .returned (.bool false) ∧ Jx (pre ++ [x]) W'))
    (W : World) (hBa : Is W Ba 5 #[.int .u8 (a : Int)]) (hBb : Is W Bb 5 #[.int .u8 (b : Int)]) (h0 : J [] W) :
    CallsIn F n Tryz.prog 229 #[.func (.yield l) #[] #[], .pointer (some ⟨Ba, 0, none⟩), .pointer (some ⟨Bb, 0, none⟩)] W fun e W' => (∃ v, e = .returned v) ∧
      ((∃ ys, ys = prts8 a ha b 8 ∧ J ys W') ∨ (∃ pre, True ∧ Jx pre W')) := by
  refine callsIn_of_wp Tryz.func229 rfl h6 ?_ hro
  simp only [Tryz.ntmps229, List.size_toArray, List.length_cons, List.length_nil, Nat.reduceAdd, Nat.reduceSub, Array.replicate_succ, Array.replicate_zero, List.push_toArray, List.append_toArray, List.nil_append, List.cons_append]
  have ca := hBa.cell 0
  have cb := hBb.cell 0
  gi_wp2
  gi_loopw [4, 7] (fun t i wr => ∃ k : Nat, t = .int .u8 (xtk a k : Int) ∧ i = .int .i64 (k : Int) ∧ k ≤ 8 ∧ Is wr Bb 5 #[.int .u8 (b : Int)] ∧ J (prts8 a ha b k) wr)
    (fun _ i _ => 8 - (intOf i).toNat)
  case atStart =>
    exact ⟨0, rfl, rfl, by omega, hBb, h0⟩
  case round =>
    clear ca cb hBa hBb h0
    obtain ⟨k, rfl, rfl, hk, hBb, hJ⟩ := hrel
    have cb := hBb.cell 0
    by_cases hlt : k < 8
    · have hi1 : (k : Int) < 8 := by omega
      have ht := xtk_lt ha k
      obtain ⟨fn, tmps, assign, body, hy, hR⟩ := hY (prts8 a ha b k) (prt8 a ha b k) wr hJ (by rw [prts8_length]; omega)
      have HR := Lib.hid hR
      clear hR
      have hst := xt_is (xtk a k) ht
      have hp : ((prt8 a ha b k).1 : Int) = _ := prt_is (xtk a k) b k ht hb
      rw [hp] at hy
      change ((xtk a (k + 1) : Nat) : Int) = _ at hst
      generalize xtk a k = t at *
      have HST := Lib.hid hst
      clear hst hp
      gi_wp2
      refine HR.out.mono ?_
      rintro e W3 (⟨rfl, hJ3, hk3⟩ | ⟨rfl, hJx3⟩)
      · have jb : Is W3 Bb 5 #[.int .u8 (b : Int)] := hk3.2.trans hBb
        gi_wp2
        go_roundw
        case rel =>
          refine ⟨k + 1, ?_, by go_num, by omega, jb, ?_⟩
          · rw [HST.out]
          · rw [prts8_succ]; exact hJ3
        case measure => simp [intOf]; omega
      · gi_wp2
        refine bodyPost_ret (results_none rfl _ _ _) rfl ?_
        exact ⟨⟨_, rfl⟩, .inr ⟨_, trivial, hJx3⟩⟩
    · have hi1 : ¬ (k : Int) < 8 := by omega
      obtain rfl : k = 8 := by omega
      gi_wp2
      go_end0
      exact ⟨⟨_, rfl⟩, .inl hJ⟩

set_option maxHeartbeats 1000000 in
theorem fparts_in (F : Fence) (n : Nat) (h5 : F.fn 218) (hro : F.round = none) (a b : Int) (w : World) :
    CallsIn F n Tryz.prog 218 #[.int .u8 a, .int .u8 b] w fun e w' => e = .returned (.func (.func 229) #[] #[.pointer (some ⟨w.heap.size, 0, none⟩), .pointer (some ⟨w.heap.size + 1, 0, none⟩)]) ∧ w' = (w.alloc (.cells #[.int .u8 a] 5)).alloc (.cells #[.int .u8 b] 5) := by
  refine callsIn_of_wp Tryz.func218 rfl h5 ?_ hro
  simp only [Tryz.ntmps218, List.size_toArray, List.length_cons, List.length_nil, Nat.reduceAdd, Nat.reduceSub, Array.replicate_succ, Array.replicate_zero, List.push_toArray, List.append_toArray, List.nil_append, List.cons_append]
  gi_wp2
  go_ret
  exact ⟨rfl, rfl⟩

theorem fparts_stops (F : Fence) (n : Nat) (h6 : F.fn 229) (hro : F.round = none) (hn : 1 ≤ n) (Ba Bb : Nat) (a b : Nat) (ha : a < 256) (hb : b < 256) (w : World)
    (hBa : Is w Ba 5 #[.int .u8 (a : Int)]) (hBb : Is w Bb 5 #[.int .u8 (b : Int)]) :
    SeqStopsK F n Tryz.prog 229 #[.pointer (some ⟨Ba, 0, none⟩), .pointer (some ⟨Bb, 0, none⟩)] (fun x : B8 => #[Value.int .u8 (x.1 : Int)]) (KpM Ba Bb) (fun ys => ys = prts8 a ha b 8) (fun _ => True) 8 w := fun l J Jx W hW _ _ hY h0 =>
  fparts1_in F n h6 hro hn l Ba Bb a b ha hb J Jx hY W (hBa.below hW hBa.lt) (hBb.below hW hBb.lt) h0

set_option maxRecDepth 100000 in
set_option maxHeartbeats 1000000 in
theorem mul_any (a b : Nat) (w : World) (ha : a < 256) (hb : b < 256) :
    Calls Tryz.prog 210 #[.int .u8 (a : Int), .int .u8 (b : Int)] w fun e w' => e = .returned (.int .u8 ((mulN a b : Nat) : Int)) ∧ Below w.heap.size w w' := by
  refine (callsIn_wide (n := 5)).1 ?_
  refine callsIn_of_wp_marks Tryz.func210 rfl trivial ?_ rfl
  simp only [Tryz.ntmps210, List.size_toArray, List.length_cons, List.length_nil, Nat.reduceAdd, Nat.reduceSub, Array.replicate_succ, Array.replicate_zero, List.push_toArray, List.append_toArray, List.nil_append, List.cons_append]
  gi_wp2_with (refine ⟨trivial, ?_⟩; gi_at_call 218; refine (fparts_in Fence.wide _ trivial rfl _ _ _).mono ?_; rintro e w' ⟨rfl, rfl⟩)
  have i0 : Is (((w.alloc (.cells #[.int .u8 0] 5)).alloc (.cells #[.int .u8 (a : Int)] 5)).alloc (.cells #[.int .u8 (b : Int)] 5)) w.heap.size 5 #[.int .u8 0] := ((Is.new w _ _).alloc _).alloc _
  have i1 : Is (((w.alloc (.cells #[.int .u8 0] 5)).alloc (.cells #[.int .u8 (a : Int)] 5)).alloc (.cells #[.int .u8 (b : Int)] 5)) (w.heap.size + 1) 5 #[.int .u8 (a : Int)] := Is.alloc (heap_alloc2_new w _ _) _
  have i2 : Is (((w.alloc (.cells #[.int .u8 0] 5)).alloc (.cells #[.int .u8 (a : Int)] 5)).alloc (.cells #[.int .u8 (b : Int)] 5)) (w.heap.size + 1 + 1) 5 #[.int .u8 (b : Int)] := by
    have := Is.new ((w.alloc (.cells #[.int .u8 0] 5)).alloc (.cells #[.int .u8 (a : Int)] 5)) 5 #[.int .u8 (b : Int)]
    simpa using this
  have hB0 : Below w.heap.size w (((w.alloc (.cells #[.int .u8 0] 5)).alloc (.cells #[.int .u8 (a : Int)] 5)).alloc (.cells #[.int .u8 (b : Int)] 5)) := (((Below.refl _ _).alloc (Nat.le_refl _) _).alloc (by simp) _).alloc (by simp; omega) _
  have hsz : (((w.alloc (.cells #[.int .u8 0] 5)).alloc (.cells #[.int .u8 (a : Int)] 5)).alloc (.cells #[.int .u8 (b : Int)] 5)).heap.size = w.heap.size + 1 + 1 + 1 := by simp
  change Code.wpIn _ _ _ _ _ _ (((w.alloc (.cells #[.int .u8 0] 5)).alloc (.cells #[.int .u8 (a : Int)] 5)).alloc (.cells #[.int .u8 (b : Int)] 5))
  generalize (((w.alloc (.cells #[.int .u8 0] 5)).alloc (.cells #[.int .u8 (a : Int)] 5)).alloc (.cells #[.int .u8 (b : Int)] 5)) = W0 at *
  have HSZ := Lib.hid hsz
  clear hsz
  refine wpIn_rangeFunc_ownF rfl (by omega) (gf := 229) (lb := #[.pointer (some ⟨w.heap.size + 1, 0, none⟩), .pointer (some ⟨w.heap.size + 1 + 1, 0, none⟩)]) rfl trivial (enters_of Tryz.func229 (by kernel_rfl) rfl)
    (fparts_stops Fence.wide _ trivial rfl (by omega) (w.heap.size + 1) (w.heap.size + 1 + 1) a b ha hb W0 i1 i2) (fun h1 h2 => ⟨Eq.trans h2.1 h1.1, Eq.trans h2.2 h1.2⟩) (fun W l o o' hl _ _ _ => ⟨World.putObj_heap_other (by rw [HSZ.out] at hl; omega), World.putObj_heap_other (by rw [HSZ.out] at hl; omega)⟩) (Below.refl _ _) (fun _ => rfl)
    (fun pre W => (Is W w.heap.size 5 #[.int .u8 ((xorL pre : Nat) : Int)] ∧ Is W (w.heap.size + 1) 5 #[.int .u8 (a : Int)] ∧ Is W (w.heap.size + 1 + 1) 5 #[.int .u8 (b : Int)]) ∧ Below w.heap.size w W)
    (fun _ _ _ => False)
    (OwnFrom.and (fun s A B row hs hg hr => ⟨hs.1.kept hg (fun r e => (hr r e).2), hs.2.1.kept hg (fun r e => (hr r e).2), hs.2.2.kept hg (fun r e => (hr r e).2)⟩) (ownFrom_below (Nat.le_refl _) (by rw [HSZ.out]; omega)))
    (fun _ _ _ _ _ hs _ _ => hs)
    ⟨⟨i0, i1, i2⟩, hB0⟩
    (fun x => { tmps := #[.int .u8 (a : Int), .int .u8 (b : Int), undef, undef, .int .u8 0, .pointer (some ⟨w.heap.size, 0, none⟩), .int .u8 (x.1 : Int), .int .u8 (a : Int), .int .u8 (b : Int), .func (.func 229) #[] #[.pointer (some ⟨w.heap.size + 1, 0, none⟩), .pointer (some ⟨w.heap.size + 1 + 1, 0, none⟩)], .int .u8 (x.1 : Int), undef, undef, undef, undef], defers := [] }) ?assign ?body ?done ?stop
  case assign =>
    intro l x W K hK
    gi_wp2
    exact hK
  case body =>
    rintro l pre x W ⟨⟨j0, j1, j2⟩, hB⟩ _
    have hx := u8_xor_nat (xorL pre) x.1 (xorL_lt pre) x.2
    rw [← xorL_snoc] at hx
    generalize xorL pre = m at *
    have HX := Lib.hid hx
    clear hx
    have c0 := j0.cell 0
    have f0 := j0.frozen 0
    gi_wp2
    have j0' := j0.set 0 (.int .u8 (bits BinOp.xor IntKind.u8 (m : Int) (x.1 : Int)))
    refine ⟨KeepsOthers.setCell _ _ _, ⟨heap_setCell_other _ _ _ _ (by show w.heap.size + 1 ≠ w.heap.size; omega), heap_setCell_other _ _ _ _ (by show w.heap.size + 1 + 1 ≠ w.heap.size; omega)⟩, ⟨⟨?_, j1.far (by show w.heap.size + 1 ≠ w.heap.size; omega) _, j2.far (by show w.heap.size + 1 + 1 ≠ w.heap.size; omega) _⟩, hB.setCell (Nat.le_refl _) _⟩⟩
    rw [← HX.out]
    exact j0'
  case done =>
    rintro D ys W hD rfl ⟨⟨j0, j1, j2⟩, hB⟩ hK
    rw [xorL_prts] at j0
    generalize hm : mulN a b = m at *
    have HM := Lib.hid hm
    clear hm
    have c0 := j0.cell 0
    gi_wp2
    rw [HSZ.out] at hD
    refine ⟨by simp, .inl ⟨_, _, rfl, run_takeDeferred hK, ?_⟩⟩
    exact ⟨_, results_tmp rfl _ _ _, by rw [HM.out]; rfl, hB.trans (belowK_b (w := w) (Nat.le_refl _) W D _ _ (by omega) hK rfl rfl)⟩
  case stop =>
    rintro D c pre W _ _ h _
    exact h.elim
end Go.Proofs.YtfgdcpolfekgjaaGreat
namespace Go.Proofs.YtfgdcpolfekgjaaGreat
open Go.RowKit

/-- a byte squared so often; the product of these. -/
def sqk (a : Nat) : Nat → Nat
  | 0 => a
  | k + 1 => mulN (sqk a k) (sqk a k)
def ivk (a : Nat) : Nat → Nat
  | 0 => 1
  | k + 1 => mulN (ivk a k) (sqk a (k + 1))
theorem sqk_lt {a : Nat} (ha : a < 256) (k : Nat) : sqk a k < 256 := by
  induction k with
  | zero => exact ha
  | succ k ih => exact mulN_lt ih
theorem ivk_lt (a : Nat) (k : Nat) : ivk a k < 256 := by
  induction k with
  | zero => show 1 < 256; decide
  | succ k ih => exact mulN_lt ih
theorem ivk_all : all1 (fun a => ivk a 7 == invN a) = true := by kernel_rfl
theorem ivk_7 {a : Nat} (ha : a < 256) : ivk a 7 = invN a := by simpa using all1_of ivk_all ha

set_option maxRecDepth 100000 in
set_option maxHeartbeats 1000000 in
theorem finv_any (a : Nat) (w : World) (ha : a < 256) :
    Calls Tryz.prog 196 #[.int .u8 (a : Int)] w fun e w' => e = .returned (.int .u8 ((invN a : Nat) : Int)) ∧ Below w.heap.size w w' := by
  go_enter Tryz.func196, Tryz.ntmps196
  go_wp2
  go_loopw [3, 4, 6] (fun p v i wr => ∃ k : Nat, k ≤ 7 ∧ p = .int .u8 (sqk a k : Int) ∧ v = .int .u8 (ivk a k : Int) ∧ i = .int .i64 (k : Int) ∧ Below w.heap.size w wr)
    (fun _ _ i _ => 7 - (intOf i).toNat)
  case atStart => exact ⟨0, by omega, rfl, rfl, rfl, Below.refl _ _⟩
  case round =>
    obtain ⟨k, hk, rfl, rfl, rfl, hB⟩ := hrel
    by_cases hlt : k < 7
    · have hi1 : (k : Int) < 7 := by omega
      have hs := sqk_lt ha k
      have hs1 := sqk_lt ha (k + 1)
      have hv := ivk_lt a k
      have es : sqk a (k + 1) = mulN (sqk a k) (sqk a k) := rfl
      have ev : ivk a (k + 1) = mulN (ivk a k) (sqk a (k + 1)) := rfl
      rw [es] at ev
      generalize sqk a k = s at *
      generalize ivk a k = v at *
      have HES := Lib.hid es
      have HEV := Lib.hid ev
      rw [es] at hs1
      clear es ev
      go_wp2_with fail
      refine (mul_any s s _ hs hs).mono ?_
      rintro e w1 ⟨rfl, hb1⟩
      generalize hm : mulN s s = m at *
      have HM := Lib.hid hm
      clear hm
      go_wp2_with fail
      refine (mul_any v m _ hv hs1).mono ?_
      rintro e w2 ⟨rfl, hb2⟩
      have hB2 : Below w.heap.size w w2 := (hB.trans (hb1.mono hB.size)).trans (hb2.mono (by have := hB.size; have := hb1.size; omega))
      generalize hm : mulN v m = z at *
      have HZ := Lib.hid hm
      clear hm
      go_wp2
      go_roundw
      case rel => exact ⟨k + 1, by omega, by rw [HES.out], by rw [HEV.out], by go_num, hB2⟩
      case measure => simp [intOf]; omega
    · obtain rfl : k = 7 := by omega
      have he := ivk_7 ha
      generalize ivk a 7 = v at *
      have HE := Lib.hid he
      clear he
      go_wp2
      go_ret
      exact ⟨by rw [← HE.out]; rfl, hB⟩

/-- a byte turned to the right. -/
def rotN (x p : Nat) : Nat := x * 2 ^ ((8 - p) % 8) % 256 ||| x / 2 ^ (8 - (8 - p) % 8)
theorem rotN_lt {x : Nat} (hx : x < 256) (p : Nat) : rotN x p < 256 :=
  Nat.or_lt_two_pow (n := 8) (Nat.mod_lt _ (by decide)) (Nat.lt_of_le_of_lt (Nat.div_le_self _ _) hx)
theorem rot_is {x : Nat} (hx : x < 256) (p : Nat) : ((rotN x p : Nat) : Int) = bits BinOp.or IntKind.u8 ((x : Int) * 2 ^ ((8 - p) % 8) % 256) ((x : Int) / 2 ^ (8 - (8 - p) % 8)) := by
  have e1 : (x : Int) * 2 ^ ((8 - p) % 8) % 256 = ((x * 2 ^ ((8 - p) % 8) % 256 : Nat) : Int) := by simp
  have e2 : (x : Int) / 2 ^ (8 - (8 - p) % 8) = ((x / 2 ^ (8 - (8 - p) % 8) : Nat) : Int) := by simp
  rw [e1, e2, u8_or_nat _ _ (Nat.mod_lt _ (by decide)) (Nat.lt_of_le_of_lt (Nat.div_le_self _ _) hx)]
  rfl
@[local go_sem] theorem b7_1 : bits BinOp.and IntKind.u64 (IntKind.u64.wrap (-1)) 7 = 7 := by kernel_rfl
@[local go_sem] theorem b7_2 : bits BinOp.and IntKind.u64 (IntKind.u64.wrap (-2)) 7 = 6 := by kernel_rfl
@[local go_sem] theorem b7_3 : bits BinOp.and IntKind.u64 (IntKind.u64.wrap (-3)) 7 = 5 := by kernel_rfl
@[local go_sem] theorem b7_4 : bits BinOp.and IntKind.u64 (IntKind.u64.wrap (-4)) 7 = 4 := by kernel_rfl
@[local go_sem] theorem b7_5 : bits BinOp.and IntKind.u64 (IntKind.u64.wrap (-5)) 7 = 3 := by kernel_rfl
@[local go_sem] theorem b7_6 : bits BinOp.and IntKind.u64 (IntKind.u64.wrap (-6)) 7 = 2 := by kernel_rfl
@[local go_sem] theorem b7_7 : bits BinOp.and IntKind.u64 (IntKind.u64.wrap (-7)) 7 = 1 := by kernel_rfl
@[local go_sem] theorem b7_0 : bits BinOp.and IntKind.u64 0 7 = 0 := by kernel_rfl
set_option maxHeartbeats 1000000 in
theorem rot_any (x p : Nat) (w : World) (hx : x < 256) (hp : p < 8) :
    Calls Tryz.prog 209 #[.int .u8 (x : Int), .int .i64 (-(p : Int))] w fun e w' => e = .returned (.int .u8 ((rotN x p : Nat) : Int)) ∧ w = w' := by
  have hr := rot_is hx p
  generalize rotN x p = r at *
  rcases (by omega : p = 0 ∨ p = 1 ∨ p = 2 ∨ p = 3 ∨ p = 4 ∨ p = 5 ∨ p = 6 ∨ p = 7) with rfl | rfl | rfl | rfl | rfl | rfl | rfl | rfl
  all_goals
    have HR := Lib.hid hr
    clear hr
    go_enter Tryz.func209, Tryz.ntmps209
    go_wp2
    go_ret
    rw [HR.out]
    first
      | exact ⟨rfl, rfl⟩
      | (have e0 : (x : Int) * 2 ^ ((8 - 0) % 8) % 256 = (x : Int) := by
           show (x : Int) * 1 % 256 = _
           omega
         rw [e0]
         exact ⟨rfl, rfl⟩)

/-- a byte turned by each of these places, put together. -/
def turnL (x : Nat) (ps : List Nat) : Nat := ps.foldl (fun o p => o ^^^ rotN x p) 0
theorem turnL_lt {x : Nat} (hx : x < 256) (ps : List Nat) : turnL x ps < 256 := by
  suffices h : ∀ (l : List Nat) (p : Nat), p < 256 → l.foldl (fun o p => o ^^^ rotN x p) p < 256 from h ps 0 (by decide)
  intro l
  induction l with
  | nil => exact fun p h => h
  | cons q l ih => exact fun p h => ih _ (xor_lt h (rotN_lt hx q))
theorem turnL_take (x : Nat) (ps : List Nat) (k : Nat) (h : k < ps.length) : turnL x (ps.take (k + 1)) = turnL x (ps.take k) ^^^ rotN x ps[k] := by
  rw [List.take_add_one, List.getElem?_eq_getElem h]
  simp only [Option.toList, turnL, List.foldl_append, List.foldl]

set_option maxRecDepth 100000 in
set_option maxHeartbeats 1000000 in
theorem turned_any (x : Nat) (ps : List Nat) (g : Nat) (w : World) (hx : x < 256) (hp : ∀ p ∈ ps, p < 8) (hl : ps.length ≤ 8) (hc : ∀ (i : Nat) (h : i < ps.length), w.cell? ⟨g, i, none⟩ = some (.int .i64 ((ps[i] : Nat) : Int))) :
    Calls Tryz.prog 195 #[.int .u8 (x : Int), .slice (some ⟨g, 0, none⟩) ps.length ps.length] w fun e w' => e = .returned (.int .u8 ((turnL x ps : Nat) : Int)) ∧ w = w' := by
  go_enter Tryz.func195, Tryz.ntmps195
  go_wp2
  go_loopw [5, 10] (fun o i wr => ∃ k : Nat, k ≤ ps.length ∧ o = .int .u8 ((turnL x (ps.take k) : Nat) : Int) ∧ i = .int .i64 (k : Int) ∧ w = wr)
    (fun _ i _ => ps.length - (intOf i).toNat)
  case atStart => exact ⟨0, by omega, rfl, rfl, rfl⟩
  case round =>
    obtain ⟨k, hk, rfl, rfl, rfl⟩ := hrel
    have hlt0 := turnL_lt hx (ps.take k)
    by_cases hlt : k < ps.length
    · have hi0 : (0 : Int) ≤ (k : Int) := by omega
      have hi1 : (k : Int) < (ps.length : Int) := by omega
      have ck := hc k hlt
      clear hc
      have h8 := hp ps[k] (List.getElem_mem hlt)
      have hx1 := u8_xor_nat (turnL x (ps.take k)) (rotN x ps[k]) hlt0 (rotN_lt hx _)
      rw [← turnL_take x ps k hlt] at hx1
      generalize turnL x (ps.take k) = o at *
      generalize ps[k] = q at *
      have HX1 := Lib.hid hx1
      have hr := rot_any x q w hx h8
      generalize rotN x q = r at *
      have HR := Lib.hid hr
      have hw := IntWalk.wrap64_in (-(q : Int)) (by omega)
      clear hx1 hr
      go_wp2_with (go_at_call 209; refine HR.out.mono ?_; rintro e w' ⟨rfl, rfl⟩)
      go_roundw
      case rel => exact ⟨k + 1, by omega, by rw [← HX1.out], by go_num, trivial⟩
      case measure => simp [intOf]; omega
    · obtain rfl : k = ps.length := by omega
      rw [List.take_length] at *
      generalize ho : turnL x ps = o at *
      have HO := Lib.hid ho
      clear ho
      go_wp2
      go_ret
      exact ⟨by rw [HO.out]; rfl, rfl⟩

theorem sub_all : all1 (fun a => (turnL (invN a) [0, 4, 5, 6, 7] ^^^ 99 == subN a) && (invN (turnL (a ^^^ 99) [2, 5, 7]) == backN a)) = true := by kernel_rfl
theorem sub_turn {a : Nat} (ha : a < 256) : turnL (invN a) [0, 4, 5, 6, 7] ^^^ 99 = subN a := by
  have := all1_of sub_all ha
  simp only [Bool.and_eq_true, beq_iff_eq] at this
  exact this.1
set_option maxRecDepth 100000 in
set_option maxHeartbeats 1000000 in
theorem fsub_any (a : Nat) (w : World) (ha : a < 256) :
    Calls Tryz.prog 178 #[.int .u8 (a : Int)] w fun e w' => e = .returned (.int .u8 ((subN a : Nat) : Int)) ∧ Below w.heap.size w w' := by
  have hi := (inv_at ha).i
  have hs := sub_turn ha
  have hI := fun w => finv_any a w ha
  generalize invN a = i at *
  have ht := turnL_lt hi [0, 4, 5, 6, 7]
  have hx := u8_xor_nat (turnL i [0, 4, 5, 6, 7]) 99 ht (by decide)
  rw [hs] at hx
  have hT : ∀ w1 : World, Calls Tryz.prog 195 #[.int .u8 (i : Int), .slice (some ⟨w1.heap.size, 0, none⟩) 5 5] (w1.alloc (.cells #[.int .i64 0, .int .i64 4, .int .i64 5, .int .i64 6, .int .i64 7] 3)) fun e w' => e = .returned (.int .u8 ((turnL i [0, 4, 5, 6, 7] : Nat) : Int)) ∧ (w1.alloc (.cells #[.int .i64 0, .int .i64 4, .int .i64 5, .int .i64 6, .int .i64 7] 3)) = w' := fun w1 =>
    turned_any i [0, 4, 5, 6, 7] w1.heap.size _ hi (by decide) (by decide) (fun j h => by
      rw [(Is.new w1 3 #[.int .i64 0, .int .i64 4, .int .i64 5, .int .i64 6, .int .i64 7]).cell j]
      rcases (by simp at h; omega : j = 0 ∨ j = 1 ∨ j = 2 ∨ j = 3 ∨ j = 4) with rfl | rfl | rfl | rfl | rfl <;> rfl)
  generalize turnL i [0, 4, 5, 6, 7] = t at *
  have HX := Lib.hid hx
  have HI := Lib.hid hI
  have HT := Lib.hid hT
  clear hx hI hT hs
  go_enter Tryz.func178, Tryz.ntmps178
  go_wp2_with (first
    | (go_at_call 196; refine (HI.out _).mono ?_; rintro e w1 ⟨rfl, hb1⟩)
    | (go_at_call 195; refine (HT.out _).mono ?_; rintro e w' ⟨rfl, rfl⟩))
  go_ret
  exact ⟨by rw [← HX.out]; rfl, hb1.alloc hb1.size _⟩

end Go.Proofs.YtfgdcpolfekgjaaGreat
namespace Go.Proofs.YtfgdcpolfekgjaaGreat
open Go.RowKit

/-- four bytes as cells, by a function. -/
def arr4 (f : Nat → Nat) : Array Value := ((List.range 4).map fun j => Value.int .u8 ((f j : Nat) : Int)).toArray
theorem arr4_size (f : Nat → Nat) : (arr4 f).size = 4 := by simp [arr4]
theorem arr4_get (f : Nat → Nat) (j : Nat) (h : j < 4) : (arr4 f)[j]? = some (.int .u8 ((f j : Nat) : Int)) := by simp [arr4, h]
theorem arr4_congr {f g : Nat → Nat} (h : ∀ j, j < 4 → f j = g j) : arr4 f = arr4 g := by
  unfold arr4; congr 1; exact List.map_congr_left fun j hj => by rw [h j (List.mem_range.1 hj)]
theorem arr4_one (f : Nat → Nat) : (arr4 f).all (·.oneCell') = true := by
  rw [Array.all_eq_true_iff_forall_mem]
  intro v hv
  simp only [arr4, List.mem_toArray, List.mem_map] at hv
  obtain ⟨x, _, rfl⟩ := hv
  rfl
theorem arr4_set (f : Nat → Nat) (k : Nat) (x : Nat) : (arr4 f).setIfInBounds k (.int .u8 (x : Int)) = arr4 (fun j => if j = k then x else f j) := by
  apply Array.ext_getElem?
  intro i
  rw [Array.getElem?_setIfInBounds]
  by_cases hi : i < 4
  · rw [arr4_get _ _ hi, arr4_get _ _ hi, arr4_size]
    by_cases e : k = i
    · subst e; simp [hi]
    · rw [if_neg e, if_neg (fun h => e h.symm)]
  · have e1 : (arr4 f)[i]? = none := by rw [Array.getElem?_eq_none_iff, arr4_size]; omega
    have e2 : (arr4 (fun j => if j = k then x else f j))[i]? = none := by rw [Array.getElem?_eq_none_iff, arr4_size]; omega
    rw [e1, e2, arr4_size]
    split
    · rename_i h; rw [if_neg (by omega)]
    · rfl

/-- the sum of k of the four products for place i. -/
def mixP (c f : Nat → Nat) (i : Nat) : Nat → Nat
  | 0 => 0
  | k + 1 => mixP c f i k ^^^ mulN (f k) (c ((i + k) % 4))
theorem mixP_lt {c f : Nat → Nat} (hf : ∀ j, f j < 256) (i k : Nat) : mixP c f i k < 256 := by
  induction k with
  | zero => show 0 < 256; decide
  | succ k ih => exact xor_lt ih (mulN_lt (hf k))
/-- what is mixed, when i places are done, and k products of the next one. -/
def mixS (c f : Nat → Nat) (i k : Nat) (j : Nat) : Nat := if j < i then mixP c f j 4 else if j = i then mixP c f i k else 0
theorem mixS_at (c f : Nat → Nat) (i k : Nat) : mixS c f i k i = mixP c f i k := by simp [mixS]
theorem mixS_next (c f : Nat → Nat) (i : Nat) : arr4 (mixS c f i 4) = arr4 (mixS c f (i + 1) 0) := by
  refine arr4_congr fun j _ => ?_
  unfold mixS
  by_cases h1 : j < i
  · rw [if_pos h1, if_pos (by omega)]
  · by_cases h2 : j = i
    · rw [if_neg h1, if_pos h2, if_pos (by omega), h2]
    · rw [if_neg h1, if_neg h2, if_neg (by omega)]
      split
      · rfl
      · rfl
theorem mixS_step (c f : Nat → Nat) (i k : Nat) : (arr4 (mixS c f i k)).setIfInBounds i (.int .u8 ((mixP c f i (k + 1) : Nat) : Int)) = arr4 (mixS c f i (k + 1)) := by
  rw [arr4_set]
  refine arr4_congr fun j _ => ?_
  unfold mixS
  by_cases h : j = i
  · subst h; simp
  · rw [if_neg h, if_neg h, if_neg h]
set_option maxRecDepth 100000 in
set_option maxHeartbeats 1000000 in
theorem mixed_any (c f : Nat → Nat) (w : World) (hc : ∀ j, c j < 256) (hf : ∀ j, f j < 256) :
    Calls Tryz.prog 197 #[.agg (arr4 c), .agg (arr4 f)] w fun e w' => e = .returned (.agg (arr4 (mixS c f 4 0))) ∧ Below w.heap.size w w' := by
  have hz : #[Value.int .u8 0, .int .u8 0, .int .u8 0, .int .u8 0] = arr4 (mixS c f 0 0) := rfl
  go_enter Tryz.func197, Tryz.ntmps197
  go_wp2
  clear hz
  have iC : Is ((((w.alloc (.cells (arr4 c) 160)).alloc (.cells (arr4 f) 160)).alloc (.cells (arr4 (mixS c f 0 0)) 160)).alloc (.cells (arr4 (mixS c f 0 0)) 160)) w.heap.size 160 (arr4 c) := (((Is.new w _ _).alloc _).alloc _).alloc _
  have iF : Is ((((w.alloc (.cells (arr4 c) 160)).alloc (.cells (arr4 f) 160)).alloc (.cells (arr4 (mixS c f 0 0)) 160)).alloc (.cells (arr4 (mixS c f 0 0)) 160)) (w.heap.size + 1) 160 (arr4 f) := Is.alloc (Is.alloc (heap_alloc2_new w _ _) _) _
  have iR : Is ((((w.alloc (.cells (arr4 c) 160)).alloc (.cells (arr4 f) 160)).alloc (.cells (arr4 (mixS c f 0 0)) 160)).alloc (.cells (arr4 (mixS c f 0 0)) 160)) (w.heap.size + 1 + 1) 160 (arr4 (mixS c f 0 0)) := by
    have := (Is.new ((w.alloc (.cells (arr4 c) 160)).alloc (.cells (arr4 f) 160)) 160 (arr4 (mixS c f 0 0))).alloc (.cells (arr4 (mixS c f 0 0)) 160)
    simpa using this
  have iO : Is ((((w.alloc (.cells (arr4 c) 160)).alloc (.cells (arr4 f) 160)).alloc (.cells (arr4 (mixS c f 0 0)) 160)).alloc (.cells (arr4 (mixS c f 0 0)) 160)) (w.heap.size + 1 + 1 + 1) 160 (arr4 (mixS c f 0 0)) := by
    have := Is.new (((w.alloc (.cells (arr4 c) 160)).alloc (.cells (arr4 f) 160)).alloc (.cells (arr4 (mixS c f 0 0)) 160)) 160 (arr4 (mixS c f 0 0))
    simpa using this
  have hB0 : Below w.heap.size w ((((w.alloc (.cells (arr4 c) 160)).alloc (.cells (arr4 f) 160)).alloc (.cells (arr4 (mixS c f 0 0)) 160)).alloc (.cells (arr4 (mixS c f 0 0)) 160)) := ((((Below.refl _ _).alloc (Nat.le_refl _) _).alloc (by simp) _).alloc (by simp; omega) _).alloc (by simp; omega) _
  generalize ((((w.alloc (.cells (arr4 c) 160)).alloc (.cells (arr4 f) 160)).alloc (.cells (arr4 (mixS c f 0 0)) 160)).alloc (.cells (arr4 (mixS c f 0 0)) 160)) = W0 at *
  generalize hz : arr4 (mixS c f 0 0) = Z at iR
  have HZ := Lib.hid hz
  clear hz
  obtain ⟨Bc, hBc⟩ : ∃ Bc, Bc = w.heap.size := ⟨_, rfl⟩
  obtain ⟨Bf, hBf⟩ : ∃ Bf, Bf = w.heap.size + 1 := ⟨_, rfl⟩
  obtain ⟨Br, hBr⟩ : ∃ Br, Br = w.heap.size + 1 + 1 := ⟨_, rfl⟩
  obtain ⟨Bo, hBo⟩ : ∃ Bo, Bo = w.heap.size + 1 + 1 + 1 := ⟨_, rfl⟩
  rw [← hBo, ← hBr, ← hBf, ← hBc]
  rw [← hBc] at iC
  rw [← hBf] at iF
  rw [← hBr] at iR
  rw [← hBo] at iO
  have q1 : w.heap.size ≤ Bo := by omega
  have q2 : Bc ≠ Bo := by omega
  have q3 : Bf ≠ Bo := by omega
  have q4 : Br ≠ Bo := by omega
  have q5 : w.heap.size ≤ Br := by omega
  clear hBc hBf hBr hBo
  have hf4 : ∀ k : Nat, k < 4 → ∀ wx : World, (Instr.index 160 (.agg (arr4 f)) (.int .i64 (k : Int))).run Tryz.prog wx = .ok (.int .u8 ((f k : Nat) : Int)) wx := fun k hk wx => by
    rcases (by omega : k = 0 ∨ k = 1 ∨ k = 2 ∨ k = 3) with rfl | rfl | rfl | rfl
    all_goals
      show (Instr.index 160 (.agg #[.int .u8 (f 0 : Int), .int .u8 (f 1 : Int), .int .u8 (f 2 : Int), .int .u8 (f 3 : Int)]) _).run _ _ = _
      simp [Instr.index, run_underlying Tryz.underlying160, asIntOf, go_sem]
      done
  go_loopw [9] (fun i wr => ∃ n : Nat, n ≤ 4 ∧ i = .int .i64 (n : Int) ∧ Is wr Bc 160 (arr4 c) ∧ Is wr Bf 160 (arr4 f) ∧ Is wr Br 160 Z ∧ Is wr Bo 160 (arr4 (mixS c f n 0)) ∧ Below w.heap.size w wr)
    (fun i _ => 4 - (intOf i).toNat)
  case atStart => exact ⟨0, by omega, rfl, iC, iF, iR, iO, hB0⟩
  case round =>
    clear iC iF iR iO hB0
    obtain ⟨n, hn, rfl, iC, iF, iR, iO, hB⟩ := hrel
    by_cases hlt : n < 4
    · have hi1 : (n : Int) < 4 := by omega
      go_wp2_with (refine wpList_load_row rfl 160 _ rfl Bf rfl _ _ _ _ iF Tryz.underlying160 rfl (by rw [arr4_size]; kernel_rfl) ?_)
      go_loopw [13] (fun i wr => ∃ k : Nat, k ≤ 4 ∧ i = .int .i64 (k : Int) ∧ Is wr Bc 160 (arr4 c) ∧ Is wr Bf 160 (arr4 f) ∧ Is wr Br 160 Z ∧ Is wr Bo 160 (arr4 (mixS c f n k)) ∧ Below w.heap.size w wr)
        (fun i _ => 4 - (intOf i).toNat)
      case atStart => exact ⟨0, by omega, rfl, iC, iF, iR, iO, hB⟩
      case round =>
        clear iC iF iR iO hB
        obtain ⟨k, hk, rfl, iC, iF, iR, iO, hB⟩ := hrel
        by_cases hlt2 : k < 4
        · have hi2 : (k : Int) < 4 := by omega
          have hfk := hf4 k hlt2
          clear hf4
          have hwr := IntWalk.i64_in ((n : Int) + (k : Int)) (by omega)
          have hmk := mixP_lt hf (c := c) n k
          have hx := u8_xor_nat (mixP c f n k) (mulN (f k) (c ((n + k) % 4))) hmk (mulN_lt (hf k))
          have hst := mixS_step c f n k
          have cO : wr.cell? ⟨Bo, n, none⟩ = some (.int .u8 ((mixP c f n k : Nat) : Int)) := by rw [iO.cell n, arr4_get _ _ hlt, mixS_at]
          have fO := iO.frozen n
          have cC : wr.cell? ⟨Bc, (n + k) % 4, none⟩ = some (.int .u8 ((c ((n + k) % 4) : Nat) : Int)) := by rw [iC.cell, arr4_get _ _ (Nat.mod_lt _ (by decide))]
          have hM := fun w => mul_any (f k) (c ((n + k) % 4)) w (hf k) (hc _)
          change bits BinOp.xor IntKind.u8 _ _ = ((mixP c f n (k + 1) : Nat) : Int) at hx
          rw [← hx] at hst
          have ht : ((n : Int) + (k : Int)).tmod 4 = (((n + k) % 4 : Nat) : Int) := by rw [Int.tmod_eq_emod_of_nonneg (by omega)]; omega
          have hm4 : (((n + k) % 4 : Nat) : Int) < 4 := by omega
          have hn0 : (0 : Int) ≤ (n : Int) := by omega
          have hm0 : (0 : Int) ≤ (((n + k) % 4 : Nat) : Int) := by omega
          generalize (n + k) % 4 = m at *
          generalize mixP c f n k = v at *
          generalize c m = u at *
          generalize f k = fk at *
          generalize mulN fk u = z at *
          go_wp2
          have HST := Lib.hid hst
          have HM := Lib.hid hM
          clear hst hM hfk hx hmk
          refine wp_region_held_drew (S := fun w' => w'.cell? ⟨Bc, m, none⟩ = some (.int .u8 (u : Int))) (by kernel_rfl) cC (fun hS => ?_)
          refine wpAnyH_take (i := 0) (v := .int .i64 (n : Int)) rfl (by kernel_rfl) (by kernel_rfl) (by kernel_rfl) (fun _ _ _ h => h) (Or.inl ⟨by rfl, fun w hSw => by go_simp⟩) hS ?_
          simp only [Act.put]
          refine wpAnyH_take (i := 1) (v := .pointer (some ⟨Bo, n, none⟩)) rfl (by kernel_rfl) (by kernel_rfl) (by kernel_rfl) (fun _ _ _ h => h) (Or.inl ⟨by rfl, fun w hSw => by go_simp⟩) hS ?_
          simp only [Act.put]
          refine wpAnyH_take (i := 3) (v := .int .u8 (fk : Int)) rfl (by kernel_rfl) (by kernel_rfl) (by kernel_rfl) (fun _ _ _ h => h) (Or.inl ⟨by rfl, fun w hSw => by go_simp⟩) hS ?_
          simp only [Act.put]
          refine wpAnyH_take (i := 4) (v := .int .i64 (n : Int)) rfl (by kernel_rfl) (by kernel_rfl) (by kernel_rfl) (fun _ _ _ h => h) (Or.inl ⟨by rfl, fun w hSw => by go_simp⟩) hS ?_
          simp only [Act.put]
          refine wpAnyH_take (i := 5) (v := .int .i64 (k : Int)) rfl (by kernel_rfl) (by kernel_rfl) (by kernel_rfl) (fun _ _ _ h => h) (Or.inl ⟨by rfl, fun w hSw => by go_simp⟩) hS ?_
          simp only [Act.put]
          refine wpAnyH_take (i := 6) (v := .int .i64 ((n : Int) + (k : Int))) rfl (by kernel_rfl) (by kernel_rfl) (by kernel_rfl) (fun _ _ _ h => h) (Or.inl ⟨by rfl, fun w hSw => by go_simp⟩) hS ?_
          simp only [Act.put]
          refine wpAnyH_take (i := 7) (v := .int .i64 (m : Int)) rfl (by kernel_rfl) (by kernel_rfl) (by kernel_rfl) (fun _ _ _ h => h) (Or.inl ⟨by rfl, fun w hSw => by go_simp⟩) hS ?_
          simp only [Act.put]
          refine wpAnyH_take (i := 8) (v := .pointer (some ⟨Bc, m, none⟩)) rfl (by kernel_rfl) (by kernel_rfl) (by kernel_rfl) (fun _ _ _ h => h) (Or.inl ⟨by rfl, fun w hSw => by go_simp⟩) hS ?_
          simp only [Act.put]
          refine wpAnyH_take (i := 9) (v := .int .u8 (u : Int)) rfl (by kernel_rfl) (by kernel_rfl) (by kernel_rfl) (fun _ _ _ h => h) (Or.inl ⟨by rfl, fun w hSw => by (dsimp only at hSw; go_simp)⟩) hS ?_
          simp only [Act.put]
          refine wpAnyH_next2 (i := 2) (j := 10) (by kernel_rfl) rfl rfl ?_ ?_
          · intro Kc hKc
            go_simp
            refine hKc.out _ _ hS (fun _ => ?_)
            clear hKc Kc
            try simp only [Act.put]
            refine wpAnyH_next (i := 10) (by kernel_rfl) rfl (fun Kc hKc => ?_)
            go_simp
            go_at_call 210
            refine (HM.out _).mono ?_
            rintro e w1 ⟨rfl, hb⟩
            have jO : Is w1 Bo 160 (arr4 (mixS c f n k)) := Is.below (w := wr.drewN 1) iO hb iO.lt
            have jC : Is w1 Bc 160 (arr4 c) := Is.below (w := wr.drewN 1) iC hb iC.lt
            have jF : Is w1 Bf 160 (arr4 f) := Is.below (w := wr.drewN 1) iF hb iF.lt
            have jR : Is w1 Br 160 Z := Is.below (w := wr.drewN 1) iR hb iR.lt
            have dO : w1.cell? ⟨Bo, n, none⟩ = some (.int .u8 (v : Int)) := (hb.cell (p := ⟨Bo, n, none⟩) iO.lt).trans cO
            have gO := jO.frozen n
            have dC : w1.cell? ⟨Bc, m, none⟩ = some (.int .u8 (u : Int)) := (hb.cell (p := ⟨Bc, m, none⟩) iC.lt).trans cC
            have hB1 : Below w.heap.size w w1 := (belowN hB 1).trans (hb.mono hB.size)
            clear hb cO cC fO
            refine hKc.out _ _ dC (fun _ => ?_)
            clear hKc Kc
            try simp only [Act.put]
            refine wpAnyH_next (i := 11) (by kernel_rfl) rfl (fun Kc hKc => ?_)
            go_simp
            refine hKc.out _ _ dC (fun _ => ?_)
            clear hKc Kc
            try simp only [Act.put]
            refine wpAnyH_next (i := 12) (by kernel_rfl) rfl (fun Kc hKc => ?_)
            go_simp
            refine hKc.out _ _ dC (fun _ => ?_)
            clear hKc Kc
            try simp only [Act.put]
            refine wpAnyH_next (i := 13) (by kernel_rfl) rfl (fun Kc hKc => ?_)
            go_simp
            have iO2 := jO.set n (.int .u8 (bits BinOp.xor IntKind.u8 (v : Int) (z : Int)))
            rw [HST.out] at iO2
            have iC2 := jC.far (p := ⟨Bo, n, none⟩) q2 (.int .u8 (bits BinOp.xor IntKind.u8 (v : Int) (z : Int)))
            have iF2 := jF.far (p := ⟨Bo, n, none⟩) q3 (.int .u8 (bits BinOp.xor IntKind.u8 (v : Int) (z : Int)))
            have iR2 := jR.far (p := ⟨Bo, n, none⟩) q4 (.int .u8 (bits BinOp.xor IntKind.u8 (v : Int) (z : Int)))
            have hB2 := hB1.setCell (p := ⟨Bo, n, none⟩) q1 (.int .u8 (bits BinOp.xor IntKind.u8 (v : Int) (z : Int)))
            have dC2 := (World.cell?_of_block (w := w1) (a := ⟨Bc, m, none⟩) (heap_setCell_other w1 ⟨Bo, n, none⟩ Bc (.int .u8 (bits BinOp.xor IntKind.u8 (v : Int) (z : Int))) q2)).trans dC
            refine hKc.out _ _ dC2 (fun _ => ?_)
            clear hKc Kc
            try simp only [Act.put]
            refine wpAnyH_done (by kernel_rfl) ?_ _
            go_wp2
            go_roundw
            case rel => exact ⟨k + 1, by omega, by go_num, iC2, iF2, iR2, iO2, hB2⟩
            case measure => simp [intOf]; omega
          · intro Kc hKc
            go_simp
            go_at_call 210
            refine (HM.out _).mono ?_
            rintro e w1 ⟨rfl, hb⟩
            have jO : Is w1 Bo 160 (arr4 (mixS c f n k)) := Is.below (w := wr.drewN 1) iO hb iO.lt
            have jC : Is w1 Bc 160 (arr4 c) := Is.below (w := wr.drewN 1) iC hb iC.lt
            have jF : Is w1 Bf 160 (arr4 f) := Is.below (w := wr.drewN 1) iF hb iF.lt
            have jR : Is w1 Br 160 Z := Is.below (w := wr.drewN 1) iR hb iR.lt
            have dO : w1.cell? ⟨Bo, n, none⟩ = some (.int .u8 (v : Int)) := (hb.cell (p := ⟨Bo, n, none⟩) iO.lt).trans cO
            have gO := jO.frozen n
            have dC : w1.cell? ⟨Bc, m, none⟩ = some (.int .u8 (u : Int)) := (hb.cell (p := ⟨Bc, m, none⟩) iC.lt).trans cC
            have hB1 : Below w.heap.size w w1 := (belowN hB 1).trans (hb.mono hB.size)
            clear hb cO cC fO
            refine hKc.out _ _ dC (fun _ => ?_)
            clear hKc Kc
            try simp only [Act.put]
            refine wpAnyH_next (i := 2) (by kernel_rfl) rfl (fun Kc hKc => ?_)
            go_simp
            refine hKc.out _ _ dC (fun _ => ?_)
            clear hKc Kc
            try simp only [Act.put]
            refine wpAnyH_next (i := 11) (by kernel_rfl) rfl (fun Kc hKc => ?_)
            go_simp
            refine hKc.out _ _ dC (fun _ => ?_)
            clear hKc Kc
            try simp only [Act.put]
            refine wpAnyH_next (i := 12) (by kernel_rfl) rfl (fun Kc hKc => ?_)
            go_simp
            refine hKc.out _ _ dC (fun _ => ?_)
            clear hKc Kc
            try simp only [Act.put]
            refine wpAnyH_next (i := 13) (by kernel_rfl) rfl (fun Kc hKc => ?_)
            go_simp
            have iO2 := jO.set n (.int .u8 (bits BinOp.xor IntKind.u8 (v : Int) (z : Int)))
            rw [HST.out] at iO2
            have iC2 := jC.far (p := ⟨Bo, n, none⟩) q2 (.int .u8 (bits BinOp.xor IntKind.u8 (v : Int) (z : Int)))
            have iF2 := jF.far (p := ⟨Bo, n, none⟩) q3 (.int .u8 (bits BinOp.xor IntKind.u8 (v : Int) (z : Int)))
            have iR2 := jR.far (p := ⟨Bo, n, none⟩) q4 (.int .u8 (bits BinOp.xor IntKind.u8 (v : Int) (z : Int)))
            have hB2 := hB1.setCell (p := ⟨Bo, n, none⟩) q1 (.int .u8 (bits BinOp.xor IntKind.u8 (v : Int) (z : Int)))
            have dC2 := (World.cell?_of_block (w := w1) (a := ⟨Bc, m, none⟩) (heap_setCell_other w1 ⟨Bo, n, none⟩ Bc (.int .u8 (bits BinOp.xor IntKind.u8 (v : Int) (z : Int))) q2)).trans dC
            refine hKc.out _ _ dC2 (fun _ => ?_)
            clear hKc Kc
            try simp only [Act.put]
            refine wpAnyH_done (by kernel_rfl) ?_ _
            go_wp2
            go_roundw
            case rel => exact ⟨k + 1, by omega, by go_num, iC2, iF2, iR2, iO2, hB2⟩
            case measure => simp [intOf]; omega
        · obtain rfl : k = 4 := by omega
          rw [mixS_next] at iO
          go_wp2
          go_roundw
          case rel => exact ⟨n + 1, by omega, by go_num, iC, iF, iR, iO, hB⟩
          case measure => simp [intOf]; omega
    · obtain rfl : n = 4 := by omega
      go_wp2_with (first
        | (refine wpList_load_row rfl 160 _ rfl Bo rfl _ _ _ _ iO Tryz.underlying160 rfl (by rw [arr4_size]; kernel_rfl) ?_)
        | (refine wpList_store_row rfl 160 _ _ rfl Br (arr4 (mixS c f 4 0)) rfl rfl _ _ iR (by rw [arr4_size]; kernel_rfl) (by rw [arr4_size, ← HZ.out, arr4_size]) (arr4_one _) ?_))
      refine bodyPost_ret (results_cell_row Tryz.results197 _ _ Br 160 (arr4 (mixS c f 4 0)) (0, 0) _ rfl (iR.row _) Tryz.underlying160 rfl (by rw [arr4_size]; kernel_rfl)) rfl ⟨rfl, ?_⟩
      exact belowRow hB q5 _
end Go.Proofs.YtfgdcpolfekgjaaGreat
namespace Go.Proofs.YtfgdcpolfekgjaaGreat
open Go.RowKit

def C4.fn (x : C4) : Nat → Nat
  | 0 => x.a | 1 => x.b | 2 => x.c | _ => x.d
theorem C4.fn_lt {x : C4} (h : x.Ok) (j : Nat) : x.fn j < 256 := by
  unfold C4.fn
  split
  · exact h.a
  · exact h.b
  · exact h.c
  · exact h.d
/-- four bytes as cells. -/
abbrev C4.arr (x : C4) : Array Value := #[.int .u8 (x.a : Int), .int .u8 (x.b : Int), .int .u8 (x.c : Int), .int .u8 (x.d : Int)]
theorem C4.arr_fn (x : C4) : x.arr = arr4 x.fn := rfl
theorem C4.arr_one (x : C4) : x.arr.all (·.oneCell') = true := arr4_one x.fn
def FM : C4 := ⟨2, 3, 1, 1⟩
theorem one_mul_all : all1 (fun x => mulN 1 x == x) = true := by kernel_rfl
theorem one_mul' {x : Nat} (hx : x < 256) : mulN 1 x = x := by simpa using all1_of one_mul_all hx
theorem mixM {x : C4} (h : x.Ok) : arr4 (mixS x.fn FM.fn 4 0) = (mixC x).arr := by
  have key : ∀ {a b c d : Nat}, c < 256 → d < 256 → 0 ^^^ mulN 2 a ^^^ mulN 3 b ^^^ mulN 1 c ^^^ mulN 1 d = mulN 2 a ^^^ mulN 3 b ^^^ c ^^^ d := fun {a b c d} hc hd => by
    rw [Nat.zero_xor, one_mul' hc, one_mul' hd]
  show #[Value.int .u8 ((0 ^^^ mulN 2 x.a ^^^ mulN 3 x.b ^^^ mulN 1 x.c ^^^ mulN 1 x.d : Nat) : Int), .int .u8 ((0 ^^^ mulN 2 x.b ^^^ mulN 3 x.c ^^^ mulN 1 x.d ^^^ mulN 1 x.a : Nat) : Int), .int .u8 ((0 ^^^ mulN 2 x.c ^^^ mulN 3 x.d ^^^ mulN 1 x.a ^^^ mulN 1 x.b : Nat) : Int), .int .u8 ((0 ^^^ mulN 2 x.d ^^^ mulN 3 x.a ^^^ mulN 1 x.b ^^^ mulN 1 x.c : Nat) : Int)] = _
  rw [key h.c h.d, key h.d h.a, key h.a h.b, key h.b h.c]
  rfl
theorem FM_lt (j : Nat) : FM.fn j < 256 := C4.fn_lt ⟨by decide, by decide, by decide, by decide⟩ j
set_option maxRecDepth 100000 in
set_option maxHeartbeats 1000000 in
theorem mix_any (x : C4) (w : World) (h : x.Ok) :
    Calls Tryz.prog 182 #[.agg x.arr] w fun e w' => e = .returned (.agg (mixC x).arr) ∧ Below w.heap.size w w' := by
  have hM := fun w => mixed_any x.fn FM.fn w (C4.fn_lt h) FM_lt
  rw [mixM h, ← C4.arr_fn] at hM
  have hF : arr4 FM.fn = #[.int .u8 2, .int .u8 3, .int .u8 1, .int .u8 1] := rfl
  rw [hF] at hM
  have hone := C4.arr_one (mixC x)
  have hs1 : (Tryz.prog.info? 160).map (·.size) = some (mixC x).arr.size := by kernel_rfl
  have hs2 : (mixC x).arr.size = 4 := rfl
  generalize (mixC x).arr = R at *
  have hsx : (Tryz.prog.info? 160).map (·.size) = some x.arr.size := by kernel_rfl
  generalize x.arr = X at *
  have HM := Lib.hid hM
  clear hM
  go_enter Tryz.func182, Tryz.ntmps182
  have iC : Is ((w.alloc (.cells X 160)).alloc (.cells #[.int .u8 0, .int .u8 0, .int .u8 0, .int .u8 0] 160)) w.heap.size 160 X := (Is.new w _ _).alloc _
  have iR : Is ((w.alloc (.cells X 160)).alloc (.cells #[.int .u8 0, .int .u8 0, .int .u8 0, .int .u8 0] 160)) (w.heap.size + 1) 160 #[.int .u8 0, .int .u8 0, .int .u8 0, .int .u8 0] := heap_alloc2_new w _ _
  have hB0 : Below w.heap.size w ((w.alloc (.cells X 160)).alloc (.cells #[.int .u8 0, .int .u8 0, .int .u8 0, .int .u8 0] 160)) := ((Below.refl _ _).alloc (Nat.le_refl _) _).alloc (by simp) _
  go_wp2_with (first
    | (refine wpList_load_row rfl 160 _ rfl w.heap.size rfl _ _ _ _ iC Tryz.underlying160 rfl hsx ?_)
    | (go_at_call 197; refine (HM.out _).mono ?_; rintro e w1 ⟨rfl, hb⟩; have jR := iR.below hb iR.lt)
    | (refine wpList_store_row rfl 160 _ _ rfl (w.heap.size + 1) R rfl rfl _ _ jR hs1 (by rw [hs2]; rfl) hone ?_))
  refine bodyPost_ret (results_cell_row Tryz.results182 _ _ (w.heap.size + 1) 160 R (0, 0) _ rfl (jR.row _) Tryz.underlying160 rfl hs1) rfl ⟨rfl, ?_⟩
  exact belowRow (hB0.trans (hb.mono hB0.size)) (by omega) _

end Go.Proofs.YtfgdcpolfekgjaaGreat

