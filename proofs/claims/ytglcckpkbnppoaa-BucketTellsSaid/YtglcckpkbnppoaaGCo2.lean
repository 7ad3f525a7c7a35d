/-
  Contracts of codec.numberBytes, codec.Number and codec.Text; of strings.Clone, in layer 10's seat. Conditions: a number's bytes are asked of numbers from 0 to 2^31 - 1 alone; texts of at most 2^47 bytes.
  Contracts of strings.Clone, and of (*strings.Builder).copyCheck, WriteString and String, at a builder of the call's own. Conditions: texts of at most 2^47 bytes, all together.
  Contracts of codec.right, firstNumber, firstText. Condition: bytes that a right cursor may have.
  Contracts of codec.texts and of the iterator that it returns: one text after another, the first error last. Condition: bytes that a right cursor may have; at most a thousand are asked for.
  Contracts of codec.listSize, codec.List, and of the document's own List. Conditions: the list's texts lie where the slice points to; each has at most 2^47 bytes.
  Contracts of codec.firstList. Condition: bytes that a right cursor may have.
  Contracts of codec.firstList, where its number is taken. Condition: bytes that a right cursor may have.
-/
import Derived.Test.YtglcckpkbnppoaaGCo1
import Derived.Test.YtglcckpkbnppoaaGId1
import Derived.Test.YtglcckpkbnppoaaGKit
import Derived.Test.YtglcckpkbnppoaaChecked
import Derived.Lib.Strings
import Derived.Lib.Walk
import Derived.Lib.BufferWrite
import Derived.Lib.UnsafeStr
import Derived.Laws.MakeOwn
import Derived.Lib.FrozenHead
import Derived.Lib.OthersKept
import Derived.Lib.BufStepsIn
import Derived.RangeFuncFrom
namespace Go.Proofs.Ytglcckpkbnppoaa
open Go.RowKit Go.Shelf

theorem infoU8x : (Try.prog.info? 5).map (fun i => (i.zero, i.size, i.bytes)) = some (some (.int .u8 0), 1, 1) := by kernel_rfl
/-- four bytes in memory, made a text. -/
theorem conv_num10 {W : World} {g : Nat} {n : Int} (h : Is W g 5 #[.int .u8 (n / 16777216 % 256), .int .u8 (n / 65536 % 256), .int .u8 (n / 256 % 256), .int .u8 (n % 256)]) :
    (convert 58 9 (.slice (some ⟨g, 0, none⟩) 4 4)).run Try.prog W = .ok (.string (num10 n)) W :=
  run_convert_bytes_arg (P := Try.prog) W 58 5 Try.underlying58 Try.underlying5 g 0 4 4 (fb10 n) rfl (fun i hi => by
    rw [Nat.zero_add, h.cell]
    match i, hi with
    | 0, _ => rfl
    | 1, _ => rfl
    | 2, _ => rfl
    | 3, _ => rfl) 9 Try.underlying9

/-- the same four bytes, as a small number's are reckoned. -/
theorem conv_num10s {W : World} {g : Nat} {n : Int} (h0 : 0 ≤ n) (h1 : n ≤ 2147483647) (h : Is W g 5 #[.int .u8 (n / 16777216), .int .u8 (n / 65536 % 256), .int .u8 (n / 256 % 256), .int .u8 (n % 256)]) :
    (convert 58 9 (.slice (some ⟨g, 0, none⟩) 4 4)).run Try.prog W = .ok (.string (num10 n)) W :=
  conv_num10 (n := n) (by rw [show n / 16777216 % 256 = n / 16777216 by omega]; exact h)

def numR10 (n : Int) : Value := .tuple #[.string (numV10 n).1, .int .i64 (numV10 n).2]
theorem numR_ok10 {n : Int} (h0 : 0 ≤ n) (h1 : n ≤ 2147483647) : numR10 n = .tuple #[.string (num10 n), .int .i64 0] := by
  rw [numR10, numV10, if_pos (show numE10 n = true by simp [numE10, h0, h1])]
theorem numR_no10 {n : Int} (h : ¬ (0 ≤ n ∧ n ≤ 2147483647)) : numR10 n = .tuple #[.string ⟨#[]⟩, .int .i64 1] := by
  rw [numR10, numV10, if_neg (show ¬ numE10 n = true by simp only [numE10, Bool.and_eq_true, decide_eq_true_eq]; exact h)]

def txtR10 (s : ByteArray) : Value := .tuple #[.string (txtV10 s).1, .int .i64 (txtV10 s).2]
theorem txtR_ok10 {s : ByteArray} (h : s.size ≤ 65536) : txtR10 s = .tuple #[.string (num10 (s.size : Int) ++ s), .int .i64 0] := by
  rw [txtR10, txtV10, if_pos h]; rfl
theorem txtR_no10 {s : ByteArray} (h : ¬ s.size ≤ 65536) : txtR10 s = .tuple #[.string ⟨#[]⟩, .int .i64 2] := by
  rw [txtR10, txtV10, if_neg h]

end Go.Proofs.Ytglcckpkbnppoaa
namespace Go.Proofs.Ytglcckpkbnppoaa
open Go.RowKit Go.Shelf

theorem freeze_other10 (w : World) (p : Addr) (n k : Nat) (h : k ≠ p.block) : (w.freeze p n).heap[k]? = w.heap[k]? := by
  unfold World.freeze
  split
  · rfl
  · simp only [Array.getElem?_modify]
    rw [if_neg (fun e => h e.symm)]
theorem wpAnyH_run {P : Program} {md : Region.Mode} {ops : Array Oper} {Q : Exit → Act → World → Prop} {S : World → Prop} {fuel i : Nat} {listed : Array Bool} {a : Act} {w : World} {o : Oper} {v : Value} {w' : World}
    (hr : Region.ready md ops listed = [i]) (ho : ops[i]? = some o) (hw : Region.wanted o (yielded ops a.tmps) = true) (hx : (execOp a.eval o).run P w = .ok (.value v) w') (hS : S w')
    (h : wpAnyH P md ops Q S fuel (listed.setIfInBounds i true) (a.put o.dst v) w') : wpAnyH P md ops Q S (fuel + 1) listed a w :=
  wpAnyH_next hr ho fun K' hK => by
    rw [if_pos hw]
    unfold Oper.wp
    rw [hx, Oper.upon_value]
    exact hK.out _ _ hS fun _ => h
end Go.Proofs.Ytglcckpkbnppoaa
namespace Go.Proofs.Ytglcckpkbnppoaa
open Go.RowKit Go.Shelf

theorem tor10 (y z : Nat) (hy : y < 16777216) (hz : z < 256) : bits .or .i64 ((y : Int) * 256) (z : Int) = ((256 * y + z : Nat) : Int) := by
  have h1 : (BitVec.ofInt 64 ((y : Int) * 256)).toNat = y * 256 := by
    rw [show (y : Int) * 256 = ((y * 256 : Nat) : Int) by omega, BitVec.ofInt_natCast, BitVec.toNat_ofNat]; exact Nat.mod_eq_of_lt (by omega)
  have h2 : (BitVec.ofInt 64 (z : Int)).toNat = z := by
    rw [BitVec.ofInt_natCast, BitVec.toNat_ofNat]; exact Nat.mod_eq_of_lt (by omega)
  have h3 : y * 256 ||| z = y * 256 + z := by
    rw [show y * 256 = 2 ^ 8 * y by omega, ← Nat.two_pow_add_eq_or_of_lt (by omega)]
  show IntKind.i64.wrap ((BitVec.ofInt 64 ((y : Int) * 256) ||| BitVec.ofInt 64 (z : Int)).toNat : Int) = _
  rw [BitVec.toNat_or, h1, h2, h3]
  have := IntWalk.i64_in ((256 * y + z : Nat) : Int) (by omega)
  rw [show ((y * 256 + z : Nat) : Int) = ((256 * y + z : Nat) : Int) by omega]
  exact this
/-- the number that the first bytes are. -/
def rdk10 (s : ByteArray) : Nat → Nat
  | 0 => 0
  | k + 1 => 256 * rdk10 s k + bt7 s k
theorem rdk_four10 (s : ByteArray) : rdk10 s 4 = rd10 s 0 := by
  simp only [rdk10, rd10, Nat.zero_add]; omega
theorem rdk_bd10 (s : ByteArray) (k : Nat) (h : k < 4) : rdk10 s k < 16777216 := by
  have h0 := bt7_lt s 0
  have h1 := bt7_lt s 1
  have h2 := bt7_lt s 2
  rcases (by omega : k = 0 ∨ k = 1 ∨ k = 2 ∨ k = 3) with rfl | rfl | rfl | rfl <;> simp only [rdk10] <;> omega

def fnR10 (s : ByteArray) : Value := .tuple #[.int .i64 (tnV10 s 0).1, .int .i64 (tnV10 s 0).2.1, .int .i64 (tnV10 s 0).2.2]
theorem right_zero10 {s : ByteArray} (h : s.size ≤ 65536) : rightV s 0 = true := rightV_iff.2 ⟨h, by omega, by omega⟩
theorem fnR_short10 {s : ByteArray} (h : s.size ≤ 65536) (h4 : s.size < 4) : fnR10 s = .tuple #[.int .i64 0, .int .i64 0, .int .i64 10] := by
  rw [fnR10, tnV10, if_pos (right_zero10 h), if_pos (by omega)]
theorem fnR_form10 {s : ByteArray} (h : s.size ≤ 65536) (h4 : ¬ s.size < 4) (h5 : 2147483647 < rd10 s 0) : fnR10 s = .tuple #[.int .i64 0, .int .i64 0, .int .i64 13] := by
  rw [fnR10, tnV10, if_pos (right_zero10 h), if_neg (by omega), if_pos (by show 2147483647 < (rd10 s 0 : Int); omega)]
theorem fnR_ok10 {s : ByteArray} (h : s.size ≤ 65536) (h4 : ¬ s.size < 4) (h5 : ¬ 2147483647 < rd10 s 0) : fnR10 s = .tuple #[.int .i64 (rd10 s 0 : Int), .int .i64 4, .int .i64 0] := by
  rw [fnR10, tnV10, if_pos (right_zero10 h), if_neg (by omega), if_neg (by show ¬ 2147483647 < (rd10 s 0 : Int); omega)]
  rfl

def ftR10 (s : ByteArray) : Value := .tuple #[.string (ttV10 s 0).1, .int .i64 (ttV10 s 0).2.1, .int .i64 (ttV10 s 0).2.2]

end Go.Proofs.Ytglcckpkbnppoaa
namespace Go.Proofs.Ytglcckpkbnppoaa
open Go.RowKit Go.Shelf
attribute [local go_sem] Oper.semAt_some

theorem yieldAt_any10 {m m' : Nat} {P : Program} {l : Nat} {args : Array Value} {W : World} {R : Ending → World → Prop} (h : YieldAt Fence.wide m P l args W R) : YieldAt Fence.wide m' P l args W R := by
  obtain ⟨fn, tmps, assign, body, h1, h2, h3⟩ := h
  exact ⟨fn, tmps, assign, body, h1, h2, fun c cs _ => h3 c cs (room_wide _)⟩
abbrev enc10 (x : ByteArray × Int) : Array Value := #[.string x.1, .int .i64 x.2]
end Go.Proofs.Ytglcckpkbnppoaa
namespace Go.Proofs.Ytglcckpkbnppoaa
open Go.RowKit Go.Shelf

/-- texts, as cells. -/
abbrev tL10 (l : List ByteArray) : List Value := l.map Value.string
theorem take_snoc10 {α : Type} {l : List α} {k : Nat} {x : α} (h : l[k]? = some x) : l.take (k + 1) = l.take k ++ [x] := by
  obtain ⟨h1, h2⟩ := List.getElem?_eq_some_iff.1 h
  rw [List.take_succ_eq_append_getElem h1, h2]
theorem cat_take10 {l : List ByteArray} {k : Nat} {s : ByteArray} (h : l[k]? = some s) : cat10 (l.take (k + 1)) = cat10 (l.take k) ++ txt10 s := by rw [take_snoc10 h, cat_snoc10]
theorem cat_bd10 {l : List ByteArray} {m : Nat} (hs : ∀ s ∈ l, s.size ≤ m) (k : Nat) : (cat10 (l.take k)).size ≤ k * (m + 4) := by
  induction k with
  | zero => rw [List.take_zero]; exact Nat.zero_le _
  | succ k ih =>
    cases h : l[k]? with
    | none =>
      have : l.length ≤ k := List.getElem?_eq_none_iff.1 h
      rw [List.take_of_length_le (by omega)]
      rw [List.take_of_length_le (by omega)] at ih
      rw [Nat.add_mul]; omega
    | some s =>
      have := hs s (List.mem_of_getElem? h)
      rw [cat_take10 h, ByteArray.size_append, txt_size10, Nat.add_mul]; omega
/-- the text at a place of a list in memory. -/
theorem InV.txt {W : World} {A : Option Addr} {l : List ByteArray} (h : InV W A (tL10 l)) {k : Nat} {s : ByteArray} (hk : l[k]? = some s) : ∃ b off, A = some ⟨b, off, none⟩ ∧ b < W.heap.size ∧ W.cell? ⟨b, off + k, none⟩ = some (.string s) :=
  h k (.string s) (by rw [List.getElem?_map, hk]; rfl)
theorem InV.under {W W' : World} {A : Option Addr} {vs : List Value} {B : Nat} (h : InV W A vs) (hW : W.heap.size = B) (hb : Below B W W') : InV W' A vs := h.keep (by rw [hW]; exact hb)

theorem strCells_app10 (s t : ByteArray) : Lib.strCells (s ++ t) = Lib.strCells s ++ Lib.strCells t := by
  simp [Lib.strCells, ByteArray.data_append]
theorem cat_le10 (l : List ByteArray) (k : Nat) : (cat10 (l.take k)).size ≤ (cat10 l).size := by
  have h := cat_app10 (l.take k) (l.drop k)
  rw [List.take_append_drop] at h
  rw [h, ByteArray.size_append]; omega
def lstR10 (l : List ByteArray) : Value := .tuple #[.string (lstV10 l).1, .int .i64 (lstV10 l).2]
theorem lstR_ok10 {l : List ByteArray} (h : l.length ≤ 1000) (hz : (lst10 l).size ≤ 65536) : lstR10 l = .tuple #[.string (lst10 l), .int .i64 0] := by
  rw [lstR10, lstV10, if_pos ⟨h, hz⟩]
theorem lstR_no10 {l : List ByteArray} (h : ¬ (l.length ≤ 1000 ∧ (lst10 l).size ≤ 65536)) : lstR10 l = .tuple #[.string ⟨#[]⟩, .int .i64 2] := by
  rw [lstR10, lstV10, if_neg h]

end Go.Proofs.Ytglcckpkbnppoaa
namespace Go.Proofs.Ytglcckpkbnppoaa
open Go.RowKit Go.Shelf
attribute [local go_sem] Oper.semAt_some

theorem InV.apart10 {W W' : World} {A : Option Addr} {vs : List Value} {row : Option Nat} (h : InV W A vs) (hg : W.grownBy W' row) (hr : ∀ p, A = some p → row ≠ some p.block) : InV W' A vs := fun j u hj => by
  obtain ⟨b, off, rfl, h1, h2⟩ := h j u hj
  obtain ⟨ob, ho, _⟩ := cells_of_cell h2
  have h3 := hg.block b h1 (fun e => hr _ rfl e.symm)
  refine ⟨b, off, rfl, Nat.lt_of_lt_of_le h1 hg.size, ?_⟩
  rw [← h2]
  simp only [World.cell?, h3]
/-- texts in memory of one's own: from block n on. -/
structure Lst10 (n : Nat) (W : World) (A : Option Addr) (l : List ByteArray) : Prop where
  at' : InV W A (tL10 l)
  own : ∀ p, A = some p → n ≤ p.block
section
variable {n : Nat} {W W' : World} {A : Option Addr} {l : List ByteArray}
theorem Lst10.nil (n : Nat) (W : World) : Lst10 n W none [] := ⟨fun j u hj => (by cases hj), fun p e => (by cases e)⟩
theorem Lst10.below (h : Lst10 n W A l) (hb : Below W.heap.size W W') : Lst10 n W' A l := ⟨h.at'.keep hb, h.own⟩
theorem Lst10.alloc (h : Lst10 n W A l) (o : Obj) : Lst10 n (W.alloc o) A l := h.below ((Below.refl _ _).alloc (Nat.le_refl _) _)
theorem Lst10.far (h : Lst10 n W A l) {p : Addr} (hp : p.block < n) (v : Value) : Lst10 n (W.setCell p v) A l :=
  ⟨h.at'.apart10 (grownSetG W p v) (fun q e e2 => by have h1 := h.own q e; have h2 := Option.some.inj e2; omega), h.own⟩
theorem Lst10.drewN (h : Lst10 n W A l) (m : Nat) : Lst10 n (W.drewN m) A l := ⟨h.at', h.own⟩
theorem Lst10.mono {m : Nat} (h : Lst10 n W A l) (hm : m ≤ n) : Lst10 m W A l := ⟨h.at', fun p e => Nat.le_trans hm (h.own p e)⟩
end
theorem aggL10 (w : World) : (isAgg 45).run Try.prog w = .ok false w := by go_simp
theorem aggI10 (w : World) : (isAgg 3).run Try.prog w = .ok false w := by go_simp
theorem aggE10 (w : World) : (isAgg 32).run Try.prog w = .ok false w := by go_simp
theorem results_sss10 {fn : Func} {s p u : Tmp} {t0 t1 t2 : TypeId} (h : fn.results = #[.cell s t0, .cell p t1, .cell u t2]) (tmps : Array Value) (P : Program) (w : World) (g0 g1 g2 : Nat) (y0 y1 y2 : Value) (T0 T1 T2 : TypeId)
    (hs : tmps.getD s undef = .pointer (some ⟨g0, 0, none⟩)) (hp : tmps.getD p undef = .pointer (some ⟨g1, 0, none⟩)) (hu : tmps.getD u undef = .pointer (some ⟨g2, 0, none⟩))
    (i0 : Is w g0 T0 #[y0]) (i1 : Is w g1 T1 #[y1]) (i2 : Is w g2 T2 #[y2]) (a0 : (isAgg t0).run P w = .ok false w) (a1 : (isAgg t1).run P w = .ok false w) (a2 : (isAgg t2).run P w = .ok false w) :
    (results fn tmps).run P w = .ok (.tuple #[y0, y1, y2]) w := by
  have e : (results fn tmps).run P w = ((asAddr (tmps.getD s undef)).run P w).andThen fun b w0 => ((loadVar t0 b).run P w0).andThen fun v0 w1 => ((asAddr (tmps.getD p undef)).run P w1).andThen fun b w2 => ((loadVar t1 b).run P w2).andThen fun v1 w3 =>
      ((asAddr (tmps.getD u undef)).run P w3).andThen fun b w4 => ((loadVar t2 b).run P w4).andThen fun v2 w5 => .ok (.tuple #[v0, v1, v2]) w5 := by
    simp only [results, h]
    simp [Sem.run_bind, Result.andThen]
  have c0 := i0.cell 0
  have c1 := i1.cell 0
  have c2 := i2.cell 0
  have l0 : (loadVar t0 ⟨g0, 0, none⟩).run P w = .ok y0 w := by
    simp only [loadVar, Sem.run_bind, a0, Result.andThen_ok]
    simp [go_sem, c0]
  have l1 : (loadVar t1 ⟨g1, 0, none⟩).run P w = .ok y1 w := by
    simp only [loadVar, Sem.run_bind, a1, Result.andThen_ok]
    simp [go_sem, c1]
  have l2 : (loadVar t2 ⟨g2, 0, none⟩).run P w = .ok y2 w := by
    simp only [loadVar, Sem.run_bind, a2, Result.andThen_ok]
    simp [go_sem, c2]
  rw [e, hs, hp, hu]
  simp [asAddr, l0, l1, l2]
/-- the three cells of the answer, and what else the call has made. -/
structure Res10 (w W : World) (n : Nat) (y0 y1 y2 : Value) : Prop where
  c0 : Is W n 45 #[y0]
  c1 : Is W (n + 1) 3 #[y1]
  c2 : Is W (n + 1 + 1) 32 #[y2]
  below : Below n w W
section
variable {w W W' : World} {n : Nat} {y0 y1 y2 : Value}
theorem Res10.step (h : Res10 w W n y0 y1 y2) (hb : Below W.heap.size W W') (hn : n ≤ W.heap.size) : Res10 w W' n y0 y1 y2 :=
  ⟨h.c0.below hb h.c0.lt, h.c1.below hb h.c1.lt, h.c2.below hb h.c2.lt, h.below.trans (hb.mono hn)⟩
theorem Res10.alloc (h : Res10 w W n y0 y1 y2) (o : Obj) : Res10 w (W.alloc o) n y0 y1 y2 := h.step ((Below.refl _ _).alloc (Nat.le_refl _) _) (by have := h.c0.lt; omega)
theorem Res10.set3 (h : Res10 w W n y0 y1 y2) (z0 z1 z2 : Value) : Res10 w (((W.setCell ⟨n, 0, none⟩ z0).setCell ⟨n + 1, 0, none⟩ z1).setCell ⟨n + 1 + 1, 0, none⟩ z2) n z0 z1 z2 :=
  ⟨((h.c0.set 0 z0).far (by simp) _).far (by simp; omega) _, ((h.c1.far (by simp) _).set 0 z1).far (by simp) _, ((h.c2.far (by simp; omega) _).far (by simp) _).set 0 z2,
    ((h.below.setCell (p := ⟨n, 0, none⟩) (Nat.le_refl _) _).setCell (p := ⟨n + 1, 0, none⟩) (by simp) _).setCell (p := ⟨n + 1 + 1, 0, none⟩) (by simp; omega) _⟩
end
theorem flW10 (w : World) : Res10 w (((w.alloc (.cells #[.slice none 0 0] 45)).alloc (.cells #[.int .i64 0] 3)).alloc (.cells #[.int .i64 0] 32)) w.heap.size (.slice none 0 0) (.int .i64 0) (.int .i64 0) :=
  ⟨((Is.new w _ _).alloc _).alloc _, Is.alloc (heap_alloc2_new w _ _) _, by
    have := Is.new ((w.alloc (.cells #[.slice none 0 0] 45)).alloc (.cells #[.int .i64 0] 3)) 32 #[.int .i64 0]
    simpa using this, (((Below.refl _ _).alloc (Nat.le_refl _) _).alloc (by simp) _).alloc (by simp; omega) _⟩
def flR10 (s : ByteArray) (A : Option Addr) (c : Nat) : Value := .tuple #[.slice A (tlV10 s 0).1.length c, .int .i64 (tlV10 s 0).2.1, .int .i64 (tlV10 s 0).2.2]

end Go.Proofs.Ytglcckpkbnppoaa
namespace Go.Proofs.Ytglcckpkbnppoaa
open Go.RowKit Go.Shelf
attribute [local go_sem] Oper.semAt_some

theorem infoTxt10 : (Try.prog.info? 9).map (fun i => (i.zero, i.size, i.bytes)) = some (some (.string ⟨#[]⟩), 1, 16) := by kernel_rfl

/-- a row with room for N texts, of which the first ones are laid. -/
def Row10 (W : World) (g N : Nat) (l : List ByteArray) : Prop := ∃ cur : Array Value, Is W g 9 cur ∧ cur.size = N ∧ cur.toList.take l.length = tL10 l
section
variable {W W' : World} {g N : Nat} {l : List ByteArray}
theorem Row10.keep (h : Row10 W g N l) {row : Option Nat} (hg : W.grownBy W' row) (hr : row ≠ some g) : Row10 W' g N l := by
  obtain ⟨cur, h1, h2, h3⟩ := h
  exact ⟨cur, (hg.block g h1.lt (fun e => hr e.symm)).trans h1, h2, h3⟩
theorem Row10.keepT (h : Row10 W g N l) {row : Option Nat} (hg : W.grownBy W' row) (hr : ∀ r, row = some r → ∃ o : Obj, W.heap[r]? = some o ∧ o.isCells = false) : Row10 W' g N l := by
  obtain ⟨cur, h1, h2, h3⟩ := h
  exact ⟨cur, (grownBy_keeps_cells hg hr h1 rfl).trans h1, h2, h3⟩
theorem Row10.lt (h : Row10 W g N l) : g < W.heap.size := by obtain ⟨cur, h1, _⟩ := h; exact h1.lt
theorem Row10.far (h : Row10 W g N l) {p : Addr} (hp : g ≠ p.block) (v : Value) : Row10 (W.setCell p v) g N l := h.keep (grownSetG W p v) (fun e => hp (Option.some.inj e).symm)
theorem Row10.made {base : Nat} (h : W.ownsRow base 9 1 (.slice (some ⟨g, 0, none⟩) 0 N) 0 []) : Row10 W g N [] := by
  rcases h.2 with ⟨h0, _⟩ | ⟨g2, cap, cur, h0, _, hg, _, _, hs, _⟩
  · cases h0
  · injection h0 with e1 _ e2
    cases e1; cases e2
    exact ⟨cur, hg, by omega, rfl⟩
theorem Row10.inV (h : Row10 W g N l) : InV W (some ⟨g, 0, none⟩) (tL10 l) := fun j u hj => by
  obtain ⟨cur, h1, h2, h3⟩ := h
  have hjl : j < l.length := by have := (List.getElem?_eq_some_iff.1 hj).1; rwa [List.length_map] at this
  refine ⟨g, 0, rfl, h1.lt, ?_⟩
  rw [Nat.zero_add, h1.cell, ← hj, ← h3, List.getElem?_take, if_pos hjl, Array.getElem?_toList]
/-- one text more, where there is room. -/
theorem Row10.push (h : Row10 W g N l) (hN : l.length < N) {b : Nat} {x : ByteArray} (hb : W.cell? ⟨b, 0, none⟩ = some (.string x)) :
    ∃ cs, (Builtin.append_ #[45, 45] 45 #[.slice (some ⟨g, 0, none⟩) l.length N, .slice (some ⟨b, 0, none⟩) 1 1]).run Try.prog W = .ok (.slice (some ⟨g, 0, none⟩) (l.length + 1) N) (W.setRow g cs) ∧ Row10 (W.setRow g cs) g N (l ++ [x]) := by
  obtain ⟨i0, hi, hz0, hz1, hz2⟩ := info_parts infoTxt10
  obtain ⟨cur, h1, h2, h3⟩ := h
  refine ⟨_, run_append_room (P := Try.prog) W 45 45 9 i0 Try.underlying45 hi g l.length N cur h1 ⟨b, 0, none⟩ 1 1 [.string x] (by rw [hz1]; rfl) (fun j u hj => by
      cases j with
      | zero => cases hj; rw [Addr.add_lit]; exact hb
      | succ j => cases hj) (fun u hu => by rw [List.mem_singleton] at hu; subst hu; rfl) (by omega) (by rw [hz1, h2]; simp; omega), _, h1.row _, ?_, ?_⟩
  · simp only [List.size_toArray, List.length_append, List.length_take, List.length_drop, Array.length_toList, hz1, h2, List.length_cons, List.length_nil]
    omega
  · rw [hz1, Nat.mul_one, h3, List.length_append, List.length_singleton, List.append_assoc, show (tL10 l ++ ([Value.string x] ++ List.drop (l.length + [Value.string x].length) cur.toList)) = (tL10 (l ++ [x])) ++ List.drop (l.length + [Value.string x].length) cur.toList by simp]
    exact List.take_left' (by simp)
end
/-- append, where it is known what it comes to. -/
theorem wpListIn_append10 {F : Fence} {n : Nat} {P : Program} {ops : Array Oper} {rest : List Oper} {o : Oper} {a : Act} {Q : Exit → Act → World → Prop} {w w' : World} (hgd : o.guard = none) (s x : Operand) (t : TypeId)
    (ho : o.op = .call { callee := .builtin .append, args := #[s, x], argTypes := #[t, t] }) {v u r : Value} (hs : a.eval s = v) (hx : a.eval x = u) (hr : (Builtin.append_ #[t, t] o.type #[v, u]).run P w = .ok r w')
    (h : wpListIn F n P ops Q rest (a.put o.dst r) w') : wpListIn F n P ops Q (o :: rest) a w := by
  refine wpListIn_plain hgd fun K hK => ?_
  unfold Oper.wpIn
  refine ⟨?_, ?_⟩
  · simp [Oper.about, ho, resolve, Target.leads, Sem.run_pure]
  · rw [Oper.semAt_plain F _ _ (by rw [ho]; intro c hc'; cases hc')]
    simp [execOp, ho, resolve, invoke, builtin, hs, hx, hr, Result.andThen]
    exact hK _ _ h
theorem isOwn10 {B : Nat} {g : Nat} {t : TypeId} {cs : Array Value} {X Y : World} {row : Option Nat} (h : Is X g t cs) (hg : X.grownBy Y row) (hr : ∀ r, row = some r → B ≤ r ∧ ∃ o : Obj, X.heap[r]? = some o ∧ o.isCells = false) : Is Y g t cs :=
  (grownBy_keeps_cells hg (fun r e => (hr r e).2) h rfl).trans h
theorem belowOwn10 {n B : Nat} {w X Y : World} {row : Option Nat} (h : Below n w X) (hx : n ≤ X.heap.size) (hn : n ≤ B) (hg : X.grownBy Y row) (hr : ∀ r, row = some r → B ≤ r ∧ ∃ o : Obj, X.heap[r]? = some o ∧ o.isCells = false) : Below n w Y :=
  h.grown hg hx (fun k e => Nat.le_trans hn (hr k e).1)
theorem Res10.ownT {w W W' : World} {n B : Nat} {y0 y1 y2 : Value} {row : Option Nat} (h : Res10 w W n y0 y1 y2) (hn : n ≤ B) (hg : W.grownBy W' row) (hr : ∀ r, row = some r → B ≤ r ∧ ∃ o : Obj, W.heap[r]? = some o ∧ o.isCells = false) : Res10 w W' n y0 y1 y2 :=
  ⟨isOwn10 h.c0 hg hr, isOwn10 h.c1 hg hr, isOwn10 h.c2 hg hr, belowOwn10 h.below (by have := h.c0.lt; omega) hn hg hr⟩
theorem Res10.far {w W : World} {n : Nat} {y0 y1 y2 : Value} (h : Res10 w W n y0 y1 y2) {p : Addr} (hp : n + 1 + 1 < p.block) (v : Value) : Res10 w (W.setCell p v) n y0 y1 y2 :=
  ⟨h.c0.far (by omega) _, h.c1.far (by omega) _, h.c2.far (by omega) _, h.below.setCell (by omega) _⟩
theorem Res10.rowFar {w W : World} {n : Nat} {y0 y1 y2 : Value} (h : Res10 w W n y0 y1 y2) {g : Nat} (hp : n + 1 + 1 < g) (cs : Array Value) : Res10 w (W.setRow g cs) n y0 y1 y2 :=
  ⟨h.c0.rowFar (by omega) _, h.c1.rowFar (by omega) _, h.c2.rowFar (by omega) _, belowRow h.below (by omega) _⟩
theorem Res10.rows3 {w W : World} {n : Nat} {y0 y1 y2 : Value} (h : Res10 w W n y0 y1 y2) (z0 z1 z2 : Value) : Res10 w (((W.setRow n #[z0]).setRow (n + 1) #[z1]).setRow (n + 1 + 1) #[z2]) n z0 z1 z2 :=
  ⟨((h.c0.row _).rowFar (by omega) _).rowFar (by omega) _, ((h.c1.rowFar (by omega) _).row _).rowFar (by omega) _, ((h.c2.rowFar (by omega) _).rowFar (by omega) _).row _, belowRow (belowRow (belowRow h.below (Nat.le_refl _) _) (by omega) _) (by omega) _⟩
/-- what stands while texts are taken: the answer's cells, how far, the list. -/
structure Run10 (w W : World) (n bZ bL g N : Nat) (z : Int) (l : List ByteArray) : Prop where
  res : Res10 w W n (.slice none 0 0) (.int .i64 0) (.int .i64 0)
  iZ : Is W bZ 3 #[.int .i64 z]
  iL : Is W bL 45 #[.slice (some ⟨g, 0, none⟩) l.length N]
  row : Row10 W g N l
end Go.Proofs.Ytglcckpkbnppoaa
