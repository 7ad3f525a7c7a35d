/-
  Contracts of codec.take, at numbers, texts and lists; of TakeNumber, TakeText, TakeList and End: they answer what the plain functions say, errors and all. No conditions.
  Contracts of codec.TakeNumber, TakeText, TakeList and End: they answer what the plain functions say, errors and all. No conditions.
  Contracts of the document's own TakeNumber. No conditions.
  Contracts of the document's own TakeText. No conditions.
  Contracts of the document's own TakeList. No conditions.
  Contracts of the statements' own pick and Few, and of the document's own Texts, where both lists are one.
  awake, the statements' own: it answers true.
  What the statements' drawn regions share: one of what may come up; a cursor's block, made and written.
  CodecLong: noughts as lists of empty texts; rows of empty texts made; operations of its drawn region.
-/
import Derived.Test.YtglcckpkbnppoaaGCo2
import Derived.Test.YtglcckpkbnppoaaGPl
import Derived.Test.YtglcckpkbnppoaaGKit
import Derived.Lib.MinMax
import Derived.OwnWalk
import Derived.SizedLaws
namespace Go.Proofs.Ytglcckpkbnppoaa
open Go.RowKit Go.Shelf

theorem results_tct10 {fn : Func} {s p u : Tmp} {ty : TypeId} (h : fn.results = #[.tmp s, .cell p ty, .tmp u]) (tmps : Array Value) (P : Program) (w : World) (g : Nat) (t : TypeId) (cs : Array Value) (fr : Nat × Nat) (fs : Array Field)
    (hp : tmps.getD p undef = .pointer (some ⟨g, 0, none⟩)) (hg : w.heap[g]? = some (.cells cs t fr))
    (hu : P.underlying ty = some (.struct fs)) (hi : (P.info? ty).map (·.size) = some cs.size) :
    (results fn tmps).run P w = .ok (.tuple #[tmps.getD s undef, .agg cs, tmps.getD u undef]) w := by
  have e : (results fn tmps).run P w = ((asAddr (tmps.getD p undef)).run P w).andThen fun a w1 => ((loadVar ty a).run P w1).andThen fun v w2 => .ok (.tuple #[tmps.getD s undef, v, tmps.getD u undef]) w2 := by
    simp only [results, h]
    simp [Sem.run_bind, Result.andThen]
  rw [e, hp]
  simp [asAddr, run_loadVar_row w g t ty cs fr _ hg hu rfl hi]
/-- two cells, written. -/
theorem Is.pair10 {W : World} {g : Nat} {t : TypeId} {x y : Value} (h : Is W g t #[x, y]) (u v : Value) : Is ((W.setCell ⟨g, 0, none⟩ u).setCell ⟨g, 1, none⟩ v) g t #[u, v] := (h.set 0 u).set 1 v
theorem below_pair10 {B : Nat} {W0 W : World} (h : Below B W0 W) {g : Nat} (hg : B ≤ g) (u v : Value) : Below B W0 ((W.setCell ⟨g, 0, none⟩ u).setCell ⟨g, 1, none⟩ v).drew := belowN ((h.setCell (p := ⟨g, 0, none⟩) hg u).setCell (p := ⟨g, 1, none⟩) hg v) 1
theorem Lst10.pair {n : Nat} {W : World} {A : Option Addr} {l : List ByteArray} (h : Lst10 n W A l) {g : Nat} (hg : g < n) (u v : Value) : Lst10 n ((W.setCell ⟨g, 0, none⟩ u).setCell ⟨g, 1, none⟩ v).drew A l := ((h.far (p := ⟨g, 0, none⟩) hg u).far (p := ⟨g, 1, none⟩) hg v).drewN 1
def tnR10 (B : ByteArray) (a : Int) : Value := .tuple #[.int .i64 (tnV10 B a).1, .agg #[.string B, .int .i64 (tnV10 B a).2.1], .int .i64 (tnV10 B a).2.2]
def ttR10 (B : ByteArray) (a : Int) : Value := .tuple #[.string (ttV10 B a).1, .agg #[.string B, .int .i64 (ttV10 B a).2.1], .int .i64 (ttV10 B a).2.2]
def tlR10 (B : ByteArray) (a : Int) (A : Option Addr) (c : Nat) : Value := .tuple #[.slice A (tlV10 B a).1.length c, .agg #[.string B, .int .i64 (tlV10 B a).2.1], .int .i64 (tlV10 B a).2.2]
theorem tn_wrong10 {B : ByteArray} {a : Int} (h : rightV B a = false) : tnV10 B a = (0, a, 1) := by rw [tnV10, if_neg (by rw [h]; decide)]
theorem tt_wrong10 {B : ByteArray} {a : Int} (h : rightV B a = false) : ttV10 B a = (⟨#[]⟩, a, 1) := by
  have h1 := tn_wrong10 h
  rw [tt_num10 (by rw [h1]; show (1 : Int) ≠ 0; decide), h1]
theorem tl_wrong10 {B : ByteArray} {a : Int} (h : rightV B a = false) : tlV10 B a = ([], a, 1) := by
  have h1 := tn_wrong10 h
  rw [tlV10, if_neg (by rw [h1]; show ¬ (1 : Int) = 0; decide), h1]
/-- where what is taken ends. -/
theorem tn_to10 {B : ByteArray} {a : Int} (h : (tnV10 B a).2.2 = 0) : 0 ≤ (tnV10 B a).2.1 ∧ (tnV10 B a).2.1 ≤ 65536 := by
  obtain ⟨h1, h2⟩ := tn_ok10 h
  have := h1.right
  omega
theorem tt_to10 {B : ByteArray} {a : Int} (h : (ttV10 B a).2.2 = 0) : 0 ≤ (ttV10 B a).2.1 ∧ (ttV10 B a).2.1 ≤ 65536 := by
  have h1 := (tt_ok10 h).right
  have h2 := (tt_ok10 h).to
  omega
theorem tl_to10 {B : ByteArray} {a : Int} (h : (tlV10 B a).2.2 = 0) : 0 ≤ (tlV10 B a).2.1 ∧ (tlV10 B a).2.1 ≤ 65536 := by
  have h1 := (tl_ok10 h).right
  have h2 := (tl_ok10 h).ahead
  omega
end Go.Proofs.Ytglcckpkbnppoaa
namespace Go.Proofs.Ytglcckpkbnppoaa
open Go.RowKit Go.Shelf

end Go.Proofs.Ytglcckpkbnppoaa
namespace Go.Proofs.Ytglcckpkbnppoaa
open Go.RowKit Go.Shelf

/-- the number that the first bytes from a place on are. -/
def rdo10 (B : ByteArray) (j : Nat) : Nat → Nat
  | 0 => 0
  | k + 1 => 256 * rdo10 B j k + bt7 B (j + k)
theorem rdo_four10 (B : ByteArray) (j : Nat) : rdo10 B j 4 = rd10 B j := by
  simp only [rdo10, rd10, Nat.add_zero]; omega
theorem rdo_bd10 (B : ByteArray) (j k : Nat) (h : k < 4) : rdo10 B j k < 16777216 := by
  have h0 := bt7_lt B (j + 0)
  have h1 := bt7_lt B (j + 1)
  have h2 := bt7_lt B (j + 2)
  rcases (by omega : k = 0 ∨ k = 1 ∨ k = 2 ∨ k = 3) with rfl | rfl | rfl | rfl <;> simp only [rdo10] <;> omega

end Go.Proofs.Ytglcckpkbnppoaa
namespace Go.Proofs.Ytglcckpkbnppoaa
open Go.RowKit Go.Shelf

end Go.Proofs.Ytglcckpkbnppoaa
namespace Go.Proofs.Ytglcckpkbnppoaa
open Go.RowKit Go.Shelf

theorem RowV.lst10 {W : World} {n c m : Nat} {A : Option Addr} {l : List ByteArray} (h : RowV W n 9 1 A c m (tL10 l)) : Lst10 n W A l := ⟨h.inV, fun p e => by
  subst e
  rcases h.2 with ⟨h0, _⟩ | ⟨g, cap, cur, h0, hb, _⟩
  · cases h0
  · cases h0; exact hb⟩
theorem tL_one10 (l : List ByteArray) : ∀ u ∈ tL10 l, u.oneCell' = true := fun u hu => by
  obtain ⟨x, _, rfl⟩ := List.mem_map.1 hu
  rfl
end Go.Proofs.Ytglcckpkbnppoaa
namespace Go.Proofs.Ytglcckpkbnppoaa
open Go.RowKit Go.Shelf

/-- at most so many bytes of a text. -/
def cut10 (n : Nat) (s : ByteArray) : ByteArray := s.extract 0 (min s.size n)
theorem cut_size10 (n : Nat) (s : ByteArray) : (cut10 n s).size = min s.size n := by simp [cut10]
theorem run_cut10 (n : Nat) (s : ByteArray) (wx : World) : (Instr.slice 9 (.string s) none (some (.int .i64 (min (s.size : Int) (n : Int)))) none).run Try.prog wx = .ok (.string (cut10 n s)) wx := by
  obtain ⟨m, hm⟩ : ∃ m : Nat, m = min s.size n := ⟨_, rfl⟩
  have := run_slice_string_h (P := Try.prog) (w := wx) (t := 9) (s := s) Try.underlying9 .i64 (m : Int) (by omega) (by omega)
  rw [Int.toNat_natCast] at this
  rw [show min (s.size : Int) (n : Int) = (m : Int) by omega, cut10, ← hm]
  exact this
theorem exec_append10 {P : Program} {o : Oper} {a : Act} {s x : Operand} {t : TypeId} {v u r : Value} {w w' : World} (ho : o.op = .call { callee := .builtin .append, args := #[s, x], argTypes := #[t, t] }) (hs : a.eval s = v) (hx : a.eval x = u)
    (hr : (Builtin.append_ #[t, t] o.type #[v, u]).run P w = .ok r w') : (execOp a.eval o).run P w = .ok (.value r) w' := by
  simp [execOp, ho, resolve, invoke, builtin, hs, hx, hr, Result.andThen]
def fewK10 (l : List ByteArray) (k : Nat) : List ByteArray := (l.take k).map (cut10 50)
def fewL10 (l : List ByteArray) : List ByteArray := fewK10 l 12
theorem few_len10 (l : List ByteArray) : (fewL10 l).length ≤ 12 := by simp [fewL10, fewK10]; omega
theorem few_sz10 (l : List ByteArray) : ∀ s ∈ fewL10 l, s.size ≤ 50 := fun s hs => by
  obtain ⟨x, _, rfl⟩ := List.mem_map.1 hs
  rw [cut_size10]; omega
theorem few_step10 {l : List ByteArray} {k : Nat} {x : ByteArray} (h : l[k]? = some x) : fewK10 l (k + 1) = fewK10 l k ++ [cut10 50 x] := by
  rw [fewK10, take_snoc10 h, List.map_append]; rfl
theorem few_end10 {l : List ByteArray} {k : Nat} (hk : k ≤ l.length) (h12 : k ≤ 12) (h : ¬ (k < l.length ∧ k < 12)) : fewK10 l k = fewL10 l ∧ k = (fewL10 l).length := by
  have e : fewK10 l k = fewL10 l := by
    by_cases h1 : k < 12
    · have : k = l.length := by omega
      rw [fewL10, fewK10, fewK10, List.take_of_length_le (by omega), List.take_of_length_le (by omega)]
    · have : k = 12 := by omega
      rw [this]; rfl
  refine ⟨e, ?_⟩
  rw [← e, fewK10, List.length_map, List.length_take]; omega
/-- a short list's bytes. -/
theorem cat_few10 {l : List ByteArray} (hl : l.length ≤ 12) (hs : ∀ s ∈ l, s.size ≤ 50) : (lst10 l).size ≤ 652 := by
  have h := cat_bd10 hs l.length
  rw [List.take_length] at h
  have h2 := Nat.mul_le_mul_right (50 + 4) hl
  rw [lst_size10]; omega

end Go.Proofs.Ytglcckpkbnppoaa
namespace Go.Proofs.Ytglcckpkbnppoaa
open Go.RowKit Go.Shelf

def awL10 : List ByteArray := [⟨#[97]⟩, ⟨#[]⟩]
theorem aw_list10 : lstR10 awL10 = .tuple #[.string ⟨#[0, 0, 0, 2, 0, 0, 0, 1, 97, 0, 0, 0, 0]⟩, .int .i64 0] := by kernel_rfl
theorem aw_tl10 : tlV10 ⟨#[0, 0, 0, 2, 0, 0, 0, 1, 97, 0, 0, 0, 0, 120]⟩ 0 = (awL10, 13, 0) := by kernel_rfl
theorem aw_tn10 : tnR10 ⟨#[120, 0, 0, 1, 2]⟩ 1 = .tuple #[.int .i64 258, .agg #[.string ⟨#[120, 0, 0, 1, 2]⟩, .int .i64 5], .int .i64 0] := by kernel_rfl
theorem aw_tt10 : ttR10 ⟨#[0, 0, 0, 1]⟩ 0 = .tuple #[.string ⟨#[]⟩, .agg #[.string ⟨#[0, 0, 0, 1]⟩, .int .i64 0], .int .i64 10] := by kernel_rfl
theorem aw_num10 : numR10 (-1) = .tuple #[.string ⟨#[]⟩, .int .i64 1] := by kernel_rfl
theorem aw_end10 : endV10 ⟨#[0, 0, 0, 2, 0, 0, 0, 1, 97, 0, 0, 0, 0, 120]⟩ 13 = 13 := by kernel_rfl
theorem aw_in10 {W : World} {g : Nat} (h : Is W g 9 #[.string ⟨#[97]⟩, .string ⟨#[]⟩]) : InV W (some ⟨g, 0, none⟩) (tL10 awL10) := fun j u hj => ⟨g, 0, rfl, h.lt, by
  rw [Nat.zero_add, h.cell]
  match j, hj with
  | 0, hj => exact hj
  | 1, hj => exact hj⟩

end Go.Proofs.Ytglcckpkbnppoaa
namespace Go.Proofs.Ytglcckpkbnppoaa
open Go.RowKit Go.Shelf

section
variable {P : Program} {md : Region.Mode} {ops : Array Oper} {Q : Exit → Act → World → Prop} {S : World → Prop} {fuel i : Nat} {listed : Array Bool} {a : Act} {w w' : World} {o : Oper}
/-- a call. -/
theorem arm10_call {f : FuncId} {args : Array Value} (hw : Region.wanted o (yielded ops a.tmps) = true) (hx : ∀ w, (execOp a.eval o).run P w = .ok (.enter f args) w)
    (h : Calls P f args w fun e w' => ∃ v, e = .returned v ∧ S w' ∧ wpAnyH P md ops Q S fuel (listed.setIfInBounds i true) (a.put o.dst v) w') :
    ∀ K' : Act → World → Prop, Shut (∀ a w, S w → (S w → wpAnyH P md ops Q S fuel (listed.setIfInBounds i true) a w) → K' a w) → if Region.wanted o (yielded ops a.tmps) = true then Oper.wp P o a w K' Q else K' (a.put o.dst undef) w := fun K' hK => by
  rw [if_pos hw]
  unfold Oper.wp
  rw [hx, Oper.upon_enter]
  exact h.mono fun e w' ⟨v, he, hS, hn⟩ => by subst he; exact hK.out _ _ hS fun _ => hn
/-- one that comes to a value. -/
theorem arm10_value {v : Value} (hw : Region.wanted o (yielded ops a.tmps) = true) (hx : (execOp a.eval o).run P w = .ok (.value v) w') (hS : S w')
    (h : wpAnyH P md ops Q S fuel (listed.setIfInBounds i true) (a.put o.dst v) w') :
    ∀ K' : Act → World → Prop, Shut (∀ a w, S w → (S w → wpAnyH P md ops Q S fuel (listed.setIfInBounds i true) a w) → K' a w) → if Region.wanted o (yielded ops a.tmps) = true then Oper.wp P o a w K' Q else K' (a.put o.dst undef) w := fun K' hK => by
  rw [if_pos hw]
  unfold Oper.wp
  rw [hx]
  exact hK.out _ _ hS fun _ => h
/-- one that comes to nothing. -/
theorem arm10_skip (hw : Region.wanted o (yielded ops a.tmps) = true) (hx : (execOp a.eval o).run P w = .ok .skip w') (hS : S w')
    (h : wpAnyH P md ops Q S fuel (listed.setIfInBounds i true) (a.put o.dst undef) w') :
    ∀ K' : Act → World → Prop, Shut (∀ a w, S w → (S w → wpAnyH P md ops Q S fuel (listed.setIfInBounds i true) a w) → K' a w) → if Region.wanted o (yielded ops a.tmps) = true then Oper.wp P o a w K' Q else K' (a.put o.dst undef) w := fun K' hK => by
  rw [if_pos hw]
  unfold Oper.wp
  rw [hx]
  exact hK.out _ _ hS fun _ => h
end
section
variable {P : Program} {ops : Array Oper} {Q : Exit → Act → World → Prop} {i : Nat} {a : Act} {w : World} {o : Oper}
theorem drop_nth10 {ops : Array Oper} {i : Nat} {o : Oper} (h : ops[i]? = some o) : ops.toList.drop i = o :: ops.toList.drop (i + 1) := by
  obtain ⟨h1, h2⟩ := Array.getElem?_eq_some_iff.1 h
  rw [List.drop_eq_getElem_cons (by simpa using h1), ← h2]
  rfl
/-- a region that draws no order, from operation i on (a structure, so that nothing looks into it). -/
structure Line10 (P : Program) (ops : Array Oper) (Q : Exit → Act → World → Prop) (i : Nat) (a : Act) (w : World) : Prop where
  out : wpList P ops Q (ops.toList.drop i) a w
/-- the next operation comes to a value. -/
theorem line_pure {v : Value} (hi : ops[i]? = some o) (hw : Region.wanted o (yielded ops a.tmps) = true) (hx : (execOp a.eval o).run P w = .ok (.value v) w)
    (h : Line10 P ops Q (i + 1) (a.put o.dst v) w) : Line10 P ops Q i a w := by
  refine ⟨?_⟩
  rw [drop_nth10 hi]
  refine wpList_step fun K hK => ?_
  rw [if_pos hw]
  unfold Oper.wp
  rw [hx, Oper.upon_value]
  exact hK _ _ h.out
/-- it is not wanted. -/
theorem line_off (hi : ops[i]? = some o) (hw : Region.wanted o (yielded ops a.tmps) = false) (h : Line10 P ops Q (i + 1) (a.put o.dst undef) w) : Line10 P ops Q i a w := by
  refine ⟨?_⟩
  rw [drop_nth10 hi]
  exact wpList_skip hw h.out
theorem line_done (hn : ops.size ≤ i) (h : Q .normal a w) : Line10 P ops Q i a w := by
  refine ⟨?_⟩
  rw [List.drop_of_length_le (by simpa using hn)]
  exact h
theorem line_start (h : Line10 P ops Q 0 a w) : wpList P ops Q ops.toList a w := h.out
end
theorem exec_load10 {P : Program} {w : World} {o : Oper} {ev : Operand → Value} {ty : TypeId} {x : Operand} {p : Addr} {v : Value} (ho : o.op = .load ty x) (hx : ev x = .pointer (some p)) (hv : (loadVar ty p).run P w = .ok v w) : (execOp ev o).run P w = .ok (.value v) w := by
  simp only [execOp, ho, hx, Instr.loadAt, Instr.sureAddr, Sem.run_bind, Sem.run_pure, Result.andThen_ok, hv]
theorem exec_bin10 {P : Program} {w : World} {o : Oper} {ev : Operand → Value} {op : BinOp} {t t2 : TypeId} {x y : Operand} {u v r : Value} (ho : o.op = .binOp op t x y t2) (hx : ev x = u) (hy : ev y = v) (hv : (binOp op t u v).run P w = .ok r w) (hg : (eqGuard op t x y u v).run P w = .ok () w) : (execOp ev o).run P w = .ok (.value r) w := by
  simp [execOp, ho, hx, hy, hv, hg, Result.andThen]
theorem eqE10 (a b : Int) (W : World) : (binOp .eql 32 (.int .i64 a) (.int .i64 b)).run Try.prog W = .ok (.bool (a == b)) W := by
  go_simp
theorem neE10 (a b : Int) (W : World) : (binOp .neq 32 (.int .i64 a) (.int .i64 b)).run Try.prog W = .ok (.bool (a != b)) W := by
  go_simp
theorem eqI10 (a b : Int) (W : World) : (binOp .eql 3 (.int .i64 a) (.int .i64 b)).run Try.prog W = .ok (.bool (a == b)) W := by
  go_simp
theorem neI10 (a b : Int) (W : World) : (binOp .neq 3 (.int .i64 a) (.int .i64 b)).run Try.prog W = .ok (.bool (a != b)) W := by
  go_simp
/-- comparisons whose outcome is known. -/
theorem eqE_yes10 (a : Int) (W : World) : (binOp .eql 32 (.int .i64 a) (.int .i64 a)).run Try.prog W = .ok (.bool true) W := by rw [eqE10, beq_self_eq_true]
theorem eqE_no10 {a b : Int} (h : a ≠ b) (W : World) : (binOp .eql 32 (.int .i64 a) (.int .i64 b)).run Try.prog W = .ok (.bool false) W := by rw [eqE10, show (a == b) = false by simpa using h]
theorem neE_no10 (a : Int) (W : World) : (binOp .neq 32 (.int .i64 a) (.int .i64 a)).run Try.prog W = .ok (.bool false) W := by rw [neE10, bne_self_eq_false]
theorem neE_yes10 {a b : Int} (h : a ≠ b) (W : World) : (binOp .neq 32 (.int .i64 a) (.int .i64 b)).run Try.prog W = .ok (.bool true) W := by rw [neE10, show (a != b) = true by simpa using h]
theorem eqI_yes10 {a b : Int} (h : a = b) (W : World) : (binOp .eql 3 (.int .i64 a) (.int .i64 b)).run Try.prog W = .ok (.bool true) W := by rw [h, eqI10, beq_self_eq_true]
theorem neI_no10 {a b : Int} (h : a = b) (W : World) : (binOp .neq 3 (.int .i64 a) (.int .i64 b)).run Try.prog W = .ok (.bool false) W := by rw [h, neI10, bne_self_eq_false]
theorem neS_no10 (C : ByteArray) (W : World) : (binOp .neq 9 (.string C) (.string C)).run Try.prog W = .ok (.bool false) W := by
  go_simp
theorem leI_yes10 {a b : Int} (h : a ≤ b) (W : World) : (binOp .leq 3 (.int .i64 a) (.int .i64 b)).run Try.prog W = .ok (.bool true) W := by
  have h2 : decide (a ≤ b) = true := decide_eq_true h
  go_simp
theorem geI_yes10 {a b : Int} (h : b ≤ a) (W : World) : (binOp .geq 3 (.int .i64 a) (.int .i64 b)).run Try.prog W = .ok (.bool true) W := by
  have h2 : decide (b ≤ a) = true := decide_eq_true h
  go_simp
theorem gtI_no10 {a b : Int} (h : a ≤ b) (W : World) : (binOp .gtr 3 (.int .i64 a) (.int .i64 b)).run Try.prog W = .ok (.bool false) W := by
  have h2 : decide (b < a) = false := decide_eq_false (by omega)
  go_simp
theorem ltI_no10 {a b : Int} (h : b ≤ a) (W : World) : (binOp .lss 3 (.int .i64 a) (.int .i64 b)).run Try.prog W = .ok (.bool false) W := by
  have h2 : decide (a < b) = false := decide_eq_false (by omega)
  go_simp
theorem addI10 {a b : Int} (h : -9223372036854775808 ≤ a + b ∧ a + b ≤ 9223372036854775807) (W : World) : (binOp .add 3 (.int .i64 a) (.int .i64 b)).run Try.prog W = .ok (.int .i64 (a + b)) W := by
  have w1 := IntWalk.i64_in (a + b) (by omega)
  go_simp
theorem subI10 {a b : Int} (h : -9223372036854775808 ≤ a - b ∧ a - b ≤ 9223372036854775807) (W : World) : (binOp .sub 3 (.int .i64 a) (.int .i64 b)).run Try.prog W = .ok (.int .i64 (a - b)) W := by
  have w1 := IntWalk.i64_in (a - b) (by omega)
  go_simp
theorem mulI10 {a b : Int} (h : -9223372036854775808 ≤ a * b ∧ a * b ≤ 9223372036854775807) (W : World) : (binOp .mul 3 (.int .i64 a) (.int .i64 b)).run Try.prog W = .ok (.int .i64 (a * b)) W := by
  have w1 := IntWalk.i64_in (a * b) (by omega)
  go_simp
theorem run_row10 {P : Program} {W : World} {o : Oper} {a : Act} {ty : TypeId} {x y : Operand} (ho : o.op = .store ty x y) {g : Nat} {t : TypeId} {old cs : Array Value} (hx : a.eval x = .pointer (some ⟨g, 0, none⟩)) (hy : a.eval y = .agg cs) (hg : Is W g t old) (hi : (P.info? ty).map (·.size) = some cs.size)
    (hs : old.size = cs.size) (h1 : cs.all (·.oneCell') = true) : (execOp a.eval o).run P W = .ok .skip (W.setRow g cs) := by
  simp only [execOp, ho, hx, hy, Instr.storeAt, Instr.sureAddr, Sem.run_bind, Sem.run_pure, Result.andThen_ok, run_storeVar_row W g t ty old cs hg hi hs h1]
end Go.Proofs.Ytglcckpkbnppoaa
namespace Go.Proofs.Ytglcckpkbnppoaa
open Go.RowKit Go.Shelf

theorem infoThree10 {P : Program} {t : TypeId} {z : Value} {s b : Nat} (h : (P.info? t).map (fun i => (i.zero, i.size, i.bytes)) = some (some z, s, b)) : ∃ i, P.info? t = some i ∧ i.zero = some z ∧ i.size = s ∧ i.bytes = b := by
  cases hq : P.info? t with
  | none => rw [hq] at h; cases h
  | some i =>
    rw [hq] at h
    simp only [Option.map_some, Option.some.injEq, Prod.mk.injEq] at h
    exact ⟨i, rfl, h.1, h.2.1, h.2.2⟩
/-- n noughts. -/
def nulN10 (n : Nat) : ByteArray := strOfNums (List.replicate n 0)
theorem nulN10_size (n : Nat) : (nulN10 n).size = n := by rw [nulN10, strOfNums_size, List.length_replicate]
/-- the cells of n noughts. -/
def nulC10 (n : Nat) : Array Value := (List.replicate n (Value.int .u8 0)).toArray
theorem run_makeN10 (W : World) (n : Nat) (h : n ≤ 2000000) :
    (Instr.makeSlice 58 (.int .i64 (n : Int)) (.int .i64 (n : Int))).run Try.prog W = .ok (.slice (some ⟨W.heap.size, 0, none⟩) n n) (W.alloc (.cells (nulC10 n) 5)) := by
  obtain ⟨i0, hi, hz0, hz1, hz2⟩ := infoThree10 infoU8x
  have h1 := run_make (P := Try.prog) W 58 5 i0 (.int .u8 0) Try.underlying58 hi hz0 .i64 .i64 (n : Int) (n : Int) (by omega) (by omega) (by rw [hz2]; omega) (by omega)
  rw [hz1, Int.toNat_natCast, Nat.mul_one] at h1
  have e : madeCells (Value.int .u8 0).cells n = nulC10 n := by
    apply Array.toList_inj.1
    show (madeCells #[.int .u8 0] n).toList = _
    rw [toList_madeCells_one]
    simp [nulC10]
  rw [e] at h1
  exact h1
theorem run_convN10 {W : World} {g n : Nat} (h : Is W g 5 (nulC10 n)) :
    (convert 58 9 (.slice (some ⟨g, 0, none⟩) n n)).run Try.prog W = .ok (.string (nulN10 n)) W :=
  run_convert_bytes_arg (P := Try.prog) W 58 5 Try.underlying58 Try.underlying5 g 0 n n (List.replicate n 0) (by simp) (fun i hi => by
    rw [Nat.zero_add, h.cell, nulC10]
    simp [hi]) 9 Try.underlying9

/-- n empty texts. -/
def emp10 (n : Nat) : List ByteArray := List.replicate n ⟨#[]⟩
def empC10 (n : Nat) : Array Value := (List.replicate n (Value.string ⟨#[]⟩)).toArray
theorem run_makeS10 (W : World) (n : Nat) (h : n ≤ 100000) :
    (Instr.makeSlice 45 (.int .i64 (n : Int)) (.int .i64 (n : Int))).run Try.prog W = .ok (.slice (some ⟨W.heap.size, 0, none⟩) n n) (W.alloc (.cells (empC10 n) 9)) := by
  obtain ⟨i0, hi, hz0, hz1, hz2⟩ := infoThree10 infoTxt10
  have h1 := run_make (P := Try.prog) W 45 9 i0 (.string ⟨#[]⟩) Try.underlying45 hi hz0 .i64 .i64 (n : Int) (n : Int) (by omega) (by omega) (by rw [hz2]; omega) (by omega)
  rw [hz1, Int.toNat_natCast, Nat.mul_one] at h1
  have e : madeCells (Value.string ⟨#[]⟩).cells n = empC10 n := by
    apply Array.toList_inj.1
    show (madeCells #[.string ⟨#[]⟩] n).toList = _
    rw [toList_madeCells_one]
    simp [empC10]
  rw [e] at h1
  exact h1
theorem emp_in10 (W : World) (n : Nat) : InV (W.alloc (.cells (empC10 n) 9)) (some ⟨W.heap.size, 0, none⟩) (tL10 (emp10 n)) := fun j u hj => by
  have hD := Is.new W 9 (empC10 n)
  refine ⟨W.heap.size, 0, rfl, hD.lt, ?_⟩
  rw [Nat.zero_add, hD.cell j]
  rw [← hj]
  simp [empC10, tL10, emp10, Array.getElem?_replicate, List.getElem?_replicate]
theorem one_in10 (W : World) (s : ByteArray) : InV (W.alloc (.cells #[.string s] 9)) (some ⟨W.heap.size, 0, none⟩) (tL10 [s]) := fun j u hj => by
  have hD := Is.new W 9 #[.string s]
  refine ⟨W.heap.size, 0, rfl, hD.lt, ?_⟩
  rw [Nat.zero_add, hD.cell j]
  rw [← hj]
  simp [tL10]
theorem bt_nul10 {k j : Nat} (h : j < k) : bt7 (nulN10 k) j = 0 := by
  have h1 := bt_nums10 (List.replicate k 0) (fun x hx => by rw [(List.mem_replicate.1 hx).2]; omega) j (by simpa using h)
  rw [show (List.replicate k (0 : Int)).getD j 0 = 0 by simp [List.getD, List.getElem?_replicate]; split <;> rfl] at h1
  rw [nulN10]
  omega
theorem emp_cat10 : ∀ n : Nat, (cat10 (emp10 n)).size = 4 * n ∧ ∀ j, j < 4 * n → bt7 (cat10 (emp10 n)) j = 0
  | 0 => ⟨rfl, fun j h => absurd h (by omega)⟩
  | n + 1 => by
    obtain ⟨h1, h2⟩ := emp_cat10 n
    have e : cat10 (emp10 (n + 1)) = txt10 ⟨#[]⟩ ++ cat10 (emp10 n) := by rw [emp10, List.replicate_succ, cat_cons10]; rfl
    have z : (txt10 ⟨#[]⟩).size = 4 := by rw [txt_size10]; rfl
    rw [e]
    refine ⟨by rw [ByteArray.size_append, z, h1]; omega, fun j h => ?_⟩
    by_cases hj : j < 4
    · rw [bt_app_l10 (by omega)]
      match j, hj with
      | 0, _ => rfl
      | 1, _ => rfl
      | 2, _ => rfl
      | 3, _ => rfl
    · rw [bt_app_r10 (by omega), z]
      exact h2 _ (by omega)
theorem emp_lst10 (n : Nat) : lst10 (emp10 n) = num10 (n : Int) ++ nulN10 (4 * n) := by
  have h : cat10 (emp10 n) = nulN10 (4 * n) := eq_bt10 (by rw [(emp_cat10 n).1, nulN10_size]) fun j hj => by
    rw [(emp_cat10 n).1] at hj
    rw [(emp_cat10 n).2 j hj, bt_nul10 hj]
  rw [lst10, h, emp10, List.length_replicate]
theorem emp_size10 (n : Nat) : (lst10 (emp10 n)).size = 4 + 4 * n := by rw [lst_size10, (emp_cat10 n).1]
theorem app_none10 (x : ByteArray) : x ++ ⟨#[]⟩ = x := eq_bt10 (by rw [ByteArray.size_append]; rfl) fun j hj => bt_app_l10 (by rw [ByteArray.size_append] at hj; exact hj)
theorem none_app10 (x : ByteArray) : (⟨#[]⟩ : ByteArray) ++ x = x := eq_bt10 (by rw [ByteArray.size_append]; show 0 + x.size = x.size; omega) fun j hj => by
  rw [bt_app_r10 (by show 0 ≤ j; omega)]; rfl
/-- what is taken of so many empty texts, and of noughts. -/
theorem emp_take10 {n : Nat} (h : n ≤ 1000) : (tlV10 (num10 (n : Int) ++ nulN10 (4 * n)) 0).2.2 = 0 := by
  have h1 := tl_app10 ⟨#[]⟩ (emp10 n) ⟨#[]⟩ (by simp [emp10]; exact h) (by rw [none_app10, app_none10, emp_size10]; omega)
  rw [none_app10, app_none10, emp_lst10] at h1
  rw [show (((⟨#[]⟩ : ByteArray).size : Nat) : Int) = 0 from rfl] at h1
  rw [h1]
theorem emp_long10 {n : Nat} (h : 1000 < n) (h2 : n ≤ 2000) : tlV10 (num10 (n : Int) ++ nulN10 (4 * n)) 0 = ([], 0, 13) := by
  have h1 := tn_app10 ⟨#[]⟩ (nulN10 (4 * n)) (n := (n : Int)) (by omega) (by rw [none_app10, ByteArray.size_append, num_size10, nulN10_size]; omega)
  rw [none_app10] at h1
  rw [show (((⟨#[]⟩ : ByteArray).size : Nat) : Int) = 0 from rfl] at h1
  rw [tlV10, h1, if_pos rfl, if_pos (by show (1000 : Int) < (n : Int); omega)]
theorem nul_take10 {k : Nat} (h : 4 ≤ k) (h2 : k ≤ 65536) : (tnV10 (nulN10 k) 0).2.2 = 0 := by
  rw [tn_of10 (n := 0) (by rw [nulN10_size]; exact h2) (by omega) (by rw [nulN10_size]; omega) (by
    show ((rd10 (nulN10 k) 0 : Nat) : Int) = 0
    rw [rd10, bt_nul10 (by omega), bt_nul10 (by omega), bt_nul10 (by omega), bt_nul10 (by omega)]; rfl) (by omega)]
theorem nul_long10 {k : Nat} (h : 65536 < k) : tnV10 (nulN10 k) 0 = (0, 0, 1) := tn_wrong10 (by
  cases hr : rightV (nulN10 k) 0 with
  | false => rfl
  | true => exact absurd (rightV_iff.1 hr).1 (by rw [nulN10_size]; omega))
theorem one_size10 (s : ByteArray) : (lst10 [s]).size = s.size + 8 := by
  rw [lst_size10, cat_cons10, ByteArray.size_append, txt_size10]
  show 4 + (4 + s.size + 0) = _
  omega

theorem exec_make10 {P : Program} {w w' : World} {o : Oper} {a : Act} {t : TypeId} {x : Operand} {u v : Value} (ho : o.op = .makeSlice t x x) (hx : a.eval x = u) (h : (Instr.makeSlice t u u).run P w = .ok v w') : (execOp a.eval o).run P w = .ok (.value v) w' := by
  simp only [execOp, ho, hx, h, Sem.run_bind, Sem.run_pure, Result.andThen_ok]
theorem exec_conv10 {P : Program} {w w' : World} {o : Oper} {a : Act} {t t2 : TypeId} {x : Operand} {u v : Value} (ho : o.op = .convert t t2 x) (hx : a.eval x = u) (h : (convert t t2 u).run P w = .ok v w') : (execOp a.eval o).run P w = .ok (.value v) w' := by
  simp only [execOp, ho, hx, h, Sem.run_bind, Sem.run_pure, Result.andThen_ok]
theorem quo10 {n : Int} (h0 : 0 ≤ n) (h1 : n ≤ 2000) (W : World) : (binOp .quo 3 (.int .i64 n) (.int .i64 256)).run Try.prog W = .ok (.int .i64 (n / 256)) W := by
  have e : n.tdiv 256 = n / 256 := Int.tdiv_eq_ediv_of_nonneg h0
  have w1 := IntWalk.i64_in (n / 256) (by omega)
  go_simp
theorem rem10 {n : Int} (h0 : 0 ≤ n) (_h1 : n ≤ 2000) (W : World) : (binOp .rem 3 (.int .i64 n) (.int .i64 256)).run Try.prog W = .ok (.int .i64 (n % 256)) W := by
  have e : n.tmod 256 = n % 256 := Int.tmod_eq_emod_of_nonneg h0
  have w1 := IntWalk.i64_in (n % 256) (by omega)
  go_simp
theorem leI10 (a b : Int) (W : World) : (binOp .leq 3 (.int .i64 a) (.int .i64 b)).run Try.prog W = .ok (.bool (decide (a ≤ b))) W := by
  go_simp
theorem eqE_b10 {a b : Int} {B : Bool} (h : (a == b) = B) (W : World) : (binOp .eql 32 (.int .i64 a) (.int .i64 b)).run Try.prog W = .ok (.bool B) W := by rw [eqE10, h]
theorem leI_b10 {a b : Int} {B : Bool} (h : decide (a ≤ b) = B) (W : World) : (binOp .leq 3 (.int .i64 a) (.int .i64 b)).run Try.prog W = .ok (.bool B) W := by rw [leI10, h]
theorem neB10 (b : Bool) (W : World) : (binOp .neq 4 (.bool b) (.bool b)).run Try.prog W = .ok (.bool false) W := by
  cases b <;> go_simp
theorem conv_four10 {W : World} {g : Nat} {n : Int} (h0 : 0 ≤ n) (h1 : n ≤ 2000) (h : Is W g 5 #[.int .u8 0, .int .u8 0, .int .u8 (n / 256), .int .u8 (n % 256)]) :
    (convert 58 9 (.slice (some ⟨g, 0, none⟩) 4 4)).run Try.prog W = .ok (.string (num10 n)) W :=
  conv_num10 (n := n) (by rw [show n / 16777216 % 256 = 0 by omega, show n / 65536 % 256 = 0 by omega, show n / 256 % 256 = n / 256 by omega]; exact h)
end Go.Proofs.Ytglcckpkbnppoaa
