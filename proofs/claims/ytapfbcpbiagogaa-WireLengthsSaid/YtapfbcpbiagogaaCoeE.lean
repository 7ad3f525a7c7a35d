/-
  What the statements' drawn regions share: one of what may come up; a cursor's block, made and written.
-/
import Derived.Test.YtapfbcpbiagogaaCoeD
namespace Go.Proofs.Ytapfbcpbiagogaa
open Go.RowKit Go.Shelf

section
variable {P : Program} {md : Region.Mode} {ops : Array Oper} {Q : Exit → Act → World → Prop} {S : World → Prop} {fuel i : Nat} {listed : Array Bool} {a : Act} {w w' : World} {o : Oper}
/-- a call. -/
theorem arm10_call {f : FuncId} {args : Array Value} (hw : Region.wanted o (yielded ops a.tmps) = true) (hx : ∀ w, (execOp a.eval o).run P w = .ok (.enter f args) w)
    (h : Calls P f args w fun e w' => ∃ v, e = .returned v ∧ S w' ∧ wpAnyH P md ops Q S fuel (listed.setIfInBounds i true) (a.put o.dst v) w') :
    ∀ K' : Act → World → Prop, Shut (∀ a w, S w → (S w → wpAnyH P md ops Q S fuel (listed.setIfInBounds i true) a w) → K' a w) → if Region.wanted o (yielded ops a.tmps) = true then Oper.wp P o a w K' Q else K' (a.put o.dst undef) w := fun K' hK => by
  rw [if_pos hw]
  unfold Oper.wp
  rw [hx, Oper.upon_enter]
  exact h.mono fun e w' ⟨v, he, hS, hn⟩ => by subst he; exact hK.out _ _ hS fun _ => hn
/-- one that comes to a value. -/
theorem arm10_value {v : Value} (hw : Region.wanted o (yielded ops a.tmps) = true) (hx : (execOp a.eval o).run P w = .ok (.value v) w') (hS : S w')
    (h : wpAnyH P md ops Q S fuel (listed.setIfInBounds i true) (a.put o.dst v) w') :
    ∀ K' : Act → World → Prop, Shut (∀ a w, S w → (S w → wpAnyH P md ops Q S fuel (listed.setIfInBounds i true) a w) → K' a w) → if Region.wanted o (yielded ops a.tmps) = true then Oper.wp P o a w K' Q else K' (a.put o.dst undef) w := fun K' hK => by
  rw [if_pos hw]
  unfold Oper.wp
  rw [hx]
  exact hK.out _ _ hS fun _ => h
/-- one that comes to nothing. -/
theorem arm10_skip (hw : Region.wanted o (yielded ops a.tmps) = true) (hx : (execOp a.eval o).run P w = .ok .skip w') (hS : S w')
    (h : wpAnyH P md ops Q S fuel (listed.setIfInBounds i true) (a.put o.dst undef) w') :
    ∀ K' : Act → World → Prop, Shut (∀ a w, S w → (S w → wpAnyH P md ops Q S fuel (listed.setIfInBounds i true) a w) → K' a w) → if Region.wanted o (yielded ops a.tmps) = true then Oper.wp P o a w K' Q else K' (a.put o.dst undef) w := fun K' hK => by
  rw [if_pos hw]
  unfold Oper.wp
  rw [hx]
  exact hK.out _ _ hS fun _ => h
end
section
variable {P : Program} {ops : Array Oper} {Q : Exit → Act → World → Prop} {i : Nat} {a : Act} {w : World} {o : Oper}
theorem drop_nth10 {ops : Array Oper} {i : Nat} {o : Oper} (h : ops[i]? = some o) : ops.toList.drop i = o :: ops.toList.drop (i + 1) := by
  obtain ⟨h1, h2⟩ := Array.getElem?_eq_some_iff.1 h
  rw [List.drop_eq_getElem_cons (by simpa using h1), ← h2]
  rfl
/-- a region that draws no order, from operation i on (a structure, so that nothing looks into it). -/
structure Line10 (P : Program) (ops : Array Oper) (Q : Exit → Act → World → Prop) (i : Nat) (a : Act) (w : World) : Prop where
  out : wpList P ops Q (ops.toList.drop i) a w
/-- the next operation comes to a value. -/
theorem line_pure {v : Value} (hi : ops[i]? = some o) (hw : Region.wanted o (yielded ops a.tmps) = true) (hx : (execOp a.eval o).run P w = .ok (.value v) w)
    (h : Line10 P ops Q (i + 1) (a.put o.dst v) w) : Line10 P ops Q i a w := by
  refine ⟨?_⟩
  rw [drop_nth10 hi]
  refine wpList_step fun K hK => ?_
  rw [if_pos hw]
  unfold Oper.wp
  rw [hx, Oper.upon_value]
  exact hK _ _ h.out
/-- it is not wanted. -/
theorem line_off (hi : ops[i]? = some o) (hw : Region.wanted o (yielded ops a.tmps) = false) (h : Line10 P ops Q (i + 1) (a.put o.dst undef) w) : Line10 P ops Q i a w := by
  refine ⟨?_⟩
  rw [drop_nth10 hi]
  exact wpList_skip hw h.out
theorem line_done (hn : ops.size ≤ i) (h : Q .normal a w) : Line10 P ops Q i a w := by
  refine ⟨?_⟩
  rw [List.drop_of_length_le (by simpa using hn)]
  exact h
theorem line_start (h : Line10 P ops Q 0 a w) : wpList P ops Q ops.toList a w := h.out
end
theorem exec_load10 {P : Program} {w : World} {o : Oper} {ev : Operand → Value} {ty : TypeId} {x : Operand} {p : Addr} {v : Value} (ho : o.op = .load ty x) (hx : ev x = .pointer (some p)) (hv : (loadVar ty p).run P w = .ok v w) : (execOp ev o).run P w = .ok (.value v) w := by
  simp only [execOp, ho, hx, Instr.loadAt, Instr.sureAddr, Sem.run_bind, Sem.run_pure, Result.andThen_ok, hv]
theorem exec_bin10 {P : Program} {w : World} {o : Oper} {ev : Operand → Value} {op : BinOp} {t t2 : TypeId} {x y : Operand} {u v r : Value} (ho : o.op = .binOp op t x y t2) (hx : ev x = u) (hy : ev y = v) (hv : (binOp op t u v).run P w = .ok r w) (hg : (eqGuard op t x y u v).run P w = .ok () w) : (execOp ev o).run P w = .ok (.value r) w := by
  simp [execOp, ho, hx, hy, hv, hg, Result.andThen]
set_option maxHeartbeats 1000000 in
theorem neqC10 (C : ByteArray) (p : Int) (W : World) : (binOp .neq 64 (.agg #[.string C, .int .i64 p]) (.agg #[.string C, .int .i64 p])).run Try.prog W = .ok (.bool false) W := by
  go_simp
theorem eqE10 (a b : Int) (W : World) : (binOp .eql 32 (.int .i64 a) (.int .i64 b)).run Try.prog W = .ok (.bool (a == b)) W := by
  go_simp
theorem neE10 (a b : Int) (W : World) : (binOp .neq 32 (.int .i64 a) (.int .i64 b)).run Try.prog W = .ok (.bool (a != b)) W := by
  go_simp
theorem eqI10 (a b : Int) (W : World) : (binOp .eql 3 (.int .i64 a) (.int .i64 b)).run Try.prog W = .ok (.bool (a == b)) W := by
  go_simp
theorem neI10 (a b : Int) (W : World) : (binOp .neq 3 (.int .i64 a) (.int .i64 b)).run Try.prog W = .ok (.bool (a != b)) W := by
  go_simp
/-- comparisons whose outcome is known. -/
theorem eqE_yes10 (a : Int) (W : World) : (binOp .eql 32 (.int .i64 a) (.int .i64 a)).run Try.prog W = .ok (.bool true) W := by rw [eqE10, beq_self_eq_true]
theorem eqE_no10 {a b : Int} (h : a ≠ b) (W : World) : (binOp .eql 32 (.int .i64 a) (.int .i64 b)).run Try.prog W = .ok (.bool false) W := by rw [eqE10, show (a == b) = false by simpa using h]
theorem neE_no10 (a : Int) (W : World) : (binOp .neq 32 (.int .i64 a) (.int .i64 a)).run Try.prog W = .ok (.bool false) W := by rw [neE10, bne_self_eq_false]
theorem neE_yes10 {a b : Int} (h : a ≠ b) (W : World) : (binOp .neq 32 (.int .i64 a) (.int .i64 b)).run Try.prog W = .ok (.bool true) W := by rw [neE10, show (a != b) = true by simpa using h]
theorem eqI_yes10 {a b : Int} (h : a = b) (W : World) : (binOp .eql 3 (.int .i64 a) (.int .i64 b)).run Try.prog W = .ok (.bool true) W := by rw [h, eqI10, beq_self_eq_true]
theorem neI_no10 {a b : Int} (h : a = b) (W : World) : (binOp .neq 3 (.int .i64 a) (.int .i64 b)).run Try.prog W = .ok (.bool false) W := by rw [h, neI10, bne_self_eq_false]
theorem neS_no10 (C : ByteArray) (W : World) : (binOp .neq 9 (.string C) (.string C)).run Try.prog W = .ok (.bool false) W := by
  go_simp
theorem leI_yes10 {a b : Int} (h : a ≤ b) (W : World) : (binOp .leq 3 (.int .i64 a) (.int .i64 b)).run Try.prog W = .ok (.bool true) W := by
  have h2 : decide (a ≤ b) = true := decide_eq_true h
  go_simp
theorem geI_yes10 {a b : Int} (h : b ≤ a) (W : World) : (binOp .geq 3 (.int .i64 a) (.int .i64 b)).run Try.prog W = .ok (.bool true) W := by
  have h2 : decide (b ≤ a) = true := decide_eq_true h
  go_simp
theorem gtI_no10 {a b : Int} (h : a ≤ b) (W : World) : (binOp .gtr 3 (.int .i64 a) (.int .i64 b)).run Try.prog W = .ok (.bool false) W := by
  have h2 : decide (b < a) = false := decide_eq_false (by omega)
  go_simp
theorem ltI_no10 {a b : Int} (h : b ≤ a) (W : World) : (binOp .lss 3 (.int .i64 a) (.int .i64 b)).run Try.prog W = .ok (.bool false) W := by
  have h2 : decide (a < b) = false := decide_eq_false (by omega)
  go_simp
theorem addI10 {a b : Int} (h : -9223372036854775808 ≤ a + b ∧ a + b ≤ 9223372036854775807) (W : World) : (binOp .add 3 (.int .i64 a) (.int .i64 b)).run Try.prog W = .ok (.int .i64 (a + b)) W := by
  have w1 := IntWalk.i64_in (a + b) (by omega)
  go_simp
theorem subI10 {a b : Int} (h : -9223372036854775808 ≤ a - b ∧ a - b ≤ 9223372036854775807) (W : World) : (binOp .sub 3 (.int .i64 a) (.int .i64 b)).run Try.prog W = .ok (.int .i64 (a - b)) W := by
  have w1 := IntWalk.i64_in (a - b) (by omega)
  go_simp
theorem mulI10 {a b : Int} (h : -9223372036854775808 ≤ a * b ∧ a * b ≤ 9223372036854775807) (W : World) : (binOp .mul 3 (.int .i64 a) (.int .i64 b)).run Try.prog W = .ok (.int .i64 (a * b)) W := by
  have w1 := IntWalk.i64_in (a * b) (by omega)
  go_simp
theorem run_allocC10 (W : World) {o : Oper} {a : Act} (ho : o.op = .alloc 64) : (execOp a.eval o).run Try.prog W = .ok (.value (.pointer (some ⟨W.heap.size, 0, none⟩))) (W.alloc (.cells #[.string ⟨#[]⟩, .int .i64 0] 64)) := by
  simp only [execOp, ho]
  go_simp
theorem run_row10 {P : Program} {W : World} {o : Oper} {a : Act} {ty : TypeId} {x y : Operand} (ho : o.op = .store ty x y) {g : Nat} {t : TypeId} {old cs : Array Value} (hx : a.eval x = .pointer (some ⟨g, 0, none⟩)) (hy : a.eval y = .agg cs) (hg : Is W g t old) (hi : (P.info? ty).map (·.size) = some cs.size)
    (hs : old.size = cs.size) (h1 : cs.all (·.oneCell') = true) : (execOp a.eval o).run P W = .ok .skip (W.setRow g cs) := by
  simp only [execOp, ho, hx, hy, Instr.storeAt, Instr.sureAddr, Sem.run_bind, Sem.run_pure, Result.andThen_ok, run_storeVar_row W g t ty old cs hg hi hs h1]
end Go.Proofs.Ytapfbcpbiagogaa
