/-
  The region of tape.Turn that lays what is turned and the tape's rest: in whatever order. Nothing is asked but that the list lies where the slice points to.
-/
import Derived.Test.YtdbdoammbnogaaaTapN
import Derived.Test.YtdbdoammbnogaaaTapO
import Derived.Test.YtdbdoammbnogaaaGKit
namespace Go.Proofs.Ytdbdoammbnogaaa
open Go.RowKit Go.Shelf

section
variable {P : Program} {md : Region.Mode} {ops : Array Oper} {Q : Exit → Act → World → Prop} {S : World → Prop} {fuel i : Nat} {listed : Array Bool} {a : Act} {w w' : World} {o : Oper}
/-- one of what may come up: a call. -/
theorem arm_call {f : FuncId} {args : Array Value} (hw : Region.wanted o (yielded ops a.tmps) = true) (hx : ∀ w, (execOp a.eval o).run P w = .ok (.enter f args) w)
    (h : Calls P f args w fun e w' => ∃ v, e = .returned v ∧ S w' ∧ wpAnyH P md ops Q S fuel (listed.setIfInBounds i true) (a.put o.dst v) w') :
    ∀ K' : Act → World → Prop, Shut (∀ a w, S w → (S w → wpAnyH P md ops Q S fuel (listed.setIfInBounds i true) a w) → K' a w) → if Region.wanted o (yielded ops a.tmps) = true then Oper.wp P o a w K' Q else K' (a.put o.dst undef) w := fun K' hK => by
  rw [if_pos hw]
  unfold Oper.wp
  rw [hx, Oper.upon_enter]
  exact h.mono fun e w' ⟨v, he, hS, hn⟩ => by subst he; exact hK.out _ _ hS fun _ => hn
/-- one that comes to a value. -/
theorem arm_value {v : Value} (hw : Region.wanted o (yielded ops a.tmps) = true) (hx : (execOp a.eval o).run P w = .ok (.value v) w') (hS : S w')
    (h : wpAnyH P md ops Q S fuel (listed.setIfInBounds i true) (a.put o.dst v) w') :
    ∀ K' : Act → World → Prop, Shut (∀ a w, S w → (S w → wpAnyH P md ops Q S fuel (listed.setIfInBounds i true) a w) → K' a w) → if Region.wanted o (yielded ops a.tmps) = true then Oper.wp P o a w K' Q else K' (a.put o.dst undef) w := fun K' hK => by
  rw [if_pos hw]
  unfold Oper.wp
  rw [hx]
  exact hK.out _ _ hS fun _ => h
/-- one that comes to nothing. -/
theorem arm_skip (hw : Region.wanted o (yielded ops a.tmps) = true) (hx : (execOp a.eval o).run P w = .ok .skip w') (hS : S w')
    (h : wpAnyH P md ops Q S fuel (listed.setIfInBounds i true) (a.put o.dst undef) w') :
    ∀ K' : Act → World → Prop, Shut (∀ a w, S w → (S w → wpAnyH P md ops Q S fuel (listed.setIfInBounds i true) a w) → K' a w) → if Region.wanted o (yielded ops a.tmps) = true then Oper.wp P o a w K' Q else K' (a.put o.dst undef) w := fun K' hK => by
  rw [if_pos hw]
  unfold Oper.wp
  rw [hx]
  exact hK.out _ _ hS fun _ => h
end
/-- where a turn stands: its own blocks, the list and the tape's place. -/
structure TurnAt (w : World) (B : ByteArray) (a : Int) (B7 B8 : Nat) (A' : Option Addr) (c' : Nat) (l : List Int) (b : Int) (W : World) : Prop where
  iA : Is W w.heap.size 26 #[.string B, .int .i64 a]
  iS : Is W (w.heap.size + 1) 22 #[.slice none 0 0]
  iT : Is W (w.heap.size + 1 + 1) 26 #[.string ⟨#[]⟩, .int .i64 0]
  iE : Is W (w.heap.size + 1 + 1 + 1) 33 #[.int .i64 0]
  i7 : Is W B7 22 #[.slice A' l.length c']
  i8 : Is W B8 26 #[.string B, .int .i64 b]
  own : RowD W w.heap.size A' c' l
  below : Below w.heap.size w W
  l7 : w.heap.size + 4 ≤ B7
  l8 : w.heap.size + 4 ≤ B8
theorem run_alloc7 (W : World) {o : Oper} {a : Act} (ho : o.op = .alloc 22) : (execOp a.eval o).run Try.prog W = .ok (.value (.pointer (some ⟨W.heap.size, 0, none⟩))) (W.alloc (.cells #[.slice none 0 0] 22)) := by
  simp only [execOp, ho]
  go_simp
theorem run_alloc8 (W : World) {o : Oper} {a : Act} (ho : o.op = .alloc 26) : (execOp a.eval o).run Try.prog W = .ok (.value (.pointer (some ⟨W.heap.size, 0, none⟩))) (W.alloc (.cells #[.string ⟨#[]⟩, .int .i64 0] 26)) := by
  simp only [execOp, ho]
  go_simp
theorem run_store_rowO {P : Program} {W : World} {o : Oper} {a : Act} {ty : TypeId} {x y : Operand} (ho : o.op = .store ty x y) {g : Nat} {t : TypeId} {old cs : Array Value} (hx : a.eval x = .pointer (some ⟨g, 0, none⟩)) (hy : a.eval y = .agg cs) (hg : Is W g t old) (hi : (P.info? ty).map (·.size) = some cs.size)
    (hs : old.size = cs.size) (h1 : cs.all (·.oneCell') = true) : (execOp a.eval o).run P W = .ok .skip (W.setRow g cs) := by
  simp only [execOp, ho, hx, hy, Instr.storeAt, Instr.sureAddr, Sem.run_bind, Sem.run_pure, Result.andThen_ok, run_storeVar_row W g t ty old cs hg hi hs h1]
theorem grownRow7 (w : World) (g : Nat) (cs : Array Value) : w.grownBy (w.setRow g cs) (some g) := ⟨rfl, rfl, rfl, by simp, fun k _ hne => setRow_other w g k cs (fun e => hne (by rw [e]))⟩
theorem RowD.rowFar {W : World} {base : Nat} {A : Option Addr} {c : Nat} {L : List Int} (h : RowD W base A c L) {g : Nat} {t : TypeId} {cs : Array Value} (hp : Is W g t cs) (ht : t ≠ 3) (v : Array Value) : RowD (W.setRow g v) base A c L :=
  h.grown (grownRow7 _ _ _) (fun r e => by cases e; exact ⟨t, cs, hp, ht⟩)

end Go.Proofs.Ytdbdoammbnogaaa
