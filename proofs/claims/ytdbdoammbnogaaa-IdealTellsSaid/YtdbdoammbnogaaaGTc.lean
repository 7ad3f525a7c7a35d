/-
  Contracts of tape.Number, and of the document's own. No conditions.
  Contracts of slices.Clone at numbers, and of tape.change: a list is copied into new memory; two things change places. Conditions: a list of at most 1000; places within it.
  Layer 7: lists in memory of one's own: two things that change places in it. Nothing of the program stands here but the numbers of its types.
  The region of tape.Turn that lays what is turned and the tape's rest: in whatever order. Nothing is asked but that the list lies where the slice points to.
-/
import Derived.Test.YtdbdoammbnogaaaTapA
import Derived.Test.YtdbdoammbnogaaaGKit
import Derived.Lib.SliceRun
import Derived.Lib.BufStepsIn
import Derived.Lib.OthersKept
namespace Go.Proofs.Ytdbdoammbnogaaa
open Go.RowKit Go.Shelf


theorem turn_less (B : ByteArray) (a : Int) (j x : Nat) (hr : rightV B a = true) (hx : x < 1000) (hj : a + 2 * (j : Int) ≤ (B.size : Int)) (hm : (B.size : Int) - (a + 2 * (j : Int)) < 2) :
    numR B (a + 2 * (j : Int)) ((x : Int) + 1) = .tuple #[.int .i64 0, .agg #[.string B, .int .i64 (a + 2 * (j : Int))], .int .i64 12] := by
  obtain ⟨h1, h2, h3⟩ := rightV_iff.1 hr
  have hr2 : rightV B (a + 2 * (j : Int)) = true := rightV_iff.2 ⟨h1, by omega, hj⟩
  have hE : numE B (a + 2 * (j : Int)) ((x : Int) + 1) = 12 := by
    rw [numE, hr2, leftV, if_pos hr2, if_pos hm]
    have e1 : (1 : Int) ≤ (x : Int) + 1 := by omega
    have e2 : (x : Int) + 1 ≤ 65536 := by omega
    simp [e2]
    omega
  rw [numR, numV, numA, hE]
  rfl
theorem turn_more (B : ByteArray) (a : Int) (j x : Nat) (hr : rightV B a = true) (hx : x < 1000) (hj : a + 2 * (j : Int) ≤ (B.size : Int)) (hm : ¬ (B.size : Int) - (a + 2 * (j : Int)) < 2) :
    numR B (a + 2 * (j : Int)) ((x : Int) + 1) = .tuple #[.int .i64 ((twoN B (a.toNat + 2 * j) % (x + 1) : Nat) : Int), .agg #[.string B, .int .i64 (a + 2 * ((j + 1 : Nat) : Int))], .int .i64 0] := by
  obtain ⟨h1, h2, h3⟩ := rightV_iff.1 hr
  have hr2 : rightV B (a + 2 * (j : Int)) = true := rightV_iff.2 ⟨h1, by omega, hj⟩
  have hE : numE B (a + 2 * (j : Int)) ((x : Int) + 1) = 0 := by
    rw [numE, hr2, leftV, if_pos hr2, if_neg hm]
    have e1 : (1 : Int) ≤ (x : Int) + 1 := by omega
    have e2 : (x : Int) + 1 ≤ 65536 := by omega
    simp [e2]
    omega
  rw [numR, numV, numA, hE, if_pos rfl, if_pos rfl, show (a + 2 * (j : Int)).toNat = a.toNat + 2 * j by omega, show a + 2 * (j : Int) + 2 = a + 2 * ((j + 1 : Nat) : Int) by omega]
  rfl
end Go.Proofs.Ytdbdoammbnogaaa
namespace Go.Proofs.Ytdbdoammbnogaaa
open Go.RowKit Go.Shelf

/-- what lies where a slice points to. -/
def InL (W : World) (A : Option Addr) (L : List Int) : Prop :=
  ∀ j, j < L.length → ∃ b off, A = some ⟨b, off, none⟩ ∧ b < W.heap.size ∧ W.cell? ⟨b, off + j, none⟩ = some (.int .i64 (L.getD j 0))
theorem InL.below {W W' : World} {A : Option Addr} {L : List Int} (h : InL W A L) {B : Nat} (hb : Below B W W') (hlt : ∀ p, A = some p → p.block < B) : InL W' A L := fun j hj => by
  obtain ⟨b, off, rfl, h1, h2⟩ := h j hj
  exact ⟨b, off, rfl, Nat.lt_of_lt_of_le h1 hb.size, (hb.cell (p := ⟨b, off + j, none⟩) (hlt ⟨b, off, none⟩ rfl)).trans h2⟩
theorem InL.keep {W W' : World} {A : Option Addr} {L : List Int} (h : InL W A L) (hb : Below W.heap.size W W') : InL W' A L := fun j hj => by
  obtain ⟨b, off, rfl, h1, h2⟩ := h j hj
  exact ⟨b, off, rfl, Nat.lt_of_lt_of_le h1 hb.size, (hb.cell (p := ⟨b, off + j, none⟩) h1).trans h2⟩
/-- numbers, as cells. -/
abbrev iL (L : List Int) : List Value := L.map (Value.int .i64)
theorem infoInt7 : (Try.prog.info? 3).map (fun i => (i.zero, i.size, i.bytes)) = some (some (.int .i64 0), 1, 8) := by kernel_rfl

theorem owns_slice7 {w : World} {base : Nat} {e : TypeId} {size n : Nat} {v : Value} {xs : List Value} (h : w.ownsRow base e size v n xs) : ∃ A' c', v = .slice A' n c' := by
  rcases h.2 with ⟨rfl, rfl⟩ | ⟨g, cap, cur, rfl, _⟩
  · exact ⟨_, _, rfl⟩
  · exact ⟨_, _, rfl⟩

end Go.Proofs.Ytdbdoammbnogaaa
namespace Go.Proofs.Ytdbdoammbnogaaa
open Go.RowKit Go.Shelf

theorem is_ne {W : World} {g g' : Nat} {t t' : TypeId} {cs cs' : Array Value} (h : Is W g t cs) (h' : Is W g' t' cs') (hne : t ≠ t') : g ≠ g' := fun e => by
  subst e
  have := h.symm.trans h'
  cases this
  exact hne rfl
theorem grown7 {W W1 : World} (hb : Below W.heap.size W W1) : W.grownBy W1 none := ⟨hb.os, hb.tape, hb.output, hb.size, fun k hk _ => hb.block k hk⟩
theorem grownSet7 (w : World) (p : Addr) (v : Value) : w.grownBy (w.setCell p v) (some p.block) :=
  ⟨rfl, rfl, rfl, by simp [World.setCell], fun k _ hne => heap_setCell_other w p k v (fun e => hne (by rw [e]))⟩
theorem own_base {w : World} {base b2 : Nat} {e : TypeId} {size n : Nat} {v : Value} {xs : List Value} (h : w.ownsRow base e size v n xs) (hb : b2 ≤ base) : w.ownsRow b2 e size v n xs := by
  refine ⟨h.1, ?_⟩
  rcases h.2 with h0 | ⟨g, cap, cur, rfl, hg, rest⟩
  · exact .inl h0
  · exact .inr ⟨g, cap, cur, rfl, Nat.le_trans hb hg, rest⟩
/-- a list in memory from block base on. -/
def RowD (W : World) (base : Nat) (A : Option Addr) (c : Nat) (L : List Int) : Prop := W.ownsRow base 3 1 (.slice A L.length c) L.length (iL L)
theorem RowD.grown {W W' : World} {base : Nat} {A : Option Addr} {c : Nat} {L : List Int} (h : RowD W base A c L) {row : Option Nat} (hg : W.grownBy W' row) (hr : ∀ r, row = some r → ∃ t cs, Is W r t cs ∧ t ≠ 3) : RowD W' base A c L := by
  refine h.kept hg ?_
  rcases h.2 with ⟨h0, _⟩ | ⟨g, cap, cur, h0, _, hi, _⟩
  · rw [h0]
    exact .inl rfl
  · rw [h0]
    refine .inr fun e => ?_
    obtain ⟨t, cs, h1, h2⟩ := hr g e.symm
    exact is_ne h1 (show Is W g 3 cur from hi) h2 rfl
theorem RowD.below {W W' : World} {base : Nat} {A : Option Addr} {c : Nat} {L : List Int} (h : RowD W base A c L) (hb : Below W.heap.size W W') : RowD W' base A c L := h.grown (grown7 hb) (fun r e => by cases e)
theorem RowD.far {W : World} {base : Nat} {A : Option Addr} {c : Nat} {L : List Int} (h : RowD W base A c L) {p : Addr} {t : TypeId} {cs : Array Value} (hp : Is W p.block t cs) (ht : t ≠ 3) (v : Value) : RowD (W.setCell p v) base A c L :=
  h.grown (grownSet7 _ _ _) (fun r e => by cases e; exact ⟨t, cs, hp, ht⟩)
theorem RowD.drewN {W : World} {base : Nat} {A : Option Addr} {c : Nat} {L : List Int} (h : RowD W base A c L) (n : Nat) : RowD (W.drewN n) base A c L := h
theorem RowD.open {W : World} {base : Nat} {A : Option Addr} {c : Nat} {L : List Int} (h : RowD W base A c L) (hn : 0 < L.length) :
    ∃ g cur, A = some ⟨g, 0, none⟩ ∧ base ≤ g ∧ Is W g 3 cur ∧ L.length ≤ c ∧ c ≤ maxLen ∧ cur.size = c ∧ cur.toList.take L.length = iL L := by
  rcases h.2 with ⟨_, h0⟩ | ⟨g, cap, cur, h0, hb, hi, hc, hm, hs, ht⟩
  · omega
  · cases h0
    rw [Nat.mul_one] at hs ht
    exact ⟨g, cur, rfl, hb, hi, hc, hm, hs, ht⟩
theorem row_at {cur : Array Value} {L : List Int} (ht : cur.toList.take L.length = iL L) {i : Nat} (hi : i < L.length) : cur[i]? = some (.int .i64 (L.getD i 0)) := by
  have h1 : (cur.toList.take L.length)[i]? = (iL L)[i]? := by rw [ht]
  rw [List.getElem?_take, if_pos hi, Array.getElem?_toList, List.getElem?_map, List.getElem?_eq_getElem hi] at h1
  rw [h1, List.getD_eq_getElem?_getD, List.getElem?_eq_getElem hi]
  rfl
/-- two things changed places. -/
theorem RowD.swap {W : World} {base g c : Nat} {L : List Int} (h : RowD W base (some ⟨g, 0, none⟩) c L) {i k : Nat} (_hi : i < L.length) (_hk : k < L.length) :
    RowD ((W.setCell ⟨g, i, none⟩ (.int .i64 (L.getD k 0))).setCell ⟨g, k, none⟩ (.int .i64 (L.getD i 0))) base (some ⟨g, 0, none⟩) c (swpL L i k) := by
  obtain ⟨g2, cur, e, hb, hI, hc, hm, hs, ht⟩ := h.open (by omega)
  injection e with e
  injection e with e
  subst e
  have hl := swpL_len L i k
  refine ⟨by simp, .inr ⟨g, c, (cur.setIfInBounds i (.int .i64 (L.getD k 0))).setIfInBounds k (.int .i64 (L.getD i 0)), rfl, hb, (hI.set i _).set k _, by rw [hl]; exact hc, hm, by simp [hs], ?_⟩⟩
  rw [Nat.mul_one, hl, swpL, Array.toList_setIfInBounds, Array.toList_setIfInBounds, List.take_set, List.take_set, ht, iL, iL, List.map_set, List.map_set]
end Go.Proofs.Ytdbdoammbnogaaa
namespace Go.Proofs.Ytdbdoammbnogaaa
open Go.RowKit Go.Shelf

section
variable {P : Program} {md : Region.Mode} {ops : Array Oper} {Q : Exit → Act → World → Prop} {S : World → Prop} {fuel i : Nat} {listed : Array Bool} {a : Act} {w w' : World} {o : Oper}
/-- one of what may come up: a call. -/
theorem arm_call {f : FuncId} {args : Array Value} (hw : Region.wanted o (yielded ops a.tmps) = true) (hx : ∀ w, (execOp a.eval o).run P w = .ok (.enter f args) w)
    (h : Calls P f args w fun e w' => ∃ v, e = .returned v ∧ S w' ∧ wpAnyH P md ops Q S fuel (listed.setIfInBounds i true) (a.put o.dst v) w') :
    ∀ K' : Act → World → Prop, Shut (∀ a w, S w → (S w → wpAnyH P md ops Q S fuel (listed.setIfInBounds i true) a w) → K' a w) → if Region.wanted o (yielded ops a.tmps) = true then Oper.wp P o a w K' Q else K' (a.put o.dst undef) w := fun K' hK => by
  rw [if_pos hw]
  unfold Oper.wp
  rw [hx, Oper.upon_enter]
  exact h.mono fun e w' ⟨v, he, hS, hn⟩ => by subst he; exact hK.out _ _ hS fun _ => hn
/-- one that comes to a value. -/
theorem arm_value {v : Value} (hw : Region.wanted o (yielded ops a.tmps) = true) (hx : (execOp a.eval o).run P w = .ok (.value v) w') (hS : S w')
    (h : wpAnyH P md ops Q S fuel (listed.setIfInBounds i true) (a.put o.dst v) w') :
    ∀ K' : Act → World → Prop, Shut (∀ a w, S w → (S w → wpAnyH P md ops Q S fuel (listed.setIfInBounds i true) a w) → K' a w) → if Region.wanted o (yielded ops a.tmps) = true then Oper.wp P o a w K' Q else K' (a.put o.dst undef) w := fun K' hK => by
  rw [if_pos hw]
  unfold Oper.wp
  rw [hx]
  exact hK.out _ _ hS fun _ => h
/-- one that comes to nothing. -/
theorem arm_skip (hw : Region.wanted o (yielded ops a.tmps) = true) (hx : (execOp a.eval o).run P w = .ok .skip w') (hS : S w')
    (h : wpAnyH P md ops Q S fuel (listed.setIfInBounds i true) (a.put o.dst undef) w') :
    ∀ K' : Act → World → Prop, Shut (∀ a w, S w → (S w → wpAnyH P md ops Q S fuel (listed.setIfInBounds i true) a w) → K' a w) → if Region.wanted o (yielded ops a.tmps) = true then Oper.wp P o a w K' Q else K' (a.put o.dst undef) w := fun K' hK => by
  rw [if_pos hw]
  unfold Oper.wp
  rw [hx]
  exact hK.out _ _ hS fun _ => h
end
/-- where a turn stands: its own blocks, the list and the tape's place. -/
structure TurnAt (w : World) (B : ByteArray) (a : Int) (B7 B8 : Nat) (A' : Option Addr) (c' : Nat) (l : List Int) (b : Int) (W : World) : Prop where
  iA : Is W w.heap.size 26 #[.string B, .int .i64 a]
  iS : Is W (w.heap.size + 1) 22 #[.slice none 0 0]
  iT : Is W (w.heap.size + 1 + 1) 26 #[.string ⟨#[]⟩, .int .i64 0]
  iE : Is W (w.heap.size + 1 + 1 + 1) 33 #[.int .i64 0]
  i7 : Is W B7 22 #[.slice A' l.length c']
  i8 : Is W B8 26 #[.string B, .int .i64 b]
  own : RowD W w.heap.size A' c' l
  below : Below w.heap.size w W
  l7 : w.heap.size + 4 ≤ B7
  l8 : w.heap.size + 4 ≤ B8
theorem run_alloc7 (W : World) {o : Oper} {a : Act} (ho : o.op = .alloc 22) : (execOp a.eval o).run Try.prog W = .ok (.value (.pointer (some ⟨W.heap.size, 0, none⟩))) (W.alloc (.cells #[.slice none 0 0] 22)) := by
  simp only [execOp, ho]
  go_simp
theorem run_alloc8 (W : World) {o : Oper} {a : Act} (ho : o.op = .alloc 26) : (execOp a.eval o).run Try.prog W = .ok (.value (.pointer (some ⟨W.heap.size, 0, none⟩))) (W.alloc (.cells #[.string ⟨#[]⟩, .int .i64 0] 26)) := by
  simp only [execOp, ho]
  go_simp
theorem run_store_rowO {P : Program} {W : World} {o : Oper} {a : Act} {ty : TypeId} {x y : Operand} (ho : o.op = .store ty x y) {g : Nat} {t : TypeId} {old cs : Array Value} (hx : a.eval x = .pointer (some ⟨g, 0, none⟩)) (hy : a.eval y = .agg cs) (hg : Is W g t old) (hi : (P.info? ty).map (·.size) = some cs.size)
    (hs : old.size = cs.size) (h1 : cs.all (·.oneCell') = true) : (execOp a.eval o).run P W = .ok .skip (W.setRow g cs) := by
  simp only [execOp, ho, hx, hy, Instr.storeAt, Instr.sureAddr, Sem.run_bind, Sem.run_pure, Result.andThen_ok, run_storeVar_row W g t ty old cs hg hi hs h1]
theorem grownRow7 (w : World) (g : Nat) (cs : Array Value) : w.grownBy (w.setRow g cs) (some g) := ⟨rfl, rfl, rfl, by simp, fun k _ hne => setRow_other w g k cs (fun e => hne (by rw [e]))⟩
theorem RowD.rowFar {W : World} {base : Nat} {A : Option Addr} {c : Nat} {L : List Int} (h : RowD W base A c L) {g : Nat} {t : TypeId} {cs : Array Value} (hp : Is W g t cs) (ht : t ≠ 3) (v : Array Value) : RowD (W.setRow g v) base A c L :=
  h.grown (grownRow7 _ _ _) (fun r e => by cases e; exact ⟨t, cs, hp, ht⟩)

end Go.Proofs.Ytdbdoammbnogaaa
