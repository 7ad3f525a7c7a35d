/-
  A function's region by its number, as a small term: so that a region that is walked by hand stands small in the goals; a call in such a region. Nothing of the program stands here.
-/
import Derived.Test.YtapfbcpbiagogaaKitR
namespace Go.Proofs.Ytapfbcpbiagogaa

/-- the first region of that number in the code. -/
def regOps (n : Nat) : Code → Option (Array Oper)
  | .region id ops _ => if id == n then some ops else none
  | .seq a b => (regOps n a).or (regOps n b)
  | .cond _ a b => (regOps n a).or (regOps n b)
  | .block _ a => regOps n a
  | .loop a => regOps n a
  | .rangeFunc _ _ a b => (regOps n a).or (regOps n b)
  | .scope a => regOps n a
  | _ => none
/-- a function's region. -/
def opsOf (fn : Func) (n : Nat) : Array Oper := (fn.body.bind (regOps n)).getD #[]
section
variable {P : Program} {md : Region.Mode} {ops : Array Oper} {Q : Exit → Act → World → Prop} {S : World → Prop} {fuel i : Nat} {listed : Array Bool} {a : Act} {w : World} {o : Oper}
/-- the call that comes next. -/
theorem wpAnyH_call {f : FuncId} {args : Array Value} (hr : Region.ready md ops listed = [i]) (ho : ops[i]? = some o) (hw : Region.wanted o (yielded ops a.tmps) = true)
    (hx : ∀ w, (execOp a.eval o).run P w = .ok (.enter f args) w)
    (h : Calls P f args w fun e w' => ∃ v, e = .returned v ∧ S w' ∧ wpAnyH P md ops Q S fuel (listed.setIfInBounds i true) (a.put o.dst v) w') :
    wpAnyH P md ops Q S (fuel + 1) listed a w :=
  wpAnyH_next hr ho fun K' hK => by
    rw [if_pos hw]
    unfold Oper.wp
    rw [hx, Oper.upon_enter]
    exact h.mono fun e w' ⟨v, he, hS, hn⟩ => by subst he; exact hK.out _ _ hS fun _ => hn
/-- the one that comes next, and is wanted. -/
theorem wpAnyH_step (hr : Region.ready md ops listed = [i]) (ho : ops[i]? = some o) (hw : Region.wanted o (yielded ops a.tmps) = true)
    (h : ∀ K' : Act → World → Prop, Shut (∀ a w, S w → (S w → wpAnyH P md ops Q S fuel (listed.setIfInBounds i true) a w) → K' a w) → Oper.wp P o a w K' Q) :
    wpAnyH P md ops Q S (fuel + 1) listed a w :=
  wpAnyH_next hr ho fun K' hK => by
    rw [if_pos hw]
    exact h K' hK
/-- what the kernel can reckon is taken first. -/
theorem wpAnyH_pure {v : Value} (hi : ops[i]? = some o) (hs : Region.noSelect ops = true) (hf : Region.free md ops listed i = true) (hr : (Region.ready md ops listed).contains i = true)
    (hQ : ∀ c a w, Q (.panic c) (a.put o.dst v) w → Q (.panic c) a w) (hw : Region.wanted o (yielded ops a.tmps) = true) (hy : ∀ w, S w → (execOp a.eval o).run P w = .ok (.value v) w) (hS : S w)
    (h : wpAnyH P md ops Q S fuel (listed.setIfInBounds i true) (a.put o.dst v) w) : wpAnyH P md ops Q S (fuel + 1) listed a w :=
  wpAnyH_take hi hs hf hr hQ (Or.inl ⟨hw, hy⟩) hS h
/-- all have come up: of the slots one is told, the others are whatever they are. -/
theorem wpAnyH_last {k : Nat} {v : Value} (hr : Region.ready md ops listed = []) (hk : a.tmps.getD k undef = v) (hd : a.defers = []) (h : ∀ T : Array Value, T.getD k undef = v → Q .normal ⟨T, []⟩ w) :
    wpAnyH P md ops Q S fuel listed a w :=
  wpAnyH_done hr (by
    obtain ⟨T, D⟩ := a
    cases hd
    exact h T hk) _
/-- the load of a row that comes next. -/
theorem wpAnyH_loadmid {ty : TypeId} {x : Operand} {b off : Nat} {cs : List Value} {d : TypeDesc} (hr : Region.ready md ops listed = [i]) (ho : ops[i]? = some o) (hw : Region.wanted o (yielded ops a.tmps) = true)
    (hop : o.op = .load ty x) (hx : a.eval x = .pointer (some ⟨b, off, none⟩)) (hc : w.rangeAt b off cs) (hu : P.underlying ty = some d) (hd : d.isRow = true) (hi : (P.info? ty).map (·.size) = some cs.length) (hS : S w)
    (h : wpAnyH P md ops Q S fuel (listed.setIfInBounds i true) (a.put o.dst (.agg cs.toArray)) w) : wpAnyH P md ops Q S (fuel + 1) listed a w :=
  wpAnyH_step hr ho hw fun _ hK => wp_load_mid ty x hop b off hx cs d hc hu hd hi (hK.out _ _ hS fun _ => h)
/-- the store of a row that comes next. -/
theorem wpAnyH_storemid {ty : TypeId} {x y : Operand} {b off : Nat} {cs : Array Value} (hr : Region.ready md ops listed = [i]) (ho : ops[i]? = some o) (hw : Region.wanted o (yielded ops a.tmps) = true)
    (hop : o.op = .store ty x y) (hx : a.eval x = .pointer (some ⟨b, off, none⟩)) (hy : a.eval y = .agg cs) (ht : w.there b off cs.size) (hi : (P.info? ty).map (·.size) = some cs.size) (h1 : cs.all (·.oneCell') = true)
    (hS : S (w.setCells b off cs.toList)) (h : wpAnyH P md ops Q S fuel (listed.setIfInBounds i true) (a.put o.dst undef) (w.setCells b off cs.toList)) : wpAnyH P md ops Q S (fuel + 1) listed a w :=
  wpAnyH_step hr ho hw fun _ hK => wp_store_mid ty x y hop b off cs hx hy ht hi h1 (hK.out _ _ hS fun _ => h)
end
end Go.Proofs.Ytapfbcpbiagogaa
