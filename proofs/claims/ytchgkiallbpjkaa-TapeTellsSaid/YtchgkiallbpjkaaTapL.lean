/-
  The region of tape.Turn that lays what is turned and the tape's rest: in whatever order. Nothing is asked but that the list lies where the slice points to.
-/
import Derived.Test.YtchgkiallbpjkaaTapN
import Derived.Test.YtchgkiallbpjkaaTapO
import Derived.Test.YtchgkiallbpjkaaKitInR
import Derived.Test.YtchgkiallbpjkaaOps
namespace Go.Proofs.Ytchgkiallbpjkaa
open Go.RowKit Go.Shelf

section
variable {P : Program} {md : Region.Mode} {ops : Array Oper} {Q : Exit → Act → World → Prop} {S : World → Prop} {fuel i : Nat} {listed : Array Bool} {a : Act} {w w' : World} {o : Oper}
/-- one of what may come up: a call. -/
theorem arm_call {f : FuncId} {args : Array Value} (hw : Region.wanted o (yielded ops a.tmps) = true) (hx : ∀ w, (execOp a.eval o).run P w = .ok (.enter f args) w)
    (h : Calls P f args w fun e w' => ∃ v, e = .returned v ∧ S w' ∧ wpAnyH P md ops Q S fuel (listed.setIfInBounds i true) (a.put o.dst v) w') :
    ∀ K' : Act → World → Prop, Shut (∀ a w, S w → (S w → wpAnyH P md ops Q S fuel (listed.setIfInBounds i true) a w) → K' a w) → if Region.wanted o (yielded ops a.tmps) = true then Oper.wp P o a w K' Q else K' (a.put o.dst undef) w := fun K' hK => by
  rw [if_pos hw]
  unfold Oper.wp
  rw [hx, Oper.upon_enter]
  exact h.mono fun e w' ⟨v, he, hS, hn⟩ => by subst he; exact hK.out _ _ hS fun _ => hn
/-- one that comes to a value. -/
theorem arm_value {v : Value} (hw : Region.wanted o (yielded ops a.tmps) = true) (hx : (execOp a.eval o).run P w = .ok (.value v) w') (hS : S w')
    (h : wpAnyH P md ops Q S fuel (listed.setIfInBounds i true) (a.put o.dst v) w') :
    ∀ K' : Act → World → Prop, Shut (∀ a w, S w → (S w → wpAnyH P md ops Q S fuel (listed.setIfInBounds i true) a w) → K' a w) → if Region.wanted o (yielded ops a.tmps) = true then Oper.wp P o a w K' Q else K' (a.put o.dst undef) w := fun K' hK => by
  rw [if_pos hw]
  unfold Oper.wp
  rw [hx]
  exact hK.out _ _ hS fun _ => h
/-- one that comes to nothing. -/
theorem arm_skip (hw : Region.wanted o (yielded ops a.tmps) = true) (hx : (execOp a.eval o).run P w = .ok .skip w') (hS : S w')
    (h : wpAnyH P md ops Q S fuel (listed.setIfInBounds i true) (a.put o.dst undef) w') :
    ∀ K' : Act → World → Prop, Shut (∀ a w, S w → (S w → wpAnyH P md ops Q S fuel (listed.setIfInBounds i true) a w) → K' a w) → if Region.wanted o (yielded ops a.tmps) = true then Oper.wp P o a w K' Q else K' (a.put o.dst undef) w := fun K' hK => by
  rw [if_pos hw]
  unfold Oper.wp
  rw [hx]
  exact hK.out _ _ hS fun _ => h
end
/-- where a turn stands: its own blocks, the list and the tape's place. -/
structure TurnAt (w : World) (B : ByteArray) (a : Int) (B7 B8 : Nat) (A' : Option Addr) (c' : Nat) (l : List Int) (b : Int) (W : World) : Prop where
  iA : Is W w.heap.size 23 #[.string B, .int .i64 a]
  iS : Is W (w.heap.size + 1) 24 #[.slice none 0 0]
  iT : Is W (w.heap.size + 1 + 1) 23 #[.string ⟨#[]⟩, .int .i64 0]
  iE : Is W (w.heap.size + 1 + 1 + 1) 31 #[.int .i64 0]
  i7 : Is W B7 24 #[.slice A' l.length c']
  i8 : Is W B8 23 #[.string B, .int .i64 b]
  own : RowD W w.heap.size A' c' l
  below : Below w.heap.size w W
  l7 : w.heap.size + 4 ≤ B7
  l8 : w.heap.size + 4 ≤ B8
theorem run_alloc7 (W : World) {o : Oper} {a : Act} (ho : o.op = .alloc 24) : (execOp a.eval o).run Try.prog W = .ok (.value (.pointer (some ⟨W.heap.size, 0, none⟩))) (W.alloc (.cells #[.slice none 0 0] 24)) := by
  simp only [execOp, ho]
  go_simp
theorem run_alloc8 (W : World) {o : Oper} {a : Act} (ho : o.op = .alloc 23) : (execOp a.eval o).run Try.prog W = .ok (.value (.pointer (some ⟨W.heap.size, 0, none⟩))) (W.alloc (.cells #[.string ⟨#[]⟩, .int .i64 0] 23)) := by
  simp only [execOp, ho]
  go_simp
theorem run_store_rowO {P : Program} {W : World} {o : Oper} {a : Act} {ty : TypeId} {x y : Operand} (ho : o.op = .store ty x y) {g : Nat} {t : TypeId} {old cs : Array Value} (hx : a.eval x = .pointer (some ⟨g, 0, none⟩)) (hy : a.eval y = .agg cs) (hg : Is W g t old) (hi : (P.info? ty).map (·.size) = some cs.size)
    (hs : old.size = cs.size) (h1 : cs.all (·.oneCell') = true) : (execOp a.eval o).run P W = .ok .skip (W.setRow g cs) := by
  simp only [execOp, ho, hx, hy, Instr.storeAt, Instr.sureAddr, Sem.run_bind, Sem.run_pure, Result.andThen_ok, run_storeVar_row W g t ty old cs hg hi hs h1]
theorem grownRow7 (w : World) (g : Nat) (cs : Array Value) : w.grownBy (w.setRow g cs) (some g) := ⟨rfl, rfl, rfl, by simp, fun k _ hne => setRow_other w g k cs (fun e => hne (by rw [e]))⟩
theorem RowD.rowFar {W : World} {base : Nat} {A : Option Addr} {c : Nat} {L : List Int} (h : RowD W base A c L) {g : Nat} {t : TypeId} {cs : Array Value} (hp : Is W g t cs) (ht : t ≠ 3) (v : Array Value) : RowD (W.setRow g v) base A c L :=
  h.grown (grownRow7 _ _ _) (fun r e => by cases e; exact ⟨t, cs, hp, ht⟩)

set_option maxRecDepth 100000 in
set_option maxHeartbeats 4000000 in
theorem turn_laid (B : ByteArray) (a : Int) (A : Option Addr) (cap : Nat) (L : List Int) (w W2 : World) (hL : L.length ≤ 1000) (hc : InL w A L)
    (iA2 : Is W2 w.heap.size 23 #[.string B, .int .i64 a]) (iS2 : Is W2 (w.heap.size + 1) 24 #[.slice none 0 0]) (iT2 : Is W2 (w.heap.size + 1 + 1) 23 #[.string ⟨#[]⟩, .int .i64 0]) (iE2 : Is W2 (w.heap.size + 1 + 1 + 1) 31 #[.int .i64 0]) (hB2 : Below w.heap.size w W2) :
    (Code.region 5 (opsOf Try.f19 5) true).wp Try.prog (fun e a' W => e = .normal ∧ ∃ B7 B8 A' c', a' = { tmps := #[.agg #[.string B, .int .i64 a], .slice A L.length cap, .pointer (some ⟨w.heap.size, 0, none⟩), undef, .pointer (some ⟨w.heap.size + 1, 0, none⟩), .pointer (some ⟨w.heap.size + 1 + 1, 0, none⟩), .pointer (some ⟨w.heap.size + 1 + 1 + 1, 0, none⟩), .pointer (some ⟨B7, 0, none⟩), .pointer (some ⟨B8, 0, none⟩), undef, undef, undef, undef, .agg #[.string B, .int .i64 a], .bool true, .bool false, undef, .slice A L.length cap, .int .i64 (L.length : Int), .bool (decide (1000 < (L.length : Int))), undef, .slice A L.length cap, .slice A' L.length c', .agg #[.string B, .int .i64 a], undef, undef, undef, undef, undef, undef, undef, undef, undef, undef, undef, undef, undef, undef, undef, undef, undef, undef, undef, undef, undef, undef, undef], defers := [] } ∧ TurnAt w B a B7 B8 A' c' L a W)
      { tmps := #[.agg #[.string B, .int .i64 a], .slice A L.length cap, .pointer (some ⟨w.heap.size, 0, none⟩), undef, .pointer (some ⟨w.heap.size + 1, 0, none⟩), .pointer (some ⟨w.heap.size + 1 + 1, 0, none⟩), .pointer (some ⟨w.heap.size + 1 + 1 + 1, 0, none⟩), undef, undef, undef, undef, undef, undef, .agg #[.string B, .int .i64 a], .bool true, .bool false, undef, .slice A L.length cap, .int .i64 (L.length : Int), .bool (decide (1000 < (L.length : Int))), undef, undef, undef, undef, undef, undef, undef, undef, undef, undef, undef, undef, undef, undef, undef, undef, undef, undef, undef, undef, undef, undef, undef, undef, undef, undef, undef], defers := [] } W2 := by
  have HC := Lib.hid (fun W (hb : Below w.heap.size w W) => clone7_any A cap L W hL (hc.keep hb))
  clear hc
  have l2 := iE2.lt
  refine wp_region_held_drew (S := fun W => Is W w.heap.size 23 #[.string B, .int .i64 a]) (by kernel_rfl) (iA2.drewN 1) (fun hS => ?_)
  change wpAnyH _ _ (opsOf Try.f19 5) _ _ 7 (Array.replicate 7 false) _ _
  refine wpAnyH_pure (i := 0) (o := { dst := some 21, op := Op.move (Operand.tmp 1), type := 24, pos := "tape.go:61", after := #[], guard := none }) (v := .slice A L.length cap) (by kernel_rfl) (by kernel_rfl) (by kernel_rfl) (by kernel_rfl) (fun _ _ _ h => nomatch h.1) (by kernel_rfl) (fun wy hSw => by kernel_rfl) hS ?_
  simp only [Act.put, List.setIfInBounds_toArray, List.set_cons_succ, List.set_cons_zero]
  refine wpAnyH_pure (i := 2) (o := { dst := some 23, op := Op.load 23 (Operand.tmp 2), type := 23, pos := "tape.go:61", after := #[{ on := 5, ground := Ground.gcOnly Departure.lateStores }], guard := none }) (v := .agg #[.string B, .int .i64 a]) (by kernel_rfl) (by kernel_rfl) (by kernel_rfl) (by kernel_rfl) (fun _ _ _ h => nomatch h.1) (by kernel_rfl) (fun wy hSw => by (have c0 : wy.cell? ⟨w.heap.size, 0, none⟩ = some (.string B) := Is.cell hSw 0; have c1 : wy.cell? ⟨w.heap.size, 1, none⟩ = some (.int .i64 a) := Is.cell hSw 1; go_simp)) hS ?_
  simp only [Act.put, List.setIfInBounds_toArray, List.set_cons_succ, List.set_cons_zero]
  have TAIL : ∀ (W : World) (B7 B8 : Nat) (A' : Option Addr) (c' : Nat), Is W w.heap.size 23 #[.string B, .int .i64 a] → Is W (w.heap.size + 1) 24 #[.slice none 0 0] → Is W (w.heap.size + 1 + 1) 23 #[.string ⟨#[]⟩, .int .i64 0] → Is W (w.heap.size + 1 + 1 + 1) 31 #[.int .i64 0] →
      Is W B7 24 #[.slice none 0 0] → Is W B8 23 #[.string ⟨#[]⟩, .int .i64 0] → RowD W w.heap.size A' c' L → Below w.heap.size w W → W2.heap.size ≤ B7 → W2.heap.size ≤ B8 →
      wpAnyH Try.prog .any (opsOf Try.f19 5) (fun e a' W => e = .normal ∧ ∃ B7 B8 A' c', a' = { tmps := #[.agg #[.string B, .int .i64 a], .slice A L.length cap, .pointer (some ⟨w.heap.size, 0, none⟩), undef, .pointer (some ⟨w.heap.size + 1, 0, none⟩), .pointer (some ⟨w.heap.size + 1 + 1, 0, none⟩), .pointer (some ⟨w.heap.size + 1 + 1 + 1, 0, none⟩), .pointer (some ⟨B7, 0, none⟩), .pointer (some ⟨B8, 0, none⟩), undef, undef, undef, undef, .agg #[.string B, .int .i64 a], .bool true, .bool false, undef, .slice A L.length cap, .int .i64 (L.length : Int), .bool (decide (1000 < (L.length : Int))), undef, .slice A L.length cap, .slice A' L.length c', .agg #[.string B, .int .i64 a], undef, undef, undef, undef, undef, undef, undef, undef, undef, undef, undef, undef, undef, undef, undef, undef, undef, undef, undef, undef, undef, undef, undef], defers := [] } ∧ TurnAt w B a B7 B8 A' c' L a W) (fun W => Is W w.heap.size 23 #[.string B, .int .i64 a]) 2 #[true, true, true, true, true, false, false] { tmps := #[.agg #[.string B, .int .i64 a], .slice A L.length cap, .pointer (some ⟨w.heap.size, 0, none⟩), undef, .pointer (some ⟨w.heap.size + 1, 0, none⟩), .pointer (some ⟨w.heap.size + 1 + 1, 0, none⟩), .pointer (some ⟨w.heap.size + 1 + 1 + 1, 0, none⟩), .pointer (some ⟨B7, 0, none⟩), .pointer (some ⟨B8, 0, none⟩), undef, undef, undef, undef, .agg #[.string B, .int .i64 a], .bool true, .bool false, undef, .slice A L.length cap, .int .i64 (L.length : Int), .bool (decide (1000 < (L.length : Int))), undef, .slice A L.length cap, .slice A' L.length c', .agg #[.string B, .int .i64 a], undef, undef, undef, undef, undef, undef, undef, undef, undef, undef, undef, undef, undef, undef, undef, undef, undef, undef, undef, undef, undef, undef, undef], defers := [] } W := by
    intro W B7 B8 A' c' iA iS iT iE i7 i8 hO hB l7 l8
    have n7S : w.heap.size + 1 ≠ B7 := by omega
    have n8A : w.heap.size ≠ B8 := by omega
    have n8T : w.heap.size + 1 + 1 ≠ B8 := by omega
    have nA7 := is_ne iA i7 (by decide)
    have nT7 := is_ne iT i7 (by decide)
    have nE7 := is_ne iE i7 (by decide)
    have n87 := is_ne i8 i7 (by decide)
    have nS8 := is_ne iS i8 (by decide)
    have nE8 := is_ne iE i8 (by decide)
    have n78 := is_ne i7 i8 (by decide)
    have j7 := i7.row #[.slice A' L.length c']
    have jA := iA.rowFar nA7 #[.slice A' L.length c']
    have j8 := i8.rowFar n87 #[.slice A' L.length c']
    have jO := hO.rowFar i7 (by decide) #[.slice A' L.length c']
    refine wpAnyH_ready (by kernel_rfl) (by simp) (AllReadyH.cons (i := 5) (o := { dst := none, op := Op.store 24 (Operand.tmp 7) (Operand.tmp 22), type := 0, pos := "tape.go:61", after := #[{ on := 3, ground := Ground.data }, { on := 1, ground := Ground.data }, { on := 1, ground := Ground.chain }, { on := 0, ground := Ground.phase }, { on := 1, ground := Ground.phase }, { on := 2, ground := Ground.textOnly Departure.lateStores }, { on := 3, ground := Ground.phase }, { on := 4, ground := Ground.phase }], guard := none }) (by kernel_rfl) (arm_skip (by kernel_rfl) (run_store_oneO (ty := 24) (x := .tmp 7) (y := .tmp 22) (v := .slice A' L.length c') (by kernel_rfl) (by kernel_rfl) (by kernel_rfl) i7 (by kernel_rfl) (by kernel_rfl)) jA ?_) AllReadyH.nil)
    try simp only [Act.put]
    refine wpAnyH_ready (by kernel_rfl) (by simp) (AllReadyH.cons (i := 6) (o := { dst := none, op := Op.store 23 (Operand.tmp 8) (Operand.tmp 23), type := 0, pos := "tape.go:61", after := #[{ on := 4, ground := Ground.data }, { on := 2, ground := Ground.data }, { on := 5, ground := Ground.chain }, { on := 0, ground := Ground.phase }, { on := 1, ground := Ground.phase }, { on := 2, ground := Ground.phase }, { on := 3, ground := Ground.phase }, { on := 4, ground := Ground.phase }, { on := 5, ground := Ground.phase }], guard := none }) (by kernel_rfl) (arm_skip (by kernel_rfl) (run_store_rowO (ty := 23) (x := .tmp 8) (y := .tmp 23) (cs := #[.string B, .int .i64 a]) (by kernel_rfl) (by kernel_rfl) (by kernel_rfl) j8 infoTape rfl (by kernel_rfl)) (jA.rowFar n8A _) ?_) AllReadyH.nil)
    try simp only [Act.put]
    refine wpAnyH_done (by kernel_rfl) ?_ _
    exact ⟨rfl, B7, B8, A', c', rfl, ⟨jA.rowFar n8A _, (iS.rowFar n7S _).rowFar nS8 _, (iT.rowFar nT7 _).rowFar n8T _, (iE.rowFar nE7 _).rowFar nE8 _, j7.rowFar n78 _, j8.row _, jO.rowFar j8 (by decide) _, belowRow (belowRow hB (by omega) _) (by omega) _, by omega, by omega⟩⟩
  have iA := iA2.drewN 1
  have iS := iS2.drewN 1
  have iT := iT2.drewN 1
  have iE := iE2.drewN 1
  have hB := belowN hB2 1
  have hl : W2.heap.size ≤ (W2.drewN 1).heap.size := Nat.le_refl _
  clear iA2 iS2 iT2 iE2 hB2 hS
  change wpAnyH _ _ _ _ _ _ _ _ (W2.drewN 1)
  refine wpAnyH_ready (by kernel_rfl) (by simp) (AllReadyH.cons (i := 1) (o := { dst := some 22, op := Op.call { callee := Callee.value (Operand.func 22), args := #[Operand.tmp 21], argTypes := #[24] }, type := 24, pos := "tape.go:61", after := #[{ on := 0, ground := Ground.data }], guard := none }) (by kernel_rfl) ?_ (AllReadyH.cons (i := 3) (o := { dst := some 7, op := Op.alloc 24, type := 0, pos := "tape.go:61", after := #[], guard := none }) (by kernel_rfl) ?_ (AllReadyH.cons (i := 4) (o := { dst := some 8, op := Op.alloc 23, type := 0, pos := "tape.go:61", after := #[], guard := none }) (by kernel_rfl) ?_ (AllReadyH.nil))))
  · refine arm_call (by kernel_rfl) (fun wy => by kernel_rfl) ((HC.out _ hB).mono ?_)
    rintro e Wc ⟨A', c', rfl, hO0, hb⟩
    have hO : RowD Wc w.heap.size A' c' L := own_base hO0 hB.size
    replace iA := iA.below hb iA.lt
    replace iS := iS.below hb iS.lt
    replace iT := iT.below hb iT.lt
    replace iE := iE.below hb iE.lt
    replace hl := Nat.le_trans hl hb.size
    replace hB := hB.trans (hb.mono hB.size)
    clear hO0 hb
    refine ⟨_, rfl, iA, ?_⟩
    simp only [Act.put, List.setIfInBounds_toArray, List.set_cons_succ, List.set_cons_zero]
    refine wpAnyH_ready (by kernel_rfl) (by simp) (AllReadyH.cons (i := 3) (o := { dst := some 7, op := Op.alloc 24, type := 0, pos := "tape.go:61", after := #[], guard := none }) (by kernel_rfl) ?_ (AllReadyH.cons (i := 4) (o := { dst := some 8, op := Op.alloc 23, type := 0, pos := "tape.go:61", after := #[], guard := none }) (by kernel_rfl) ?_ (AllReadyH.nil)))
    · refine arm_value (by kernel_rfl) (run_alloc7 _ (by kernel_rfl)) (iA.alloc _) ?_
      simp only [Act.put, List.setIfInBounds_toArray, List.set_cons_succ, List.set_cons_zero]
      replace iA := iA.alloc (.cells #[.slice none 0 0] 24)
      replace iS := iS.alloc (.cells #[.slice none 0 0] 24)
      replace iT := iT.alloc (.cells #[.slice none 0 0] 24)
      replace iE := iE.alloc (.cells #[.slice none 0 0] 24)
      replace hO := hO.grown (World.grownBy_alloc _ (.cells #[.slice none 0 0] 24) none) (fun r e => by cases e)
      have i7 := Is.new (Wc) 24 #[.slice none 0 0]
      have l7 := hl
      replace hB := hB.alloc hB.size (.cells #[.slice none 0 0] 24)
      replace hl := Nat.le_trans hl (by have h0 := World.size_alloc (Wc) (.cells #[.slice none 0 0] 24); omega : _ ≤ (World.alloc (Wc) (.cells #[.slice none 0 0] 24)).heap.size)
      refine wpAnyH_ready (by kernel_rfl) (by simp) (AllReadyH.cons (i := 4) (o := { dst := some 8, op := Op.alloc 23, type := 0, pos := "tape.go:61", after := #[], guard := none }) (by kernel_rfl) ?_ (AllReadyH.nil))
      · refine arm_value (by kernel_rfl) (run_alloc8 _ (by kernel_rfl)) (iA.alloc _) ?_
        simp only [Act.put, List.setIfInBounds_toArray, List.set_cons_succ, List.set_cons_zero]
        replace iA := iA.alloc (.cells #[.string ⟨#[]⟩, .int .i64 0] 23)
        replace iS := iS.alloc (.cells #[.string ⟨#[]⟩, .int .i64 0] 23)
        replace iT := iT.alloc (.cells #[.string ⟨#[]⟩, .int .i64 0] 23)
        replace iE := iE.alloc (.cells #[.string ⟨#[]⟩, .int .i64 0] 23)
        replace i7 := i7.alloc (.cells #[.string ⟨#[]⟩, .int .i64 0] 23)
        replace hO := hO.grown (World.grownBy_alloc _ (.cells #[.string ⟨#[]⟩, .int .i64 0] 23) none) (fun r e => by cases e)
        have i8 := Is.new ((Wc).alloc (.cells #[.slice none 0 0] 24)) 23 #[.string ⟨#[]⟩, .int .i64 0]
        have l8 := hl
        replace hB := hB.alloc hB.size (.cells #[.string ⟨#[]⟩, .int .i64 0] 23)
        replace hl := Nat.le_trans hl (by have h0 := World.size_alloc ((Wc).alloc (.cells #[.slice none 0 0] 24)) (.cells #[.string ⟨#[]⟩, .int .i64 0] 23); omega : _ ≤ (World.alloc ((Wc).alloc (.cells #[.slice none 0 0] 24)) (.cells #[.string ⟨#[]⟩, .int .i64 0] 23)).heap.size)
        exact TAIL _ _ _ _ _ iA iS iT iE i7 i8 hO hB l7 l8
    · refine arm_value (by kernel_rfl) (run_alloc8 _ (by kernel_rfl)) (iA.alloc _) ?_
      simp only [Act.put, List.setIfInBounds_toArray, List.set_cons_succ, List.set_cons_zero]
      replace iA := iA.alloc (.cells #[.string ⟨#[]⟩, .int .i64 0] 23)
      replace iS := iS.alloc (.cells #[.string ⟨#[]⟩, .int .i64 0] 23)
      replace iT := iT.alloc (.cells #[.string ⟨#[]⟩, .int .i64 0] 23)
      replace iE := iE.alloc (.cells #[.string ⟨#[]⟩, .int .i64 0] 23)
      replace hO := hO.grown (World.grownBy_alloc _ (.cells #[.string ⟨#[]⟩, .int .i64 0] 23) none) (fun r e => by cases e)
      have i8 := Is.new (Wc) 23 #[.string ⟨#[]⟩, .int .i64 0]
      have l8 := hl
      replace hB := hB.alloc hB.size (.cells #[.string ⟨#[]⟩, .int .i64 0] 23)
      replace hl := Nat.le_trans hl (by have h0 := World.size_alloc (Wc) (.cells #[.string ⟨#[]⟩, .int .i64 0] 23); omega : _ ≤ (World.alloc (Wc) (.cells #[.string ⟨#[]⟩, .int .i64 0] 23)).heap.size)
      refine wpAnyH_ready (by kernel_rfl) (by simp) (AllReadyH.cons (i := 3) (o := { dst := some 7, op := Op.alloc 24, type := 0, pos := "tape.go:61", after := #[], guard := none }) (by kernel_rfl) ?_ (AllReadyH.nil))
      · refine arm_value (by kernel_rfl) (run_alloc7 _ (by kernel_rfl)) (iA.alloc _) ?_
        simp only [Act.put, List.setIfInBounds_toArray, List.set_cons_succ, List.set_cons_zero]
        replace iA := iA.alloc (.cells #[.slice none 0 0] 24)
        replace iS := iS.alloc (.cells #[.slice none 0 0] 24)
        replace iT := iT.alloc (.cells #[.slice none 0 0] 24)
        replace iE := iE.alloc (.cells #[.slice none 0 0] 24)
        replace i8 := i8.alloc (.cells #[.slice none 0 0] 24)
        replace hO := hO.grown (World.grownBy_alloc _ (.cells #[.slice none 0 0] 24) none) (fun r e => by cases e)
        have i7 := Is.new ((Wc).alloc (.cells #[.string ⟨#[]⟩, .int .i64 0] 23)) 24 #[.slice none 0 0]
        have l7 := hl
        replace hB := hB.alloc hB.size (.cells #[.slice none 0 0] 24)
        replace hl := Nat.le_trans hl (by have h0 := World.size_alloc ((Wc).alloc (.cells #[.string ⟨#[]⟩, .int .i64 0] 23)) (.cells #[.slice none 0 0] 24); omega : _ ≤ (World.alloc ((Wc).alloc (.cells #[.string ⟨#[]⟩, .int .i64 0] 23)) (.cells #[.slice none 0 0] 24)).heap.size)
        exact TAIL _ _ _ _ _ iA iS iT iE i7 i8 hO hB l7 l8
  · refine arm_value (by kernel_rfl) (run_alloc7 _ (by kernel_rfl)) (iA.alloc _) ?_
    simp only [Act.put, List.setIfInBounds_toArray, List.set_cons_succ, List.set_cons_zero]
    replace iA := iA.alloc (.cells #[.slice none 0 0] 24)
    replace iS := iS.alloc (.cells #[.slice none 0 0] 24)
    replace iT := iT.alloc (.cells #[.slice none 0 0] 24)
    replace iE := iE.alloc (.cells #[.slice none 0 0] 24)
    have i7 := Is.new (W2.drewN 1) 24 #[.slice none 0 0]
    have l7 := hl
    replace hB := hB.alloc hB.size (.cells #[.slice none 0 0] 24)
    replace hl := Nat.le_trans hl (by have h0 := World.size_alloc (W2.drewN 1) (.cells #[.slice none 0 0] 24); omega : _ ≤ (World.alloc (W2.drewN 1) (.cells #[.slice none 0 0] 24)).heap.size)
    refine wpAnyH_ready (by kernel_rfl) (by simp) (AllReadyH.cons (i := 1) (o := { dst := some 22, op := Op.call { callee := Callee.value (Operand.func 22), args := #[Operand.tmp 21], argTypes := #[24] }, type := 24, pos := "tape.go:61", after := #[{ on := 0, ground := Ground.data }], guard := none }) (by kernel_rfl) ?_ (AllReadyH.cons (i := 4) (o := { dst := some 8, op := Op.alloc 23, type := 0, pos := "tape.go:61", after := #[], guard := none }) (by kernel_rfl) ?_ (AllReadyH.nil)))
    · refine arm_call (by kernel_rfl) (fun wy => by kernel_rfl) ((HC.out _ hB).mono ?_)
      rintro e Wc ⟨A', c', rfl, hO0, hb⟩
      have hO : RowD Wc w.heap.size A' c' L := own_base hO0 hB.size
      replace iA := iA.below hb iA.lt
      replace iS := iS.below hb iS.lt
      replace iT := iT.below hb iT.lt
      replace iE := iE.below hb iE.lt
      replace i7 := i7.below hb i7.lt
      replace hl := Nat.le_trans hl hb.size
      replace hB := hB.trans (hb.mono hB.size)
      clear hO0 hb
      refine ⟨_, rfl, iA, ?_⟩
      simp only [Act.put, List.setIfInBounds_toArray, List.set_cons_succ, List.set_cons_zero]
      refine wpAnyH_ready (by kernel_rfl) (by simp) (AllReadyH.cons (i := 4) (o := { dst := some 8, op := Op.alloc 23, type := 0, pos := "tape.go:61", after := #[], guard := none }) (by kernel_rfl) ?_ (AllReadyH.nil))
      · refine arm_value (by kernel_rfl) (run_alloc8 _ (by kernel_rfl)) (iA.alloc _) ?_
        simp only [Act.put, List.setIfInBounds_toArray, List.set_cons_succ, List.set_cons_zero]
        replace iA := iA.alloc (.cells #[.string ⟨#[]⟩, .int .i64 0] 23)
        replace iS := iS.alloc (.cells #[.string ⟨#[]⟩, .int .i64 0] 23)
        replace iT := iT.alloc (.cells #[.string ⟨#[]⟩, .int .i64 0] 23)
        replace iE := iE.alloc (.cells #[.string ⟨#[]⟩, .int .i64 0] 23)
        replace i7 := i7.alloc (.cells #[.string ⟨#[]⟩, .int .i64 0] 23)
        replace hO := hO.grown (World.grownBy_alloc _ (.cells #[.string ⟨#[]⟩, .int .i64 0] 23) none) (fun r e => by cases e)
        have i8 := Is.new (Wc) 23 #[.string ⟨#[]⟩, .int .i64 0]
        have l8 := hl
        replace hB := hB.alloc hB.size (.cells #[.string ⟨#[]⟩, .int .i64 0] 23)
        replace hl := Nat.le_trans hl (by have h0 := World.size_alloc (Wc) (.cells #[.string ⟨#[]⟩, .int .i64 0] 23); omega : _ ≤ (World.alloc (Wc) (.cells #[.string ⟨#[]⟩, .int .i64 0] 23)).heap.size)
        exact TAIL _ _ _ _ _ iA iS iT iE i7 i8 hO hB l7 l8
    · refine arm_value (by kernel_rfl) (run_alloc8 _ (by kernel_rfl)) (iA.alloc _) ?_
      simp only [Act.put, List.setIfInBounds_toArray, List.set_cons_succ, List.set_cons_zero]
      replace iA := iA.alloc (.cells #[.string ⟨#[]⟩, .int .i64 0] 23)
      replace iS := iS.alloc (.cells #[.string ⟨#[]⟩, .int .i64 0] 23)
      replace iT := iT.alloc (.cells #[.string ⟨#[]⟩, .int .i64 0] 23)
      replace iE := iE.alloc (.cells #[.string ⟨#[]⟩, .int .i64 0] 23)
      replace i7 := i7.alloc (.cells #[.string ⟨#[]⟩, .int .i64 0] 23)
      have i8 := Is.new ((W2.drewN 1).alloc (.cells #[.slice none 0 0] 24)) 23 #[.string ⟨#[]⟩, .int .i64 0]
      have l8 := hl
      replace hB := hB.alloc hB.size (.cells #[.string ⟨#[]⟩, .int .i64 0] 23)
      replace hl := Nat.le_trans hl (by have h0 := World.size_alloc ((W2.drewN 1).alloc (.cells #[.slice none 0 0] 24)) (.cells #[.string ⟨#[]⟩, .int .i64 0] 23); omega : _ ≤ (World.alloc ((W2.drewN 1).alloc (.cells #[.slice none 0 0] 24)) (.cells #[.string ⟨#[]⟩, .int .i64 0] 23)).heap.size)
      refine wpAnyH_ready (by kernel_rfl) (by simp) (AllReadyH.cons (i := 1) (o := { dst := some 22, op := Op.call { callee := Callee.value (Operand.func 22), args := #[Operand.tmp 21], argTypes := #[24] }, type := 24, pos := "tape.go:61", after := #[{ on := 0, ground := Ground.data }], guard := none }) (by kernel_rfl) ?_ (AllReadyH.nil))
      · refine arm_call (by kernel_rfl) (fun wy => by kernel_rfl) ((HC.out _ hB).mono ?_)
        rintro e Wc ⟨A', c', rfl, hO0, hb⟩
        have hO : RowD Wc w.heap.size A' c' L := own_base hO0 hB.size
        replace iA := iA.below hb iA.lt
        replace iS := iS.below hb iS.lt
        replace iT := iT.below hb iT.lt
        replace iE := iE.below hb iE.lt
        replace i7 := i7.below hb i7.lt
        replace i8 := i8.below hb i8.lt
        replace hl := Nat.le_trans hl hb.size
        replace hB := hB.trans (hb.mono hB.size)
        clear hO0 hb
        refine ⟨_, rfl, iA, ?_⟩
        simp only [Act.put, List.setIfInBounds_toArray, List.set_cons_succ, List.set_cons_zero]
        exact TAIL _ _ _ _ _ iA iS iT iE i7 i8 hO hB l7 l8
  · refine arm_value (by kernel_rfl) (run_alloc8 _ (by kernel_rfl)) (iA.alloc _) ?_
    simp only [Act.put, List.setIfInBounds_toArray, List.set_cons_succ, List.set_cons_zero]
    replace iA := iA.alloc (.cells #[.string ⟨#[]⟩, .int .i64 0] 23)
    replace iS := iS.alloc (.cells #[.string ⟨#[]⟩, .int .i64 0] 23)
    replace iT := iT.alloc (.cells #[.string ⟨#[]⟩, .int .i64 0] 23)
    replace iE := iE.alloc (.cells #[.string ⟨#[]⟩, .int .i64 0] 23)
    have i8 := Is.new (W2.drewN 1) 23 #[.string ⟨#[]⟩, .int .i64 0]
    have l8 := hl
    replace hB := hB.alloc hB.size (.cells #[.string ⟨#[]⟩, .int .i64 0] 23)
    replace hl := Nat.le_trans hl (by have h0 := World.size_alloc (W2.drewN 1) (.cells #[.string ⟨#[]⟩, .int .i64 0] 23); omega : _ ≤ (World.alloc (W2.drewN 1) (.cells #[.string ⟨#[]⟩, .int .i64 0] 23)).heap.size)
    refine wpAnyH_ready (by kernel_rfl) (by simp) (AllReadyH.cons (i := 1) (o := { dst := some 22, op := Op.call { callee := Callee.value (Operand.func 22), args := #[Operand.tmp 21], argTypes := #[24] }, type := 24, pos := "tape.go:61", after := #[{ on := 0, ground := Ground.data }], guard := none }) (by kernel_rfl) ?_ (AllReadyH.cons (i := 3) (o := { dst := some 7, op := Op.alloc 24, type := 0, pos := "tape.go:61", after := #[], guard := none }) (by kernel_rfl) ?_ (AllReadyH.nil)))
    · refine arm_call (by kernel_rfl) (fun wy => by kernel_rfl) ((HC.out _ hB).mono ?_)
      rintro e Wc ⟨A', c', rfl, hO0, hb⟩
      have hO : RowD Wc w.heap.size A' c' L := own_base hO0 hB.size
      replace iA := iA.below hb iA.lt
      replace iS := iS.below hb iS.lt
      replace iT := iT.below hb iT.lt
      replace iE := iE.below hb iE.lt
      replace i8 := i8.below hb i8.lt
      replace hl := Nat.le_trans hl hb.size
      replace hB := hB.trans (hb.mono hB.size)
      clear hO0 hb
      refine ⟨_, rfl, iA, ?_⟩
      simp only [Act.put, List.setIfInBounds_toArray, List.set_cons_succ, List.set_cons_zero]
      refine wpAnyH_ready (by kernel_rfl) (by simp) (AllReadyH.cons (i := 3) (o := { dst := some 7, op := Op.alloc 24, type := 0, pos := "tape.go:61", after := #[], guard := none }) (by kernel_rfl) ?_ (AllReadyH.nil))
      · refine arm_value (by kernel_rfl) (run_alloc7 _ (by kernel_rfl)) (iA.alloc _) ?_
        simp only [Act.put, List.setIfInBounds_toArray, List.set_cons_succ, List.set_cons_zero]
        replace iA := iA.alloc (.cells #[.slice none 0 0] 24)
        replace iS := iS.alloc (.cells #[.slice none 0 0] 24)
        replace iT := iT.alloc (.cells #[.slice none 0 0] 24)
        replace iE := iE.alloc (.cells #[.slice none 0 0] 24)
        replace i8 := i8.alloc (.cells #[.slice none 0 0] 24)
        replace hO := hO.grown (World.grownBy_alloc _ (.cells #[.slice none 0 0] 24) none) (fun r e => by cases e)
        have i7 := Is.new (Wc) 24 #[.slice none 0 0]
        have l7 := hl
        replace hB := hB.alloc hB.size (.cells #[.slice none 0 0] 24)
        replace hl := Nat.le_trans hl (by have h0 := World.size_alloc (Wc) (.cells #[.slice none 0 0] 24); omega : _ ≤ (World.alloc (Wc) (.cells #[.slice none 0 0] 24)).heap.size)
        exact TAIL _ _ _ _ _ iA iS iT iE i7 i8 hO hB l7 l8
    · refine arm_value (by kernel_rfl) (run_alloc7 _ (by kernel_rfl)) (iA.alloc _) ?_
      simp only [Act.put, List.setIfInBounds_toArray, List.set_cons_succ, List.set_cons_zero]
      replace iA := iA.alloc (.cells #[.slice none 0 0] 24)
      replace iS := iS.alloc (.cells #[.slice none 0 0] 24)
      replace iT := iT.alloc (.cells #[.slice none 0 0] 24)
      replace iE := iE.alloc (.cells #[.slice none 0 0] 24)
      replace i8 := i8.alloc (.cells #[.slice none 0 0] 24)
      have i7 := Is.new ((W2.drewN 1).alloc (.cells #[.string ⟨#[]⟩, .int .i64 0] 23)) 24 #[.slice none 0 0]
      have l7 := hl
      replace hB := hB.alloc hB.size (.cells #[.slice none 0 0] 24)
      replace hl := Nat.le_trans hl (by have h0 := World.size_alloc ((W2.drewN 1).alloc (.cells #[.string ⟨#[]⟩, .int .i64 0] 23)) (.cells #[.slice none 0 0] 24); omega : _ ≤ (World.alloc ((W2.drewN 1).alloc (.cells #[.string ⟨#[]⟩, .int .i64 0] 23)) (.cells #[.slice none 0 0] 24)).heap.size)
      refine wpAnyH_ready (by kernel_rfl) (by simp) (AllReadyH.cons (i := 1) (o := { dst := some 22, op := Op.call { callee := Callee.value (Operand.func 22), args := #[Operand.tmp 21], argTypes := #[24] }, type := 24, pos := "tape.go:61", after := #[{ on := 0, ground := Ground.data }], guard := none }) (by kernel_rfl) ?_ (AllReadyH.nil))
      · refine arm_call (by kernel_rfl) (fun wy => by kernel_rfl) ((HC.out _ hB).mono ?_)
        rintro e Wc ⟨A', c', rfl, hO0, hb⟩
        have hO : RowD Wc w.heap.size A' c' L := own_base hO0 hB.size
        replace iA := iA.below hb iA.lt
        replace iS := iS.below hb iS.lt
        replace iT := iT.below hb iT.lt
        replace iE := iE.below hb iE.lt
        replace i7 := i7.below hb i7.lt
        replace i8 := i8.below hb i8.lt
        replace hl := Nat.le_trans hl hb.size
        replace hB := hB.trans (hb.mono hB.size)
        clear hO0 hb
        refine ⟨_, rfl, iA, ?_⟩
        simp only [Act.put, List.setIfInBounds_toArray, List.set_cons_succ, List.set_cons_zero]
        exact TAIL _ _ _ _ _ iA iS iT iE i7 i8 hO hB l7 l8
end Go.Proofs.Ytchgkiallbpjkaa
