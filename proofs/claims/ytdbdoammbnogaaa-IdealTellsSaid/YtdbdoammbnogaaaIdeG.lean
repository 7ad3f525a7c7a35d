/-
  Layer 8: contracts of ideal.clashes and ideal.Right, the program's. Condition: the ideal's lists lie where its slices point to.
-/
import Derived.Test.YtdbdoammbnogaaaIdeF
import Derived.Test.YtdbdoammbnogaaaGKit
namespace Go.Proofs.Ytdbdoammbnogaaa
open Go.RowKit Go.Shelf

theorem exec_load {P : Program} {w : World} {o : Oper} {ev : Operand → Value} {ty : TypeId} {x : Operand} {p : Addr} {v : Value} (ho : o.op = .load ty x) (hx : ev x = .pointer (some p)) (hv : (loadVar ty p).run P w = .ok v w) : (execOp ev o).run P w = .ok (.value v) w := by
  simp only [execOp, ho, hx, Instr.loadAt, Instr.sureAddr, Sem.run_bind, Sem.run_pure, Result.andThen_ok, hv]
theorem twice_out {N : List Nam8} : twice8 ((N.map outN).map Prod.fst) = pairs8 sameOut N := by
  induction N with
  | nil => rfl
  | cons x r ih =>
    show (((r.map outN).map Prod.fst).any (fun y => decide (x.2 = y)) || twice8 ((r.map outN).map Prod.fst)) = (r.any (sameOut x) || pairs8 sameOut r)
    rw [ih]
    congr 1
    simp [outN, Function.comp_def]
    rfl
theorem twice_in {N : List Nam8} : twice8 (N.map Prod.fst) = pairs8 sameIn N := by
  induction N with
  | nil => rfl
  | cons x r ih =>
    show ((r.map Prod.fst).any (fun y => decide (x.1 = y)) || twice8 (r.map Prod.fst)) = (r.any (sameIn x) || pairs8 sameIn r)
    rw [ih]
    congr 1
    simp [Function.comp_def]
    rfl
theorem twice_ask {K : List Cel8} : twice8 ((K.map askK).map Prod.fst) = pairs8 sameAsk K := by
  induction K with
  | nil => rfl
  | cons x r ih =>
    show (((r.map askK).map Prod.fst).any (fun y => decide ((x.1, x.2.1) = y)) || twice8 ((r.map askK).map Prod.fst)) = (r.any (sameAsk x) || pairs8 sameAsk r)
    rw [ih]
    congr 1
    simp [askK, Function.comp_def]
    rfl
theorem twice_opn {K : List Cel8} : twice8 ((K.map opnK).map Prod.fst) = pairs8 sameCel K := by
  induction K with
  | nil => rfl
  | cons x r ih =>
    show (((r.map opnK).map Prod.fst).any (fun y => decide ((x.1, x.2.2) = y)) || twice8 ((r.map opnK).map Prod.fst)) = (r.any (sameCel x) || pairs8 sameCel r)
    rw [ih]
    congr 1
    simp [opnK, Function.comp_def]
    rfl
theorem sized8_N {d : Ide} (h : sized8 d = true) : d.N.all okN = true := by
  simp only [sized8, Bool.and_eq_true] at h
  exact h.2.1
theorem sized8_K {d : Ide} (h : sized8 d = true) : d.K.all okK = true := by
  simp only [sized8, Bool.and_eq_true] at h
  exact h.2.2
theorem okN_max {N : List Nam8} (h : N.all okN = true) {x : Nam8} (hx : x ∈ N) : x.1.size ≤ maxLen ∧ x.2.size ≤ maxLen := by
  have h1 := List.all_eq_true.1 h x hx
  obtain ⟨e1, e2⟩ := okN_iff.1 h1
  unfold maxLen
  omega
theorem okK_max {K : List Cel8} (h : K.all okK = true) {x : Cel8} (hx : x ∈ K) : x.1.size ≤ maxLen ∧ x.2.1.size ≤ maxLen ∧ x.2.2.size ≤ maxLen := by
  have h1 := List.all_eq_true.1 h x hx
  obtain ⟨e1, e2, e3⟩ := okK_iff.1 h1
  unfold maxLen
  omega
section
variable {w W : World} {d : Ide} {A : Option Addr} {c : Nat} {A' : Option Addr} {c' : Nat} (h : InI w d A c A' c') (Bd : Nat) (hb : Below w.heap.size w W) (hBd : Is W Bd 30 (ideL d A c A' c'))
include h hb hBd
theorem InI.twO (hn : d.N.all okN = true) (m : Int) {v : Bool} (hv : pairs8 sameOut d.N = v) : Calls Try.prog 37 #[.func (.func 48) #[] #[.pointer (some ⟨Bd, 0, none⟩)], .int .i64 m] W fun e w' => e = .returned (.bool v) ∧ Below W.heap.size W w' := by
  have := twiceS_any 48 #[.pointer (some ⟨Bd, 0, none⟩)] (d.N.map outN) m W (enters_of Try.func48 (by kernel_rfl) rfl) (h.seqO 4 Bd hb hBd (by omega))
    (fun x hx => by obtain ⟨y, hy, rfl⟩ := List.mem_map.1 hx; exact (okN_max hn hy).2) (by have := h.fit; rw [List.length_map]; unfold maxLen; omega)
  rwa [twice_out, hv] at this
theorem InI.twN (hn : d.N.all okN = true) (m : Int) {v : Bool} (hv : pairs8 sameIn d.N = v) : Calls Try.prog 37 #[.func (.func 44) #[] #[.pointer (some ⟨Bd, 0, none⟩)], .int .i64 m] W fun e w' => e = .returned (.bool v) ∧ Below W.heap.size W w' := by
  have := twiceS_any 44 #[.pointer (some ⟨Bd, 0, none⟩)] d.N m W (enters_of Try.func44 (by kernel_rfl) rfl) (h.seqN 4 Bd hb hBd (by omega))
    (fun x hx => (okN_max hn hx).1) (by have := h.fit; unfold maxLen; omega)
  rwa [twice_in, hv] at this
theorem InI.twK (hn : d.K.all okK = true) (m : Int) {v : Bool} (hv : pairs8 sameAsk d.K = v) : Calls Try.prog 38 #[.func (.func 50) #[] #[.pointer (some ⟨Bd, 0, none⟩)], .int .i64 m] W fun e w' => e = .returned (.bool v) ∧ Below W.heap.size W w' := by
  have := twiceK_any 50 #[.pointer (some ⟨Bd, 0, none⟩)] (d.K.map askK) m W (enters_of Try.func50 (by kernel_rfl) rfl) (h.seqK 4 Bd hb hBd (by omega))
    (fun x hx => by obtain ⟨y, hy, rfl⟩ := List.mem_map.1 hx; have := okK_max hn hy; exact ⟨this.1, this.2.1⟩) (by have := h.fitK; rw [List.length_map]; unfold maxLen; omega)
  rwa [twice_ask, hv] at this
theorem InI.twT (hn : d.K.all okK = true) (m : Int) {v : Bool} (hv : pairs8 sameCel d.K = v) : Calls Try.prog 51 #[.func (.func 52) #[] #[.pointer (some ⟨Bd, 0, none⟩)], .int .i64 m] W fun e w' => e = .returned (.bool v) ∧ Below W.heap.size W w' := by
  have := twiceO_any 52 #[.pointer (some ⟨Bd, 0, none⟩)] (d.K.map opnK) m W (enters_of Try.func52 (by kernel_rfl) rfl) (h.seqT 4 Bd hb hBd (by omega))
    (fun x hx => by obtain ⟨y, hy, rfl⟩ := List.mem_map.1 hx; have := okK_max hn hy; exact ⟨this.1, this.2.2⟩) (by have := h.fitK; rw [List.length_map]; unfold maxLen; omega)
  rwa [twice_opn, hv] at this
end

set_option maxRecDepth 100000 in
set_option maxHeartbeats 1000000 in
theorem outs_any (c0 c1 c2 c3 c4 : Value) (w : World) :
    Calls Try.prog 32 #[.agg #[c0, c1, c2, c3, c4]] w fun e w' => e = .returned (.func (.func 48) #[] #[.pointer (some ⟨w.heap.size, 0, none⟩)]) ∧ w' = w.alloc (.cells #[c0, c1, c2, c3, c4] 30) := by
  go_enter Try.func32, Try.ntmps32
  go_wp2
  go_ret
  exact ⟨rfl, rfl⟩

set_option maxRecDepth 100000 in
set_option maxHeartbeats 1000000 in
theorem texts_any (c0 c1 c2 c3 c4 : Value) (w : World) :
    Calls Try.prog 43 #[.agg #[c0, c1, c2, c3, c4]] w fun e w' => e = .returned (.func (.func 52) #[] #[.pointer (some ⟨w.heap.size, 0, none⟩)]) ∧ w' = w.alloc (.cells #[c0, c1, c2, c3, c4] 30) := by
  go_enter Try.func43, Try.ntmps43
  go_wp2
  go_ret
  exact ⟨rfl, rfl⟩

set_option maxRecDepth 100000 in
set_option maxHeartbeats 4000000 in
theorem clashes_any (d : Ide) (A : Option Addr) (c : Nat) (A' : Option Addr) (c' : Nat) (w : World) (h : InI w d A c A' c') (hN : d.N.all okN = true) (hK : d.K.all okK = true) :
    Calls Try.prog 40 #[ideV d A c A' c'] w fun e w' => e = .returned (.bool (clash8 d.N d.K)) ∧ Below w.heap.size w w' := by
  have HI := Lib.hid h
  have HN := Lib.hid hN
  have HK := Lib.hid hK
  clear h hN hK
  obtain ⟨W0, hW0⟩ : ∃ W, W = w.alloc (.cells (ideL d A c A' c') 30) := ⟨_, rfl⟩
  have i0 : Is W0 w.heap.size 30 (ideL d A c A' c') := by rw [hW0]; exact Is.new _ _ _
  have hbW : Below w.heap.size w W0 := by rw [hW0]; exact (Below.refl _ _).alloc (Nat.le_refl _) _
  cases ho : pairs8 sameOut d.N with
  | true =>
    have hz : clash8 d.N d.K = true := by rw [clash8, ho]; rfl
    rw [hz]
    clear hz
    go_enter Try.func40, Try.ntmps40
    go_wp2_with fail
    rw [← hW0]
    clear hW0
    refine wp_region_held_drew (S := fun W => Below W0.heap.size W0 W) (by kernel_rfl) (belowN (Below.refl _ _) 1) (fun hS => ?_)
    change wpAnyH _ _ (opsOf Try.f40 1) _ _ 15 (Array.replicate 15 false) _ _
    have hB0 : Below W0.heap.size W0 W0.drew := hS
    have hb0 : Below w.heap.size w W0.drew := hbW.trans (hB0.mono hbW.size)
    clear hS
    generalize W0.drew = V0 at *
    refine wpAnyH_pure (i := 0) (o := { dst := some 3, op := Op.load 30 (Operand.tmp 1), type := 30, pos := "ideal.go:107", after := #[], guard := none }) (v := .agg #[.string d.B, .int .i64 d.a, .slice A d.N.length c, .slice A' d.K.length c', .bool d.c]) (by kernel_rfl) (by kernel_rfl) (by kernel_rfl) (by kernel_rfl) (fun _ _ _ h => h) (by kernel_rfl) (fun w hSw => by exact exec_load rfl rfl (run_loadVar_row _ _ 30 30 _ (0, 0) _ (i0.below hSw i0.lt) Try.underlying30 rfl infoIde)) hB0 ?_
    simp only [Act.put, List.setIfInBounds_toArray, List.set_cons_succ, List.set_cons_zero]
    refine wpAnyH_pure (i := 2) (o := { dst := some 5, op := Op.fieldAddr 30 (Operand.tmp 1) 1, type := 0, pos := "ideal.go:107", after := #[], guard := none }) (v := .pointer (some ⟨w.heap.size, 2, none⟩)) (by kernel_rfl) (by kernel_rfl) (by kernel_rfl) (by kernel_rfl) (fun _ _ _ h => h) (by kernel_rfl) (fun w hSw => by go_simp) hB0 ?_
    simp only [Act.put, List.setIfInBounds_toArray, List.set_cons_succ, List.set_cons_zero]
    refine wpAnyH_pure (i := 3) (o := { dst := some 6, op := Op.load 27 (Operand.tmp 5), type := 27, pos := "ideal.go:107", after := #[{ on := 2, ground := Ground.data }], guard := none }) (v := .slice A d.N.length c) (by kernel_rfl) (by kernel_rfl) (by kernel_rfl) (by kernel_rfl) (fun _ _ _ h => h) (by kernel_rfl) (fun w hSw => by (have hc := (i0.below hSw i0.lt).cell 2; go_simp)) hB0 ?_
    simp only [Act.put, List.setIfInBounds_toArray, List.set_cons_succ, List.set_cons_zero]
    refine wpAnyH_pure (i := 4) (o := { dst := some 7, op := Op.call { callee := Callee.builtin Builtin.len, args := #[Operand.tmp 6], argTypes := #[27] }, type := 3, pos := "ideal.go:107", after := #[{ on := 3, ground := Ground.data }], guard := none }) (v := .int .i64 (d.N.length : Int)) (by kernel_rfl) (by kernel_rfl) (by kernel_rfl) (by kernel_rfl) (fun _ _ _ h => h) (by kernel_rfl) (fun w hSw => by go_simp) hB0 ?_
    simp only [Act.put, List.setIfInBounds_toArray, List.set_cons_succ, List.set_cons_zero]
    refine wpAnyH_call (i := 1) (o := { dst := some 4, op := Op.call { callee := Callee.value (Operand.func 32), args := #[Operand.tmp 3], argTypes := #[30] }, type := 64, pos := "ideal.go:107", after := #[{ on := 0, ground := Ground.data }], guard := none }) (by kernel_rfl) (by kernel_rfl) (by kernel_rfl) (fun w => by kernel_rfl) ((outs_any (.string d.B) (.int .i64 d.a) (.slice A d.N.length c) (.slice A' d.K.length c') (.bool d.c) V0).mono ?_)
    rintro e W ⟨rfl, rfl⟩
    obtain ⟨V1, hW1⟩ : ∃ W, W = V0.alloc (.cells (ideL d A c A' c') 30) := ⟨_, rfl⟩
    have iC1 : Is V1 V0.heap.size 30 (ideL d A c A' c') := by rw [hW1]; exact Is.new _ _ _
    have hB1 : Below W0.heap.size W0 V1 := by rw [hW1]; exact hB0.alloc hB0.size _
    have hb1 : Below w.heap.size w V1 := hbW.trans (hB1.mono hbW.size)
    rw [← hW1]
    clear hW1
    refine ⟨_, rfl, hB1, ?_⟩
    try simp only [Act.put, List.setIfInBounds_toArray, List.set_cons_succ, List.set_cons_zero]
    refine wpAnyH_call (i := 5) (o := { dst := some 8, op := Op.call { callee := Callee.value (Operand.func 37), args := #[Operand.tmp 4, Operand.tmp 7], argTypes := #[64, 3] }, type := 4, pos := "ideal.go:107", after := #[{ on := 1, ground := Ground.data }, { on := 4, ground := Ground.data }, { on := 1, ground := Ground.chain }], guard := none }) (by kernel_rfl) (by kernel_rfl) (by kernel_rfl) (fun w => by kernel_rfl) (((HI.out.twO (W := V1) (V0.heap.size) hb1 iC1 HN.out (d.N.length : Int) ho)).mono ?_)
    rintro e V2 ⟨rfl, hx2⟩
    have hB2 : Below W0.heap.size W0 V2 := hB1.trans (hx2.mono hB1.size)
    have hb2 : Below w.heap.size w V2 := hbW.trans (hB2.mono hbW.size)
    refine ⟨_, rfl, hB2, ?_⟩
    try simp only [Act.put, List.setIfInBounds_toArray, List.set_cons_succ, List.set_cons_zero]
    refine wpAnyH_pure (i := 6) (o := { dst := some 9, op := Op.move (Operand.tmp 8), type := 4, pos := "ideal.go:107", after := #[{ on := 5, ground := Ground.data }, { on := 5, ground := Ground.chain }], guard := none }) (v := .bool true) (by kernel_rfl) (by kernel_rfl) (by kernel_rfl) (by kernel_rfl) (fun _ _ _ h => h) (by kernel_rfl) (fun w hSw => by kernel_rfl) hB2 ?_
    simp only [Act.put, List.setIfInBounds_toArray, List.set_cons_succ, List.set_cons_zero]
    refine wpAnyH_take (i := 7) (oi := { dst := some 10, op := Op.load 30 (Operand.tmp 1), type := 30, pos := "ideal.go:107", after := #[{ on := 6, ground := Ground.guard }], guard := some (6, false) }) (v := undef) (by kernel_rfl) (by kernel_rfl) (by kernel_rfl) (by kernel_rfl) (fun _ _ _ h => h) (Or.inr ⟨by kernel_rfl, rfl⟩) hB2 ?_
    simp only [Act.put, List.setIfInBounds_toArray, List.set_cons_succ, List.set_cons_zero]
    refine wpAnyH_take (i := 9) (oi := { dst := some 12, op := Op.fieldAddr 30 (Operand.tmp 1) 2, type := 0, pos := "ideal.go:107", after := #[{ on := 6, ground := Ground.guard }], guard := some (6, false) }) (v := undef) (by kernel_rfl) (by kernel_rfl) (by kernel_rfl) (by kernel_rfl) (fun _ _ _ h => h) (Or.inr ⟨by kernel_rfl, rfl⟩) hB2 ?_
    simp only [Act.put, List.setIfInBounds_toArray, List.set_cons_succ, List.set_cons_zero]
    refine wpAnyH_take (i := 10) (oi := { dst := some 13, op := Op.load 28 (Operand.tmp 12), type := 28, pos := "ideal.go:107", after := #[{ on := 9, ground := Ground.data }, { on := 6, ground := Ground.guard }], guard := some (6, false) }) (v := undef) (by kernel_rfl) (by kernel_rfl) (by kernel_rfl) (by kernel_rfl) (fun _ _ _ h => h) (Or.inr ⟨by kernel_rfl, rfl⟩) hB2 ?_
    simp only [Act.put, List.setIfInBounds_toArray, List.set_cons_succ, List.set_cons_zero]
    refine wpAnyH_take (i := 11) (oi := { dst := some 14, op := Op.call { callee := Callee.builtin Builtin.len, args := #[Operand.tmp 13], argTypes := #[28] }, type := 3, pos := "ideal.go:107", after := #[{ on := 10, ground := Ground.data }, { on := 6, ground := Ground.guard }], guard := some (6, false) }) (v := undef) (by kernel_rfl) (by kernel_rfl) (by kernel_rfl) (by kernel_rfl) (fun _ _ _ h => h) (Or.inr ⟨by kernel_rfl, rfl⟩) hB2 ?_
    simp only [Act.put, List.setIfInBounds_toArray, List.set_cons_succ, List.set_cons_zero]
    refine wpAnyH_take (i := 8) (oi := { dst := some 11, op := Op.call { callee := Callee.value (Operand.func 43), args := #[Operand.tmp 10], argTypes := #[30] }, type := 81, pos := "ideal.go:107", after := #[{ on := 7, ground := Ground.data }, { on := 6, ground := Ground.chain }, { on := 6, ground := Ground.guard }], guard := some (6, false) }) (v := undef) (by kernel_rfl) (by kernel_rfl) (by kernel_rfl) (by kernel_rfl) (fun _ _ _ h => h) (Or.inr ⟨by kernel_rfl, rfl⟩) hB2 ?_
    simp only [Act.put, List.setIfInBounds_toArray, List.set_cons_succ, List.set_cons_zero]
    refine wpAnyH_take (i := 12) (oi := { dst := some 15, op := Op.call { callee := Callee.value (Operand.func 51), args := #[Operand.tmp 11, Operand.tmp 14], argTypes := #[81, 3] }, type := 4, pos := "ideal.go:107", after := #[{ on := 8, ground := Ground.data }, { on := 11, ground := Ground.data }, { on := 8, ground := Ground.chain }, { on := 6, ground := Ground.guard }], guard := some (6, false) }) (v := undef) (by kernel_rfl) (by kernel_rfl) (by kernel_rfl) (by kernel_rfl) (fun _ _ _ h => h) (Or.inr ⟨by kernel_rfl, rfl⟩) hB2 ?_
    simp only [Act.put, List.setIfInBounds_toArray, List.set_cons_succ, List.set_cons_zero]
    refine wpAnyH_pure (i := 13) (o := { dst := some 16, op := Op.pick (Operand.tmp 9) (Operand.const (Value.bool true)) (Operand.tmp 15), type := 4, pos := "ideal.go:107", after := #[{ on := 6, ground := Ground.data }, { on := 12, ground := Ground.data }], guard := none }) (v := .bool true) (by kernel_rfl) (by kernel_rfl) (by kernel_rfl) (by kernel_rfl) (fun _ _ _ h => h) (by kernel_rfl) (fun w hSw => by kernel_rfl) hB2 ?_
    simp only [Act.put, List.setIfInBounds_toArray, List.set_cons_succ, List.set_cons_zero]
    refine wpAnyH_pure (i := 14) (o := { dst := some 2, op := Op.assign (Operand.tmp 16), type := 4, pos := "ideal.go:107", after := #[{ on := 13, ground := Ground.data }, { on := 12, ground := Ground.chain }, { on := 0, ground := Ground.phase }, { on := 1, ground := Ground.phase }, { on := 2, ground := Ground.phase }, { on := 3, ground := Ground.phase }, { on := 4, ground := Ground.phase }, { on := 5, ground := Ground.phase }, { on := 6, ground := Ground.phase }, { on := 7, ground := Ground.phase }, { on := 8, ground := Ground.phase }, { on := 9, ground := Ground.phase }, { on := 10, ground := Ground.phase }, { on := 11, ground := Ground.phase }, { on := 12, ground := Ground.phase }, { on := 13, ground := Ground.phase }], guard := none }) (v := .bool true) (by kernel_rfl) (by kernel_rfl) (by kernel_rfl) (by kernel_rfl) (fun _ _ _ h => h) (by kernel_rfl) (fun w hSw => by kernel_rfl) hB2 ?_
    simp only [Act.put, List.setIfInBounds_toArray, List.set_cons_succ, List.set_cons_zero]
    refine wpAnyH_done (by kernel_rfl) ?_ _
    go_wp2
    go_ret
    exact ⟨rfl, hb2⟩
  | false =>
    have hz : clash8 d.N d.K = pairs8 sameCel d.K := by rw [clash8, ho]; rfl
    rw [hz]
    clear hz
    go_enter Try.func40, Try.ntmps40
    go_wp2_with fail
    rw [← hW0]
    clear hW0
    refine wp_region_held_drew (S := fun W => Below W0.heap.size W0 W) (by kernel_rfl) (belowN (Below.refl _ _) 1) (fun hS => ?_)
    change wpAnyH _ _ (opsOf Try.f40 1) _ _ 15 (Array.replicate 15 false) _ _
    have hB0 : Below W0.heap.size W0 W0.drew := hS
    have hb0 : Below w.heap.size w W0.drew := hbW.trans (hB0.mono hbW.size)
    clear hS
    generalize W0.drew = V0 at *
    refine wpAnyH_pure (i := 0) (o := { dst := some 3, op := Op.load 30 (Operand.tmp 1), type := 30, pos := "ideal.go:107", after := #[], guard := none }) (v := .agg #[.string d.B, .int .i64 d.a, .slice A d.N.length c, .slice A' d.K.length c', .bool d.c]) (by kernel_rfl) (by kernel_rfl) (by kernel_rfl) (by kernel_rfl) (fun _ _ _ h => h) (by kernel_rfl) (fun w hSw => by exact exec_load rfl rfl (run_loadVar_row _ _ 30 30 _ (0, 0) _ (i0.below hSw i0.lt) Try.underlying30 rfl infoIde)) hB0 ?_
    simp only [Act.put, List.setIfInBounds_toArray, List.set_cons_succ, List.set_cons_zero]
    refine wpAnyH_pure (i := 2) (o := { dst := some 5, op := Op.fieldAddr 30 (Operand.tmp 1) 1, type := 0, pos := "ideal.go:107", after := #[], guard := none }) (v := .pointer (some ⟨w.heap.size, 2, none⟩)) (by kernel_rfl) (by kernel_rfl) (by kernel_rfl) (by kernel_rfl) (fun _ _ _ h => h) (by kernel_rfl) (fun w hSw => by go_simp) hB0 ?_
    simp only [Act.put, List.setIfInBounds_toArray, List.set_cons_succ, List.set_cons_zero]
    refine wpAnyH_pure (i := 3) (o := { dst := some 6, op := Op.load 27 (Operand.tmp 5), type := 27, pos := "ideal.go:107", after := #[{ on := 2, ground := Ground.data }], guard := none }) (v := .slice A d.N.length c) (by kernel_rfl) (by kernel_rfl) (by kernel_rfl) (by kernel_rfl) (fun _ _ _ h => h) (by kernel_rfl) (fun w hSw => by (have hc := (i0.below hSw i0.lt).cell 2; go_simp)) hB0 ?_
    simp only [Act.put, List.setIfInBounds_toArray, List.set_cons_succ, List.set_cons_zero]
    refine wpAnyH_pure (i := 4) (o := { dst := some 7, op := Op.call { callee := Callee.builtin Builtin.len, args := #[Operand.tmp 6], argTypes := #[27] }, type := 3, pos := "ideal.go:107", after := #[{ on := 3, ground := Ground.data }], guard := none }) (v := .int .i64 (d.N.length : Int)) (by kernel_rfl) (by kernel_rfl) (by kernel_rfl) (by kernel_rfl) (fun _ _ _ h => h) (by kernel_rfl) (fun w hSw => by go_simp) hB0 ?_
    simp only [Act.put, List.setIfInBounds_toArray, List.set_cons_succ, List.set_cons_zero]
    refine wpAnyH_call (i := 1) (o := { dst := some 4, op := Op.call { callee := Callee.value (Operand.func 32), args := #[Operand.tmp 3], argTypes := #[30] }, type := 64, pos := "ideal.go:107", after := #[{ on := 0, ground := Ground.data }], guard := none }) (by kernel_rfl) (by kernel_rfl) (by kernel_rfl) (fun w => by kernel_rfl) ((outs_any (.string d.B) (.int .i64 d.a) (.slice A d.N.length c) (.slice A' d.K.length c') (.bool d.c) V0).mono ?_)
    rintro e W ⟨rfl, rfl⟩
    obtain ⟨V1, hW1⟩ : ∃ W, W = V0.alloc (.cells (ideL d A c A' c') 30) := ⟨_, rfl⟩
    have iC1 : Is V1 V0.heap.size 30 (ideL d A c A' c') := by rw [hW1]; exact Is.new _ _ _
    have hB1 : Below W0.heap.size W0 V1 := by rw [hW1]; exact hB0.alloc hB0.size _
    have hb1 : Below w.heap.size w V1 := hbW.trans (hB1.mono hbW.size)
    rw [← hW1]
    clear hW1
    refine ⟨_, rfl, hB1, ?_⟩
    try simp only [Act.put, List.setIfInBounds_toArray, List.set_cons_succ, List.set_cons_zero]
    refine wpAnyH_call (i := 5) (o := { dst := some 8, op := Op.call { callee := Callee.value (Operand.func 37), args := #[Operand.tmp 4, Operand.tmp 7], argTypes := #[64, 3] }, type := 4, pos := "ideal.go:107", after := #[{ on := 1, ground := Ground.data }, { on := 4, ground := Ground.data }, { on := 1, ground := Ground.chain }], guard := none }) (by kernel_rfl) (by kernel_rfl) (by kernel_rfl) (fun w => by kernel_rfl) (((HI.out.twO (W := V1) (V0.heap.size) hb1 iC1 HN.out (d.N.length : Int) ho)).mono ?_)
    rintro e V2 ⟨rfl, hx2⟩
    have hB2 : Below W0.heap.size W0 V2 := hB1.trans (hx2.mono hB1.size)
    have hb2 : Below w.heap.size w V2 := hbW.trans (hB2.mono hbW.size)
    refine ⟨_, rfl, hB2, ?_⟩
    try simp only [Act.put, List.setIfInBounds_toArray, List.set_cons_succ, List.set_cons_zero]
    refine wpAnyH_pure (i := 6) (o := { dst := some 9, op := Op.move (Operand.tmp 8), type := 4, pos := "ideal.go:107", after := #[{ on := 5, ground := Ground.data }, { on := 5, ground := Ground.chain }], guard := none }) (v := .bool false) (by kernel_rfl) (by kernel_rfl) (by kernel_rfl) (by kernel_rfl) (fun _ _ _ h => h) (by kernel_rfl) (fun w hSw => by kernel_rfl) hB2 ?_
    simp only [Act.put, List.setIfInBounds_toArray, List.set_cons_succ, List.set_cons_zero]
    refine wpAnyH_pure (i := 7) (o := { dst := some 10, op := Op.load 30 (Operand.tmp 1), type := 30, pos := "ideal.go:107", after := #[{ on := 6, ground := Ground.guard }], guard := some (6, false) }) (v := .agg #[.string d.B, .int .i64 d.a, .slice A d.N.length c, .slice A' d.K.length c', .bool d.c]) (by kernel_rfl) (by kernel_rfl) (by kernel_rfl) (by kernel_rfl) (fun _ _ _ h => h) (by kernel_rfl) (fun w hSw => by exact exec_load rfl rfl (run_loadVar_row _ _ 30 30 _ (0, 0) _ (i0.below hSw i0.lt) Try.underlying30 rfl infoIde)) hB2 ?_
    simp only [Act.put, List.setIfInBounds_toArray, List.set_cons_succ, List.set_cons_zero]
    refine wpAnyH_pure (i := 9) (o := { dst := some 12, op := Op.fieldAddr 30 (Operand.tmp 1) 2, type := 0, pos := "ideal.go:107", after := #[{ on := 6, ground := Ground.guard }], guard := some (6, false) }) (v := .pointer (some ⟨w.heap.size, 3, none⟩)) (by kernel_rfl) (by kernel_rfl) (by kernel_rfl) (by kernel_rfl) (fun _ _ _ h => h) (by kernel_rfl) (fun w hSw => by go_simp) hB2 ?_
    simp only [Act.put, List.setIfInBounds_toArray, List.set_cons_succ, List.set_cons_zero]
    refine wpAnyH_pure (i := 10) (o := { dst := some 13, op := Op.load 28 (Operand.tmp 12), type := 28, pos := "ideal.go:107", after := #[{ on := 9, ground := Ground.data }, { on := 6, ground := Ground.guard }], guard := some (6, false) }) (v := .slice A' d.K.length c') (by kernel_rfl) (by kernel_rfl) (by kernel_rfl) (by kernel_rfl) (fun _ _ _ h => h) (by kernel_rfl) (fun w hSw => by (have hc := (i0.below hSw i0.lt).cell 3; go_simp)) hB2 ?_
    simp only [Act.put, List.setIfInBounds_toArray, List.set_cons_succ, List.set_cons_zero]
    refine wpAnyH_pure (i := 11) (o := { dst := some 14, op := Op.call { callee := Callee.builtin Builtin.len, args := #[Operand.tmp 13], argTypes := #[28] }, type := 3, pos := "ideal.go:107", after := #[{ on := 10, ground := Ground.data }, { on := 6, ground := Ground.guard }], guard := some (6, false) }) (v := .int .i64 (d.K.length : Int)) (by kernel_rfl) (by kernel_rfl) (by kernel_rfl) (by kernel_rfl) (fun _ _ _ h => h) (by kernel_rfl) (fun w hSw => by go_simp) hB2 ?_
    simp only [Act.put, List.setIfInBounds_toArray, List.set_cons_succ, List.set_cons_zero]
    refine wpAnyH_call (i := 8) (o := { dst := some 11, op := Op.call { callee := Callee.value (Operand.func 43), args := #[Operand.tmp 10], argTypes := #[30] }, type := 81, pos := "ideal.go:107", after := #[{ on := 7, ground := Ground.data }, { on := 6, ground := Ground.chain }, { on := 6, ground := Ground.guard }], guard := some (6, false) }) (by kernel_rfl) (by kernel_rfl) (by kernel_rfl) (fun w => by kernel_rfl) ((texts_any (.string d.B) (.int .i64 d.a) (.slice A d.N.length c) (.slice A' d.K.length c') (.bool d.c) V2).mono ?_)
    rintro e W ⟨rfl, rfl⟩
    obtain ⟨V3, hW3⟩ : ∃ W, W = V2.alloc (.cells (ideL d A c A' c') 30) := ⟨_, rfl⟩
    have iC3 : Is V3 V2.heap.size 30 (ideL d A c A' c') := by rw [hW3]; exact Is.new _ _ _
    have hB3 : Below W0.heap.size W0 V3 := by rw [hW3]; exact hB2.alloc hB2.size _
    have hb3 : Below w.heap.size w V3 := hbW.trans (hB3.mono hbW.size)
    rw [← hW3]
    clear hW3
    refine ⟨_, rfl, hB3, ?_⟩
    try simp only [Act.put, List.setIfInBounds_toArray, List.set_cons_succ, List.set_cons_zero]
    refine wpAnyH_call (i := 12) (o := { dst := some 15, op := Op.call { callee := Callee.value (Operand.func 51), args := #[Operand.tmp 11, Operand.tmp 14], argTypes := #[81, 3] }, type := 4, pos := "ideal.go:107", after := #[{ on := 8, ground := Ground.data }, { on := 11, ground := Ground.data }, { on := 8, ground := Ground.chain }, { on := 6, ground := Ground.guard }], guard := some (6, false) }) (by kernel_rfl) (by kernel_rfl) (by kernel_rfl) (fun w => by kernel_rfl) (((HI.out.twT (W := V3) (V2.heap.size) hb3 iC3 HK.out (d.K.length : Int) rfl)).mono ?_)
    rintro e V4 ⟨rfl, hx4⟩
    have hB4 : Below W0.heap.size W0 V4 := hB3.trans (hx4.mono hB3.size)
    have hb4 : Below w.heap.size w V4 := hbW.trans (hB4.mono hbW.size)
    refine ⟨_, rfl, hB4, ?_⟩
    try simp only [Act.put, List.setIfInBounds_toArray, List.set_cons_succ, List.set_cons_zero]
    refine wpAnyH_pure (i := 13) (o := { dst := some 16, op := Op.pick (Operand.tmp 9) (Operand.const (Value.bool true)) (Operand.tmp 15), type := 4, pos := "ideal.go:107", after := #[{ on := 6, ground := Ground.data }, { on := 12, ground := Ground.data }], guard := none }) (v := .bool (pairs8 sameCel d.K)) (by kernel_rfl) (by kernel_rfl) (by kernel_rfl) (by kernel_rfl) (fun _ _ _ h => h) (by kernel_rfl) (fun w hSw => by kernel_rfl) hB4 ?_
    simp only [Act.put, List.setIfInBounds_toArray, List.set_cons_succ, List.set_cons_zero]
    refine wpAnyH_pure (i := 14) (o := { dst := some 2, op := Op.assign (Operand.tmp 16), type := 4, pos := "ideal.go:107", after := #[{ on := 13, ground := Ground.data }, { on := 12, ground := Ground.chain }, { on := 0, ground := Ground.phase }, { on := 1, ground := Ground.phase }, { on := 2, ground := Ground.phase }, { on := 3, ground := Ground.phase }, { on := 4, ground := Ground.phase }, { on := 5, ground := Ground.phase }, { on := 6, ground := Ground.phase }, { on := 7, ground := Ground.phase }, { on := 8, ground := Ground.phase }, { on := 9, ground := Ground.phase }, { on := 10, ground := Ground.phase }, { on := 11, ground := Ground.phase }, { on := 12, ground := Ground.phase }, { on := 13, ground := Ground.phase }], guard := none }) (v := .bool (pairs8 sameCel d.K)) (by kernel_rfl) (by kernel_rfl) (by kernel_rfl) (by kernel_rfl) (fun _ _ _ h => h) (by kernel_rfl) (fun w hSw => by kernel_rfl) hB4 ?_
    simp only [Act.put, List.setIfInBounds_toArray, List.set_cons_succ, List.set_cons_zero]
    refine wpAnyH_done (by kernel_rfl) ?_ _
    go_wp2
    go_ret
    exact ⟨rfl, hb4⟩
end Go.Proofs.Ytdbdoammbnogaaa
