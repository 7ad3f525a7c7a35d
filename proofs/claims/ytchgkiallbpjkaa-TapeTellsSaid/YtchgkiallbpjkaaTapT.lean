/-
  Contract of tape.Turn, the program's. Condition: the list's numbers lie where the slice points to.
-/
import Derived.Test.YtchgkiallbpjkaaTapL
import Derived.Test.YtchgkiallbpjkaaTapI
namespace Go.Proofs.Ytchgkiallbpjkaa
open Go.RowKit Go.Shelf
attribute [local go_sem] Oper.semAt_some

theorem results_ccc {fn : Func} {s p u : Tmp} {t0 t1 t2 : TypeId} (h : fn.results = #[.cell s t0, .cell p t1, .cell u t2]) (tmps : Array Value) (P : Program) (w : World) (g0 g1 g2 : Nat) (y0 y2 : Value) (T0 T1 T2 : TypeId) (cs : Array Value) (fs : Array Field)
    (hs : tmps.getD s undef = .pointer (some ⟨g0, 0, none⟩)) (hp : tmps.getD p undef = .pointer (some ⟨g1, 0, none⟩)) (hu : tmps.getD u undef = .pointer (some ⟨g2, 0, none⟩))
    (i0 : Is w g0 T0 #[y0]) (i1 : Is w g1 T1 cs) (i2 : Is w g2 T2 #[y2]) (a0 : (isAgg t0).run P w = .ok false w) (a2 : (isAgg t2).run P w = .ok false w)
    (hu1 : P.underlying t1 = some (.struct fs)) (hi : (P.info? t1).map (·.size) = some cs.size) :
    (results fn tmps).run P w = .ok (.tuple #[y0, .agg cs, y2]) w := by
  have e : (results fn tmps).run P w = ((asAddr (tmps.getD s undef)).run P w).andThen fun b w0 => ((loadVar t0 b).run P w0).andThen fun v0 w1 => ((asAddr (tmps.getD p undef)).run P w1).andThen fun b w2 => ((loadVar t1 b).run P w2).andThen fun v1 w3 =>
      ((asAddr (tmps.getD u undef)).run P w3).andThen fun b w4 => ((loadVar t2 b).run P w4).andThen fun v2 w5 => .ok (.tuple #[v0, v1, v2]) w5 := by
    simp only [results, h]
    simp [Sem.run_bind, Result.andThen]
  have c0 := i0.cell 0
  have c2 := i2.cell 0
  have l0 : (loadVar t0 ⟨g0, 0, none⟩).run P w = .ok y0 w := by
    simp only [loadVar, Sem.run_bind, a0, Result.andThen_ok]
    simp [go_sem, c0]
  have l2 : (loadVar t2 ⟨g2, 0, none⟩).run P w = .ok y2 w := by
    simp only [loadVar, Sem.run_bind, a2, Result.andThen_ok]
    simp [go_sem, c2]
  have l1 : (loadVar t1 ⟨g1, 0, none⟩).run P w = .ok (.agg cs) w := run_loadVar_row w g1 T1 t1 cs (0, 0) _ i1 hu1 rfl hi
  rw [e, hs, hp, hu]
  simp [asAddr, l0, l1, l2]
theorem aggL7 (w : World) : (isAgg 24).run Try.prog w = .ok false w := by go_simp
theorem aggE7 (w : World) : (isAgg 31).run Try.prog w = .ok false w := by go_simp
/-- the three results, written. -/
def setE7 (n : Nat) (W : World) (v : Value) (B : ByteArray) (b e : Int) : World :=
  (((W.setCell ⟨n + 1, 0, none⟩ v).setCell ⟨n + 1 + 1, 0, none⟩ (.string B)).setCell ⟨n + 1 + 1, 1, none⟩ (.int .i64 b)).setCell ⟨n + 1 + 1 + 1, 0, none⟩ (.int .i64 e)
theorem setE7_S {n : Nat} {W : World} {t : TypeId} {x : Value} (h : Is W (n + 1) t #[x]) (v : Value) (B : ByteArray) (b e : Int) : Is (setE7 n W v B b e) (n + 1) t #[v] :=
  (((h.set 0 v).far (p := ⟨n + 1 + 1, 0, none⟩) (by show n + 1 ≠ n + 1 + 1; omega) _).far (p := ⟨n + 1 + 1, 1, none⟩) (by show n + 1 ≠ n + 1 + 1; omega) _).far (p := ⟨n + 1 + 1 + 1, 0, none⟩) (by show n + 1 ≠ n + 1 + 1 + 1; omega) _
theorem setE7_T {n : Nat} {W : World} {t : TypeId} {x y : Value} (h : Is W (n + 1 + 1) t #[x, y]) (v : Value) (B : ByteArray) (b e : Int) : Is (setE7 n W v B b e) (n + 1 + 1) t #[.string B, .int .i64 b] :=
  ((h.far (p := ⟨n + 1, 0, none⟩) (by show n + 1 + 1 ≠ n + 1; omega) v).pair (.string B) (.int .i64 b)).far (p := ⟨n + 1 + 1 + 1, 0, none⟩) (by show n + 1 + 1 ≠ n + 1 + 1 + 1; omega) _
theorem setE7_E {n : Nat} {W : World} {t : TypeId} {x : Value} (h : Is W (n + 1 + 1 + 1) t #[x]) (v : Value) (B : ByteArray) (b e : Int) : Is (setE7 n W v B b e) (n + 1 + 1 + 1) t #[.int .i64 e] :=
  (((h.far (p := ⟨n + 1, 0, none⟩) (by show n + 1 + 1 + 1 ≠ n + 1; omega) v).far (p := ⟨n + 1 + 1, 0, none⟩) (by show n + 1 + 1 + 1 ≠ n + 1 + 1; omega) (.string B)).far (p := ⟨n + 1 + 1, 1, none⟩) (by show n + 1 + 1 + 1 ≠ n + 1 + 1; omega) (.int .i64 b)).set 0 (.int .i64 e)
theorem setE7_below {m n : Nat} {w W : World} (h : Below m w W) (hm : m ≤ n + 1) (v : Value) (B : ByteArray) (b e : Int) : Below m w (setE7 n W v B b e) :=
  (((h.setCell (p := ⟨n + 1, 0, none⟩) hm v).setCell (p := ⟨n + 1 + 1, 0, none⟩) (by show m ≤ n + 1 + 1; omega) (.string B)).setCell (p := ⟨n + 1 + 1, 1, none⟩) (by show m ≤ n + 1 + 1; omega) (.int .i64 b)).setCell (p := ⟨n + 1 + 1 + 1, 0, none⟩) (by show m ≤ n + 1 + 1 + 1; omega) (.int .i64 e)
theorem setE7_row {n : Nat} {W : World} {base : Nat} {A : Option Addr} {c : Nat} {l : List Int} (h : RowD W base A c l) {x0 x1 x2 x3 : Value} (iS : Is W (n + 1) 24 #[x0]) (iT : Is W (n + 1 + 1) 23 #[x1, x2]) (iE : Is W (n + 1 + 1 + 1) 31 #[x3]) (v : Value) (B : ByteArray) (b e : Int) : RowD (setE7 n W v B b e) base A c l :=
  (((h.far (p := ⟨n + 1, 0, none⟩) iS (by decide) v).far (p := ⟨n + 1 + 1, 0, none⟩) (iT.far (p := ⟨n + 1, 0, none⟩) (by show n + 1 + 1 ≠ n + 1; omega) v) (by decide) (.string B)).far (p := ⟨n + 1 + 1, 1, none⟩) ((iT.far (p := ⟨n + 1, 0, none⟩) (by show n + 1 + 1 ≠ n + 1; omega) v).set 0 _) (by decide) (.int .i64 b)).far (p := ⟨n + 1 + 1 + 1, 0, none⟩)
    (((iE.far (p := ⟨n + 1, 0, none⟩) (by show n + 1 + 1 + 1 ≠ n + 1; omega) v).far (p := ⟨n + 1 + 1, 0, none⟩) (by show n + 1 + 1 + 1 ≠ n + 1 + 1; omega) (.string B)).far (p := ⟨n + 1 + 1, 1, none⟩) (by show n + 1 + 1 + 1 ≠ n + 1 + 1; omega) (.int .i64 b)) (by decide) (.int .i64 e)

set_option maxRecDepth 100000 in
set_option maxHeartbeats 2000000 in
theorem turn_no (B : ByteArray) (a : Int) (A : Option Addr) (cap : Nat) (L : List Int) (w : World) (hr : rightV B a = false) :
    Calls Try.prog 19 #[.agg #[.string B, .int .i64 a], .slice A L.length cap] w fun e w' => ∃ A' c', e = .returned (.tuple #[.slice A' (([] : List Int)).length c', .agg #[.string B, .int .i64 (a)], .int .i64 (1)]) ∧ RowD w' w.heap.size A' c' (([] : List Int)) ∧ Below w.heap.size w w' := by
  have C := Lib.hid (tright_any B a)
  rw [hr] at C
  obtain ⟨W1, hW1⟩ : ∃ W1, W1 = ((((w.alloc (.cells #[.string B, .int .i64 a] 23)).alloc (.cells #[.slice none 0 0] 24)).alloc (.cells #[.string ⟨#[]⟩, .int .i64 0] 23)).alloc (.cells #[.int .i64 0] 31)) := ⟨_, rfl⟩
  clear hr
  go_enter Try.func19, Try.ntmps19
  go_wp2_with fail
  rw [← hW1]
  have hB1 : Below w.heap.size w W1 := by rw [hW1]; exact ((((Below.refl _ _).alloc (Nat.le_refl _) _).alloc (by simp) _).alloc (by simp; omega) _).alloc (by simp; omega) _
  have iA1 : Is W1 w.heap.size 23 #[.string B, .int .i64 a] := by rw [hW1]; exact (((Is.new w _ _).alloc _).alloc _).alloc _
  have iS1 : Is W1 (w.heap.size + 1) 24 #[.slice none 0 0] := by rw [hW1]; exact (Is.alloc (heap_alloc2_new w _ _) _).alloc _
  have iT1 : Is W1 (w.heap.size + 1 + 1) 23 #[.string ⟨#[]⟩, .int .i64 0] := by
    have := (Is.new ((w.alloc (.cells #[.string B, .int .i64 a] 23)).alloc (.cells #[.slice none 0 0] 24)) 23 #[.string ⟨#[]⟩, .int .i64 0]).alloc (.cells #[.int .i64 0] 31)
    rw [hW1]; simpa using this
  have iE1 : Is W1 (w.heap.size + 1 + 1 + 1) 31 #[.int .i64 0] := by
    have := Is.new (((w.alloc (.cells #[.string B, .int .i64 a] 23)).alloc (.cells #[.slice none 0 0] 24)).alloc (.cells #[.string ⟨#[]⟩, .int .i64 0] 23)) 31 #[.int .i64 0]
    rw [hW1]; simpa using this
  clear hW1
  refine (C.out _).mono ?_
  rintro e W2 ⟨rfl, hb⟩
  have hB2 := hB1.trans (hb.mono hB1.size)
  have iA2 := iA1.below hb iA1.lt
  have iS2 := iS1.below hb iS1.lt
  have iT2 := iT1.below hb iT1.lt
  have iE2 := iE1.below hb iE1.lt
  have cA0 : W2.cell? ⟨w.heap.size, 0, none⟩ = some (.string B) := iA2.cell 0
  have cA1 : W2.cell? ⟨w.heap.size, 1, none⟩ = some (.int .i64 a) := iA2.cell 1
  clear hb hB1 iA1 iS1 iT1 iE1 C
  have m1 : w.heap.size ≠ w.heap.size + 1 := by omega
  have m2 : w.heap.size ≠ w.heap.size + 1 + 1 := by omega
  have m3 : w.heap.size ≠ w.heap.size + 1 + 1 + 1 := by omega
  have m4 : w.heap.size + 1 ≠ w.heap.size + 1 + 1 := by omega
  have m5 : w.heap.size + 1 ≠ w.heap.size + 1 + 1 + 1 := by omega
  have m6 : w.heap.size + 1 + 1 ≠ w.heap.size + 1 + 1 + 1 := by omega
  have m1' := Ne.symm m1
  have m2' := Ne.symm m2
  have m3' := Ne.symm m3
  have m4' := Ne.symm m4
  have m5' := Ne.symm m5
  have m6' := Ne.symm m6
  have cS : W2.cell? ⟨w.heap.size + 1, 0, none⟩ = some (.slice none 0 0) := iS2.cell 0
  have fS := iS2.frozen 0
  have cT0 : W2.cell? ⟨w.heap.size + 1 + 1, 0, none⟩ = some (.string ⟨#[]⟩) := iT2.cell 0
  have fT0 := iT2.frozen 0
  have cT1 : W2.cell? ⟨w.heap.size + 1 + 1, 1, none⟩ = some (.int .i64 0) := iT2.cell 1
  have fT1 := iT2.frozen 1
  have cE : W2.cell? ⟨w.heap.size + 1 + 1 + 1, 0, none⟩ = some (.int .i64 0) := iE2.cell 0
  have fE := iE2.frozen 0
  go_wp2
  go_region_held3 (fun w' => w'.cell? ⟨w.heap.size, 0, none⟩ = some (.string B) ∧ w'.cell? ⟨w.heap.size, 1, none⟩ = some (.int .i64 a)) (go_keep) (fail)
  go_wp2
  exact bodyPost_ret (results_ccc Try.results19 _ _ _ (w.heap.size + 1) (w.heap.size + 1 + 1) (w.heap.size + 1 + 1 + 1) (.slice none 0 0) (.int .i64 1) 24 23 31 #[.string B, .int .i64 a] _ rfl rfl rfl ((setE7_S iS2 (.slice none 0 0) B a 1).drewN 1) ((setE7_T iT2 (.slice none 0 0) B a 1).drewN 1) ((setE7_E iE2 (.slice none 0 0) B a 1).drewN 1) (aggL7 _) (aggE7 _) Try.underlying23 infoTape) rfl
    ⟨none, 0, rfl, World.ownsRow_nil _ _ _ _, belowN (setE7_below hB2 (by omega) (.slice none 0 0) B a 1) 1⟩

set_option maxRecDepth 100000 in
set_option maxHeartbeats 2000000 in
theorem turn_long (B : ByteArray) (a : Int) (A : Option Addr) (cap : Nat) (L : List Int) (w : World) (hr : rightV B a = true) (hlong : 1000 < L.length) :
    Calls Try.prog 19 #[.agg #[.string B, .int .i64 a], .slice A L.length cap] w fun e w' => ∃ A' c', e = .returned (.tuple #[.slice A' (([] : List Int)).length c', .agg #[.string B, .int .i64 (a)], .int .i64 (2)]) ∧ RowD w' w.heap.size A' c' (([] : List Int)) ∧ Below w.heap.size w w' := by
  have C := Lib.hid (tright_any B a)
  rw [hr] at C
  have hl1 : 1000 < (L.length : Int) := by omega
  obtain ⟨W1, hW1⟩ : ∃ W1, W1 = ((((w.alloc (.cells #[.string B, .int .i64 a] 23)).alloc (.cells #[.slice none 0 0] 24)).alloc (.cells #[.string ⟨#[]⟩, .int .i64 0] 23)).alloc (.cells #[.int .i64 0] 31)) := ⟨_, rfl⟩
  clear hr
  go_enter Try.func19, Try.ntmps19
  go_wp2_with fail
  rw [← hW1]
  have hB1 : Below w.heap.size w W1 := by rw [hW1]; exact ((((Below.refl _ _).alloc (Nat.le_refl _) _).alloc (by simp) _).alloc (by simp; omega) _).alloc (by simp; omega) _
  have iA1 : Is W1 w.heap.size 23 #[.string B, .int .i64 a] := by rw [hW1]; exact (((Is.new w _ _).alloc _).alloc _).alloc _
  have iS1 : Is W1 (w.heap.size + 1) 24 #[.slice none 0 0] := by rw [hW1]; exact (Is.alloc (heap_alloc2_new w _ _) _).alloc _
  have iT1 : Is W1 (w.heap.size + 1 + 1) 23 #[.string ⟨#[]⟩, .int .i64 0] := by
    have := (Is.new ((w.alloc (.cells #[.string B, .int .i64 a] 23)).alloc (.cells #[.slice none 0 0] 24)) 23 #[.string ⟨#[]⟩, .int .i64 0]).alloc (.cells #[.int .i64 0] 31)
    rw [hW1]; simpa using this
  have iE1 : Is W1 (w.heap.size + 1 + 1 + 1) 31 #[.int .i64 0] := by
    have := Is.new (((w.alloc (.cells #[.string B, .int .i64 a] 23)).alloc (.cells #[.slice none 0 0] 24)).alloc (.cells #[.string ⟨#[]⟩, .int .i64 0] 23)) 31 #[.int .i64 0]
    rw [hW1]; simpa using this
  clear hW1
  refine (C.out _).mono ?_
  rintro e W2 ⟨rfl, hb⟩
  have hB2 := hB1.trans (hb.mono hB1.size)
  have iA2 := iA1.below hb iA1.lt
  have iS2 := iS1.below hb iS1.lt
  have iT2 := iT1.below hb iT1.lt
  have iE2 := iE1.below hb iE1.lt
  have cA0 : W2.cell? ⟨w.heap.size, 0, none⟩ = some (.string B) := iA2.cell 0
  have cA1 : W2.cell? ⟨w.heap.size, 1, none⟩ = some (.int .i64 a) := iA2.cell 1
  clear hb hB1 iA1 iS1 iT1 iE1 C
  have m1 : w.heap.size ≠ w.heap.size + 1 := by omega
  have m2 : w.heap.size ≠ w.heap.size + 1 + 1 := by omega
  have m3 : w.heap.size ≠ w.heap.size + 1 + 1 + 1 := by omega
  have m4 : w.heap.size + 1 ≠ w.heap.size + 1 + 1 := by omega
  have m5 : w.heap.size + 1 ≠ w.heap.size + 1 + 1 + 1 := by omega
  have m6 : w.heap.size + 1 + 1 ≠ w.heap.size + 1 + 1 + 1 := by omega
  have m1' := Ne.symm m1
  have m2' := Ne.symm m2
  have m3' := Ne.symm m3
  have m4' := Ne.symm m4
  have m5' := Ne.symm m5
  have m6' := Ne.symm m6
  have cS : W2.cell? ⟨w.heap.size + 1, 0, none⟩ = some (.slice none 0 0) := iS2.cell 0
  have fS := iS2.frozen 0
  have cT0 : W2.cell? ⟨w.heap.size + 1 + 1, 0, none⟩ = some (.string ⟨#[]⟩) := iT2.cell 0
  have fT0 := iT2.frozen 0
  have cT1 : W2.cell? ⟨w.heap.size + 1 + 1, 1, none⟩ = some (.int .i64 0) := iT2.cell 1
  have fT1 := iT2.frozen 1
  have cE : W2.cell? ⟨w.heap.size + 1 + 1 + 1, 0, none⟩ = some (.int .i64 0) := iE2.cell 0
  have fE := iE2.frozen 0
  go_wp2
  go_region_held3 (fun w' => w'.cell? ⟨w.heap.size, 0, none⟩ = some (.string B) ∧ w'.cell? ⟨w.heap.size, 1, none⟩ = some (.int .i64 a)) (go_keep) (fail)
  go_wp2
  exact bodyPost_ret (results_ccc Try.results19 _ _ _ (w.heap.size + 1) (w.heap.size + 1 + 1) (w.heap.size + 1 + 1 + 1) (.slice none 0 0) (.int .i64 2) 24 23 31 #[.string B, .int .i64 a] _ rfl rfl rfl ((setE7_S iS2 (.slice none 0 0) B a 2).drewN 1) ((setE7_T iT2 (.slice none 0 0) B a 2).drewN 1) ((setE7_E iE2 (.slice none 0 0) B a 2).drewN 1) (aggL7 _) (aggE7 _) Try.underlying23 infoTape) rfl
    ⟨none, 0, rfl, World.ownsRow_nil _ _ _ _, belowN (setE7_below hB2 (by omega) (.slice none 0 0) B a 2) 1⟩
end Go.Proofs.Ytchgkiallbpjkaa
