/-
  Contracts of codec.firstList. Condition: bytes that a right cursor may have.
-/
import Derived.Test.YtapfbcpbiagogaaCodU
import Derived.Test.YtapfbcpbiagogaaCodL
namespace Go.Proofs.Ytapfbcpbiagogaa
open Go.RowKit Go.Shelf
attribute [local go_sem] Oper.semAt_some

theorem InV.apart10 {W W' : World} {A : Option Addr} {vs : List Value} {row : Option Nat} (h : InV W A vs) (hg : W.grownBy W' row) (hr : ∀ p, A = some p → row ≠ some p.block) : InV W' A vs := fun j u hj => by
  obtain ⟨b, off, rfl, h1, h2⟩ := h j u hj
  obtain ⟨ob, ho, _⟩ := cells_of_cell h2
  have h3 := hg.block b h1 (fun e => hr _ rfl e.symm)
  refine ⟨b, off, rfl, Nat.lt_of_lt_of_le h1 hg.size, ?_⟩
  rw [← h2]
  simp only [World.cell?, h3]
/-- texts in memory of one's own: from block n on. -/
structure Lst10 (n : Nat) (W : World) (A : Option Addr) (l : List ByteArray) : Prop where
  at' : InV W A (tL10 l)
  own : ∀ p, A = some p → n ≤ p.block
section
variable {n : Nat} {W W' : World} {A : Option Addr} {l : List ByteArray}
theorem Lst10.nil (n : Nat) (W : World) : Lst10 n W none [] := ⟨fun j u hj => (by cases hj), fun p e => (by cases e)⟩
theorem Lst10.below (h : Lst10 n W A l) (hb : Below W.heap.size W W') : Lst10 n W' A l := ⟨h.at'.keep hb, h.own⟩
theorem Lst10.alloc (h : Lst10 n W A l) (o : Obj) : Lst10 n (W.alloc o) A l := h.below ((Below.refl _ _).alloc (Nat.le_refl _) _)
theorem Lst10.far (h : Lst10 n W A l) {p : Addr} (hp : p.block < n) (v : Value) : Lst10 n (W.setCell p v) A l :=
  ⟨h.at'.apart10 (grownSetG W p v) (fun q e e2 => by have h1 := h.own q e; have h2 := Option.some.inj e2; omega), h.own⟩
theorem Lst10.drewN (h : Lst10 n W A l) (m : Nat) : Lst10 n (W.drewN m) A l := ⟨h.at', h.own⟩
theorem Lst10.mono {m : Nat} (h : Lst10 n W A l) (hm : m ≤ n) : Lst10 m W A l := ⟨h.at', fun p e => Nat.le_trans hm (h.own p e)⟩
end
theorem aggL10 (w : World) : (isAgg 24).run Try.prog w = .ok false w := by go_simp
theorem aggI10 (w : World) : (isAgg 3).run Try.prog w = .ok false w := by go_simp
theorem aggE10 (w : World) : (isAgg 32).run Try.prog w = .ok false w := by go_simp
theorem results_sss10 {fn : Func} {s p u : Tmp} {t0 t1 t2 : TypeId} (h : fn.results = #[.cell s t0, .cell p t1, .cell u t2]) (tmps : Array Value) (P : Program) (w : World) (g0 g1 g2 : Nat) (y0 y1 y2 : Value) (T0 T1 T2 : TypeId)
    (hs : tmps.getD s undef = .pointer (some ⟨g0, 0, none⟩)) (hp : tmps.getD p undef = .pointer (some ⟨g1, 0, none⟩)) (hu : tmps.getD u undef = .pointer (some ⟨g2, 0, none⟩))
    (i0 : Is w g0 T0 #[y0]) (i1 : Is w g1 T1 #[y1]) (i2 : Is w g2 T2 #[y2]) (a0 : (isAgg t0).run P w = .ok false w) (a1 : (isAgg t1).run P w = .ok false w) (a2 : (isAgg t2).run P w = .ok false w) :
    (results fn tmps).run P w = .ok (.tuple #[y0, y1, y2]) w := by
  have e : (results fn tmps).run P w = ((asAddr (tmps.getD s undef)).run P w).andThen fun b w0 => ((loadVar t0 b).run P w0).andThen fun v0 w1 => ((asAddr (tmps.getD p undef)).run P w1).andThen fun b w2 => ((loadVar t1 b).run P w2).andThen fun v1 w3 =>
      ((asAddr (tmps.getD u undef)).run P w3).andThen fun b w4 => ((loadVar t2 b).run P w4).andThen fun v2 w5 => .ok (.tuple #[v0, v1, v2]) w5 := by
    simp only [results, h]
    simp [Sem.run_bind, Result.andThen]
  have c0 := i0.cell 0
  have c1 := i1.cell 0
  have c2 := i2.cell 0
  have l0 : (loadVar t0 ⟨g0, 0, none⟩).run P w = .ok y0 w := by
    simp only [loadVar, Sem.run_bind, a0, Result.andThen_ok]
    simp [go_sem, c0]
  have l1 : (loadVar t1 ⟨g1, 0, none⟩).run P w = .ok y1 w := by
    simp only [loadVar, Sem.run_bind, a1, Result.andThen_ok]
    simp [go_sem, c1]
  have l2 : (loadVar t2 ⟨g2, 0, none⟩).run P w = .ok y2 w := by
    simp only [loadVar, Sem.run_bind, a2, Result.andThen_ok]
    simp [go_sem, c2]
  rw [e, hs, hp, hu]
  simp [asAddr, l0, l1, l2]
/-- the three cells of the answer, and what else the call has made. -/
structure Res10 (w W : World) (n : Nat) (y0 y1 y2 : Value) : Prop where
  c0 : Is W n 24 #[y0]
  c1 : Is W (n + 1) 3 #[y1]
  c2 : Is W (n + 1 + 1) 32 #[y2]
  below : Below n w W
section
variable {w W W' : World} {n : Nat} {y0 y1 y2 : Value}
theorem Res10.step (h : Res10 w W n y0 y1 y2) (hb : Below W.heap.size W W') (hn : n ≤ W.heap.size) : Res10 w W' n y0 y1 y2 :=
  ⟨h.c0.below hb h.c0.lt, h.c1.below hb h.c1.lt, h.c2.below hb h.c2.lt, h.below.trans (hb.mono hn)⟩
theorem Res10.alloc (h : Res10 w W n y0 y1 y2) (o : Obj) : Res10 w (W.alloc o) n y0 y1 y2 := h.step ((Below.refl _ _).alloc (Nat.le_refl _) _) (by have := h.c0.lt; omega)
theorem Res10.set3 (h : Res10 w W n y0 y1 y2) (z0 z1 z2 : Value) : Res10 w (((W.setCell ⟨n, 0, none⟩ z0).setCell ⟨n + 1, 0, none⟩ z1).setCell ⟨n + 1 + 1, 0, none⟩ z2) n z0 z1 z2 :=
  ⟨((h.c0.set 0 z0).far (by simp) _).far (by simp; omega) _, ((h.c1.far (by simp) _).set 0 z1).far (by simp) _, ((h.c2.far (by simp; omega) _).far (by simp) _).set 0 z2,
    ((h.below.setCell (p := ⟨n, 0, none⟩) (Nat.le_refl _) _).setCell (p := ⟨n + 1, 0, none⟩) (by simp) _).setCell (p := ⟨n + 1 + 1, 0, none⟩) (by simp; omega) _⟩
end
theorem flW10 (w : World) : Res10 w (((w.alloc (.cells #[.slice none 0 0] 24)).alloc (.cells #[.int .i64 0] 3)).alloc (.cells #[.int .i64 0] 32)) w.heap.size (.slice none 0 0) (.int .i64 0) (.int .i64 0) :=
  ⟨((Is.new w _ _).alloc _).alloc _, Is.alloc (heap_alloc2_new w _ _) _, by
    have := Is.new ((w.alloc (.cells #[.slice none 0 0] 24)).alloc (.cells #[.int .i64 0] 3)) 32 #[.int .i64 0]
    simpa using this, (((Below.refl _ _).alloc (Nat.le_refl _) _).alloc (by simp) _).alloc (by simp; omega) _⟩
def flR10 (s : ByteArray) (A : Option Addr) (c : Nat) : Value := .tuple #[.slice A (tlV10 s 0).1.length c, .int .i64 (tlV10 s 0).2.1, .int .i64 (tlV10 s 0).2.2]

set_option maxRecDepth 100000 in
set_option maxHeartbeats 4000000 in
theorem flist_no10 (s : ByteArray) (w : World) (h : s.size ≤ 65536) (h0 : (tnV10 s 0).2.2 ≠ 0 ∨ 1000 < (tnV10 s 0).1) :
    Calls Try.prog 74 #[.string s] w fun e w' => ∃ A c, e = .returned (flR10 s A c) ∧ Lst10 w.heap.size w' A (tlV10 s 0).1 ∧ Below w.heap.size w w' := by
  have HN := fnum_any10 s
  have hR := flW10 w
  by_cases h1 : (tnV10 s 0).2.2 = 0
  · obtain ⟨hN, hb⟩ := tn_ok10 h1
    have h2 : 1000 < (tnV10 s 0).1 := by rcases h0 with h0 | h0; exact absurd h1 h0; exact h0
    have hv : tlV10 s 0 = ([], 0, 13) := by rw [tlV10, if_pos h1, if_pos h2]
    have HV := Lib.hid hv
    have HA := Lib.hid (show flR10 s none 0 = .tuple #[.slice none 0 0, .int .i64 0, .int .i64 13] by rw [flR10, hv]; rfl)
    simp only [fnR10, hb, h1] at HN
    have HNN := Lib.hid (fun w => HN w h)
    have hbd := hN.bd.1
    generalize (tnV10 s 0).1 = n at *
    clear hN hb hv h0 h1 HN h
    go_enter Try.func74, Try.ntmps74
    go_wp2_with fail
    generalize ((w.alloc (.cells #[.slice none 0 0] 24)).alloc (.cells #[.int .i64 0] 3)).alloc (.cells #[.int .i64 0] 32) = W1 at *
    refine (HNN.out _).mono ?_
    rintro e W1 ⟨rfl, rfl⟩
    have hR2 := hR.alloc (.cells #[.int .i64 4] 3)
    have c0 : (W1.alloc (.cells #[.int .i64 4] 3)).cell? ⟨w.heap.size, 0, none⟩ = some (.slice none 0 0) := hR2.c0.cell 0
    have c1 : (W1.alloc (.cells #[.int .i64 4] 3)).cell? ⟨w.heap.size + 1, 0, none⟩ = some (.int .i64 0) := hR2.c1.cell 0
    have c2 : (W1.alloc (.cells #[.int .i64 4] 3)).cell? ⟨w.heap.size + 1 + 1, 0, none⟩ = some (.int .i64 0) := hR2.c2.cell 0
    have f0 := hR2.c0.frozen 0
    have f1 := hR2.c1.frozen 0
    have f2 := hR2.c2.frozen 0
    go_wp2
    have hR3 := hR2.set3 (.slice none 0 0) (.int .i64 0) (.int .i64 13)
    exact bodyPost_ret (results_sss10 Try.results74 _ _ _ w.heap.size (w.heap.size + 1) (w.heap.size + 1 + 1) (.slice none 0 0) (.int .i64 0) (.int .i64 13) 24 3 32 rfl rfl rfl hR3.c0 hR3.c1 hR3.c2 (aggL10 _) (aggI10 _) (aggE10 _)) rfl
      ⟨none, 0, congrArg Ending.returned HA.out.symm, by rw [HV.out]; exact Lst10.nil _ _, hR3.below⟩
  · have hk := tn_keep10 h1
    have hv : tlV10 s 0 = ([], 0, (tnV10 s 0).2.2) := by rw [tlV10, if_neg h1]
    have HV := Lib.hid hv
    have HA := Lib.hid (show flR10 s none 0 = .tuple #[.slice none 0 0, .int .i64 0, .int .i64 (tnV10 s 0).2.2] by rw [flR10, hv]; rfl)
    simp only [fnR10] at HN
    rw [hk] at HN
    have HNN := Lib.hid (fun w => HN w h)
    generalize (tnV10 s 0).2.2 = e0 at *
    clear hv hk h0 HN h
    go_enter Try.func74, Try.ntmps74
    go_wp2_with fail
    generalize ((w.alloc (.cells #[.slice none 0 0] 24)).alloc (.cells #[.int .i64 0] 3)).alloc (.cells #[.int .i64 0] 32) = W1 at *
    refine (HNN.out _).mono ?_
    rintro e W1 ⟨rfl, rfl⟩
    have hR2 := hR.alloc (.cells #[.int .i64 0] 3)
    have c0 : (W1.alloc (.cells #[.int .i64 0] 3)).cell? ⟨w.heap.size, 0, none⟩ = some (.slice none 0 0) := hR2.c0.cell 0
    have c1 : (W1.alloc (.cells #[.int .i64 0] 3)).cell? ⟨w.heap.size + 1, 0, none⟩ = some (.int .i64 0) := hR2.c1.cell 0
    have c2 : (W1.alloc (.cells #[.int .i64 0] 3)).cell? ⟨w.heap.size + 1 + 1, 0, none⟩ = some (.int .i64 0) := hR2.c2.cell 0
    have f0 := hR2.c0.frozen 0
    have f1 := hR2.c1.frozen 0
    have f2 := hR2.c2.frozen 0
    go_wp2
    have hR3 := hR2.set3 (.slice none 0 0) (.int .i64 0) (.int .i64 e0)
    exact bodyPost_ret (results_sss10 Try.results74 _ _ _ w.heap.size (w.heap.size + 1) (w.heap.size + 1 + 1) (.slice none 0 0) (.int .i64 0) (.int .i64 e0) 24 3 32 rfl rfl rfl hR3.c0 hR3.c1 hR3.c2 (aggL10 _) (aggI10 _) (aggE10 _)) rfl
      ⟨none, 0, congrArg Ending.returned HA.out.symm, by rw [HV.out]; exact Lst10.nil _ _, hR3.below⟩
end Go.Proofs.Ytapfbcpbiagogaa
