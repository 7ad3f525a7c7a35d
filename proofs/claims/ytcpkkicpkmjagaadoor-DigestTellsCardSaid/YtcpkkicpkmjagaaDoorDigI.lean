/-
  Contracts of digest.blocks (the iterator over a text's whole blocks) and digest.mixAll. Conditions: the text is no longer than memory allows; the tables hold what their initialisers lay.
-/
import Derived.RangeFuncNested
import Derived.RangeFuncBound
import Derived.RangeFuncCalls
import Derived.RangeFuncLeaves
import Derived.Shelf.Abstract
import Derived.Shelf.RegionOpen
import Derived.OwnWalkIn
import Derived.TacticsInMore
import Derived.LoopNIn
import Derived.LoopIn
import Derived.Test.YtcpkkicpkmjagaaDoorDigM
namespace Go.Proofs.YtcpkkicpkmjagaaDoor
open Go.RowKit Go.Shelf
attribute [local go_sem] Oper.semAt_some

/-- a block: 64 bytes. -/
abbrev B64 := { x : ByteArray // x.size = 64 }
/-- the block at a place. -/
def blk (s : ByteArray) (j : Nat) : B64 :=
  if h : j * 64 + 64 ≤ s.size then ⟨s.extract (j * 64) (j * 64 + 64), by simp; omega⟩ else ⟨⟨Array.replicate 64 0⟩, by simp [ByteArray.size]⟩
def blks (s : ByteArray) (k : Nat) : List B64 := (List.range k).map (blk s)
theorem blks_succ (s : ByteArray) (k : Nat) : blks s (k + 1) = blks s k ++ [blk s k] := by simp [blks, List.range_succ]
def mixL (h : S8) (l : List B64) : S8 := l.foldl (fun h b => mixS h b.1) h
theorem mixL_snoc (h : S8) (l : List B64) (b : B64) : mixL h (l ++ [b]) = mixS (mixL h l) b.1 := by simp [mixL]
/-- what all whole blocks of a text make of eight words. -/
def mixT (h : S8) (s : ByteArray) : S8 := mixL h (blks s (s.size / 64))

/-- one block is as it was. -/
def SameAt (b : Nat) (W W' : World) : Prop := W'.heap[b]? = W.heap[b]?
theorem Is.kept {W W' : World} {g : Nat} {t : TypeId} {cs : Array Value} {row : Option Nat} (h : Is W g t cs) (hg : W.grownBy W' row) (hr : ∀ r, row = some r → ∃ o : Obj, W.heap[r]? = some o ∧ o.isCells = false) : Is W' g t cs :=
  (grownBy_keeps_cells hg hr h rfl).trans h
theorem keeps_of_below {W W' : World} (h : Below W.heap.size W W') : KeepsOthers W W' :=
  ⟨h.size, fun k _ hk _ => (h.block k (Array.getElem?_eq_some_iff.1 hk).1).trans hk⟩

set_option maxRecDepth 100000 in
set_option maxHeartbeats 1000000 in
theorem blocks1_in (F : Fence) (n : Nat) (h6 : F.fn 62) (hro : F.round = none) (hn : 1 ≤ n) (l Bn : Nat) (s : ByteArray) (hs : s.size ≤ 9223372036854775000) (J Jx : List B64 → World → Prop)
    (hY : ∀ pre x W, J pre W → pre.length < s.size / 64 → YieldAt F (n - 1) Tryd.prog l #[.string x.1] W fun e W' =>
      (e = .returned (.bool true) ∧ J (pre ++ [x]) W' ∧ SameAt Bn W W') ∨ (e = .returned (.bool false) ∧ Jx (pre ++ [x]) W'))
    (W : World) (hBn : W.cell? ⟨Bn, 0, none⟩ = some (.string s)) (h0 : J [] W) :
    CallsIn F n Tryd.prog 62 #[.func (.yield l) #[] #[], .pointer (some ⟨Bn, 0, none⟩)] W fun e W' => (∃ v, e = .returned v) ∧
      ((∃ ys, ys = blks s (s.size / 64) ∧ J ys W') ∨ (∃ pre, True ∧ Jx pre W')) := by
  refine callsIn_of_wp Tryd.func62 rfl h6 ?_ hro
  simp only [Tryd.ntmps62, List.size_toArray, List.length_cons, List.length_nil, Nat.reduceAdd, Nat.reduceSub, Array.replicate_succ, Array.replicate_zero, List.push_toArray, List.append_toArray, List.nil_append, List.cons_append]
  gi_wp2
  gi_loopw [3] (fun p wr => ∃ k : Nat, p = .int .i64 ((k * 64 : Nat) : Int) ∧ k * 64 ≤ s.size ∧ wr.cell? ⟨Bn, 0, none⟩ = some (.string s) ∧ J (blks s k) wr)
    (fun p _ => s.size - (intOf p).toNat)
  case atStart =>
    exact ⟨0, rfl, by omega, hBn, h0⟩
  case round =>
    obtain ⟨k, rfl, hk, hc, hJ⟩ := hrel
    obtain ⟨p, hp⟩ : ∃ p, p = k * 64 := ⟨_, rfl⟩
    rw [← hp] at hk ⊢
    by_cases hle : p + 64 ≤ s.size
    · have hb : (blk s k).1 = s.extract p (p + 64) := by
        unfold blk
        rw [dif_pos (by omega)]
        show s.extract (k * 64) (k * 64 + 64) = _
        rw [hp]
      obtain ⟨fn, tmps, assign, body, hy, hR⟩ := hY (blks s k) (blk s k) wr hJ (by simp [blks]; omega)
      rw [hb] at hy
      have HP := Lib.hid hp
      have HB := Lib.hid hb
      clear hp hb
      have HR := Lib.hid hR
      clear hR
      have hi1 : (p : Int) + 64 ≤ (s.size : Int) := by omega
      have hsl : ∀ wx : World, (Instr.slice 9 (.string s) (some (.int .i64 (p : Int))) (some (.int .i64 ((p : Int) + 64))) none).run Tryd.prog wx = .ok (.string (s.extract p (p + 64))) wx := fun wx => by
        have := run_slice_string (P := Tryd.prog) (w := wx) 9 s .i64 .i64 (p : Int) ((p : Int) + 64) Tryd.underlying9 (by omega) (by omega) (by omega)
        rw [show ((p : Int) + 64).toNat = p + 64 by omega, Int.toNat_natCast] at this
        exact this
      gi_wp2
      refine HR.out.mono ?_
      rintro e W3 (⟨rfl, hJ3, hk3⟩ | ⟨rfl, hJx3⟩)
      · have hc3 : W3.cell? ⟨Bn, 0, none⟩ = some (.string s) := (World.cell?_of_block (w := wr) (a := ⟨Bn, 0, none⟩) hk3).trans hc
        gi_wp2
        go_roundw
        case rel =>
          refine ⟨k + 1, ?_, ?_, hc3, ?_⟩
          · have := HP.out; rw [show (k + 1) * 64 = p + 64 by omega]; rfl
          · have := HP.out; omega
          · rw [blks_succ]; exact hJ3
        case measure => simp [intOf]; omega
      · gi_wp2
        refine bodyPost_ret (results_none rfl _ _ _) rfl ?_
        exact ⟨⟨_, rfl⟩, .inr ⟨_, trivial, hJx3⟩⟩
    · have hi1 : ¬ (p : Int) + 64 ≤ (s.size : Int) := by omega
      have he : blks s (s.size / 64) = blks s k := by rw [show s.size / 64 = k by omega]
      have HE := Lib.hid he
      clear he hp
      gi_wp2
      go_end0
      exact ⟨⟨_, rfl⟩, .inl (by rw [HE.out]; exact hJ)⟩

set_option maxHeartbeats 1000000 in
theorem blocks_in (F : Fence) (n : Nat) (h5 : F.fn 53) (hro : F.round = none) (s : ByteArray) (w : World) :
    CallsIn F n Tryd.prog 53 #[.string s] w fun e w' => e = .returned (.func (.func 62) #[] #[.pointer (some ⟨w.heap.size, 0, none⟩)]) ∧ w' = w.alloc (.cells #[.string s] 9) := by
  refine callsIn_of_wp Tryd.func53 rfl h5 ?_ hro
  simp only [Tryd.ntmps53, List.size_toArray, List.length_cons, List.length_nil, Nat.reduceAdd, Nat.reduceSub, Array.replicate_succ, Array.replicate_zero, List.push_toArray, List.append_toArray, List.nil_append, List.cons_append]
  gi_wp2
  go_ret
  exact ⟨rfl, rfl⟩

theorem blocks_stops (F : Fence) (n : Nat) (h6 : F.fn 62) (hro : F.round = none) (hn : 1 ≤ n) (Bn : Nat) (s : ByteArray) (hs : s.size ≤ 9223372036854775000) (w : World) (hBn : Bn < w.heap.size)
    (hc : w.cell? ⟨Bn, 0, none⟩ = some (.string s)) :
    SeqStopsK F n Tryd.prog 62 #[.pointer (some ⟨Bn, 0, none⟩)] (fun x : B64 => #[Value.string x.1]) (SameAt Bn) (fun ys => ys = blks s (s.size / 64)) (fun _ => True) (s.size / 64) w := fun l J Jx W hW _ _ hY h0 =>
  blocks1_in F n h6 hro hn l Bn s hs J Jx hY W ((hW.cell (p := ⟨Bn, 0, none⟩) hBn).trans hc) h0

set_option maxRecDepth 100000 in
set_option maxHeartbeats 1000000 in
theorem mixAll_any (h : S8) (s : ByteArray) (w : World) (hs : s.size ≤ 9223372036854775000) (hT : Tab w) :
    Calls Tryd.prog 39 #[.agg h.arr, .string s] w fun e w' => e = .returned (.agg (mixT h s).arr) ∧ Below w.heap.size w w' := by
  refine (callsIn_wide (n := 5)).1 ?_
  refine callsIn_of_wp_marks Tryd.func39 rfl trivial ?_ rfl
  simp only [Tryd.ntmps39, List.size_toArray, List.length_cons, List.length_nil, Nat.reduceAdd, Nat.reduceSub, Array.replicate_succ, Array.replicate_zero, List.push_toArray, List.append_toArray, List.nil_append, List.cons_append]
  gi_wp2_with (refine ⟨trivial, ?_⟩; gi_at_call 53; refine (blocks_in Fence.wide _ trivial rfl _ _).mono ?_; rintro e w' ⟨rfl, rfl⟩)
  have i0 : Is (((w.alloc (.cells h.arr 23)).alloc (.cells (S8.mk 0 0 0 0 0 0 0 0).arr 23)).alloc (.cells #[.string s] 9)) w.heap.size 23 h.arr := ((Is.new w _ _).alloc _).alloc _
  have i1 : Is (((w.alloc (.cells h.arr 23)).alloc (.cells (S8.mk 0 0 0 0 0 0 0 0).arr 23)).alloc (.cells #[.string s] 9)) (w.heap.size + 1) 23 (S8.mk 0 0 0 0 0 0 0 0).arr := Is.alloc (heap_alloc2_new w _ _) _
  have i2 : Is (((w.alloc (.cells h.arr 23)).alloc (.cells (S8.mk 0 0 0 0 0 0 0 0).arr 23)).alloc (.cells #[.string s] 9)) (w.heap.size + 1 + 1) 9 #[.string s] := by
    have := Is.new ((w.alloc (.cells h.arr 23)).alloc (.cells (S8.mk 0 0 0 0 0 0 0 0).arr 23)) 9 #[.string s]
    simpa using this
  have hB0 : Below w.heap.size w (((w.alloc (.cells h.arr 23)).alloc (.cells (S8.mk 0 0 0 0 0 0 0 0).arr 23)).alloc (.cells #[.string s] 9)) := (((Below.refl _ _).alloc (Nat.le_refl _) _).alloc (by simp) _).alloc (by simp; omega) _
  have hsz : (((w.alloc (.cells h.arr 23)).alloc (.cells (S8.mk 0 0 0 0 0 0 0 0).arr 23)).alloc (.cells #[.string s] 9)).heap.size = w.heap.size + 1 + 1 + 1 := by simp
  change Code.wpIn _ _ _ _ _ _ (((w.alloc (.cells h.arr 23)).alloc (.cells (S8.mk 0 0 0 0 0 0 0 0).arr 23)).alloc (.cells #[.string s] 9))
  generalize ((w.alloc (.cells h.arr 23)).alloc (.cells (S8.mk 0 0 0 0 0 0 0 0).arr 23)).alloc (.cells #[.string s] 9) = W0 at *
  have HSZ := Lib.hid hsz
  clear hsz
  refine wpIn_rangeFunc_ownF rfl (by omega) (gf := 62) (lb := #[.pointer (some ⟨w.heap.size + 1 + 1, 0, none⟩)]) rfl trivial (enters_of Tryd.func62 (by kernel_rfl) rfl)
    (blocks_stops Fence.wide _ trivial rfl (by omega) (w.heap.size + 1 + 1) s hs W0 (by rw [HSZ.out]; omega) (i2.cell 0)) (fun h1 h2 => Eq.trans h2 h1) (fun W l o o' hl _ _ _ => World.putObj_heap_other (by rw [HSZ.out] at hl; omega)) (Below.refl _ _) (fun _ => rfl)
    (fun pre W => (Is W w.heap.size 23 (mixL h pre).arr ∧ Is W (w.heap.size + 1) 23 (S8.mk 0 0 0 0 0 0 0 0).arr ∧ Is W (w.heap.size + 1 + 1) 9 #[.string s]) ∧ Below w.heap.size w W)
    (fun _ _ _ => False)
    (OwnFrom.and (fun s A B row hs hg hr => ⟨hs.1.kept hg (fun r e => (hr r e).2), hs.2.1.kept hg (fun r e => (hr r e).2), hs.2.2.kept hg (fun r e => (hr r e).2)⟩) (ownFrom_below (Nat.le_refl _) (by rw [HSZ.out]; omega)))
    (fun _ _ _ _ _ hs _ _ => hs)
    ⟨⟨i0, i1, i2⟩, hB0⟩
    (fun x => { tmps := #[.agg h.arr, .string s, .pointer (some ⟨w.heap.size, 0, none⟩), undef, .pointer (some ⟨w.heap.size + 1, 0, none⟩), .string x.1, .string s, .func (.func 62) #[] #[.pointer (some ⟨w.heap.size + 1 + 1, 0, none⟩)], .string x.1, undef, undef, undef, undef], defers := [] }) ?assign ?body ?done ?stop
  case assign =>
    intro l x W K hK
    gi_wp2
    exact hK
  case body =>
    rintro l pre x W ⟨⟨j0, j1, j2⟩, hB⟩ _
    have hTW : Tab W := hT.below hB hT.two
    generalize hm : mixL h pre = m at *
    have HM := Lib.hid hm
    clear hm
    have c0 := j0.cell 0
    have c1 := j0.cell 1
    have c2 := j0.cell 2
    have c3 := j0.cell 3
    have c4 := j0.cell 4
    have c5 := j0.cell 5
    have c6 := j0.cell 6
    have c7 := j0.cell 7
    gi_wp2_with (refine ⟨trivial, ?_⟩; gi_at_call 35; refine (CallsIn.inRound l (callsIn_wide.2 (mix_any m x.1 W x.2 hTW))).mono ?_; rintro e w2 ⟨rfl, hb2⟩; clear c0 c1 c2 c3 c4 c5 c6 c7; have k0 : Is w2 w.heap.size 23 m.arr := j0.below hb2 j0.lt; have c0 := k0.cell 0; have c1 := k0.cell 1; have c2 := k0.cell 2; have c3 := k0.cell 3; have c4 := k0.cell 4; have c5 := k0.cell 5; have c6 := k0.cell 6; have c7 := k0.cell 7; have f0 := k0.frozen 0; have f1 := k0.frozen 1; have f2 := k0.frozen 2; have f3 := k0.frozen 3; have f4 := k0.frozen 4; have f5 := k0.frozen 5; have f6 := k0.frozen 6; have f7 := k0.frozen 7)
    have hw2 : Below w.heap.size w w2 := hB.trans (hb2.mono hB.size)
    have k1 : Is w2 (w.heap.size + 1) 23 (S8.mk 0 0 0 0 0 0 0 0).arr := j1.below hb2 j1.lt
    have k2 : Is w2 (w.heap.size + 1 + 1) 9 #[.string s] := j2.below hb2 j2.lt
    refine ⟨(keeps_of_below hb2).trans ?_, ?_, ⟨⟨?_, k1.far8 (by omega) _, k2.far8 (by omega) _⟩, below8 hw2 (Nat.le_refl _) _⟩⟩
    · refine ((((((((KeepsOthers.setCell _ _ _).trans (KeepsOthers.setCell _ _ _)).trans (KeepsOthers.setCell _ _ _)).trans (KeepsOthers.setCell _ _ _)).trans (KeepsOthers.setCell _ _ _)).trans (KeepsOthers.setCell _ _ _)).trans (KeepsOthers.setCell _ _ _)).trans (KeepsOthers.setCell _ _ _))
    · exact (heap_set8 w2 w.heap.size (w.heap.size + 1 + 1) (mixS m x.1) (by omega)).trans (hb2.block _ j2.lt)
    · rw [mixL_snoc, HM.out]
      exact k0.set8 _
  case done =>
    rintro D ys W hD rfl ⟨⟨j0, j1, j2⟩, hB⟩ hK
    generalize hm : mixL h (blks s (s.size / 64)) = m at *
    have HM := Lib.hid hm
    clear hm
    have c0 := j0.cell 0
    have c1 := j0.cell 1
    have c2 := j0.cell 2
    have c3 := j0.cell 3
    have c4 := j0.cell 4
    have c5 := j0.cell 5
    have c6 := j0.cell 6
    have c7 := j0.cell 7
    have d0 := j1.cell 0
    have d1 := j1.cell 1
    have d2 := j1.cell 2
    have d3 := j1.cell 3
    have d4 := j1.cell 4
    have d5 := j1.cell 5
    have d6 := j1.cell 6
    have d7 := j1.cell 7
    have f0 := j1.frozen 0
    have f1 := j1.frozen 1
    have f2 := j1.frozen 2
    have f3 := j1.frozen 3
    have f4 := j1.frozen 4
    have f5 := j1.frozen 5
    have f6 := j1.frozen 6
    have f7 := j1.frozen 7
    gi_wp2
    rw [HSZ.out] at hD
    have hr : Is (set8 W (w.heap.size + 1) m) (w.heap.size + 1) 23 m.arr := j1.set8 m
    have hKr : (set8 W (w.heap.size + 1) m).heap[D]? = some (.deferred (some [])) := (heap_set8 W (w.heap.size + 1) D m (by omega)).trans hK
    have hBr : Below w.heap.size w (set8 W (w.heap.size + 1) m) := below8 hB (by omega) m
    change bodyPostM _ _ _ _ _ _ _ (set8 W (w.heap.size + 1) m)
    generalize set8 W (w.heap.size + 1) m = WR at *
    refine ⟨by simp, .inl ⟨_, _, rfl, run_takeDeferred hKr, ?_⟩⟩
    refine ⟨_, results_cell_row Tryd.results39 _ _ (w.heap.size + 1) 23 m.arr (0, 0) _ rfl ((World.putObj_heap_other (by omega)).trans hr) Tryd.underlying23 rfl (by kernel_rfl), by rw [mixT, HM.out], ?_⟩
    exact hBr.trans (belowK_b (w := w) (Nat.le_refl _) WR D _ _ (by omega) hKr rfl rfl)
  case stop =>
    rintro D c pre W _ _ h _
    exact h.elim
end Go.Proofs.YtcpkkicpkmjagaaDoor
