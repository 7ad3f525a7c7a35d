/-
  Contracts of mac.parts (the iterator over the parts of what is derived) and mac.Derive. Conditions: keys and names of at most 1000 bytes, at most 4096 bytes asked for; the tables of layer 1 hold what their initialisers lay.
-/
import Derived.RangeFuncNested
import Derived.RangeFuncBound
import Derived.RangeFuncCalls
import Derived.RangeFuncLeaves
import Derived.Shelf.Abstract
import Derived.Shelf.RegionOpen
import Derived.OwnWalkIn
import Derived.TacticsInMore
import Derived.LoopNIn
import Derived.LoopIn
import Derived.Lib.BufStepsIn
import Derived.Lib.OthersKept
import Derived.Test.YtcpkkicpkmjagaaDoorMacB
namespace Go.Proofs.YtcpkkicpkmjagaaDoor
open Go.RowKit Go.Shelf
attribute [local go_sem] Oper.semAt_some

theorem wpListIn_load_row {F : Fence} {n : Nat} {P : Program} {ops : Array Oper} {rest : List Oper} {o : Oper} {a : Act} {w : World} {Q : Exit → Act → World → Prop} (hgd : o.guard = none) (ty : TypeId) (x : Operand) (ho : o.op = .load ty x)
    (g : Nat) (hx : a.eval x = .pointer (some ⟨g, 0, none⟩)) (t : TypeId) (cs : Array Value) (fr : Nat × Nat) (d : TypeDesc) (hg : w.heap[g]? = some (.cells cs t fr))
    (hu : P.underlying ty = some d) (hd : (match d with | .struct _ | .array _ _ => true | _ => false) = true) (hi : (P.info? ty).map (·.size) = some cs.size)
    (h : wpListIn F n P ops Q rest (a.put o.dst (.agg cs)) w) : wpListIn F n P ops Q (o :: rest) a w := by
  refine wpListIn_plain hgd fun K hK' => ?_
  unfold Oper.wpIn
  refine ⟨?_, ?_⟩
  · simp [Oper.about, ho]
  · rw [Oper.semAt_plain F _ _ (by rw [ho]; intro c hc'; cases hc')]
    simp only [execOp, ho, hx, Instr.loadAt, Instr.sureAddr, Sem.run_bind, Sem.run_pure, Result.andThen_ok, run_loadVar_row w g t ty cs fr d hg hu hd hi]
    exact hK' _ _ h

theorem grown_of_below {W W1 : World} (hb : Below W.heap.size W W1) : W.grownBy W1 none := ⟨hb.os, hb.tape, hb.output, hb.size, fun k hk _ => hb.block k hk⟩

/-- one byte. -/
def one8 (i : Int) : ByteArray := strOfNums [i]
theorem one8_size (i : Int) : (one8 i).size = 1 := by rw [one8, str_size]; rfl
/-- the parts of what is derived, an empty one first. -/
def tgs (X : List Int) (name : ByteArray) : Nat → ByteArray
  | 0 => ⟨#[]⟩
  | k + 1 => tagB X (tgs X name k ++ name ++ one8 ((k : Int) + 1))
theorem tgs_size (X : List Int) (name : ByteArray) (k : Nat) : (tgs X name k).size ≤ 32 := by
  cases k with
  | zero => simp [tgs, ByteArray.size]
  | succ k => rw [tgs, tagB_size]; omega
abbrev B32 := { x : ByteArray // x.size = 32 }
def prt (X : List Int) (name : ByteArray) (j : Nat) : B32 := ⟨tgs X name (j + 1), tagB_size _ _⟩
def prts (X : List Int) (name : ByteArray) (k : Nat) : List B32 := (List.range k).map (prt X name)
theorem prts_succ (X : List Int) (name : ByteArray) (k : Nat) : prts X name (k + 1) = prts X name k ++ [prt X name k] := by simp [prts, List.range_succ]
theorem prts_length (X : List Int) (name : ByteArray) (k : Nat) : (prts X name k).length = k := by simp [prts]

/-- what a round of Derive leaves alone. -/
def KpD (n0 Bn Bx Bs : Nat) (W W' : World) : Prop := Below n0 W W' ∧ SameAt Bn W W' ∧ SameAt Bx W W' ∧ SameAt Bs W W'

set_option maxRecDepth 100000 in
set_option maxHeartbeats 1000000 in
theorem parts1_in (n : Nat) (hn : 1 ≤ n) (l n0 Bn Bx Bs : Nat) (hn0 : 2 ≤ n0) (X : List Int) (hX : X.length = 64) (name : ByteArray) (hname : name.size ≤ 1000) (N : Nat) (hN : N ≤ 4096) (J Jx : List B32 → World → Prop)
    (W : World) (hJ : AbidesFrom W.heap.size J)
    (hY : ∀ pre x W, J pre W → pre.length < (N + 31) / 32 → YieldAt Fence.wide (n - 1) Tryd.prog l #[.string x.1] W fun e W' =>
      (e = .returned (.bool true) ∧ J (pre ++ [x]) W' ∧ KpD n0 Bn Bx Bs W W') ∨ (e = .returned (.bool false) ∧ Jx (pre ++ [x]) W'))
    (hT : Tab W) (hBn : Is W Bn 3 #[.int .i64 (N : Int)]) (hBx : Is W Bx 68 (byA X)) (hBs : Is W Bs 9 #[.string name]) (h0 : J [] W) :
    CallsIn Fence.wide n Tryd.prog 57 #[.func (.yield l) #[] #[], .pointer (some ⟨Bn, 0, none⟩), .pointer (some ⟨Bx, 0, none⟩), .pointer (some ⟨Bs, 0, none⟩)] W fun e W' => (∃ v, e = .returned v) ∧
      ((∃ ys, ys = prts X name ((N + 31) / 32) ∧ J ys W') ∨ (∃ pre, True ∧ Jx pre W')) := by
  have HX := Lib.hid hX
  clear hX
  have hXs : (Tryd.prog.info? 68).map (·.size) = some (byA X).size := by rw [byA_size, HX.out]; kernel_rfl
  have HXs := Lib.hid hXs
  clear hXs
  refine callsIn_of_wp Tryd.func57 rfl trivial ?_ rfl
  simp only [Tryd.ntmps57, List.size_toArray, List.length_cons, List.length_nil, Nat.reduceAdd, Nat.reduceSub, Array.replicate_succ, Array.replicate_zero, List.push_toArray, List.append_toArray, List.nil_append, List.cons_append]
  gi_wp2
  gi_loopw [5, 6] (fun ah i wr => ∃ k : Nat, ah = .string (tgs X name k) ∧ i = .int .i64 ((k : Int) + 1) ∧ k ≤ (N + 31) / 32 ∧ Tab wr ∧ Is wr Bn 3 #[.int .i64 (N : Int)] ∧ Is wr Bx 68 (byA X) ∧ Is wr Bs 9 #[.string name] ∧ J (prts X name k) wr)
    (fun _ i _ => 4200 - (intOf i).toNat)
  case atStart =>
    exact ⟨0, rfl, rfl, by omega, hT, hBn, hBx, hBs, h0⟩
  case round =>
    clear hT hBn hBx hBs h0
    obtain ⟨k, rfl, rfl, hk, hT, hBn, hBx, hBs, hJk⟩ := hrel
    have cn := hBn.cell 0
    have cs := hBs.cell 0
    have hts := tgs_size X name k
    by_cases hlt : k * 32 < N
    · have hl1 : (k : Int) * 32 < (N : Int) := by omega
      have hst : tgs X name (k + 1) = tagB X (tgs X name k ++ name ++ one8 ((k : Int) + 1)) := rfl
      generalize tgs X name k = ah at *
      have HST := Lib.hid hst
      clear hst
      have n1 : ¬ (9223372036854775807 < ah.size + name.size) := by omega
      have n2 : ¬ (9223372036854775807 < (ah ++ name).size + (one8 ((k : Int) + 1)).size) := by rw [ByteArray.size_append, one8_size]; omega
      have n3 : (ah ++ name ++ one8 ((k : Int) + 1)).size ≤ 1048512 := by rw [ByteArray.size_append, ByteArray.size_append, one8_size]; omega
      have hcv := run_convert_bytes_arg (P := Tryd.prog) (wr.alloc (.cells #[.int .u8 ((k : Int) + 1)] 5)) 42 5 Tryd.underlying42 Tryd.underlying5 wr.heap.size 0 1 1 [(k : Int) + 1] rfl (fun i hi => by
        obtain rfl : i = 0 := by omega
        exact (Is.new wr 5 #[.int .u8 ((k : Int) + 1)]).cell 0) 9 Tryd.underlying9
      change _ = Result.ok (Value.string (one8 ((k : Int) + 1))) _ at hcv
      have N3 := Lib.hid n3
      clear n3
      gi_wp2_with (first
        | (refine wpListIn_load_row rfl 68 _ rfl Bx rfl _ _ _ _ hBx Tryd.underlying68 rfl HXs.out ?_)
        | (refine ⟨trivial, ?_⟩; gi_at_call 44; refine (callsIn_wide.2 (tag_any X _ _ (hT.below ((Below.refl wr.heap.size wr).alloc (Nat.le_refl _) _) hT.two) HX.out N3.out)).mono ?_; rintro e w1 ⟨rfl, hb1⟩; have hB1 : Below wr.heap.size wr w1 := ((Below.refl _ _).alloc (Nat.le_refl _) _).trans (hb1.mono (by simp)); have hJ1 : J (prts X name k) w1 := hJ _ _ _ none hJk (grown_of_below hB1) (fun r e => by cases e); obtain ⟨fn, tmps, assign, body, hy, hR⟩ := hY (prts X name k) (prt X name k) w1 hJ1 (by rw [prts_length]; omega); rw [show (prt X name k).1 = tgs X name (k + 1) from rfl, HST.out] at hy; generalize tagB X (ah ++ name ++ one8 ((k : Int) + 1)) = tg at hy HST ⊢; have HR := Lib.hid hR; clear hR hb1 hcv))
      refine HR.out.mono ?_
      rintro e W3 (⟨rfl, hJ3, hk3⟩ | ⟨rfl, hJx3⟩)
      · obtain ⟨hk0, hk1, hk2, hk4⟩ := hk3
        have jn : Is W3 Bn 3 #[.int .i64 (N : Int)] := hk1.trans (hBn.below hB1 hBn.lt)
        have jx : Is W3 Bx 68 (byA X) := hk2.trans (hBx.below hB1 hBx.lt)
        have js : Is W3 Bs 9 #[.string name] := hk4.trans (hBs.below hB1 hBs.lt)
        have hT3 : Tab W3 := (hT.below hB1 hT.two).below hk0 hn0
        gi_wp2
        go_roundw
        case rel =>
          refine ⟨k + 1, by rw [HST.out], by go_num, by omega, hT3, jn, jx, js, ?_⟩
          rw [prts_succ]; exact hJ3
        case measure => simp [intOf]; omega
      · gi_wp2
        refine bodyPost_ret (results_none rfl _ _ _) rfl ?_
        exact ⟨⟨_, rfl⟩, .inr ⟨_, trivial, hJx3⟩⟩
    · have hl1 : ¬ (k : Int) * 32 < (N : Int) := by omega
      have he : prts X name ((N + 31) / 32) = prts X name k := by rw [show (N + 31) / 32 = k by omega]
      have HE := Lib.hid he
      clear he
      gi_wp2
      go_end0
      exact ⟨⟨_, rfl⟩, .inl (by rw [HE.out]; exact hJk)⟩

set_option maxRecDepth 100000 in
set_option maxHeartbeats 1000000 in
theorem parts_in (n : Nat) (X : List Int) (name : ByteArray) (N : Int) (w : World) :
    CallsIn Fence.wide n Tryd.prog 48 #[.agg (byA X), .string name, .int .i64 N] w fun e w' => e = .returned (.func (.func 57) #[] #[.pointer (some ⟨w.heap.size + 1 + 1, 0, none⟩), .pointer (some ⟨w.heap.size, 0, none⟩), .pointer (some ⟨w.heap.size + 1, 0, none⟩)]) ∧
      w' = ((w.alloc (.cells (byA X) 68)).alloc (.cells #[.string name] 9)).alloc (.cells #[.int .i64 N] 3) := by
  generalize byA X = R
  refine callsIn_of_wp Tryd.func48 rfl trivial ?_ rfl
  simp only [Tryd.ntmps48, List.size_toArray, List.length_cons, List.length_nil, Nat.reduceAdd, Nat.reduceSub, Array.replicate_succ, Array.replicate_zero, List.push_toArray, List.append_toArray, List.nil_append, List.cons_append]
  gi_wp2
  go_ret
  exact ⟨rfl, rfl⟩

theorem parts_stops (n : Nat) (hn : 1 ≤ n) (n0 Bn Bx Bs : Nat) (hn0 : 2 ≤ n0) (X : List Int) (hX : X.length = 64) (name : ByteArray) (hname : name.size ≤ 1000) (N : Nat) (hN : N ≤ 4096) (w : World)
    (hT : Tab w) (hBn : Is w Bn 3 #[.int .i64 (N : Int)]) (hBx : Is w Bx 68 (byA X)) (hBs : Is w Bs 9 #[.string name]) :
    SeqStopsK Fence.wide n Tryd.prog 57 #[.pointer (some ⟨Bn, 0, none⟩), .pointer (some ⟨Bx, 0, none⟩), .pointer (some ⟨Bs, 0, none⟩)] (fun x : B32 => #[Value.string x.1]) (KpD n0 Bn Bx Bs) (fun ys => ys = prts X name ((N + 31) / 32)) (fun _ => True) ((N + 31) / 32) w := fun l J Jx W hW hJ _ hY h0 =>
  parts1_in n hn l n0 Bn Bx Bs hn0 X hX name hname N hN J Jx W hJ hY (hT.below hW hT.two) (hBn.below hW hBn.lt) (hBx.below hW hBx.lt) (hBs.below hW hBs.lt) h0

/-- all bytes of parts. -/
def flatL (l : List B32) : List Int := l.flatMap fun b => bytesL b.1
theorem flatL_snoc (l : List B32) (b : B32) : flatL (l ++ [b]) = flatL l ++ bytesL b.1 := by simp [flatL]
theorem flatL_length (l : List B32) : (flatL l).length = 32 * l.length := by
  induction l with
  | nil => rfl
  | cons b l ih =>
    have : flatL (b :: l) = bytesL b.1 ++ flatL l := rfl
    rw [this, List.length_append, ih, bytesL_length, b.2, List.length_cons]; omega
/-- what is derived. -/
def drv (X : List Int) (name : ByteArray) (N : Nat) : ByteArray := strOfNums ((flatL (prts X name ((N + 31) / 32))).take N)

theorem rowF_kept {W W' : World} {base : Nat} {e : TypeId} {v : Value} {n : Nat} {xs : List Value} {row : Option Nat} (h : W.ownsRowF base e 1 v n xs) (hg : W.grownBy W' row) (hr : ∀ r, row = some r → ∃ o : Obj, W.heap[r]? = some o ∧ o.isCells = false) : W'.ownsRowF base e 1 v n xs := by
  refine h.kept hg ?_
  cases hv : v.ownBlock with
  | none => exact .inl rfl
  | some g =>
    refine .inr fun e => ?_
    obtain ⟨o, ho, hc⟩ := hr g e.symm
    obtain ⟨c, fz, hk⟩ := Lib.ownsRowF_kind h g hv
    rw [hk] at ho
    cases ho
    cases hc

theorem rowF_form {W : World} {base : Nat} {e : TypeId} {v : Value} {n : Nat} {xs : List Value} (h : W.ownsRowF base e 1 v n xs) (hn : 0 < n) : ∃ g cap, v = .slice (some ⟨g, 0, none⟩) n cap := by
  rcases h.2 with ⟨_, h0⟩ | ⟨g, cap, _, _, rfl, _⟩
  · omega
  · exact ⟨g, cap, rfl⟩
theorem keeps_of_grown {W W' : World} {row : Option Nat} (hg : W.grownBy W' row) (hr : ∀ r, row = some r → ∃ o : Obj, W.heap[r]? = some o ∧ o.isCells = true) : KeepsOthers W W' :=
  ⟨hg.size, fun k o hk ho => (hg.block k (Array.getElem?_eq_some_iff.1 hk).1 (fun e => by
    obtain ⟨o', h1, h2⟩ := hr k e.symm
    rw [hk] at h1
    cases h1
    rw [ho] at h2
    cases h2)).trans hk⟩
theorem grown_setCell (w : World) (p : Addr) (v : Value) : w.grownBy (w.setCell p v) (some p.block) :=
  ⟨rfl, rfl, rfl, by simp, fun k _ hne => heap_setCell_other w p k v (fun e => hne (by rw [e]))⟩
theorem strCells_bytesL (s : ByteArray) : Lib.strCells s = (bytesL s).map (Value.int .u8) := by simp [Lib.strCells, bytesL]
/-- what holds at the head of each round of Derive. -/
def ID (B Bo Bn Bx Bs : Nat) (X : List Int) (name : ByteArray) (N : Nat) (pre : List B32) (W : World) : Prop :=
  (∃ g cap, Is W Bo 42 #[.slice (some ⟨g, 0, none⟩) (32 * pre.length) cap] ∧ W.ownsRowF B 5 1 (.slice (some ⟨g, 0, none⟩) (32 * pre.length) cap) (32 * pre.length) ((flatL pre).map (Value.int .u8))) ∧
  Is W Bn 3 #[.int .i64 (N : Int)] ∧ Is W Bx 68 (byA X) ∧ Is W Bs 9 #[.string name]

set_option maxRecDepth 100000 in
set_option maxHeartbeats 1000000 in
theorem derive_ok (key name : ByteArray) (N : Nat) (w : World) (hT : Tab w) (hk : key.size ≤ 1000) (hname : name.size ≤ 1000) (hN : N ≤ 4096) :
    Calls Tryd.prog 29 #[.string key, .string name, .int .i64 (N : Int)] w fun e w' => e = .returned (.tuple #[.string (drv (keyL key) name N), .int .i64 0]) ∧ Below w.heap.size w w' := by
  obtain ⟨i0, hi, hz0, hz1, hz2⟩ := info_parts infoByte
  have kb : ∀ w, Tab w → Calls Tryd.prog 45 #[.string key] w fun e w' => e = .returned (.agg (byA (keyL key))) ∧ Below w.heap.size w w' := fun w hT => keyBlock_any key w hT hk
  have hXl := keyL_length key
  generalize keyL key = X at *
  have KB := Lib.hid kb
  have HX := Lib.hid hXl
  clear kb hXl
  refine (callsIn_wide (n := 5)).1 ?_
  refine callsIn_of_wp_marks Tryd.func29 rfl trivial ?_ rfl
  simp only [Tryd.ntmps29, List.size_toArray, List.length_cons, List.length_nil, Nat.reduceAdd, Nat.reduceSub, Array.replicate_succ, Array.replicate_zero, List.push_toArray, List.append_toArray, List.nil_append, List.cons_append]
  have hN0 : (0 : Int) ≤ (N : Int) := by omega
  have hN1 : (N : Int) ≤ 4096 := by omega
  have d1 : decide (1000 < (key.size : Int)) = false := by simp; omega
  have d2 : decide (1000 < (name.size : Int)) = false := by simp; omega
  have d3 : decide ((N : Int) < 0) = false := by simp
  have d4 : decide (4096 < (N : Int)) = false := by simp; omega
  gi_wp2_with (first
    | (gi_at_make; refine wpListIn_make_own _ rfl _ _ 42 rfl w.heap.size 5 i0 (.int .u8 0) 1 Tryd.underlying42 hi hz0 hz1 .i64 .i64 ((N : Int) + 32) (N + 32) rfl rfl (by omega) (by rw [hz2]; omega) (by unfold maxLen; omega) (Nat.le_refl _) ?_; intro wm hown0 hg0; have hBm : Below w.heap.size w wm := (Below.refl _ _).grown hg0 (Nat.le_refl _) (fun k e => by cases e))
    | (refine ⟨trivial, ?_⟩; gi_at_call 45; refine (callsIn_wide.2 (KB.out _ (hT.below (hBm.alloc hBm.size _) hT.two))).mono ?_; rintro e W1 ⟨rfl, hb1⟩)
    | (refine ⟨trivial, ?_⟩; gi_at_call 48; refine (parts_in _ X name (N : Int) _).mono ?_; rintro e w' ⟨rfl, rfl⟩))
  have hBo : Below w.heap.size w (wm.alloc (.cells #[.slice (some ⟨w.heap.size, 0, none⟩) 0 (N + 32)] 42)) := hBm.alloc hBm.size _
  have hB1 : Below w.heap.size w W1 := hBo.trans (hb1.mono hBo.size)
  have iO1 : Is W1 wm.heap.size 42 #[.slice (some ⟨w.heap.size, 0, none⟩) 0 (N + 32)] := Is.below (Is.new wm _ _) hb1 (by simp)
  have hown1 : W1.ownsRowF w.heap.size 5 1 (.slice (some ⟨w.heap.size, 0, none⟩) 0 (N + 32)) 0 [] := rowF_kept ((World.ownsRowF_of hown0).alloc _) (grown_of_below hb1) (fun r e => by cases e)
  clear hb1 hBo hown0 hg0
  have iX := ((Is.new W1 68 (byA X)).alloc (.cells #[.string name] 9)).alloc (.cells #[.int .i64 (N : Int)] 3)
  have iS : Is (((W1.alloc (.cells (byA X) 68)).alloc (.cells #[.string name] 9)).alloc (.cells #[.int .i64 (N : Int)] 3)) (W1.heap.size + 1) 9 #[.string name] := Is.alloc (heap_alloc2_new W1 _ _) _
  have iN : Is (((W1.alloc (.cells (byA X) 68)).alloc (.cells #[.string name] 9)).alloc (.cells #[.int .i64 (N : Int)] 3)) (W1.heap.size + 1 + 1) 3 #[.int .i64 (N : Int)] := by
    have := Is.new ((W1.alloc (.cells (byA X) 68)).alloc (.cells #[.string name] 9)) 3 #[.int .i64 (N : Int)]
    simpa using this
  have iO := ((iO1.alloc (.cells (byA X) 68)).alloc (.cells #[.string name] 9)).alloc (.cells #[.int .i64 (N : Int)] 3)
  have hown := ((hown1.alloc (.cells (byA X) 68)).alloc (.cells #[.string name] 9)).alloc (.cells #[.int .i64 (N : Int)] 3)
  have hB0 : Below w.heap.size w (((W1.alloc (.cells (byA X) 68)).alloc (.cells #[.string name] 9)).alloc (.cells #[.int .i64 (N : Int)] 3)) := ((hB1.alloc hB1.size _).alloc (by have := hB1.size; simp; omega) _).alloc (by have := hB1.size; simp; omega) _
  have hsz : (((W1.alloc (.cells (byA X) 68)).alloc (.cells #[.string name] 9)).alloc (.cells #[.int .i64 (N : Int)] 3)).heap.size = W1.heap.size + 1 + 1 + 1 := by simp
  have hOl := iO1.lt
  change Code.wpIn _ _ _ _ _ _ (((W1.alloc (.cells (byA X) 68)).alloc (.cells #[.string name] 9)).alloc (.cells #[.int .i64 (N : Int)] 3))
  generalize ((W1.alloc (.cells (byA X) 68)).alloc (.cells #[.string name] 9)).alloc (.cells #[.int .i64 (N : Int)] 3) = W0 at *
  clear iO1 hown1 hB1
  obtain ⟨Bo, hBoe⟩ : ∃ Bo, Bo = wm.heap.size := ⟨_, rfl⟩
  obtain ⟨Bx, hBxe⟩ : ∃ Bx, Bx = W1.heap.size := ⟨_, rfl⟩
  obtain ⟨Bs, hBse⟩ : ∃ Bs, Bs = W1.heap.size + 1 := ⟨_, rfl⟩
  obtain ⟨Bn, hBne⟩ : ∃ Bn, Bn = W1.heap.size + 1 + 1 := ⟨_, rfl⟩
  have q1 : Bo < Bx := by omega
  have q2 : Bx < Bs := by omega
  have q3 : Bs < Bn := by omega
  have q4 : Bn < W0.heap.size := by omega
  rw [← hBne, ← hBse, ← hBxe, ← hBoe]
  rw [← hBoe] at iO
  rw [← hBxe] at iX
  rw [← hBse] at iS
  rw [← hBne] at iN
  have hOw0 : w.heap.size ≤ Bo := by rw [hBoe]; exact hBm.size
  have HBo := Lib.hid hOw0
  clear hBoe hBxe hBse hBne hsz hOl W1 hBm wm d1 d2 d3 d4 hOw0
  refine wpIn_rangeFunc_ownF rfl (by omega) (gf := 57) (lb := #[.pointer (some ⟨Bn, 0, none⟩), .pointer (some ⟨Bx, 0, none⟩), .pointer (some ⟨Bs, 0, none⟩)]) rfl trivial (enters_of Tryd.func57 (by kernel_rfl) rfl)
    (parts_stops _ (by omega) w.heap.size Bn Bx Bs hT.two X HX.out name hname N hN W0 (hT.below hB0 hT.two) iN iX iS)
    (fun h1 h2 => ⟨h1.1.trans h2.1, h2.2.1.trans h1.2.1, h2.2.2.1.trans h1.2.2.1, h2.2.2.2.trans h1.2.2.2⟩)
    (fun W l o o' hl h1 h2 h3 => ⟨belowK_b hB0.size W l o o' hl h1 h2 h3, World.putObj_heap_other (by omega), World.putObj_heap_other (by omega), World.putObj_heap_other (by omega)⟩) (Below.refl _ _) (fun _ => rfl)
    (fun pre W => ID w.heap.size Bo Bn Bx Bs X name N pre W ∧ Below w.heap.size w W)
    (fun _ _ _ => False)
    (OwnFrom.and (fun s A B row hs hg hr => by
      obtain ⟨⟨g, cap, h1, h2⟩, h3, h4, h5⟩ := hs
      exact ⟨⟨g, cap, h1.kept hg (fun r e => (hr r e).2), rowF_kept h2 hg (fun r e => (hr r e).2)⟩, h3.kept hg (fun r e => (hr r e).2), h4.kept hg (fun r e => (hr r e).2), h5.kept hg (fun r e => (hr r e).2)⟩) (ownFrom_below (Nat.le_refl _) hB0.size))
    (fun _ _ _ _ _ hs _ _ => hs)
    ⟨⟨⟨_, _, iO, hown⟩, iN, iX, iS⟩, hB0⟩
    (fun x => { tmps := #[.string key, .string name, .int .i64 (N : Int), undef, undef, undef, .string ⟨#[]⟩, .int .i64 0, .pointer (some ⟨Bo, 0, none⟩), .string x.1, .string key, .int .i64 (key.size : Int), .bool false, .bool false, .string name, .int .i64 (name.size : Int), .bool false, .bool false, .bool false, .int .i64 (N : Int), .bool false, .bool false, .bool false, .int .i64 (N : Int), .bool false, .bool false, .int .i64 (N : Int), .int .i64 ((N : Int) + 32), .slice (some ⟨w.heap.size, 0, none⟩) 0 (N + 32), .string key, .agg (byA X), .string name, .int .i64 (N : Int), .func (.func 57) #[] #[.pointer (some ⟨Bn, 0, none⟩), .pointer (some ⟨Bx, 0, none⟩), .pointer (some ⟨Bs, 0, none⟩)], .string x.1, undef, undef, undef, undef, undef, undef, undef], defers := [] }) ?assign ?body ?done ?stop
  case assign =>
    intro l x W K hK
    gi_wp2
    exact hK
  case body =>
    rintro l pre x W ⟨⟨⟨g, cap, jO, hw⟩, jN, jX, jS⟩, hB⟩ hpl
    have hTW : Tab W := hT.below hB hT.two
    have c0 := jO.cell 0
    have nO := Lib.ownBlock_neF hw jO (by decide)
    have nN := Lib.ownBlock_neF hw jN (by decide)
    have nX := Lib.ownBlock_neF hw jX (by decide)
    have nS := Lib.ownBlock_neF hw jS (by decide)
    have hx2 := x.2
    have hkd := Lib.ownsRowF_kind hw
    have hlt := hw.lt
    obtain ⟨L, hL⟩ : ∃ L, L = 32 * pre.length := ⟨_, rfl⟩
    have hL2 : L ≤ 4096 := by omega
    rw [← hL] at c0 jO hw nO nN nX nS hkd hlt
    have HX2 := Lib.hid hx2
    have HL := Lib.hid hL
    clear hx2 hTW hL
    gi_wp2_with (gi_at_builtin; refine Lib.wpListIn_append_own_stringF _ rfl _ _ 42 9 rfl w.heap.size 5 i0 Tryd.underlying42 Tryd.underlying9 hi hz0 hz1 hz2 (.slice (some ⟨g, 0, none⟩) L cap) _ _ rfl hw x.1 rfl (by rw [HX2.out]; unfold maxLen; omega) (by rw [HX2.out]; omega) hB.size ?_; intro v' w3 hw3 hg3 _; rw [HX2.out] at hw3; obtain ⟨g', cap', rfl⟩ := rowF_form hw3 (by omega); have k3 : Is w3 Bo 42 #[.slice (some ⟨g, 0, none⟩) L cap] := (hg3.block Bo jO.lt (Ne.symm nO)).trans jO; have c3 := k3.cell 0; have f3 := k3.frozen 0)
    have m3 := Lib.ownBlock_neF hw3 k3 (by decide)
    have hBw : Below w.heap.size W w3 := (Below.refl _ _).grown hg3 hB.size (fun k e => (hlt k e).1)
    have hk1 : KeepsOthers W w3 := keeps_of_grown hg3 (fun r e => by obtain ⟨c, fz, h⟩ := hkd r e; exact ⟨_, h, rfl⟩)
    have sN : SameAt Bn W w3 := hg3.block Bn jN.lt (Ne.symm nN)
    have sX : SameAt Bx W w3 := hg3.block Bx jX.lt (Ne.symm nX)
    have sS : SameAt Bs W w3 := hg3.block Bs jS.lt (Ne.symm nS)
    have hOw : w.heap.size ≤ Bo := HBo.out
    have tN : SameAt Bn w3 (w3.setCell ⟨Bo, 0, none⟩ (.slice (some ⟨g', 0, none⟩) (L + 32) cap')) := heap_setCell_other _ _ _ _ (by show Bn ≠ Bo; omega)
    have tX : SameAt Bx w3 (w3.setCell ⟨Bo, 0, none⟩ (.slice (some ⟨g', 0, none⟩) (L + 32) cap')) := heap_setCell_other _ _ _ _ (by show Bx ≠ Bo; omega)
    have tS : SameAt Bs w3 (w3.setCell ⟨Bo, 0, none⟩ (.slice (some ⟨g', 0, none⟩) (L + 32) cap')) := heap_setCell_other _ _ _ _ (by show Bs ≠ Bo; omega)
    have eL : 32 * (pre ++ [x]).length = L + 32 := by rw [HL.out, List.length_append, List.length_singleton]; omega
    have hw4 : (w3.setCell ⟨Bo, 0, none⟩ (.slice (some ⟨g', 0, none⟩) (L + 32) cap')).ownsRowF w.heap.size 5 1 (.slice (some ⟨g', 0, none⟩) (L + 32) cap') (L + 32) ((flatL (pre ++ [x])).map (Value.int .u8)) := by
      rw [flatL_snoc, List.map_append, ← strCells_bytesL]
      exact hw3.kept (grown_setCell _ _ _) (.inr m3)
    refine ⟨hk1.trans (KeepsOthers.setCell _ _ _), ⟨hBw.setCell hOw _, tN.trans sN, tX.trans sX, tS.trans sS⟩, ⟨⟨⟨g', cap', ?_, ?_⟩, (tN.trans sN).trans jN, (tX.trans sX).trans jX, (tS.trans sS).trans jS⟩, (hB.trans hBw).setCell hOw _⟩⟩
    · rw [eL]
      exact k3.set 0 _
    · rw [eL]
      exact hw4
  case done =>
    rintro D ys W hD rfl ⟨⟨⟨g, cap, jO, hw⟩, jN, jX, jS⟩, hB⟩ hK
    rw [prts_length] at jO hw
    obtain ⟨L, hL⟩ : ∃ L, L = 32 * ((N + 31) / 32) := ⟨_, rfl⟩
    have hL2 : N ≤ L := by omega
    rw [← hL] at jO hw
    have hd : drv X name N = strOfNums ((flatL (prts X name ((N + 31) / 32))).take N) := rfl
    have hfl : (flatL (prts X name ((N + 31) / 32))).length = L := by rw [flatL_length, prts_length, hL]
    generalize flatL (prts X name ((N + 31) / 32)) = fl at *
    have hcap : L ≤ cap := by
      rcases hw.2 with ⟨h, _⟩ | ⟨g2, cap2, cur2, fz2, h, _, _, _, h2, _⟩
      · cases h
      · cases h; exact h2
    have hcv := run_convert_bytes_arg (P := Tryd.prog) W 42 5 Tryd.underlying42 Tryd.underlying5 g 0 N cap (fl.take N) (by rw [List.length_take, hfl]; omega) (fun i hi => by
      have h1 := hw.cells rfl i (.int .u8 ((fl.take N).getD i 0)) (by
        rw [List.getElem?_map, List.getElem?_eq_getElem (by omega), List.getD_eq_getElem?_getD, List.getElem?_take, if_pos hi, List.getElem?_eq_getElem (by omega)]
        rfl)
      have hadd : (⟨g, 0, none⟩ : Addr).add i = ⟨g, 0 + i, none⟩ := Addr.add_mid g 0 i
      rw [hadd] at h1
      exact h1) 9 Tryd.underlying9
    rw [← hd] at hcv
    generalize hdd : drv X name N = dd at hcv hd
    have HDD := Lib.hid hdd
    clear hdd
    have HL := Lib.hid hL
    have HFL := Lib.hid hfl
    have HD := Lib.hid hd
    clear hL hfl hd
    have c0 := jO.cell 0
    have hc1 : (N : Int) ≤ (cap : Int) := by omega
    gi_wp2
    refine ⟨by simp, .inl ⟨_, _, rfl, run_takeDeferred hK, ?_⟩⟩
    refine ⟨.tuple #[.string dd, .int .i64 0], by simp [results, Tryd.results29, go_sem], by rw [HDD.out], ?_⟩
    exact hB.trans (belowK_b (w := w) (Nat.le_refl _) W D _ _ (by have := hB0.size; omega) hK rfl rfl)
  case stop =>
    rintro D c pre W _ _ h _
    exact h.elim
end Go.Proofs.YtcpkkicpkmjagaaDoor
