/-
  Layer 8: ideals as values and in memory; contracts of ideal.names and ideal.cells and of the iterators that they return: what lies where the slice points to is told, one thing after another. Condition: it lies there.
-/
import Derived.Test.YtdbdoammbnogaaaGIdP
import Derived.Test.YtdbdoammbnogaaaRowG
import Derived.Test.YtdbdoammbnogaaaSeqL
import Derived.Test.YtdbdoammbnogaaaTapA
import Derived.Lib.BufStepsIn
namespace Go.Proofs.Ytdbdoammbnogaaa
open Go.RowKit Go.Shelf
attribute [local go_sem] Oper.semAt_some

abbrev flN (N : List Nam8) : List Value := N.flatMap fun x => [.string x.1, .string x.2]
abbrev flK (K : List Cel8) : List Value := K.flatMap fun x => [.string x.1, .string x.2.1, .string x.2.2]
theorem flN_len (N : List Nam8) : (flN N).length = N.length * 2 := by
  induction N with
  | nil => rfl
  | cons x r ih => rw [flN, List.flatMap_cons, List.length_append, ih, List.length_cons]; simp only [List.length_cons, List.length_nil]; omega
theorem flK_len (K : List Cel8) : (flK K).length = K.length * 3 := by
  induction K with
  | nil => rfl
  | cons x r ih => rw [flK, List.flatMap_cons, List.length_append, ih, List.length_cons]; simp only [List.length_cons, List.length_nil]; omega
theorem flN_at {N : List Nam8} {k : Nat} {x : Nam8} (h : N[k]? = some x) (j : Nat) (hj : j < 2) : (flN N)[k * 2 + j]? = ([.string x.1, .string x.2] : List Value)[j]? := by
  induction N generalizing k with
  | nil => rw [List.getElem?_nil] at h; cases h
  | cons y r ih =>
    rw [flN, List.flatMap_cons, List.getElem?_append]
    cases k with
    | zero => cases h; rw [if_pos (by show 0 * 2 + j < 2; omega), Nat.zero_mul, Nat.zero_add]
    | succ k =>
      rw [List.getElem?_cons_succ] at h
      rw [if_neg (by show ¬ (k + 1) * 2 + j < 2; omega), ← ih h]
      congr 1
      show (k + 1) * 2 + j - 2 = _
      omega
theorem flK_at {K : List Cel8} {k : Nat} {x : Cel8} (h : K[k]? = some x) (j : Nat) (hj : j < 3) : (flK K)[k * 3 + j]? = ([.string x.1, .string x.2.1, .string x.2.2] : List Value)[j]? := by
  induction K generalizing k with
  | nil => rw [List.getElem?_nil] at h; cases h
  | cons y r ih =>
    rw [flK, List.flatMap_cons, List.getElem?_append]
    cases k with
    | zero => cases h; rw [if_pos (by show 0 * 3 + j < 3; omega), Nat.zero_mul, Nat.zero_add]
    | succ k =>
      rw [List.getElem?_cons_succ] at h
      rw [if_neg (by show ¬ (k + 1) * 3 + j < 3; omega), ← ih h]
      congr 1
      show (k + 1) * 3 + j - 3 = _
      omega
theorem flN_one (N : List Nam8) : ∀ u ∈ flN N, u.oneCell' = true := fun u hu => by
  obtain ⟨x, _, hx⟩ := List.mem_flatMap.1 hu
  simp only [List.mem_cons, List.not_mem_nil, or_false] at hx
  rcases hx with rfl | rfl <;> rfl
theorem flK_one (K : List Cel8) : ∀ u ∈ flK K, u.oneCell' = true := fun u hu => by
  obtain ⟨x, _, hx⟩ := List.mem_flatMap.1 hu
  simp only [List.mem_cons, List.not_mem_nil, or_false] at hx
  rcases hx with rfl | rfl | rfl <;> rfl
/-- where a name lies, where a cell. -/
theorem InV.nam {W : World} {A : Option Addr} {N : List Nam8} (h : InV W A (flN N)) {k : Nat} {x : Nam8} (hx : N[k]? = some x) :
    ∃ b off, A = some ⟨b, off, none⟩ ∧ b < W.heap.size ∧ W.rangeAt b (off + k * 2) [.string x.1, .string x.2] := by
  obtain ⟨b, off, rfl, hb, h0⟩ := h (k * 2 + 0) (.string x.1) ((flN_at hx 0 (by omega)).trans rfl)
  refine ⟨b, off, rfl, hb, fun j v hj => ?_⟩
  have hj2 : j < 2 := (List.getElem?_eq_some_iff.1 hj).1
  obtain ⟨b2, off2, e, _, h1⟩ := h (k * 2 + j) v ((flN_at hx j hj2).trans hj)
  cases e
  rw [← h1, Nat.add_assoc]
theorem InV.cel {W : World} {A : Option Addr} {K : List Cel8} (h : InV W A (flK K)) {k : Nat} {x : Cel8} (hx : K[k]? = some x) :
    ∃ b off, A = some ⟨b, off, none⟩ ∧ b < W.heap.size ∧ W.rangeAt b (off + k * 3) [.string x.1, .string x.2.1, .string x.2.2] := by
  obtain ⟨b, off, rfl, hb, h0⟩ := h (k * 3 + 0) (.string x.1) ((flK_at hx 0 (by omega)).trans rfl)
  refine ⟨b, off, rfl, hb, fun j v hj => ?_⟩
  have hj2 : j < 3 := (List.getElem?_eq_some_iff.1 hj).1
  obtain ⟨b2, off2, e, _, h1⟩ := h (k * 3 + j) v ((flK_at hx j hj2).trans hj)
  cases e
  rw [← h1, Nat.add_assoc]
/-- an ideal, as a value, and its cells. -/
abbrev ideL (d : Ide) (A : Option Addr) (c : Nat) (A' : Option Addr) (c' : Nat) : Array Value := #[.string d.B, .int .i64 d.a, .slice A d.N.length c, .slice A' d.K.length c', .bool d.c]
abbrev ideV (d : Ide) (A : Option Addr) (c : Nat) (A' : Option Addr) (c' : Nat) : Value := .agg (ideL d A c A' c')
/-- what lies where its lists point to. -/
structure InI (W : World) (d : Ide) (A : Option Addr) (c : Nat) (A' : Option Addr) (c' : Nat) : Prop where
  n : InV W A (flN d.N)
  k : InV W A' (flK d.K)
  nil : A = none → c = 0
  nilK : A' = none → c' = 0
  fit : d.N.length * 32 ≤ 140737488355328
  fitK : d.K.length * 48 ≤ 140737488355328
theorem InI.keep {W W' : World} {d : Ide} {A : Option Addr} {c : Nat} {A' : Option Addr} {c' : Nat} (h : InI W d A c A' c') (hb : Below W.heap.size W W') : InI W' d A c A' c' :=
  ⟨h.n.keep hb, h.k.keep hb, h.nil, h.nilK, h.fit, h.fitK⟩
theorem infoIde : (Try.prog.info? 30).map (·.size) = some 5 := by kernel_rfl
theorem infoNam : (Try.prog.info? 55).map (·.size) = some 2 := by kernel_rfl
theorem infoMad : (Try.prog.info? 57).map (·.size) = some 3 := by kernel_rfl
theorem infoAsk : (Try.prog.info? 72).map (·.size) = some 2 := by kernel_rfl
theorem infoOpn : (Try.prog.info? 79).map (·.size) = some 2 := by kernel_rfl
/-- a question of a cell, and the cell. -/
def askK (x : Cel8) : (ByteArray × ByteArray) × ByteArray := ((x.1, x.2.1), x.2.2)
/-- what a text is asked by, and the text. -/
def opnK (x : Cel8) : (ByteArray × ByteArray) × ByteArray := ((x.1, x.2.2), x.2.1)
def outN (x : Nam8) : Nam8 := (x.2, x.1)
abbrev encN8 (x : Nam8) : Array Value := #[.string x.1, .string x.2]
abbrev encP8 (x : (ByteArray × ByteArray) × ByteArray) : Array Value := #[.agg #[.string x.1.1, .string x.1.2], .string x.2]
theorem roundIn_any {m m' l' : Nat} {P : Program} {l : Nat} {fn : FuncId} {tmps : Array Value} {assign body : Code} {W : World} {R : Ending → World → Prop} (h : RoundIn Fence.wide m P l fn tmps assign body W R) : RoundIn (Fence.wide.inRound l') m' P l fn tmps assign body W R :=
  ⟨h.1, fun c cs _ => h.2 c cs (room_wide _)⟩
theorem rangeS {S : Nat → Prop} {W W' : World} {b o : Nat} {cs : List Value} (h : W.rangeAt b o cs) (hs : Stay S W W') (hb : S b) : W'.rangeAt b o cs := fun j v hj => by
  have h1 := h j v hj
  obtain ⟨ob, ho, _⟩ := cells_of_cell h1
  have h2 := hs.same b ob hb ho
  rw [← h1]
  simp only [World.cell?, h2, show W.heap[b]? = some ob from ho]
theorem yieldAt_any {m m' : Nat} {P : Program} {l : Nat} {args : Array Value} {W : World} {R : Ending → World → Prop} (h : YieldAt Fence.wide m P l args W R) : YieldAt Fence.wide m' P l args W R := by
  obtain ⟨fn, tmps, assign, body, h1, h2, h3⟩ := h
  exact ⟨fn, tmps, assign, body, h1, h2, fun c cs _ => h3 c cs (room_wide _)⟩

set_option maxRecDepth 100000 in
set_option maxHeartbeats 1000000 in
theorem names_any (c0 c1 c2 c3 c4 : Value) (w : World) :
    Calls Try.prog 29 #[.agg #[c0, c1, c2, c3, c4]] w fun e w' => e = .returned (.func (.func 44) #[] #[.pointer (some ⟨w.heap.size, 0, none⟩)]) ∧ w' = w.alloc (.cells #[c0, c1, c2, c3, c4] 30) := by
  go_enter Try.func29, Try.ntmps29
  go_wp2
  go_ret
  exact ⟨rfl, rfl⟩

set_option maxRecDepth 100000 in
set_option maxHeartbeats 1000000 in
theorem cells_any (c0 c1 c2 c3 c4 : Value) (w : World) :
    Calls Try.prog 39 #[.agg #[c0, c1, c2, c3, c4]] w fun e w' => e = .returned (.func (.func 50) #[] #[.pointer (some ⟨w.heap.size, 0, none⟩)]) ∧ w' = w.alloc (.cells #[c0, c1, c2, c3, c4] 30) := by
  go_enter Try.func39, Try.ntmps39
  go_wp2
  go_ret
  exact ⟨rfl, rfl⟩

set_option maxRecDepth 100000 in
set_option maxHeartbeats 2000000 in
theorem names_seq (n : Nat) (hn : 1 ≤ n) (Bd : Nat) (c0 c1 c2 c3 c4 : Value) (A : Option Addr) (c : Nat) (N : List Nam8) (w : World) (hBd : Is w Bd 30 #[c0, c1, c2, c3, c4]) (hsl : c2 = .slice A N.length c) (hc : InV w A (flN N)) (hfit : N.length ≤ 140737488355328) (S : Nat → Prop) (hS : S Bd) (hSA : ∀ p, A = some p → N ≠ [] → S p.block) :
    SeqL Fence.wide n Try.prog 44 #[.pointer (some ⟨Bd, 0, none⟩)] encN8 N S w := by
  intro l J Jx W hW hJ hJx hY h0
  refine callsIn_of_wp Try.func44 rfl trivial ?_ rfl
  simp only [Try.ntmps44, List.size_toArray, List.length_cons, List.length_nil, Nat.reduceAdd, Nat.reduceSub, Array.replicate_succ, Array.replicate_zero, List.push_toArray, List.append_toArray, List.nil_append, List.cons_append]
  have cN : W.cell? ⟨Bd, 2, none⟩ = some (.slice A N.length c) := by rw [(hW.is hBd hS).cell 2, ← hsl]; rfl
  have HY := Lib.hid hY
  have HJ := Lib.hid hJ
  have HC := Lib.hid hc
  clear hY hJ hJx hc hBd hsl
  gi_wp2
  clear cN
  gi_loopw [8] (fun i wr => ∃ k : Nat, k ≤ N.length ∧ i = .int .i64 (k : Int) ∧ J k wr ∧ Stay S w wr ∧ W.heap.size ≤ wr.heap.size) (fun i _ => N.length - (intOf i).toNat)
  case atStart => exact ⟨0, by omega, rfl, h0, hW, Nat.le_refl _⟩
  case round =>
    clear h0
    obtain ⟨k, hk, rfl, hJk, hB, hs⟩ := hrel
    by_cases hlt : k < N.length
    · have hkx : N[k]? = some N[k] := List.getElem?_eq_getElem hlt
      generalize N[k] = x at hkx
      obtain ⟨b, off, rfl, hb, hr⟩ := HC.out.nam hkx
      have hr := rangeS hr hB (hSA _ rfl (fun e => by rw [e] at hlt; cases hlt))
      obtain ⟨fn, tmps, assign, body, hy, hR⟩ := HY.out k x (wr.alloc (.cells #[.string x.1, .string x.2] 55)) hkx (HJ.out.alloc _ hJk)
      simp only [encN8] at hy
      have w1i := IntWalk.i64_in ((k : Int) + 1) (by omega)
      have HR := Lib.hid hR
      have HK := Lib.hid hkx
      have hk1 : (k : Int) < (N.length : Int) := by omega
      have iX := Is.new wr 55 #[.string x.1, .string x.2]
      have x0 : (wr.alloc (.cells #[.string x.1, .string x.2] 55)).cell? ⟨wr.heap.size, 0, none⟩ = some (.string x.1) := iX.cell 0
      have x1 : (wr.alloc (.cells #[.string x.1, .string x.2] 55)).cell? ⟨wr.heap.size, 1, none⟩ = some (.string x.2) := iX.cell 1
      clear hR hkx
      gi_wp2_with (refine wpListIn_load_midI rfl 55 _ rfl b (off + k * 2) rfl _ hr Try.underlying55 rfl infoNam ?_)
      refine HR.out.mono ?_
      rintro e W3 (⟨rfl, hJ3, hB3⟩ | ⟨rfl, hJx3, _⟩)
      · gi_wp2
        go_roundw
        case rel => exact ⟨k + 1, by omega, by go_num, hJ3, (hB.grown (World.grownBy_alloc wr _ none) (fun r e => by cases e)).trans (hB3.mono (fun k hk => .inl hk)), Nat.le_trans hs (Nat.le_trans (by simp) hB3.size)⟩
        case measure => simp [intOf]; omega
      · gi_wp2
        refine bodyPost_ret (results_none rfl _ _ _) rfl ?_
        exact ⟨⟨_, rfl⟩, .inr ⟨_, hJx3⟩⟩
    · have hk1 : ¬ (k : Int) < (N.length : Int) := by omega
      obtain rfl : k = N.length := by omega
      gi_wp2
      go_end0
      exact ⟨⟨_, rfl⟩, .inl hJk⟩

set_option maxRecDepth 100000 in
set_option maxHeartbeats 2000000 in
theorem cells_seq (n : Nat) (hn : 1 ≤ n) (Bd : Nat) (c0 c1 c2 c3 c4 : Value) (A : Option Addr) (c : Nat) (N : List Cel8) (w : World) (hBd : Is w Bd 30 #[c0, c1, c2, c3, c4]) (hsl : c3 = .slice A N.length c) (hc : InV w A (flK N)) (hfit : N.length ≤ 140737488355328) (S : Nat → Prop) (hS : S Bd) (hSA : ∀ p, A = some p → N ≠ [] → S p.block) :
    SeqL Fence.wide n Try.prog 50 #[.pointer (some ⟨Bd, 0, none⟩)] encP8 (N.map askK) S w := by
  intro l J Jx W hW hJ hJx hY h0
  refine callsIn_of_wp Try.func50 rfl trivial ?_ rfl
  simp only [Try.ntmps50, List.size_toArray, List.length_cons, List.length_nil, Nat.reduceAdd, Nat.reduceSub, Array.replicate_succ, Array.replicate_zero, List.push_toArray, List.append_toArray, List.nil_append, List.cons_append]
  have cN : W.cell? ⟨Bd, 3, none⟩ = some (.slice A N.length c) := by rw [(hW.is hBd hS).cell 3, ← hsl]; rfl
  have HY := Lib.hid hY
  have HJ := Lib.hid hJ
  have HC := Lib.hid hc
  clear hY hJ hJx hc hBd hsl
  gi_wp2
  clear cN
  gi_loopw [8] (fun i wr => ∃ k : Nat, k ≤ N.length ∧ i = .int .i64 (k : Int) ∧ J k wr ∧ Stay S w wr ∧ W.heap.size ≤ wr.heap.size) (fun i _ => N.length - (intOf i).toNat)
  case atStart => exact ⟨0, by omega, rfl, h0, hW, Nat.le_refl _⟩
  case round =>
    clear h0
    obtain ⟨k, hk, rfl, hJk, hB, hs⟩ := hrel
    by_cases hlt : k < N.length
    · have hkx : N[k]? = some N[k] := List.getElem?_eq_getElem hlt
      generalize N[k] = x at hkx
      obtain ⟨b, off, rfl, hb, hr⟩ := HC.out.cel hkx
      have hr := rangeS hr hB (hSA _ rfl (fun e => by rw [e] at hlt; cases hlt))
      obtain ⟨fn, tmps, assign, body, hy, hR⟩ := HY.out k (askK x) (wr.alloc (.cells #[.string x.1, .string x.2.1, .string x.2.2] 57)) (by rw [List.getElem?_map, hkx]; rfl) (HJ.out.alloc _ hJk)
      simp only [encP8, askK] at hy
      have w1i := IntWalk.i64_in ((k : Int) + 1) (by omega)
      have HR := Lib.hid hR
      have HK := Lib.hid hkx
      have hk1 : (k : Int) < (N.length : Int) := by omega
      have iX := Is.new wr 57 #[.string x.1, .string x.2.1, .string x.2.2]
      have x0 : (wr.alloc (.cells #[.string x.1, .string x.2.1, .string x.2.2] 57)).cell? ⟨wr.heap.size, 0, none⟩ = some (.string x.1) := iX.cell 0
      have x1 : (wr.alloc (.cells #[.string x.1, .string x.2.1, .string x.2.2] 57)).cell? ⟨wr.heap.size, 1, none⟩ = some (.string x.2.1) := iX.cell 1
      have x2 : (wr.alloc (.cells #[.string x.1, .string x.2.1, .string x.2.2] 57)).cell? ⟨wr.heap.size, 2, none⟩ = some (.string x.2.2) := iX.cell 2
      clear hR hkx
      gi_wp2_with (refine wpListIn_load_midI rfl 57 _ rfl b (off + k * 3) rfl _ hr Try.underlying57 rfl infoMad ?_)
      refine HR.out.mono ?_
      rintro e W3 (⟨rfl, hJ3, hB3⟩ | ⟨rfl, hJx3, _⟩)
      · gi_wp2
        go_roundw
        case rel => exact ⟨k + 1, by omega, by go_num, hJ3, (hB.grown (World.grownBy_alloc wr _ none) (fun r e => by cases e)).trans (hB3.mono (fun k hk => .inl hk)), Nat.le_trans hs (Nat.le_trans (by simp) hB3.size)⟩
        case measure => simp [intOf]; omega
      · gi_wp2
        refine bodyPost_ret (results_none rfl _ _ _) rfl ?_
        exact ⟨⟨_, rfl⟩, .inr ⟨_, hJx3⟩⟩
    · have hk1 : ¬ (k : Int) < (N.length : Int) := by omega
      obtain rfl : k = N.length := by omega
      gi_wp2
      go_end0
      exact ⟨⟨_, rfl⟩, .inl hJk⟩
end Go.Proofs.Ytdbdoammbnogaaa
