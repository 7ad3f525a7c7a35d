/-
  Layer 8: contracts of the iterators that ideal.outs and ideal.texts return: what names and cells tell, the other way round. Condition: the ideal's lists lie where its slices point to.
-/
import Derived.Test.YtdbdoammbnogaaaIdeA
namespace Go.Proofs.Ytdbdoammbnogaaa
open Go.RowKit Go.Shelf
attribute [local go_sem] Oper.semAt_some
theorem InV.stay {S : Nat → Prop} {W W' : World} {A : Option Addr} {vs : List Value} (h : InV W A vs) (hs : Stay S W W') (hA : ∀ p, A = some p → vs ≠ [] → S p.block) : InV W' A vs := fun j u hj => by
  obtain ⟨b, off, rfl, h1, h2⟩ := h j u hj
  obtain ⟨ob, ho, _⟩ := cells_of_cell h2
  have h3 := hs.same b ob (hA _ rfl (fun e => by rw [e] at hj; cases hj)) ho
  refine ⟨b, off, rfl, Nat.lt_of_lt_of_le h1 hs.size, ?_⟩
  rw [← h2]
  simp only [World.cell?, h3, show W.heap[b]? = some ob from ho]
theorem callsIn_round {n l : Nat} {P : Program} {f : FuncId} {args : Array Value} {w : World} {R : Ending → World → Prop} (h : Calls P f args w R) : CallsIn (Fence.wide.inRound l) n P f args w R := (callsIn_wide.2 h).inRound l

set_option maxRecDepth 100000 in
set_option maxHeartbeats 2000000 in
theorem outs_seq (n : Nat) (hn : 3 ≤ n) (Bd : Nat) (c0 c1 c2 c3 c4 : Value) (A : Option Addr) (c : Nat) (N : List Nam8) (w : World) (hBd : Is w Bd 30 #[c0, c1, c2, c3, c4]) (hsl : c2 = .slice A N.length c) (hc : InV w A (flN N)) (hfit : N.length ≤ 140737488355328) (S : Nat → Prop) (hS : S Bd) (hSA : ∀ p, A = some p → N ≠ [] → S p.block) (hSb : ∀ k, S k → k < w.heap.size) :
    SeqL Fence.wide n Try.prog 48 #[.pointer (some ⟨Bd, 0, none⟩)] encN8 (N.map outN) S w := by
  intro l J Jx W hW hJ hJx hY h0
  have HY := Lib.hid hY
  have HJ := Lib.hid hJ
  have HJx := Lib.hid hJx
  have HC := Lib.hid (hc.stay hW (fun p e h => hSA p e (fun e2 => h (by rw [e2]; rfl))))
  have HSL := Lib.hid hsl
  have HSB := Lib.hid hSb
  have HWS := Lib.hid hW.size
  have iB := hW.is hBd hS
  clear hY hJ hJx hc hBd hsl hSb
  refine callsIn_of_wp_marks Try.func48 rfl trivial ?_ rfl
  simp only [Try.ntmps48, List.size_toArray, List.length_cons, List.length_nil, Nat.reduceAdd, Nat.reduceSub, Array.replicate_succ, Array.replicate_zero, List.push_toArray, List.append_toArray, List.nil_append, List.cons_append]
  have iB1 := iB.alloc (.cells #[.func (.yield l) #[] #[]] 83)
  gi_wp2_with (refine wpListIn_load_rowI rfl 30 _ rfl Bd rfl iB1 Try.underlying30 rfl infoIde ?_)
  refine ⟨trivial, fun _ => by omega, (callsIn_wide.2 (names_any c0 c1 c2 c3 c4 _)).mono ?_⟩
  rintro e W' ⟨rfl, rfl⟩
  gi_wp2_with fail
  have iY : Is ((W.alloc (.cells #[.func (.yield l) #[] #[]] 83)).alloc (.cells #[c0, c1, c2, c3, c4] 30)) W.heap.size 83 #[.func (.yield l) #[] #[]] := (Is.new W _ _).alloc _
  have iN : Is ((W.alloc (.cells #[.func (.yield l) #[] #[]] 83)).alloc (.cells #[c0, c1, c2, c3, c4] 30)) (W.heap.size + 1) 30 #[c0, c1, c2, c3, c4] := heap_alloc2_new W _ _
  have hst : Stay S W ((W.alloc (.cells #[.func (.yield l) #[] #[]] 83)).alloc (.cells #[c0, c1, c2, c3, c4] 30)) := ((Stay.refl S W).grown (World.grownBy_alloc _ _ none) (fun r e => by cases e)).grown (World.grownBy_alloc _ _ none) (fun r e => by cases e)
  have j0 : J 0 ((W.alloc (.cells #[.func (.yield l) #[] #[]] 83)).alloc (.cells #[c0, c1, c2, c3, c4] 30)) := HJ.out.alloc _ (HJ.out.alloc _ h0)
  have hsz : ((W.alloc (.cells #[.func (.yield l) #[] #[]] 83)).alloc (.cells #[c0, c1, c2, c3, c4] 30)).heap.size = W.heap.size + 2 := by simp
  generalize (W.alloc (.cells #[.func (.yield l) #[] #[]] 83)).alloc (.cells #[c0, c1, c2, c3, c4] 30) = W2 at *
  refine wpIn_rangeL rfl (by omega) (gf := 44) (lb := #[.pointer (some ⟨W.heap.size + 1, 0, none⟩)]) rfl trivial (enters_of Try.func44 (by kernel_rfl) rfl)
    (S := fun k => S k ∨ (W.heap.size ≤ k ∧ k < W2.heap.size))
    (names_seq (n - 1) (by omega) (W.heap.size + 1) c0 c1 c2 c3 c4 A c N W2 iN HSL.out (HC.out.stay hst (fun p e h => hSA p e (fun e2 => h (by rw [e2]; rfl)))) hfit _ (.inr ⟨by omega, by omega⟩) (fun p e h => .inl (hSA p e h)))
    (Stay.refl _ _) (fun k hk => by rcases hk with h | h; (have := HSB.out k h; have := HWS.out; omega); exact h.2) (fun _ => rfl)
    (fun i W3 => J i W3 ∧ Is W3 W.heap.size 83 #[.func (.yield l) #[] #[]])
    (fun c i W3 => c = .ret ∧ Jx i W3)
    (fun s X Y row hs hg hr => ⟨HJ.out s X Y row hs.1 hg (fun r e => ⟨by have := (hr r e).1; omega, (hr r e).2⟩), (grownBy_keeps_cells hg (fun r e => (hr r e).2) hs.2 rfl).trans hs.2⟩)
    (fun c s X Y row hs hg hr => ⟨hs.1, HJx.out s X Y row hs.2 hg (fun r e => ⟨by have := (hr r e).1; omega, (hr r e).2⟩)⟩)
    ⟨j0, iY⟩ ?round ?done ?stop
  have hT : ∀ k, ((S k ∨ (W.heap.size ≤ k ∧ k < W2.heap.size)) ∨ W2.heap.size ≤ k) → (S k ∨ W.heap.size ≤ k) := fun k hk => by
    rcases hk with (h | h) | h
    · exact .inl h
    · exact .inr h.1
    · exact .inr (by omega)
  case round =>
    rintro l2 i x W3 hl2 hl3 hx ⟨hj, iY3⟩
    obtain ⟨y, hy, rfl⟩ := (show ∃ y, N[i]? = some y ∧ y = x from ⟨x, hx, rfl⟩)
    obtain ⟨x1, x2⟩ := y
    gi_wp2
    refine ⟨Stay.refl _ _, ⟨hj, iY3⟩, fun _ => True, fun _ _ _ _ _ _ _ => trivial, trivial, ?_⟩
    rintro W4 hl4 ⟨hj4, iY4⟩ _
    obtain ⟨fn, tmps, assign, body, hyd, hR⟩ := HY.out i (outN (x1, x2)) W4 (by rw [List.getElem?_map, hy]; rfl) hj4
    simp only [encN8, outN] at hyd
    have HR := Lib.hid hR
    have cY : W4.cell? ⟨W.heap.size, 0, none⟩ = some (.func (.yield l) #[] #[]) := iY4.cell 0
    clear hR
    gi_wp2
    refine ⟨fun _ => by omega, (roundIn_any HR.out).mono ?_⟩
    rintro e W5 (⟨rfl, hJ5, hS5⟩ | ⟨rfl, hJx5, hS5⟩)
    · gi_wp2
      exact ⟨hS5.mono hT, hJ5, hS5.is iY4 (.inr (Nat.le_refl _))⟩
    · gi_wp2
      exact ⟨hS5.mono hT, rfl, hJx5⟩
  case done =>
    rintro D W4 hD ⟨hj, _⟩ hK
    gi_wp2
    refine ⟨by simp, .inl ⟨_, _, rfl, run_takeDeferred hK, ?_⟩⟩
    exact ⟨_, results_none rfl _ _ _, ⟨_, rfl⟩, .inl (HJ.out.putObj _ (by simpa using hj) (by omega) hK rfl)⟩
  case stop =>
    rintro D c i W4 hD ⟨rfl, hj⟩ hK
    gi_wp2
    refine ⟨by simp, .inl ⟨_, _, rfl, run_takeDeferred hK, ?_⟩⟩
    exact ⟨_, results_none rfl _ _ _, ⟨_, rfl⟩, .inr ⟨i, HJx.out.putObj _ hj (by omega) hK rfl⟩⟩

set_option maxRecDepth 100000 in
set_option maxHeartbeats 2000000 in
theorem texts_seq (n : Nat) (hn : 3 ≤ n) (Bd : Nat) (c0 c1 c2 c3 c4 : Value) (A : Option Addr) (c : Nat) (N : List Cel8) (w : World) (hBd : Is w Bd 30 #[c0, c1, c2, c3, c4]) (hsl : c3 = .slice A N.length c) (hc : InV w A (flK N)) (hfit : N.length ≤ 140737488355328) (S : Nat → Prop) (hS : S Bd) (hSA : ∀ p, A = some p → N ≠ [] → S p.block) (hSb : ∀ k, S k → k < w.heap.size) :
    SeqL Fence.wide n Try.prog 52 #[.pointer (some ⟨Bd, 0, none⟩)] encP8 (N.map opnK) S w := by
  intro l J Jx W hW hJ hJx hY h0
  have HY := Lib.hid hY
  have HJ := Lib.hid hJ
  have HJx := Lib.hid hJx
  have HC := Lib.hid (hc.stay hW (fun p e h => hSA p e (fun e2 => h (by rw [e2]; rfl))))
  have HSL := Lib.hid hsl
  have HSB := Lib.hid hSb
  have HWS := Lib.hid hW.size
  have iB := hW.is hBd hS
  clear hY hJ hJx hc hBd hsl hSb
  refine callsIn_of_wp_marks Try.func52 rfl trivial ?_ rfl
  simp only [Try.ntmps52, List.size_toArray, List.length_cons, List.length_nil, Nat.reduceAdd, Nat.reduceSub, Array.replicate_succ, Array.replicate_zero, List.push_toArray, List.append_toArray, List.nil_append, List.cons_append]
  have iB1 := iB.alloc (.cells #[.func (.yield l) #[] #[]] 93)
  gi_wp2_with (refine wpListIn_load_rowI rfl 30 _ rfl Bd rfl iB1 Try.underlying30 rfl infoIde ?_)
  refine ⟨trivial, fun _ => by omega, (callsIn_wide.2 (cells_any c0 c1 c2 c3 c4 _)).mono ?_⟩
  rintro e W' ⟨rfl, rfl⟩
  gi_wp2_with fail
  have iY : Is ((W.alloc (.cells #[.func (.yield l) #[] #[]] 93)).alloc (.cells #[c0, c1, c2, c3, c4] 30)) W.heap.size 93 #[.func (.yield l) #[] #[]] := (Is.new W _ _).alloc _
  have iN : Is ((W.alloc (.cells #[.func (.yield l) #[] #[]] 93)).alloc (.cells #[c0, c1, c2, c3, c4] 30)) (W.heap.size + 1) 30 #[c0, c1, c2, c3, c4] := heap_alloc2_new W _ _
  have hst : Stay S W ((W.alloc (.cells #[.func (.yield l) #[] #[]] 93)).alloc (.cells #[c0, c1, c2, c3, c4] 30)) := ((Stay.refl S W).grown (World.grownBy_alloc _ _ none) (fun r e => by cases e)).grown (World.grownBy_alloc _ _ none) (fun r e => by cases e)
  have j0 : J 0 ((W.alloc (.cells #[.func (.yield l) #[] #[]] 93)).alloc (.cells #[c0, c1, c2, c3, c4] 30)) := HJ.out.alloc _ (HJ.out.alloc _ h0)
  have hsz : ((W.alloc (.cells #[.func (.yield l) #[] #[]] 93)).alloc (.cells #[c0, c1, c2, c3, c4] 30)).heap.size = W.heap.size + 2 := by simp
  generalize (W.alloc (.cells #[.func (.yield l) #[] #[]] 93)).alloc (.cells #[c0, c1, c2, c3, c4] 30) = W2 at *
  refine wpIn_rangeL rfl (by omega) (gf := 50) (lb := #[.pointer (some ⟨W.heap.size + 1, 0, none⟩)]) rfl trivial (enters_of Try.func50 (by kernel_rfl) rfl)
    (S := fun k => S k ∨ (W.heap.size ≤ k ∧ k < W2.heap.size))
    (cells_seq (n - 1) (by omega) (W.heap.size + 1) c0 c1 c2 c3 c4 A c N W2 iN HSL.out (HC.out.stay hst (fun p e h => hSA p e (fun e2 => h (by rw [e2]; rfl)))) hfit _ (.inr ⟨by omega, by omega⟩) (fun p e h => .inl (hSA p e h)))
    (Stay.refl _ _) (fun k hk => by rcases hk with h | h; (have := HSB.out k h; have := HWS.out; omega); exact h.2) (fun _ => rfl)
    (fun i W3 => J i W3 ∧ Is W3 W.heap.size 93 #[.func (.yield l) #[] #[]])
    (fun c i W3 => c = .ret ∧ Jx i W3)
    (fun s X Y row hs hg hr => ⟨HJ.out s X Y row hs.1 hg (fun r e => ⟨by have := (hr r e).1; omega, (hr r e).2⟩), (grownBy_keeps_cells hg (fun r e => (hr r e).2) hs.2 rfl).trans hs.2⟩)
    (fun c s X Y row hs hg hr => ⟨hs.1, HJx.out s X Y row hs.2 hg (fun r e => ⟨by have := (hr r e).1; omega, (hr r e).2⟩)⟩)
    ⟨j0, iY⟩ ?round ?done ?stop
  have hT : ∀ k, ((S k ∨ (W.heap.size ≤ k ∧ k < W2.heap.size)) ∨ W2.heap.size ≤ k) → (S k ∨ W.heap.size ≤ k) := fun k hk => by
    rcases hk with (h | h) | h
    · exact .inl h
    · exact .inr h.1
    · exact .inr (by omega)
  case round =>
    rintro l2 i x W3 hl2 hl3 hx ⟨hj, iY3⟩
    obtain ⟨y, hy, rfl⟩ := (show ∃ y, N[i]? = some y ∧ askK y = x by rw [List.getElem?_map] at hx; cases hy : N[i]? with | none => rw [hy] at hx; cases hx | some y => rw [hy] at hx; cases hx; exact ⟨y, rfl, rfl⟩)
    obtain ⟨x1, x2, x3⟩ := y
    simp only [askK]
    gi_wp2
    refine ⟨(Stay.refl _ _).grown (World.grownBy_alloc _ _ none) (fun r e => by cases e), ⟨HJ.out.alloc _ hj, iY3.alloc _⟩, fun W => Is W W3.heap.size 72 #[.string x1, .string x2], fun _ X Y row hs hg hr => (grownBy_keeps_cells hg (fun r e => (hr r e).2) hs rfl).trans hs, Is.new _ _ _, ?_⟩
    rintro W4 hl4 ⟨hj4, iY4⟩ iX4
    have q1 : W4.cell? ⟨W3.heap.size, 0, none⟩ = some (.string x1) := iX4.cell 0
    have q2 : W4.cell? ⟨W3.heap.size, 1, none⟩ = some (.string x2) := iX4.cell 1
    obtain ⟨fn, tmps, assign, body, hyd, hR⟩ := HY.out i (opnK (x1, x2, x3)) W4 (by rw [List.getElem?_map, hy]; rfl) hj4
    simp only [encP8, opnK] at hyd
    have HR := Lib.hid hR
    have cY : W4.cell? ⟨W.heap.size, 0, none⟩ = some (.func (.yield l) #[] #[]) := iY4.cell 0
    clear hR
    gi_wp2
    refine ⟨fun _ => by omega, (roundIn_any HR.out).mono ?_⟩
    rintro e W5 (⟨rfl, hJ5, hS5⟩ | ⟨rfl, hJx5, hS5⟩)
    · gi_wp2
      exact ⟨hS5.mono hT, hJ5, hS5.is iY4 (.inr (Nat.le_refl _))⟩
    · gi_wp2
      exact ⟨hS5.mono hT, rfl, hJx5⟩
  case done =>
    rintro D W4 hD ⟨hj, _⟩ hK
    gi_wp2
    refine ⟨by simp, .inl ⟨_, _, rfl, run_takeDeferred hK, ?_⟩⟩
    exact ⟨_, results_none rfl _ _ _, ⟨_, rfl⟩, .inl (HJ.out.putObj _ (by simpa using hj) (by omega) hK rfl)⟩
  case stop =>
    rintro D c i W4 hD ⟨rfl, hj⟩ hK
    gi_wp2
    refine ⟨by simp, .inl ⟨_, _, rfl, run_takeDeferred hK, ?_⟩⟩
    exact ⟨_, results_none rfl _ _ _, ⟨_, rfl⟩, .inr ⟨i, HJx.out.putObj _ hj (by omega) hK rfl⟩⟩
end Go.Proofs.Ytdbdoammbnogaaa
