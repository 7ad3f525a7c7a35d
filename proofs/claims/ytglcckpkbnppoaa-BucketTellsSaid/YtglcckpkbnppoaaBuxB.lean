/-
  Layer 12: contracts of bucket.crowded, used, round, way, and of the iterators that these return: buckets that are used; one round from a place on; a label's way. Condition: the store lies where its slice points to.
-/
import Derived.Test.YtglcckpkbnppoaaBuxA
namespace Go.Proofs.Ytglcckpkbnppoaa
open Go.RowKit Go.Shelf
attribute [local go_sem] Oper.semAt_some

set_option maxRecDepth 100000 in
set_option maxHeartbeats 1000000 in
theorem crowded_any12 (A : Option Addr) (n c : Nat) (m g k : Int) (w : World) (hk : k = 0 ∨ k = 1) (hn : n ≤ 4096) (hm : 0 ≤ m ∧ m ≤ 4096) (hg : 0 ≤ g ∧ g ≤ 4096) :
    Calls Try.prog 36 #[.agg #[.slice A n c, .int .i64 m, .int .i64 g], .int .i64 k] w fun e w' => e = .returned (.bool (decide (3 * (n : Int) < 4 * (m + g + k)))) ∧ Below w.heap.size w w' := by
  have i1 := Is.new w 31 #[.slice A n c, .int .i64 m, .int .i64 g]
  have c0 : (w.alloc (.cells #[.slice A n c, .int .i64 m, .int .i64 g] 31)).cell? ⟨w.heap.size, 0, none⟩ = some (.slice A n c) := i1.cell 0
  have c1 : (w.alloc (.cells #[.slice A n c, .int .i64 m, .int .i64 g] 31)).cell? ⟨w.heap.size, 1, none⟩ = some (.int .i64 m) := i1.cell 1
  have c2 : (w.alloc (.cells #[.slice A n c, .int .i64 m, .int .i64 g] 31)).cell? ⟨w.heap.size, 2, none⟩ = some (.int .i64 g) := i1.cell 2
  have hB : Below w.heap.size w (w.alloc (.cells #[.slice A n c, .int .i64 m, .int .i64 g] 31)) := (Below.refl _ _).alloc (Nat.le_refl _) _
  have w1 := IntWalk.i64_in (m + g) (by omega)
  have w2 := IntWalk.i64_in (m + g + k) (by omega)
  have w3 := IntWalk.i64_in (4 * (m + g + k)) (by omega)
  have w4 := IntWalk.i64_in (3 * (n : Int)) (by omega)
  clear i1
  by_cases h : 3 * (n : Int) < 4 * (m + g + k)
  · rw [decide_eq_true h]
    go_enter Try.func36, Try.ntmps36
    go_wp2
    go_ret
    exact ⟨rfl, hB⟩
  · rw [decide_eq_false h]
    go_enter Try.func36, Try.ntmps36
    go_wp2
    go_ret
    exact ⟨rfl, hB⟩

set_option maxRecDepth 100000 in
set_option maxHeartbeats 1000000 in
theorem used_any12 (c0 c1 c2 : Value) (w : World) :
    Calls Try.prog 40 #[.agg #[c0, c1, c2]] w fun e w' => e = .returned (.func (.func 52) #[] #[.pointer (some ⟨w.heap.size, 0, none⟩)]) ∧ w' = w.alloc (.cells #[c0, c1, c2] 31) := by
  go_enter Try.func40, Try.ntmps40
  go_wp2
  go_ret
  exact ⟨rfl, rfl⟩

set_option maxRecDepth 100000 in
set_option maxHeartbeats 1000000 in
theorem round_any12 (c0 c1 c2 : Value) (f : Int) (w : World) :
    Calls Try.prog 50 #[.agg #[c0, c1, c2], .int .i64 f] w fun e w' => e = .returned (.func (.func 59) #[] #[.pointer (some ⟨w.heap.size, 0, none⟩), .pointer (some ⟨w.heap.size + 1, 0, none⟩)]) ∧ w' = (w.alloc (.cells #[c0, c1, c2] 31)).alloc (.cells #[.int .i64 f] 3) := by
  go_enter Try.func50, Try.ntmps50
  go_wp2
  go_ret
  exact ⟨rfl, rfl⟩

set_option maxRecDepth 100000 in
set_option maxHeartbeats 1000000 in
theorem way_any12 (c0 c1 c2 : Value) (l : ByteArray) (w : World) :
    Calls Try.prog 56 #[.agg #[c0, c1, c2], .string l] w fun e w' => e = .returned (.func (.func 71) #[] #[.pointer (some ⟨w.heap.size, 0, none⟩), .pointer (some ⟨w.heap.size + 1, 0, none⟩)]) ∧ w' = (w.alloc (.cells #[c0, c1, c2] 31)).alloc (.cells #[.string l] 9) := by
  go_enter Try.func56, Try.ntmps56
  go_wp2
  go_ret
  exact ⟨rfl, rfl⟩

theorem us_take12 {B : List Bkt12} {k : Nat} {x : Bkt12} (hx : B[k]? = some x) : us12 (B.take (k + 1)) = us12 (B.take k) ++ (if x.st = 1 then [x] else []) := by
  rw [List.take_add_one, hx, us12, List.filter_append]
  by_cases h : x.st = 1 <;> simp [us12, h]
theorem us_at12 {B : List Bkt12} {k : Nat} {x : Bkt12} (hx : B[k]? = some x) (h1 : x.st = 1) : (us12 B)[(us12 (B.take k)).length]? = some x := by
  have hi : k < B.length := (List.getElem?_eq_some_iff.1 hx).1
  have hd : B.drop k = x :: B.drop (k + 1) := by
    rw [List.drop_eq_getElem_cons hi]
    rw [List.getElem?_eq_getElem hi] at hx
    rw [Option.some.inj hx]
  have : us12 B = us12 (B.take k) ++ x :: us12 (B.drop (k + 1)) := by
    conv => lhs; rw [← List.take_append_drop k B]
    rw [us12, List.filter_append, hd]
    simp [us12, h1]
  rw [this, List.getElem?_append_right (Nat.le_refl _), Nat.sub_self]
  rfl

set_option maxRecDepth 100000 in
set_option maxHeartbeats 2000000 in
theorem used_seq12 (n : Nat) (hn : 1 ≤ n) (Bd : Nat) (c0 c1 c2 : Value) (A : Option Addr) (c : Nat) (B : List Bkt12) (w : World) (hBd : Is w Bd 31 #[c0, c1, c2]) (hsl : c0 = .slice A B.length c) (hc : InV w A (flB B)) (hfit : B.length ≤ 140737488355328) (S : Nat → Prop) (hS : S Bd) (hSA : ∀ p, A = some p → B ≠ [] → S p.block) :
    SeqL Fence.wide n Try.prog 52 #[.pointer (some ⟨Bd, 0, none⟩)] encB12 (us12 B) S w := by
  intro l J Jx W hW hJ hJx hY h0
  refine callsIn_of_wp Try.func52 rfl trivial ?_ rfl
  simp only [Try.ntmps52, List.size_toArray, List.length_cons, List.length_nil, Nat.reduceAdd, Nat.reduceSub, Array.replicate_succ, Array.replicate_zero, List.push_toArray, List.append_toArray, List.nil_append, List.cons_append]
  have cN : W.cell? ⟨Bd, 0, none⟩ = some (.slice A B.length c) := by rw [(hW.is hBd hS).cell 0, ← hsl]; rfl
  have HY := Lib.hid hY
  have HJ := Lib.hid hJ
  have HC := Lib.hid hc
  clear hY hJ hJx hc hBd hsl
  gi_wp2
  clear cN
  gi_loopw [8] (fun i wr => ∃ k : Nat, k ≤ B.length ∧ i = .int .i64 (k : Int) ∧ J (us12 (B.take k)).length wr ∧ Stay S w wr ∧ W.heap.size ≤ wr.heap.size) (fun i _ => B.length - (intOf i).toNat)
  case atStart => exact ⟨0, by omega, rfl, h0, hW, Nat.le_refl _⟩
  case round =>
    clear h0
    obtain ⟨k, hk, rfl, hJk, hB, hs⟩ := hrel
    by_cases hlt : k < B.length
    · have hkx : B[k]? = some B[k] := List.getElem?_eq_getElem hlt
      generalize B[k] = x at hkx
      obtain ⟨b, off, rfl, hb, hr⟩ := HC.out.bkt hkx
      have hr := rangeS12 hr hB (hSA _ rfl (fun e => by rw [e] at hlt; cases hlt))
      have w1i := IntWalk.i64_in ((k : Int) + 1) (by omega)
      have hk1 : (k : Int) < (B.length : Int) := by omega
      obtain ⟨st, xl, xc⟩ := x
      by_cases h1 : st = 1
      · subst h1
        have iX := Is.new wr 25 (bktA ⟨1, xl, xc⟩)
        have x0 : (wr.alloc (.cells (bktA ⟨1, xl, xc⟩) 25)).cell? ⟨wr.heap.size, 0, none⟩ = some (.int .i64 1) := iX.cell 0
        have hJa := HJ.out.alloc (.cells (bktA ⟨1, xl, xc⟩) 25) hJk
        have hut := us_take12 hkx
        rw [if_pos rfl] at hut
        have HUL := Lib.hid (show (us12 (B.take (k + 1))).length = (us12 (B.take k)).length + 1 by rw [hut]; simp)
        obtain ⟨fn, tmps, assign, body, hy, hR⟩ := HY.out _ _ (wr.alloc (.cells (bktA ⟨1, xl, xc⟩) 25)) (us_at12 hkx rfl) hJa
        simp only [encB12, bktV, bktA] at hy
        have HR := Lib.hid hR
        have HX := Lib.hid iX
        clear hR hkx hut iX
        gi_wp2_with (first | (refine wpListIn_load_midI rfl 25 _ rfl b (off + k * 3) rfl _ hr Try.underlying25 rfl infoBkt12 ?_) | (refine wpListIn_load_rowI rfl 25 _ rfl wr.heap.size rfl HX.out Try.underlying25 rfl infoBkt12 ?_))
        refine HR.out.mono ?_
        rintro e W3 (⟨rfl, hJ3, hB3⟩ | ⟨rfl, hJx3, _⟩)
        · gi_wp2
          go_roundw
          case rel => exact ⟨k + 1, by omega, by go_num, by rw [HUL.out]; exact hJ3, (hB.grown (World.grownBy_alloc wr _ none) (fun r e => by cases e)).trans (hB3.mono (fun k hk => .inl hk)), Nat.le_trans hs (Nat.le_trans (by simp) hB3.size)⟩
          case measure => simp [intOf]; omega
        · gi_wp2
          refine bodyPost_ret (results_none rfl _ _ _) rfl ?_
          exact ⟨⟨_, rfl⟩, .inr ⟨_, hJx3⟩⟩
      · have hut := us_take12 hkx
        rw [if_neg h1, List.append_nil] at hut
        have HUT := Lib.hid hut
        have iX := Is.new wr 25 (bktA ⟨st, xl, xc⟩)
        have x0 : (wr.alloc (.cells (bktA ⟨st, xl, xc⟩) 25)).cell? ⟨wr.heap.size, 0, none⟩ = some (.int .i64 st) := iX.cell 0
        have hJa := HJ.out.alloc (.cells (bktA ⟨st, xl, xc⟩) 25) hJk
        clear hkx hut iX
        gi_wp2_with (first | (refine wpListIn_load_midI rfl 25 _ rfl b (off + k * 3) rfl _ hr Try.underlying25 rfl infoBkt12 ?_) | (with_reducible refine And.intro (fun f e => (by cases e)) ?_))
        go_roundw
        case rel => exact ⟨k + 1, by omega, by go_num, by rw [HUT.out]; exact hJa, hB.grown (World.grownBy_alloc wr _ none) (fun r e => by cases e), Nat.le_trans hs (by simp)⟩
        case measure => simp [intOf]; omega
    · have hk1 : ¬ (k : Int) < (B.length : Int) := by omega
      obtain rfl : k = B.length := by omega
      gi_wp2
      go_end0
      exact ⟨⟨_, rfl⟩, .inl (by rw [List.take_length] at hJk; exact hJk)⟩

set_option maxRecDepth 100000 in
set_option maxHeartbeats 2000000 in
theorem round_seq12 (n : Nat) (hn : 1 ≤ n) (Bd Fd : Nat) (c0 c1 c2 : Value) (A : Option Addr) (c f : Nat) (B : List Bkt12) (w : World) (hBd : Is w Bd 31 #[c0, c1, c2]) (hFd : Is w Fd 3 #[.int .i64 (f : Int)]) (hsl : c0 = .slice A B.length c) (hc : InV w A (flB B)) (hfit : B.length ≤ 4096) (hf : f < 1000000) (S : Nat → Prop) (hS : S Bd) (hS2 : S Fd) (hSA : ∀ p, A = some p → B ≠ [] → S p.block) :
    SeqL Fence.wide n Try.prog 59 #[.pointer (some ⟨Bd, 0, none⟩), .pointer (some ⟨Fd, 0, none⟩)] encR12 (rnd12 B f) S w := by
  intro l J Jx W hW hJ hJx hY h0
  refine callsIn_of_wp Try.func59 rfl trivial ?_ rfl
  simp only [Try.ntmps59, List.size_toArray, List.length_cons, List.length_nil, Nat.reduceAdd, Nat.reduceSub, Array.replicate_succ, Array.replicate_zero, List.push_toArray, List.append_toArray, List.nil_append, List.cons_append]
  have cN : W.cell? ⟨Bd, 0, none⟩ = some (.slice A B.length c) := by rw [(hW.is hBd hS).cell 0, ← hsl]; rfl
  have HBD := Lib.hid (show Is w Bd 31 #[.slice A B.length c, c1, c2] by rw [← hsl]; exact hBd)
  have HFD := Lib.hid hFd
  have HY := Lib.hid hY
  have HJ := Lib.hid hJ
  have HC := Lib.hid hc
  clear hY hJ hJx hc hBd hsl hFd
  gi_wp2
  clear cN
  gi_loopw [9] (fun i wr => ∃ k : Nat, k ≤ B.length ∧ i = .int .i64 (k : Int) ∧ J k wr ∧ Stay S w wr ∧ W.heap.size ≤ wr.heap.size) (fun i _ => B.length - (intOf i).toNat)
  case atStart => exact ⟨0, by omega, rfl, h0, hW, Nat.le_refl _⟩
  case round =>
    clear h0
    obtain ⟨k, hk, rfl, hJk, hB, hs⟩ := hrel
    by_cases hlt : k < B.length
    · have hpk := way_lt12 f k (n := B.length) (by omega)
      have hxk : (rnd12 B f)[k]? = some (way12 f B.length k, at12 B (way12 f B.length k)) := rnd_at12 hlt
      have hkx : B[way12 f B.length k]? = some (at12 B (way12 f B.length k)) := by rw [at_get12 hpk]; exact List.getElem?_eq_getElem hpk
      have hmod : Int.tmod ((f : Int) + (k : Int)) (B.length : Int) = ((way12 f B.length k : Nat) : Int) := by
        rw [Int.tmod_eq_emod_of_nonneg (by omega), way12, Int.natCast_emod, Int.natCast_add]
      generalize at12 B (way12 f B.length k) = x at *
      generalize way12 f B.length k = p at *
      obtain ⟨b, off, rfl, hb, hr⟩ := HC.out.bkt hkx
      have hr := rangeS12 hr hB (hSA _ rfl (fun e => by rw [e] at hlt; cases hlt))
      have w1i := IntWalk.i64_in ((k : Int) + 1) (by omega)
      have w2i := IntWalk.i64_in ((f : Int) + (k : Int)) (by omega)
      have w3i := IntWalk.i64_in ((p : Int)) (by omega)
      have hk1 : (k : Int) < (B.length : Int) := by omega
      have hp1 : (p : Int) < (B.length : Int) := by omega
      have cB : wr.cell? ⟨Bd, 0, none⟩ = some (.slice (some ⟨b, off, none⟩) B.length c) := (hB.is HBD.out hS).cell 0
      have cF : wr.cell? ⟨Fd, 0, none⟩ = some (.int .i64 (f : Int)) := (hB.is HFD.out hS2).cell 0
      obtain ⟨st, xl, xc⟩ := x
      obtain ⟨fn, tmps, assign, body, hy, hR⟩ := HY.out _ _ wr hxk hJk
      simp only [encR12, bktV, bktA] at hy
      have HR := Lib.hid hR
      clear hR hkx hxk
      gi_wp2_with (refine wpListIn_load_midI rfl 25 _ rfl b (off + p * 3) rfl _ hr Try.underlying25 rfl infoBkt12 ?_)
      refine HR.out.mono ?_
      rintro e W3 (⟨rfl, hJ3, hB3⟩ | ⟨rfl, hJx3, _⟩)
      · gi_wp2
        go_roundw
        case rel => exact ⟨k + 1, by omega, by go_num, hJ3, hB.trans (hB3.mono (fun k hk => .inl hk)), Nat.le_trans hs hB3.size⟩
        case measure => simp [intOf]; omega
      · gi_wp2
        refine bodyPost_ret (results_none rfl _ _ _) rfl ?_
        exact ⟨⟨_, rfl⟩, .inr ⟨_, hJx3⟩⟩
    · have hk1 : ¬ (k : Int) < (B.length : Int) := by omega
      obtain rfl : k = B.length := by omega
      gi_wp2
      go_end0
      exact ⟨⟨_, rfl⟩, .inl (by rw [rnd_len12]; exact hJk)⟩
end Go.Proofs.Ytglcckpkbnppoaa
