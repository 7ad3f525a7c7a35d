/-
  Contracts of tape.places and of the iterator that it returns: the places of n things from the last one down to the place 1. Condition: n is no more than 1000.
-/
import Derived.Test.YtchgkiallbpjkaaTapA
import Derived.Test.YtchgkiallbpjkaaTapF
import Derived.Lib.BufStepsIn
import Derived.Lib.OthersKept
import Derived.RangeFuncFrom
namespace Go.Proofs.Ytchgkiallbpjkaa
open Go.RowKit Go.Shelf
attribute [local go_sem] Oper.semAt_some

/-- a place of n things, but the first one. -/
abbrev PlAt (n : Nat) := { x : Nat // 1 ≤ x ∧ x < n }
/-- the first k places, from the last one down. -/
def downN (n : Nat) : Nat → List Nat
  | 0 => []
  | k + 1 => downN n k ++ [n - 1 - k]
theorem downN_len (n k : Nat) : (downN n k).length = k := by
  induction k with
  | zero => rfl
  | succ k ih => rw [downN, List.length_append, ih]; rfl
/-- the first k places, from the last one down: told so, the list is turned. -/
theorem trnF_down (B : ByteArray) (a : Nat) (l : List Int) (k : Nat) : trnF B a l (downN l.length k) = trnL B a l k := by
  induction k with
  | zero => rfl
  | succ k ih => rw [downN, trnF_snoc, ih, downN_len, trnL]

set_option maxRecDepth 100000 in
set_option maxHeartbeats 1000000 in
theorem places1_in (n : Nat) (hn : 1 ≤ n) (l Bn : Nat) (N : Nat) (hN : N ≤ 1000) (J Jx : List (PlAt N) → World → Prop)
    (W : World)
    (hY : ∀ pre x W, J pre W → pre.length < N - 1 → YieldAt Fence.wide (n - 1) Try.prog l #[.int .i64 ((x.1 : Nat) : Int)] W fun e W' =>
      (e = .returned (.bool true) ∧ J (pre ++ [x]) W' ∧ True) ∨ (e = .returned (.bool false) ∧ Jx (pre ++ [x]) W'))
    (hBn : Is W Bn 3 #[.int .i64 (N : Int)]) (h0 : J [] W) :
    CallsIn Fence.wide n Try.prog 25 #[.func (.yield l) #[] #[], .pointer (some ⟨Bn, 0, none⟩)] W fun e W' => (∃ v, e = .returned v) ∧
      ((∃ ys, ys.map Subtype.val = downN N (N - 1) ∧ J ys W') ∨ (∃ pre, True ∧ Jx pre W')) := by
  have cn : W.cell? ⟨Bn, 0, none⟩ = some (.int .i64 (N : Int)) := hBn.cell 0
  refine callsIn_of_wp Try.func25 rfl trivial ?_ rfl
  simp only [Try.ntmps25, List.size_toArray, List.length_cons, List.length_nil, Nat.reduceAdd, Nat.reduceSub, Array.replicate_succ, Array.replicate_zero, List.push_toArray, List.append_toArray, List.nil_append, List.cons_append]
  have w0i := IntWalk.i64_in ((N : Int) - 1) (by omega)
  gi_wp2
  clear cn hBn w0i
  gi_loopw [3] (fun i wr => ∃ (k : Nat) (pre : List (PlAt N)), pre.map Subtype.val = downN N k ∧ (k ≤ N - 1) ∧ i = .int .i64 ((N : Int) - 1 - (k : Int)) ∧ J pre wr)
    (fun i _ => (intOf i).toNat)
  case atStart => exact ⟨0, [], rfl, by omega, by simp, h0⟩
  case round =>
    clear h0
    obtain ⟨k, pre, hpre, hk, rfl, hJk⟩ := hrel
    have hlen : pre.length = k := by have := congrArg List.length hpre; rwa [List.length_map, downN_len] at this
    by_cases hlt : k < N - 1
    · have hl1 : (1 : Int) ≤ (N : Int) - 1 - (k : Int) := by omega
      obtain ⟨fn, tmps, assign, body, hy, hR⟩ := hY pre ⟨N - 1 - k, by omega, by omega⟩ wr hJk (by omega)
      rw [show (((⟨N - 1 - k, by omega, by omega⟩ : PlAt N).1 : Nat) : Int) = (N : Int) - 1 - (k : Int) by show ((N - 1 - k : Nat) : Int) = _; omega] at hy
      have HR := Lib.hid hR
      have w1i := IntWalk.i64_in ((N : Int) - 1 - (k : Int) - 1) (by omega)
      have hmap : (pre ++ [(⟨N - 1 - k, by omega, by omega⟩ : PlAt N)]).map Subtype.val = downN N (k + 1) := by
        rw [List.map_append, hpre, downN]; rfl
      have HM := Lib.hid hmap
      clear hR hmap
      gi_wp2
      refine HR.out.mono ?_
      rintro e W3 (⟨rfl, hJ3, _⟩ | ⟨rfl, hJx3⟩)
      · gi_wp2
        go_roundw
        case rel => exact ⟨k + 1, _, HM.out, by omega, by rw [show (N : Int) - 1 - ((k + 1 : Nat) : Int) = (N : Int) - 1 - (k : Int) - 1 by omega], hJ3⟩
        case measure => simp [intOf]; omega
      · gi_wp2
        refine bodyPost_ret (results_none rfl _ _ _) rfl ?_
        exact ⟨⟨_, rfl⟩, .inr ⟨_, trivial, hJx3⟩⟩
    · have hl1 : ¬ (1 : Int) ≤ (N : Int) - 1 - (k : Int) := by omega
      obtain rfl : k = N - 1 := by omega
      gi_wp2
      go_end0
      exact ⟨⟨_, rfl⟩, .inl ⟨pre, hpre, hJk⟩⟩

set_option maxRecDepth 100000 in
set_option maxHeartbeats 1000000 in
theorem places_in (n : Nat) (N : Int) (w : World) :
    CallsIn Fence.wide n Try.prog 23 #[.int .i64 N] w fun e w' => e = .returned (.func (.func 25) #[] #[.pointer (some ⟨w.heap.size, 0, none⟩)]) ∧
      w' = w.alloc (.cells #[.int .i64 N] 3) := by
  refine callsIn_of_wp Try.func23 rfl trivial ?_ rfl
  simp only [Try.ntmps23, List.size_toArray, List.length_cons, List.length_nil, Nat.reduceAdd, Nat.reduceSub, Array.replicate_succ, Array.replicate_zero, List.push_toArray, List.append_toArray, List.nil_append, List.cons_append]
  gi_wp2
  go_ret
  exact ⟨rfl, rfl⟩

theorem places_stops (n : Nat) (hn : 1 ≤ n) (Bn : Nat) (N : Nat) (hN : N ≤ 1000) (w : World) (hBn : Is w Bn 3 #[.int .i64 (N : Int)]) :
    SeqStopsK Fence.wide n Try.prog 25 #[.pointer (some ⟨Bn, 0, none⟩)] (fun x : PlAt N => #[Value.int .i64 ((x.1 : Nat) : Int)]) (fun _ _ => True) (fun ys => ys.map Subtype.val = downN N (N - 1)) (fun _ => True) (N - 1) w := fun l J Jx W hW _ _ hY h0 =>
  places1_in n hn l Bn N hN J Jx W hY (hBn.below hW hBn.lt) h0
end Go.Proofs.Ytchgkiallbpjkaa
