/-
  Contracts of wire.Encode and wire.Answer.
-/
import Derived.Test.YtapfbcpbiagogaaWirD
import Derived.Test.YtapfbcpbiagogaaCoeE
namespace Go.Proofs.Ytapfbcpbiagogaa
open Go.RowKit Go.Shelf

set_option maxRecDepth 100000 in
set_option maxHeartbeats 4000000 in
theorem enc11_reg (W0 : World) (DQ : Nat) (k : Int) (A A2 : Option Addr) (c c2 nl nc : Nat) (s1 s2 s3 s4 : ByteArray) (N1 : Hid (∀ W, Calls Try.prog 29 #[.int .i64 k] W fun e w' => e = .returned (.string s1) ∧ Below W.heap.size W w'))
    (N2 : Hid (∀ W, Below W0.heap.size W0 W → Calls Try.prog 30 #[.slice A nl c] W fun e w' => e = .returned (.string s2) ∧ Below W.heap.size W w')) (N3 : Hid (∀ W, Below W0.heap.size W0 W → Calls Try.prog 30 #[.slice A2 nc c2] W fun e w' => e = .returned (.string s3) ∧ Below W.heap.size W w'))
    (N4 : Hid (∀ g W, Is W g 9 #[.string s1, .string s2, .string s3] → Calls Try.prog 28 #[.slice (some ⟨g, 0, none⟩) 3 3] W fun e w' => e = .returned (.string s4) ∧ Below W.heap.size W w')) (iq : Is W0 DQ 26 #[.int .i64 k, .slice A nl c, .slice A2 nc c2]) (x0 x2 x3 x4 x5 x6 x7 x8 x9 x10 x11 x12 x13 x14 x15 x16 x17 : Value) :
    (Code.region 3 (opsOf Try.f10 3) true).wp Try.prog (fun ex YY W => ex = .normal ∧ YY.defers = [] ∧ ∃ (DP : Nat), YY.tmps = #[x0, .pointer (some ⟨DQ, 0, none⟩), .string s4, .int .i64 0, x4, x5, x6, .pointer (some ⟨DQ, 0, none⟩), .int .i64 k, .string s1, .pointer (some ⟨DQ, 1, none⟩), .slice A nl c, .string s2, .pointer (some ⟨DQ, 2, none⟩), .slice A2 nc c2, .string s3, .slice (some ⟨DP, 0, none⟩) 3 3, .string s4] ∧ Below W0.heap.size W0 W ∧ Is W DP 9 #[.string s1, .string s2, .string s3]) { tmps := #[x0, .pointer (some ⟨DQ, 0, none⟩), x2, x3, x4, x5, x6, x7, x8, x9, x10, x11, x12, x13, x14, x15, x16, x17], defers := [] } W0 := by
  have hB : Below W0.heap.size W0 (W0.drewN 1) := belowN (Below.refl _ _) 1
  generalize hQ : (fun (ex : Exit) (YY : Act) (W : World) => ex = .normal ∧ YY.defers = [] ∧ ∃ (DP : Nat), YY.tmps = #[x0, .pointer (some ⟨DQ, 0, none⟩), .string s4, .int .i64 0, x4, x5, x6, .pointer (some ⟨DQ, 0, none⟩), .int .i64 k, .string s1, .pointer (some ⟨DQ, 1, none⟩), .slice A nl c, .string s2, .pointer (some ⟨DQ, 2, none⟩), .slice A2 nc c2, .string s3, .slice (some ⟨DP, 0, none⟩) 3 3, .string s4] ∧ Below W0.heap.size W0 W ∧ Is W DP 9 #[.string s1, .string s2, .string s3]) = Q
  have HQN : ∀ c a W, ¬ Q (.panic c) a W := fun c a W h => by subst hQ; exact nomatch h.1
  have ST2_5_8_9_10 : ∀ (W : World) (DP : Nat), Below W0.heap.size W0 W → Is W DP 9 #[.string s1, .string s2, .string s3] → wpAnyH Try.prog .any (opsOf Try.f10 3) Q (fun W => Below W0.heap.size W0 W) 0 #[true, true, true, true, true, true, true, true, true, true, true, true, true] { tmps := #[x0, .pointer (some ⟨DQ, 0, none⟩), .string s4, .int .i64 0, x4, x5, x6, .pointer (some ⟨DQ, 0, none⟩), .int .i64 k, .string s1, .pointer (some ⟨DQ, 1, none⟩), .slice A nl c, .string s2, .pointer (some ⟨DQ, 2, none⟩), .slice A2 nc c2, .string s3, .slice (some ⟨DP, 0, none⟩) 3 3, .string s4], defers := [] } W := by
    intro W DP hB iP
    refine wpAnyH_done (by kernel_rfl) ?_ _
    subst hQ
    exact ⟨rfl, rfl, DP, rfl, hB, iP⟩
  have ST2_5_8_9 : ∀ (W : World) (DP : Nat), Below W0.heap.size W0 W → Is W DP 9 #[.string s1, .string s2, .string s3] → wpAnyH Try.prog .any (opsOf Try.f10 3) Q (fun W => Below W0.heap.size W0 W) 3 #[true, true, true, true, true, true, true, true, true, true, false, false, false] { tmps := #[x0, .pointer (some ⟨DQ, 0, none⟩), x2, x3, x4, x5, x6, .pointer (some ⟨DQ, 0, none⟩), .int .i64 k, .string s1, .pointer (some ⟨DQ, 1, none⟩), .slice A nl c, .string s2, .pointer (some ⟨DQ, 2, none⟩), .slice A2 nc c2, .string s3, .slice (some ⟨DP, 0, none⟩) 3 3, x17], defers := [] } W := by
    intro W DP hB iP
    refine wpAnyH_ready (by kernel_rfl) (by simp) (AllReadyH.cons (i := 10) (at_nth rfl) ?_ (AllReadyH.nil))
    · refine arm10_call (by kernel_rfl) (fun wy => by kernel_rfl) ((N4.out _ _ iP).mono ?_)
      rintro e Wn ⟨rfl, hb⟩
      replace iP := iP.below hb iP.lt
      replace hB := hB.trans (hb.mono hB.size)
      clear hb
      refine ⟨_, rfl, hB, ?_⟩
      simp only [Act.put, List.setIfInBounds_toArray, List.set_cons_succ, List.set_cons_zero]
      refine wpAnyH_pure (i := 11) (v := .string s4) (at_nth rfl) (by kernel_rfl) (by kernel_rfl) (by kernel_rfl) (fun _ _ _ h => absurd h (HQN _ _ _)) (by kernel_rfl) (fun w hSw => by kernel_rfl) hB ?_
      simp only [Act.put, List.setIfInBounds_toArray, List.set_cons_succ, List.set_cons_zero]
      refine wpAnyH_pure (i := 12) (v := .int .i64 0) (at_nth rfl) (by kernel_rfl) (by kernel_rfl) (by kernel_rfl) (fun _ _ _ h => absurd h (HQN _ _ _)) (by kernel_rfl) (fun w hSw => by kernel_rfl) hB ?_
      simp only [Act.put, List.setIfInBounds_toArray, List.set_cons_succ, List.set_cons_zero]
      exact ST2_5_8_9_10 _ _ hB iP
  have ST2_5_8 : ∀ (W : World), Below W0.heap.size W0 W → wpAnyH Try.prog .any (opsOf Try.f10 3) Q (fun W => Below W0.heap.size W0 W) 4 #[true, true, true, true, true, true, true, true, true, false, false, false, false] { tmps := #[x0, .pointer (some ⟨DQ, 0, none⟩), x2, x3, x4, x5, x6, .pointer (some ⟨DQ, 0, none⟩), .int .i64 k, .string s1, .pointer (some ⟨DQ, 1, none⟩), .slice A nl c, .string s2, .pointer (some ⟨DQ, 2, none⟩), .slice A2 nc c2, .string s3, x16, x17], defers := [] } W := by
    intro W hB
    refine wpAnyH_ready (by kernel_rfl) (by simp) (AllReadyH.cons (i := 9) (at_nth rfl) ?_ (AllReadyH.nil))
    · have iP := Is.new W 9 #[.string s1, .string s2, .string s3]
      replace hB := hB.alloc hB.size (.cells #[.string s1, .string s2, .string s3] 9)
      refine arm10_value (v := .slice (some ⟨W.heap.size, 0, none⟩) 3 3) (w' := W.alloc (.cells #[.string s1, .string s2, .string s3] 9)) (by kernel_rfl) (by go_simp) hB ?_
      simp only [Act.put, List.setIfInBounds_toArray, List.set_cons_succ, List.set_cons_zero]
      exact ST2_5_8_9 _ _ hB iP
  have ST2_5 : ∀ (W : World), Below W0.heap.size W0 W → wpAnyH Try.prog .any (opsOf Try.f10 3) Q (fun W => Below W0.heap.size W0 W) 5 #[true, true, true, true, true, true, true, true, false, false, false, false, false] { tmps := #[x0, .pointer (some ⟨DQ, 0, none⟩), x2, x3, x4, x5, x6, .pointer (some ⟨DQ, 0, none⟩), .int .i64 k, .string s1, .pointer (some ⟨DQ, 1, none⟩), .slice A nl c, .string s2, .pointer (some ⟨DQ, 2, none⟩), .slice A2 nc c2, x15, x16, x17], defers := [] } W := by
    intro W hB
    refine wpAnyH_ready (by kernel_rfl) (by simp) (AllReadyH.cons (i := 8) (at_nth rfl) ?_ (AllReadyH.nil))
    · refine arm10_call (by kernel_rfl) (fun wy => by kernel_rfl) ((N3.out _ hB).mono ?_)
      rintro e Wn ⟨rfl, hb⟩
      replace hB := hB.trans (hb.mono hB.size)
      clear hb
      refine ⟨_, rfl, hB, ?_⟩
      simp only [Act.put, List.setIfInBounds_toArray, List.set_cons_succ, List.set_cons_zero]
      exact ST2_5_8 _ hB
  have ST2 : ∀ (W : World), Below W0.heap.size W0 W → wpAnyH Try.prog .any (opsOf Try.f10 3) Q (fun W => Below W0.heap.size W0 W) 6 #[true, true, true, true, true, false, true, true, false, false, false, false, false] { tmps := #[x0, .pointer (some ⟨DQ, 0, none⟩), x2, x3, x4, x5, x6, .pointer (some ⟨DQ, 0, none⟩), .int .i64 k, .string s1, .pointer (some ⟨DQ, 1, none⟩), .slice A nl c, x12, .pointer (some ⟨DQ, 2, none⟩), .slice A2 nc c2, x15, x16, x17], defers := [] } W := by
    intro W hB
    refine wpAnyH_ready (by kernel_rfl) (by simp) (AllReadyH.cons (i := 5) (at_nth rfl) ?_ (AllReadyH.nil))
    · refine arm10_call (by kernel_rfl) (fun wy => by kernel_rfl) ((N2.out _ hB).mono ?_)
      rintro e Wn ⟨rfl, hb⟩
      replace hB := hB.trans (hb.mono hB.size)
      clear hb
      refine ⟨_, rfl, hB, ?_⟩
      simp only [Act.put, List.setIfInBounds_toArray, List.set_cons_succ, List.set_cons_zero]
      exact ST2_5 _ hB
  have ST : ∀ (W : World), Below W0.heap.size W0 W → wpAnyH Try.prog .any (opsOf Try.f10 3) Q (fun W => Below W0.heap.size W0 W) 7 #[true, true, false, true, true, false, true, true, false, false, false, false, false] { tmps := #[x0, .pointer (some ⟨DQ, 0, none⟩), x2, x3, x4, x5, x6, .pointer (some ⟨DQ, 0, none⟩), .int .i64 k, x9, .pointer (some ⟨DQ, 1, none⟩), .slice A nl c, x12, .pointer (some ⟨DQ, 2, none⟩), .slice A2 nc c2, x15, x16, x17], defers := [] } W := by
    intro W hB
    refine wpAnyH_ready (by kernel_rfl) (by simp) (AllReadyH.cons (i := 2) (at_nth rfl) ?_ (AllReadyH.nil))
    · refine arm10_call (by kernel_rfl) (fun wy => by kernel_rfl) ((N1.out _).mono ?_)
      rintro e Wn ⟨rfl, hb⟩
      replace hB := hB.trans (hb.mono hB.size)
      clear hb
      refine ⟨_, rfl, hB, ?_⟩
      simp only [Act.put, List.setIfInBounds_toArray, List.set_cons_succ, List.set_cons_zero]
      exact ST2 _ hB
  refine wp_region_held_drew (S := fun W => Below W0.heap.size W0 W) (by kernel_rfl) hB (fun hS => ?_)
  change wpAnyH _ _ (opsOf Try.f10 3) _ _ 13 (Array.replicate 13 false) _ (W0.drewN 1)
  clear hS
  replace hB : Below W0.heap.size W0 (W0.drewN 1) := belowN (Below.refl _ _) 1
  refine wpAnyH_pure (i := 0) (v := .pointer (some ⟨DQ, 0, none⟩)) (at_nth rfl) (by kernel_rfl) (by kernel_rfl) (by kernel_rfl) (fun _ _ _ h => absurd h (HQN _ _ _)) (by kernel_rfl) (fun w hSw => by go_simp) hB ?_
  simp only [Act.put, List.setIfInBounds_toArray, List.set_cons_succ, List.set_cons_zero]
  refine wpAnyH_pure (i := 1) (v := .int .i64 k) (at_nth rfl) (by kernel_rfl) (by kernel_rfl) (by kernel_rfl) (fun _ _ _ h => absurd h (HQN _ _ _)) (by kernel_rfl) (fun w hSw => by (have hc := (iq.below hSw iq.lt).cell 0; go_simp)) hB ?_
  simp only [Act.put, List.setIfInBounds_toArray, List.set_cons_succ, List.set_cons_zero]
  refine wpAnyH_pure (i := 3) (v := .pointer (some ⟨DQ, 1, none⟩)) (at_nth rfl) (by kernel_rfl) (by kernel_rfl) (by kernel_rfl) (fun _ _ _ h => absurd h (HQN _ _ _)) (by kernel_rfl) (fun w hSw => by go_simp) hB ?_
  simp only [Act.put, List.setIfInBounds_toArray, List.set_cons_succ, List.set_cons_zero]
  refine wpAnyH_pure (i := 4) (v := .slice A nl c) (at_nth rfl) (by kernel_rfl) (by kernel_rfl) (by kernel_rfl) (fun _ _ _ h => absurd h (HQN _ _ _)) (by kernel_rfl) (fun w hSw => by (have hc := (iq.below hSw iq.lt).cell 1; go_simp)) hB ?_
  simp only [Act.put, List.setIfInBounds_toArray, List.set_cons_succ, List.set_cons_zero]
  refine wpAnyH_pure (i := 6) (v := .pointer (some ⟨DQ, 2, none⟩)) (at_nth rfl) (by kernel_rfl) (by kernel_rfl) (by kernel_rfl) (fun _ _ _ h => absurd h (HQN _ _ _)) (by kernel_rfl) (fun w hSw => by go_simp) hB ?_
  simp only [Act.put, List.setIfInBounds_toArray, List.set_cons_succ, List.set_cons_zero]
  refine wpAnyH_pure (i := 7) (v := .slice A2 nc c2) (at_nth rfl) (by kernel_rfl) (by kernel_rfl) (by kernel_rfl) (fun _ _ _ h => absurd h (HQN _ _ _)) (by kernel_rfl) (fun w hSw => by (have hc := (iq.below hSw iq.lt).cell 2; go_simp)) hB ?_
  simp only [Act.put, List.setIfInBounds_toArray, List.set_cons_succ, List.set_cons_zero]
  exact ST _ hB

set_option maxRecDepth 100000 in
set_option maxHeartbeats 4000000 in
theorem answ11_reg (W0 : World) (DQ : Nat) (k st m r : Int) (A : Option Addr) (c nc : Nat) (s1 s2 s3 s4 s5 s6 : ByteArray) (N1 : Hid (∀ W, Calls Try.prog 29 #[.int .i64 k] W fun e w' => e = .returned (.string s1) ∧ Below W.heap.size W w'))
    (N2 : Hid (∀ W, Calls Try.prog 29 #[.int .i64 st] W fun e w' => e = .returned (.string s2) ∧ Below W.heap.size W w')) (N3 : Hid (∀ W, Below W0.heap.size W0 W → Calls Try.prog 30 #[.slice A nc c] W fun e w' => e = .returned (.string s3) ∧ Below W.heap.size W w')) (N4 : Hid (∀ W, Calls Try.prog 29 #[.int .i64 m] W fun e w' => e = .returned (.string s4) ∧ Below W.heap.size W w')) (N5 : Hid (∀ W, Calls Try.prog 29 #[.int .i64 r] W fun e w' => e = .returned (.string s5) ∧ Below W.heap.size W w'))
    (N6 : Hid (∀ g W, Is W g 9 #[.string s1, .string s2, .string s3, .string s4, .string s5] → Calls Try.prog 28 #[.slice (some ⟨g, 0, none⟩) 5 5] W fun e w' => e = .returned (.string s6) ∧ Below W.heap.size W w')) (iq : Is W0 DQ 28 #[.int .i64 k, .int .i64 st, .slice A nc c, .int .i64 m, .int .i64 r]) (x0 x2 x3 x4 x5 x6 x7 x8 x9 x10 x11 x12 x13 x14 x15 x16 x17 x18 x19 x20 x21 x22 x23 : Value) :
    (Code.region 3 (opsOf Try.f13 3) true).wp Try.prog (fun ex YY W => ex = .normal ∧ YY.defers = [] ∧ ∃ (DP : Nat), YY.tmps = #[x0, .pointer (some ⟨DQ, 0, none⟩), .string s6, .int .i64 0, x4, x5, x6, .pointer (some ⟨DQ, 0, none⟩), .int .i64 k, .string s1, .pointer (some ⟨DQ, 1, none⟩), .int .i64 st, .string s2, .pointer (some ⟨DQ, 2, none⟩), .slice A nc c, .string s3, .pointer (some ⟨DQ, 3, none⟩), .int .i64 m, .string s4, .pointer (some ⟨DQ, 4, none⟩), .int .i64 r, .string s5, .slice (some ⟨DP, 0, none⟩) 5 5, .string s6] ∧ Below W0.heap.size W0 W ∧ Is W DP 9 #[.string s1, .string s2, .string s3, .string s4, .string s5]) { tmps := #[x0, .pointer (some ⟨DQ, 0, none⟩), x2, x3, x4, x5, x6, x7, x8, x9, x10, x11, x12, x13, x14, x15, x16, x17, x18, x19, x20, x21, x22, x23], defers := [] } W0 := by
  have hB : Below W0.heap.size W0 (W0.drewN 1) := belowN (Below.refl _ _) 1
  generalize hQ : (fun (ex : Exit) (YY : Act) (W : World) => ex = .normal ∧ YY.defers = [] ∧ ∃ (DP : Nat), YY.tmps = #[x0, .pointer (some ⟨DQ, 0, none⟩), .string s6, .int .i64 0, x4, x5, x6, .pointer (some ⟨DQ, 0, none⟩), .int .i64 k, .string s1, .pointer (some ⟨DQ, 1, none⟩), .int .i64 st, .string s2, .pointer (some ⟨DQ, 2, none⟩), .slice A nc c, .string s3, .pointer (some ⟨DQ, 3, none⟩), .int .i64 m, .string s4, .pointer (some ⟨DQ, 4, none⟩), .int .i64 r, .string s5, .slice (some ⟨DP, 0, none⟩) 5 5, .string s6] ∧ Below W0.heap.size W0 W ∧ Is W DP 9 #[.string s1, .string s2, .string s3, .string s4, .string s5]) = Q
  have HQN : ∀ c a W, ¬ Q (.panic c) a W := fun c a W h => by subst hQ; exact nomatch h.1
  have ST2_5_8_11_14_15_16 : ∀ (W : World) (DP : Nat), Below W0.heap.size W0 W → Is W DP 9 #[.string s1, .string s2, .string s3, .string s4, .string s5] → wpAnyH Try.prog .any (opsOf Try.f13 3) Q (fun W => Below W0.heap.size W0 W) 0 #[true, true, true, true, true, true, true, true, true, true, true, true, true, true, true, true, true, true, true] { tmps := #[x0, .pointer (some ⟨DQ, 0, none⟩), .string s6, .int .i64 0, x4, x5, x6, .pointer (some ⟨DQ, 0, none⟩), .int .i64 k, .string s1, .pointer (some ⟨DQ, 1, none⟩), .int .i64 st, .string s2, .pointer (some ⟨DQ, 2, none⟩), .slice A nc c, .string s3, .pointer (some ⟨DQ, 3, none⟩), .int .i64 m, .string s4, .pointer (some ⟨DQ, 4, none⟩), .int .i64 r, .string s5, .slice (some ⟨DP, 0, none⟩) 5 5, .string s6], defers := [] } W := by
    intro W DP hB iP
    refine wpAnyH_done (by kernel_rfl) ?_ _
    subst hQ
    exact ⟨rfl, rfl, DP, rfl, hB, iP⟩
  have ST2_5_8_11_14_15 : ∀ (W : World) (DP : Nat), Below W0.heap.size W0 W → Is W DP 9 #[.string s1, .string s2, .string s3, .string s4, .string s5] → wpAnyH Try.prog .any (opsOf Try.f13 3) Q (fun W => Below W0.heap.size W0 W) 3 #[true, true, true, true, true, true, true, true, true, true, true, true, true, true, true, true, false, false, false] { tmps := #[x0, .pointer (some ⟨DQ, 0, none⟩), x2, x3, x4, x5, x6, .pointer (some ⟨DQ, 0, none⟩), .int .i64 k, .string s1, .pointer (some ⟨DQ, 1, none⟩), .int .i64 st, .string s2, .pointer (some ⟨DQ, 2, none⟩), .slice A nc c, .string s3, .pointer (some ⟨DQ, 3, none⟩), .int .i64 m, .string s4, .pointer (some ⟨DQ, 4, none⟩), .int .i64 r, .string s5, .slice (some ⟨DP, 0, none⟩) 5 5, x23], defers := [] } W := by
    intro W DP hB iP
    refine wpAnyH_ready (by kernel_rfl) (by simp) (AllReadyH.cons (i := 16) (at_nth rfl) ?_ (AllReadyH.nil))
    · refine arm10_call (by kernel_rfl) (fun wy => by kernel_rfl) ((N6.out _ _ iP).mono ?_)
      rintro e Wn ⟨rfl, hb⟩
      replace iP := iP.below hb iP.lt
      replace hB := hB.trans (hb.mono hB.size)
      clear hb
      refine ⟨_, rfl, hB, ?_⟩
      simp only [Act.put, List.setIfInBounds_toArray, List.set_cons_succ, List.set_cons_zero]
      refine wpAnyH_pure (i := 17) (v := .string s6) (at_nth rfl) (by kernel_rfl) (by kernel_rfl) (by kernel_rfl) (fun _ _ _ h => absurd h (HQN _ _ _)) (by kernel_rfl) (fun w hSw => by kernel_rfl) hB ?_
      simp only [Act.put, List.setIfInBounds_toArray, List.set_cons_succ, List.set_cons_zero]
      refine wpAnyH_pure (i := 18) (v := .int .i64 0) (at_nth rfl) (by kernel_rfl) (by kernel_rfl) (by kernel_rfl) (fun _ _ _ h => absurd h (HQN _ _ _)) (by kernel_rfl) (fun w hSw => by kernel_rfl) hB ?_
      simp only [Act.put, List.setIfInBounds_toArray, List.set_cons_succ, List.set_cons_zero]
      exact ST2_5_8_11_14_15_16 _ _ hB iP
  have ST2_5_8_11_14 : ∀ (W : World), Below W0.heap.size W0 W → wpAnyH Try.prog .any (opsOf Try.f13 3) Q (fun W => Below W0.heap.size W0 W) 4 #[true, true, true, true, true, true, true, true, true, true, true, true, true, true, true, false, false, false, false] { tmps := #[x0, .pointer (some ⟨DQ, 0, none⟩), x2, x3, x4, x5, x6, .pointer (some ⟨DQ, 0, none⟩), .int .i64 k, .string s1, .pointer (some ⟨DQ, 1, none⟩), .int .i64 st, .string s2, .pointer (some ⟨DQ, 2, none⟩), .slice A nc c, .string s3, .pointer (some ⟨DQ, 3, none⟩), .int .i64 m, .string s4, .pointer (some ⟨DQ, 4, none⟩), .int .i64 r, .string s5, x22, x23], defers := [] } W := by
    intro W hB
    refine wpAnyH_ready (by kernel_rfl) (by simp) (AllReadyH.cons (i := 15) (at_nth rfl) ?_ (AllReadyH.nil))
    · have iP := Is.new W 9 #[.string s1, .string s2, .string s3, .string s4, .string s5]
      replace hB := hB.alloc hB.size (.cells #[.string s1, .string s2, .string s3, .string s4, .string s5] 9)
      refine arm10_value (v := .slice (some ⟨W.heap.size, 0, none⟩) 5 5) (w' := W.alloc (.cells #[.string s1, .string s2, .string s3, .string s4, .string s5] 9)) (by kernel_rfl) (by go_simp) hB ?_
      simp only [Act.put, List.setIfInBounds_toArray, List.set_cons_succ, List.set_cons_zero]
      exact ST2_5_8_11_14_15 _ _ hB iP
  have ST2_5_8_11 : ∀ (W : World), Below W0.heap.size W0 W → wpAnyH Try.prog .any (opsOf Try.f13 3) Q (fun W => Below W0.heap.size W0 W) 5 #[true, true, true, true, true, true, true, true, true, true, true, true, true, true, false, false, false, false, false] { tmps := #[x0, .pointer (some ⟨DQ, 0, none⟩), x2, x3, x4, x5, x6, .pointer (some ⟨DQ, 0, none⟩), .int .i64 k, .string s1, .pointer (some ⟨DQ, 1, none⟩), .int .i64 st, .string s2, .pointer (some ⟨DQ, 2, none⟩), .slice A nc c, .string s3, .pointer (some ⟨DQ, 3, none⟩), .int .i64 m, .string s4, .pointer (some ⟨DQ, 4, none⟩), .int .i64 r, x21, x22, x23], defers := [] } W := by
    intro W hB
    refine wpAnyH_ready (by kernel_rfl) (by simp) (AllReadyH.cons (i := 14) (at_nth rfl) ?_ (AllReadyH.nil))
    · refine arm10_call (by kernel_rfl) (fun wy => by kernel_rfl) ((N5.out _).mono ?_)
      rintro e Wn ⟨rfl, hb⟩
      replace hB := hB.trans (hb.mono hB.size)
      clear hb
      refine ⟨_, rfl, hB, ?_⟩
      simp only [Act.put, List.setIfInBounds_toArray, List.set_cons_succ, List.set_cons_zero]
      exact ST2_5_8_11_14 _ hB
  have ST2_5_8 : ∀ (W : World), Below W0.heap.size W0 W → wpAnyH Try.prog .any (opsOf Try.f13 3) Q (fun W => Below W0.heap.size W0 W) 6 #[true, true, true, true, true, true, true, true, true, true, true, false, true, true, false, false, false, false, false] { tmps := #[x0, .pointer (some ⟨DQ, 0, none⟩), x2, x3, x4, x5, x6, .pointer (some ⟨DQ, 0, none⟩), .int .i64 k, .string s1, .pointer (some ⟨DQ, 1, none⟩), .int .i64 st, .string s2, .pointer (some ⟨DQ, 2, none⟩), .slice A nc c, .string s3, .pointer (some ⟨DQ, 3, none⟩), .int .i64 m, x18, .pointer (some ⟨DQ, 4, none⟩), .int .i64 r, x21, x22, x23], defers := [] } W := by
    intro W hB
    refine wpAnyH_ready (by kernel_rfl) (by simp) (AllReadyH.cons (i := 11) (at_nth rfl) ?_ (AllReadyH.nil))
    · refine arm10_call (by kernel_rfl) (fun wy => by kernel_rfl) ((N4.out _).mono ?_)
      rintro e Wn ⟨rfl, hb⟩
      replace hB := hB.trans (hb.mono hB.size)
      clear hb
      refine ⟨_, rfl, hB, ?_⟩
      simp only [Act.put, List.setIfInBounds_toArray, List.set_cons_succ, List.set_cons_zero]
      exact ST2_5_8_11 _ hB
  have ST2_5 : ∀ (W : World), Below W0.heap.size W0 W → wpAnyH Try.prog .any (opsOf Try.f13 3) Q (fun W => Below W0.heap.size W0 W) 7 #[true, true, true, true, true, true, true, true, false, true, true, false, true, true, false, false, false, false, false] { tmps := #[x0, .pointer (some ⟨DQ, 0, none⟩), x2, x3, x4, x5, x6, .pointer (some ⟨DQ, 0, none⟩), .int .i64 k, .string s1, .pointer (some ⟨DQ, 1, none⟩), .int .i64 st, .string s2, .pointer (some ⟨DQ, 2, none⟩), .slice A nc c, x15, .pointer (some ⟨DQ, 3, none⟩), .int .i64 m, x18, .pointer (some ⟨DQ, 4, none⟩), .int .i64 r, x21, x22, x23], defers := [] } W := by
    intro W hB
    refine wpAnyH_ready (by kernel_rfl) (by simp) (AllReadyH.cons (i := 8) (at_nth rfl) ?_ (AllReadyH.nil))
    · refine arm10_call (by kernel_rfl) (fun wy => by kernel_rfl) ((N3.out _ hB).mono ?_)
      rintro e Wn ⟨rfl, hb⟩
      replace hB := hB.trans (hb.mono hB.size)
      clear hb
      refine ⟨_, rfl, hB, ?_⟩
      simp only [Act.put, List.setIfInBounds_toArray, List.set_cons_succ, List.set_cons_zero]
      exact ST2_5_8 _ hB
  have ST2 : ∀ (W : World), Below W0.heap.size W0 W → wpAnyH Try.prog .any (opsOf Try.f13 3) Q (fun W => Below W0.heap.size W0 W) 8 #[true, true, true, true, true, false, true, true, false, true, true, false, true, true, false, false, false, false, false] { tmps := #[x0, .pointer (some ⟨DQ, 0, none⟩), x2, x3, x4, x5, x6, .pointer (some ⟨DQ, 0, none⟩), .int .i64 k, .string s1, .pointer (some ⟨DQ, 1, none⟩), .int .i64 st, x12, .pointer (some ⟨DQ, 2, none⟩), .slice A nc c, x15, .pointer (some ⟨DQ, 3, none⟩), .int .i64 m, x18, .pointer (some ⟨DQ, 4, none⟩), .int .i64 r, x21, x22, x23], defers := [] } W := by
    intro W hB
    refine wpAnyH_ready (by kernel_rfl) (by simp) (AllReadyH.cons (i := 5) (at_nth rfl) ?_ (AllReadyH.nil))
    · refine arm10_call (by kernel_rfl) (fun wy => by kernel_rfl) ((N2.out _).mono ?_)
      rintro e Wn ⟨rfl, hb⟩
      replace hB := hB.trans (hb.mono hB.size)
      clear hb
      refine ⟨_, rfl, hB, ?_⟩
      simp only [Act.put, List.setIfInBounds_toArray, List.set_cons_succ, List.set_cons_zero]
      exact ST2_5 _ hB
  have ST : ∀ (W : World), Below W0.heap.size W0 W → wpAnyH Try.prog .any (opsOf Try.f13 3) Q (fun W => Below W0.heap.size W0 W) 9 #[true, true, false, true, true, false, true, true, false, true, true, false, true, true, false, false, false, false, false] { tmps := #[x0, .pointer (some ⟨DQ, 0, none⟩), x2, x3, x4, x5, x6, .pointer (some ⟨DQ, 0, none⟩), .int .i64 k, x9, .pointer (some ⟨DQ, 1, none⟩), .int .i64 st, x12, .pointer (some ⟨DQ, 2, none⟩), .slice A nc c, x15, .pointer (some ⟨DQ, 3, none⟩), .int .i64 m, x18, .pointer (some ⟨DQ, 4, none⟩), .int .i64 r, x21, x22, x23], defers := [] } W := by
    intro W hB
    refine wpAnyH_ready (by kernel_rfl) (by simp) (AllReadyH.cons (i := 2) (at_nth rfl) ?_ (AllReadyH.nil))
    · refine arm10_call (by kernel_rfl) (fun wy => by kernel_rfl) ((N1.out _).mono ?_)
      rintro e Wn ⟨rfl, hb⟩
      replace hB := hB.trans (hb.mono hB.size)
      clear hb
      refine ⟨_, rfl, hB, ?_⟩
      simp only [Act.put, List.setIfInBounds_toArray, List.set_cons_succ, List.set_cons_zero]
      exact ST2 _ hB
  refine wp_region_held_drew (S := fun W => Below W0.heap.size W0 W) (by kernel_rfl) hB (fun hS => ?_)
  change wpAnyH _ _ (opsOf Try.f13 3) _ _ 19 (Array.replicate 19 false) _ (W0.drewN 1)
  clear hS
  replace hB : Below W0.heap.size W0 (W0.drewN 1) := belowN (Below.refl _ _) 1
  refine wpAnyH_pure (i := 0) (v := .pointer (some ⟨DQ, 0, none⟩)) (at_nth rfl) (by kernel_rfl) (by kernel_rfl) (by kernel_rfl) (fun _ _ _ h => absurd h (HQN _ _ _)) (by kernel_rfl) (fun w hSw => by go_simp) hB ?_
  simp only [Act.put, List.setIfInBounds_toArray, List.set_cons_succ, List.set_cons_zero]
  refine wpAnyH_pure (i := 1) (v := .int .i64 k) (at_nth rfl) (by kernel_rfl) (by kernel_rfl) (by kernel_rfl) (fun _ _ _ h => absurd h (HQN _ _ _)) (by kernel_rfl) (fun w hSw => by (have hc := (iq.below hSw iq.lt).cell 0; go_simp)) hB ?_
  simp only [Act.put, List.setIfInBounds_toArray, List.set_cons_succ, List.set_cons_zero]
  refine wpAnyH_pure (i := 3) (v := .pointer (some ⟨DQ, 1, none⟩)) (at_nth rfl) (by kernel_rfl) (by kernel_rfl) (by kernel_rfl) (fun _ _ _ h => absurd h (HQN _ _ _)) (by kernel_rfl) (fun w hSw => by go_simp) hB ?_
  simp only [Act.put, List.setIfInBounds_toArray, List.set_cons_succ, List.set_cons_zero]
  refine wpAnyH_pure (i := 4) (v := .int .i64 st) (at_nth rfl) (by kernel_rfl) (by kernel_rfl) (by kernel_rfl) (fun _ _ _ h => absurd h (HQN _ _ _)) (by kernel_rfl) (fun w hSw => by (have hc := (iq.below hSw iq.lt).cell 1; go_simp)) hB ?_
  simp only [Act.put, List.setIfInBounds_toArray, List.set_cons_succ, List.set_cons_zero]
  refine wpAnyH_pure (i := 6) (v := .pointer (some ⟨DQ, 2, none⟩)) (at_nth rfl) (by kernel_rfl) (by kernel_rfl) (by kernel_rfl) (fun _ _ _ h => absurd h (HQN _ _ _)) (by kernel_rfl) (fun w hSw => by go_simp) hB ?_
  simp only [Act.put, List.setIfInBounds_toArray, List.set_cons_succ, List.set_cons_zero]
  refine wpAnyH_pure (i := 7) (v := .slice A nc c) (at_nth rfl) (by kernel_rfl) (by kernel_rfl) (by kernel_rfl) (fun _ _ _ h => absurd h (HQN _ _ _)) (by kernel_rfl) (fun w hSw => by (have hc := (iq.below hSw iq.lt).cell 2; go_simp)) hB ?_
  simp only [Act.put, List.setIfInBounds_toArray, List.set_cons_succ, List.set_cons_zero]
  refine wpAnyH_pure (i := 9) (v := .pointer (some ⟨DQ, 3, none⟩)) (at_nth rfl) (by kernel_rfl) (by kernel_rfl) (by kernel_rfl) (fun _ _ _ h => absurd h (HQN _ _ _)) (by kernel_rfl) (fun w hSw => by go_simp) hB ?_
  simp only [Act.put, List.setIfInBounds_toArray, List.set_cons_succ, List.set_cons_zero]
  refine wpAnyH_pure (i := 10) (v := .int .i64 m) (at_nth rfl) (by kernel_rfl) (by kernel_rfl) (by kernel_rfl) (fun _ _ _ h => absurd h (HQN _ _ _)) (by kernel_rfl) (fun w hSw => by (have hc := (iq.below hSw iq.lt).cell 3; go_simp)) hB ?_
  simp only [Act.put, List.setIfInBounds_toArray, List.set_cons_succ, List.set_cons_zero]
  refine wpAnyH_pure (i := 12) (v := .pointer (some ⟨DQ, 4, none⟩)) (at_nth rfl) (by kernel_rfl) (by kernel_rfl) (by kernel_rfl) (fun _ _ _ h => absurd h (HQN _ _ _)) (by kernel_rfl) (fun w hSw => by go_simp) hB ?_
  simp only [Act.put, List.setIfInBounds_toArray, List.set_cons_succ, List.set_cons_zero]
  refine wpAnyH_pure (i := 13) (v := .int .i64 r) (at_nth rfl) (by kernel_rfl) (by kernel_rfl) (by kernel_rfl) (fun _ _ _ h => absurd h (HQN _ _ _)) (by kernel_rfl) (fun w hSw => by (have hc := (iq.below hSw iq.lt).cell 4; go_simp)) hB ?_
  simp only [Act.put, List.setIfInBounds_toArray, List.set_cons_succ, List.set_cons_zero]
  exact ST _ hB

theorem infoReq11 : (Try.prog.info? 26).map (·.size) = some 3 := by kernel_rfl
theorem infoRsp11 : (Try.prog.info? 28).map (·.size) = some 5 := by kernel_rfl
/-- what is right has short texts. -/
theorem szd_bd11 {l : List ByteArray} {n : Nat} {b : Bool} (h : szd11 l n b = true) : l.length ≤ 200 ∧ ∀ s ∈ l, s.size ≤ n := by
  rw [szd11, Bool.and_eq_true, decide_eq_true_eq] at h
  refine ⟨h.2, fun s hs => ?_⟩
  have h1 := List.all_eq_true.1 h.1 s hs
  rw [Bool.or_eq_true, Bool.and_eq_true, decide_eq_true_eq, decide_eq_true_eq] at h1
  omega
theorem right_bd11 {q : Req11} (h : right11 q = true) : (1 ≤ q.k ∧ q.k ≤ 4) ∧ (∀ s ∈ q.L, s.size ≤ 140737488355328) ∧ (∀ s ∈ q.C, s.size ≤ 140737488355328) ∧ (lst10 q.L).size ≤ 5000 ∧ (lst10 q.C).size ≤ 10000 ∧ q.L.length ≤ 200 ∧ q.C.length ≤ 200 := by
  obtain ⟨h1, h2, h3, h4, h5⟩ := right_sizes11 h
  simp only [right11, Bool.and_eq_true, decide_eq_true_eq] at h
  obtain ⟨_, _, a, b, _⟩ := h
  refine ⟨h1, fun s hs => ?_, fun s hs => ?_, by omega, by omega, h4, h5⟩
  · have := (szd_bd11 a).2 s hs; omega
  · have := (szd_bd11 b).2 s hs; omega
theorem may_bd11 {q : Rsp11} (h : may11 q = true) : (0 ≤ q.k ∧ q.k ≤ 4) ∧ (0 ≤ q.st ∧ q.st ≤ 2) ∧ (0 ≤ q.many ∧ q.many ≤ 2147483647) ∧ (0 ≤ q.room ∧ q.room ≤ 2147483647) ∧ (∀ s ∈ q.C, s.size ≤ 140737488355328) ∧ (lst10 q.C).size ≤ 8804 ∧ q.C.length ≤ 200 := by
  obtain ⟨h1, h2, h3, h4, h5, h6⟩ := may_sizes11 h
  simp only [may11, Bool.and_eq_true, decide_eq_true_eq] at h
  obtain ⟨_, _, _, _, a, _⟩ := h
  refine ⟨h1, h2, h3, h4, fun s hs => ?_, h6, h5⟩
  have := (szd_bd11 a).2 s hs; omega
theorem numV_ok11 {n : Int} (h0 : 0 ≤ n) (h1 : n ≤ 2147483647) : (numV10 n).1 = num10 n := by
  rw [numV10, if_pos (show numE10 n = true by simp [numE10, h0, h1])]
theorem lstV_ok11 {l : List ByteArray} (h : l.length ≤ 1000) (hz : (lst10 l).size ≤ 65536) : (lstV10 l).1 = lst10 l := by rw [lstV10, if_pos ⟨h, hz⟩]
def encR11 (q : Req11) : Value := .tuple #[.string (encV11 q).1, .int .i64 (encV11 q).2]
def answR11 (q : Rsp11) : Value := .tuple #[.string (answV11 q).1, .int .i64 (answV11 q).2]

set_option maxRecDepth 100000 in
set_option maxHeartbeats 4000000 in
theorem wenc_any11 (k : Int) (A A2 : Option Addr) (c c2 : Nat) (L C : List ByteArray) (w : World) (hl : L.length ≤ 9223372036854775807) (hl2 : C.length ≤ 9223372036854775807) (hc : InV w A (tL10 L)) (hc2 : InV w A2 (tL10 C)) :
    Calls Try.prog 10 #[.agg #[.int .i64 k, .slice A L.length c, .slice A2 C.length c2]] w fun e w' => e = .returned (encR11 ⟨k, L, C⟩) ∧ Below w.heap.size w w' := by
  obtain ⟨W1, hW1⟩ : ∃ W1, W1 = w.alloc (.cells #[.int .i64 k, .slice A L.length c, .slice A2 C.length c2] 26) := ⟨_, rfl⟩
  have iq : Is W1 w.heap.size 26 #[.int .i64 k, .slice A L.length c, .slice A2 C.length c2] := by rw [hW1]; exact Is.new _ _ _
  have hB : Below w.heap.size w W1 := by rw [hW1]; exact (Below.refl _ _).alloc (Nat.le_refl _) _
  have M := Lib.hid (reqMay_any11 k A A2 c c2 L C W1 hl hl2 (hc.keep hB) (hc2.keep hB))
  have HC1 := Lib.hid hc
  have HC2 := Lib.hid hc2
  clear hc hc2
  have IQ := Lib.hid iq
  clear iq
  cases hr : right11 ⟨k, L, C⟩ with
  | false =>
    have HR := Lib.hid (show encR11 ⟨k, L, C⟩ = .tuple #[.string ⟨#[]⟩, .int .i64 1] by rw [encR11, encV11, hr]; rfl)
    rw [hr] at M
    go_enter Try.func10, Try.ntmps10
    go_wp2_with fail
    rw [← hW1]
    clear hW1
    go_wp2_with (refine wpList_load_row rfl 26 _ rfl w.heap.size rfl IQ.out Try.underlying26 rfl infoReq11 ?_)
    refine M.out.mono ?_
    rintro e w2 ⟨rfl, hb⟩
    have hB2 := hB.trans (hb.mono hB.size)
    clear hb
    go_wp2
    go_ret2
    exact ⟨by rw [HR.out]; rfl, hB2⟩
  | true =>
    obtain ⟨b1, b2, b3, b4, b5, b6, b7⟩ := right_bd11 hr
    have HR := Lib.hid (show encR11 ⟨k, L, C⟩ = .tuple #[.string (num10 k ++ lst10 L ++ lst10 C), .int .i64 0] by rw [encR11, encV11, hr]; rfl)
    rw [hr] at M
    simp only at b1 b2 b3 b4 b5 b6 b7
    have N1 := Lib.hid (fun W => wnum_any11 k W)
    rw [numV_ok11 (by omega) (by omega)] at N1
    have N2 := fun W h => wlist_any11 A c L W b2 h
    rw [lstV_ok11 (by omega) (by omega)] at N2
    have N3 := fun W h => wlist_any11 A2 c2 C W b3 h
    rw [lstV_ok11 (by omega) (by omega)] at N3
    have hn := num_size10 k
    have hall : all11 [num10 k, lst10 L, lst10 C] = num10 k ++ lst10 L ++ lst10 C := by
      show ⟨#[]⟩ ++ num10 k ++ lst10 L ++ lst10 C = _
      rw [show (⟨#[]⟩ : ByteArray) ++ num10 k = num10 k from ByteArray.empty_append]
    have N4 := Lib.hid (fun g W (h : Is W g 9 #[.string (num10 k), .string (lst10 L), .string (lst10 C)]) => wtog_any11 g [num10 k, lst10 L, lst10 C] W h (by show 3 ≤ 1000; omega) (by
      rw [hall, ByteArray.size_append, ByteArray.size_append]; omega))
    rw [hall] at N4
    have N2' := Lib.hid N2
    have N3' := Lib.hid N3
    clear N2 N3 hall hn b2 b3 b4 b5 hr
    generalize num10 k ++ lst10 L ++ lst10 C = s4 at *
    generalize num10 k = s1 at *
    generalize lst10 L = s2 at *
    generalize lst10 C = s3 at *
    go_enter Try.func10, Try.ntmps10
    go_wp2_with fail
    rw [← hW1]
    clear hW1
    go_wp2_with (refine wpList_load_row rfl 26 _ rfl w.heap.size rfl IQ.out Try.underlying26 rfl infoReq11 ?_)
    refine M.out.mono ?_
    rintro e w2 ⟨rfl, hb⟩
    have hB2 := hB.trans (hb.mono hB.size)
    have iq2 := IQ.out.below hb IQ.out.lt
    clear hb
    go_wp2
    refine Code.wp_mono ?_ (enc11_reg w2 w.heap.size k A A2 c c2 L.length C.length s1 s2 s3 s4 N1 (Lib.hid fun W h => N2'.out W (HC1.out.keep (hB2.trans (h.mono hB2.size)))) (Lib.hid fun W h => N3'.out W (HC2.out.keep (hB2.trans (h.mono hB2.size)))) (Lib.hid fun g W h => N4.out g W h) iq2 _ _ _ _ _ _ _ _ _ _ _ _ _ _ _ _ _)
    rintro ex ⟨T, D⟩ W3 ⟨rfl, hD, DP, hT, hB3, _⟩
    simp only at hT hD
    subst hT
    subst hD
    have hB4 := hB2.trans (hB3.mono hB2.size)
    clear hB3
    go_wp2
    go_ret2
    exact ⟨by rw [HR.out]; rfl, hB4⟩

set_option maxRecDepth 100000 in
set_option maxHeartbeats 4000000 in
theorem wansw_any11 (k st m r : Int) (A : Option Addr) (c : Nat) (C : List ByteArray) (w : World) (hl : C.length ≤ 9223372036854775807) (hc : InV w A (tL10 C)) :
    Calls Try.prog 13 #[.agg #[.int .i64 k, .int .i64 st, .slice A C.length c, .int .i64 m, .int .i64 r]] w fun e w' => e = .returned (answR11 ⟨k, st, C, m, r⟩) ∧ Below w.heap.size w w' := by
  obtain ⟨W1, hW1⟩ : ∃ W1, W1 = w.alloc (.cells #[.int .i64 k, .int .i64 st, .slice A C.length c, .int .i64 m, .int .i64 r] 28) := ⟨_, rfl⟩
  have iq : Is W1 w.heap.size 28 #[.int .i64 k, .int .i64 st, .slice A C.length c, .int .i64 m, .int .i64 r] := by rw [hW1]; exact Is.new _ _ _
  have hB : Below w.heap.size w W1 := by rw [hW1]; exact (Below.refl _ _).alloc (Nat.le_refl _) _
  have M := Lib.hid (rspMay_any11 k st m r A c C W1 hl (hc.keep hB))
  have HC1 := Lib.hid hc
  clear hc
  have IQ := Lib.hid iq
  clear iq
  cases hr : may11 ⟨k, st, C, m, r⟩ with
  | false =>
    have HR := Lib.hid (show answR11 ⟨k, st, C, m, r⟩ = .tuple #[.string ⟨#[]⟩, .int .i64 1] by rw [answR11, answV11, hr]; rfl)
    rw [hr] at M
    go_enter Try.func13, Try.ntmps13
    go_wp2_with fail
    rw [← hW1]
    clear hW1
    go_wp2_with (refine wpList_load_row rfl 28 _ rfl w.heap.size rfl IQ.out Try.underlying28 rfl infoRsp11 ?_)
    refine M.out.mono ?_
    rintro e w2 ⟨rfl, hb⟩
    have hB2 := hB.trans (hb.mono hB.size)
    clear hb
    go_wp2
    go_ret2
    exact ⟨by rw [HR.out]; rfl, hB2⟩
  | true =>
    obtain ⟨b1, b2, b3, b4, b5, b6, b7⟩ := may_bd11 hr
    have HR := Lib.hid (show answR11 ⟨k, st, C, m, r⟩ = .tuple #[.string (num10 k ++ num10 st ++ lst10 C ++ num10 m ++ num10 r), .int .i64 0] by rw [answR11, answV11, hr]; rfl)
    rw [hr] at M
    simp only at b1 b2 b3 b4 b5 b6 b7
    have N1 := Lib.hid (fun W => wnum_any11 k W)
    rw [numV_ok11 (by omega) (by omega)] at N1
    have N2 := Lib.hid (fun W => wnum_any11 st W)
    rw [numV_ok11 (by omega) (by omega)] at N2
    have N3 := fun W h => wlist_any11 A c C W b5 h
    rw [lstV_ok11 (by omega) (by omega)] at N3
    have N4 := Lib.hid (fun W => wnum_any11 m W)
    rw [numV_ok11 (by omega) (by omega)] at N4
    have N5 := Lib.hid (fun W => wnum_any11 r W)
    rw [numV_ok11 (by omega) (by omega)] at N5
    have hn1 := num_size10 k
    have hn2 := num_size10 st
    have hn3 := num_size10 m
    have hn4 := num_size10 r
    have hall : all11 [num10 k, num10 st, lst10 C, num10 m, num10 r] = num10 k ++ num10 st ++ lst10 C ++ num10 m ++ num10 r := by
      show ⟨#[]⟩ ++ num10 k ++ num10 st ++ lst10 C ++ num10 m ++ num10 r = _
      rw [show (⟨#[]⟩ : ByteArray) ++ num10 k = num10 k from ByteArray.empty_append]
    have N6 := Lib.hid (fun g W (h : Is W g 9 #[.string (num10 k), .string (num10 st), .string (lst10 C), .string (num10 m), .string (num10 r)]) => wtog_any11 g [num10 k, num10 st, lst10 C, num10 m, num10 r] W h (by show 5 ≤ 1000; omega) (by
      rw [hall]; simp only [ByteArray.size_append]; omega))
    rw [hall] at N6
    have N3' := Lib.hid N3
    clear N3 hall hn1 hn2 hn3 hn4 b5 b6 hr
    generalize num10 k ++ num10 st ++ lst10 C ++ num10 m ++ num10 r = s6 at *
    generalize num10 k = s1 at *
    generalize num10 st = s2 at *
    generalize lst10 C = s3 at *
    generalize num10 m = s4 at *
    generalize num10 r = s5 at *
    go_enter Try.func13, Try.ntmps13
    go_wp2_with fail
    rw [← hW1]
    clear hW1
    go_wp2_with (refine wpList_load_row rfl 28 _ rfl w.heap.size rfl IQ.out Try.underlying28 rfl infoRsp11 ?_)
    refine M.out.mono ?_
    rintro e w2 ⟨rfl, hb⟩
    have hB2 := hB.trans (hb.mono hB.size)
    have iq2 := IQ.out.below hb IQ.out.lt
    clear hb
    go_wp2
    refine Code.wp_mono ?_ (answ11_reg w2 w.heap.size k st m r A c C.length s1 s2 s3 s4 s5 s6 N1 N2 (Lib.hid fun W h => N3'.out W (HC1.out.keep (hB2.trans (h.mono hB2.size)))) N4 N5 (Lib.hid fun g W h => N6.out g W h) iq2 _ _ _ _ _ _ _ _ _ _ _ _ _ _ _ _ _ _ _ _ _ _ _)
    rintro ex ⟨T, D⟩ W3 ⟨rfl, hD, DP, hT, hB3, _⟩
    simp only at hT hD
    subst hT
    subst hD
    have hB4 := hB2.trans (hB3.mono hB2.size)
    clear hB3
    go_wp2
    go_ret2
    exact ⟨by rw [HR.out]; rfl, hB4⟩
end Go.Proofs.Ytapfbcpbiagogaa
