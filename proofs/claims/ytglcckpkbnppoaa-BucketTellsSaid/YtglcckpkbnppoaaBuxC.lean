/-
  Layer 12: contract of the iterator that bucket.way returns: a label's way. Condition: the store lies where its slice points to.
-/
import Derived.Test.YtglcckpkbnppoaaBuxB
import Derived.Test.YtglcckpkbnppoaaGCo3
namespace Go.Proofs.Ytglcckpkbnppoaa
open Go.RowKit Go.Shelf
attribute [local go_sem] Oper.semAt_some

set_option maxRecDepth 100000 in
set_option maxHeartbeats 4000000 in
theorem way_reg12 (W0 : World) (Bd Ld nb : Nat) (A : Option Addr) (c : Nat) (c1 c2 : Value) (l : ByteArray) (h : Int) (iq : Is W0 Bd 31 #[.slice A nb c, c1, c2]) (il : Is W0 Ld 9 #[.string l]) (HH : Hid (∀ W, Calls Try.prog 14 #[.string l, .int .i64 (nb : Int)] W fun e W' => e = .returned (.int .i64 h) ∧ W = W')) (x0 x3 x4 x5 x6 x7 x8 x9 x10 x11 x12 x13 x14 x15 x16 x17 x18 x19 x20 x21 x22 x23 x24 : Value) :
    (Code.region 1 (opsOf Try.f71 1) true).wp Try.prog (fun ex YY W => ex = .normal ∧ YY.defers = [] ∧ ∃ (DR : Nat), YY.tmps = #[x0, .pointer (some ⟨Bd, 0, none⟩), .pointer (some ⟨Ld, 0, none⟩), x3, x4, x5, .agg #[.slice A nb c, c1, c2], .string l, .pointer (some ⟨Bd, 0, none⟩), .slice A nb c, .int .i64 (nb : Int), .int .i64 h, .func (.func 59) #[] #[.pointer (some ⟨DR, 0, none⟩), .pointer (some ⟨DR + 1, 0, none⟩)], x13, x14, x15, x16, x17, x18, x19, x20, x21, x22, x23, x24] ∧ Below W0.heap.size W0 W ∧ Is W DR 31 #[.slice A nb c, c1, c2] ∧ Is W (DR + 1) 3 #[.int .i64 h] ∧ W0.heap.size ≤ DR) { tmps := #[x0, .pointer (some ⟨Bd, 0, none⟩), .pointer (some ⟨Ld, 0, none⟩), x3, x4, x5, x6, x7, x8, x9, x10, x11, x12, x13, x14, x15, x16, x17, x18, x19, x20, x21, x22, x23, x24], defers := [] } W0 := by
  have hB : Below W0.heap.size W0 (W0.drewN 1) := belowN (Below.refl _ _) 1
  generalize hQ : (fun (ex : Exit) (YY : Act) (W : World) => ex = .normal ∧ YY.defers = [] ∧ ∃ (DR : Nat), YY.tmps = #[x0, .pointer (some ⟨Bd, 0, none⟩), .pointer (some ⟨Ld, 0, none⟩), x3, x4, x5, .agg #[.slice A nb c, c1, c2], .string l, .pointer (some ⟨Bd, 0, none⟩), .slice A nb c, .int .i64 (nb : Int), .int .i64 h, .func (.func 59) #[] #[.pointer (some ⟨DR, 0, none⟩), .pointer (some ⟨DR + 1, 0, none⟩)], x13, x14, x15, x16, x17, x18, x19, x20, x21, x22, x23, x24] ∧ Below W0.heap.size W0 W ∧ Is W DR 31 #[.slice A nb c, c1, c2] ∧ Is W (DR + 1) 3 #[.int .i64 h] ∧ W0.heap.size ≤ DR) = Q
  have HQN : ∀ c a W, ¬ Q (.panic c) a W := fun c a W h => by subst hQ; exact nomatch h.1
  have ST5_6 : ∀ (W : World) (DR : Nat), Below W0.heap.size W0 W → Is W DR 31 #[.slice A nb c, c1, c2] → Is W (DR + 1) 3 #[.int .i64 h] → W0.heap.size ≤ DR → wpAnyH Try.prog .any (opsOf Try.f71 1) Q (fun W => Below W0.heap.size W0 W) 0 #[true, true, true, true, true, true, true] { tmps := #[x0, .pointer (some ⟨Bd, 0, none⟩), .pointer (some ⟨Ld, 0, none⟩), x3, x4, x5, .agg #[.slice A nb c, c1, c2], .string l, .pointer (some ⟨Bd, 0, none⟩), .slice A nb c, .int .i64 (nb : Int), .int .i64 h, .func (.func 59) #[] #[.pointer (some ⟨DR, 0, none⟩), .pointer (some ⟨DR + 1, 0, none⟩)], x13, x14, x15, x16, x17, x18, x19, x20, x21, x22, x23, x24], defers := [] } W := by
    intro W DR hB iR iF hD
    refine wpAnyH_done (by kernel_rfl) ?_ _
    subst hQ
    exact ⟨rfl, rfl, DR, rfl, hB, iR, iF, hD⟩
  have ST5 : ∀ (W : World), Below W0.heap.size W0 W → wpAnyH Try.prog .any (opsOf Try.f71 1) Q (fun W => Below W0.heap.size W0 W) 1 #[true, true, true, true, true, true, false] { tmps := #[x0, .pointer (some ⟨Bd, 0, none⟩), .pointer (some ⟨Ld, 0, none⟩), x3, x4, x5, .agg #[.slice A nb c, c1, c2], .string l, .pointer (some ⟨Bd, 0, none⟩), .slice A nb c, .int .i64 (nb : Int), .int .i64 h, x12, x13, x14, x15, x16, x17, x18, x19, x20, x21, x22, x23, x24], defers := [] } W := by
    intro W hB
    refine wpAnyH_ready (by kernel_rfl) (by simp) (AllReadyH.cons (i := 6) (at_nth rfl) ?_ (AllReadyH.nil))
    · refine arm10_call (by kernel_rfl) (fun wy => by kernel_rfl) ((round_any12 (.slice A nb c) c1 c2 h W).mono ?_)
      rintro e Wn ⟨rfl, rfl⟩
      have iR : Is ((W.alloc (.cells #[.slice A nb c, c1, c2] 31)).alloc (.cells #[.int .i64 h] 3)) W.heap.size 31 #[.slice A nb c, c1, c2] := heap_alloc2_old W _ _
      have iF : Is ((W.alloc (.cells #[.slice A nb c, c1, c2] 31)).alloc (.cells #[.int .i64 h] 3)) (W.heap.size + 1) 3 #[.int .i64 h] := heap_alloc2_new W _ _
      have hD := hB.size
      replace hB := (hB.alloc hB.size (.cells #[.slice A nb c, c1, c2] 31)).alloc (by simp; omega) (.cells #[.int .i64 h] 3)
      refine ⟨_, rfl, hB, ?_⟩
      simp only [Act.put, List.setIfInBounds_toArray, List.set_cons_succ, List.set_cons_zero]
      exact ST5_6 _ _ hB iR iF hD
  have ST : ∀ (W : World), Below W0.heap.size W0 W → wpAnyH Try.prog .any (opsOf Try.f71 1) Q (fun W => Below W0.heap.size W0 W) 2 #[true, true, true, true, true, false, false] { tmps := #[x0, .pointer (some ⟨Bd, 0, none⟩), .pointer (some ⟨Ld, 0, none⟩), x3, x4, x5, .agg #[.slice A nb c, c1, c2], .string l, .pointer (some ⟨Bd, 0, none⟩), .slice A nb c, .int .i64 (nb : Int), x11, x12, x13, x14, x15, x16, x17, x18, x19, x20, x21, x22, x23, x24], defers := [] } W := by
    intro W hB
    refine wpAnyH_ready (by kernel_rfl) (by simp) (AllReadyH.cons (i := 5) (at_nth rfl) ?_ (AllReadyH.nil))
    · refine arm10_call (by kernel_rfl) (fun wy => by kernel_rfl) ((HH.out _).mono ?_)
      rintro e Wn ⟨rfl, rfl⟩
      refine ⟨_, rfl, hB, ?_⟩
      simp only [Act.put, List.setIfInBounds_toArray, List.set_cons_succ, List.set_cons_zero]
      exact ST5 _ hB
  refine wp_region_held_drew (S := fun W => Below W0.heap.size W0 W) (by kernel_rfl) hB (fun hS => ?_)
  change wpAnyH _ _ (opsOf Try.f71 1) _ _ 7 (Array.replicate 7 false) _ (W0.drewN 1)
  clear hS
  replace hB : Below W0.heap.size W0 (W0.drewN 1) := belowN (Below.refl _ _) 1
  refine wpAnyH_pure (i := 0) (v := .agg #[.slice A nb c, c1, c2]) (at_nth rfl) (by kernel_rfl) (by kernel_rfl) (by kernel_rfl) (fun _ _ _ h => absurd h (HQN _ _ _)) (by kernel_rfl) (fun w hSw => by exact run_load_rowO (x := .tmp 1) (by kernel_rfl) (by kernel_rfl) (iq.below hSw iq.lt) Try.underlying31 rfl infoSto12) hB ?_
  simp only [Act.put, List.setIfInBounds_toArray, List.set_cons_succ, List.set_cons_zero]
  refine wpAnyH_pure (i := 1) (v := .string l) (at_nth rfl) (by kernel_rfl) (by kernel_rfl) (by kernel_rfl) (fun _ _ _ h => absurd h (HQN _ _ _)) (by kernel_rfl) (fun w hSw => by (have hc := (il.below hSw il.lt).cell 0; go_simp)) hB ?_
  simp only [Act.put, List.setIfInBounds_toArray, List.set_cons_succ, List.set_cons_zero]
  refine wpAnyH_pure (i := 2) (v := .pointer (some ⟨Bd, 0, none⟩)) (at_nth rfl) (by kernel_rfl) (by kernel_rfl) (by kernel_rfl) (fun _ _ _ h => absurd h (HQN _ _ _)) (by kernel_rfl) (fun w hSw => by go_simp) hB ?_
  simp only [Act.put, List.setIfInBounds_toArray, List.set_cons_succ, List.set_cons_zero]
  refine wpAnyH_pure (i := 3) (v := .slice A nb c) (at_nth rfl) (by kernel_rfl) (by kernel_rfl) (by kernel_rfl) (fun _ _ _ h => absurd h (HQN _ _ _)) (by kernel_rfl) (fun w hSw => by (have hc := (iq.below hSw iq.lt).cell 0; go_simp)) hB ?_
  simp only [Act.put, List.setIfInBounds_toArray, List.set_cons_succ, List.set_cons_zero]
  refine wpAnyH_pure (i := 4) (v := .int .i64 (nb : Int)) (at_nth rfl) (by kernel_rfl) (by kernel_rfl) (by kernel_rfl) (fun _ _ _ h => absurd h (HQN _ _ _)) (by kernel_rfl) (fun w hSw => by go_simp) hB ?_
  simp only [Act.put, List.setIfInBounds_toArray, List.set_cons_succ, List.set_cons_zero]
  exact ST _ hB

set_option maxRecDepth 100000 in
set_option maxHeartbeats 4000000 in
theorem way_seq12 (n : Nat) (hn : 3 ≤ n) (Bd Ld : Nat) (c1 c2 : Value) (A : Option Addr) (c : Nat) (B : List Bkt12) (lb : ByteArray) (w : World) (hBd : Is w Bd 31 #[.slice A B.length c, c1, c2]) (hLd : Is w Ld 9 #[.string lb]) (hc : InV w A (flB B)) (h0 : 0 < B.length) (hfit : B.length ≤ 4096) (S : Nat → Prop) (hS : S Bd) (hS2 : S Ld) (hSA : ∀ p, A = some p → B ≠ [] → S p.block) (hSb : ∀ k, S k → k < w.heap.size) :
    SeqL Fence.wide n Try.prog 71 #[.pointer (some ⟨Bd, 0, none⟩), .pointer (some ⟨Ld, 0, none⟩)] encR12 (wys12 B lb) S w := by
  intro l J Jx W hW hJ hJx hY h00
  have HY := Lib.hid hY
  have HJ := Lib.hid hJ
  have HJx := Lib.hid hJx
  have HC := Lib.hid (hc.stay12 hW (fun p e h => hSA p e (fun e2 => h (by rw [e2]; rfl))))
  have HSB := Lib.hid hSb
  have HWS := Lib.hid hW.size
  have iB := hW.is hBd hS
  have iL := hW.is hLd hS2
  clear hY hJ hJx hc hBd hLd hSb
  refine callsIn_of_wp_marks Try.func71 rfl trivial ?_ rfl
  simp only [Try.ntmps71, List.size_toArray, List.length_cons, List.length_nil, Nat.reduceAdd, Nat.reduceSub, Array.replicate_succ, Array.replicate_zero, List.push_toArray, List.append_toArray, List.nil_append, List.cons_append]
  gi_wp2_with fail
  have iB1 := iB.alloc (.cells #[.func (.yield l) #[] #[]] 87)
  have iL1 := iL.alloc (.cells #[.func (.yield l) #[] #[]] 87)
  have iY1 : Is (W.alloc (.cells #[.func (.yield l) #[] #[]] 87)) W.heap.size 87 #[.func (.yield l) #[] #[]] := Is.new W _ _
  have hB1 : Below W.heap.size W (W.alloc (.cells #[.func (.yield l) #[] #[]] 87)) := (Below.refl _ _).alloc (Nat.le_refl _) _
  have j1 : J 0 (W.alloc (.cells #[.func (.yield l) #[] #[]] 87)) := HJ.out.alloc _ h00
  generalize W.alloc (.cells #[.func (.yield l) #[] #[]] 87) = W1 at *
  have HH := Lib.hid (fun W : World => by
    have := home_any12 lb (B.length : Int) W (by omega)
    rw [homV_nat12 lb h0] at this
    exact this)
  have hHl := hom_lt12 lb h0
  rw [wpIn_wide]
  refine Code.wp_mono ?_ (way_reg12 W1 Bd Ld B.length A c c1 c2 lb _ iB1 iL1 HH _ _ _ _ _ _ _ _ _ _ _ _ _ _ _ _ _ _ _ _ _ _ _)
  rintro ex ⟨T, D⟩ W2 ⟨rfl, hDf, DR, hT, hB2, iR, iF, hD⟩
  simp only at hT hDf
  subst hT
  subst hDf
  clear HH
  have iY2 := iY1.below hB2 iY1.lt
  have hY1 := iY1.lt
  have j2 : J 0 W2 := HJ.out _ _ _ none j1 (grownG hB2) (fun r e => by cases e)
  have hst : Stay S W W2 := (Stay.of hB1 (fun k hk => by have := HSB.out k hk; have := HWS.out; omega)).trans (Stay.of hB2 (fun k hk => by have := HSB.out k hk; have := HWS.out; omega))
  clear iB iL iB1 iL1 iY1 hB1 j1
  gi_wp2_with fail
  refine wpIn_rangeL rfl (by omega) (gf := 59) (lb := #[.pointer (some ⟨DR, 0, none⟩), .pointer (some ⟨DR + 1, 0, none⟩)]) rfl trivial (enters_of Try.func59 (by kernel_rfl) rfl)
    (S := fun k => S k ∨ (W.heap.size ≤ k ∧ k < W2.heap.size))
    (round_seq12 (n - 1) (by omega) DR (DR + 1) _ c1 c2 A c (hom12 lb B.length) B W2 iR iF rfl (HC.out.stay12 hst (fun p e h => hSA p e (fun e2 => h (by rw [e2]; rfl)))) hfit (by omega) _ (.inr ⟨by omega, iR.lt⟩) (.inr ⟨by omega, iF.lt⟩) (fun p e h => .inl (hSA p e h)))
    (Stay.refl _ _) (fun k hk => by rcases hk with h | h; (have := HSB.out k h; have := HWS.out; have := hB2.size; omega); exact h.2) (fun _ => rfl)
    (fun i W3 => J i W3 ∧ Is W3 W.heap.size 87 #[.func (.yield l) #[] #[]] ∧ All12 full12 ((rnd12 B (hom12 lb B.length)).take i))
    (fun c i W3 => c = .ret ∧ (J (wys12 B lb).length W3 ∨ Jx i W3))
    (fun s X Y row hs hg hr => ⟨HJ.out s X Y row hs.1 hg (fun r e => ⟨by have := (hr r e).1; have := hB2.size; omega, (hr r e).2⟩), (grownBy_keeps_cells hg (fun r e => (hr r e).2) hs.2.1 rfl).trans hs.2.1, hs.2.2⟩)
    (fun c s X Y row hs hg hr => ⟨hs.1, hs.2.imp (fun h => HJ.out _ X Y row h hg (fun r e => ⟨by have := (hr r e).1; have := hB2.size; omega, (hr r e).2⟩)) (fun h => HJx.out s X Y row h hg (fun r e => ⟨by have := (hr r e).1; have := hB2.size; omega, (hr r e).2⟩))⟩)
    ⟨j2, iY2, ⟨rfl⟩⟩ ?round ?done ?stop
  have hT : ∀ k, ((S k ∨ (W.heap.size ≤ k ∧ k < W2.heap.size)) ∨ W2.heap.size ≤ k) → (S k ∨ W.heap.size ≤ k) := fun k hk => by
    rcases hk with (h | h) | h
    · exact .inl h
    · exact .inr h.1
    · exact .inr (by have := hB2.size; omega)
  case round =>
    rintro l2 i ⟨p, st, xl, xc⟩ W3 hl2 hl3 hx ⟨hj, iY3, hal⟩
    gi_wp2
    refine ⟨(Stay.refl _ _).grown (World.grownBy_alloc _ _ none) (fun r e => by cases e), ⟨HJ.out.alloc _ hj, iY3.alloc _, hal⟩, fun W => Is W W3.heap.size 25 #[.int .i64 st, .string xl, .string xc], fun _ X Y row hs hg hr => (grownBy_keeps_cells hg (fun r e => (hr r e).2) hs rfl).trans hs, Is.new _ _ _, ?_⟩
    clear hj iY3 hal
    rintro W4 hl4 ⟨hj4, iY4, hal⟩ iX4
    have q0 : W4.cell? ⟨W3.heap.size, 0, none⟩ = some (.int .i64 st) := iX4.cell 0
    have q1 : W4.cell? ⟨W3.heap.size, 1, none⟩ = some (.string xl) := iX4.cell 1
    have q2 : W4.cell? ⟨W3.heap.size, 2, none⟩ = some (.string xc) := iX4.cell 2
    clear iX4
    by_cases h0s : st = 0
    · have hil : i < B.length := by have := (List.getElem?_eq_some_iff.1 hx).1; rwa [rnd_len12] at this
      have HIL := Lib.hid hil
      have HE := Lib.hid (tw_end12 hx hal.out (by simp [full12, h0s]))
      subst h0s
      clear hx hal
      gi_wp2_with (with_reducible refine And.intro (fun f e => (by cases e)) ?_)
      refine ⟨Stay.refl _ _, rfl, .inl ?_⟩
      rw [show (wys12 B lb).length = i by rw [wys12, HE.out, List.length_take, rnd_len12]; exact Nat.min_eq_left (Nat.le_of_lt HIL.out)]
      exact hj4
    · have hf : full12 (p, ⟨st, xl, xc⟩) = true := by simp [full12, h0s]
      have hg := tw_get12 hx hal.out hf
      have hal2 : All12 full12 ((rnd12 B (hom12 lb B.length)).take (i + 1)) := ⟨all_take12 hx hal.out hf⟩
      obtain ⟨fn, tmps, assign, body, hyd, hR⟩ := HY.out i (p, ⟨st, xl, xc⟩) W4 hg hj4
      simp only [encR12, bktV, bktA] at hyd
      have HR := Lib.hid hR
      have cY : W4.cell? ⟨W.heap.size, 0, none⟩ = some (.func (.yield l) #[] #[]) := iY4.cell 0
      clear hR hx hal hg hf
      gi_wp2_with (with_reducible refine And.intro (fun f e => (by cases e)) ?_)
      refine ⟨fun _ => by omega, (roundIn_any12 HR.out).mono ?_⟩
      rintro e W5 (⟨rfl, hJ5, hS5⟩ | ⟨rfl, hJx5, hS5⟩)
      · gi_wp2
        exact ⟨hS5.mono hT, hJ5, hS5.is iY4 (.inr (Nat.le_refl _)), hal2⟩
      · gi_wp2
        exact ⟨hS5.mono hT, rfl, .inr hJx5⟩
  case done =>
    rintro D W4 hD2 ⟨hj, _, hal⟩ hK
    have hw : wys12 B lb = rnd12 B (hom12 lb B.length) := tw_all12 (by have := hal.out; rwa [List.take_length] at this)
    gi_wp2
    refine ⟨by simp, .inl ⟨_, _, rfl, run_takeDeferred hK, ?_⟩⟩
    exact ⟨_, results_none rfl _ _ _, ⟨_, rfl⟩, .inl (by rw [hw]; exact HJ.out.putObj _ hj (by have := hB2.size; omega) hK rfl)⟩
  case stop =>
    rintro D c i W4 hD2 ⟨rfl, hj⟩ hK
    gi_wp2
    refine ⟨by simp, .inl ⟨_, _, rfl, run_takeDeferred hK, ?_⟩⟩
    exact ⟨_, results_none rfl _ _ _, ⟨_, rfl⟩, hj.imp (fun h => HJ.out.putObj _ h (by have := hB2.size; omega) hK rfl) (fun h => ⟨i, HJx.out.putObj _ h (by have := hB2.size; omega) hK rfl⟩)⟩
end Go.Proofs.Ytglcckpkbnppoaa
