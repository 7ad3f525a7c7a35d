/-
  Layer 12: contract of bucket.withRoom, where the store is put anew. Conditions: the store is right, and lies where its slice points to.
-/
import Derived.Test.YtglcckpkbnppoaaBuxN
namespace Go.Proofs.Ytglcckpkbnppoaa
open Go.RowKit Go.Shelf
attribute [local go_sem] Oper.semAt_some

theorem grow_yes12 {s : Sto12} (h : (s.B.length : Int) ≤ 2 * s.many) : grow12 s = 2 * (s.B.length : Int) := by rw [grow12, if_pos h]
theorem grow_no12 {s : Sto12} (h : ¬ (s.B.length : Int) ≤ 2 * s.many) : grow12 s = (s.B.length : Int) := by rw [grow12, if_neg h]
theorem grow_size12 {s : Sto12} (h : Bnd12 s) (hg : ¬ 4096 < grow12 s) : size12 (grow12 s) = true := by
  by_cases h1 : (s.B.length : Int) ≤ 2 * s.many
  · rw [grow_yes12 h1] at hg ⊢
    exact size_two12 h.size (by omega)
  · rw [grow_no12 h1]; exact h.size
theorem grow_big12 {n : Int} (hg : 4096 < n) : newV12 n = (⟨[], 0, 0⟩, 1) := by
  rw [newV12, if_neg]
  intro h
  have := (size_bd12 h).2
  omega
theorem grow_ok12 {n : Int} (h : size12 n = true) : newV12 n = (⟨new12 n.toNat, 0, 0⟩, 0) := by rw [newV12, if_pos h]
theorem grow_room12 {s : Sto12} (h : Rt12 s) (hg : ¬ 4096 < grow12 s) : cnt12 s.B 1 + 1 ≤ (grow12 s).toNat ∧ 8 ≤ (grow12 s).toNat ∧ (grow12 s).toNat ≤ 4096 := by
  have hb := h.bnd
  have hm := h.many
  have hr := h.room
  have := (size_bd12 (grow_size12 hb hg))
  by_cases h1 : (s.B.length : Int) ≤ 2 * s.many
  · rw [grow_yes12 h1] at hg this ⊢; omega
  · rw [grow_no12 h1] at hg this ⊢; omega

set_option maxRecDepth 100000 in
set_option maxHeartbeats 8000000 in
theorem with_full12 (s : Sto12) (A : Option Addr) (c : Nat) (w : World) (h : InS w s A c) (hr : Rt12 s) (hc : 3 * (s.B.length : Int) < 4 * (s.many + s.gone + 1)) (hg : 4096 < grow12 s) :
    Calls Try.prog 46 #[stoV s A c] w fun e w' => ∃ A1 c1, e = .returned (.tuple #[stoV (⟨[], 0, 0⟩ : Sto12) A1 c1, .int .i64 20]) ∧ RowB w' w.heap.size A1 c1 (⟨[], 0, 0⟩ : Sto12).B ∧ Below w.heap.size w w' := by
  have hb := hr.bnd
  have HW := Lib.hid (fun W => crowded_any12 A s.B.length c s.many s.gone 1 W (.inr rfl) hb.len.2 hb.many hb.gone)
  rw [decide_eq_true hc] at HW
  have HN := Lib.hid (fun W => bnew_any12 (grow12 s) W)
  have hl := hb.len
  have hm := hb.many
  have w1 := IntWalk.i64_in (2 * s.many) (by omega)
  have w2 := IntWalk.i64_in ((s.B.length : Int) * 2) (by omega)
  obtain ⟨W0, hW0⟩ : ∃ W, W = (w.alloc (.cells (stoA s A c) 31)).alloc (.cells #[.slice none 0 0, .int .i64 0, .int .i64 0] 31) := ⟨_, rfl⟩
  have i1 : Is W0 w.heap.size 31 (stoA s A c) := by rw [hW0]; exact heap_alloc2_old w _ _
  have i2 : Is W0 (w.heap.size + 1) 31 #[.slice none 0 0, .int .i64 0, .int .i64 0] := by rw [hW0]; exact heap_alloc2_new w _ _
  have hB0 : Below w.heap.size w W0 := by rw [hW0]; exact ((Below.refl _ _).alloc (Nat.le_refl _) _).alloc (by simp) _
  rw [grow_big12 hg] at HN
  have HG := Lib.hid hg
  clear hc hr hb h hg
  go_enter Try.func46, Try.ntmps46
  go_wp2_with fail
  rw [← hW0]
  clear hW0
  go_wp2_with (refine wpList_load_row rfl 31 _ rfl w.heap.size rfl _ _ _ _ i1 Try.underlying31 rfl infoSto12 ?_)
  refine (HW.out _).mono ?_
  rintro e W1 ⟨rfl, hb1⟩
  have j1 := i1.below hb1 i1.lt
  have j2 := i2.below hb1 i2.lt
  have hB1 := hB0.trans (hb1.mono hB0.size)
  have c0 : W1.cell? ⟨w.heap.size, 0, none⟩ = some (.slice A s.B.length c) := j1.cell 0
  have c1 : W1.cell? ⟨w.heap.size, 1, none⟩ = some (.int .i64 s.many) := j1.cell 1
  clear i1 i2 hB0 hb1 HW
  by_cases h1 : (s.B.length : Int) ≤ 2 * s.many
  · rw [grow_yes12 h1] at HN HG
    rw [Int.mul_comm] at HN
    go_wp2_with fail
    refine (HN.out _).mono ?_
    rintro e W2 ⟨A1, c1, rfl, _, hb2⟩
    have k2 := (j2.below hb2 j2.lt).alloc (.cells (stoA ⟨[], 0, 0⟩ A1 c1) 31)
    have hB2 := (hB1.trans (hb2.mono hB1.size)).alloc (Nat.le_trans hB1.size hb2.size) (.cells (stoA ⟨[], 0, 0⟩ A1 c1) 31)
    have kA : Is (W2.alloc (.cells #[.slice none 0 0, .int .i64 0, .int .i64 0] 31)) W2.heap.size 31 #[.slice none 0 0, .int .i64 0, .int .i64 0] := Is.new _ _ _
    have HO1 := Lib.hid (stoA_one12 ⟨[], 0, 0⟩ A1 c1)
    have HO2 := Lib.hid (stoA_one12 ⟨[], 0, 0⟩ none 0)
    go_wp2_with (refine wpList_store_row rfl 31 _ _ rfl (w.heap.size + 1) #[.slice none 0 0, .int .i64 0, .int .i64 0] rfl rfl 31 _ k2 infoSto12 rfl HO2.out ?_)
    exact bodyPost_ret (results_row_tmp Try.results46 _ _ (w.heap.size + 1) 31 _ (0, 0) _ rfl (k2.row _) Try.underlying31 rfl infoSto12) rfl ⟨none, 0, rfl, RowV.nil _ _ _ _, belowRow hB2 (by omega) _⟩
  · rw [grow_no12 h1] at HN HG
    go_wp2_with fail
    refine (HN.out _).mono ?_
    rintro e W2 ⟨A1, c1, rfl, _, hb2⟩
    have k2 := (j2.below hb2 j2.lt).alloc (.cells (stoA ⟨[], 0, 0⟩ A1 c1) 31)
    have hB2 := (hB1.trans (hb2.mono hB1.size)).alloc (Nat.le_trans hB1.size hb2.size) (.cells (stoA ⟨[], 0, 0⟩ A1 c1) 31)
    have kA : Is (W2.alloc (.cells #[.slice none 0 0, .int .i64 0, .int .i64 0] 31)) W2.heap.size 31 #[.slice none 0 0, .int .i64 0, .int .i64 0] := Is.new _ _ _
    have HO1 := Lib.hid (stoA_one12 ⟨[], 0, 0⟩ A1 c1)
    have HO2 := Lib.hid (stoA_one12 ⟨[], 0, 0⟩ none 0)
    go_wp2_with (refine wpList_store_row rfl 31 _ _ rfl (w.heap.size + 1) #[.slice none 0 0, .int .i64 0, .int .i64 0] rfl rfl 31 _ k2 infoSto12 rfl HO2.out ?_)
    exact bodyPost_ret (results_row_tmp Try.results46 _ _ (w.heap.size + 1) 31 _ (0, 0) _ rfl (k2.row _) Try.underlying31 rfl infoSto12) rfl ⟨none, 0, rfl, RowV.nil _ _ _ _, belowRow hB2 (by omega) _⟩

set_option maxRecDepth 100000 in
set_option maxHeartbeats 8000000 in
theorem with_anew12 (s : Sto12) (A : Option Addr) (c : Nat) (w : World) (h : InS w s A c) (hr : Rt12 s) (hc : 3 * (s.B.length : Int) < 4 * (s.many + s.gone + 1)) (hg : ¬ 4096 < grow12 s) :
    Calls Try.prog 46 #[stoV s A c] w fun e w' => ∃ A1 c1, e = .returned (.tuple #[stoV (⟨fold12 (new12 (grow12 s).toNat) (us12 s.B), s.many, 0⟩ : Sto12) A1 c1, .int .i64 0]) ∧ RowB w' w.heap.size A1 c1 (⟨fold12 (new12 (grow12 s).toNat) (us12 s.B), s.many, 0⟩ : Sto12).B ∧ Below w.heap.size w w' := by
  have hb := hr.bnd
  have HW := Lib.hid (fun W => crowded_any12 A s.B.length c s.many s.gone 1 W (.inr rfl) hb.len.2 hb.many hb.gone)
  rw [decide_eq_true hc] at HW
  have HN := Lib.hid (fun W => bnew_any12 (grow12 s) W)
  have hl := hb.len
  have hm := hb.many
  have w1 := IntWalk.i64_in (2 * s.many) (by omega)
  have w2 := IntWalk.i64_in ((s.B.length : Int) * 2) (by omega)
  obtain ⟨W0, hW0⟩ : ∃ W, W = (w.alloc (.cells (stoA s A c) 31)).alloc (.cells #[.slice none 0 0, .int .i64 0, .int .i64 0] 31) := ⟨_, rfl⟩
  have i1 : Is W0 w.heap.size 31 (stoA s A c) := by rw [hW0]; exact heap_alloc2_old w _ _
  have i2 : Is W0 (w.heap.size + 1) 31 #[.slice none 0 0, .int .i64 0, .int .i64 0] := by rw [hW0]; exact heap_alloc2_new w _ _
  have hB0 : Below w.heap.size w W0 := by rw [hW0]; exact ((Below.refl _ _).alloc (Nat.le_refl _) _).alloc (by simp) _
  rw [grow_ok12 (grow_size12 hb hg)] at HN
  have hgr := grow_room12 hr hg
  have HST := Lib.hid (fun (i : Nat) (b : Bkt12) (hx : (us12 s.B)[i]? = some b) => fold_step12 hr.ok (show cnt12 s.B 1 ≤ (grow12 s).toNat by omega) hx)
  have HLN := Lib.hid (fun (i : Nat) => by
    have := (us_part12 hr.ok (show cnt12 s.B 1 ≤ (grow12 s).toNat by omega) i).len
    rwa [new_len12] at this)
  generalize (grow12 s).toNat = N at *
  have HGR := Lib.hid hgr
  have HI := Lib.hid h
  have HM := Lib.hid (show ((us12 s.B).length : Int) = s.many by rw [us_len12]; exact hr.many)
  have HUM := Lib.hid (show (us12 s.B).length ≤ 4096 by rw [us_len12]; have := hr.many; omega)
  clear hc hr hb h hg hgr
  refine (callsIn_wide (n := 5)).1 ?_
  refine callsIn_of_wp_marks Try.func46 rfl trivial ?_ rfl
  simp only [Try.ntmps46, List.size_toArray, List.length_cons, List.length_nil, Nat.reduceAdd, Nat.reduceSub, Array.replicate_succ, Array.replicate_zero, List.push_toArray, List.append_toArray, List.nil_append, List.cons_append]
  gi_wp2_with fail
  rw [← hW0]
  clear hW0
  gi_wp2_with (refine wpListIn_load_rowI rfl 31 _ rfl w.heap.size rfl  i1 Try.underlying31 rfl infoSto12 ?_)
  refine ⟨trivial, (callsIn_wide.2 (HW.out _)).mono ?_⟩
  rintro e W1 ⟨rfl, hb1⟩
  have j1 := i1.below hb1 i1.lt
  have j2 := i2.below hb1 i2.lt
  have hB1 := hB0.trans (hb1.mono hB0.size)
  have c0 : W1.cell? ⟨w.heap.size, 0, none⟩ = some (.slice A s.B.length c) := j1.cell 0
  have c1 : W1.cell? ⟨w.heap.size, 1, none⟩ = some (.int .i64 s.many) := j1.cell 1
  clear i1 i2 hB0 hb1 HW
  by_cases h1 : (s.B.length : Int) ≤ 2 * s.many
  · rw [grow_yes12 h1] at HN
    rw [Int.mul_comm] at HN
    gi_wp2_with fail
    refine ⟨trivial, (callsIn_wide.2 (HN.out _)).mono ?_⟩
    rintro e W2 ⟨A1, q1, rfl, hr2, hb2⟩
    obtain ⟨g, cur, rfl, hgb, hgc, hz⟩ := hr2.open (by rw [new_len12]; have := HGR.out; omega)
    have hgl := hgc.lt
    clear hgc hz cur
    have k1 := (j1.below hb2 j1.lt).alloc (.cells (stoA ⟨new12 N, 0, 0⟩ (some ⟨g, 0, none⟩) q1) 31)
    have k2 := (j2.below hb2 j2.lt).alloc (.cells (stoA ⟨new12 N, 0, 0⟩ (some ⟨g, 0, none⟩) q1) 31)
    have hBB := hB1.size
    have hj2 := j2.lt
    have hB2 := (hB1.trans (hb2.mono hB1.size)).alloc (Nat.le_trans hB1.size hb2.size) (.cells (stoA ⟨new12 N, 0, 0⟩ (some ⟨g, 0, none⟩) q1) 31)
    have kR : RowB (W2.alloc (.cells (stoA ⟨new12 N, 0, 0⟩ (some ⟨g, 0, none⟩) q1) 31)) w.heap.size (some ⟨g, 0, none⟩) q1 (new12 N) := (hr2.mono hB1.size).alloc _
    have kA : Is (W2.alloc (.cells (stoA ⟨new12 N, 0, 0⟩ (some ⟨g, 0, none⟩) q1) 31)) W2.heap.size 31 (stoA ⟨new12 N, 0, 0⟩ (some ⟨g, 0, none⟩) q1) := Is.new _ _ _
    have hs2 := hb2.size
    have hsz : (W2.alloc (.cells (stoA ⟨new12 N, 0, 0⟩ (some ⟨g, 0, none⟩) q1) 31)).heap.size = W2.heap.size + 1 := by simp
    have HSZ := Lib.hid hsz
    clear j1 j2 hB1 hr2 hb2 HN c0 c1 hsz
    gi_wp2_with (refine wpListIn_load_rowI rfl 31 _ rfl w.heap.size rfl k1 Try.underlying31 rfl infoSto12 ?_)
    refine ⟨trivial, (callsIn_wide.2 (used_any12 _ _ _ _)).mono ?_⟩
    rintro e W' ⟨rfl, rfl⟩
    have hsz := HSZ.out
    gi_wp2_with fail
    have i2 := k2.alloc (.cells (stoA s A c) 31)
    have iA := kA.alloc (.cells (stoA s A c) 31)
    have iR : RowB ((W2.alloc (.cells (stoA ⟨new12 N, 0, 0⟩ (some ⟨g, 0, none⟩) q1) 31)).alloc (.cells (stoA s A c) 31)) w.heap.size (some ⟨g, 0, none⟩) q1 (new12 N) := RowV.alloc kR (.cells (stoA s A c) 31)
    have iN : Is ((W2.alloc (.cells (stoA ⟨new12 N, 0, 0⟩ (some ⟨g, 0, none⟩) q1) 31)).alloc (.cells (stoA s A c) 31)) (W2.heap.size + 1) 31 (stoA s A c) := by rw [← hsz]; exact Is.new _ _ _
    have hb := hB2.alloc (by rw [hsz]; omega) (.cells (stoA s A c) 31)
    have hs3 := iN.lt
    clear k1 k2 kA kR hB2 hsz HSZ
    generalize (W2.alloc (.cells (stoA ⟨new12 N, 0, 0⟩ (some ⟨g, 0, none⟩) q1) 31)).alloc (.cells (stoA s A c) 31) = W3 at *
    generalize W2.heap.size = D5 at *
    refine wpIn_rangeL rfl (by omega) (gf := 52) (lb := #[.pointer (some ⟨D5 + 1, 0, none⟩)]) rfl trivial (enters_of Try.func52 (by kernel_rfl) rfl) (S := fun k => k < w.heap.size ∨ k = D5 + 1)
      (used_seq12 4 (by omega) (D5 + 1) _ _ _ A c s.B W3 iN rfl (HI.out.b.keep hb) (by have := HI.out.fit; omega) _ (.inr rfl) (fun p e hn => .inl (HI.out.b.blkB p e hn)))
      (Stay.refl _ _) (fun k hk => by have := hb.size; omega) (fun _ => rfl)
      (fun i W => Below w.heap.size w W ∧ Is W (w.heap.size + 1) 31 #[.slice none 0 0, .int .i64 0, .int .i64 0] ∧ Is W D5 31 (stoA ⟨fold12 (new12 N) ((us12 s.B).take i), (i : Int), 0⟩ (some ⟨g, 0, none⟩) q1) ∧ RowB W w.heap.size (some ⟨g, 0, none⟩) q1 (fold12 (new12 N) ((us12 s.B).take i)))
      (fun _ _ _ => False)
      (fun s X Y row hs hg hr => ⟨belowOwn12 hs.1 hs.1.size (by omega) hg hr, isOwn12 hs.2.1 hg hr, isOwn12 hs.2.2.1 hg hr, RowV.keptT hs.2.2.2 hg (fun r e => (hr r e).2)⟩)
      (fun c s X Y row hs hg hr => hs.elim)
      ⟨hb, i2, iA, iR⟩ ?round ?done ?stop
    case round =>
      rintro l i ⟨st, xl, xc⟩ W hl hlt hx ⟨hb, j2, jA, jR⟩
      gi_wp2
      refine ⟨(Stay.refl _ _).grown (World.grownBy_alloc _ _ none) (fun r e => by cases e), ⟨hb.alloc hb.size _, j2.alloc _, jA.alloc _, RowV.alloc jR _⟩, fun W' => Is W' W.heap.size 25 #[.int .i64 st, .string xl, .string xc], fun _ X Y row hs hg hr => isOwn12 hs hg hr, Is.new _ _ _, ?_⟩
      clear hb j2 jA jR
      rintro W4 hl4 ⟨hb, j2, jA, jR⟩ iX
      obtain ⟨k, hk⟩ := HST.out i _ hx
      have hi : i < (us12 s.B).length := (List.getElem?_eq_some_iff.1 hx).1
      have hu := HUM.out
      have hN := HGR.out
      have hlen := HLN.out i
      have hgl4 : g < W4.heap.size := by omega
      have hadd : add12 ⟨fold12 (new12 N) ((us12 s.B).take i), (i : Int), 0⟩ k xl xc = ⟨fold12 (new12 N) ((us12 s.B).take (i + 1)), ((i + 1 : Nat) : Int), 0⟩ := by
        rw [add12, hk.next]
        simp only [Sto12.mk.injEq, true_and]
        exact ⟨rfl, if_neg hk.st⟩
      have CA := added_any12 ⟨fold12 (new12 N) ((us12 s.B).take i), (i : Int), 0⟩ (some ⟨g, 0, none⟩) q1 w.heap.size k xl xc W4 jR (by show 0 < (fold12 (new12 N) ((us12 s.B).take i)).length; rw [hlen]; omega) (by show (fold12 (new12 N) ((us12 s.B).take i)).length ≤ 4096; rw [hlen]; omega) hk.all hk.gap (by show -1000000 ≤ (i : Int) ∧ (i : Int) ≤ 1000000; omega) (by show (-1000000 : Int) ≤ 0 ∧ (0 : Int) ≤ 1000000; omega)
      rw [hadd] at CA
      have HCA := Lib.hid CA
      have q1' : W4.cell? ⟨W.heap.size, 1, none⟩ = some (.string xl) := iX.cell 1
      have q2' : W4.cell? ⟨W.heap.size, 2, none⟩ = some (.string xc) := iX.cell 2
      have HONE := Lib.hid (stoA_one12 ⟨fold12 (new12 N) ((us12 s.B).take (i + 1)), ((i + 1 : Nat) : Int), 0⟩ (some ⟨g, 0, none⟩) q1)
      have HJ2 := Lib.hid j2
      have HJA := Lib.hid jA
      have HJR := Lib.hid jR
      have HIL := Lib.hid hi
      clear hx hk iX j2 jA jR CA hadd hlen hN hu hi
      gi_wp2_with (refine wpListIn_load_rowI rfl 31 _ rfl D5 rfl HJA.out Try.underlying31 rfl infoSto12 ?_)
      refine ⟨trivial, (callsIn_round12 HCA.out).mono ?_⟩
      rintro e W5 ⟨rfl, hR5, hg5⟩
      have hg5 : W4.grownBy W5 (some g) := hg5
      have hne : ∀ r, some g = some r → ¬ ((fun k => (k < w.heap.size ∨ k = D5 + 1) ∨ W3.heap.size ≤ k) r) ∨ W4.heap.size ≤ r := fun r e => by cases e; exact .inl (by simp only []; omega)
      have s5 : Stay (fun k => (k < w.heap.size ∨ k = D5 + 1) ∨ W3.heap.size ≤ k) W4 W5 := (Stay.refl _ _).grown hg5 hne
      have k2 := (hg5.block _ HJ2.out.lt (by intro e; have := Option.some.inj e; omega)).trans HJ2.out
      have kA := (hg5.block _ HJA.out.lt (by intro e; have := Option.some.inj e; omega)).trans HJA.out
      have hB5 := hb.grown hg5 hb.size (fun k e => by cases e; omega)
      gi_wp2_with (refine wpListIn_store_rowI rfl 31 _ _ rfl D5 (stoA ⟨fold12 (new12 N) ((us12 s.B).take (i + 1)), ((i + 1 : Nat) : Int), 0⟩ (some ⟨g, 0, none⟩) q1) rfl rfl kA infoSto12 rfl HONE.out ?_)
      exact ⟨s5.grown (grownRowG W5 D5 _) (fun r e => by cases e; exact .inl (by show ¬ ((D5 < w.heap.size ∨ D5 = D5 + 1) ∨ W3.heap.size ≤ D5); omega)), belowRow hB5 (by omega) _, Is.rowFar k2 (by omega) _, Is.row kA _, RowV.rowFar hR5 kA (by decide) _⟩
    case done =>
      rintro D W hD ⟨hb, j2, jA, jR⟩ hK
      rw [List.take_length] at jA jR
      rw [HM.out] at jA
      have HONE := Lib.hid (stoA_one12 ⟨fold12 (new12 N) (us12 s.B), s.many, 0⟩ (some ⟨g, 0, none⟩) q1)
      have hK2 : (W.setRow (w.heap.size + 1) (stoA ⟨fold12 (new12 N) (us12 s.B), s.many, 0⟩ (some ⟨g, 0, none⟩) q1)).heap[D]? = some (.deferred (some [])) := (setRow_other _ _ D _ (by omega)).trans hK
      have HK := Lib.hid hK2
      have HJR := Lib.hid jR
      clear hK hK2 jR
      gi_wp2_with (first | (refine wpListIn_load_rowI rfl 31 _ rfl D5 rfl jA Try.underlying31 rfl infoSto12 ?_) | (refine wpListIn_store_rowI rfl 31 _ _ rfl (w.heap.size + 1) (stoA ⟨fold12 (new12 N) (us12 s.B), s.many, 0⟩ (some ⟨g, 0, none⟩) q1) rfl rfl j2 infoSto12 rfl HONE.out ?_))
      refine ⟨by simp, .inl ⟨_, _, rfl, run_takeDeferred HK.out, ?_⟩⟩
      have hgr := grownBy_putObj' (W.setRow (w.heap.size + 1) (stoA ⟨fold12 (new12 N) (us12 s.B), s.many, 0⟩ (some ⟨g, 0, none⟩) q1)) D (.deferred none)
      have hrr : ∀ r, some D = some r → W3.heap.size ≤ r ∧ ∃ o : Obj, (W.setRow (w.heap.size + 1) (stoA ⟨fold12 (new12 N) (us12 s.B), s.many, 0⟩ (some ⟨g, 0, none⟩) q1)).heap[r]? = some o ∧ o.isCells = false := fun r e => by cases e; exact ⟨hD, _, HK.out, rfl⟩
      have zb := belowRow hb (g := w.heap.size + 1) (by omega) (stoA ⟨fold12 (new12 N) (us12 s.B), s.many, 0⟩ (some ⟨g, 0, none⟩) q1)
      exact ⟨_, results_row_tmp Try.results46 _ _ (w.heap.size + 1) 31 _ (0, 0) _ rfl (isOwn12 (j2.row _) hgr hrr) Try.underlying31 rfl infoSto12, some ⟨g, 0, none⟩, q1, rfl, RowV.keptT (RowV.rowFar HJR.out j2 (by decide) _) hgr (fun r e => (hrr r e).2), belowOwn12 zb zb.size (by omega) hgr hrr⟩
    case stop => exact fun _ _ _ _ _ h => h.elim
  · rw [grow_no12 h1] at HN
    gi_wp2_with fail
    refine ⟨trivial, (callsIn_wide.2 (HN.out _)).mono ?_⟩
    rintro e W2 ⟨A1, q1, rfl, hr2, hb2⟩
    obtain ⟨g, cur, rfl, hgb, hgc, hz⟩ := hr2.open (by rw [new_len12]; have := HGR.out; omega)
    have hgl := hgc.lt
    clear hgc hz cur
    have k1 := (j1.below hb2 j1.lt).alloc (.cells (stoA ⟨new12 N, 0, 0⟩ (some ⟨g, 0, none⟩) q1) 31)
    have k2 := (j2.below hb2 j2.lt).alloc (.cells (stoA ⟨new12 N, 0, 0⟩ (some ⟨g, 0, none⟩) q1) 31)
    have hBB := hB1.size
    have hj2 := j2.lt
    have hB2 := (hB1.trans (hb2.mono hB1.size)).alloc (Nat.le_trans hB1.size hb2.size) (.cells (stoA ⟨new12 N, 0, 0⟩ (some ⟨g, 0, none⟩) q1) 31)
    have kR : RowB (W2.alloc (.cells (stoA ⟨new12 N, 0, 0⟩ (some ⟨g, 0, none⟩) q1) 31)) w.heap.size (some ⟨g, 0, none⟩) q1 (new12 N) := (hr2.mono hB1.size).alloc _
    have kA : Is (W2.alloc (.cells (stoA ⟨new12 N, 0, 0⟩ (some ⟨g, 0, none⟩) q1) 31)) W2.heap.size 31 (stoA ⟨new12 N, 0, 0⟩ (some ⟨g, 0, none⟩) q1) := Is.new _ _ _
    have hs2 := hb2.size
    have hsz : (W2.alloc (.cells (stoA ⟨new12 N, 0, 0⟩ (some ⟨g, 0, none⟩) q1) 31)).heap.size = W2.heap.size + 1 := by simp
    have HSZ := Lib.hid hsz
    clear j1 j2 hB1 hr2 hb2 HN c0 c1 hsz
    gi_wp2_with (refine wpListIn_load_rowI rfl 31 _ rfl w.heap.size rfl k1 Try.underlying31 rfl infoSto12 ?_)
    refine ⟨trivial, (callsIn_wide.2 (used_any12 _ _ _ _)).mono ?_⟩
    rintro e W' ⟨rfl, rfl⟩
    have hsz := HSZ.out
    gi_wp2_with fail
    have i2 := k2.alloc (.cells (stoA s A c) 31)
    have iA := kA.alloc (.cells (stoA s A c) 31)
    have iR : RowB ((W2.alloc (.cells (stoA ⟨new12 N, 0, 0⟩ (some ⟨g, 0, none⟩) q1) 31)).alloc (.cells (stoA s A c) 31)) w.heap.size (some ⟨g, 0, none⟩) q1 (new12 N) := RowV.alloc kR (.cells (stoA s A c) 31)
    have iN : Is ((W2.alloc (.cells (stoA ⟨new12 N, 0, 0⟩ (some ⟨g, 0, none⟩) q1) 31)).alloc (.cells (stoA s A c) 31)) (W2.heap.size + 1) 31 (stoA s A c) := by rw [← hsz]; exact Is.new _ _ _
    have hb := hB2.alloc (by rw [hsz]; omega) (.cells (stoA s A c) 31)
    have hs3 := iN.lt
    clear k1 k2 kA kR hB2 hsz HSZ
    generalize (W2.alloc (.cells (stoA ⟨new12 N, 0, 0⟩ (some ⟨g, 0, none⟩) q1) 31)).alloc (.cells (stoA s A c) 31) = W3 at *
    generalize W2.heap.size = D5 at *
    refine wpIn_rangeL rfl (by omega) (gf := 52) (lb := #[.pointer (some ⟨D5 + 1, 0, none⟩)]) rfl trivial (enters_of Try.func52 (by kernel_rfl) rfl) (S := fun k => k < w.heap.size ∨ k = D5 + 1)
      (used_seq12 4 (by omega) (D5 + 1) _ _ _ A c s.B W3 iN rfl (HI.out.b.keep hb) (by have := HI.out.fit; omega) _ (.inr rfl) (fun p e hn => .inl (HI.out.b.blkB p e hn)))
      (Stay.refl _ _) (fun k hk => by have := hb.size; omega) (fun _ => rfl)
      (fun i W => Below w.heap.size w W ∧ Is W (w.heap.size + 1) 31 #[.slice none 0 0, .int .i64 0, .int .i64 0] ∧ Is W D5 31 (stoA ⟨fold12 (new12 N) ((us12 s.B).take i), (i : Int), 0⟩ (some ⟨g, 0, none⟩) q1) ∧ RowB W w.heap.size (some ⟨g, 0, none⟩) q1 (fold12 (new12 N) ((us12 s.B).take i)))
      (fun _ _ _ => False)
      (fun s X Y row hs hg hr => ⟨belowOwn12 hs.1 hs.1.size (by omega) hg hr, isOwn12 hs.2.1 hg hr, isOwn12 hs.2.2.1 hg hr, RowV.keptT hs.2.2.2 hg (fun r e => (hr r e).2)⟩)
      (fun c s X Y row hs hg hr => hs.elim)
      ⟨hb, i2, iA, iR⟩ ?round ?done ?stop
    case round =>
      rintro l i ⟨st, xl, xc⟩ W hl hlt hx ⟨hb, j2, jA, jR⟩
      gi_wp2
      refine ⟨(Stay.refl _ _).grown (World.grownBy_alloc _ _ none) (fun r e => by cases e), ⟨hb.alloc hb.size _, j2.alloc _, jA.alloc _, RowV.alloc jR _⟩, fun W' => Is W' W.heap.size 25 #[.int .i64 st, .string xl, .string xc], fun _ X Y row hs hg hr => isOwn12 hs hg hr, Is.new _ _ _, ?_⟩
      clear hb j2 jA jR
      rintro W4 hl4 ⟨hb, j2, jA, jR⟩ iX
      obtain ⟨k, hk⟩ := HST.out i _ hx
      have hi : i < (us12 s.B).length := (List.getElem?_eq_some_iff.1 hx).1
      have hu := HUM.out
      have hN := HGR.out
      have hlen := HLN.out i
      have hgl4 : g < W4.heap.size := by omega
      have hadd : add12 ⟨fold12 (new12 N) ((us12 s.B).take i), (i : Int), 0⟩ k xl xc = ⟨fold12 (new12 N) ((us12 s.B).take (i + 1)), ((i + 1 : Nat) : Int), 0⟩ := by
        rw [add12, hk.next]
        simp only [Sto12.mk.injEq, true_and]
        exact ⟨rfl, if_neg hk.st⟩
      have CA := added_any12 ⟨fold12 (new12 N) ((us12 s.B).take i), (i : Int), 0⟩ (some ⟨g, 0, none⟩) q1 w.heap.size k xl xc W4 jR (by show 0 < (fold12 (new12 N) ((us12 s.B).take i)).length; rw [hlen]; omega) (by show (fold12 (new12 N) ((us12 s.B).take i)).length ≤ 4096; rw [hlen]; omega) hk.all hk.gap (by show -1000000 ≤ (i : Int) ∧ (i : Int) ≤ 1000000; omega) (by show (-1000000 : Int) ≤ 0 ∧ (0 : Int) ≤ 1000000; omega)
      rw [hadd] at CA
      have HCA := Lib.hid CA
      have q1' : W4.cell? ⟨W.heap.size, 1, none⟩ = some (.string xl) := iX.cell 1
      have q2' : W4.cell? ⟨W.heap.size, 2, none⟩ = some (.string xc) := iX.cell 2
      have HONE := Lib.hid (stoA_one12 ⟨fold12 (new12 N) ((us12 s.B).take (i + 1)), ((i + 1 : Nat) : Int), 0⟩ (some ⟨g, 0, none⟩) q1)
      have HJ2 := Lib.hid j2
      have HJA := Lib.hid jA
      have HJR := Lib.hid jR
      have HIL := Lib.hid hi
      clear hx hk iX j2 jA jR CA hadd hlen hN hu hi
      gi_wp2_with (refine wpListIn_load_rowI rfl 31 _ rfl D5 rfl HJA.out Try.underlying31 rfl infoSto12 ?_)
      refine ⟨trivial, (callsIn_round12 HCA.out).mono ?_⟩
      rintro e W5 ⟨rfl, hR5, hg5⟩
      have hg5 : W4.grownBy W5 (some g) := hg5
      have hne : ∀ r, some g = some r → ¬ ((fun k => (k < w.heap.size ∨ k = D5 + 1) ∨ W3.heap.size ≤ k) r) ∨ W4.heap.size ≤ r := fun r e => by cases e; exact .inl (by simp only []; omega)
      have s5 : Stay (fun k => (k < w.heap.size ∨ k = D5 + 1) ∨ W3.heap.size ≤ k) W4 W5 := (Stay.refl _ _).grown hg5 hne
      have k2 := (hg5.block _ HJ2.out.lt (by intro e; have := Option.some.inj e; omega)).trans HJ2.out
      have kA := (hg5.block _ HJA.out.lt (by intro e; have := Option.some.inj e; omega)).trans HJA.out
      have hB5 := hb.grown hg5 hb.size (fun k e => by cases e; omega)
      gi_wp2_with (refine wpListIn_store_rowI rfl 31 _ _ rfl D5 (stoA ⟨fold12 (new12 N) ((us12 s.B).take (i + 1)), ((i + 1 : Nat) : Int), 0⟩ (some ⟨g, 0, none⟩) q1) rfl rfl kA infoSto12 rfl HONE.out ?_)
      exact ⟨s5.grown (grownRowG W5 D5 _) (fun r e => by cases e; exact .inl (by show ¬ ((D5 < w.heap.size ∨ D5 = D5 + 1) ∨ W3.heap.size ≤ D5); omega)), belowRow hB5 (by omega) _, Is.rowFar k2 (by omega) _, Is.row kA _, RowV.rowFar hR5 kA (by decide) _⟩
    case done =>
      rintro D W hD ⟨hb, j2, jA, jR⟩ hK
      rw [List.take_length] at jA jR
      rw [HM.out] at jA
      have HONE := Lib.hid (stoA_one12 ⟨fold12 (new12 N) (us12 s.B), s.many, 0⟩ (some ⟨g, 0, none⟩) q1)
      have hK2 : (W.setRow (w.heap.size + 1) (stoA ⟨fold12 (new12 N) (us12 s.B), s.many, 0⟩ (some ⟨g, 0, none⟩) q1)).heap[D]? = some (.deferred (some [])) := (setRow_other _ _ D _ (by omega)).trans hK
      have HK := Lib.hid hK2
      have HJR := Lib.hid jR
      clear hK hK2 jR
      gi_wp2_with (first | (refine wpListIn_load_rowI rfl 31 _ rfl D5 rfl jA Try.underlying31 rfl infoSto12 ?_) | (refine wpListIn_store_rowI rfl 31 _ _ rfl (w.heap.size + 1) (stoA ⟨fold12 (new12 N) (us12 s.B), s.many, 0⟩ (some ⟨g, 0, none⟩) q1) rfl rfl j2 infoSto12 rfl HONE.out ?_))
      refine ⟨by simp, .inl ⟨_, _, rfl, run_takeDeferred HK.out, ?_⟩⟩
      have hgr := grownBy_putObj' (W.setRow (w.heap.size + 1) (stoA ⟨fold12 (new12 N) (us12 s.B), s.many, 0⟩ (some ⟨g, 0, none⟩) q1)) D (.deferred none)
      have hrr : ∀ r, some D = some r → W3.heap.size ≤ r ∧ ∃ o : Obj, (W.setRow (w.heap.size + 1) (stoA ⟨fold12 (new12 N) (us12 s.B), s.many, 0⟩ (some ⟨g, 0, none⟩) q1)).heap[r]? = some o ∧ o.isCells = false := fun r e => by cases e; exact ⟨hD, _, HK.out, rfl⟩
      have zb := belowRow hb (g := w.heap.size + 1) (by omega) (stoA ⟨fold12 (new12 N) (us12 s.B), s.many, 0⟩ (some ⟨g, 0, none⟩) q1)
      exact ⟨_, results_row_tmp Try.results46 _ _ (w.heap.size + 1) 31 _ (0, 0) _ rfl (isOwn12 (j2.row _) hgr hrr) Try.underlying31 rfl infoSto12, some ⟨g, 0, none⟩, q1, rfl, RowV.keptT (RowV.rowFar HJR.out j2 (by decide) _) hgr (fun r e => (hrr r e).2), belowOwn12 zb zb.size (by omega) hgr hrr⟩
    case stop => exact fun _ _ _ _ _ h => h.elim
end Go.Proofs.Ytglcckpkbnppoaa
