/-
  Contracts of the document's own TakeList. No conditions.
-/
import Derived.Test.YtapfbcpbiagogaaCoeA
namespace Go.Proofs.Ytapfbcpbiagogaa
open Go.RowKit Go.Shelf

theorem RowV.lst10 {W : World} {n c m : Nat} {A : Option Addr} {l : List ByteArray} (h : RowV W n 9 1 A c m (tL10 l)) : Lst10 n W A l := ⟨h.inV, fun p e => by
  subst e
  rcases h.2 with ⟨h0, _⟩ | ⟨g, cap, cur, h0, hb, _⟩
  · cases h0
  · cases h0; exact hb⟩
theorem tL_one10 (l : List ByteArray) : ∀ u ∈ tL10 l, u.oneCell' = true := fun u hu => by
  obtain ⟨x, _, rfl⟩ := List.mem_map.1 hu
  rfl
theorem ne_sc10 : (64 : TypeId) ≠ 9 := by decide

set_option maxRecDepth 100000 in
set_option maxHeartbeats 4000000 in
theorem dl_num10 (B : ByteArray) (a : Int) (w : World) (h0 : (tnV10 B a).2.2 ≠ 0 ∨ 1000 < (tnV10 B a).1) :
    Calls Try.prog 40 #[.agg #[.string B, .int .i64 a]] w fun e w' => ∃ A c, e = .returned (tlR10 B a A c) ∧ Lst10 w.heap.size w' A (tlV10 B a).1 ∧ Below w.heap.size w w' := by
  have C := Lib.hid (dn_any10 B a)
  obtain ⟨W1, hW1⟩ : ∃ W1, W1 = (w.alloc (.cells #[.string B, .int .i64 a] 64)).alloc (.cells #[.string ⟨#[]⟩, .int .i64 0] 64) := ⟨_, rfl⟩
  by_cases he : (tnV10 B a).2.2 = 0
  · obtain ⟨hN, hb⟩ := tn_ok10 he
    have h2 : 1000 < (tnV10 B a).1 := by rcases h0 with h0 | h0; exact absurd he h0; exact h0
    have hv : tlV10 B a = ([], a, 13) := by rw [tlV10, if_pos he, if_pos h2]
    have HV := Lib.hid hv
    have HR := Lib.hid (show tlR10 B a none 0 = .tuple #[.slice none 0 0, .agg #[.string B, .int .i64 a], .int .i64 13] by rw [tlR10, hv]; rfl)
    rw [tnR10, hb, he] at C
    generalize (tnV10 B a).1 = n at *
    clear hN hb hv he h0
    go_enter Try.func40, Try.ntmps40
    go_wp2_with fail
    rw [← hW1]
    have hB1 : Below w.heap.size w W1 := by rw [hW1]; exact ((Below.refl _ _).alloc (Nat.le_refl _) _).alloc (by simp) _
    have iA1 : Is W1 w.heap.size 64 #[.string B, .int .i64 a] := by rw [hW1]; exact heap_alloc2_old w _ _
    have iR1 : Is W1 (w.heap.size + 1) 64 #[.string ⟨#[]⟩, .int .i64 0] := by rw [hW1]; exact heap_alloc2_new w _ _
    clear hW1
    refine (C.out _).mono ?_
    rintro e W2 ⟨rfl, hb⟩
    have hB2 := hB1.trans (hb.mono hB1.size)
    have iA2 := iA1.below hb iA1.lt
    have iR2 := iR1.below hb iR1.lt
    clear hb hB1 iA1 iR1
    have cA0 : W2.cell? ⟨w.heap.size, 0, none⟩ = some (.string B) := iA2.cell 0
    have cA1 : W2.cell? ⟨w.heap.size, 1, none⟩ = some (.int .i64 a) := iA2.cell 1
    have cR0 : W2.cell? ⟨w.heap.size + 1, 0, none⟩ = some (.string ⟨#[]⟩) := iR2.cell 0
    have cR1 : W2.cell? ⟨w.heap.size + 1, 1, none⟩ = some (.int .i64 0) := iR2.cell 1
    have fR0 := iR2.frozen 0
    have fR1 := iR2.frozen 1
    go_wp2
    have iD3 : Is (W2.alloc (.cells #[.string B, .int .i64 (a + 4)] 64)) W2.heap.size 64 #[.string B, .int .i64 (a + 4)] := Is.new W2 _ _
    have hB3 : Below w.heap.size w (W2.alloc (.cells #[.string B, .int .i64 (a + 4)] 64)) := hB2.alloc hB2.size _
    have iA3 := iA2.alloc (.cells #[.string B, .int .i64 (a + 4)] 64)
    have iR3 := iR2.alloc (.cells #[.string B, .int .i64 (a + 4)] 64)
    have hD := iR2.lt
    generalize W2.alloc (.cells #[.string B, .int .i64 (a + 4)] 64) = W3 at *
    generalize W2.heap.size = D at *
    have hn1' : D ≠ w.heap.size + 1 := by omega
    have hn2' : w.heap.size + 1 ≠ D := by omega
    clear cA0 cA1 cR0 cR1 fR0 fR1 hB2 iA2 iR2
    have cA0 : W3.cell? ⟨w.heap.size, 0, none⟩ = some (.string B) := iA3.cell 0
    have cA1 : W3.cell? ⟨w.heap.size, 1, none⟩ = some (.int .i64 a) := iA3.cell 1
    have cR0 : W3.cell? ⟨w.heap.size + 1, 0, none⟩ = some (.string ⟨#[]⟩) := iR3.cell 0
    have cR1 : W3.cell? ⟨w.heap.size + 1, 1, none⟩ = some (.int .i64 0) := iR3.cell 1
    have fR0 := iR3.frozen 0
    have fR1 := iR3.frozen 1
    go_region_held3 (fun w' => w'.cell? ⟨w.heap.size, 0, none⟩ = some (.string B) ∧ w'.cell? ⟨w.heap.size, 1, none⟩ = some (.int .i64 a)) (go_keep) (fail)
    go_wp2
    have iZ : Is (((W3.setCell ⟨w.heap.size + 1, 0, none⟩ (.string B)).setCell ⟨w.heap.size + 1, 1, none⟩ (.int .i64 a)).drew) (w.heap.size + 1) 64 #[.string B, .int .i64 a] := (iR3.pair10 (.string B) (.int .i64 a)).drewN 1
    exact bodyPost_ret (results_tct10 Try.results40 _ _ _ (w.heap.size + 1) 64 #[.string B, .int .i64 a] (0, 0) _ rfl iZ Try.underlying64 infoCur10) rfl ⟨none, 0, by rw [HR.out]; rfl, by rw [HV.out]; exact Lst10.nil _ _, below_pair10 hB3 (by omega) _ _⟩
  · have hk := tn_keep10 he
    have hv : tlV10 B a = ([], a, (tnV10 B a).2.2) := by rw [tlV10, if_neg he]
    have HV := Lib.hid hv
    have HR := Lib.hid (show tlR10 B a none 0 = .tuple #[.slice none 0 0, .agg #[.string B, .int .i64 a], .int .i64 (tnV10 B a).2.2] by rw [tlR10, hv]; rfl)
    rw [tnR10, hk] at C
    clear hk hv h0
    generalize (tnV10 B a).2.2 = e0 at *
    go_enter Try.func40, Try.ntmps40
    go_wp2_with fail
    rw [← hW1]
    have hB1 : Below w.heap.size w W1 := by rw [hW1]; exact ((Below.refl _ _).alloc (Nat.le_refl _) _).alloc (by simp) _
    have iA1 : Is W1 w.heap.size 64 #[.string B, .int .i64 a] := by rw [hW1]; exact heap_alloc2_old w _ _
    have iR1 : Is W1 (w.heap.size + 1) 64 #[.string ⟨#[]⟩, .int .i64 0] := by rw [hW1]; exact heap_alloc2_new w _ _
    clear hW1
    refine (C.out _).mono ?_
    rintro e W2 ⟨rfl, hb⟩
    have hB2 := hB1.trans (hb.mono hB1.size)
    have iA2 := iA1.below hb iA1.lt
    have iR2 := iR1.below hb iR1.lt
    clear hb hB1 iA1 iR1
    have cA0 : W2.cell? ⟨w.heap.size, 0, none⟩ = some (.string B) := iA2.cell 0
    have cA1 : W2.cell? ⟨w.heap.size, 1, none⟩ = some (.int .i64 a) := iA2.cell 1
    have cR0 : W2.cell? ⟨w.heap.size + 1, 0, none⟩ = some (.string ⟨#[]⟩) := iR2.cell 0
    have cR1 : W2.cell? ⟨w.heap.size + 1, 1, none⟩ = some (.int .i64 0) := iR2.cell 1
    have fR0 := iR2.frozen 0
    have fR1 := iR2.frozen 1
    go_wp2
    have iD3 : Is (W2.alloc (.cells #[.string B, .int .i64 (a)] 64)) W2.heap.size 64 #[.string B, .int .i64 (a)] := Is.new W2 _ _
    have hB3 : Below w.heap.size w (W2.alloc (.cells #[.string B, .int .i64 (a)] 64)) := hB2.alloc hB2.size _
    have iA3 := iA2.alloc (.cells #[.string B, .int .i64 (a)] 64)
    have iR3 := iR2.alloc (.cells #[.string B, .int .i64 (a)] 64)
    have hD := iR2.lt
    generalize W2.alloc (.cells #[.string B, .int .i64 (a)] 64) = W3 at *
    generalize W2.heap.size = D at *
    have hn1' : D ≠ w.heap.size + 1 := by omega
    have hn2' : w.heap.size + 1 ≠ D := by omega
    clear cA0 cA1 cR0 cR1 fR0 fR1 hB2 iA2 iR2
    have cA0 : W3.cell? ⟨w.heap.size, 0, none⟩ = some (.string B) := iA3.cell 0
    have cA1 : W3.cell? ⟨w.heap.size, 1, none⟩ = some (.int .i64 a) := iA3.cell 1
    have cR0 : W3.cell? ⟨w.heap.size + 1, 0, none⟩ = some (.string ⟨#[]⟩) := iR3.cell 0
    have cR1 : W3.cell? ⟨w.heap.size + 1, 1, none⟩ = some (.int .i64 0) := iR3.cell 1
    have fR0 := iR3.frozen 0
    have fR1 := iR3.frozen 1
    go_region_held3 (fun w' => w'.cell? ⟨w.heap.size, 0, none⟩ = some (.string B) ∧ w'.cell? ⟨w.heap.size, 1, none⟩ = some (.int .i64 a)) (go_keep) (fail)
    go_wp2
    have iZ : Is (((W3.setCell ⟨w.heap.size + 1, 0, none⟩ (.string B)).setCell ⟨w.heap.size + 1, 1, none⟩ (.int .i64 a)).drew) (w.heap.size + 1) 64 #[.string B, .int .i64 a] := (iR3.pair10 (.string B) (.int .i64 a)).drewN 1
    exact bodyPost_ret (results_tct10 Try.results40 _ _ _ (w.heap.size + 1) 64 #[.string B, .int .i64 a] (0, 0) _ rfl iZ Try.underlying64 infoCur10) rfl ⟨none, 0, by rw [HR.out]; rfl, by rw [HV.out]; exact Lst10.nil _ _, below_pair10 hB3 (by omega) _ _⟩

set_option maxRecDepth 100000 in
set_option maxHeartbeats 4000000 in
theorem dl_go10 (B : ByteArray) (a : Int) (w : World) (he : (tnV10 B a).2.2 = 0) (h1 : (tnV10 B a).1 ≤ 1000) :
    Calls Try.prog 40 #[.agg #[.string B, .int .i64 a]] w fun e w' => ∃ A c, e = .returned (tlR10 B a A c) ∧ Lst10 w.heap.size w' A (tlV10 B a).1 ∧ Below w.heap.size w w' := by
  obtain ⟨i0, hi, hz0, hz1, hz2⟩ := info_parts infoTxt10
  have C := Lib.hid (dn_any10 B a)
  obtain ⟨W1, hW1⟩ : ∃ W1, W1 = (w.alloc (.cells #[.string B, .int .i64 a] 64)).alloc (.cells #[.string ⟨#[]⟩, .int .i64 0] 64) := ⟨_, rfl⟩
  obtain ⟨hN, hb⟩ := tn_ok10 he
  obtain ⟨N, hNe⟩ : ∃ N : Nat, (tnV10 B a).1 = (N : Int) := ⟨(tnV10 B a).1.toNat, by have := hN.bd.1; omega⟩
  have hri := hN.right
  have hvo : (tks10 B N (a + 4)).2.2 = 0 → tlV10 B a = ((tks10 B N (a + 4)).1, (tks10 B N (a + 4)).2.1, 0) := fun h => by
    rw [tlV10, if_pos he, if_neg (by omega), hNe, show ((N : Int)).toNat = N by omega, if_pos h]
    exact Prod.ext rfl (Prod.ext rfl h)
  have hve : ∀ e0, (tks10 B N (a + 4)).2.2 = e0 → e0 ≠ 0 → tlV10 B a = ([], a, e0) := fun e0 h h2 => by
    rw [tlV10, if_pos he, if_neg (by omega), hNe, show ((N : Int)).toNat = N by omega, if_neg (by rw [h]; exact h2), h]
  have HVO := Lib.hid hvo
  have HVE := Lib.hid hve
  have HTK := Lib.hid (fun k => tks_ok10 (B := B) (a := a + 4) (by omega) hri.2.2 k)
  rw [tnR10, hb, he, hNe] at C
  have hN1 : N ≤ 1000 := by omega
  have hN2 : (N : Int) ≤ 1000 := by omega
  have HRI := Lib.hid hri
  clear hvo hve hN hb he h1 hNe hri
  go_enter Try.func40, Try.ntmps40
  go_wp2_with fail
  rw [← hW1]
  have hB1 : Below w.heap.size w W1 := by rw [hW1]; exact ((Below.refl _ _).alloc (Nat.le_refl _) _).alloc (by simp) _
  have iA1 : Is W1 w.heap.size 64 #[.string B, .int .i64 a] := by rw [hW1]; exact heap_alloc2_old w _ _
  have iR1 : Is W1 (w.heap.size + 1) 64 #[.string ⟨#[]⟩, .int .i64 0] := by rw [hW1]; exact heap_alloc2_new w _ _
  clear hW1
  refine (C.out _).mono ?_
  rintro e W2 ⟨rfl, hb⟩
  have hB2 := hB1.trans (hb.mono hB1.size)
  have iA2 := iA1.below hb iA1.lt
  have iR2 := iR1.below hb iR1.lt
  clear hb hB1 iA1 iR1
  have cA0 : W2.cell? ⟨w.heap.size, 0, none⟩ = some (.string B) := iA2.cell 0
  have cA1 : W2.cell? ⟨w.heap.size, 1, none⟩ = some (.int .i64 a) := iA2.cell 1
  have cR0 : W2.cell? ⟨w.heap.size + 1, 0, none⟩ = some (.string ⟨#[]⟩) := iR2.cell 0
  have cR1 : W2.cell? ⟨w.heap.size + 1, 1, none⟩ = some (.int .i64 0) := iR2.cell 1
  have fR0 := iR2.frozen 0
  have fR1 := iR2.frozen 1
  go_wp2
  have iD3 : Is (W2.alloc (.cells #[.string B, .int .i64 (a + 4)] 64)) W2.heap.size 64 #[.string B, .int .i64 (a + 4)] := Is.new W2 _ _
  have hB3 : Below w.heap.size w (W2.alloc (.cells #[.string B, .int .i64 (a + 4)] 64)) := hB2.alloc hB2.size _
  have iA3 := iA2.alloc (.cells #[.string B, .int .i64 (a + 4)] 64)
  have iR3 := iR2.alloc (.cells #[.string B, .int .i64 (a + 4)] 64)
  have hD := iR2.lt
  generalize W2.alloc (.cells #[.string B, .int .i64 (a + 4)] 64) = W3 at *
  generalize W2.heap.size = D at *
  have hn1' : D ≠ w.heap.size + 1 := by omega
  have hn2' : w.heap.size + 1 ≠ D := by omega
  clear cA0 cA1 cR0 cR1 fR0 fR1 hB2 iA2 iR2
  have cA0 : W3.cell? ⟨w.heap.size, 0, none⟩ = some (.string B) := iA3.cell 0
  have cA1 : W3.cell? ⟨w.heap.size, 1, none⟩ = some (.int .i64 a) := iA3.cell 1
  have cR0 : W3.cell? ⟨w.heap.size + 1, 0, none⟩ = some (.string ⟨#[]⟩) := iR3.cell 0
  have cR1 : W3.cell? ⟨w.heap.size + 1, 1, none⟩ = some (.int .i64 0) := iR3.cell 1
  have fR0 := iR3.frozen 0
  have fR1 := iR3.frozen 1
  have hA3 := iA3
  clear cA0 cA1 cR0 cR1 fR0 fR1
  have hDs : w.heap.size + 1 < D := by omega
  go_loopw [8, 9] (fun v i wr => ∃ k A' c', k ≤ N ∧ i = .int .i64 (k : Int) ∧ v = .slice A' k c' ∧ (tks10 B k (a + 4)).2.2 = 0 ∧ RowV wr w.heap.size 9 1 A' c' k (tL10 (tks10 B k (a + 4)).1) ∧ Is wr D 64 #[.string B, .int .i64 (tks10 B k (a + 4)).2.1] ∧ Is wr w.heap.size 64 #[.string B, .int .i64 a] ∧ Is wr (w.heap.size + 1) 64 #[.string ⟨#[]⟩, .int .i64 0] ∧ Below w.heap.size w wr)
    (fun _ i _ => N - (intOf i).toNat)
  case atStart => exact ⟨0, none, 0, by omega, rfl, rfl, rfl, RowV.nil _ _ _ _, iD3, iA3, iR3, hB3⟩
  case round =>
    clear iD3 iA3 iR3 hB3 hA3
    obtain ⟨k, A', c', hk, rfl, rfl, hno, hrow, iD, iA, iR, hB⟩ := hrel
    by_cases hlt : k < N
    · have hk1 : (k : Int) < (N : Int) := by omega
      have hCT := dt_any10 B (tks10 B k (a + 4)).2.1
      have hst := tks_step10 hno
      have hsy : ∀ j, k + 1 ≤ j → (tks10 B (k + 1) (a + 4)).2.2 ≠ 0 → tks10 B j (a + 4) = tks10 B (k + 1) (a + 4) := fun j hj h => by
        obtain ⟨d, rfl⟩ := Nat.exists_eq_add_of_le hj
        exact tks_stay10 h d
      have hlen := (HTK.out k hno).len
      obtain ⟨L, hL⟩ : ∃ L, L = (tks10 B k (a + 4)).1 := ⟨_, rfl⟩
      rw [← hL] at hrow hst hlen
      generalize (tks10 B k (a + 4)).2.1 = p at *
      rw [ttR10] at hCT
      generalize hV : ttV10 B p = V at *
      obtain ⟨x, q, e0⟩ := V
      simp only at hCT hst
      have CT := Lib.hid hCT
      have w2i := IntWalk.i64_in ((k : Int) + 1) (by omega)
      have cD0 : wr.cell? ⟨D, 0, none⟩ = some (.string B) := iD.cell 0
      have cD1 : wr.cell? ⟨D, 1, none⟩ = some (.int .i64 p) := iD.cell 1
      by_cases h0 : e0 = 0
      · subst h0
        rw [if_pos rfl] at hst
        have HS0 := Lib.hid hst
        have hno2 : (tks10 B (k + 1) (a + 4)).2.2 = 0 := by rw [hst]
        have HN2 := Lib.hid hno2
        clear hCT hst hsy hno hL hV hno2
        go_wp2_with fail
        refine (CT.out _).mono ?_
        rintro e W4 ⟨rfl, hb⟩
        have hrow4 := hrow.below hb
        have iD4 := iD.below hb iD.lt
        have iA4 := iA.below hb iA.lt
        have iR4 := iR.below hb iR.lt
        have hB4 := hB.trans (hb.mono hB.size)
        clear hrow iD iA iR hB hb cD0 cD1
        have hrow5 := (hrow4.alloc (.cells #[.string B, .int .i64 q] 64)).alloc (.cells #[.string x] 9)
        have iD5 := (iD4.alloc (.cells #[.string B, .int .i64 q] 64)).alloc (.cells #[.string x] 9)
        have iA5 := (iA4.alloc (.cells #[.string B, .int .i64 q] 64)).alloc (.cells #[.string x] 9)
        have iR5 := (iR4.alloc (.cells #[.string B, .int .i64 q] 64)).alloc (.cells #[.string x] 9)
        have iE5 : Is ((W4.alloc (.cells #[.string B, .int .i64 q] 64)).alloc (.cells #[.string x] 9)) W4.heap.size 64 #[.string B, .int .i64 q] := heap_alloc2_old W4 _ _
        have iX5 : Is ((W4.alloc (.cells #[.string B, .int .i64 q] 64)).alloc (.cells #[.string x] 9)) (W4.heap.size + 1) 9 #[.string x] := heap_alloc2_new W4 _ _
        have hB5 : Below w.heap.size w ((W4.alloc (.cells #[.string B, .int .i64 q] 64)).alloc (.cells #[.string x] 9)) := (hB4.alloc hB4.size _).alloc (by have := hB4.size; simp; omega) _
        have hDl := iD4.lt
        have hqn : D ≠ W4.heap.size := by omega
        have hqn2 : W4.heap.size ≠ D := by omega
        go_wp2_with (at_builtin; refine wpList_pushV rfl _ _ 24 9 i0 (.string ⟨#[]⟩) 1 16 rfl Try.underlying24 hi hz0 hz1 hz2 rfl (by decide) w.heap.size A' c' k _ hrow5 (W4.heap.size + 1) 9 #[.string x] iX5 rfl (fun u hu => by simp only [List.mem_cons, List.not_mem_nil, or_false] at hu; subst hu; rfl) (by unfold maxLen; omega) (by omega) ⟨rfl, rfl⟩ hB5.size ?_; intro A3 c3 V3 r3 hg3; have iD6 := hrow5.isFar hg3 iD5 ne_sc10; have iE6 := hrow5.isFar hg3 iE5 ne_sc10; have d0 : V3.cell? ⟨D, 0, none⟩ = some (.string B) := iD6.cell 0; have d1 : V3.cell? ⟨D, 1, none⟩ = some (.int .i64 p) := iD6.cell 1; have e0 : V3.cell? ⟨W4.heap.size, 0, none⟩ = some (.string B) := iE6.cell 0; have e1 : V3.cell? ⟨W4.heap.size, 1, none⟩ = some (.int .i64 q) := iE6.cell 1; have f0 := iD6.frozen 0; have f1 := iD6.frozen 1)
        have iA6 := hrow5.isFar hg3 iA5 ne_sc10
        have iR6 := hrow5.isFar hg3 iR5 ne_sc10
        have hB6 := hrow5.belowG hB5 hg3
        have hr3 : RowV V3 w.heap.size 9 1 A3 c3 (k + 1) (tL10 (L ++ [x])) := by
          have e : tL10 (L ++ [x]) = tL10 L ++ (#[Value.string x] : Array Value).toList := by unfold tL10; rw [List.map_append]; rfl
          rw [e]
          exact r3
        go_roundw
        case rel =>
          refine ⟨k + 1, A3, c3, by omega, by go_num, by first | rfl | exact ⟨rfl, rfl, rfl⟩, HN2.out, ?_, ?_, (iA6.far (p := ⟨D, 0, none⟩) (by simp only []; omega) _).far (p := ⟨D, 1, none⟩) (by simp only []; omega) _, (iR6.far (p := ⟨D, 0, none⟩) (by simp only []; omega) _).far (p := ⟨D, 1, none⟩) (by simp only []; omega) _, (hB6.setCell (p := ⟨D, 0, none⟩) (by simp only []; omega) _).setCell (p := ⟨D, 1, none⟩) (by simp only []; omega) _⟩
          · rw [HS0.out]; exact (hr3.far (p := ⟨D, 0, none⟩) iD6 ne_sc10 _).far (p := ⟨D, 1, none⟩) (iD6.set 0 _) ne_sc10 _
          · rw [HS0.out]; exact iD6.pair10 _ _
        case measure => simp [intOf]; omega
      · rw [if_neg h0] at hst
        have her : (tks10 B N (a + 4)).2.2 = e0 := by rw [hsy N hlt (by rw [hst]; exact h0), hst]
        have hv := HVE.out e0 her h0
        have HV := Lib.hid hv
        have HR := Lib.hid (show tlR10 B a none 0 = .tuple #[.slice none 0 0, .agg #[.string B, .int .i64 a], .int .i64 e0] by rw [tlR10, hv]; rfl)
        have hq : q = p ∧ x = ⟨#[]⟩ := by
          have := tt_keep10 (B := B) (a := p) (by rw [hV]; exact h0)
          rw [hV] at this
          exact ⟨congrArg (fun y => y.2.1) this, congrArg (fun y => y.1) this⟩
        obtain ⟨rfl, rfl⟩ := hq
        clear hCT hst hsy hno hL hV her hv hrow hlen
        go_wp2_with fail
        refine (CT.out _).mono ?_
        rintro e W4 ⟨rfl, hb⟩
        have iA2 := iA.below hb iA.lt
        have iR2 := iR.below hb iR.lt
        have hB2 := hB.trans (hb.mono hB.size)
        clear iD iA iR hB hb cD0 cD1
        go_wp2
        have hB3 : Below w.heap.size w (W4.alloc (.cells #[.string B, .int .i64 q] 64)) := hB2.alloc hB2.size _
        have iA3 := iA2.alloc (.cells #[.string B, .int .i64 q] 64)
        have iR3 := iR2.alloc (.cells #[.string B, .int .i64 q] 64)
        have hE := iR2.lt
        generalize W4.alloc (.cells #[.string B, .int .i64 q] 64) = W3 at *
        generalize W4.heap.size = E at *
        have hm1 : E ≠ w.heap.size + 1 := by omega
        have hm2 : w.heap.size + 1 ≠ E := by omega
        clear iA2 iR2 hB2
        have cA0 : W3.cell? ⟨w.heap.size, 0, none⟩ = some (.string B) := iA3.cell 0
        have cA1 : W3.cell? ⟨w.heap.size, 1, none⟩ = some (.int .i64 a) := iA3.cell 1
        have cR0 : W3.cell? ⟨w.heap.size + 1, 0, none⟩ = some (.string ⟨#[]⟩) := iR3.cell 0
        have cR1 : W3.cell? ⟨w.heap.size + 1, 1, none⟩ = some (.int .i64 0) := iR3.cell 1
        have fR0 := iR3.frozen 0
        have fR1 := iR3.frozen 1
        go_region_held3 (fun w' => w'.cell? ⟨w.heap.size, 0, none⟩ = some (.string B) ∧ w'.cell? ⟨w.heap.size, 1, none⟩ = some (.int .i64 a)) (go_keep) (fail)
        go_wp2
        have iZ : Is (((W3.setCell ⟨w.heap.size + 1, 0, none⟩ (.string B)).setCell ⟨w.heap.size + 1, 1, none⟩ (.int .i64 a)).drew) (w.heap.size + 1) 64 #[.string B, .int .i64 a] := (iR3.pair10 (.string B) (.int .i64 a)).drewN 1
        exact bodyPost_ret (results_tct10 Try.results40 _ _ _ (w.heap.size + 1) 64 #[.string B, .int .i64 a] (0, 0) _ rfl iZ Try.underlying64 infoCur10) rfl ⟨none, 0, by rw [HR.out]; rfl, by rw [HV.out]; exact Lst10.nil _ _, below_pair10 hB3 (by omega) _ _⟩
    · have hk1 : ¬ (k : Int) < (N : Int) := by omega
      obtain rfl : k = N := by omega
      have hv := HVO.out hno
      have hlen := (HTK.out k hno).len
      have HV := Lib.hid hv
      have HR := Lib.hid (fun A c => show tlR10 B a A c = .tuple #[.slice A k c, .agg #[.string B, .int .i64 (tks10 B k (a + 4)).2.1], .int .i64 0] by rw [tlR10, hv, hlen])
      have hrow3 := hrow.lst10
      generalize (tks10 B k (a + 4)).1 = L at *
      generalize (tks10 B k (a + 4)).2.1 = p at *
      have hB3 := hB
      have iA3 := iA
      have iR3 := iR
      have cD0 : wr.cell? ⟨D, 0, none⟩ = some (.string B) := iD.cell 0
      have cD1 : wr.cell? ⟨D, 1, none⟩ = some (.int .i64 p) := iD.cell 1
      have HROW := Lib.hid hrow
      have HID := Lib.hid iR
      clear hv hlen hno hrow
      generalize hwr : wr = W3 at *
      go_wp2
      have cA0 : W3.cell? ⟨w.heap.size, 0, none⟩ = some (.string B) := iA3.cell 0
      have cA1 : W3.cell? ⟨w.heap.size, 1, none⟩ = some (.int .i64 a) := iA3.cell 1
      have cR0 : W3.cell? ⟨w.heap.size + 1, 0, none⟩ = some (.string ⟨#[]⟩) := iR3.cell 0
      have cR1 : W3.cell? ⟨w.heap.size + 1, 1, none⟩ = some (.int .i64 0) := iR3.cell 1
      have fR0 := iR3.frozen 0
      have fR1 := iR3.frozen 1
      go_region_held3 (fun w' => w'.cell? ⟨D, 0, none⟩ = some (.string B) ∧ w'.cell? ⟨D, 1, none⟩ = some (.int .i64 p)) (go_keep) (fail)
      go_wp2
      have iZ : Is (((W3.setCell ⟨w.heap.size + 1, 0, none⟩ (.string B)).setCell ⟨w.heap.size + 1, 1, none⟩ (.int .i64 p)).drew) (w.heap.size + 1) 64 #[.string B, .int .i64 p] := (iR3.pair10 (.string B) (.int .i64 p)).drewN 1
      exact bodyPost_ret (results_tct10 Try.results40 _ _ _ (w.heap.size + 1) 64 #[.string B, .int .i64 p] (0, 0) _ rfl iZ Try.underlying64 infoCur10) rfl ⟨A', c', by rw [HR.out]; rfl, by rw [HV.out]; exact RowV.lst10 (m := k) (((HROW.out.far (p := ⟨w.heap.size + 1, 0, none⟩) HID.out ne_sc10 _).far (p := ⟨w.heap.size + 1, 1, none⟩) (HID.out.set 0 _) ne_sc10 _).drewN 1), below_pair10 hB3 (by omega) _ _⟩
theorem dl_any10 (B : ByteArray) (a : Int) (w : World) :
    Calls Try.prog 40 #[.agg #[.string B, .int .i64 a]] w fun e w' => ∃ A c, e = .returned (tlR10 B a A c) ∧ Lst10 w.heap.size w' A (tlV10 B a).1 ∧ Below w.heap.size w w' := by
  by_cases h0 : (tnV10 B a).2.2 = 0
  · by_cases h1 : (tnV10 B a).1 ≤ 1000
    · exact dl_go10 B a w h0 h1
    · exact dl_num10 B a w (.inr (by omega))
  · exact dl_num10 B a w (.inl h0)
end Go.Proofs.Ytapfbcpbiagogaa
