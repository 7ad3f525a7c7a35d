/-
  Contract of the statements' own Response.
-/
import Derived.Test.YtapfbcpbiagogaaWirU
namespace Go.Proofs.Ytapfbcpbiagogaa
open Go.RowKit Go.Shelf

theorem ne_rs11 : (28 : TypeId) ≠ 9 := by decide
/-- what Response tells. -/
def RspPost11 (D : Rsp11) (w : World) (r : Ending) (w' : World) : Prop :=
  ∃ B2 d2, r = .returned (.agg #[.int .i64 D.k, .int .i64 D.st, .slice B2 D.C.length d2, .int .i64 D.many, .int .i64 D.room]) ∧ InV w' B2 (tL10 D.C) ∧ Below w.heap.size w w'
theorem rsp_post11 {D : Rsp11} {w w' : World} {r : Ending} (B2 : Option Addr) (d2 : Nat) (h : r = .returned (.agg #[.int .i64 D.k, .int .i64 D.st, .slice B2 D.C.length d2, .int .i64 D.many, .int .i64 D.room])) (h2 : InV w' B2 (tL10 D.C)) (hb : Below w.heap.size w w') : RspPost11 D w r w' := ⟨B2, d2, h, h2, hb⟩
set_option maxRecDepth 100000 in
set_option maxHeartbeats 8000000 in
theorem qrsp_any11 (kind a b c : Int) (A : Option Addr) (cap : Nat) (R : List Int) (w : World) (hk : -9223372036854775808 ≤ kind ∧ kind ≤ 9223372036854775807) (ha : -9223372036854775808 ≤ a ∧ a ≤ 9223372036854775807) (hb : -9223372036854775808 ≤ b ∧ b ≤ 9223372036854775807) (hcc : -9223372036854775808 ≤ c ∧ c ≤ 9223372036854775807) (hm : R.length ≤ 9223372036854775807) (hbg : Big11 R) (hc : InV w A (iV11 R)) :
    Calls Try.prog 12 #[.int .i64 kind, .agg #[.int .i64 a, .int .i64 b, .int .i64 c], .slice A R.length cap] w fun r w' => RspPost11 (resp11 kind a b c R) w r w' := by
  obtain ⟨t0, hi, hz0, hz1, hz2⟩ := infoThree10 infoTxt10
  have PK := Lib.hid (fun W => pick11_any kind 5 W hk.1 hk.2 (by omega) (by omega))
  have PA := Lib.hid (fun W => pick11_any a 3 W ha.1 ha.2 (by omega) (by omega))
  have PB := Lib.hid (fun W => pick11_any b 2147483648 W hb.1 hb.2 (by omega) (by omega))
  have PC := Lib.hid (fun W => pick11_any c 2147483648 W hcc.1 hcc.2 (by omega) (by omega))
  have hp := pickN_bd kind 5 (by omega)
  have HD : Hid (resp11 kind a b c R = if pickN kind 5 = 1 then ⟨1, pickN a 3, [], 0, 0⟩ else if pickN kind 5 = 2 then ⟨2, 0, rspK11 R 12, 0, 0⟩ else if pickN kind 5 = 3 then ⟨3, 0, [], pickN b 2147483648, 0⟩ else if pickN kind 5 = 4 then ⟨4, 0, [], pickN b 2147483648, pickN c 2147483648⟩ else ⟨0, 0, [], 0, 0⟩) := Lib.hid rfl
  have HC := Lib.hid hc
  have HBG := Lib.hid hbg
  clear hc hbg
  generalize resp11 kind a b c R = D at *
  generalize pickN kind 5 = p at *
  generalize pickN a 3 = pa at *
  generalize pickN b 2147483648 = pb at *
  generalize pickN c 2147483648 = pc at *
  have nil : ∀ W : World, InV W none (tL10 []) := fun W j u hj => by cases hj
  have HNIL := Lib.hid nil
  clear nil
  by_cases h0 : p = 0
  · subst h0
    rw [if_neg (by decide), if_neg (by decide), if_neg (by decide), if_neg (by decide)] at HD
    obtain ⟨W1, hW1⟩ : ∃ W1, W1 = ((w.alloc (.cells #[.int .i64 a, .int .i64 b, .int .i64 c] 23)).alloc (.cells #[.int .i64 0, .int .i64 0, .slice none 0 0, .int .i64 0, .int .i64 0] 28)).alloc (.cells #[.int .i64 0, .int .i64 0, .slice none 0 0, .int .i64 0, .int .i64 0] 28) := ⟨_, rfl⟩
    have iN : Is W1 w.heap.size 23 #[.int .i64 a, .int .i64 b, .int .i64 c] := by rw [hW1]; exact ((Is.new _ _ _).alloc _).alloc _
    have i1 : Is W1 (w.heap.size + 1) 28 #[.int .i64 0, .int .i64 0, .slice none 0 0, .int .i64 0, .int .i64 0] := by rw [hW1]; exact Is.alloc (heap_alloc2_new w _ _) _
    have iq : Is W1 (w.heap.size + 1 + 1) 28 #[.int .i64 0, .int .i64 0, .slice none 0 0, .int .i64 0, .int .i64 0] := by
      rw [hW1]
      have := Is.new ((w.alloc (.cells #[.int .i64 a, .int .i64 b, .int .i64 c] 23)).alloc (.cells #[.int .i64 0, .int .i64 0, .slice none 0 0, .int .i64 0, .int .i64 0] 28)) 28 #[.int .i64 0, .int .i64 0, .slice none 0 0, .int .i64 0, .int .i64 0]
      simpa using this
    have hz1 : W1.heap.size = w.heap.size + 1 + 1 + 1 := by rw [hW1]; simp
    have hB : Below w.heap.size w W1 := by rw [hW1]; exact (((Below.refl _ _).alloc (Nat.le_refl _) _).alloc (by simp) _).alloc (by simp; omega) _
    have c0 : W1.cell? ⟨w.heap.size + 1 + 1, 0, none⟩ = some (.int .i64 0) := iq.cell 0
    go_enter Try.func12, Try.ntmps12
    go_upto_region 18 with (go_at_call 15; refine (PK.out _).mono ?_; rintro r0 w1 ⟨rfl, rfl⟩)
    rw [← hW1]
    clear hW1
    refine wp_region_list ?_
    refine wpList_load_row rfl 28 _ rfl (w.heap.size + 1 + 1) rfl _ _ _ _ iq Try.underlying28 rfl infoRsp11 ?_
    go_wp2_with (refine wpList_store_row rfl 28 _ _ rfl (w.heap.size + 1) #[.int .i64 0, .int .i64 0, .slice none 0 0, .int .i64 0, .int .i64 0] rfl rfl _ _ i1 infoRsp11 rfl (by rw [← Array.all_toList]; rfl) ?_)
    exact bodyPost_ret (results_cell_row Try.results12 _ _ (w.heap.size + 1) 28 _ (0, 0) _ rfl (i1.row #[.int .i64 0, .int .i64 0, .slice none 0 0, .int .i64 0, .int .i64 0]) Try.underlying28 rfl infoRsp11) rfl (rsp_post11 none 0 (by rw [HD.out]; rfl) (by rw [HD.out]; exact HNIL.out _) (belowRow hB (by omega) #[.int .i64 0, .int .i64 0, .slice none 0 0, .int .i64 0, .int .i64 0]))
  by_cases h1 : p = 1
  · subst h1
    rw [if_pos rfl] at HD
    obtain ⟨W1, hW1⟩ : ∃ W1, W1 = ((w.alloc (.cells #[.int .i64 a, .int .i64 b, .int .i64 c] 23)).alloc (.cells #[.int .i64 0, .int .i64 0, .slice none 0 0, .int .i64 0, .int .i64 0] 28)).alloc (.cells #[.int .i64 1, .int .i64 0, .slice none 0 0, .int .i64 0, .int .i64 0] 28) := ⟨_, rfl⟩
    have iN : Is W1 w.heap.size 23 #[.int .i64 a, .int .i64 b, .int .i64 c] := by rw [hW1]; exact ((Is.new _ _ _).alloc _).alloc _
    have i1 : Is W1 (w.heap.size + 1) 28 #[.int .i64 0, .int .i64 0, .slice none 0 0, .int .i64 0, .int .i64 0] := by rw [hW1]; exact Is.alloc (heap_alloc2_new w _ _) _
    have iq : Is W1 (w.heap.size + 1 + 1) 28 #[.int .i64 1, .int .i64 0, .slice none 0 0, .int .i64 0, .int .i64 0] := by
      rw [hW1]
      have := Is.new ((w.alloc (.cells #[.int .i64 a, .int .i64 b, .int .i64 c] 23)).alloc (.cells #[.int .i64 0, .int .i64 0, .slice none 0 0, .int .i64 0, .int .i64 0] 28)) 28 #[.int .i64 1, .int .i64 0, .slice none 0 0, .int .i64 0, .int .i64 0]
      simpa using this
    have hz1 : W1.heap.size = w.heap.size + 1 + 1 + 1 := by rw [hW1]; simp
    have hB : Below w.heap.size w W1 := by rw [hW1]; exact (((Below.refl _ _).alloc (Nat.le_refl _) _).alloc (by simp) _).alloc (by simp; omega) _
    have c0 : W1.cell? ⟨w.heap.size + 1 + 1, 0, none⟩ = some (.int .i64 1) := iq.cell 0
    have n0 : W1.cell? ⟨w.heap.size, 0, none⟩ = some (.int .i64 a) := iN.cell 0
    go_enter Try.func12, Try.ntmps12
    go_wp2_with (fail)
    refine (PK.out _).mono ?_
    rintro r0 w1 ⟨rfl, rfl⟩
    go_wp2_with (fail)
    rw [← hW1]
    clear hW1
    refine (PA.out _).mono ?_
    rintro r0 w1 ⟨rfl, rfl⟩
    have fz0 := iq.frozen 1
    have cz0 := iq.cell 1
    have iq2 := iq.set 1 (.int .i64 pa)
    have i12 := i1.far (p := ⟨w.heap.size + 1 + 1, 1, none⟩) (show w.heap.size + 1 ≠ w.heap.size + 1 + 1 by omega) (.int .i64 pa)
    have hB2 := hB.setCell (p := ⟨w.heap.size + 1 + 1, 1, none⟩) (show w.heap.size ≤ w.heap.size + 1 + 1 by omega) (.int .i64 pa)
    simp only [List.setIfInBounds_toArray, List.set_cons_succ, List.set_cons_zero] at iq2
    go_upto_region 18 with (fail)
    refine wp_region_list ?_
    refine wpList_load_row rfl 28 _ rfl (w.heap.size + 1 + 1) rfl _ _ _ _ iq2 Try.underlying28 rfl infoRsp11 ?_
    go_wp2_with (refine wpList_store_row rfl 28 _ _ rfl (w.heap.size + 1) #[.int .i64 1, .int .i64 pa, .slice none 0 0, .int .i64 0, .int .i64 0] rfl rfl _ _ i12 infoRsp11 rfl (by rw [← Array.all_toList]; rfl) ?_)
    exact bodyPost_ret (results_cell_row Try.results12 _ _ (w.heap.size + 1) 28 _ (0, 0) _ rfl (i12.row #[.int .i64 1, .int .i64 pa, .slice none 0 0, .int .i64 0, .int .i64 0]) Try.underlying28 rfl infoRsp11) rfl (rsp_post11 none 0 (by rw [HD.out]; rfl) (by rw [HD.out]; exact HNIL.out _) (belowRow hB2 (by omega) #[.int .i64 1, .int .i64 pa, .slice none 0 0, .int .i64 0, .int .i64 0]))
  by_cases h2 : p = 2
  · subst h2
    rw [if_neg (by decide), if_pos rfl] at HD
    obtain ⟨W1, hW1⟩ : ∃ W1, W1 = ((w.alloc (.cells #[.int .i64 a, .int .i64 b, .int .i64 c] 23)).alloc (.cells #[.int .i64 0, .int .i64 0, .slice none 0 0, .int .i64 0, .int .i64 0] 28)).alloc (.cells #[.int .i64 2, .int .i64 0, .slice none 0 0, .int .i64 0, .int .i64 0] 28) := ⟨_, rfl⟩
    have iN : Is W1 w.heap.size 23 #[.int .i64 a, .int .i64 b, .int .i64 c] := by rw [hW1]; exact ((Is.new _ _ _).alloc _).alloc _
    have i1 : Is W1 (w.heap.size + 1) 28 #[.int .i64 0, .int .i64 0, .slice none 0 0, .int .i64 0, .int .i64 0] := by rw [hW1]; exact Is.alloc (heap_alloc2_new w _ _) _
    have iq : Is W1 (w.heap.size + 1 + 1) 28 #[.int .i64 2, .int .i64 0, .slice none 0 0, .int .i64 0, .int .i64 0] := by
      rw [hW1]
      have := Is.new ((w.alloc (.cells #[.int .i64 a, .int .i64 b, .int .i64 c] 23)).alloc (.cells #[.int .i64 0, .int .i64 0, .slice none 0 0, .int .i64 0, .int .i64 0] 28)) 28 #[.int .i64 2, .int .i64 0, .slice none 0 0, .int .i64 0, .int .i64 0]
      simpa using this
    have hz1 : W1.heap.size = w.heap.size + 1 + 1 + 1 := by rw [hW1]; simp
    have hB : Below w.heap.size w W1 := by rw [hW1]; exact (((Below.refl _ _).alloc (Nat.le_refl _) _).alloc (by simp) _).alloc (by simp; omega) _
    have c0 : W1.cell? ⟨w.heap.size + 1 + 1, 0, none⟩ = some (.int .i64 2) := iq.cell 0
    go_enter Try.func12, Try.ntmps12
    go_upto_region 6 with (go_at_call 15; refine (PK.out _).mono ?_; rintro r0 w1 ⟨rfl, rfl⟩)
    rw [← hW1]
    clear hW1 c0
    have IQ := Lib.hid iq
    have I1 := Lib.hid i1
    have HB1 := Lib.hid hB
    have HZ1 := Lib.hid hz1
    clear iq i1 hB hz1 iN
    go_wp2
    go_loopw [8] (fun i wr => ∃ (j : Nat) (A' : Option Addr) (c' : Nat), j ≤ R.length ∧ j ≤ 12 ∧ i = .int .i64 (j : Int) ∧ Is wr (w.heap.size + 1 + 1) 28 #[.int .i64 2, .int .i64 0, .slice A' j c', .int .i64 0, .int .i64 0] ∧ Is wr (w.heap.size + 1) 28 #[.int .i64 0, .int .i64 0, .slice none 0 0, .int .i64 0, .int .i64 0] ∧ RowV wr (w.heap.size + 1 + 1 + 1) 9 1 A' c' j (tL10 (rspK11 R j)) ∧ Below w.heap.size w wr ∧ w.heap.size + 1 + 1 + 1 ≤ wr.heap.size)
      (fun i _ => 12 - (intOf i).toNat)
    case atStart => exact ⟨0, none, 0, by omega, by omega, rfl, IQ.out, I1.out, RowV.nil _ _ _ _, HB1.out, Nat.le_of_eq HZ1.out.symm⟩
    case round =>
      obtain ⟨j, A', c', hj, hj12, rfl, iq, i1, hrow, hB, hN⟩ := hrel
      by_cases hlt : j < R.length ∧ j < 12
      · obtain ⟨hl1, hl2⟩ := hlt
        have q1 : (j : Int) < (R.length : Int) := by omega
        have q2 : (j : Int) < 12 := by omega
        obtain ⟨x, hx⟩ : ∃ x, R[j]? = some x := ⟨_, List.getElem?_eq_getElem hl1⟩
        obtain ⟨bR, oR, rfl, _, hcell⟩ := (HC.out.keep hB).num11 hx
        have hxb := HBG.out x (List.mem_of_getElem? hx)
        have PX := Lib.hid (fun W => pick11_any x 3 W hxb.1 hxb.2 (by omega) (by omega))
        have QC := Lib.hid (fun W => qcell_any11 x W hxb)
        have HST : Hid (rspK11 R (j + 1) = rspK11 R j ++ [if 0 < pickN x 3 then cell11 x else ⟨#[]⟩]) := Lib.hid (rspK_step11 hx)
        have hpx := pickN_bd x 3 (by omega)
        clear hx hxb
        generalize pickN x 3 = px at *
        by_cases hpz : 0 < px
        · rw [if_pos hpz] at HST
          go_wp2_with (fail)
          refine (PX.out _).mono ?_
          rintro r0 w1 ⟨rfl, rfl⟩
          go_wp2_with (fail)
          refine (QC.out _).mono ?_
          rintro r0 W5 ⟨rfl, hb⟩
          have iqa := iq.below hb iq.lt
          have i1a := i1.below hb i1.lt
          have hrowa := hrow.below hb
          have hBa := hB.trans (hb.mono hB.size)
          have hNa := Nat.le_trans hN hb.size
          clear hb hcell iq i1 hrow hB hN
          have cq : W5.cell? ⟨w.heap.size + 1 + 1, 2, none⟩ = some (.slice A' j c') := iqa.cell 2
          have hrow3 := hrowa.alloc (.cells #[.string (cell11 x)] 9)
          have hB3 := hBa.alloc hBa.size (.cells #[.string (cell11 x)] 9)
          have iX := Is.new W5 9 #[.string (cell11 x)]
          have iq3 := iqa.alloc (.cells #[.string (cell11 x)] 9)
          have i13 := i1a.alloc (.cells #[.string (cell11 x)] 9)
          have hN3 : w.heap.size + 1 + 1 + 1 ≤ (W5.alloc (.cells #[.string (cell11 x)] 9)).heap.size := by simp; omega
          go_wp2_with (at_builtin; refine wpList_pushV rfl _ _ 24 9 t0 (.string ⟨#[]⟩) 1 16 rfl Try.underlying24 hi hz0 hz1 hz2 rfl (by decide) (w.heap.size + 1 + 1 + 1) A' c' j _ hrow3 W5.heap.size 9 #[.string (cell11 x)] iX rfl (fun u hu => by simp only [List.mem_cons, List.not_mem_nil, or_false] at hu; subst hu; rfl) (by unfold maxLen; omega) (by omega) ⟨rfl, rfl⟩ hN3 ?_; intro A3 c3 V3 r3 hg3; have iq4 := hrow3.isFar hg3 iq3 ne_rs11; have i14 := hrow3.isFar hg3 i13 ne_rs11; have fz := iq4.frozen 2; have cz : V3.cell? ⟨w.heap.size + 1 + 1, 2, none⟩ = some (.slice A' j c') := iq4.cell 2; have hB4 := hB3.grown hg3 hB3.size (fun q e2 => by have h7 := (World.ownsRow.lt hrow3 q e2).1; omega); have hN4 := Nat.le_trans hN3 hg3.size)
          have iq5 := iq4.set 2 (.slice A3 (j + 1) c3)
          simp only [List.setIfInBounds_toArray, List.set_cons_succ, List.set_cons_zero] at iq5
          have i15 := i14.far (p := ⟨w.heap.size + 1 + 1, 2, none⟩) (show w.heap.size + 1 ≠ w.heap.size + 1 + 1 by omega) (.slice A3 (j + 1) c3)
          have r5 := r3.far (p := ⟨w.heap.size + 1 + 1, 2, none⟩) iq4 ne_rs11 (.slice A3 (j + 1) c3)
          have hB5 := hB4.setCell (p := ⟨w.heap.size + 1 + 1, 2, none⟩) (show w.heap.size ≤ w.heap.size + 1 + 1 by omega) (.slice A3 (j + 1) c3)
          have hN5 : w.heap.size + 1 + 1 + 1 ≤ (V3.setCell ⟨w.heap.size + 1 + 1, 2, none⟩ (.slice A3 (j + 1) c3)).heap.size := by simpa [World.setCell] using hN4
          go_roundw
          case rel => exact ⟨j + 1, A3, c3, by omega, by omega, by go_num, iq5, i15, by rw [HST.out, tL10, List.map_append]; exact r5, hB5, hN5⟩
          case measure => simp [intOf]; omega
        · rw [if_neg hpz] at HST
          have hpz2 : px = 0 := by omega
          subst hpz2
          go_wp2_with (fail)
          refine (PX.out _).mono ?_
          rintro r0 w1 ⟨rfl, rfl⟩
          have cq : wr.cell? ⟨w.heap.size + 1 + 1, 2, none⟩ = some (.slice A' j c') := iq.cell 2
          have hrow3 := hrow.alloc (.cells #[.string ⟨#[]⟩] 9)
          have hB3 := hB.alloc hB.size (.cells #[.string ⟨#[]⟩] 9)
          have iX := Is.new wr 9 #[.string ⟨#[]⟩]
          have iq3 := iq.alloc (.cells #[.string ⟨#[]⟩] 9)
          have i13 := i1.alloc (.cells #[.string ⟨#[]⟩] 9)
          have hN3 : w.heap.size + 1 + 1 + 1 ≤ (wr.alloc (.cells #[.string ⟨#[]⟩] 9)).heap.size := by simp; omega
          go_wp2_with (at_builtin; refine wpList_pushV rfl _ _ 24 9 t0 (.string ⟨#[]⟩) 1 16 rfl Try.underlying24 hi hz0 hz1 hz2 rfl (by decide) (w.heap.size + 1 + 1 + 1) A' c' j _ hrow3 wr.heap.size 9 #[.string ⟨#[]⟩] iX rfl (fun u hu => by simp only [List.mem_cons, List.not_mem_nil, or_false] at hu; subst hu; rfl) (by unfold maxLen; omega) (by omega) ⟨rfl, rfl⟩ hN3 ?_; intro A3 c3 V3 r3 hg3; have iq4 := hrow3.isFar hg3 iq3 ne_rs11; have i14 := hrow3.isFar hg3 i13 ne_rs11; have fz := iq4.frozen 2; have cz : V3.cell? ⟨w.heap.size + 1 + 1, 2, none⟩ = some (.slice A' j c') := iq4.cell 2; have hB4 := hB3.grown hg3 hB3.size (fun q e2 => by have h7 := (World.ownsRow.lt hrow3 q e2).1; omega); have hN4 := Nat.le_trans hN3 hg3.size)
          have iq5 := iq4.set 2 (.slice A3 (j + 1) c3)
          simp only [List.setIfInBounds_toArray, List.set_cons_succ, List.set_cons_zero] at iq5
          have i15 := i14.far (p := ⟨w.heap.size + 1 + 1, 2, none⟩) (show w.heap.size + 1 ≠ w.heap.size + 1 + 1 by omega) (.slice A3 (j + 1) c3)
          have r5 := r3.far (p := ⟨w.heap.size + 1 + 1, 2, none⟩) iq4 ne_rs11 (.slice A3 (j + 1) c3)
          have hB5 := hB4.setCell (p := ⟨w.heap.size + 1 + 1, 2, none⟩) (show w.heap.size ≤ w.heap.size + 1 + 1 by omega) (.slice A3 (j + 1) c3)
          have hN5 : w.heap.size + 1 + 1 + 1 ≤ (V3.setCell ⟨w.heap.size + 1 + 1, 2, none⟩ (.slice A3 (j + 1) c3)).heap.size := by simpa [World.setCell] using hN4
          go_roundw
          case rel => exact ⟨j + 1, A3, c3, by omega, by omega, by go_num, iq5, i15, by rw [HST.out, tL10, List.map_append]; exact r5, hB5, hN5⟩
          case measure => simp [intOf]; omega
      · have e1 := rspK_end11 hj hj12 hlt
        have hl9 : (rspK11 R 12).length = j := by rw [← e1]; exact rspK_len11 hj
        have hrow4 := hrow
        rw [e1] at hrow4
        have HR4 := Lib.hid hrow4
        have HE := Lib.hid hl9
        clear e1 hrow4 hrow hl9
        have HLS : InV (wr.setRow (w.heap.size + 1) #[.int .i64 2, .int .i64 0, .slice A' j c', .int .i64 0, .int .i64 0]) A' (tL10 (rspK11 R 12)) := (HR4.out.rowFar i1 ne_rs11 _).inV
        by_cases hl1 : j < R.length
        · have q1 : (j : Int) < (R.length : Int) := by omega
          have q2 : ¬ (j : Int) < 12 := by omega
          clear hlt
          go_upto_region 18 with (fail)
          refine wp_region_list ?_
          refine wpList_load_row rfl 28 _ rfl (w.heap.size + 1 + 1) rfl _ _ _ _ iq Try.underlying28 rfl infoRsp11 ?_
          go_wp2_with (refine wpList_store_row rfl 28 _ _ rfl (w.heap.size + 1) #[.int .i64 2, .int .i64 0, .slice A' j c', .int .i64 0, .int .i64 0] rfl rfl _ _ i1 infoRsp11 rfl (by rw [← Array.all_toList]; rfl) ?_)
          exact bodyPost_ret (results_cell_row Try.results12 _ _ (w.heap.size + 1) 28 _ (0, 0) _ rfl (i1.row #[.int .i64 2, .int .i64 0, .slice A' j c', .int .i64 0, .int .i64 0]) Try.underlying28 rfl infoRsp11) rfl (rsp_post11 A' c' (by rw [HD.out, HE.out]) (by rw [HD.out]; exact HLS) (belowRow hB (by omega) #[.int .i64 2, .int .i64 0, .slice A' j c', .int .i64 0, .int .i64 0]))
        · have q1 : ¬ (j : Int) < (R.length : Int) := by omega
          clear hlt
          go_upto_region 18 with (fail)
          refine wp_region_list ?_
          refine wpList_load_row rfl 28 _ rfl (w.heap.size + 1 + 1) rfl _ _ _ _ iq Try.underlying28 rfl infoRsp11 ?_
          go_wp2_with (refine wpList_store_row rfl 28 _ _ rfl (w.heap.size + 1) #[.int .i64 2, .int .i64 0, .slice A' j c', .int .i64 0, .int .i64 0] rfl rfl _ _ i1 infoRsp11 rfl (by rw [← Array.all_toList]; rfl) ?_)
          exact bodyPost_ret (results_cell_row Try.results12 _ _ (w.heap.size + 1) 28 _ (0, 0) _ rfl (i1.row #[.int .i64 2, .int .i64 0, .slice A' j c', .int .i64 0, .int .i64 0]) Try.underlying28 rfl infoRsp11) rfl (rsp_post11 A' c' (by rw [HD.out, HE.out]) (by rw [HD.out]; exact HLS) (belowRow hB (by omega) #[.int .i64 2, .int .i64 0, .slice A' j c', .int .i64 0, .int .i64 0]))
  by_cases h3 : p = 3
  · subst h3
    rw [if_neg (by decide), if_neg (by decide), if_pos rfl] at HD
    obtain ⟨W1, hW1⟩ : ∃ W1, W1 = ((w.alloc (.cells #[.int .i64 a, .int .i64 b, .int .i64 c] 23)).alloc (.cells #[.int .i64 0, .int .i64 0, .slice none 0 0, .int .i64 0, .int .i64 0] 28)).alloc (.cells #[.int .i64 3, .int .i64 0, .slice none 0 0, .int .i64 0, .int .i64 0] 28) := ⟨_, rfl⟩
    have iN : Is W1 w.heap.size 23 #[.int .i64 a, .int .i64 b, .int .i64 c] := by rw [hW1]; exact ((Is.new _ _ _).alloc _).alloc _
    have i1 : Is W1 (w.heap.size + 1) 28 #[.int .i64 0, .int .i64 0, .slice none 0 0, .int .i64 0, .int .i64 0] := by rw [hW1]; exact Is.alloc (heap_alloc2_new w _ _) _
    have iq : Is W1 (w.heap.size + 1 + 1) 28 #[.int .i64 3, .int .i64 0, .slice none 0 0, .int .i64 0, .int .i64 0] := by
      rw [hW1]
      have := Is.new ((w.alloc (.cells #[.int .i64 a, .int .i64 b, .int .i64 c] 23)).alloc (.cells #[.int .i64 0, .int .i64 0, .slice none 0 0, .int .i64 0, .int .i64 0] 28)) 28 #[.int .i64 3, .int .i64 0, .slice none 0 0, .int .i64 0, .int .i64 0]
      simpa using this
    have hz1 : W1.heap.size = w.heap.size + 1 + 1 + 1 := by rw [hW1]; simp
    have hB : Below w.heap.size w W1 := by rw [hW1]; exact (((Below.refl _ _).alloc (Nat.le_refl _) _).alloc (by simp) _).alloc (by simp; omega) _
    have c0 : W1.cell? ⟨w.heap.size + 1 + 1, 0, none⟩ = some (.int .i64 3) := iq.cell 0
    have n0 : W1.cell? ⟨w.heap.size, 1, none⟩ = some (.int .i64 b) := iN.cell 1
    go_enter Try.func12, Try.ntmps12
    go_wp2_with (fail)
    refine (PK.out _).mono ?_
    rintro r0 w1 ⟨rfl, rfl⟩
    go_wp2_with (fail)
    rw [← hW1]
    clear hW1
    refine (PB.out _).mono ?_
    rintro r0 w1 ⟨rfl, rfl⟩
    have fz0 := iq.frozen 3
    have cz0 := iq.cell 3
    have iq2 := iq.set 3 (.int .i64 pb)
    have i12 := i1.far (p := ⟨w.heap.size + 1 + 1, 3, none⟩) (show w.heap.size + 1 ≠ w.heap.size + 1 + 1 by omega) (.int .i64 pb)
    have hB2 := hB.setCell (p := ⟨w.heap.size + 1 + 1, 3, none⟩) (show w.heap.size ≤ w.heap.size + 1 + 1 by omega) (.int .i64 pb)
    simp only [List.setIfInBounds_toArray, List.set_cons_succ, List.set_cons_zero] at iq2
    go_upto_region 18 with (fail)
    refine wp_region_list ?_
    refine wpList_load_row rfl 28 _ rfl (w.heap.size + 1 + 1) rfl _ _ _ _ iq2 Try.underlying28 rfl infoRsp11 ?_
    go_wp2_with (refine wpList_store_row rfl 28 _ _ rfl (w.heap.size + 1) #[.int .i64 3, .int .i64 0, .slice none 0 0, .int .i64 pb, .int .i64 0] rfl rfl _ _ i12 infoRsp11 rfl (by rw [← Array.all_toList]; rfl) ?_)
    exact bodyPost_ret (results_cell_row Try.results12 _ _ (w.heap.size + 1) 28 _ (0, 0) _ rfl (i12.row #[.int .i64 3, .int .i64 0, .slice none 0 0, .int .i64 pb, .int .i64 0]) Try.underlying28 rfl infoRsp11) rfl (rsp_post11 none 0 (by rw [HD.out]; rfl) (by rw [HD.out]; exact HNIL.out _) (belowRow hB2 (by omega) #[.int .i64 3, .int .i64 0, .slice none 0 0, .int .i64 pb, .int .i64 0]))
  obtain rfl : p = 4 := by omega
  rw [if_neg (by decide), if_neg (by decide), if_neg (by decide), if_pos rfl] at HD
  obtain ⟨W1, hW1⟩ : ∃ W1, W1 = ((w.alloc (.cells #[.int .i64 a, .int .i64 b, .int .i64 c] 23)).alloc (.cells #[.int .i64 0, .int .i64 0, .slice none 0 0, .int .i64 0, .int .i64 0] 28)).alloc (.cells #[.int .i64 4, .int .i64 0, .slice none 0 0, .int .i64 0, .int .i64 0] 28) := ⟨_, rfl⟩
  have iN : Is W1 w.heap.size 23 #[.int .i64 a, .int .i64 b, .int .i64 c] := by rw [hW1]; exact ((Is.new _ _ _).alloc _).alloc _
  have i1 : Is W1 (w.heap.size + 1) 28 #[.int .i64 0, .int .i64 0, .slice none 0 0, .int .i64 0, .int .i64 0] := by rw [hW1]; exact Is.alloc (heap_alloc2_new w _ _) _
  have iq : Is W1 (w.heap.size + 1 + 1) 28 #[.int .i64 4, .int .i64 0, .slice none 0 0, .int .i64 0, .int .i64 0] := by
    rw [hW1]
    have := Is.new ((w.alloc (.cells #[.int .i64 a, .int .i64 b, .int .i64 c] 23)).alloc (.cells #[.int .i64 0, .int .i64 0, .slice none 0 0, .int .i64 0, .int .i64 0] 28)) 28 #[.int .i64 4, .int .i64 0, .slice none 0 0, .int .i64 0, .int .i64 0]
    simpa using this
  have hz1 : W1.heap.size = w.heap.size + 1 + 1 + 1 := by rw [hW1]; simp
  have hB : Below w.heap.size w W1 := by rw [hW1]; exact (((Below.refl _ _).alloc (Nat.le_refl _) _).alloc (by simp) _).alloc (by simp; omega) _
  have c0 : W1.cell? ⟨w.heap.size + 1 + 1, 0, none⟩ = some (.int .i64 4) := iq.cell 0
  have n0 : W1.cell? ⟨w.heap.size, 1, none⟩ = some (.int .i64 b) := iN.cell 1
  have n1 : W1.cell? ⟨w.heap.size, 2, none⟩ = some (.int .i64 c) := iN.cell 2
  go_enter Try.func12, Try.ntmps12
  go_wp2_with (fail)
  refine (PK.out _).mono ?_
  rintro r0 w1 ⟨rfl, rfl⟩
  go_wp2_with (fail)
  rw [← hW1]
  clear hW1
  refine (PB.out _).mono ?_
  rintro r0 w1 ⟨rfl, rfl⟩
  have fz0 := iq.frozen 3
  have cz0 := iq.cell 3
  have iq2 := iq.set 3 (.int .i64 pb)
  have i12 := i1.far (p := ⟨w.heap.size + 1 + 1, 3, none⟩) (show w.heap.size + 1 ≠ w.heap.size + 1 + 1 by omega) (.int .i64 pb)
  have hB2 := hB.setCell (p := ⟨w.heap.size + 1 + 1, 3, none⟩) (show w.heap.size ≤ w.heap.size + 1 + 1 by omega) (.int .i64 pb)
  simp only [List.setIfInBounds_toArray, List.set_cons_succ, List.set_cons_zero] at iq2
  have m0 : (W1.setCell ⟨w.heap.size + 1 + 1, 3, none⟩ (.int .i64 pb)).cell? ⟨w.heap.size, 2, none⟩ = some (.int .i64 c) := (iN.far (p := ⟨w.heap.size + 1 + 1, 3, none⟩) (show w.heap.size ≠ w.heap.size + 1 + 1 by omega) _).cell 2
  go_wp2_with (fail)
  refine (PC.out _).mono ?_
  rintro r0 w1 ⟨rfl, rfl⟩
  have fz1 := iq2.frozen 4
  have cz1 := iq2.cell 4
  have iq22 := iq2.set 4 (.int .i64 pc)
  have i122 := i12.far (p := ⟨w.heap.size + 1 + 1, 4, none⟩) (show w.heap.size + 1 ≠ w.heap.size + 1 + 1 by omega) (.int .i64 pc)
  have hB22 := hB2.setCell (p := ⟨w.heap.size + 1 + 1, 4, none⟩) (show w.heap.size ≤ w.heap.size + 1 + 1 by omega) (.int .i64 pc)
  simp only [List.setIfInBounds_toArray, List.set_cons_succ, List.set_cons_zero] at iq22
  go_upto_region 18 with (fail)
  refine wp_region_list ?_
  refine wpList_load_row rfl 28 _ rfl (w.heap.size + 1 + 1) rfl _ _ _ _ iq22 Try.underlying28 rfl infoRsp11 ?_
  go_wp2_with (refine wpList_store_row rfl 28 _ _ rfl (w.heap.size + 1) #[.int .i64 4, .int .i64 0, .slice none 0 0, .int .i64 pb, .int .i64 pc] rfl rfl _ _ i122 infoRsp11 rfl (by rw [← Array.all_toList]; rfl) ?_)
  exact bodyPost_ret (results_cell_row Try.results12 _ _ (w.heap.size + 1) 28 _ (0, 0) _ rfl (i122.row #[.int .i64 4, .int .i64 0, .slice none 0 0, .int .i64 pb, .int .i64 pc]) Try.underlying28 rfl infoRsp11) rfl (rsp_post11 none 0 (by rw [HD.out]; rfl) (by rw [HD.out]; exact HNIL.out _) (belowRow hB22 (by omega) #[.int .i64 4, .int .i64 0, .slice none 0 0, .int .i64 pb, .int .i64 pc]))
end Go.Proofs.Ytapfbcpbiagogaa
