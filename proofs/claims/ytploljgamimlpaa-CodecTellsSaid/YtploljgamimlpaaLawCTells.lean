/-
  CodecTells: the walk of the statement's function.
-/
import Derived.Test.YtploljgamimlpaaCTlS
import Derived.Test.YtploljgamimlpaaCTlE
import Derived.Test.YtploljgamimlpaaLawCOne
import Derived.Lib.MinMax
namespace Go.Proofs.Ytploljgamimlpaa
open Go.RowKit Go.Shelf

theorem few_dlist10 (A : Option Addr) (c : Nat) (l : List ByteArray) (n : Nat) (W : World) (h : Lst10 n W A (fewL10 l)) :
    Calls Try.prog 15 #[.slice A (fewL10 l).length c] W fun e w' => e = .returned (.tuple #[.string (lst10 (fewL10 l)), .int .i64 0]) ∧ Below W.heap.size W w' := by
  have h1 := few_len10 l
  have h2 := few_sz10 l
  have h3 := cat_few10 h1 h2
  have h4 := dlist_any10 A c (fewL10 l) W (fun s hs => by have := h2 s hs; omega) h.at'
  rw [lstR_ok10 (by omega) (by omega)] at h4
  exact h4
theorem seven_at10 {W : World} {DD : Nat} {x0 x1 x2 x3 x4 x5 x6 : ByteArray} {a0 a1 a2 a3 a4 a5 a6 : Int} (h : Is W DD 24 #[.string x0, .int .i64 a0, .string x1, .int .i64 a1, .string x2, .int .i64 a2, .string x3, .int .i64 a3, .string x4, .int .i64 a4, .string x5, .int .i64 a5, .string x6, .int .i64 a6]) {j : Nat} (hj : j < 7) :
    ∃ B a, W.rangeAt DD (j * 2) [.string B, .int .i64 a] := by
  match j, hj with
  | 0, _ => exact ⟨x0, a0, World.rangeAt_of_block h 0 2⟩
  | 1, _ => exact ⟨x1, a1, World.rangeAt_of_block h 2 2⟩
  | 2, _ => exact ⟨x2, a2, World.rangeAt_of_block h 4 2⟩
  | 3, _ => exact ⟨x3, a3, World.rangeAt_of_block h 6 2⟩
  | 4, _ => exact ⟨x4, a4, World.rangeAt_of_block h 8 2⟩
  | 5, _ => exact ⟨x5, a5, World.rangeAt_of_block h 10 2⟩
  | 6, _ => exact ⟨x6, a6, World.rangeAt_of_block h 12 2⟩
theorem tl_few10 (B : ByteArray) (a : Int) : (tlV10 B a).1.length ≤ 1000 := by
  by_cases h : (tlV10 B a).2.2 = 0
  · exact (tl_ok10 h).few
  · rw [tl_keep10 h]; show 0 ≤ 1000; omega

set_option maxRecDepth 100000 in
set_option maxHeartbeats 16000000 in
theorem ctells_walk (n : Int) (A : Option Addr) (cap : Nat) (l : List ByteArray) (OB : ByteArray) (OA at_ : Int) (more : ByteArray) (w : World) (hn : -9223372036854775808 ≤ n ∧ n ≤ 9223372036854775807) (hl : l.length ≤ maxLen) (hc : InV w A (tL10 l)) (hOB : OB.size ≤ maxLen) (_hOA : -9223372036854775808 ≤ OA ∧ OA ≤ 9223372036854775807) (ha : -9223372036854775808 ≤ at_ ∧ at_ ≤ 9223372036854775807) (_hm : more.size ≤ maxLen) :
    Calls Try.prog 3 #[.int .i64 n, .slice A l.length cap, .agg #[.string OB, .int .i64 OA], .int .i64 at_, .string more] w fun e w' => e = .returned (.bool true) ∧ Below w.heap.size w w' := by
  unfold maxLen at hOB hl
  have HC := Lib.hid hc
  have AW := Lib.hid awake10_any
  have PN := Lib.hid (fun W => pick10_any n 2147483648 W hn.1 hn.2 (by omega) (by omega))
  generalize pickN n 2147483648 = kn at *
  have FW := Lib.hid (fun W h => few_any10 A cap l W (by omega) h)
  have FL := Lib.hid (fun A c n W h => few_list10 A c l n W h)
  have FD := Lib.hid (fun A c n W h => few_dlist10 A c l n W h)
  have hls := cat_few10 (few_len10 l) (few_sz10 l)
  generalize fewL10 l = f at *
  generalize lst10 f = t at *
  have PK := Lib.hid (fun W => pick10_any at_ ((t.size : Int) + 1) W ha.1 ha.2 (by omega) (by omega))
  have hk := pickN_bd at_ ((t.size : Int) + 1) (by omega)
  generalize pickN at_ ((t.size : Int) + 1) = k at *
  have W1I := Lib.hid (IntWalk.i64_in ((t.size : Int) + 1) (by omega))
  have HM := Lib.hid (show ∀ wx : World, (Instr.slice 9 (.string more) none (some (.int .i64 (min (more.size : Int) 60))) none).run Try.prog wx = .ok (.string (cut10 60 more)) wx from fun wx => run_cut10 60 more wx)
  have H1 := Lib.hid (run_high10 t k (by omega) (by omega))
  have H2 := Lib.hid (run_low10 t k (by omega) (by omega))
  have zm := cut_size10 60 more
  have z1 := ex_size10 (s := t) (a := 0) (b := k.toNat) (by omega)
  have z2 := ex_size10 (s := t) (a := k.toNat) (b := t.size) (Nat.le_refl _)
  generalize cut10 60 more = m at *
  generalize t.extract 0 k.toNat = t1 at *
  generalize t.extract k.toNat t.size = t2 at *
  have z3 := ByteArray.size_append (a := t1) (b := m)
  have HQ1 := Lib.hid (show ¬ 9223372036854775807 < t1.size + m.size by omega)
  have HQ2 := Lib.hid (show ¬ 9223372036854775807 < (t1 ++ m).size + t2.size by omega)
  have HQ3 := Lib.hid (show ¬ 9223372036854775807 < t1.size + m.size + t2.size by omega)
  have HQ4 := Lib.hid (show ¬ 9223372036854775807 < m.size + t.size by omega)
  have tx := fun W => txt_any10 m W
  have td := fun W => dtxt_any10 m W
  simp only [txtR10] at tx td
  generalize txtV10 m = V at *
  obtain ⟨xt, et⟩ := V
  simp only at tx td
  have TX := Lib.hid tx
  have TD := Lib.hid td
  have HX := Lib.hid (show ∀ j, j < 2 → ∃ v : Int, (#[.int .i64 n, .int .i64 kn] : Array Value)[j]? = some (.int .i64 v) from fun j hj => by
    match j, hj with
    | 0, _ => exact ⟨n, rfl⟩
    | 1, _ => exact ⟨kn, rfl⟩)
  clear tx td hc hn hl hls hk ha zm z1 z2 z3
  have iO := Is.new w 24 #[.string OB, .int .i64 OA]
  have hB0 : Below w.heap.size w (w.alloc (.cells #[.string OB, .int .i64 OA] 24)) := (Below.refl _ _).alloc (Nat.le_refl _) _
  go_enter Try.func3, Try.ntmps3
  go_wp2_with fail
  refine (AW.out _).mono ?_
  rintro e W1 ⟨rfl, hb⟩
  have iO1 := iO.below hb iO.lt
  have hB1 := hB0.trans (hb.mono hB0.size)
  clear hb hB0 iO
  go_wp2_with fail
  refine (PN.out _).mono ?_
  rintro e w' ⟨rfl, rfl⟩
  have iN2 := Is.new W1 3 #[.int .i64 n, .int .i64 kn]
  have iO2 := iO1.alloc (.cells #[.int .i64 n, .int .i64 kn] 3)
  have hB2 := hB1.alloc hB1.size (.cells #[.int .i64 n, .int .i64 kn] 3)
  clear iO1 hB1
  go_wp2
  generalize W1.alloc (.cells #[.int .i64 n, .int .i64 kn] 3) = W2 at *
  generalize W1.heap.size = DN at *
  go_loopw [45] (fun i wr => ∃ j : Nat, j ≤ 2 ∧ i = .int .i64 (j : Int) ∧ Is wr DN 3 #[.int .i64 n, .int .i64 kn] ∧ Is wr w.heap.size 24 #[.string OB, .int .i64 OA] ∧ Below w.heap.size w wr)
    (fun i _ => 2 - (intOf i).toNat)
  case atStart => exact ⟨0, by omega, rfl, iN2, iO2, hB2⟩
  case round =>
    clear iN2 iO2 hB2
    obtain ⟨j, hj, rfl, iN, iO, hB⟩ := hrel
    by_cases hlt : j < 2
    · have q1 : (j : Int) < 2 := by omega
      obtain ⟨v, hx⟩ := HX.out j hlt
      have cX : wr.cell? ⟨DN, j, none⟩ = some (.int .i64 v) := by rw [iN.cell j]; exact hx
      have nm := fun W => num_any10 v W
      have dm := fun W => dnum_any10 v W
      simp only [numR10] at nm dm
      generalize numV10 v = V at *
      obtain ⟨xn, en⟩ := V
      simp only at nm dm
      have NM := Lib.hid nm
      have DM := Lib.hid dm
      clear nm dm hx
      go_wp2_with fail
      clear cX
      refine (NM.out _).mono ?_
      rintro e W5 ⟨rfl, hb⟩
      have iN5 := iN.below hb iN.lt
      have iO5 := iO.below hb iO.lt
      have hB5 := hB.trans (hb.mono hB.size)
      clear hb iN iO hB
      go_wp2_with fail
      refine (DM.out _).mono ?_
      rintro e W6 ⟨rfl, hb⟩
      have iN6 := iN5.below hb iN5.lt
      have iO6 := iO5.below hb iO5.lt
      have hB6 := hB5.trans (hb.mono hB5.size)
      clear hb iN5 iO5 hB5
      go_wp2
      go_roundw
      case rel => exact ⟨j + 1, by omega, by go_num, iN6, iO6, hB6⟩
      case measure => simp [intOf]; omega
    · have q1 : ¬ (j : Int) < 2 := by omega
      have HCW := Lib.hid (HC.out.keep hB)
      clear iN HX PN HC
      go_wp2_with fail
      refine (FW.out _ HCW.out).mono ?_
      rintro e W2 ⟨A4, c4, rfl, hL2, hb⟩
      have iO2 := iO.below hb iO.lt
      have hB2 := hB.trans (hb.mono hB.size)
      clear hb hB iO q1 HCW
      go_wp2_with fail
      refine (FL.out _ _ _ _ hL2).mono ?_
      rintro e W3 ⟨rfl, hb⟩
      have hL3 := hL2.below hb
      have iO3 := iO2.below hb iO2.lt
      have hB3 := hB2.trans (hb.mono hB2.size)
      clear hb hB2 iO2 hL2
      go_wp2_with fail
      refine (FD.out _ _ _ _ hL3).mono ?_
      rintro e W4 ⟨rfl, hb⟩
      have iO4 := iO3.below hb iO3.lt
      have hB4 := hB3.trans (hb.mono hB3.size)
      have hsm := HM.out
      clear hb hB3 iO3 hL3
      go_wp2_with fail
      clear hsm
      refine (TX.out _).mono ?_
      rintro e W5 ⟨rfl, hb⟩
      have iO5 := iO4.below hb iO4.lt
      have hB5 := hB4.trans (hb.mono hB4.size)
      clear hb hB4 iO4
      go_wp2_with fail
      refine (TD.out _).mono ?_
      rintro e W6 ⟨rfl, hb⟩
      have iO6 := iO5.below hb iO5.lt
      have hB6 := hB5.trans (hb.mono hB5.size)
      have o0 : W6.cell? ⟨w.heap.size, 0, none⟩ = some (.string OB) := iO6.cell 0
      clear hb hB5 iO5
      by_cases hz : 500 < OB.size
      · have hz1 : (500 : Int) < (OB.size : Int) := by omega
        go_wp2
        go_ret
        exact ⟨rfl, hB6⟩
      have hz1 : ¬ (500 : Int) < (OB.size : Int) := by omega
      have w1i := W1I.out
      go_wp2_with fail
      clear o0 hz hz1 w1i
      refine (PK.out _).mono ?_
      rintro e w' ⟨rfl, rfl⟩
      rename ∀ (a : Act) (w : World), Code.wp _ _ _ a w → _ => hK0
      have HK0 := Lib.hid hK0
      clear hK0
      go_wp2_with fail
      refine HK0.out _ _ ?_
      clear HK0
      refine wp_seq (wp_seq (Code.wp_mono ?_ (tells10_seven _ w.heap.size t m t1 t2 OB k OA iO6 H1 H2 HQ1 HQ2 HQ3 HQ4 _ _ _ _ _ _ _ _ _ _ _ _ _ _ _ _ _ _ _ _ _ _ _ _ _ _ _ _ _ _ _ _ _ _ _ _ _ _ _ _ _ _ _ _ _ _ _ _ _ _ _ _ _ _ _ _ _ _ _ _ _ _ _ _ _ _ _ _ _ _ _ _ _ _ _ _ _ _ _ _ _ _ _ _ _ _ _ _ _ _ _ _ _ _ _ _ _ _ _ _ _ _ _ _ _ _ _ _ _ _ _ _ _ _ _ _ _ _ _ _ _ _ _ _ _ _ _ _ _ _ _ _ _ _ _ _ _ _ _ _ _ _ _ _ _ _ _ _ _ _ _ _ _ _ _ _ _ _ _ _ _ _ _ _ _ _ _ _ _ _ _ _ _ _ _ _ _ _ _ _ _ _ _ _ _ _ _ _ _ _ _ _ _ _ _ _ _ _ _ _ _ _ _ _ _ _ _ _ _ _ _ _ _ _ _ _ _ _ _ _ _ _ _ _ _ _ _ _ _ _ _ _ _ _ _ _ _ _ _ _ _ _ _ _ _ _ _ _)))
      rintro e YY W7 ⟨rfl, hd, DD, hT0, hb, iO7, hDD, iD7⟩
      obtain ⟨T0, Dd⟩ := YY
      subst hT0
      obtain rfl : Dd = [] := hd
      have hB7 := hB6.trans (hb.mono hB6.size)
      have hDw : w.heap.size ≤ DD := by have := hB6.size; omega
      clear hb hB6 iO6 iO7 hDD H1 H2 HQ1 HQ2 HQ3 HQ4 PK FW FL FD TX TD HM
      go_wp2
      go_loopw [163] (fun i wr => ∃ j : Nat, j ≤ 7 ∧ i = .int .i64 (j : Int) ∧ Is wr DD 24 #[.string OB, .int .i64 OA, .string t, .int .i64 0, .string t, .int .i64 k, .string t1, .int .i64 0, .string (t1 ++ m ++ t2), .int .i64 0, .string (m ++ t), .int .i64 (m.size : Int), .string m, .int .i64 0] ∧ Below w.heap.size w wr)
        (fun i _ => 7 - (intOf i).toNat)
      case atStart => exact ⟨0, by omega, rfl, iD7, hB7⟩
      case round =>
        clear iD7 hB7
        obtain ⟨j, hj, rfl, iD, hB⟩ := hrel
        by_cases hlt : j < 7
        · have q1 : (j : Int) < 7 := by omega
          obtain ⟨B, a, hr⟩ := seven_at10 iD hlt
          have cn := fun W => cn_any10 B a W
          have dn := fun W => dn_any10 B a W
          simp only [tnR10] at cn dn
          generalize tnV10 B a = V at *
          obtain ⟨nv, p1, e1⟩ := V
          simp only at cn dn
          have ct := fun W => ct_any10 B a W
          have dt := fun W => dt_any10 B a W
          simp only [ttR10] at ct dt
          generalize ttV10 B a = V at *
          obtain ⟨tv, p2, e2⟩ := V
          simp only at ct dt
          have hfew := tl_few10 B a
          have cl := fun W => cl_any10 B a W
          have dl := fun W => dl_any10 B a W
          simp only [tlR10] at cl dl
          generalize tlV10 B a = V at *
          obtain ⟨lv, p3, e3⟩ := V
          simp only at cl dl hfew
          have ce := fun W => cend_any10 B a W
          have de := fun W => dend_any10 B a W
          generalize endV10 B a = ev at *
          have CN := Lib.hid cn
          have DN := Lib.hid dn
          have CT := Lib.hid ct
          have DT := Lib.hid dt
          have CL := Lib.hid cl
          have DL := Lib.hid dl
          have CE := Lib.hid ce
          have DE := Lib.hid de
          have HFEW := Lib.hid hfew
          clear cn dn ct dt cl dl ce de hfew
          have iD0 := iD.alloc (.cells #[.string B, .int .i64 a] 24)
          have iC0 := Is.new wr 24 #[.string B, .int .i64 a]
          have hB0 := hB.alloc hB.size (.cells #[.string B, .int .i64 a] 24)
          have hDC : DD < wr.heap.size := iD.lt
          have HCw := Lib.hid hB.size
          have d0 : (wr.alloc (.cells #[.string B, .int .i64 a] 24)).cell? ⟨wr.heap.size, 0, none⟩ = some (.string B) := iC0.cell 0
          have d1 : (wr.alloc (.cells #[.string B, .int .i64 a] 24)).cell? ⟨wr.heap.size, 1, none⟩ = some (.int .i64 a) := iC0.cell 1
          clear iD hB
          go_wp2_with (refine wpList_load_mid rfl 24 _ rfl DD (j * 2) rfl _ _ hr Try.underlying24 rfl infoCur10 ?_)
          clear d0 d1 hr
          generalize wr.alloc (.cells #[.string B, .int .i64 a] 24) = V0 at *
          generalize wr.heap.size = bC at *
          have iD := iD0
          have iC := iC0
          have hB := hB0
          clear iD0 iC0 hB0
          refine (CN.out _).mono ?_
          rintro e V1 ⟨rfl, hb⟩
          replace iD := (iD.below hb iD.lt)
          replace iC := (iC.below hb iC.lt)
          replace hB := hB.trans (hb.mono hB.size)
          have hCN : bC < V1.heap.size := iC.lt
          have hDN : DD < V1.heap.size := iD.lt
          have HNw := Lib.hid hB.size
          replace iD := iD.alloc (.cells #[.string B, .int .i64 p1] 24)
          replace iC := iC.alloc (.cells #[.string B, .int .i64 p1] 24)
          have iN := Is.new V1 24 #[.string B, .int .i64 p1]
          replace hB := hB.alloc HNw.out (.cells #[.string B, .int .i64 p1] 24)
          clear hb
          have d0 : (V1.alloc (.cells #[.string B, .int .i64 p1] 24)).cell? ⟨bC, 0, none⟩ = some (.string B) := iC.cell 0
          have d1 : (V1.alloc (.cells #[.string B, .int .i64 p1] 24)).cell? ⟨bC, 1, none⟩ = some (.int .i64 a) := iC.cell 1
          go_wp2_with fail
          clear d0 d1
          generalize V1.alloc (.cells #[.string B, .int .i64 p1] 24) = V2 at *
          generalize V1.heap.size = bN at *
          refine (DN.out _).mono ?_
          rintro e V3 ⟨rfl, hb⟩
          rename ∀ (a : Act) (w : World), Code.wp _ _ _ a w → _ => hK1
          have HK1 := Lib.hid hK1
          clear hK1
          replace iD := (iD.below hb iD.lt)
          replace iC := (iC.below hb iC.lt)
          replace iN := (iN.below hb iN.lt)
          replace hB := hB.trans (hb.mono hB.size)
          have hCU : bC < V3.heap.size := iC.lt
          have hDU : DD < V3.heap.size := iD.lt
          have hNU : bN < V3.heap.size := iN.lt
          have HUw := Lib.hid hB.size
          replace iD := iD.alloc (.cells #[.string B, .int .i64 p1] 24)
          replace iC := iC.alloc (.cells #[.string B, .int .i64 p1] 24)
          replace iN := iN.alloc (.cells #[.string B, .int .i64 p1] 24)
          have iU := Is.new V3 24 #[.string B, .int .i64 p1]
          replace hB := hB.alloc HUw.out (.cells #[.string B, .int .i64 p1] 24)
          clear hb
          go_wp2_with fail
          generalize V3.alloc (.cells #[.string B, .int .i64 p1] 24) = V4 at *
          generalize V3.heap.size = bU at *
          refine HK1.out _ _ ?_
          clear HK1
          refine wp_seq (wp_seq (Code.wp_mono ?_ (tells10_ends _ bC bN bU B a p1 nv e1 ev iC iN iU CE DE _ _ _ _ _ _ _ _ _ _ _ _ _ _ _ _ _ _ _ _ _ _ _ _ _ _ _ _ _ _ _ _ _ _ _ _ _ _ _ _ _ _ _ _ _ _ _ _ _ _ _ _ _ _ _ _ _ _ _ _ _ _ _ _ _ _ _ _ _ _ _ _ _ _ _ _ _ _ _ _ _ _ _ _ _ _ _ _ _ _ _ _ _ _ _ _ _ _ _ _ _ _ _ _ _ _ _ _ _ _ _ _ _ _ _ _ _ _ _ _ _ _ _ _ _ _ _ _ _ _ _ _ _ _ _ _ _ _ _ _ _ _ _ _ _ _ _ _ _ _ _ _ _ _ _ _ _ _ _ _ _ _ _ _ _ _ _ _ _ _ _ _ _ _ _ _ _ _ _ _ _ _ _ _ _ _ _ _ _ _ _ _ _ _ _ _ _ _ _ _ _ _ _ _ _ _ _ _ _ _ _ _ _ _ _ _ _ _ _ _ _ _ _ _ _ _ _ _ _ _ _ _ _ _ _ _ _ _ _ _ _ _ _ _ _)))
          rintro e YY V5 ⟨rfl, hd, _, hT0, hb, jC, jN, jU⟩
          obtain ⟨T0, Dd⟩ := YY
          subst hT0
          obtain rfl : Dd = [] := hd
          replace iD := iD.below hb iD.lt
          replace hB := hB.trans (hb.mono hB.size)
          clear hb iC iN iU
          have iC := jC
          have iN := jN
          have iU := jU
          clear jC jN jU CN DN CE DE
          refine wp_cond_false (by kernel_rfl) (wp_skip ?_)
          have d0 : V5.cell? ⟨bC, 0, none⟩ = some (.string B) := iC.cell 0
          have d1 : V5.cell? ⟨bC, 1, none⟩ = some (.int .i64 a) := iC.cell 1
          go_wp2_with fail
          clear d0 d1
          refine (CT.out _).mono ?_
          rintro e V6 ⟨rfl, hb⟩
          replace iD := iD.below hb iD.lt
          replace iC := iC.below hb iC.lt
          replace iN := iN.below hb iN.lt
          replace iU := iU.below hb iU.lt
          replace hB := hB.trans (hb.mono hB.size)
          clear hb
          have n0 : V6.cell? ⟨bN, 0, none⟩ = some (.string B) := iN.cell 0
          have n1 : V6.cell? ⟨bN, 1, none⟩ = some (.int .i64 p1) := iN.cell 1
          have f0 := iN.frozen 0
          have f1 := iN.frozen 1
          replace iD : Is ((V6.setCell ⟨bN, 0, none⟩ (.string B)).setCell ⟨bN, 1, none⟩ (.int .i64 p2)) DD 24 _ := (iD.far (p := ⟨bN, 0, none⟩) (show DD ≠ bN by omega) _).far (p := ⟨bN, 1, none⟩) (show DD ≠ bN by omega) _
          replace iC : Is ((V6.setCell ⟨bN, 0, none⟩ (.string B)).setCell ⟨bN, 1, none⟩ (.int .i64 p2)) bC 24 _ := (iC.far (p := ⟨bN, 0, none⟩) (show bC ≠ bN by omega) _).far (p := ⟨bN, 1, none⟩) (show bC ≠ bN by omega) _
          replace iU : Is ((V6.setCell ⟨bN, 0, none⟩ (.string B)).setCell ⟨bN, 1, none⟩ (.int .i64 p2)) bU 24 _ := (iU.far (p := ⟨bN, 0, none⟩) (show bU ≠ bN by omega) _).far (p := ⟨bN, 1, none⟩) (show bU ≠ bN by omega) _
          replace iN : Is ((V6.setCell ⟨bN, 0, none⟩ (.string B)).setCell ⟨bN, 1, none⟩ (.int .i64 p2)) bN 24 #[.string B, .int .i64 p2] := (iN.set 0 _).set 1 _
          replace hB : Below w.heap.size w ((V6.setCell ⟨bN, 0, none⟩ (.string B)).setCell ⟨bN, 1, none⟩ (.int .i64 p2)) := (hB.setCell (p := ⟨bN, 0, none⟩) HNw.out _).setCell (p := ⟨bN, 1, none⟩) HNw.out _
          have d0 : ((V6.setCell ⟨bN, 0, none⟩ (.string B)).setCell ⟨bN, 1, none⟩ (.int .i64 p2)).cell? ⟨bC, 0, none⟩ = some (.string B) := iC.cell 0
          have d1 : ((V6.setCell ⟨bN, 0, none⟩ (.string B)).setCell ⟨bN, 1, none⟩ (.int .i64 p2)).cell? ⟨bC, 1, none⟩ = some (.int .i64 a) := iC.cell 1
          go_wp2_with fail
          clear d0 d1 n0 n1 f0 f1
          generalize ((V6.setCell ⟨bN, 0, none⟩ (.string B)).setCell ⟨bN, 1, none⟩ (.int .i64 p2)) = V7 at *
          refine (DT.out _).mono ?_
          rintro e V8 ⟨rfl, hb⟩
          rename ∀ (a : Act) (w : World), Code.wp _ _ _ a w → _ => hK1
          have HK1 := Lib.hid hK1
          clear hK1
          replace iD := iD.below hb iD.lt
          replace iC := iC.below hb iC.lt
          replace iN := iN.below hb iN.lt
          replace iU := iU.below hb iU.lt
          replace hB := hB.trans (hb.mono hB.size)
          clear hb
          have n0 : V8.cell? ⟨bU, 0, none⟩ = some (.string B) := iU.cell 0
          have n1 : V8.cell? ⟨bU, 1, none⟩ = some (.int .i64 p1) := iU.cell 1
          have f0 := iU.frozen 0
          have f1 := iU.frozen 1
          replace iD : Is ((V8.setCell ⟨bU, 0, none⟩ (.string B)).setCell ⟨bU, 1, none⟩ (.int .i64 p2)) DD 24 _ := (iD.far (p := ⟨bU, 0, none⟩) (show DD ≠ bU by omega) _).far (p := ⟨bU, 1, none⟩) (show DD ≠ bU by omega) _
          replace iC : Is ((V8.setCell ⟨bU, 0, none⟩ (.string B)).setCell ⟨bU, 1, none⟩ (.int .i64 p2)) bC 24 _ := (iC.far (p := ⟨bU, 0, none⟩) (show bC ≠ bU by omega) _).far (p := ⟨bU, 1, none⟩) (show bC ≠ bU by omega) _
          replace iN : Is ((V8.setCell ⟨bU, 0, none⟩ (.string B)).setCell ⟨bU, 1, none⟩ (.int .i64 p2)) bN 24 _ := (iN.far (p := ⟨bU, 0, none⟩) (show bN ≠ bU by omega) _).far (p := ⟨bU, 1, none⟩) (show bN ≠ bU by omega) _
          replace iU : Is ((V8.setCell ⟨bU, 0, none⟩ (.string B)).setCell ⟨bU, 1, none⟩ (.int .i64 p2)) bU 24 #[.string B, .int .i64 p2] := (iU.set 0 _).set 1 _
          replace hB : Below w.heap.size w ((V8.setCell ⟨bU, 0, none⟩ (.string B)).setCell ⟨bU, 1, none⟩ (.int .i64 p2)) := (hB.setCell (p := ⟨bU, 0, none⟩) HUw.out _).setCell (p := ⟨bU, 1, none⟩) HUw.out _
          go_wp2_with fail
          clear n0 n1 f0 f1
          generalize ((V8.setCell ⟨bU, 0, none⟩ (.string B)).setCell ⟨bU, 1, none⟩ (.int .i64 p2)) = V9 at *
          refine HK1.out _ _ ?_
          clear HK1
          refine wp_seq (wp_seq (wp_region_list (tells10_text V9 bN bU B tv p2 e2 iN iU _ _ _ _ _ _ _ _ _ _ _ _ _ _ _ _ _ _ _ _ _ _ _ _ _ _ _ _ _ _ _ _ _ _ _ _ _ _ _ _ _ _ _ _ _ _ _ _ _ _ _ _ _ _ _ _ _ _ _ _ _ _ _ _ _ _ _ _ _ _ _ _ _ _ _ _ _ _ _ _ _ _ _ _ _ _ _ _ _ _ _ _ _ _ _ _ _ _ _ _ _ _ _ _ _ _ _ _ _ _ _ _ _ _ _ _ _ _ _ _ _ _ _ _ _ _ _ _ _ _ _ _ _ _ _ _ _ _ _ _ _ _ _ _ _ _ _ _ _ _ _ _ _ _ _ _ _ _ _ _ _ _ _ _ _ _ _ _ _ _ _ _ _ _ _ _ _ _ _ _ _ _ _ _ _ _ _ _ _ _ _ _ _ _ _ _ _ _ _ _ _ _ _ _ _ _ _ _ _ _ _ _ _ _ _ _ _ _ _ _ _ _ _ _ _ _ _ _ _ _ _ _ _ _ _ _ _ _ _ _ _ _ _ _ _ _ _ ?_)))
          refine wp_cond_false (by kernel_rfl) (wp_skip ?_)
          clear CT DT
          have d0 : V9.cell? ⟨bC, 0, none⟩ = some (.string B) := iC.cell 0
          have d1 : V9.cell? ⟨bC, 1, none⟩ = some (.int .i64 a) := iC.cell 1
          go_wp2_with fail
          clear d0 d1
          refine (CL.out _).mono ?_
          rintro e U6 ⟨A1, c1, rfl, hl1, hb⟩
          have hL1 : bU < V9.heap.size := iU.lt
          replace iD := iD.below hb iD.lt
          replace iC := iC.below hb iC.lt
          replace iN := iN.below hb iN.lt
          replace iU := iU.below hb iU.lt
          replace hB := hB.trans (hb.mono hB.size)
          clear hb
          have n0 : U6.cell? ⟨bN, 0, none⟩ = some (.string B) := iN.cell 0
          have n1 : U6.cell? ⟨bN, 1, none⟩ = some (.int .i64 p2) := iN.cell 1
          have f0 := iN.frozen 0
          have f1 := iN.frozen 1
          replace iD : Is ((U6.setCell ⟨bN, 0, none⟩ (.string B)).setCell ⟨bN, 1, none⟩ (.int .i64 p3)) DD 24 _ := (iD.far (p := ⟨bN, 0, none⟩) (show DD ≠ bN by omega) _).far (p := ⟨bN, 1, none⟩) (show DD ≠ bN by omega) _
          replace iC : Is ((U6.setCell ⟨bN, 0, none⟩ (.string B)).setCell ⟨bN, 1, none⟩ (.int .i64 p3)) bC 24 _ := (iC.far (p := ⟨bN, 0, none⟩) (show bC ≠ bN by omega) _).far (p := ⟨bN, 1, none⟩) (show bC ≠ bN by omega) _
          replace iU : Is ((U6.setCell ⟨bN, 0, none⟩ (.string B)).setCell ⟨bN, 1, none⟩ (.int .i64 p3)) bU 24 _ := (iU.far (p := ⟨bN, 0, none⟩) (show bU ≠ bN by omega) _).far (p := ⟨bN, 1, none⟩) (show bU ≠ bN by omega) _
          replace iN : Is ((U6.setCell ⟨bN, 0, none⟩ (.string B)).setCell ⟨bN, 1, none⟩ (.int .i64 p3)) bN 24 #[.string B, .int .i64 p3] := (iN.set 0 _).set 1 _
          replace hl1 := (hl1.far (p := ⟨bN, 0, none⟩) (show bN < V9.heap.size by omega) (.string B)).far (p := ⟨bN, 1, none⟩) (show bN < V9.heap.size by omega) (.int .i64 p3)
          replace hB : Below w.heap.size w ((U6.setCell ⟨bN, 0, none⟩ (.string B)).setCell ⟨bN, 1, none⟩ (.int .i64 p3)) := (hB.setCell (p := ⟨bN, 0, none⟩) HNw.out _).setCell (p := ⟨bN, 1, none⟩) HNw.out _
          have d0 : ((U6.setCell ⟨bN, 0, none⟩ (.string B)).setCell ⟨bN, 1, none⟩ (.int .i64 p3)).cell? ⟨bC, 0, none⟩ = some (.string B) := iC.cell 0
          have d1 : ((U6.setCell ⟨bN, 0, none⟩ (.string B)).setCell ⟨bN, 1, none⟩ (.int .i64 p3)).cell? ⟨bC, 1, none⟩ = some (.int .i64 a) := iC.cell 1
          go_wp2_with fail
          clear d0 d1 n0 n1 f0 f1
          generalize ((U6.setCell ⟨bN, 0, none⟩ (.string B)).setCell ⟨bN, 1, none⟩ (.int .i64 p3)) = U7 at *
          refine (DL.out _).mono ?_
          rintro e U8 ⟨A2, c2, rfl, hl2, hb⟩
          rename ∀ (a : Act) (w : World), Code.wp _ _ _ a w → _ => hK1
          have HK1 := Lib.hid hK1
          clear hK1
          replace hl1 := hl1.below hb
          have hL2 : bU < U7.heap.size := iU.lt
          replace iD := iD.below hb iD.lt
          replace iC := iC.below hb iC.lt
          replace iN := iN.below hb iN.lt
          replace iU := iU.below hb iU.lt
          replace hB := hB.trans (hb.mono hB.size)
          clear hb
          have n0 : U8.cell? ⟨bU, 0, none⟩ = some (.string B) := iU.cell 0
          have n1 : U8.cell? ⟨bU, 1, none⟩ = some (.int .i64 p2) := iU.cell 1
          have f0 := iU.frozen 0
          have f1 := iU.frozen 1
          replace iD : Is ((U8.setCell ⟨bU, 0, none⟩ (.string B)).setCell ⟨bU, 1, none⟩ (.int .i64 p3)) DD 24 _ := (iD.far (p := ⟨bU, 0, none⟩) (show DD ≠ bU by omega) _).far (p := ⟨bU, 1, none⟩) (show DD ≠ bU by omega) _
          replace iC : Is ((U8.setCell ⟨bU, 0, none⟩ (.string B)).setCell ⟨bU, 1, none⟩ (.int .i64 p3)) bC 24 _ := (iC.far (p := ⟨bU, 0, none⟩) (show bC ≠ bU by omega) _).far (p := ⟨bU, 1, none⟩) (show bC ≠ bU by omega) _
          replace iN : Is ((U8.setCell ⟨bU, 0, none⟩ (.string B)).setCell ⟨bU, 1, none⟩ (.int .i64 p3)) bN 24 _ := (iN.far (p := ⟨bU, 0, none⟩) (show bN ≠ bU by omega) _).far (p := ⟨bU, 1, none⟩) (show bN ≠ bU by omega) _
          replace iU : Is ((U8.setCell ⟨bU, 0, none⟩ (.string B)).setCell ⟨bU, 1, none⟩ (.int .i64 p3)) bU 24 #[.string B, .int .i64 p3] := (iU.set 0 _).set 1 _
          replace hl1 := (hl1.far (p := ⟨bU, 0, none⟩) (show bU < V9.heap.size by omega) (.string B)).far (p := ⟨bU, 1, none⟩) (show bU < V9.heap.size by omega) (.int .i64 p3)
          replace hl2 := (hl2.far (p := ⟨bU, 0, none⟩) (show bU < U7.heap.size by omega) (.string B)).far (p := ⟨bU, 1, none⟩) (show bU < U7.heap.size by omega) (.int .i64 p3)
          replace hB : Below w.heap.size w ((U8.setCell ⟨bU, 0, none⟩ (.string B)).setCell ⟨bU, 1, none⟩ (.int .i64 p3)) := (hB.setCell (p := ⟨bU, 0, none⟩) HUw.out _).setCell (p := ⟨bU, 1, none⟩) HUw.out _
          go_wp2_with fail
          clear n0 n1 f0 f1
          generalize ((U8.setCell ⟨bU, 0, none⟩ (.string B)).setCell ⟨bU, 1, none⟩ (.int .i64 p3)) = U9 at *
          refine HK1.out _ _ ?_
          clear HK1
          refine wp_seq (wp_region_list (tells10_list U9 bN bU B p3 e3 lv.length c1 c2 A1 A2 iN iU (texts_same10 A1 A2 c1 c2 lv U9 HFEW.out hl1.at' hl2.at') _ _ _ _ _ _ _ _ _ _ _ _ _ _ _ _ _ _ _ _ _ _ _ _ _ _ _ _ _ _ _ _ _ _ _ _ _ _ _ _ _ _ _ _ _ _ _ _ _ _ _ _ _ _ _ _ _ _ _ _ _ _ _ _ _ _ _ _ _ _ _ _ _ _ _ _ _ _ _ _ _ _ _ _ _ _ _ _ _ _ _ _ _ _ _ _ _ _ _ _ _ _ _ _ _ _ _ _ _ _ _ _ _ _ _ _ _ _ _ _ _ _ _ _ _ _ _ _ _ _ _ _ _ _ _ _ _ _ _ _ _ _ _ _ _ _ _ _ _ _ _ _ _ _ _ _ _ _ _ _ _ _ _ _ _ _ _ _ _ _ _ _ _ _ _ _ _ _ _ _ _ _ _ _ _ _ _ _ _ _ _ _ _ _ _ _ _ _ _ _ _ _ _ _ _ _ _ _ _ _ _ _ _ _ _ _ _ _ _ _ _ _ _ _ _ _ _ _ _ _ _ _ _ _ _ _ _ _ _ _ _ _ _ _ _ _ _ ?_))
          intro Wn hb
          replace iD := iD.below hb iD.lt
          replace hB := hB.trans (hb.mono hB.size)
          clear hb iC iN iU hl1 hl2 CL DL
          refine wp_cond_false (by kernel_rfl) (wp_skip ?_)
          go_wp2
          go_roundw
          case rel => exact ⟨j + 1, by omega, by go_num, iD, hB⟩
          case measure => simp [intOf]; omega
        · have q1 : ¬ (j : Int) < 7 := by omega
          go_wp2
          go_ret
          exact ⟨rfl, hB⟩
end Go.Proofs.Ytploljgamimlpaa
