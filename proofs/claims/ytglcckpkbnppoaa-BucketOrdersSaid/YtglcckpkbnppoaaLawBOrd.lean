/-
  BucketOrders: the walk of the statement's function.
-/
import Derived.Test.YtglcckpkbnppoaaBOrP
import Derived.Test.YtglcckpkbnppoaaLawBRoom
namespace Go.Proofs.Ytglcckpkbnppoaa
open Go.RowKit Go.Shelf

set_option maxRecDepth 100000 in
set_option maxHeartbeats 16000000 in
theorem borders_walk (A0 : Option Addr) (cp0 : Nat) (L : List Int) (at_ : Int) (w : World) (hm : L.length ≤ maxLen) (hc : InV w A0 (iV12 L)) (hb : Big12 L) (ha : -9223372036854775808 ≤ at_ ∧ at_ ≤ 9223372036854775807) :
    Calls Try.prog 5 #[.slice A0 L.length cp0, .int .i64 at_] w fun e w' => e = .returned (.bool true) ∧ Below w.heap.size w w' := by
  have AW := Lib.hid awake12_any
  have HN8 := Lib.hid (fun W => by have := bnew_any12 8 W; rwa [ex_new] at this)
  have HN16 := Lib.hid (fun W => by have := bnew_any12 16 W; rwa [ex_new16] at this)
  have HC := Lib.hid hc
  have HBG := Lib.hid hb
  unfold maxLen at hm
  clear hc hb
  go_enter Try.func5, Try.ntmps5
  go_wp2_with fail
  refine (AW.out _).mono ?_
  rintro e W1 ⟨rfl, hb1⟩
  have hB1 : Below w.heap.size w W1 := hb1
  clear hb1 AW
  go_wp2
  go_loopw [6, 7] (fun l i wr => ∃ (k : Nat) (R : List Int) (A : Option Addr) (c : Nat), k ≤ L.length ∧ k ≤ 40 ∧ R.length ≤ k ∧ i = .int .i64 (k : Int) ∧ l = .slice A R.length c ∧ Dist12 R ∧ Big12 R ∧ RowV wr w.heap.size 3 1 A c R.length (iV12 R) ∧ Below w.heap.size w wr) (fun _ i _ => 40 - (intOf i).toNat)
  case atStart => exact ⟨0, [], none, 0, by omega, by omega, by decide, rfl, rfl, List.Pairwise.nil, (fun y hy => absurd hy (by simp)), World.ownsRow_nil _ _ _ _, hB1⟩
  case round =>
    clear hB1
    obtain ⟨k, R, A, c, hk, hk2, hkR, rfl, rfl, hd, hbg, hR, hB⟩ := hrel
    by_cases hlt : k < L.length ∧ k < 40
    · obtain ⟨hl1, hl2⟩ := hlt
      clear HN8 HN16
      have hq1 : (k : Int) < (L.length : Int) := by omega
      have hq2 : (k : Int) < 40 := by omega
      obtain ⟨z, hz⟩ : ∃ z, L[k]? = some z := ⟨_, List.getElem?_eq_getElem hl1⟩
      have hzb := HBG.out z (List.mem_of_getElem? hz)
      obtain ⟨bR, oR, rfl, hbr, hcz⟩ := (HC.out.keep hB).num12 hz
      have w1i := IntWalk.i64_in ((k : Int) + 1) (by omega)
      clear hz
      obtain ⟨V, rfl⟩ : ∃ V, V = wr := ⟨_, rfl⟩
      go_wp2
      go_loopw [8, 9] (fun h j wr => ∃ q : Nat, q ≤ R.length ∧ j = .int .i64 (q : Int) ∧ h = .bool (had12 (R.take q) z) ∧ Below V.heap.size V wr) (fun _ j _ => R.length - (intOf j).toNat)
      case atStart => exact ⟨0, by omega, rfl, by rw [had_nil12], Below.refl _ _⟩
      case round =>
        obtain ⟨q, hq, rfl, rfl, hb2⟩ := hrel
        by_cases hlt : q < R.length
        · have q3 : (q : Int) < (R.length : Int) := by omega
          have w2i := IntWalk.i64_in ((q : Int) + 1) (by omega)
          obtain ⟨y, hy⟩ : ∃ y, R[q]? = some y := ⟨_, List.getElem?_eq_getElem hlt⟩
          have hyb := hbg y (List.mem_of_getElem? hy)
          have HONE := Lib.hid (had_one12 hy z)
          obtain ⟨bL, oL, rfl, hbl, hcy⟩ := hR.num12 hy
          have hcy2 := cell_below12 hb2 hcy hbl
          have hcz2 := cell_below12 hb2 hcz hbr
          have hbl2 := Nat.lt_of_lt_of_le hbl hb2.size
          have hbr2 := Nat.lt_of_lt_of_le hbr hb2.size
          have PK1 := Lib.hid (fun W => pick12_any y 40 W hyb.1 hyb.2 (by omega) (by omega))
          have PK2 := Lib.hid (fun W => pick12_any z 40 W hzb.1 hzb.2 (by omega) (by omega))
          generalize had12 (R.take q) z = h at *
          cases h with
          | true =>
            go_upto_region 10 with (fail)
            refine Code.wp_mono ?_ (or12_10a wr _ _ _ _ _ _ _ _ _ _ _ _ _ _ _ _ _ _ _ _ _ _ _ _ _ _ _ _ _ _ _ _ _ _ _ _ _ _ _ _ _ _ _ _ _ _ _ _ _ _ _ _ _ _ _ _ _ _ _ _ _ _ _ _ _ _ _ _ _ _ _ _ _ _ _ _ _ _ _ _ _ _ _ _ _ _ _ _ _ _ _ _ _ _ _ _ _ _ _ _ _ _ _ _ _ _ _ _ _ _ _ _ _ _ _ _ _ _ _ _ _ _ _ _ _ _ _ _ _ _ _ _ _ _ _ _ _ _ _ _ _ _ _ _ _ _ _)
            rintro ex ⟨T, D⟩ W5 ⟨rfl, hDf, _, hT, hb⟩
            simp only at hT hDf
            subst hT
            subst hDf
            have hb5 := hb2.trans (hb.mono hb2.size)
            clear hb hb2
            go_wp2
            go_roundw
            case rel => exact ⟨q + 1, by omega, by go_num, by rw [HONE.out]; rfl, hb5⟩
            case measure => simp [intOf]; omega
          | false =>
            go_upto_region 10 with (fail)
            refine Code.wp_mono ?_ (or12_10b wr bL oL R.length c bR oR L.length cp0 q k y z (pickN y 40) (pickN z 40) hlt hl1 hbl2 hbr2 hcy2 hcz2 PK1 PK2 _ _ _ _ _ _ _ _ _ _ _ _ _ _ _ _ _ _ _ _ _ _ _ _ _ _ _ _ _ _ _ _ _ _ _ _ _ _ _ _ _ _ _ _ _ _ _ _ _ _ _ _ _ _ _ _ _ _ _ _ _ _ _ _ _ _ _ _ _ _ _ _ _ _ _ _ _ _ _ _ _ _ _ _ _ _ _ _ _ _ _ _ _ _ _ _ _ _ _ _ _ _ _ _ _ _ _ _ _ _ _ _ _ _ _ _ _ _ _ _ _ _ _ _ _ _ _ _ _ _ _ _ _ _ _ _ _ _ _ _ _ _ _)
            rintro ex ⟨T, D⟩ W5 ⟨rfl, hDf, _, hT, hb⟩
            simp only at hT hDf
            subst hT
            subst hDf
            have hb5 := hb2.trans (hb.mono hb2.size)
            clear hb hb2
            go_wp2
            go_roundw
            case rel => exact ⟨q + 1, by omega, by go_num, by rw [HONE.out]; rfl, hb5⟩
            case measure => simp [intOf]; omega
        · have hqe : q = R.length := by omega
          subst hqe
          have q3 : ¬ ((R.length : Nat) : Int) < ((R.length : Nat) : Int) := by omega
          have hRb := hR.belowK hb2
          have hcz2 := cell_below12 hb2 hcz hbr
          have hB2 := hB.trans (hb2.mono hB.size)
          rw [List.take_length]
          clear hR hcz hb2
          generalize hh : had12 R z = h at *
          cases h with
          | true =>
            clear hh
            go_wp2
            go_roundw
            case rel => exact ⟨k + 1, R, A, c, by omega, by omega, by omega, by go_num, rfl, hd, hbg, hRb, hB2⟩
            case measure => simp [intOf]; omega
          | false =>
            have HD := Lib.hid (hd.more hh)
            have HBM := Lib.hid (hbg.more hzb)
            clear hh hd hbg
            go_upto_region 12 with (fail)
            refine wp_region_list (or12_12 wr w w.heap.size A c R.length R bR oR L.length cp0 k z hl1 hcz2 hRb (by omega) hB2 hB2.size _ _ _ _ _ _ _ _ _ _ _ _ _ _ _ _ _ _ _ _ _ _ _ _ _ _ _ _ _ _ _ _ _ _ _ _ _ _ _ _ _ _ _ _ _ _ _ _ _ _ _ _ _ _ _ _ _ _ _ _ _ _ _ _ _ _ _ _ _ _ _ _ _ _ _ _ _ _ _ _ _ _ _ _ _ _ _ _ _ _ _ _ _ _ _ _ _ _ _ _ _ _ _ _ _ _ _ _ _ _ _ _ _ _ _ _ _ _ _ _ _ _ _ _ _ _ _ _ _ _ _ _ _ _ _ _ _ _ _ _ _ _ _ _ _ _ ?_)
            intro A2 c2 W2 hR2 hB3
            have e1 : iV12 R ++ [.int .i64 z] = iV12 (R ++ [z]) := by rw [iV12, iV12, List.map_append]; rfl
            rw [e1] at hR2
            have hRn : (R ++ [z]).length = R.length + 1 := by rw [List.length_append]; rfl
            rw [← hRn] at hR2 ⊢
            generalize R ++ [z] = R2 at *
            clear hRb hB2 hcz2 e1
            go_wp2
            go_roundw
            case rel => exact ⟨k + 1, R2, A2, c2, by omega, by omega, by omega, by go_num, rfl, HD.out, HBM.out, hR2, hB3⟩
            case measure => simp [intOf]; omega
    · have hq : ((k : Int) < (L.length : Int) ∧ ¬ (k : Int) < 40) ∨ ¬ (k : Int) < (L.length : Int) := by omega
      rcases hq with ⟨q1, q2⟩ | q1
      · have w1 := IntWalk.i64_in ((R.length : Int) + 1) (by omega)
        have PK := Lib.hid (fun W => pick12_any at_ ((R.length : Int) + 1) W ha.1 ha.2 (by omega) (by omega))
        have hp := pickN_bd at_ ((R.length : Int) + 1) (by omega)
        generalize pickN at_ ((R.length : Int) + 1) = p at *
        obtain ⟨K, rfl⟩ : ∃ K : Nat, p = (K : Int) := ⟨p.toNat, by omega⟩
        have hK : K ≤ R.length := by omega
        have hR40 : R.length ≤ 1000 := by omega
        clear hk hk2 hkR hlt HC HBG hm hp
        go_upto_region 14 with (go_at_call 10; refine (PK.out _).mono ?_; rintro e wq ⟨rfl, rfl⟩)
        refine Code.wp_mono ?_ (or12_14 wr w.heap.size A c R.length K R hK rfl hR40 hR _ _ _ _ _ _ _ _ _ _ _ _ _ _ _ _ _ _ _ _ _ _ _ _ _ _ _ _ _ _ _ _ _ _ _ _ _ _ _ _ _ _ _ _ _ _ _ _ _ _ _ _ _ _ _ _ _ _ _ _ _ _ _ _ _ _ _ _ _ _ _ _ _ _ _ _ _ _ _ _ _ _ _ _ _ _ _ _ _ _ _ _ _ _ _ _ _ _ _ _ _ _ _ _ _ _ _ _ _ _ _ _ _ _ _ _ _ _ _ _ _ _ _ _ _ _ _ _ _ _ _ _ _ _ _ _ _ _ _ _ _ _ _ _ _ _)
        rintro ex ⟨T, D⟩ W5 ⟨rfl, hDf, AU, cU, AT, cT, hT, hb, hTR⟩
        simp only at hT hDf
        subst hT
        subst hDf
        generalize (if c = K then A else A.map (·.add (K * 1))) = AZ
        have hR := hR.belowK hb
        have hTR := hTR.mono hB.size
        have hB := hB.trans (hb.mono hB.size)
        rw [iV_turn12] at hTR
        have HTL := Lib.hid (turn_len12 R hK)
        have HPM := Lib.hid (prs_turn12 R K)
        have HBT := Lib.hid (hbg.turn K)
        have HBR := Lib.hid hbg
        have HDT := Lib.hid (hd.turn K)
        have HDR := Lib.hid hd
        generalize R.drop K ++ R.take K = TT at *
        clear hb hbg hd PK w1 q1
        go_wp2_with fail
        refine (HN8.out _).mono ?_
        rintro e W6 ⟨A1, c1, rfl, hr6, hb6⟩
        have n12 : InS W6 exS0 A1 c1 := RowB.inS hr6 (by show (8 : Nat) ≤ 4096; omega)
        have hR := hR.belowK hb6
        have hTR := hTR.belowK hb6
        have hB := hB.trans (hb6.mono hB.size)
        clear hr6 hb6 HN8
        have hg1 : w.heap.size ≤ W6.heap.size := hB.size
        have i12 := Is.new W6 31 (stoA exS0 A1 c1)
        have n12 := n12.keep ((Below.refl _ _).alloc (Nat.le_refl _) (.cells (stoA exS0 A1 c1) 31))
        have hR := hR.belowK ((Below.refl _ _).alloc (Nat.le_refl _) (.cells (stoA exS0 A1 c1) 31))
        have hTR := hTR.belowK ((Below.refl _ _).alloc (Nat.le_refl _) (.cells (stoA exS0 A1 c1) 31))
        have hB := hB.alloc hB.size (.cells (stoA exS0 A1 c1) 31)
        go_upto_region 16 with (fail)
        generalize W6.alloc (.cells (stoA exS0 A1 c1) 31) = W7 at *
        generalize W6.heap.size = D12 at *
        go_wp2_with fail
        refine (HN16.out _).mono ?_
        rintro e W8 ⟨A2, c2, rfl, hr8, hb8⟩
        have n14 : InS W8 exT0 A2 c2 := RowB.inS hr8 (by show (16 : Nat) ≤ 4096; omega)
        have n12 := n12.keep hb8
        have hne : D12 ≠ W8.heap.size := by have := i12.lt; have := hb8.size; omega
        have i12 := i12.below hb8 i12.lt
        have hR := hR.belowK hb8
        have hTR := hTR.belowK hb8
        have hB := hB.trans (hb8.mono hB.size)
        clear hr8 hb8 HN16
        have hg2 : w.heap.size ≤ W8.heap.size := hB.size
        have i14 := Is.new W8 31 (stoA exT0 A2 c2)
        have n12 := n12.keep ((Below.refl _ _).alloc (Nat.le_refl _) (.cells (stoA exT0 A2 c2) 31))
        have n14 := n14.keep ((Below.refl _ _).alloc (Nat.le_refl _) (.cells (stoA exT0 A2 c2) 31))
        have i12 := i12.alloc (.cells (stoA exT0 A2 c2) 31)
        have hR := hR.belowK ((Below.refl _ _).alloc (Nat.le_refl _) (.cells (stoA exT0 A2 c2) 31))
        have hTR := hTR.belowK ((Below.refl _ _).alloc (Nat.le_refl _) (.cells (stoA exT0 A2 c2) 31))
        have hB := hB.alloc hB.size (.cells (stoA exT0 A2 c2) 31)
        go_upto_region 17 with (fail)
        generalize W8.alloc (.cells (stoA exT0 A2 c2) 31) = W9 at *
        generalize W8.heap.size = D14 at *
        go_wp2
        go_loopw [16] (fun i wr => ∃ (q : Nat) (a b : Sto12) (Aa Ab : Option Addr) (ca cb : Nat), q ≤ R.length ∧ i = .int .i64 (q : Int) ∧ Puts12 a (prs12 (R.take q)) ∧ Puts12 b (prs12 (TT.take q)) ∧ InS wr a Aa ca ∧ InS wr b Ab cb ∧ Is wr D12 31 (stoA a Aa ca) ∧ Is wr D14 31 (stoA b Ab cb) ∧ RowV wr w.heap.size 3 1 A c R.length (iV12 R) ∧ RowV wr w.heap.size 3 1 AT cT R.length (iV12 TT) ∧ Below w.heap.size w wr) (fun i _ => R.length - (intOf i).toNat)
        case atStart => exact ⟨0, exS0, exT0, A1, A2, c1, c2, by omega, rfl, new_puts12 (.inl rfl), new_puts12 (.inr rfl), n12, n14, i12, i14, hR, hTR, hB⟩
        case round =>
          clear n12 n14 i12 i14 hR hTR hB
          obtain ⟨q, a, b, Aa, Ab, ca, cb, hq, rfl, hpa, hpb, na, nb, ia, ib, hR, hTR, hB⟩ := hrel
          by_cases hlt : q < R.length
          · have q3 : (q : Int) < (R.length : Int) := by omega
            have w2i := IntWalk.i64_in ((q : Int) + 1) (by omega)
            obtain ⟨y, hy⟩ : ∃ y, R[q]? = some y := ⟨_, List.getElem?_eq_getElem hlt⟩
            obtain ⟨z, hz⟩ : ∃ z, TT[q]? = some z := ⟨_, List.getElem?_eq_getElem (by rw [HTL.out]; exact hlt)⟩
            have hyb := HBR.out y (List.mem_of_getElem? hy)
            have hzb := HBT.out z (List.mem_of_getElem? hz)
            obtain ⟨p1, p2⟩ := puts_step12 hpa HDR.out hy
            obtain ⟨p3, p4⟩ := puts_step12 hpb HDT.out hz
            obtain ⟨bL, oL, rfl, hbl, hcy⟩ := hR.num12 hy
            obtain ⟨bT, oT, rfl, hbt, hcz⟩ := hTR.num12 hz
            have hfL := hR.far12 ia (by decide)
            have hfT := hTR.far12 ib (by decide)
            have HL1 := Lib.hid (fun W => qlabel_any12 y W hyb)
            have HC1 := Lib.hid (fun W => qcell_any12 y W hyb)
            have HL2 := Lib.hid (fun W => qlabel_any12 z W hzb)
            have HC2 := Lib.hid (fun W => qcell_any12 z W hzb)
            generalize label12 y = l1 at *
            generalize cell12 y = x1 at *
            generalize label12 z = l2 at *
            generalize cell12 z = x2 at *
            obtain ⟨a2, ha2⟩ : ∃ t, putV12 a l1 x1 = (t, 0) := ⟨(putV12 a l1 x1).1, Prod.ext rfl p1⟩
            obtain ⟨b2, hb2⟩ : ∃ t, putV12 b l2 x2 = (t, 0) := ⟨(putV12 b l2 x2).1, Prod.ext rfl p3⟩
            rw [ha2] at p2
            rw [hb2] at p4
            have HP1 := Lib.hid (fun W (h : InS W a Aa ca) => by have := bput_any12 a Aa ca l1 x1 W h; rwa [ha2] at this)
            have HP2 := Lib.hid (fun W (h : InS W b Ab cb) => by have := bput_any12 b Ab cb l2 x2 W h; rwa [hb2] at this)
            have p2 : Puts12 a2 (prs12 (R.take (q + 1))) := p2
            have p4 : Puts12 b2 (prs12 (TT.take (q + 1))) := p4
            have HX := Lib.hid (And.intro p2 p4)
            clear p1 p2 p3 p4 ha2 hb2 hpa hpb hy hz hyb hzb
            go_upto_region 22 with (fail)
            refine Code.wp_mono ?_ (or12_22 wr D12 a a2 Aa ca bL oL R.length c q y l1 x1 0 ia na hbl hfL hcy hlt HL1 HC1 HP1 _ _ _ _ _ _ _ _ _ _ _ _ _ _ _ _ _ _ _ _ _ _ _ _ _ _ _ _ _ _ _ _ _ _ _ _ _ _ _ _ _ _ _ _ _ _ _ _ _ _ _ _ _ _ _ _ _ _ _ _ _ _ _ _ _ _ _ _ _ _ _ _ _ _ _ _ _ _ _ _ _ _ _ _ _ _ _ _ _ _ _ _ _ _ _ _ _ _ _ _ _ _ _ _ _ _ _ _ _ _ _ _ _ _ _ _ _ _ _ _ _ _ _ _ _ _ _ _ _ _ _ _ _ _ _ _ _ _ _ _ _ _ _ _ _)
            rintro ex ⟨T, D⟩ W5 ⟨rfl, hDf, Aa2, ca2, hT, hg, na2, ia2⟩
            simp only at hT hDf
            subst hT
            subst hDf
            have nb := nb.grown12 ia hg
            have ib := ib.grown12 hg hne.symm
            have hR := hR.grown12 ia (by decide) hg
            have hTR := hTR.grown12 ia (by decide) hg
            have hcz := cell_grown12 hg hcz hbt (by have := hTR.far12 ia2 (by decide); exact this)
            have hbt := Nat.lt_of_lt_of_le hbt hg.size
            have hB := hB.grown hg hB.size (fun k e => by have := Option.some.inj e; omega)
            clear hg ia na hbl hfL hcy HL1 HC1 HP1
            go_upto_region 23 with (fail)
            refine Code.wp_mono ?_ (or12_23 W5 D14 b b2 Ab cb bT oT R.length cT q z l2 x2 0 ib nb hbt hfT hcz hlt HL2 HC2 HP2 _ _ _ _ _ _ _ _ _ _ _ _ _ _ _ _ _ _ _ _ _ _ _ _ _ _ _ _ _ _ _ _ _ _ _ _ _ _ _ _ _ _ _ _ _ _ _ _ _ _ _ _ _ _ _ _ _ _ _ _ _ _ _ _ _ _ _ _ _ _ _ _ _ _ _ _ _ _ _ _ _ _ _ _ _ _ _ _ _ _ _ _ _ _ _ _ _ _ _ _ _ _ _ _ _ _ _ _ _ _ _ _ _ _ _ _ _ _ _ _ _ _ _ _ _ _ _ _ _ _ _ _ _ _ _ _ _ _ _ _ _ _ _ _ _)
            rintro ex ⟨T, D⟩ W6 ⟨rfl, hDf, Ab2, cb2, hT, hg, nb2, ib2⟩
            simp only at hT hDf
            subst hT
            subst hDf
            have na2 := na2.grown12 ib hg
            have ia2 := ia2.grown12 hg hne
            have hR := hR.grown12 ib (by decide) hg
            have hTR := hTR.grown12 ib (by decide) hg
            have hB := hB.grown hg hB.size (fun k e => by have := Option.some.inj e; omega)
            clear hg ib nb hbt hfT hcz HL2 HC2 HP2
            go_wp2
            go_roundw
            case rel => exact ⟨q + 1, a2, b2, Aa2, Ab2, ca2, cb2, by omega, by go_num, HX.out.1, HX.out.2, na2, nb2, ia2, ib2, hR, hTR, hB⟩
            case measure => simp [intOf]; omega
          · have hqe : q = R.length := by omega
            subst hqe
            have q3 : ¬ ((R.length : Nat) : Int) < ((R.length : Nat) : Int) := by omega
            rw [prs_all12] at hpa
            have hta : TT.take R.length = TT := by rw [← HTL.out, List.take_length]
            rw [hta] at hpb
            obtain ⟨e1, e2⟩ := puts_all12 hpa hpb HPM.out
            have HA := Lib.hid (fun W (h : InS W a Aa ca) => ball_yes12 a Aa ca W h (right_iff12.2 hpa.inv.rt))
            have HBb := Lib.hid (fun W (h : InS W b Ab cb) => ball_yes12 b Ab cb W h (right_iff12.2 hpb.inv.rt))
            rw [← e1] at HBb
            have hma : a.many = (R.length : Int) := by rw [hpa.many, prs_len12]
            have hmb : b.many = (R.length : Int) := by rw [hpb.many, prs_len12, HTL.out]
            generalize all12 a.B = LL at *
            clear hpa hpb hta e1 hR hTR HDR HDT HBR HBT HPM HTL
            go_upto_region 26 with (fail)
            refine Code.wp_mono ?_ (or12_26 wr D12 D14 a b Aa Ab ca cb A R.length c LL e2 ia ib na nb hma hmb HA HBb _ _ _ _ _ _ _ _ _ _ _ _ _ _ _ _ _ _ _ _ _ _ _ _ _ _ _ _ _ _ _ _ _ _ _ _ _ _ _ _ _ _ _ _ _ _ _ _ _ _ _ _ _ _ _ _ _ _ _ _ _ _ _ _ _ _ _ _ _ _ _ _ _ _ _ _ _ _ _ _ _ _ _ _ _ _ _ _ _ _ _ _ _ _ _ _ _ _ _ _ _ _ _ _ _ _ _ _ _ _ _ _ _ _ _ _ _ _ _ _ _ _ _ _ _ _ _ _ _ _ _ _ _ _ _ _ _ _ _ _ _ _ _ _)
            rintro ex ⟨T, D⟩ W5 ⟨rfl, hDf, AX, cX, AY, cY, hT, hb, _, _⟩
            simp only at hT hDf
            subst hT
            subst hDf
            have hB := hB.trans (hb.mono hB.size)
            clear hb hma hmb HA HBb
            go_wp2
            go_ret
            exact ⟨rfl, hB⟩
      · have w1 := IntWalk.i64_in ((R.length : Int) + 1) (by omega)
        have PK := Lib.hid (fun W => pick12_any at_ ((R.length : Int) + 1) W ha.1 ha.2 (by omega) (by omega))
        have hp := pickN_bd at_ ((R.length : Int) + 1) (by omega)
        generalize pickN at_ ((R.length : Int) + 1) = p at *
        obtain ⟨K, rfl⟩ : ∃ K : Nat, p = (K : Int) := ⟨p.toNat, by omega⟩
        have hK : K ≤ R.length := by omega
        have hR40 : R.length ≤ 1000 := by omega
        clear hk hk2 hkR hlt HC HBG hm hp
        go_upto_region 14 with (go_at_call 10; refine (PK.out _).mono ?_; rintro e wq ⟨rfl, rfl⟩)
        refine Code.wp_mono ?_ (or12_14 wr w.heap.size A c R.length K R hK rfl hR40 hR _ _ _ _ _ _ _ _ _ _ _ _ _ _ _ _ _ _ _ _ _ _ _ _ _ _ _ _ _ _ _ _ _ _ _ _ _ _ _ _ _ _ _ _ _ _ _ _ _ _ _ _ _ _ _ _ _ _ _ _ _ _ _ _ _ _ _ _ _ _ _ _ _ _ _ _ _ _ _ _ _ _ _ _ _ _ _ _ _ _ _ _ _ _ _ _ _ _ _ _ _ _ _ _ _ _ _ _ _ _ _ _ _ _ _ _ _ _ _ _ _ _ _ _ _ _ _ _ _ _ _ _ _ _ _ _ _ _ _ _ _ _ _ _ _ _)
        rintro ex ⟨T, D⟩ W5 ⟨rfl, hDf, AU, cU, AT, cT, hT, hb, hTR⟩
        simp only at hT hDf
        subst hT
        subst hDf
        generalize (if c = K then A else A.map (·.add (K * 1))) = AZ
        have hR := hR.belowK hb
        have hTR := hTR.mono hB.size
        have hB := hB.trans (hb.mono hB.size)
        rw [iV_turn12] at hTR
        have HTL := Lib.hid (turn_len12 R hK)
        have HPM := Lib.hid (prs_turn12 R K)
        have HBT := Lib.hid (hbg.turn K)
        have HBR := Lib.hid hbg
        have HDT := Lib.hid (hd.turn K)
        have HDR := Lib.hid hd
        generalize R.drop K ++ R.take K = TT at *
        clear hb hbg hd PK w1 q1
        go_wp2_with fail
        refine (HN8.out _).mono ?_
        rintro e W6 ⟨A1, c1, rfl, hr6, hb6⟩
        have n12 : InS W6 exS0 A1 c1 := RowB.inS hr6 (by show (8 : Nat) ≤ 4096; omega)
        have hR := hR.belowK hb6
        have hTR := hTR.belowK hb6
        have hB := hB.trans (hb6.mono hB.size)
        clear hr6 hb6 HN8
        have hg1 : w.heap.size ≤ W6.heap.size := hB.size
        have i12 := Is.new W6 31 (stoA exS0 A1 c1)
        have n12 := n12.keep ((Below.refl _ _).alloc (Nat.le_refl _) (.cells (stoA exS0 A1 c1) 31))
        have hR := hR.belowK ((Below.refl _ _).alloc (Nat.le_refl _) (.cells (stoA exS0 A1 c1) 31))
        have hTR := hTR.belowK ((Below.refl _ _).alloc (Nat.le_refl _) (.cells (stoA exS0 A1 c1) 31))
        have hB := hB.alloc hB.size (.cells (stoA exS0 A1 c1) 31)
        go_upto_region 16 with (fail)
        generalize W6.alloc (.cells (stoA exS0 A1 c1) 31) = W7 at *
        generalize W6.heap.size = D12 at *
        go_wp2_with fail
        refine (HN16.out _).mono ?_
        rintro e W8 ⟨A2, c2, rfl, hr8, hb8⟩
        have n14 : InS W8 exT0 A2 c2 := RowB.inS hr8 (by show (16 : Nat) ≤ 4096; omega)
        have n12 := n12.keep hb8
        have hne : D12 ≠ W8.heap.size := by have := i12.lt; have := hb8.size; omega
        have i12 := i12.below hb8 i12.lt
        have hR := hR.belowK hb8
        have hTR := hTR.belowK hb8
        have hB := hB.trans (hb8.mono hB.size)
        clear hr8 hb8 HN16
        have hg2 : w.heap.size ≤ W8.heap.size := hB.size
        have i14 := Is.new W8 31 (stoA exT0 A2 c2)
        have n12 := n12.keep ((Below.refl _ _).alloc (Nat.le_refl _) (.cells (stoA exT0 A2 c2) 31))
        have n14 := n14.keep ((Below.refl _ _).alloc (Nat.le_refl _) (.cells (stoA exT0 A2 c2) 31))
        have i12 := i12.alloc (.cells (stoA exT0 A2 c2) 31)
        have hR := hR.belowK ((Below.refl _ _).alloc (Nat.le_refl _) (.cells (stoA exT0 A2 c2) 31))
        have hTR := hTR.belowK ((Below.refl _ _).alloc (Nat.le_refl _) (.cells (stoA exT0 A2 c2) 31))
        have hB := hB.alloc hB.size (.cells (stoA exT0 A2 c2) 31)
        go_upto_region 17 with (fail)
        generalize W8.alloc (.cells (stoA exT0 A2 c2) 31) = W9 at *
        generalize W8.heap.size = D14 at *
        go_wp2
        go_loopw [16] (fun i wr => ∃ (q : Nat) (a b : Sto12) (Aa Ab : Option Addr) (ca cb : Nat), q ≤ R.length ∧ i = .int .i64 (q : Int) ∧ Puts12 a (prs12 (R.take q)) ∧ Puts12 b (prs12 (TT.take q)) ∧ InS wr a Aa ca ∧ InS wr b Ab cb ∧ Is wr D12 31 (stoA a Aa ca) ∧ Is wr D14 31 (stoA b Ab cb) ∧ RowV wr w.heap.size 3 1 A c R.length (iV12 R) ∧ RowV wr w.heap.size 3 1 AT cT R.length (iV12 TT) ∧ Below w.heap.size w wr) (fun i _ => R.length - (intOf i).toNat)
        case atStart => exact ⟨0, exS0, exT0, A1, A2, c1, c2, by omega, rfl, new_puts12 (.inl rfl), new_puts12 (.inr rfl), n12, n14, i12, i14, hR, hTR, hB⟩
        case round =>
          clear n12 n14 i12 i14 hR hTR hB
          obtain ⟨q, a, b, Aa, Ab, ca, cb, hq, rfl, hpa, hpb, na, nb, ia, ib, hR, hTR, hB⟩ := hrel
          by_cases hlt : q < R.length
          · have q3 : (q : Int) < (R.length : Int) := by omega
            have w2i := IntWalk.i64_in ((q : Int) + 1) (by omega)
            obtain ⟨y, hy⟩ : ∃ y, R[q]? = some y := ⟨_, List.getElem?_eq_getElem hlt⟩
            obtain ⟨z, hz⟩ : ∃ z, TT[q]? = some z := ⟨_, List.getElem?_eq_getElem (by rw [HTL.out]; exact hlt)⟩
            have hyb := HBR.out y (List.mem_of_getElem? hy)
            have hzb := HBT.out z (List.mem_of_getElem? hz)
            obtain ⟨p1, p2⟩ := puts_step12 hpa HDR.out hy
            obtain ⟨p3, p4⟩ := puts_step12 hpb HDT.out hz
            obtain ⟨bL, oL, rfl, hbl, hcy⟩ := hR.num12 hy
            obtain ⟨bT, oT, rfl, hbt, hcz⟩ := hTR.num12 hz
            have hfL := hR.far12 ia (by decide)
            have hfT := hTR.far12 ib (by decide)
            have HL1 := Lib.hid (fun W => qlabel_any12 y W hyb)
            have HC1 := Lib.hid (fun W => qcell_any12 y W hyb)
            have HL2 := Lib.hid (fun W => qlabel_any12 z W hzb)
            have HC2 := Lib.hid (fun W => qcell_any12 z W hzb)
            generalize label12 y = l1 at *
            generalize cell12 y = x1 at *
            generalize label12 z = l2 at *
            generalize cell12 z = x2 at *
            obtain ⟨a2, ha2⟩ : ∃ t, putV12 a l1 x1 = (t, 0) := ⟨(putV12 a l1 x1).1, Prod.ext rfl p1⟩
            obtain ⟨b2, hb2⟩ : ∃ t, putV12 b l2 x2 = (t, 0) := ⟨(putV12 b l2 x2).1, Prod.ext rfl p3⟩
            rw [ha2] at p2
            rw [hb2] at p4
            have HP1 := Lib.hid (fun W (h : InS W a Aa ca) => by have := bput_any12 a Aa ca l1 x1 W h; rwa [ha2] at this)
            have HP2 := Lib.hid (fun W (h : InS W b Ab cb) => by have := bput_any12 b Ab cb l2 x2 W h; rwa [hb2] at this)
            have p2 : Puts12 a2 (prs12 (R.take (q + 1))) := p2
            have p4 : Puts12 b2 (prs12 (TT.take (q + 1))) := p4
            have HX := Lib.hid (And.intro p2 p4)
            clear p1 p2 p3 p4 ha2 hb2 hpa hpb hy hz hyb hzb
            go_upto_region 22 with (fail)
            refine Code.wp_mono ?_ (or12_22 wr D12 a a2 Aa ca bL oL R.length c q y l1 x1 0 ia na hbl hfL hcy hlt HL1 HC1 HP1 _ _ _ _ _ _ _ _ _ _ _ _ _ _ _ _ _ _ _ _ _ _ _ _ _ _ _ _ _ _ _ _ _ _ _ _ _ _ _ _ _ _ _ _ _ _ _ _ _ _ _ _ _ _ _ _ _ _ _ _ _ _ _ _ _ _ _ _ _ _ _ _ _ _ _ _ _ _ _ _ _ _ _ _ _ _ _ _ _ _ _ _ _ _ _ _ _ _ _ _ _ _ _ _ _ _ _ _ _ _ _ _ _ _ _ _ _ _ _ _ _ _ _ _ _ _ _ _ _ _ _ _ _ _ _ _ _ _ _ _ _ _ _ _ _)
            rintro ex ⟨T, D⟩ W5 ⟨rfl, hDf, Aa2, ca2, hT, hg, na2, ia2⟩
            simp only at hT hDf
            subst hT
            subst hDf
            have nb := nb.grown12 ia hg
            have ib := ib.grown12 hg hne.symm
            have hR := hR.grown12 ia (by decide) hg
            have hTR := hTR.grown12 ia (by decide) hg
            have hcz := cell_grown12 hg hcz hbt (by have := hTR.far12 ia2 (by decide); exact this)
            have hbt := Nat.lt_of_lt_of_le hbt hg.size
            have hB := hB.grown hg hB.size (fun k e => by have := Option.some.inj e; omega)
            clear hg ia na hbl hfL hcy HL1 HC1 HP1
            go_upto_region 23 with (fail)
            refine Code.wp_mono ?_ (or12_23 W5 D14 b b2 Ab cb bT oT R.length cT q z l2 x2 0 ib nb hbt hfT hcz hlt HL2 HC2 HP2 _ _ _ _ _ _ _ _ _ _ _ _ _ _ _ _ _ _ _ _ _ _ _ _ _ _ _ _ _ _ _ _ _ _ _ _ _ _ _ _ _ _ _ _ _ _ _ _ _ _ _ _ _ _ _ _ _ _ _ _ _ _ _ _ _ _ _ _ _ _ _ _ _ _ _ _ _ _ _ _ _ _ _ _ _ _ _ _ _ _ _ _ _ _ _ _ _ _ _ _ _ _ _ _ _ _ _ _ _ _ _ _ _ _ _ _ _ _ _ _ _ _ _ _ _ _ _ _ _ _ _ _ _ _ _ _ _ _ _ _ _ _ _ _ _)
            rintro ex ⟨T, D⟩ W6 ⟨rfl, hDf, Ab2, cb2, hT, hg, nb2, ib2⟩
            simp only at hT hDf
            subst hT
            subst hDf
            have na2 := na2.grown12 ib hg
            have ia2 := ia2.grown12 hg hne
            have hR := hR.grown12 ib (by decide) hg
            have hTR := hTR.grown12 ib (by decide) hg
            have hB := hB.grown hg hB.size (fun k e => by have := Option.some.inj e; omega)
            clear hg ib nb hbt hfT hcz HL2 HC2 HP2
            go_wp2
            go_roundw
            case rel => exact ⟨q + 1, a2, b2, Aa2, Ab2, ca2, cb2, by omega, by go_num, HX.out.1, HX.out.2, na2, nb2, ia2, ib2, hR, hTR, hB⟩
            case measure => simp [intOf]; omega
          · have hqe : q = R.length := by omega
            subst hqe
            have q3 : ¬ ((R.length : Nat) : Int) < ((R.length : Nat) : Int) := by omega
            rw [prs_all12] at hpa
            have hta : TT.take R.length = TT := by rw [← HTL.out, List.take_length]
            rw [hta] at hpb
            obtain ⟨e1, e2⟩ := puts_all12 hpa hpb HPM.out
            have HA := Lib.hid (fun W (h : InS W a Aa ca) => ball_yes12 a Aa ca W h (right_iff12.2 hpa.inv.rt))
            have HBb := Lib.hid (fun W (h : InS W b Ab cb) => ball_yes12 b Ab cb W h (right_iff12.2 hpb.inv.rt))
            rw [← e1] at HBb
            have hma : a.many = (R.length : Int) := by rw [hpa.many, prs_len12]
            have hmb : b.many = (R.length : Int) := by rw [hpb.many, prs_len12, HTL.out]
            generalize all12 a.B = LL at *
            clear hpa hpb hta e1 hR hTR HDR HDT HBR HBT HPM HTL
            go_upto_region 26 with (fail)
            refine Code.wp_mono ?_ (or12_26 wr D12 D14 a b Aa Ab ca cb A R.length c LL e2 ia ib na nb hma hmb HA HBb _ _ _ _ _ _ _ _ _ _ _ _ _ _ _ _ _ _ _ _ _ _ _ _ _ _ _ _ _ _ _ _ _ _ _ _ _ _ _ _ _ _ _ _ _ _ _ _ _ _ _ _ _ _ _ _ _ _ _ _ _ _ _ _ _ _ _ _ _ _ _ _ _ _ _ _ _ _ _ _ _ _ _ _ _ _ _ _ _ _ _ _ _ _ _ _ _ _ _ _ _ _ _ _ _ _ _ _ _ _ _ _ _ _ _ _ _ _ _ _ _ _ _ _ _ _ _ _ _ _ _ _ _ _ _ _ _ _ _ _ _ _ _ _)
            rintro ex ⟨T, D⟩ W5 ⟨rfl, hDf, AX, cX, AY, cY, hT, hb, _, _⟩
            simp only at hT hDf
            subst hT
            subst hDf
            have hB := hB.trans (hb.mono hB.size)
            clear hb hma hmb HA HBb
            go_wp2
            go_ret
            exact ⟨rfl, hB⟩
end Go.Proofs.Ytglcckpkbnppoaa
