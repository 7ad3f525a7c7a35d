/-
  BucketOver: the walk of the statement's function.
-/
import Derived.Test.YtglcckpkbnppoaaBOvL
import Derived.Test.YtglcckpkbnppoaaBStE
import Derived.Test.YtglcckpkbnppoaaLawBRoom
namespace Go.Proofs.Ytglcckpkbnppoaa
open Go.RowKit Go.Shelf

set_option maxRecDepth 100000 in
set_option maxHeartbeats 16000000 in
theorem bover_walk (A0 : Option Addr) (cp0 : Nat) (L : List Raw12) (z zc : Int) (w : World) (hm : L.length ≤ maxLen) (hc : InV w A0 (flI12 L)) (hb : ∀ n ∈ L, Bigr12 n) (hz : -9223372036854775808 ≤ z ∧ z ≤ 9223372036854775807) (hzc : -9223372036854775808 ≤ zc ∧ zc ≤ 9223372036854775807) :
    Calls Try.prog 8 #[.slice A0 L.length cp0, .int .i64 z, .int .i64 zc] w fun e w' => e = .returned (.bool true) ∧ Below w.heap.size w w' := by
  have AW := Lib.hid awake12_any
  have HST := Lib.hid (fun W h => qstore_any12 A0 cp0 L W (by unfold maxLen at hm; omega) h hb)
  have HC := Lib.hid hc
  have HLb := Lib.hid (fun W => qlabel_any12 z W hz)
  have HCe := Lib.hid (fun W => qcell_any12 zc W hzc)
  have hls := label_size12 z
  have hxs := cell_size12 zc
  have hll := label_lab12 z
  have hpb := pickN_bd z 40 (by omega)
  generalize label12 z = l at *
  generalize cell12 zc = x at *
  clear hc hb
  go_enter Try.func8, Try.ntmps8
  go_wp2_with fail
  refine (AW.out _).mono ?_
  rintro e W1 ⟨rfl, hb1⟩
  go_wp2_with fail
  refine (HST.out _ (HC.out.keep hb1)).mono ?_
  rintro e W2 ⟨s, A1, c1, rfl, hiv, hin2, hb2⟩
  have hB := hb1.trans (hb2.mono hb1.size)
  clear hb1 hb2 AW HST HC
  have i8 := Is.new W2 31 (stoA s A1 c1)
  have n8 := hin2.keep ((Below.refl _ _).alloc (Nat.le_refl _) (.cells (stoA s A1 c1) 31))
  have hB := hB.alloc hB.size (.cells (stoA s A1 c1) 31)
  clear hin2
  go_upto_region 3 with (fail)
  generalize W2.alloc (.cells (stoA s A1 c1) 31) = W0 at *
  generalize W2.heap.size = D8 at *
  obtain ⟨p1, p2, p3, p4⟩ := hiv.put (k := (pickN z 40).toNat) (by omega) hxs
  rw [← hll] at p1 p2 p3 p4
  obtain ⟨d1, d2, _, _, _⟩ := hiv.del l
  have hrt := hiv.rt
  have hl64 : s.B.length ≤ 4096 := by have := hiv.len; omega
  obtain ⟨t, ht⟩ : ∃ t, putV12 s l x = (t, 0) := ⟨(putV12 s l x).1, Prod.ext rfl p1⟩
  have hsm : -9000 ≤ s.many ∧ s.many ≤ 9000 := by have := hrt.bnd.many; omega
  have hsg : -9000 ≤ s.gone ∧ s.gone ≤ 9000 := by have := hrt.bnd.gone; omega
  have w1 := IntWalk.i64_in (s.many + 1) (by omega)
  have w2 := IntWalk.i64_in (s.many - 1) (by omega)
  have w3 := IntWalk.i64_in (s.gone + 1) (by omega)
  rw [ht] at p2 p3 p4
  have HG := Lib.hid (fun W (h : InS W s A1 c1) => bget_any12 s A1 c1 l W h)
  rw [get_ok12 hrt] at HG
  have HP1 := Lib.hid (fun W (h : InS W s A1 c1) => by have := bput_any12 s A1 c1 l x W h; rwa [ht] at this)
  cases hq : mp12 s.B l with
  | none =>
    rw [hq] at HG p4
    have hu : putV12 t l ⟨#[]⟩ = (t, 1) := putV_no12 (by rw [decide_eq_false (show ¬ (⟨#[]⟩ : ByteArray).size = 40 by decide), Bool.and_false, Bool.and_false])
    have hd : delV12 s l = (s, false, 0) := del_none12 hrt hq
    have hmt : t.many = s.many + 1 := by rw [if_pos rfl] at p4; exact p4
    have HP2 := Lib.hid (fun A c W (h : InS W t A c) => by have := bput_any12 t A c l ⟨#[]⟩ W h; rwa [hu] at this)
    have HD1 := Lib.hid (fun A c W (h : InS W s A c) => by have := bdel_any12 s A c l W h; rwa [hd] at this)
    have HD2 := HD1
    have HS := Lib.hid (fun A B ca cb W (h1 : InS W s A ca) (h2 : InS W s B cb) => dsame_any12 s s A B ca cb W hl64 h1 h2)
    clear hu hd p1 p2 p3 p4 d1 d2 hq hiv hrt ht hll hls hxs hpb
    have HG0 : Hid (∀ W, Below W0.heap.size W0 W → Calls Try.prog 29 #[stoV s A1 c1, .string l] W fun e w' => e = .returned (.tuple #[.string ⟨#[]⟩, .bool false]) ∧ Below W.heap.size W w') := Lib.hid (fun W h => HG.out W (n8.keep h))
    refine Code.wp_mono ?_ (ov12_3 W0 D8 s A1 c1 z l ⟨#[]⟩ false i8 HLb HG0 _ _ _ _ _ _ _ _ _ _ _ _ _ _ _ _ _ _ _ _ _ _ _ _ _ _ _ _ _ _ _ _ _ _ _ _ _ _ _ _ _ _ _ _ _ _ _ _ _ _ _ _ _ _ _ _ _ _ _ _ _ _ _ _ _ _ _ _ _ _ _ _ _ _ _ _ _ _ _ _ _ _ _ _ _ _ _ _ _ _ _ _ _ _ _ _ _ _ _ _ _ _ _ _ _ _ _ _ _ _ _ _ _ _ _ _ _ _ _ _ _ _ _ _ _ _ _ _ _ _ _ _ _ _ _ _ _ _ _)
    rintro ex ⟨T, D⟩ W3 ⟨rfl, hDf, _, hT, hb⟩
    simp only at hT hDf
    subst hT
    subst hDf
    have i8 := i8.below hb i8.lt
    have n8 := n8.keep hb
    have hB := hB.trans (hb.mono hB.size)
    clear hb
    go_upto_region 4 with (fail)
    refine Code.wp_mono ?_ (ov12_4 W3 D8 s t A1 c1 z zc l x 0 i8 HLb HCe (Lib.hid fun W h => HP1.out W (n8.keep h)) _ _ _ _ _ _ _ _ _ _ _ _ _ _ _ _ _ _ _ _ _ _ _ _ _ _ _ _ _ _ _ _ _ _ _ _ _ _ _ _ _ _ _ _ _ _ _ _ _ _ _ _ _ _ _ _ _ _ _ _ _ _ _ _ _ _ _ _ _ _ _ _ _ _ _ _ _ _ _ _ _ _ _ _ _ _ _ _ _ _ _ _ _ _ _ _ _ _ _ _ _ _ _ _ _ _ _ _ _ _ _ _ _ _ _ _ _ _ _ _ _ _ _ _ _ _ _ _ _ _ _ _ _ _ _ _ _ _)
    rintro ex ⟨T, D⟩ W4 ⟨rfl, hDf, A4, c4, D11, hT, hb, n11, hd11, i11⟩
    simp only at hT hDf
    subst hT
    subst hDf
    have i8 := i8.below hb i8.lt
    have n8 := n8.keep hb
    have hB := hB.trans (hb.mono hB.size)
    clear hb
    go_upto_region 5 with (fail)
    refine Code.wp_mono ?_ (ov12_5 W4 D11 t t A4 c4 z l ⟨#[]⟩ 1 i11 HLb (Lib.hid fun W h => HP2.out A4 c4 W (n11.keep h)) _ _ _ _ _ _ _ _ _ _ _ _ _ _ _ _ _ _ _ _ _ _ _ _ _ _ _ _ _ _ _ _ _ _ _ _ _ _ _ _ _ _ _ _ _ _ _ _ _ _ _ _ _ _ _ _ _ _ _ _ _ _ _ _ _ _ _ _ _ _ _ _ _ _ _ _ _ _ _ _ _ _ _ _ _ _ _ _ _ _ _ _ _ _ _ _ _ _ _ _ _ _ _ _ _ _ _ _ _ _ _ _ _ _ _ _ _ _ _ _ _ _ _ _ _ _ _ _ _ _ _ _ _ _ _ _ _ _)
    rintro ex ⟨T, D⟩ W5 ⟨rfl, hDf, A5, c5, D13, hT, hb, n13, hd13, i13⟩
    simp only at hT hDf
    subst hT
    subst hDf
    have i8 := i8.below hb i8.lt
    have n8 := n8.keep hb
    have i11 := i11.below hb i11.lt
    have n11 := n11.keep hb
    have hB := hB.trans (hb.mono hB.size)
    clear hb
    go_upto_region 6 with (fail)
    refine Code.wp_mono ?_ (ov12_6 W5 D8 s s A1 c1 z l false 0 i8 HLb (Lib.hid fun W h => HD1.out A1 c1 W (n8.keep h)) _ _ _ _ _ _ _ _ _ _ _ _ _ _ _ _ _ _ _ _ _ _ _ _ _ _ _ _ _ _ _ _ _ _ _ _ _ _ _ _ _ _ _ _ _ _ _ _ _ _ _ _ _ _ _ _ _ _ _ _ _ _ _ _ _ _ _ _ _ _ _ _ _ _ _ _ _ _ _ _ _ _ _ _ _ _ _ _ _ _ _ _ _ _ _ _ _ _ _ _ _ _ _ _ _ _ _ _ _ _ _ _ _ _ _ _ _ _ _ _ _ _ _ _ _ _ _ _ _ _ _ _ _ _ _ _ _ _ _)
    rintro ex ⟨T, D⟩ W6 ⟨rfl, hDf, A6, c6, D15, hT, hb, n15, hd15, i15⟩
    simp only at hT hDf
    subst hT
    subst hDf
    have i8 := i8.below hb i8.lt
    have n8 := n8.keep hb
    have i11 := i11.below hb i11.lt
    have n11 := n11.keep hb
    have i13 := i13.below hb i13.lt
    have n13 := n13.keep hb
    have hB := hB.trans (hb.mono hB.size)
    clear hb
    go_upto_region 7 with (fail)
    refine Code.wp_mono ?_ (ov12_7 W6 D15 s s A6 c6 z l false 0 i15 HLb (Lib.hid fun W h => HD2.out A6 c6 W (n15.keep h)) _ _ _ _ _ _ _ _ _ _ _ _ _ _ _ _ _ _ _ _ _ _ _ _ _ _ _ _ _ _ _ _ _ _ _ _ _ _ _ _ _ _ _ _ _ _ _ _ _ _ _ _ _ _ _ _ _ _ _ _ _ _ _ _ _ _ _ _ _ _ _ _ _ _ _ _ _ _ _ _ _ _ _ _ _ _ _ _ _ _ _ _ _ _ _ _ _ _ _ _ _ _ _ _ _ _ _ _ _ _ _ _ _ _ _ _ _ _ _ _ _ _ _ _ _ _ _ _ _ _ _ _ _ _ _ _ _ _ _)
    rintro ex ⟨T, D⟩ W7 ⟨rfl, hDf, A7, c7, D18, hT, hb, n18, hd18, i18⟩
    simp only at hT hDf
    subst hT
    subst hDf
    have i8 := i8.below hb i8.lt
    have n8 := n8.keep hb
    have i11 := i11.below hb i11.lt
    have n11 := n11.keep hb
    have i13 := i13.below hb i13.lt
    have n13 := n13.keep hb
    have i15 := i15.below hb i15.lt
    have n15 := n15.keep hb
    have hB := hB.trans (hb.mono hB.size)
    clear hb
    clear HG HG0 HP1 HP2 HD1 HD2 HLb HCe n11
    go_upto_region 8 with (fail)
    refine wp_region_list (ov12_8n W7 D15 D18 s A6 A7 c6 c7 i15 i18 n15 n18 HS _ _ _ _ _ _ _ _ _ _ _ _ _ _ _ _ _ _ _ _ _ _ _ _ _ _ _ _ _ _ _ _ _ _ _ _ _ _ _ _ _ _ _ _ _ _ _ _ _ _ _ _ _ _ _ _ _ _ _ _ _ _ _ _ _ _ _ _ _ _ _ _ _ _ _ _ _ _ _ _ _ _ _ _ _ _ _ _ _ _ _ _ _ _ _ _ _ _ _ _ _ _ _ _ _ _ _ _ _ _ _ _ _ _ _ _ _ _ _ _ _ _ _ _ _ _ _ _ _ _ _ _ _ _ ?_)
    intro W8 hb
    have i8 := i8.below hb i8.lt
    have n8 := n8.keep hb
    have i11 := i11.below hb i11.lt
    have i15 := i15.below hb i15.lt
    have n15 := n15.keep hb
    have hB := hB.trans (hb.mono hB.size)
    clear hb
    go_upto_region 11 with (fail)
    refine wp_region_list (ov12_11 W8 D8 D11 D15 s t A1 A4 A6 c1 c4 c6 i8 i11 i15 n8 n15 hmt hsm HS _ _ _ _ _ _ _ _ _ _ _ _ _ _ _ _ _ _ _ _ _ _ _ _ _ _ _ _ _ _ _ _ _ _ _ _ _ _ _ _ _ _ _ _ _ _ _ _ _ _ _ _ _ _ _ _ _ _ _ _ _ _ _ _ _ _ _ _ _ _ _ _ _ _ _ _ _ _ _ _ _ _ _ _ _ _ _ _ _ _ _ _ _ _ _ _ _ _ _ _ _ _ _ _ _ _ _ _ _ _ _ _ _ _ _ _ _ _ _ _ _ _ _ _ _ _ _ _ _ _ _ _ _ _ _ _ _ ?_)
    intro W9 hb
    have hB := hB.trans (hb.mono hB.size)
    clear hb i8 i11 i15 n8 n15 HS
    go_wp2_with fail
    go_ret
    exact ⟨rfl, hB⟩
  | some d =>
    rw [hq] at HG p4
    have ho := put_over12 (c := x) hrt hls hxs hq
    rw [ht] at ho
    obtain ⟨hmt, hu⟩ := ho
    have hmt : t.many = s.many := hmt
    have hu : putV12 t l d = (s, 0) := hu
    obtain ⟨e1, e2, e3⟩ := del_some12 hrt hq
    obtain ⟨v, hv⟩ : ∃ v, delV12 s l = (v, true, 0) := ⟨(delV12 s l).1, Prod.ext rfl e3⟩
    have hv2 := del_twice12 hrt l
    rw [hv] at e1 e2 d2 hv2
    have hv2 : delV12 v l = (v, false, 0) := hv2
    have e1 : v.many = s.many - 1 := e1
    have e2 : v.gone = s.gone + 1 := e2
    have d2 : Inv12 v := d2
    have hv64 : v.B.length ≤ 4096 := by have := d2.len; omega
    have HP2 := Lib.hid (fun A c W (h : InS W t A c) => by have := bput_any12 t A c l d W h; rwa [hu] at this)
    have HD1 := Lib.hid (fun A c W (h : InS W s A c) => by have := bdel_any12 s A c l W h; rwa [hv] at this)
    have HD2 := Lib.hid (fun A c W (h : InS W v A c) => by have := bdel_any12 v A c l W h; rwa [hv2] at this)
    have HS := Lib.hid (fun A B ca cb W (h1 : InS W v A ca) (h2 : InS W v B cb) => dsame_any12 v v A B ca cb W hv64 h1 h2)
    have HS2 := Lib.hid (fun A B ca cb W (h1 : InS W s A ca) (h2 : InS W s B cb) => dsame_any12 s s A B ca cb W hl64 h1 h2)
    clear hu hv hv2 e3 p1 p2 p3 p4 d1 d2 hq hiv hrt ht hll hls hxs hpb
    have HG0 : Hid (∀ W, Below W0.heap.size W0 W → Calls Try.prog 29 #[stoV s A1 c1, .string l] W fun e w' => e = .returned (.tuple #[.string d, .bool true]) ∧ Below W.heap.size W w') := Lib.hid (fun W h => HG.out W (n8.keep h))
    refine Code.wp_mono ?_ (ov12_3 W0 D8 s A1 c1 z l d true i8 HLb HG0 _ _ _ _ _ _ _ _ _ _ _ _ _ _ _ _ _ _ _ _ _ _ _ _ _ _ _ _ _ _ _ _ _ _ _ _ _ _ _ _ _ _ _ _ _ _ _ _ _ _ _ _ _ _ _ _ _ _ _ _ _ _ _ _ _ _ _ _ _ _ _ _ _ _ _ _ _ _ _ _ _ _ _ _ _ _ _ _ _ _ _ _ _ _ _ _ _ _ _ _ _ _ _ _ _ _ _ _ _ _ _ _ _ _ _ _ _ _ _ _ _ _ _ _ _ _ _ _ _ _ _ _ _ _ _ _ _ _ _)
    rintro ex ⟨T, D⟩ W3 ⟨rfl, hDf, _, hT, hb⟩
    simp only at hT hDf
    subst hT
    subst hDf
    have i8 := i8.below hb i8.lt
    have n8 := n8.keep hb
    have hB := hB.trans (hb.mono hB.size)
    clear hb
    go_upto_region 4 with (fail)
    refine Code.wp_mono ?_ (ov12_4 W3 D8 s t A1 c1 z zc l x 0 i8 HLb HCe (Lib.hid fun W h => HP1.out W (n8.keep h)) _ _ _ _ _ _ _ _ _ _ _ _ _ _ _ _ _ _ _ _ _ _ _ _ _ _ _ _ _ _ _ _ _ _ _ _ _ _ _ _ _ _ _ _ _ _ _ _ _ _ _ _ _ _ _ _ _ _ _ _ _ _ _ _ _ _ _ _ _ _ _ _ _ _ _ _ _ _ _ _ _ _ _ _ _ _ _ _ _ _ _ _ _ _ _ _ _ _ _ _ _ _ _ _ _ _ _ _ _ _ _ _ _ _ _ _ _ _ _ _ _ _ _ _ _ _ _ _ _ _ _ _ _ _ _ _ _ _)
    rintro ex ⟨T, D⟩ W4 ⟨rfl, hDf, A4, c4, D11, hT, hb, n11, hd11, i11⟩
    simp only at hT hDf
    subst hT
    subst hDf
    have i8 := i8.below hb i8.lt
    have n8 := n8.keep hb
    have hB := hB.trans (hb.mono hB.size)
    clear hb
    go_upto_region 5 with (fail)
    refine Code.wp_mono ?_ (ov12_5 W4 D11 t s A4 c4 z l d 0 i11 HLb (Lib.hid fun W h => HP2.out A4 c4 W (n11.keep h)) _ _ _ _ _ _ _ _ _ _ _ _ _ _ _ _ _ _ _ _ _ _ _ _ _ _ _ _ _ _ _ _ _ _ _ _ _ _ _ _ _ _ _ _ _ _ _ _ _ _ _ _ _ _ _ _ _ _ _ _ _ _ _ _ _ _ _ _ _ _ _ _ _ _ _ _ _ _ _ _ _ _ _ _ _ _ _ _ _ _ _ _ _ _ _ _ _ _ _ _ _ _ _ _ _ _ _ _ _ _ _ _ _ _ _ _ _ _ _ _ _ _ _ _ _ _ _ _ _ _ _ _ _ _ _ _ _ _)
    rintro ex ⟨T, D⟩ W5 ⟨rfl, hDf, A5, c5, D13, hT, hb, n13, hd13, i13⟩
    simp only at hT hDf
    subst hT
    subst hDf
    have i8 := i8.below hb i8.lt
    have n8 := n8.keep hb
    have i11 := i11.below hb i11.lt
    have n11 := n11.keep hb
    have hB := hB.trans (hb.mono hB.size)
    clear hb
    go_upto_region 6 with (fail)
    refine Code.wp_mono ?_ (ov12_6 W5 D8 s v A1 c1 z l true 0 i8 HLb (Lib.hid fun W h => HD1.out A1 c1 W (n8.keep h)) _ _ _ _ _ _ _ _ _ _ _ _ _ _ _ _ _ _ _ _ _ _ _ _ _ _ _ _ _ _ _ _ _ _ _ _ _ _ _ _ _ _ _ _ _ _ _ _ _ _ _ _ _ _ _ _ _ _ _ _ _ _ _ _ _ _ _ _ _ _ _ _ _ _ _ _ _ _ _ _ _ _ _ _ _ _ _ _ _ _ _ _ _ _ _ _ _ _ _ _ _ _ _ _ _ _ _ _ _ _ _ _ _ _ _ _ _ _ _ _ _ _ _ _ _ _ _ _ _ _ _ _ _ _ _ _ _ _ _)
    rintro ex ⟨T, D⟩ W6 ⟨rfl, hDf, A6, c6, D15, hT, hb, n15, hd15, i15⟩
    simp only at hT hDf
    subst hT
    subst hDf
    have i8 := i8.below hb i8.lt
    have n8 := n8.keep hb
    have i11 := i11.below hb i11.lt
    have n11 := n11.keep hb
    have i13 := i13.below hb i13.lt
    have n13 := n13.keep hb
    have hB := hB.trans (hb.mono hB.size)
    clear hb
    go_upto_region 7 with (fail)
    refine Code.wp_mono ?_ (ov12_7 W6 D15 v v A6 c6 z l false 0 i15 HLb (Lib.hid fun W h => HD2.out A6 c6 W (n15.keep h)) _ _ _ _ _ _ _ _ _ _ _ _ _ _ _ _ _ _ _ _ _ _ _ _ _ _ _ _ _ _ _ _ _ _ _ _ _ _ _ _ _ _ _ _ _ _ _ _ _ _ _ _ _ _ _ _ _ _ _ _ _ _ _ _ _ _ _ _ _ _ _ _ _ _ _ _ _ _ _ _ _ _ _ _ _ _ _ _ _ _ _ _ _ _ _ _ _ _ _ _ _ _ _ _ _ _ _ _ _ _ _ _ _ _ _ _ _ _ _ _ _ _ _ _ _ _ _ _ _ _ _ _ _ _ _ _ _ _ _)
    rintro ex ⟨T, D⟩ W7 ⟨rfl, hDf, A7, c7, D18, hT, hb, n18, hd18, i18⟩
    simp only at hT hDf
    subst hT
    subst hDf
    have i8 := i8.below hb i8.lt
    have n8 := n8.keep hb
    have i11 := i11.below hb i11.lt
    have n11 := n11.keep hb
    have i13 := i13.below hb i13.lt
    have n13 := n13.keep hb
    have i15 := i15.below hb i15.lt
    have n15 := n15.keep hb
    have hB := hB.trans (hb.mono hB.size)
    clear hb
    clear HG HG0 HP1 HP2 HD1 HD2 HLb HCe n11
    go_upto_region 8 with (fail)
    refine wp_region_list (ov12_8s W7 D15 D18 v A6 A7 c6 c7 i15 i18 n15 n18 HS _ _ _ _ _ _ _ _ _ _ _ _ _ _ _ _ _ _ _ _ _ _ _ _ _ _ _ _ _ _ _ _ _ _ _ _ _ _ _ _ _ _ _ _ _ _ _ _ _ _ _ _ _ _ _ _ _ _ _ _ _ _ _ _ _ _ _ _ _ _ _ _ _ _ _ _ _ _ _ _ _ _ _ _ _ _ _ _ _ _ _ _ _ _ _ _ _ _ _ _ _ _ _ _ _ _ _ _ _ _ _ _ _ _ _ _ _ _ _ _ _ _ _ _ _ _ _ _ _ _ _ _ _ _ ?_)
    intro W8 hb
    have i8 := i8.below hb i8.lt
    have n8 := n8.keep hb
    have i11 := i11.below hb i11.lt
    have i13 := i13.below hb i13.lt
    have n13 := n13.keep hb
    have i15 := i15.below hb i15.lt
    have hB := hB.trans (hb.mono hB.size)
    clear hb
    go_upto_region 12 with (fail)
    refine wp_region_list (ov12_12 W8 D8 D11 D13 D15 s t v A1 A4 A5 A6 c1 c4 c5 c6 i8 i11 i13 i15 n8 n13 hmt e1 e2 hsm hsg HS2 _ _ _ _ _ _ _ _ _ _ _ _ _ _ _ _ _ _ _ _ _ _ _ _ _ _ _ _ _ _ _ _ _ _ _ _ _ _ _ _ _ _ _ _ _ _ _ _ _ _ _ _ _ _ _ _ _ _ _ _ _ _ _ _ _ _ _ _ _ _ _ _ _ _ _ _ _ _ _ _ _ _ _ _ _ _ _ _ _ _ _ _ _ _ _ _ _ _ _ _ _ _ _ _ _ _ _ _ _ _ _ _ _ _ _ _ _ _ _ _ _ _ _ _ _ _ _ _ _ _ _ _ _ _ _ _ ?_)
    intro W9 hb
    have hB := hB.trans (hb.mono hB.size)
    clear hb i8 i11 i13 i15 n8 n13 HS2
    go_wp2_with fail
    go_ret
    exact ⟨rfl, hB⟩
end Go.Proofs.Ytglcckpkbnppoaa
