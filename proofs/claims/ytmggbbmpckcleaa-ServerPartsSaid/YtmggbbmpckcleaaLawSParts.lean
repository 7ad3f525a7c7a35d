/-
  ServerParts: its walk.
-/
import Derived.Test.YtmggbbmpckcleaaSPtR
namespace Go.Proofs.Ytmggbbmpckcleaa
open Go.RowKit Go.Shelf

theorem req0_13 (R : List Int) : ∃ L C, req11 0 R = ⟨1, L, C⟩ ∧ L.length ≤ 12 ∧ C.length = L.length := by
  have e : (1 : Int) + pickN 0 4 = 1 := by decide
  have hr := Rq13.of (req_right11 0 R)
  have hl := (labK_inv11 R 12).2.2.1
  have hq : req11 0 R = ⟨1, labs11 R, celK11 R (labs11 R).length⟩ := by rw [req11, if_neg (by rw [e]; decide), if_pos e]
  rw [hq] at hr ⊢
  exact ⟨_, _, rfl, hl, hr.put rfl⟩

set_option maxRecDepth 100000 in
set_option maxHeartbeats 8000000 in
theorem sparts_walk (A0 : Option Addr) (cp0 : Nat) (R : List Int) (at_ : Int) (w : World) (hm : R.length ≤ maxLen) (hc : InV w A0 (iV11 R)) (hb0 : Big11 R) (hx : -9223372036854775808 ≤ at_ ∧ at_ ≤ 9223372036854775807) :
    Calls Try.prog 5 #[.slice A0 R.length cp0, .int .i64 at_] w fun e w' => e = .returned (.bool true) ∧ Below w.heap.size w w' := by
  have HAW := Lib.hid (fun W => awake13_any W)
  have hns : newS13 100 = (⟨⟨new12 8, 0, 0⟩, 100⟩, 0) := rfl
  have HN := Lib.hid (fun W => snew_any13 100 W)
  rw [hns] at HN
  clear hns
  have HQ := Lib.hid (fun W (hB : Below w.heap.size w W) => qreqC_any11 0 A0 cp0 R W (by omega) (Nat.le_trans hm (by decide)) hb0 (hc.keep hB))
  have hqr := req_right11 0 R
  obtain ⟨L, C, hq, hl12, hlc⟩ := req0_13 R
  rw [hq] at HQ hqr
  have hl : L.length ≤ 1000 := by omega
  obtain ⟨k, hk0⟩ : ∃ k : Nat, pickN at_ ((L.length : Int) + 1) = (k : Int) := ⟨_, (Int.toNat_of_nonneg (pickN_bd at_ _ (by omega)).1).symm⟩
  have hk : k ≤ L.length := by have := (pickN_bd at_ ((L.length : Int) + 1) (by omega)).2; omega
  have hkc : k ≤ C.length := by omega
  have HPK := Lib.hid (fun W => pick13_any at_ ((L.length : Int) + 1) W hx.1 hx.2 (by omega) (by omega))
  rw [hk0] at HPK
  obtain ⟨SA, SC, SD, SF, SG, m1, m2, P⟩ := parts13 hqr rfl (by show L.length ≤ 100; omega) k
  have PP := Lib.hid P
  have HLC := Lib.hid hlc
  clear P hc hb0 hm hx hq hqr hk0 hlc
  go_enter Try.func5, Try.ntmps5
  go_upto_region 2 with (go_at_call 6; refine (HAW.out _).mono ?_; rintro e W1 ⟨rfl, hB⟩)
  refine wp_region_list (pt13_2 W1 ⟨⟨new12 8, 0, 0⟩, 100⟩ HN _ _ _ _ _ _ _ _ _ _ _ _ _ _ _ _ _ _ _ _ _ _ _ _ _ _ _ _ _ _ _ _ _ _ _ _ _ _ _ _ _ _ _ _ _ _ _ _ _ _ _ _ _ _ _ _ _ _ _ _ _ _ _ _ _ _ _ _ _ _ _ _ _ _ _ _ _ _ _ _ _ _ _ _ _ _ _ _ _ _ _ _ _ _ _ _ _ _ _ _ _ _ _ _ _ _ _ _ _ _ _ _ _ _ _ _ _ _ _ _ _ _ _ _ _ _ _ _ _ _ _ _ _ _ _ _ _ _ _ _ _ _ _ _ _ _ _ _ _ _ _ _ _ _ _ _ (fun D6 A1 c1 W2 h2 => ?_))
  have hB := hB.trans (h2.below.mono hB.size)
  have i6 := h2.srv
  have hI := h2.inS
  clear h2 HN
  go_upto_region 3 with (fail)
  go_wp2_with fail
  refine (HQ.out _ hB).mono ?_
  rintro e W3 ⟨B1, d1, B2, d2, rfl, hL, hC, hd1, hd2, hb⟩
  have i6 := i6.below hb i6.lt
  have hI := hI.keep hb
  have hB := hB.trans (hb.mono hB.size)
  clear hb HQ
  have zq := Is.new W3 35 #[.int .i64 0, .slice none 0 0, .slice none 0 0]
  have hbx : Below W3.heap.size W3 (W3.alloc (.cells #[.int .i64 0, .slice none 0 0, .slice none 0 0] 35)) := (Below.refl _ _).alloc (Nat.le_refl _) _
  have hlt := i6.lt
  have i6 := i6.below hbx i6.lt
  have hI := hI.keep hbx
  have hL := hL.keep hbx
  have hC := hC.keep hbx
  have hsz := hB.size
  have hB := hB.trans (hbx.mono hB.size)
  clear hbx
  generalize hW4 : W3.alloc (.cells #[.int .i64 0, .slice none 0 0, .slice none 0 0] 35) = W4 at *
  generalize hD8 : W3.heap.size = D8 at *
  have HO := Lib.hid (reqA_one13 1 B1 L.length d1 B2 C.length d2)
  go_upto_region 4 with (refine wpList_store_row rfl 35 _ _ rfl D8 (reqA 1 B1 L.length d1 B2 C.length d2) rfl rfl 35 _ zq infoReq13 rfl HO.out ?_)
  have i6 := i6.rowFar (k := D8) (by omega) (reqA 1 B1 L.length d1 B2 C.length d2)
  have i8 := zq.row (reqA 1 B1 L.length d1 B2 C.length d2)
  have hB := belowRow hB (g := D8) (by omega) (reqA 1 B1 L.length d1 B2 C.length d2)
  have hI := hI.noS13 zq rfl (grownRowG W4 D8 (reqA 1 B1 L.length d1 B2 C.length d2))
  have hL := hL.noT13 zq rfl (grownRowG W4 D8 (reqA 1 B1 L.length d1 B2 C.length d2))
  have hC := hC.noT13 zq rfl (grownRowG W4 D8 (reqA 1 B1 L.length d1 B2 C.length d2))
  clear zq hW4 hD8 HO hlt hsz
  generalize W4.setRow D8 (reqA 1 B1 L.length d1 B2 C.length d2) = W3 at *
  have c81 := i8.cell 1
  have w1i := IntWalk.i64_in ((L.length : Int) + 1) (by omega)
  go_upto_region 5 with (go_at_call 8; refine (HPK.out _).mono ?_; rintro e wq ⟨rfl, rfl⟩)
  clear c81 w1i
  have P := PP.out
  clear PP
  go_upto_region 5 with (fail)
  refine wp_region_list (pt13_5 W3 D6 D8 ⟨⟨new12 8, 0, 0⟩, 100⟩ A1 c1 L C B1 B2 d1 d2 hL hC hl HLC.out hd1 hd2 i6 i8 hI _ _ _ _ _ _ _ _ _ _ _ _ _ _ _ _ _ _ _ _ _ _ _ _ _ _ _ _ _ _ _ _ _ _ _ _ _ _ _ _ _ _ _ _ _ _ _ _ _ _ _ _ _ _ _ _ _ _ _ _ _ _ _ _ _ _ _ _ _ _ _ _ _ _ _ _ _ _ _ _ _ _ _ _ _ _ _ _ _ _ _ _ _ _ _ _ _ _ _ _ _ _ _ _ _ _ _ _ _ _ _ _ _ _ _ _ _ _ _ _ _ _ _ _ _ _ _ _ _ _ _ _ _ _ _ _ _ _ _ _ _ _ _ _ _ _ _ _ _ _ _ _ _ _ (fun D10 D11 Aa ca Ra ra W4 h => ?_))
  rw [P.a] at h
  have hb := h.below
  have i6 := i6.below hb i6.lt
  have i8 := i8.below hb i8.lt
  have hI := hI.keep hb
  have hL := hL.keep hb
  have hC := hC.keep hb
  have hB := hB.trans (hb.mono hB.size)
  have ia := h.srv
  have qa := h.rsp
  have sa := h.inS
  clear hb h
  go_upto_region 6 with (fail)
  refine Code.wp_mono ?_ (pt13_6 W4 D6 D8 ⟨⟨new12 8, 0, 0⟩, 100⟩ A1 c1 L C B1 B2 d1 d2 hL hC hl HLC.out hd1 hd2 i6 i8 hI k hk hkc _ _ _ _ _ _ _ _ _ _ _ _ _ _ _ _ _ _ _ _ _ _ _ _ _ _ _ _ _ _ _ _ _ _ _ _ _ _ _ _ _ _ _ _ _ _ _ _ _ _ _ _ _ _ _ _ _ _ _ _ _ _ _ _ _ _ _ _ _ _ _ _ _ _ _ _ _ _ _ _ _ _ _ _ _ _ _ _ _ _ _ _ _ _ _ _ _ _ _ _ _ _ _ _ _ _ _ _ _ _ _ _ _ _ _ _ _ _ _ _ _ _ _ _ _ _ _ _ _ _ _ _ _ _ _ _ _ _ _ _ _ _ _ _ _ _ _ _ _ _ _ _)
  rintro ex ⟨T, Df⟩ W5 ⟨rfl, hDf, D12, D13, Ab, cb, Rb, rb, hT, hb, sb, _, _, _, _, ib, qb⟩
  simp only at hT hDf
  subst hT
  subst hDf
  rw [P.b] at sb ib qb
  have i6 := i6.below hb i6.lt
  have i8 := i8.below hb i8.lt
  have ia := ia.below hb ia.lt
  have qa := qa.below hb qa.lt
  have hI := hI.keep hb
  have hL := hL.keep hb
  have hC := hC.keep hb
  have sa := sa.keep hb
  have hB := hB.trans (hb.mono hB.size)
  clear hb
  go_upto_region 7 with (fail)
  refine Code.wp_mono ?_ (pt13_7 W5 D12 D8 SC Ab cb L C B1 B2 d1 d2 hL hC hl HLC.out hd1 hd2 ib i8 sb k hk hkc _ _ _ _ _ _ _ _ _ _ _ _ _ _ _ _ _ _ _ _ _ _ _ _ _ _ _ _ _ _ _ _ _ _ _ _ _ _ _ _ _ _ _ _ _ _ _ _ _ _ _ _ _ _ _ _ _ _ _ _ _ _ _ _ _ _ _ _ _ _ _ _ _ _ _ _ _ _ _ _ _ _ _ _ _ _ _ _ _ _ _ _ _ _ _ _ _ _ _ _ _ _ _ _ _ _ _ _ _ _ _ _ _ _ _ _ _ _ _ _ _ _ _ _ _ _ _ _ _ _ _ _ _ _ _ _ _ _ _ _ _ _ _ _ _ _ _ _ _ _ _ _)
  rintro ex ⟨T, Df⟩ W6 ⟨rfl, hDf, D14, D15, Ac, cc, Rc, rc, hT, hb, sc, _, _, _, _, ic, qc⟩
  simp only at hT hDf
  subst hT
  subst hDf
  rw [P.c] at sc ic qc
  have i6 := i6.below hb i6.lt
  have i8 := i8.below hb i8.lt
  have ia := ia.below hb ia.lt
  have qa := qa.below hb qa.lt
  have ib := ib.below hb ib.lt
  have qb := qb.below hb qb.lt
  have hI := hI.keep hb
  have hL := hL.keep hb
  have hC := hC.keep hb
  have sa := sa.keep hb
  have sb := sb.keep hb
  have hB := hB.trans (hb.mono hB.size)
  clear hb
  generalize (if d1 = k then B1 else B1.map (·.add (k * 1))) = Y1 at *
  generalize (if d2 = k then B2 else B2.map (·.add (k * 1))) = Y2 at *
  go_upto_region 8 with (fail)
  refine wp_region_list (pt13_8 W6 D10 D11 D13 D14 D15 SA Aa Ac Ra Rb Rc ca cc ra rb rc P.lenA ia ic qa qb qc sa sc _ _ _ _ _ _ _ _ _ _ _ _ _ _ _ _ _ _ _ _ _ _ _ _ _ _ _ _ _ _ _ _ _ _ _ _ _ _ _ _ _ _ _ _ _ _ _ _ _ _ _ _ _ _ _ _ _ _ _ _ _ _ _ _ _ _ _ _ _ _ _ _ _ _ _ _ _ _ _ _ _ _ _ _ _ _ _ _ _ _ _ _ _ _ _ _ _ _ _ _ _ _ _ _ _ _ _ _ _ _ _ _ _ _ _ _ _ _ _ _ _ _ _ _ _ _ _ _ _ _ _ _ _ _ _ _ _ _ _ _ _ _ _ _ _ _ _ _ _ _ (fun W7 hb => ?_))
  have i6 := i6.below hb i6.lt
  have i8 := i8.below hb i8.lt
  have ia := ia.below hb ia.lt
  have qa := qa.below hb qa.lt
  have ib := ib.below hb ib.lt
  have qb := qb.below hb qb.lt
  have ic := ic.below hb ic.lt
  have qc := qc.below hb qc.lt
  have hI := hI.keep hb
  have hL := hL.keep hb
  have hC := hC.keep hb
  have sa := sa.keep hb
  have sb := sb.keep hb
  have sc := sc.keep hb
  have hB := hB.trans (hb.mono hB.size)
  clear hb
  go_upto_region 10 with (fail)
  refine wp_region_list (pt13_10 W7 D10 D8 SA Aa ca L C B1 B2 d1 d2 hL hC hl HLC.out hd1 hd2 ia i8 sa _ _ _ _ _ _ _ _ _ _ _ _ _ _ _ _ _ _ _ _ _ _ _ _ _ _ _ _ _ _ _ _ _ _ _ _ _ _ _ _ _ _ _ _ _ _ _ _ _ _ _ _ _ _ _ _ _ _ _ _ _ _ _ _ _ _ _ _ _ _ _ _ _ _ _ _ _ _ _ _ _ _ _ _ _ _ _ _ _ _ _ _ _ _ _ _ _ _ _ _ _ _ _ _ _ _ _ _ _ _ _ _ _ _ _ _ _ _ _ _ _ _ _ _ _ _ _ _ _ _ _ _ _ _ _ _ _ _ _ _ _ _ _ _ _ _ _ _ _ _ _ _ _ _ (fun D16 D17 Au cu Ru ru W8 h => ?_))
  rw [P.d] at h
  have hb := h.below
  have i6 := i6.below hb i6.lt
  have i8 := i8.below hb i8.lt
  have ia := ia.below hb ia.lt
  have qa := qa.below hb qa.lt
  have ib := ib.below hb ib.lt
  have qb := qb.below hb qb.lt
  have ic := ic.below hb ic.lt
  have qc := qc.below hb qc.lt
  have hI := hI.keep hb
  have hL := hL.keep hb
  have hC := hC.keep hb
  have sa := sa.keep hb
  have sb := sb.keep hb
  have sc := sc.keep hb
  have hB := hB.trans (hb.mono hB.size)
  have iu := h.srv
  have qu := h.rsp
  have su := h.inS
  clear hb h
  go_upto_region 11 with (fail)
  refine Code.wp_mono ?_ (pt13_11 W8 D10 D8 SA Aa ca L C B1 B2 d1 d2 hL hC hl HLC.out hd1 hd2 ia i8 sa k hk hkc _ _ _ _ _ _ _ _ _ _ _ _ _ _ _ _ _ _ _ _ _ _ _ _ _ _ _ _ _ _ _ _ _ _ _ _ _ _ _ _ _ _ _ _ _ _ _ _ _ _ _ _ _ _ _ _ _ _ _ _ _ _ _ _ _ _ _ _ _ _ _ _ _ _ _ _ _ _ _ _ _ _ _ _ _ _ _ _ _ _ _ _ _ _ _ _ _ _ _ _ _ _ _ _ _ _ _ _ _ _ _ _ _ _ _ _ _ _ _ _ _ _ _ _ _ _ _ _ _ _ _ _ _ _ _ _ _ _ _ _ _ _ _ _ _ _ _ _ _ _ _ _)
  rintro ex ⟨T, Df⟩ W9 ⟨rfl, hDf, D18, D19, Av, cv, Rv, rv, hT, hb, sv, _, _, _, _, iv, qv⟩
  simp only at hT hDf
  subst hT
  subst hDf
  rw [P.f] at sv iv qv
  have i6 := i6.below hb i6.lt
  have i8 := i8.below hb i8.lt
  have ia := ia.below hb ia.lt
  have qa := qa.below hb qa.lt
  have ib := ib.below hb ib.lt
  have qb := qb.below hb qb.lt
  have ic := ic.below hb ic.lt
  have qc := qc.below hb qc.lt
  have iu := iu.below hb iu.lt
  have qu := qu.below hb qu.lt
  have hI := hI.keep hb
  have hL := hL.keep hb
  have hC := hC.keep hb
  have sa := sa.keep hb
  have sb := sb.keep hb
  have sc := sc.keep hb
  have su := su.keep hb
  have hB := hB.trans (hb.mono hB.size)
  clear hb
  go_upto_region 12 with (fail)
  refine Code.wp_mono ?_ (pt13_12 W9 D18 D8 SF Av cv L C B1 B2 d1 d2 hL hC hl HLC.out hd1 hd2 iv i8 sv k hk hkc _ _ _ _ _ _ _ _ _ _ _ _ _ _ _ _ _ _ _ _ _ _ _ _ _ _ _ _ _ _ _ _ _ _ _ _ _ _ _ _ _ _ _ _ _ _ _ _ _ _ _ _ _ _ _ _ _ _ _ _ _ _ _ _ _ _ _ _ _ _ _ _ _ _ _ _ _ _ _ _ _ _ _ _ _ _ _ _ _ _ _ _ _ _ _ _ _ _ _ _ _ _ _ _ _ _ _ _ _ _ _ _ _ _ _ _ _ _ _ _ _ _ _ _ _ _ _ _ _ _ _ _ _ _ _ _ _ _ _ _ _ _ _ _ _ _ _ _ _ _ _ _)
  rintro ex ⟨T, Df⟩ W10 ⟨rfl, hDf, D20, D21, Ag, cg, Rg, rg, hT, hb, sg, _, _, _, _, ig, qg⟩
  simp only at hT hDf
  subst hT
  subst hDf
  rw [P.g] at sg ig qg
  have i6 := i6.below hb i6.lt
  have i8 := i8.below hb i8.lt
  have ia := ia.below hb ia.lt
  have qa := qa.below hb qa.lt
  have ib := ib.below hb ib.lt
  have qb := qb.below hb qb.lt
  have ic := ic.below hb ic.lt
  have qc := qc.below hb qc.lt
  have iu := iu.below hb iu.lt
  have qu := qu.below hb qu.lt
  have iv := iv.below hb iv.lt
  have qv := qv.below hb qv.lt
  have hI := hI.keep hb
  have hL := hL.keep hb
  have hC := hC.keep hb
  have sa := sa.keep hb
  have sb := sb.keep hb
  have sc := sc.keep hb
  have su := su.keep hb
  have sv := sv.keep hb
  have hB := hB.trans (hb.mono hB.size)
  clear hb
  generalize (if d1 = k then B1 else B1.map (·.add (k * 1))) = Y3 at *
  go_upto_region 13 with (fail)
  refine wp_region_list (pt13_13 W10 D8 D16 D17 D19 D20 D21 L.length d1 m1 m2 _ _ B1 SD Au Ag Ru Rv Rg cu cg ru rv rg (by omega) P.m P.lenD P.none i8 iu ig qu qv qg su sg _ _ _ _ _ _ _ _ _ _ _ _ _ _ _ _ _ _ _ _ _ _ _ _ _ _ _ _ _ _ _ _ _ _ _ _ _ _ _ _ _ _ _ _ _ _ _ _ _ _ _ _ _ _ _ _ _ _ _ _ _ _ _ _ _ _ _ _ _ _ _ _ _ _ _ _ _ _ _ _ _ _ _ _ _ _ _ _ _ _ _ _ _ _ _ _ _ _ _ _ _ _ _ _ _ _ _ _ _ _ _ _ _ _ _ _ _ _ _ _ _ _ _ _ _ _ _ _ _ _ _ _ _ _ _ _ _ _ _ _ _ _ _ _ _ _ _ _ _ (fun W11 hb => ?_))
  have hB := hB.trans (hb.mono hB.size)
  go_wp2
  go_ret
  exact ⟨rfl, hB⟩
end Go.Proofs.Ytmggbbmpckcleaa

