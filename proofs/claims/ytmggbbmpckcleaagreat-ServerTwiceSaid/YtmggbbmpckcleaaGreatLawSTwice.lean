import Derived.Test.YtmggbbmpckcleaaGreatSTwR
set_option maxRecDepth 100000
set_option maxHeartbeats 16000000
namespace Go.Proofs.YtmggbbmpckcleaaGreat
open Go.RowKit Go.Shelf
theorem stwice_walk (x0 : Int) (A0 : Option Addr) (cp0 : Nat) (L : List Row13) (A9 : Option Addr) (cp9 : Nat) (R : List Int) (w : World) (hx : -9223372036854775808 ≤ x0 ∧ x0 ≤ 9223372036854775807) (hm : L.length ≤ maxLen) (hc : InV w A0 (grV13 L)) (hb : GrIn13 w L) (hm2 : R.length ≤ maxLen) (hc2 : InV w A9 (iV11 R)) (hb2 : Big11 R) (hcap : R.length ≤ cp9) :
  Calls Tryz.prog 4 #[.int .i64 x0, .slice A0 L.length cp0, .slice A9 R.length cp9] w fun e w' => e = .returned (.bool true) ∧ Below w.heap.size w w' := by
 have HAW := Lib.hid (fun W => awake13_any W)
 have HS := Lib.hid (fun W (h : Below w.heap.size w W) => server_any13 x0 A0 cp0 L W hx hm (hc.keep h) (hb.keep h))
 have HQ := Lib.hid (fun W (h : Below w.heap.size w W) => qreq13_any A9 cp9 R W (Nat.le_trans hm2 (by decide)) hcap hb2 (hc2.keep h))
 have hp := pickN_bd x0 40 (by omega)
 have hrt := sv_rt13 hp.1 (by omega : pickN x0 40 ≤ 2000) L
 have hql := req_longD13 R
 have hqr := req_right13 R
 generalize sv13 (pickN x0 40) L = s at *
 generalize req13 R = q at *
 have HT := Lib.hid (do_twice13 (right_iff13.2 hrt) hqr)
 have hrt2 := do_rt13 hrt q
 have hz := do_len13 s q (req_len13 hqr).1
 have hlen := hrt.rt.bnd.len.2
 have hlen2 := hrt2.rt.bnd.len.2
 clear hc hb hx hm hm2 hc2 hb2 hcap hp hrt hrt2 hqr
 go_enter Tryz.func4, Tryz.ntmps4
 go_upto_region 2 with (go_at_call 6; refine (HAW.out _).mono ?_; rintro e W1 ⟨rfl, hB⟩)
 refine wp_region_list (tw13_2 W1 s x0 A0 L.length cp0 (Lib.hid (fun W h => HS.out W (hB.trans (h.mono hB.size)))) _ _ _ _ _ _ _ _ _ _ _ _ _ _ _ _ _ _ _ _ _ _ _ _ _ _ _ _ _ _ _ _ _ _ _ _ _ _ _ _ _ _ _ _ _ _ _ _ _ _ _ _ _ _ _ _ _ _ _ _ _ _ _ _ _ _ _ _ _ _ _ _ (fun D8 A1 c1 W2 h2 => ?_))
 have hB := hB.trans (h2.below.mono hB.size)
 have i8 := h2.srv
 have hI := h2.inS
 clear h2 HS
 go_upto_region 3 with (fail)
 refine wp_region_list (tw13_3 W2 q A9 R.length cp9 (Lib.hid (fun W h => HQ.out W (hB.trans (h.mono hB.size)))) _ _ _ _ _ _ _ _ _ _ _ _ _ _ _ _ _ _ _ _ _ _ _ _ _ _ _ _ _ _ _ _ _ _ _ _ _ _ _ _ _ _ _ _ _ _ _ _ _ _ _ _ _ _ _ _ _ _ _ _ _ _ _ _ _ _ _ _ _ _ _ _ _ (fun D9 B1 d1 B2 d2 W3 h3 => ?_))
 have hb := h3.below
 have i8 := i8.below hb i8.lt
 have hI := hI.keep hb
 have hB := hB.trans (hb.mono hB.size)
 have i9 := h3.req
 have hL := h3.inL
 have hC := h3.inC
 clear h3 hb HQ
 go_upto_region 4 with (fail)
 refine wp_region_list (tw13_4 W3 D8 D9 s A1 c1 q B1 B2 d1 d2 hql.1 hql.2 i8 i9 hI hL hC _ _ _ _ _ _ _ _ _ _ _ _ _ _ _ _ _ _ _ _ _ _ _ _ _ _ _ _ _ _ _ _ _ _ _ _ _ _ _ _ _ _ _ _ _ _ _ _ _ _ _ _ _ _ _ _ _ _ _ _ _ _ _ _ _ _ _ _ _ _ _ _ (fun D10 D11 A2 c2 R1 r1 W4 h4 => ?_))
 have hb := h4.below
 have i8 := i8.below hb i8.lt
 have i9 := i9.below hb i9.lt
 have hI := hI.keep hb
 have hL := hL.keep hb
 have hC := hC.keep hb
 have hB := hB.trans (hb.mono hB.size)
 have i10 := h4.srv
 have i11 := h4.rsp
 have hI2 := h4.inS
 have hV1 := h4.inV
 clear h4 hb
 obtain ⟨D, hD⟩ : ∃ D, D = do13 s q := ⟨_, rfl⟩
 rw [← hD] at i10 i11 hI2 hV1 hlen2 hz HT
 clear hD
 go_upto_region 5 with (fail)
 refine wp_region_list (tw13_5 W4 D10 D9 D.1 A2 c2 q B1 B2 d1 d2 hql.1 hql.2 i10 i9 hI2 hL hC _ _ _ _ _ _ _ _ _ _ _ _ _ _ _ _ _ _ _ _ _ _ _ _ _ _ _ _ _ _ _ _ _ _ _ _ _ _ _ _ _ _ _ _ _ _ _ _ _ _ _ _ _ _ _ _ _ _ _ _ _ _ _ _ _ _ _ _ _ _ _ _ (fun D12 D13 A3 c3 R2 r2 W5 h5 => ?_))
 obtain ⟨E, hE⟩ : ∃ E, E = do13 D.1 q := ⟨_, rfl⟩
 rw [← hE] at h5 HT
 clear hE hL hC
 obtain ⟨E1, E2⟩ := E
 have hT := HT.out
 simp only at hT
 obtain ⟨rfl, ht2, ht3, ht4⟩ := hT
 clear HT
 have hb := h5.below
 have i8 := i8.below hb i8.lt
 have i9 := i9.below hb i9.lt
 have i10 := i10.below hb i10.lt
 have i11 := i11.below hb i11.lt
 have hI := hI.keep hb
 have hI2 := hI2.keep hb
 have hV1 := hV1.keep hb
 have hB := hB.trans (hb.mono hB.size)
 have i12 := h5.srv
 have i13 := h5.rsp
 have hI3 := h5.inS
 have hV2 := h5.inV
 clear h5 hb
 simp only at i12 i13 hI3 hV2
 go_upto_region 6 with (fail)
 by_cases hk : q.k = 3
 ·
  have hm := ht2 hk
  rw [hm] at i13
  clear hm ht2 ht3 ht4
  refine wp_region_list (tw13_6a W5 D9 D10 D12 D11 D13 D.1 q A2 A3 B1 B2 R2 c2 c3 d1 d2 r2 hlen2 i9 i10 i12 hI2 hI3 E2.C.length E2.k E2.st E2.room hk i13 _ _ _ _ _ _ _ _ _ _ _ _ _ _ _ _ _ _ _ _ _ _ _ _ _ _ _ _ _ _ _ _ _ _ _ _ _ _ _ _ _ _ _ _ _ _ _ _ _ _ _ _ _ _ _ _ _ _ _ _ _ _ _ _ _ _ _ _ _ (fun W6 hb => ?_))
  have i9 := i9.below hb i9.lt
  have hB := hB.trans (hb.mono hB.size)
  clear hb i8 i10 i11 i12 i13 hI hI2 hI3 hV1 hV2
  go_upto_region 8 with (fail)
  refine wp_region_list (tw13_8b W6 D8 D9 D10 q B1 B2 d1 d2 i9 (by omega) hk _ _ _ _ _ _ _ _ _ _ _ _ _ _ _ _ _ _ _ _ _ _ _ _ _ _ _ _ _ _ _ _ _ _ _ _ _ _ _ _ _ _ _ _ _ _ _ _ _ _ _ _ _ _ _ _ _ _ _ _ _ _ _ _ _ _ _ _ _ _ (fun W7 hb => ?_))
  have HBB := Lib.hid (hB.trans (hb.mono hB.size))
  go_wp2
  go_ret
  exact ⟨rfl, HBB.out⟩
 ·
  have hm := ht3 hk
  subst hm
  clear ht2 ht3
  refine wp_region_list (tw13_6b W5 D9 D10 D12 D11 D13 D.1 q A2 A3 B1 B2 R2 c2 c3 d1 d2 r2 hlen2 i9 i10 i12 hI2 hI3 R1 r1 hk D.2 hz i11 i13 hV1 hV2 _ _ _ _ _ _ _ _ _ _ _ _ _ _ _ _ _ _ _ _ _ _ _ _ _ _ _ _ _ _ _ _ _ _ _ _ _ _ _ _ _ _ _ _ _ _ _ _ _ _ _ _ _ _ _ _ _ _ _ _ _ _ _ _ _ _ _ _ _ (fun W6 hb => ?_))
  have i8 := i8.below hb i8.lt
  have i9 := i9.below hb i9.lt
  have i10 := i10.below hb i10.lt
  have hI := hI.keep hb
  have hI2 := hI2.keep hb
  have hB := hB.trans (hb.mono hB.size)
  clear hb i11 i12 i13 hI3 hV1 hV2
  by_cases hk1 : q.k = 1
  ·
   clear ht4 i8 i10 hI hI2
   go_upto_region 8 with (fail)
   refine wp_region_list (tw13_8a W6 D8 D9 D10 q B1 B2 d1 d2 i9 hk1 _ _ _ _ _ _ _ _ _ _ _ _ _ _ _ _ _ _ _ _ _ _ _ _ _ _ _ _ _ _ _ _ _ _ _ _ _ _ _ _ _ _ _ _ _ _ _ _ _ _ _ _ _ _ _ _ _ _ _ _ _ _ _ _ _ _ _ _ _ _ (fun W7 hb => ?_))
   have HBB := Lib.hid (hB.trans (hb.mono hB.size))
   go_wp2
   go_ret
   exact ⟨rfl, HBB.out⟩
  ·
   have he := ht4 hk1 hk
   rw [he] at i10 hI2
   clear ht4 he
   go_upto_region 8 with (fail)
   refine wp_region_list (tw13_8c W6 D8 D9 D10 q B1 B2 d1 d2 i9 hk1 hk s A1 A2 c1 c2 hlen i8 i10 hI hI2 _ _ _ _ _ _ _ _ _ _ _ _ _ _ _ _ _ _ _ _ _ _ _ _ _ _ _ _ _ _ _ _ _ _ _ _ _ _ _ _ _ _ _ _ _ _ _ _ _ _ _ _ _ _ _ _ _ _ _ _ _ _ _ _ _ _ _ _ _ _ (fun W7 hb => ?_))
   have HBB := Lib.hid (hB.trans (hb.mono hB.size))
   go_wp2
   go_ret
   exact ⟨rfl, HBB.out⟩
end Go.Proofs.YtmggbbmpckcleaaGreat
