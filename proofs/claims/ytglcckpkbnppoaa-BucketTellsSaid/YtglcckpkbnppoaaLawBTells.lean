/-
  BucketTells: the walk of the statement's function.
-/
import Derived.Test.YtglcckpkbnppoaaBTlM
import Derived.Test.YtglcckpkbnppoaaBStE
namespace Go.Proofs.Ytglcckpkbnppoaa
open Go.RowKit Go.Shelf

set_option maxRecDepth 100000 in
set_option maxHeartbeats 16000000 in
theorem btells_walk (A0 : Option Addr) (cp0 : Nat) (L : List Raw12) (n : Int) (lb ce : ByteArray) (s0 s1 s2 : Int) (odd : Bkt12) (at_ : Int) (w : World) (hm : L.length ≤ maxLen) (hc : InV w A0 (flI12 L)) (hb : ∀ n ∈ L, Bigr12 n) (hn : (-9223372036854775808 ≤ n ∧ n ≤ 9223372036854775807)) (h0 : (-9223372036854775808 ≤ s0 ∧ s0 ≤ 9223372036854775807)) (h1 : (-9223372036854775808 ≤ s1 ∧ s1 ≤ 9223372036854775807)) (h2 : (-9223372036854775808 ≤ s2 ∧ s2 ≤ 9223372036854775807)) (ha : (-9223372036854775808 ≤ at_ ∧ at_ ≤ 9223372036854775807)) :
    Calls Try.prog 3 #[.slice A0 L.length cp0, .int .i64 n, .string lb, .string ce, .agg #[.int .i64 s0, .int .i64 s1, .int .i64 s2], .agg (bktA odd), .int .i64 at_] w fun e w' => e = .returned (.bool true) ∧ Below w.heap.size w w' := by
  have AW := Lib.hid awake12_any
  have HSTO := Lib.hid (fun W h => qstore_any12 A0 cp0 L W (by unfold maxLen at hm; omega) h hb)
  have HC := Lib.hid hc
  have HX := Lib.hid (fun wx => run_cut10 100 lb wx)
  have HY := Lib.hid (fun wx => run_cut10 100 ce wx)
  have P1 := Lib.hid (fun W => pick12_any n 9000 W hn.1 hn.2 (by omega) (by omega))
  have P2 := Lib.hid (fun W => pick12_any n 9 W hn.1 hn.2 (by omega) (by omega))
  have P3 := Lib.hid (fun W => pick12_any n 11 W hn.1 hn.2 (by omega) (by omega))
  have P5 := Lib.hid (fun W => pick12_any s0 5 W h0.1 h0.2 (by omega) (by omega))
  have hp5 := pickN_bd s0 5 (by omega)
  have hp1 := pickN_bd n 9000 (by omega)
  have hp2 := pickN_bd n 9 (by omega)
  have hp3 := pickN_bd n 11 (by omega)
  generalize cut10 100 lb = xl at *
  generalize cut10 100 ce = yt at *
  generalize pickN s0 5 = p5 at *
  generalize pickN n 9000 = p1 at *
  generalize pickN n 9 = p9 at *
  generalize pickN n 11 = p3 at *
  obtain ⟨p4, hp4, hsh⟩ := shl12 hp3
  have HSH := Lib.hid hsh
  have HNG := Lib.hid (IntWalk.i64_in (-p9) (by omega))
  clear hc hb hsh
  obtain ⟨W1, hW1⟩ : ∃ W, W = (w.alloc (.cells #[.int .i64 s0, .int .i64 s1, .int .i64 s2] 23)).alloc (.cells (bktA odd) 25) := ⟨_, rfl⟩
  have iS : Is W1 w.heap.size 23 #[.int .i64 s0, .int .i64 s1, .int .i64 s2] := by rw [hW1]; exact heap_alloc2_old w _ _
  have iO : Is W1 (w.heap.size + 1) 25 (bktA odd) := by rw [hW1]; exact heap_alloc2_new w _ _
  have hB : Below w.heap.size w W1 := by rw [hW1]; exact ((Below.refl _ _).alloc (Nat.le_refl _) _).alloc (by simp) _
  go_enter Try.func3, Try.ntmps3
  go_upto_region 1 with (fail)
  rw [← hW1]
  clear hW1
  generalize w.heap.size + 1 = DO at *
  obtain ⟨DS, hDS⟩ : ∃ D, D = w.heap.size := ⟨_, rfl⟩
  rw [← hDS] at iS
  rw [show Value.pointer (some ⟨w.heap.size, 0, none⟩) = Value.pointer (some ⟨DS, 0, none⟩) by rw [hDS]]
  clear hDS
  go_wp2_with fail
  refine (AW.out _).mono ?_
  rintro e W2 ⟨rfl, hb⟩
  have iS := iS.below hb iS.lt
  have iO := iO.below hb iO.lt
  have hB := hB.trans (hb.mono hB.size)
  clear hb AW
  go_upto_region 2 with (fail)
  refine wp_region_list (tl12_2 W2 lb xl HX _ _ _ _ _ _ _ _ _ _ _ _ _ _ _ _ _ _ _ _ _ _ _ _ _ _ _ _ _ _ _ _ _ _ _ _ _ _ _ _ _ _ _ _ _ _ _ _ _ _ _ _ _ _ _ _ _ _ _ _ _ _ _ _ _ _ _ _ _ _ _ _ _ _ _ _ _ _ _ _ _ _ _ _ _ _ _ _ _ _ _ _ _ _ _ _ _ _ _ _ _ _ _ _ _ _ _ _ _ _ _ _ _ _ _ _ _ _ _ _ _ _ _ _ _ _ _ _ _ _ _ _ _ _ _ _ _ _ _ _ _ _ _ _ _ _ _ _ _ _ _ _ _ _ _ _ _ _ _ _ _ _ _ _ _ _ _ _ _ _ _ _ _ _ _ _ _ _ _ _ _ _ _ _ _ _ _ _ _ _ _ _ _ _ _ _ _ _ _ _ _ _ _ _ _ _ _ _ _ _ _ _ _ _ _ _ _ _ _ _ _ _ _ _ _ _ _ _ _ _ _ _ _ _ _ _ _ _ _ _ _ _ _ _ _ _ _ _ _ _ _ _ _ _ _ _ _ _ _ _ _ _ _ _ _ _ _ _ _ _ _ _ _ _ _ _ _ _ ?_)
  go_upto_region 3 with (fail)
  refine wp_region_list (tl12_3 W2 ce yt HY _ _ _ _ _ _ _ _ _ _ _ _ _ _ _ _ _ _ _ _ _ _ _ _ _ _ _ _ _ _ _ _ _ _ _ _ _ _ _ _ _ _ _ _ _ _ _ _ _ _ _ _ _ _ _ _ _ _ _ _ _ _ _ _ _ _ _ _ _ _ _ _ _ _ _ _ _ _ _ _ _ _ _ _ _ _ _ _ _ _ _ _ _ _ _ _ _ _ _ _ _ _ _ _ _ _ _ _ _ _ _ _ _ _ _ _ _ _ _ _ _ _ _ _ _ _ _ _ _ _ _ _ _ _ _ _ _ _ _ _ _ _ _ _ _ _ _ _ _ _ _ _ _ _ _ _ _ _ _ _ _ _ _ _ _ _ _ _ _ _ _ _ _ _ _ _ _ _ _ _ _ _ _ _ _ _ _ _ _ _ _ _ _ _ _ _ _ _ _ _ _ _ _ _ _ _ _ _ _ _ _ _ _ _ _ _ _ _ _ _ _ _ _ _ _ _ _ _ _ _ _ _ _ _ _ _ _ _ _ _ _ _ _ _ _ _ _ _ _ _ _ _ _ _ _ _ _ _ _ _ _ _ _ _ _ _ _ _ _ _ _ _ _ _ _ _ _ _ ?_)
  clear HX HY
  go_upto_region 4 with (fail)
  refine wp_region_list (tl12_4 W2 n p1 p9 (-p9) p3 p4 P1 P2 P3 HNG HSH _ _ _ _ _ _ _ _ _ _ _ _ _ _ _ _ _ _ _ _ _ _ _ _ _ _ _ _ _ _ _ _ _ _ _ _ _ _ _ _ _ _ _ _ _ _ _ _ _ _ _ _ _ _ _ _ _ _ _ _ _ _ _ _ _ _ _ _ _ _ _ _ _ _ _ _ _ _ _ _ _ _ _ _ _ _ _ _ _ _ _ _ _ _ _ _ _ _ _ _ _ _ _ _ _ _ _ _ _ _ _ _ _ _ _ _ _ _ _ _ _ _ _ _ _ _ _ _ _ _ _ _ _ _ _ _ _ _ _ _ _ _ _ _ _ _ _ _ _ _ _ _ _ _ _ _ _ _ _ _ _ _ _ _ _ _ _ _ _ _ _ _ _ _ _ _ _ _ _ _ _ _ _ _ _ _ _ _ _ _ _ _ _ _ _ _ _ _ _ _ _ _ _ _ _ _ _ _ _ _ _ _ _ _ _ _ _ _ _ _ _ _ _ _ _ _ _ _ _ _ _ _ _ _ _ _ _ _ _ _ _ _ _ _ _ _ _ _ _ _ _ _ _ _ _ _ _ _ _ _ _ _ _ _ _ _ _ _ _ _ _ _ _ _ _ _ _ _ ?_)
  clear P1 P2 P3 HNG HSH
  have iK := Is.new W2 3 #[.int .i64 p1, .int .i64 (-p9), .int .i64 p4]
  have iS := iS.alloc (.cells #[.int .i64 p1, .int .i64 (-p9), .int .i64 p4] 3)
  have iO := iO.alloc (.cells #[.int .i64 p1, .int .i64 (-p9), .int .i64 p4] 3)
  have hB := hB.alloc hB.size (.cells #[.int .i64 p1, .int .i64 (-p9), .int .i64 p4] 3)
  go_upto_block 0 with fail
  generalize W2.alloc (.cells #[.int .i64 p1, .int .i64 (-p9), .int .i64 p4] 3) = W3 at *
  generalize W2.heap.size = DK at *
  refine Code.wp_mono ?_ (tells_sizes12 xl DK p1 (-p9) p4 W3 iK (by omega) (by omega) hp4 _ _ _ _ _ _ _ _ _ _ _ _ _ _ _ _ _ _ _ _ _ _ _ _ _ _ _ _ _ _ _ _ _ _ _ _ _ _ _ _ _ _ _ _ _ _ _ _ _ _ _ _ _ _ _ _ _ _ _ _ _ _ _ _ _ _ _ _ _ _ _ _ _ _ _ _ _ _ _ _ _ _ _ _ _ _ _ _ _ _ _ _ _ _ _ _ _ _ _ _ _ _ _ _ _ _ _ _ _ _ _ _ _ _ _ _ _ _ _ _ _ _ _ _ _ _ _ _ _ _ _ _ _ _ _ _ _ _ _ _ _ _ _ _ _ _ _ _ _ _ _ _ _ _ _ _ _ _ _ _ _ _ _ _ _ _ _ _ _ _ _ _ _ _ _ _ _ _ _ _ _ _ _ _ _ _ _ _ _ _ _ _ _ _ _ _ _ _ _ _ _ _ _ _ _ _ _ _ _ _ _ _ _ _ _ _ _ _ _ _ _ _ _ _ _ _ _ _ _ _ _ _ _ _ _ _ _ _ _ _ _ _ _ _ _ _ _ _ _ _ _ _ _ _ _ _ _ _ _ _ _ _ _ _ _ _ _ _ _ _ _ _ _ _ _ rfl)
  rintro ex ⟨T, Df⟩ W4 ⟨rfl, hDf, ys, hT, hb⟩
  simp only at hT hDf
  subst hT
  subst hDf
  have iS := iS.below hb iS.lt
  have iO := iO.below hb iO.lt
  have hB := hB.trans (hb.mono hB.size)
  clear hb iK
  go_upto_region 12 with (fail)
  refine wp_region_list (tl12_12 W4 xl n hn _ _ _ _ _ _ _ _ _ _ _ _ _ _ _ _ _ _ _ _ _ _ _ _ _ _ _ _ _ _ _ _ _ _ _ _ _ _ _ _ _ _ _ _ _ _ _ _ _ _ _ _ _ _ _ _ _ _ _ _ _ _ _ _ _ _ _ _ _ _ _ _ _ _ _ _ _ _ _ _ _ _ _ _ _ _ _ _ _ _ _ _ _ _ _ _ _ _ _ _ _ _ _ _ _ _ _ _ _ _ _ _ _ _ _ _ _ _ _ _ _ _ _ _ _ _ _ _ _ _ _ _ _ _ _ _ _ _ _ _ _ _ _ _ _ _ _ _ _ _ _ _ _ _ _ _ _ _ _ _ _ _ _ _ _ _ _ _ _ _ _ _ _ _ _ _ _ _ _ _ _ _ _ _ _ _ _ _ _ _ _ _ _ _ _ _ _ _ _ _ _ _ _ _ _ _ _ _ _ _ _ _ _ _ _ _ _ _ _ _ _ _ _ _ _ _ _ _ _ _ _ _ _ _ _ _ _ _ _ _ _ _ _ _ _ _ _ _ _ _ _ _ _ _ _ _ _ _ _ _ _ _ _ _ _ _ _ _ _ _ _ _ _ _ _ _ _ ?_)
  intro W5 hb
  have iS := iS.below hb iS.lt
  have iO := iO.below hb iO.lt
  have hB := hB.trans (hb.mono hB.size)
  clear hb
  go_wp2_with fail
  refine (HSTO.out _ (HC.out.keep hB)).mono ?_
  rintro e W6 ⟨s, As, cs, rfl, hiv, nS, hb⟩
  have iS := iS.below hb iS.lt
  have iO := iO.below hb iO.lt
  have hB := hB.trans (hb.mono hB.size)
  clear hb HSTO HC
  have hls : s.B.length ≤ 64 := by have := hiv.len; omega
  have hls8 : 8 ≤ s.B.length := by have := hiv.len; omega
  have hms : -1000000 ≤ s.many ∧ s.many ≤ 1000000 := by have := hiv.rt.bnd.many; omega
  clear hiv
  have iA := Is.new W6 31 (stoA s As cs)
  have nS := nS.keep ((Below.refl _ _).alloc (Nat.le_refl _) (.cells (stoA s As cs) 31))
  have iS := iS.alloc (.cells (stoA s As cs) 31)
  have iO := iO.alloc (.cells (stoA s As cs) 31)
  have hB := hB.alloc hB.size (.cells (stoA s As cs) 31)
  go_upto_region 15 with (fail)
  generalize W6.alloc (.cells (stoA s As cs) 31) = W7 at *
  generalize W6.heap.size = D24 at *
  have HOW := Lib.hid (down_any12 s As cs W7 nS (by omega))
  go_wp2_with (refine wpList_load_row rfl 31 _ rfl D24 rfl _ _ _ _ iA Try.underlying31 rfl infoSto12 ?_)
  refine HOW.out.mono ?_
  rintro e W8 ⟨Az, cz, rfl, nR, hbo⟩
  clear HOW
  obtain ⟨g, cur, rfl, hgB, hgc, _⟩ := nR.open (by omega)
  have iZ := Is.new W8 31 (stoA s (some ⟨g, 0, none⟩) cz)
  have nR := nR.alloc (.cells (stoA s (some ⟨g, 0, none⟩) cz) 31)
  have hgZ : W8.heap.size ≠ g := by have := hgc.lt; omega
  have hZB : W7.heap.size ≤ W8.heap.size := hbo.size
  have hbo := hbo.alloc hbo.size (.cells (stoA s (some ⟨g, 0, none⟩) cz) 31)
  clear hgc
  go_upto_region 16 with (fail)
  generalize W8.alloc (.cells (stoA s (some ⟨g, 0, none⟩) cz) 31) = W9 at *
  generalize W8.heap.size = DZ at *
  have PK := Lib.hid (fun W => pick12_any at_ (s.B.length : Int) W ha.1 ha.2 (by omega) (by omega))
  have hpk := pickN_bd at_ (s.B.length : Int) (by omega)
  generalize pickN at_ (s.B.length : Int) = pk at *
  obtain ⟨K, rfl⟩ : ∃ K : Nat, pk = (K : Int) := ⟨pk.toNat, by omega⟩
  have hK : K < s.B.length := by omega
  have z0 : W9.cell? ⟨DZ, 0, none⟩ = some (.slice (some ⟨g, 0, none⟩) s.B.length cz) := iZ.cell 0
  have e0 : W9.cell? ⟨DS, 0, none⟩ = some (.int .i64 s0) := (iS.below hbo iS.lt).cell 0
  clear hpk
  go_upto_region 17 with (go_at_call 10; refine (PK.out _).mono ?_; rintro e wq ⟨rfl, rfl⟩)
  clear z0 PK
  go_upto_block 2 with (go_at_call 10; refine (P5.out _).mono ?_; rintro e wq ⟨rfl, rfl⟩)
  clear e0 P5
  refine Code.wp_mono ?_ (tells_switch12 n p5 hp5 DO DZ g cz K W7.heap.size s odd W9 hK (by omega) hms hgB hgZ hZB (iO.below hbo iO.lt) iZ nR _ _ _ _ _ _ _ _ _ _ _ _ _ _ _ _ _ _ _ _ _ _ _ _ _ _ _ _ _ _ _ _ _ _ _ _ _ _ _ _ _ _ _ _ _ _ _ _ _ _ _ _ _ _ _ _ _ _ _ _ _ _ _ _ _ _ _ _ _ _ _ _ _ _ _ _ _ _ _ _ _ _ _ _ _ _ _ _ _ _ _ _ _ _ _ _ _ _ _ _ _ _ _ _ _ _ _ _ _ _ _ _ _ _ _ _ _ _ _ _ _ _ _ _ _ _ _ _ _ _ _ _ _ _ _ _ _ _ _ _ _ _ _ _ _ _ _ _ _ _ _ _ _ _ _ _ _ _ _ _ _ _ _ _ _ _ _ _ _ _ _ _ _ _ _ _ _ _ _ _ _ _ _ _ _ _ _ _ _ _ _ _ _ _ _ _ _ _ _ _ _ _ _ _ _ _ _ _ _ _ _ _ _ _ _ _ _ _ _ _ _ _ _ _ _ _ _ _ _ _ _ _ _ _ _ _ _ _ _ _ _ _ _ _ _ _ _ _ _ _ _ _ _ _ _ _ _ _ _ _ _ _ _ _ _ _ _ _ _ _ _ _ _ _ rfl)
  rintro ex ⟨T, Df⟩ WA ⟨rfl, hDf, ys, hT, ⟨z, Ay, cy, hlz, iZ, nZ, hb⟩⟩
  simp only at hT hDf
  subst hT
  subst hDf
  have hbo := hbo.trans hb
  have iS := iS.below hbo iS.lt
  have iA := iA.below hbo iA.lt
  have nS := nS.keep hbo
  have hB := hB.trans (hbo.mono hB.size)
  clear hb hbo nR iO hgB hgZ hZB hK
  go_upto_region 27 with (fail)
  refine wp_region_list (tl12_27 WA D24 DZ s z As Ay cs cy iA iZ _ _ _ _ _ _ _ _ _ _ _ _ _ _ _ _ _ _ _ _ _ _ _ _ _ _ _ _ _ _ _ _ _ _ _ _ _ _ _ _ _ _ _ _ _ _ _ _ _ _ _ _ _ _ _ _ _ _ _ _ _ _ _ _ _ _ _ _ _ _ _ _ _ _ _ _ _ _ _ _ _ _ _ _ _ _ _ _ _ _ _ _ _ _ _ _ _ _ _ _ _ _ _ _ _ _ _ _ _ _ _ _ _ _ _ _ _ _ _ _ _ _ _ _ _ _ _ _ _ _ _ _ _ _ _ _ _ _ _ _ _ _ _ _ _ _ _ _ _ _ _ _ _ _ _ _ _ _ _ _ _ _ _ _ _ _ _ _ _ _ _ _ _ _ _ _ _ _ _ _ _ _ _ _ _ _ _ _ _ _ _ _ _ _ _ _ _ _ _ _ _ _ _ _ _ _ _ _ _ _ _ _ _ _ _ _ _ _ _ _ _ _ _ _ _ _ _ _ _ _ _ _ _ _ _ _ _ _ _ _ _ _ _ _ _ _ _ _ _ _ _ _ _ _ _ _ _ _ _ _ _ _ _ _ _ _ _ _ _ _ _ _ _ _ _ _ _ ?_)
  have iW := Is.new WA 31 #[.slice As s.B.length cs, .int .i64 s.many, .int .i64 s.gone, .slice Ay z.B.length cy, .int .i64 z.many, .int .i64 z.gone]
  have iS := iS.alloc (.cells #[.slice As s.B.length cs, .int .i64 s.many, .int .i64 s.gone, .slice Ay z.B.length cy, .int .i64 z.many, .int .i64 z.gone] 31)
  have nS := nS.keep ((Below.refl _ _).alloc (Nat.le_refl _) (.cells #[.slice As s.B.length cs, .int .i64 s.many, .int .i64 s.gone, .slice Ay z.B.length cy, .int .i64 z.many, .int .i64 z.gone] 31))
  have nZ := nZ.keep ((Below.refl _ _).alloc (Nat.le_refl _) (.cells #[.slice As s.B.length cs, .int .i64 s.many, .int .i64 s.gone, .slice Ay z.B.length cy, .int .i64 z.many, .int .i64 z.gone] 31))
  have hB := hB.alloc hB.size (.cells #[.slice As s.B.length cs, .int .i64 s.many, .int .i64 s.gone, .slice Ay z.B.length cy, .int .i64 z.many, .int .i64 z.gone] 31)
  clear iA iZ
  go_upto_block 3 with fail
  generalize WA.alloc (.cells #[.slice As s.B.length cs, .int .i64 s.many, .int .i64 s.gone, .slice Ay z.B.length cy, .int .i64 z.many, .int .i64 z.gone] 31) = WB at *
  generalize WA.heap.size = DW at *
  refine Code.wp_mono ?_ (tells_stores12 s z As Ay cs cy DW DS WB (by omega) hlz nS nZ iW xl yt s0 s1 s2 iS h1 h2 _ _ _ _ _ _ _ _ _ _ _ _ _ _ _ _ _ _ _ _ _ _ _ _ _ _ _ _ _ _ _ _ _ _ _ _ _ _ _ _ _ _ _ _ _ _ _ _ _ _ _ _ _ _ _ _ _ _ _ _ _ _ _ _ _ _ _ _ _ _ _ _ _ _ _ _ _ _ _ _ _ _ _ _ _ _ _ _ _ _ _ _ _ _ _ _ _ _ _ _ _ _ _ _ _ _ _ _ _ _ _ _ _ _ _ _ _ _ _ _ _ _ _ _ _ _ _ _ _ _ _ _ _ _ _ _ _ _ _ _ _ _ _ _ _ _ _ _ _ _ _ _ _ _ _ _ _ _ _ _ _ _ _ _ _ _ _ _ _ _ _ _ _ _ _ _ _ _ _ _ _ _ _ _ _ _ _ _ _ _ _ _ _ _ _ _ _ _ _ _ _ _ _ _ _ _ _ _ _ _ _ _ _ _ _ _ _ _ _ _ _ _ _ _ _ _ _ _ _ _ _ _ _ _ _ _ _ _ _ _ _ _ _ _ _ _ _ _ _ _ _ _ _ _ _ _ _ _ _ _ _ _ _ _ _ _ _ _ _ _ _ _ _ rfl)
  rintro ex ⟨T, Df⟩ WC ⟨rfl, hDf, ys, hT, hb⟩
  simp only at hT hDf
  subst hT
  subst hDf
  have hB := hB.trans (hb.mono hB.size)
  clear hb iW iS nS nZ
  go_wp2
  go_ret
  exact ⟨rfl, hB⟩
theorem btells_walk2 (A0 : Option Addr) (cp0 : Nat) (L : List Raw12) (n : Int) (lb ce : ByteArray) (st : Raw12) (odd : Bkt12) (at_ : Int) (w : World) (hm : L.length ≤ maxLen) (hc : InV w A0 (flI12 L)) (hb : ∀ n ∈ L, Bigr12 n) (hn : (-9223372036854775808 ≤ n ∧ n ≤ 9223372036854775807)) (_ : lb.size ≤ maxLen) (_ : ce.size ≤ maxLen) (hst : Bigr12 st) (_ : (-9223372036854775808 ≤ odd.st ∧ odd.st ≤ 9223372036854775807)) (ha : (-9223372036854775808 ≤ at_ ∧ at_ ≤ 9223372036854775807)) :
    Calls Try.prog 3 #[.slice A0 L.length cp0, .int .i64 n, .string lb, .string ce, .agg #[.int .i64 st.1, .int .i64 st.2.1, .int .i64 st.2.2], .agg (bktA odd), .int .i64 at_] w fun e w' => e = .returned (.bool true) ∧ Below w.heap.size w w' :=
  btells_walk A0 cp0 L n lb ce st.1 st.2.1 st.2.2 odd at_ w hm hc hb hn hst.1 hst.2.1 hst.2.2 ha
end Go.Proofs.Ytglcckpkbnppoaa
