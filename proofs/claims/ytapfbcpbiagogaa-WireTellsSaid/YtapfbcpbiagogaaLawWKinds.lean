/-
  WireKinds: the walk of the statement's function.
-/
import Derived.Test.YtapfbcpbiagogaaLWKR
import Derived.Test.YtapfbcpbiagogaaLawWLengths
namespace Go.Proofs.Ytapfbcpbiagogaa
open Go.RowKit Go.Shelf
set_option linter.unusedSimpArgs false

theorem answ_ok11 {D : Rsp11} (h : may11 D = true) : answR11 D = .tuple #[.string (rspB11 D), .int .i64 0] := by rw [answR11, answV11, if_pos h]
theorem kind_text11 {k : Int} (h0 : 0 ≤ k) (h1 : k < 256) : (⟨#[0, 0, 0]⟩ : ByteArray) ++ strOfNums [k] = num10 k := by
  rw [num_small11 h0 h1]
  apply ByteArray.ext
  apply Array.toList_inj.1
  simp [strOfNums, ByteArray.data_append]
theorem infoThr11 : (Try.prog.info? 23).map (·.size) = some 3 := by kernel_rfl
set_option maxRecDepth 100000 in
set_option maxHeartbeats 8000000 in
theorem wkinds_walk (kind : Int) (A1 : Option Addr) (p1 : Nat) (R1 : List Int) (n0 n1 n2 : Int) (other : Int) (w : World) (hk : -9223372036854775808 ≤ kind ∧ kind ≤ 9223372036854775807)
    (hm1 : R1.length ≤ maxLen) (hc1 : InV w A1 (iV11 R1)) (hb1 : Big11 R1) (ha : -9223372036854775808 ≤ n0 ∧ n0 ≤ 9223372036854775807) (hb : -9223372036854775808 ≤ n1 ∧ n1 ≤ 9223372036854775807) (hcc : -9223372036854775808 ≤ n2 ∧ n2 ≤ 9223372036854775807) (ho : -9223372036854775808 ≤ other ∧ other ≤ 9223372036854775807) :
    Calls Try.prog 6 #[.int .i64 kind, .slice A1 R1.length p1, .agg #[.int .i64 n0, .int .i64 n1, .int .i64 n2], .int .i64 other] w fun e w' => e = .returned (.bool true) ∧ Below w.heap.size w w' := by
  have AW := Lib.hid awake11_any
  have Q1 := Lib.hid (fun W h => qreq_any11 kind A1 p1 R1 W hk (by unfold maxLen at hm1; omega) hb1 h)
  have Q2 := Lib.hid (fun W h => qrsp_any11 kind n0 n1 n2 A1 p1 R1 W hk ha hb hcc (by unfold maxLen at hm1; omega) hb1 h)
  have PK := Lib.hid (fun W => pick11_any other 7 W ho.1 ho.2 (by omega) (by omega))
  have hp := pickN_bd other 7 (by omega)
  have r1 := req_right11 kind R1
  have r2 := resp_may11 kind n0 n1 n2 R1
  generalize req11 kind R1 = D1 at *
  generalize resp11 kind n0 n1 n2 R1 = D2 at *
  generalize pickN other 7 = k at *
  have HC1 := Lib.hid hc1
  clear hc1 hb1
  obtain ⟨s1, l1, m1⟩ := load_short11 r1
  obtain ⟨v1, v2, v3, v4, l2, m2⟩ := may_sizes11 r2
  have s2 := rsp_size11 D2
  have hz2 := lst_size10 D2.C
  have hz3 := (right_sizes11 r1).1
  have E1 := Lib.hid (fun A c B d W h h' => wenc_any11 D1.k A B c d D1.L D1.C W (by omega) (by omega) h h')
  have E2 := Lib.hid (fun A c W h => wansw_any11 D2.k D2.st D2.many D2.room A c D2.C W (by omega) h)
  rw [show encR11 ⟨D1.k, D1.L, D1.C⟩ = _ from enc_ok11 r1] at E1
  rw [show answR11 ⟨D2.k, D2.st, D2.C, D2.many, D2.room⟩ = _ from answ_ok11 r2] at E2
  have HD1 := Lib.hid (dec_other11 r1 (k := k) (by omega))
  have HD2 := Lib.hid (read_other11 r2 (k := k) (by omega))
  have X1 := kind_text11 (k := k) (by omega) (by omega)
  have Y1 := req_other11 D1 k
  have Y2 := rsp_other11 D2 k
  have hks : (strOfNums [k]).size = 1 := by rw [strOfNums_size]; rfl
  have HSL1 := Lib.hid (run_low11 (reqB11 D1) 4 (by omega) (by omega))
  have HSL2 := Lib.hid (run_low11 (rspB11 D2) 4 (by omega) (by omega))
  rw [show (4 : Int).toNat = 4 from rfl] at HSL1 HSL2
  have hx1 : (⟨#[0, 0, 0]⟩ : ByteArray) ++ strOfNums [k] ++ (reqB11 D1).extract 4 (reqB11 D1).size = reqB11 ⟨k, D1.L, D1.C⟩ := by rw [X1]; exact Y1
  have hx2 : (⟨#[0, 0, 0]⟩ : ByteArray) ++ strOfNums [k] ++ (rspB11 D2).extract 4 (rspB11 D2).size = rspB11 ⟨k, D2.st, D2.C, D2.many, D2.room⟩ := by rw [X1]; exact Y2
  rw [← hx1] at HD1
  rw [← hx2] at HD2
  have N1 := Lib.hid (fun W => wdec11 ((⟨#[0, 0, 0]⟩ : ByteArray) ++ strOfNums [k] ++ (reqB11 D1).extract 4 (reqB11 D1).size) W)
  have N2 := Lib.hid (fun W => wread11 ((⟨#[0, 0, 0]⟩ : ByteArray) ++ strOfNums [k] ++ (rspB11 D2).extract 4 (rspB11 D2).size) W)
  have e1 : ((reqB11 D1).extract 4 (reqB11 D1).size).size ≤ (reqB11 D1).size := by rw [ByteArray.size_extract]; omega
  have e2 : ((rspB11 D2).extract 4 (rspB11 D2).size).size ≤ (rspB11 D2).size := by rw [ByteArray.size_extract]; omega
  have e3 : ((⟨#[0, 0, 0]⟩ : ByteArray) ++ strOfNums [k]).size = 4 := by rw [X1, num_size10]
  clear X1 Y1 Y2 hx1 hx2
  generalize decV11 ((⟨#[0, 0, 0]⟩ : ByteArray) ++ strOfNums [k] ++ (reqB11 D1).extract 4 (reqB11 D1).size) = T1 at *
  generalize readV11 ((⟨#[0, 0, 0]⟩ : ByteArray) ++ strOfNums [k] ++ (rspB11 D2).extract 4 (rspB11 D2).size) = T2 at *
  generalize (reqB11 D1).extract 4 (reqB11 D1).size = s4 at *
  generalize (rspB11 D2).extract 4 (rspB11 D2).size = t4 at *
  generalize reqB11 D1 = s at *
  generalize rspB11 D2 = t at *
  have HCV : Hid (∀ {W : World} {g : Nat}, Is W g 5 #[.int .u8 k] → (convert 45 9 (.slice (some ⟨g, 0, none⟩) 1 1)).run Try.prog W = .ok (.string (strOfNums [k])) W) := Lib.hid (fun h => convL11 [k] (by rfl) h)
  generalize strOfNums [k] = K1 at *
  have HK1 : Hid (IntKind.u8.wrap k = k) := Lib.hid (by rw [show IntKind.u8.wrap k = k % 256 from rfl]; omega)
  have G1 := Lib.hid (show ¬ 9223372036854775807 < 3 + K1.size by omega)
  have G2 := Lib.hid (show ¬ 9223372036854775807 < ((⟨#[0, 0, 0]⟩ : ByteArray) ++ K1).size + s4.size by omega)
  have G3 := Lib.hid (show ¬ 9223372036854775807 < 3 + K1.size + s4.size by omega)
  have G4 := Lib.hid (show ¬ 9223372036854775807 < ((⟨#[0, 0, 0]⟩ : ByteArray) ++ K1).size + t4.size by omega)
  have G5 := Lib.hid (show ¬ 9223372036854775807 < 3 + K1.size + t4.size by omega)
  have h12 : ¬ (s.size : Int) < 12 := by omega
  have h20 : ¬ (t.size : Int) < 20 := by omega
  clear e1 e2 e3 hks s1 s2 hz2 m2
  obtain ⟨qk, L, C⟩ := D1
  obtain ⟨ak, ast, AC, am, ar⟩ := D2
  have HM := Lib.hid (show mayK11 ⟨qk, L, C⟩ k = ((decide (1 ≤ k) && decide (k ≤ 4)) && (decide (k = qk) || (!(decide (qk = 1) && decide (0 < L.length)) && (decide (L.length = 0) || (!decide (k = 4) && !decide (k = 1)))))) from rfl)
  simp only at *
  clear r1 r2
  go_enter Try.func6, Try.ntmps6
  go_wp2_with fail
  have iN0 := Is.new w 23 #[.int .i64 n0, .int .i64 n1, .int .i64 n2]
  have hB0 : Below w.heap.size w (w.alloc (.cells #[.int .i64 n0, .int .i64 n1, .int .i64 n2] 23)) := (Below.refl _ _).alloc (Nat.le_refl _) _
  generalize w.alloc (.cells #[.int .i64 n0, .int .i64 n1, .int .i64 n2] 23) = W0 at *
  refine (AW.out _).mono ?_
  rintro e W1 ⟨rfl, hb⟩
  have iN := iN0.below hb iN0.lt
  have hB1 := hB0.trans (hb.mono hB0.size)
  clear hb hB0 iN0
  go_wp2_with fail
  refine (Q1.out _ (HC1.out.keep hB1)).mono ?_
  rintro e W2 ⟨B1, d1, B2, d2, rfl, j1, j2, hb⟩
  have iN := (iN.below hb iN.lt).alloc (.cells #[.int .i64 qk, .slice B1 L.length d1, .slice B2 C.length d2] 26)
  have hB2 := hB1.trans (hb.mono hB1.size)
  clear hb hB1
  have iq := Is.new W2 26 #[.int .i64 qk, .slice B1 L.length d1, .slice B2 C.length d2]
  have hB2 := hB2.alloc hB2.size (.cells #[.int .i64 qk, .slice B1 L.length d1, .slice B2 C.length d2] 26)
  have hK := (Below.refl W2.heap.size W2).alloc (Nat.le_refl _) (.cells #[.int .i64 qk, .slice B1 L.length d1, .slice B2 C.length d2] 26)
  have j1 := j1.keep hK
  have j2 := j2.keep hK
  clear hK
  go_wp2_with (refine wpList_load_row rfl 23 _ rfl w.heap.size rfl _ _ _ _ iN Try.underlying23 rfl infoThr11 ?_)
  generalize W2.alloc (.cells #[.int .i64 qk, .slice B1 L.length d1, .slice B2 C.length d2] 26) = X2 at *
  generalize W2.heap.size = gq at *
  refine (Q2.out _ (HC1.out.keep hB2)).mono ?_
  rintro e W3 ⟨B3, d3, rfl, j3, hb⟩
  have iq := (iq.below hb iq.lt).alloc (.cells #[.int .i64 ak, .int .i64 ast, .slice B3 AC.length d3, .int .i64 am, .int .i64 ar] 28)
  have hK := (Below.refl W3.heap.size W3).alloc (Nat.le_refl _) (.cells #[.int .i64 ak, .int .i64 ast, .slice B3 AC.length d3, .int .i64 am, .int .i64 ar] 28)
  have j1 := (j1.keep hb).keep hK
  have j2 := (j2.keep hb).keep hK
  have j3 := j3.keep hK
  have hB3 := hB2.trans (hb.mono hB2.size)
  have hB3 := hB3.alloc hB3.size (.cells #[.int .i64 ak, .int .i64 ast, .slice B3 AC.length d3, .int .i64 am, .int .i64 ar] 28)
  have ia := Is.new W3 28 #[.int .i64 ak, .int .i64 ast, .slice B3 AC.length d3, .int .i64 am, .int .i64 ar]
  clear hb hB2 hK iN
  go_wp2_with (refine wpList_load_row rfl 26 _ rfl gq rfl _ _ _ _ iq Try.underlying26 rfl infoReq11 ?_)
  generalize W3.alloc (.cells #[.int .i64 ak, .int .i64 ast, .slice B3 AC.length d3, .int .i64 am, .int .i64 ar] 28) = X3 at *
  generalize W3.heap.size = ga at *
  refine (E1.out _ _ _ _ _ j1 j2).mono ?_
  rintro e W4 ⟨rfl, hb⟩
  have iq := iq.below hb iq.lt
  have ia := ia.below hb ia.lt
  have j3 := j3.keep hb
  have hB4 := hB3.trans (hb.mono hB3.size)
  clear hb hB3 j1 j2
  go_wp2_with (refine wpList_load_row rfl 28 _ rfl ga rfl _ _ _ _ ia Try.underlying28 rfl infoRsp11 ?_)
  refine (E2.out _ _ _ j3).mono ?_
  rintro e W5 ⟨rfl, hb⟩
  have iq := iq.below hb iq.lt
  have hB5 := hB4.trans (hb.mono hB4.size)
  clear hb hB4 j3 ia
  clear AW Q1 Q2 E1 E2
  go_wp2_with (go_at_call 15; refine (PK.out _).mono ?_; rintro e w1 ⟨rfl, rfl⟩)
  clear h12 h20
  refine Code.wp_mono ?_ (kinds11_dec w W5 k s K1 s4 T1 gq #[.int .i64 qk, .slice B1 L.length d1, .slice B2 C.length d2] HK1 HSL1 G1 G2 G3 HCV N1 hB5.size hB5 iq iq.lt _ _ _ _ _ _ _ _ _ _ _ _ _ _ _ _ _ _ _ _ _ _ _ _ _ _ _ _ _ _ _ _ _ _ _ _ _ _ _ _ _ _ _ _ _ _ _ _ _ _ _ _ _ _ _ _ _ _ _ _ _ _ _ _ _ _ _ _ _ _ _ _ _ _ _ _ _ _ _ _ _ _ _ _ _ _ _ _ _ _ _ _ _ _ _ _ _ _ _ _ _ _ _ _ _ _ _ _ _ _ _ _ _ _ _ _ _ _ _ _ _ _ _ _ _ _ _ _ _ _ _ _ _ _ _ _ _ _ _ _ _ _ _ _ _ _ _ _ _ _ _)
  rintro ex ⟨T, Ds⟩ W6 ⟨rfl, hD, DB1, DD1, b1, c1, b2, c2, hT, hB6, hN6, iq, ib, hDD⟩
  simp only at hT hD
  subst hT
  subst hD
  have hB6' := hB6
  clear hB5
  go_wp2
  refine Code.wp_mono ?_ (kinds11_read w W6 k t K1 t4 T2 gq #[.int .i64 qk, .slice B1 L.length d1, .slice B2 C.length d2] DD1 #[.int .i64 T1.1.k, .slice b1 T1.1.L.length c1, .slice b2 T1.1.C.length c2] HK1 HSL2 G1 G4 G5 HCV N2 hB6.size hB6 iq iq.lt ib ib.lt _ _ _ _ _ _ _ _ _ _ _ _ _ _ _ _ _ _ _ _ _ _ _ _ _ _ _ _ _ _ _ _ _ _ _ _ _ _ _ _ _ _ _ _ _ _ _ _ _ _ _ _ _ _ _ _ _ _ _ _ _ _ _ _ _ _ _ _ _ _ _ _ _ _ _ _ _ _ _ _ _ _ _ _ _ _ _ _ _ _ _ _ _ _ _ _ _ _ _ _ _ _ _ _ _ _ _ _ _ _ _ _ _ _ _ _ _ _ _ _ _ _ _ _ _ _ _ _ _ _ _ _ _ _ _ _ _ _ _ _ _ _ _ _ _ _ _ _ _ _ _)
  rintro ex ⟨T, Ds⟩ W7 ⟨rfl, hD, DB2, DD2, b3, c3, hT, hB7, hN7, iq, ib, ic, hDD2⟩
  simp only at hT hD
  subst hT
  subst hD
  have q0 : W7.cell? ⟨gq, 0, none⟩ = some (.int .i64 qk) := iq.cell 0
  have q1 : W7.cell? ⟨gq, 1, none⟩ = some (.slice B1 L.length d1) := iq.cell 1
  have r0 : W7.cell? ⟨DD1, 0, none⟩ = some (.int .i64 T1.1.k) := ib.cell 0
  have s0 : W7.cell? ⟨DD2, 0, none⟩ = some (.int .i64 T2.1.k) := ic.cell 0
  clear iq ib ic PK HC1 N1 N2 HCV HSL1 HSL2 G1 G2 G3 G4 G5 HK1
  have hB7 := hB7
  clear hB6 hB6'
  by_cases hkq : k = qk
  · have g1 : 1 ≤ k := by omega
    have g4 : k ≤ 4 := by omega
    subst hkq
    have hm : mayK11 ⟨k, L, C⟩ k = true := by rw [HM.out]; first | (simp only [Bool.and_eq_true, Bool.or_eq_true, decide_eq_true_eq, Bool.not_eq_true', Bool.and_eq_false_iff, decide_eq_false_iff_not, not_true_eq_false, not_false_eq_true, true_and, and_true, true_or, or_true, false_or, or_false, false_and, and_false]; done) | (simp only [Bool.and_eq_true, Bool.or_eq_true, decide_eq_true_eq, Bool.not_eq_true', Bool.and_eq_false_iff, decide_eq_false_iff_not, not_true_eq_false, not_false_eq_true, true_and, and_true, true_or, or_true, false_or, or_false, false_and, and_false]; omega) | (simp; done) | (simp; omega)
    have ht : T1 = (⟨k, L, C⟩, 0) := by rw [HD1.out, hm, if_pos rfl]
    clear hm
    subst ht
    rcases HD2.out with h2 | ⟨h2, h3⟩
    · clear HD1 HD2 HM
      go_wp2
      all_goals
        (go_ret
         exact ⟨rfl, hB7⟩)
    · subst h3
      clear HD1 HD2 HM
      go_wp2
      all_goals
        (go_ret
         exact ⟨rfl, hB7⟩)
  · by_cases h1 : k < 1
    · obtain rfl : k = 0 := by omega
      have hm : mayK11 ⟨qk, L, C⟩ 0 = false := by rw [← Bool.not_eq_true, HM.out]; first | (simp only [Bool.and_eq_true, Bool.or_eq_true, decide_eq_true_eq, Bool.not_eq_true', Bool.and_eq_false_iff, decide_eq_false_iff_not, not_true_eq_false, not_false_eq_true, true_and, and_true, true_or, or_true, false_or, or_false, false_and, and_false]; done) | (simp only [Bool.and_eq_true, Bool.or_eq_true, decide_eq_true_eq, Bool.not_eq_true', Bool.and_eq_false_iff, decide_eq_false_iff_not, not_true_eq_false, not_false_eq_true, true_and, and_true, true_or, or_true, false_or, or_false, false_and, and_false]; omega) | (simp; done) | (simp; omega)
      have ht : T1 = (zreq11, 13) := by rw [HD1.out, hm, if_neg (by decide)]
      clear hm
      subst ht
      rcases HD2.out with h2 | ⟨h2, h3⟩
      · clear HD1 HD2 HM
        go_wp2
        all_goals
          (go_ret
           exact ⟨rfl, hB7⟩)
      · subst h3
        clear HD1 HD2 HM
        go_wp2
        all_goals
          (go_ret
           exact ⟨rfl, hB7⟩)
    · by_cases h5 : 4 < k
      · have g1 : 1 ≤ k := by omega
        have g5 : ¬ k ≤ 4 := by omega
        have hm : mayK11 ⟨qk, L, C⟩ k = false := by rw [← Bool.not_eq_true, HM.out]; first | (simp only [Bool.and_eq_true, Bool.or_eq_true, decide_eq_true_eq, Bool.not_eq_true', Bool.and_eq_false_iff, decide_eq_false_iff_not, not_true_eq_false, not_false_eq_true, true_and, and_true, true_or, or_true, false_or, or_false, false_and, and_false]; done) | (simp only [Bool.and_eq_true, Bool.or_eq_true, decide_eq_true_eq, Bool.not_eq_true', Bool.and_eq_false_iff, decide_eq_false_iff_not, not_true_eq_false, not_false_eq_true, true_and, and_true, true_or, or_true, false_or, or_false, false_and, and_false]; omega) | (simp; done) | (simp; omega)
        have ht : T1 = (zreq11, 13) := by rw [HD1.out, hm, if_neg (by decide)]
        clear hm
        subst ht
        rcases HD2.out with h2 | ⟨h2, h3⟩
        · clear HD1 HD2 HM
          go_wp2
          all_goals
            (go_ret
             exact ⟨rfl, hB7⟩)
        · exfalso; omega
      · have g1 : 1 ≤ k := by omega
        have g4 : k ≤ 4 := by omega
        by_cases hp1 : qk = 1
        · subst hp1
          have b1 : (k == 1) = false := by simpa using hkq
          by_cases hl : 0 < (L.length : Int)
          · have hl9 : 0 < L.length := by omega
            have hm : mayK11 ⟨1, L, C⟩ k = false := by rw [← Bool.not_eq_true, HM.out]; first | (simp only [Bool.and_eq_true, Bool.or_eq_true, decide_eq_true_eq, Bool.not_eq_true', Bool.and_eq_false_iff, decide_eq_false_iff_not, not_true_eq_false, not_false_eq_true, true_and, and_true, true_or, or_true, false_or, or_false, false_and, and_false]; done) | (simp only [Bool.and_eq_true, Bool.or_eq_true, decide_eq_true_eq, Bool.not_eq_true', Bool.and_eq_false_iff, decide_eq_false_iff_not, not_true_eq_false, not_false_eq_true, true_and, and_true, true_or, or_true, false_or, or_false, false_and, and_false]; omega) | (simp; done) | (simp; omega)
            have ht : T1 = (zreq11, 13) := by rw [HD1.out, hm, if_neg (by decide)]
            clear hm
            subst ht
            rcases HD2.out with h2 | ⟨h2, h3⟩
            · clear HD1 HD2 HM
              go_wp2
              all_goals
                (go_ret
                 exact ⟨rfl, hB7⟩)
            · subst h3
              clear HD1 HD2 HM
              go_wp2
              all_goals
                (go_ret
                 exact ⟨rfl, hB7⟩)
          · have hl0 : (L.length : Int) = 0 := by omega
            have hm : mayK11 ⟨1, L, C⟩ k = true := by rw [HM.out]; first | (simp only [Bool.and_eq_true, Bool.or_eq_true, decide_eq_true_eq, Bool.not_eq_true', Bool.and_eq_false_iff, decide_eq_false_iff_not, not_true_eq_false, not_false_eq_true, true_and, and_true, true_or, or_true, false_or, or_false, false_and, and_false]; done) | (simp only [Bool.and_eq_true, Bool.or_eq_true, decide_eq_true_eq, Bool.not_eq_true', Bool.and_eq_false_iff, decide_eq_false_iff_not, not_true_eq_false, not_false_eq_true, true_and, and_true, true_or, or_true, false_or, or_false, false_and, and_false]; omega) | (simp; done) | (simp; omega)
            have ht : T1 = (⟨k, L, C⟩, 0) := by rw [HD1.out, hm, if_pos rfl]
            clear hm
            subst ht
            rcases HD2.out with h2 | ⟨h2, h3⟩
            · clear HD1 HD2 HM
              go_wp2
              all_goals
                (go_ret
                 exact ⟨rfl, hB7⟩)
            · subst h3
              clear HD1 HD2 HM
              go_wp2
              all_goals
                (go_ret
                 exact ⟨rfl, hB7⟩)
        · have b1 : (k == qk) = false := by simpa using hkq
          have bq : (qk == 1) = false := by simpa using hp1
          by_cases hl : (L.length : Int) = 0
          · have hm : mayK11 ⟨qk, L, C⟩ k = true := by rw [HM.out]; first | (simp only [Bool.and_eq_true, Bool.or_eq_true, decide_eq_true_eq, Bool.not_eq_true', Bool.and_eq_false_iff, decide_eq_false_iff_not, not_true_eq_false, not_false_eq_true, true_and, and_true, true_or, or_true, false_or, or_false, false_and, and_false]; done) | (simp only [Bool.and_eq_true, Bool.or_eq_true, decide_eq_true_eq, Bool.not_eq_true', Bool.and_eq_false_iff, decide_eq_false_iff_not, not_true_eq_false, not_false_eq_true, true_and, and_true, true_or, or_true, false_or, or_false, false_and, and_false]; omega) | (simp; done) | (simp; omega)
            have ht : T1 = (⟨k, L, C⟩, 0) := by rw [HD1.out, hm, if_pos rfl]
            clear hm
            subst ht
            rcases HD2.out with h2 | ⟨h2, h3⟩
            · clear HD1 HD2 HM
              go_wp2
              all_goals
                (go_ret
                 exact ⟨rfl, hB7⟩)
            · subst h3
              clear HD1 HD2 HM
              go_wp2
              all_goals
                (go_ret
                 exact ⟨rfl, hB7⟩)
          · have hl0 : ((L.length : Int) == 0) = false := by simpa using hl
            by_cases h4 : k = 4
            · subst h4
              have hm : mayK11 ⟨qk, L, C⟩ 4 = false := by rw [← Bool.not_eq_true, HM.out]; first | (simp only [Bool.and_eq_true, Bool.or_eq_true, decide_eq_true_eq, Bool.not_eq_true', Bool.and_eq_false_iff, decide_eq_false_iff_not, not_true_eq_false, not_false_eq_true, true_and, and_true, true_or, or_true, false_or, or_false, false_and, and_false]; done) | (simp only [Bool.and_eq_true, Bool.or_eq_true, decide_eq_true_eq, Bool.not_eq_true', Bool.and_eq_false_iff, decide_eq_false_iff_not, not_true_eq_false, not_false_eq_true, true_and, and_true, true_or, or_true, false_or, or_false, false_and, and_false]; omega) | (simp; done) | (simp; omega)
              have ht : T1 = (zreq11, 13) := by rw [HD1.out, hm, if_neg (by decide)]
              clear hm
              subst ht
              rcases HD2.out with h2 | ⟨h2, h3⟩
              · clear HD1 HD2 HM
                go_wp2
                all_goals
                  (go_ret
                   exact ⟨rfl, hB7⟩)
              · subst h3
                clear HD1 HD2 HM
                go_wp2
                all_goals
                  (go_ret
                   exact ⟨rfl, hB7⟩)
            · by_cases hk1 : k = 1
              · subst hk1
                have hm : mayK11 ⟨qk, L, C⟩ 1 = false := by rw [← Bool.not_eq_true, HM.out]; first | (simp only [Bool.and_eq_true, Bool.or_eq_true, decide_eq_true_eq, Bool.not_eq_true', Bool.and_eq_false_iff, decide_eq_false_iff_not, not_true_eq_false, not_false_eq_true, true_and, and_true, true_or, or_true, false_or, or_false, false_and, and_false]; done) | (simp only [Bool.and_eq_true, Bool.or_eq_true, decide_eq_true_eq, Bool.not_eq_true', Bool.and_eq_false_iff, decide_eq_false_iff_not, not_true_eq_false, not_false_eq_true, true_and, and_true, true_or, or_true, false_or, or_false, false_and, and_false]; omega) | (simp; done) | (simp; omega)
                have ht : T1 = (zreq11, 13) := by rw [HD1.out, hm, if_neg (by decide)]
                clear hm
                subst ht
                rcases HD2.out with h2 | ⟨h2, h3⟩
                · clear HD1 HD2 HM
                  go_wp2
                  all_goals
                    (go_ret
                     exact ⟨rfl, hB7⟩)
                · subst h3
                  clear HD1 HD2 HM
                  go_wp2
                  all_goals
                    (go_ret
                     exact ⟨rfl, hB7⟩)
              · have b4 : (k != 4) = true := by simpa using h4
                have b5 : (k != 1) = true := by simpa using hk1
                have hm : mayK11 ⟨qk, L, C⟩ k = true := by rw [HM.out]; first | (simp only [Bool.and_eq_true, Bool.or_eq_true, decide_eq_true_eq, Bool.not_eq_true', Bool.and_eq_false_iff, decide_eq_false_iff_not, not_true_eq_false, not_false_eq_true, true_and, and_true, true_or, or_true, false_or, or_false, false_and, and_false]; done) | (simp only [Bool.and_eq_true, Bool.or_eq_true, decide_eq_true_eq, Bool.not_eq_true', Bool.and_eq_false_iff, decide_eq_false_iff_not, not_true_eq_false, not_false_eq_true, true_and, and_true, true_or, or_true, false_or, or_false, false_and, and_false]; omega) | (simp; done) | (simp; omega)
                have ht : T1 = (⟨k, L, C⟩, 0) := by rw [HD1.out, hm, if_pos rfl]
                clear hm
                subst ht
                rcases HD2.out with h2 | ⟨h2, h3⟩
                · clear HD1 HD2 HM
                  go_wp2
                  all_goals
                    (go_ret
                     exact ⟨rfl, hB7⟩)
                · subst h3
                  clear HD1 HD2 HM
                  go_wp2
                  all_goals
                    (go_ret
                     exact ⟨rfl, hB7⟩)
end Go.Proofs.Ytapfbcpbiagogaa
