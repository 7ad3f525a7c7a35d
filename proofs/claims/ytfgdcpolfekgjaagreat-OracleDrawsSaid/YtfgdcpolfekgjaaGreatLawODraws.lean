/-
  OracleDraws: the walk of the statement's function.
-/
import Derived.Test.YtfgdcpolfekgjaaGreatLawOLib
import Derived.Test.YtfgdcpolfekgjaaGreatOrx1
namespace Go.Proofs.YtfgdcpolfekgjaaGreat
open Go.RowKit Go.Shelf

set_option maxRecDepth 100000 in
set_option maxHeartbeats 16000000 in
theorem odraws_walk [Tabs] (rb : Bool) (key : Int) (A : Option Addr) (cap : Nat) (L : List Int) (A' : Option Addr) (cap' : Nat) (R : List Raw9) (w : World) (hT : Tab w) (hkb : -9223372036854775808 ≤ key ∧ key ≤ 9223372036854775807) (hl : L.length ≤ maxLen ∧ L.length ≤ cap) (_hn : A = none → cap = 0) (hc : InL w A L) (hL : ∀ y ∈ L, -9223372036854775808 ≤ y ∧ y ≤ 9223372036854775807)
    (hR : R.length ≤ maxLen) (hc' : InV w A' (flQ R)) (hb' : ∀ n ∈ R, Big9 n) :
    Calls Tryz.prog 7 #[.bool rb, .int .i64 key, .slice A L.length cap, .slice A' R.length cap'] w fun e w' => e = .returned (.bool true) ∧ Below w.heap.size w w' := by
  have HT := Lib.hid (fun W (hb : Below w.heap.size w W) => hT.below hb hT.two)
  have DR := Lib.hid (fun (W : World) (hb : Below w.heap.size w W) => draws_any A cap L false W (hc.keep hb) hL hl.1)
  have hBs := drwS_size L false
  unfold maxLen at hR
  generalize drwS L false = B at *
  have hr0 : rightV B 0 = true := rightV_iff.2 ⟨by omega, Int.le_refl _, by omega⟩
  have OC := Lib.hid (fun W => oracle9_any rb key B 0 W hr0 hkb)
  have hKz := keyB9_size (pickN key 256)
  generalize keyB9 (pickN key 256) = K at *
  obtain ⟨m, hm⟩ : ∃ m : Int, m = if rb then 1 else 2 := ⟨_, rfl⟩
  rw [← hm] at OC
  have hm12 : m = 1 ∨ m = 2 := by rw [hm]; cases rb; exact .inr rfl; exact .inl rfl
  have hrb : ∀ d : Ide, real9 ⟨m, K, d⟩ = rb := fun d => by rw [real9, hm]; cases rb <;> rfl
  have HO0 : Hid (Ost9 rb (T9 K) (C9 K) B 0 0 ⟨B, 0, [], [], false⟩) := Lib.hid (Ost9.start (by omega))
  have HE := Lib.hid (fun W : World => (InO.empty W m K B 0 false))
  have hdB : ∀ d : Ide, (⟨m, K, d⟩ : Ora).d = d := fun _ => rfl
  generalize (⟨B, 0, [], [], false⟩ : Ide) = d0 at *
  have HC := Lib.hid (fun (W : World) (hb : Below w.heap.size w W) => hc'.keep hb)
  have HY := Lib.hid hb'
  have HBs := Lib.hid hBs
  have HKz := Lib.hid hKz
  have HM := Lib.hid hm12
  have HRB := Lib.hid hrb
  have HMR := Lib.hid hm
  generalize hLL : L.length = Llen at *
  clear hc hL hl hc' hb' hBs hr0 _hn hLL hT hkb hKz hm12 hrb hm hdB
  go_enter Tryz.func7, Tryz.ntmps7
  go_wp2_with fail
  have hB : Below w.heap.size w w := Below.refl _ _
  refine (awake9_any _ (HT.out _ hB)).mono ?_
  rintro e V1 ⟨rfl, hb⟩
  replace hB := hB.trans (hb.mono hB.size)
  clear hb
  go_wp2_with fail
  refine (DR.out _ hB).mono ?_
  rintro e V2 ⟨rfl, hb⟩
  replace hB := hB.trans (hb.mono hB.size)
  clear hb DR
  go_wp2_with fail
  refine (OC.out _).mono ?_
  rintro e V3 ⟨rfl, hb⟩
  replace hB := hB.trans (hb.mono hB.size)
  clear hb OC
  have nO := HE.out V3
  have iO : Is (V3.alloc (.cells (oraL ⟨m, K, d0⟩ none 0 none 0) 31)) V3.heap.size 31 (oraL ⟨m, K, d0⟩ none 0 none 0) := Is.new _ _ _
  replace nO := nO.keep ((Below.refl _ _).alloc (Nat.le_refl _) (.cells (oraL ⟨m, K, d0⟩ none 0 none 0) 31))
  have hDO := hB.size
  replace hB := hB.alloc hB.size (.cells (oraL ⟨m, K, d0⟩ none 0 none 0) 31)
  go_wp2_with fail
  generalize V3.alloc (.cells (oraL ⟨m, K, d0⟩ none 0 none 0) 31) = V4 at *
  generalize V3.heap.size = DO at *
  have HDO := Lib.hid hDO
  clear hDO HE
  go_loopw [11] (fun i wr => ∃ (k : Nat) (d : Ide) (A1 : Option Addr) (c1 : Nat) (A2 : Option Addr) (c2 : Nat), k ≤ 10 ∧ k ≤ R.length ∧ i = .int .i64 (k : Int) ∧ Ost9 rb (T9 K) (C9 K) B k k d ∧ Is wr DO 31 (oraL ⟨m, K, d⟩ A1 c1 A2 c2) ∧ InO wr ⟨m, K, d⟩ A1 c1 A2 c2 ∧ Below w.heap.size w wr ∧ (∀ p, A1 = some p → (some DO : Option Nat) ≠ some p.block) ∧ (∀ p, A2 = some p → (some DO : Option Nat) ≠ some p.block))
    (fun i _ => 10 - (intOf i).toNat)
  case atStart => exact ⟨0, d0, none, 0, none, 0, by omega, by omega, rfl, HO0.out, iO, nO, hB, (fun p hp => by cases hp), (fun p hp => by cases hp)⟩
  case round =>
    clear iO nO hB
    obtain ⟨k, d, A1, c1, A2, c2, hk10, hkl, rfl, host, iO, nO, hB, zA, zB⟩ := hrel
    have hDO := HDO.out
    by_cases hlt : k < R.length ∧ k < 10
    · obtain ⟨hlt, hlt2⟩ := hlt
      obtain ⟨n, hn⟩ : ∃ n, R[k]? = some n := ⟨_, List.getElem?_eq_getElem hlt⟩
      have hnb := HY.out n (List.mem_of_getElem? hn)
      obtain ⟨kb, off, rfl, _, hr⟩ := (HC.out wr hB).raw9 hn
      have hp3 := pickN_bd n.2.2.1 3 (by omega)
      have hp4 := pickN_bd n.2.2.2 4 (by omega)
      have hq := askE9_of n _ _ hp3 hp4
      have hrd := HRB.out d
      obtain ⟨s, x, y, d1, d2, hrnd⟩ := round9 (T := T9) (C := C9) (U := U9) (o := ⟨m, K, d⟩) (B := B) (n := k) (k := k) HM.out HKz.out (by rw [hrd]; exact host) (by omega) (by omega) HBs.out T9_size C9_size U9_hU hq (text8_size n.1)
      have hcost := hrnd.cost (by rw [hrd]; exact host)
      rw [hrd] at hcost
      have hlab := hrnd.lab
      have hcel := hrnd.cel
      have hss := hrnd.sizeS
      have hN := hrnd.names
      have hK := hrnd.cells
      have gN := hrnd.growN
      have gK := hrnd.growK
      have hre := hrnd.ost
      rw [hrd] at hre
      have hR0 : right9 ⟨m, K, d⟩ = true := (right9_iff _).2 ⟨HM.out, HKz.out, host.right⟩
      have hR1 : right9 ⟨m, K, d1⟩ = true := (right9_iff _).2 ⟨HM.out, HKz.out, hrnd.right1⟩
      have HRE := Lib.hid (hre.more (Nat.le_refl _) (Nat.le_refl _))
      have WD := Lib.hid (fun W => word9_any n.2.1 W hnb.2.1)
      have PE := Lib.hid (fun W => pick9_any n.2.2.1 3 W hnb.2.2.1.1 hnb.2.2.1.2 (by omega) (by omega))
      have PC := Lib.hid (fun W => pick9_any n.2.2.2 4 W hnb.2.2.2.1 hnb.2.2.2.2 (by omega) (by omega))
      have TX := Lib.hid (fun W => qtext_any n.1 W hnb.1)
      have htx := text8_size n.1
      have hcd : (d.N.length : Int) + d.K.length ≤ 20 := by have := host.fewN; have := host.fewK; omega
      have hca : 0 ≤ d.a ∧ d.a ≤ 65536 := by have h := rightV_iff.1 host.right.tape; rw [host.tape, HBs.out] at h; omega
      have hca2 : 0 ≤ d2.a ∧ d2.a ≤ 65536 := by have h := rightV_iff.1 hre.right.tape; rw [hre.tape, HBs.out] at h; omega
      obtain ⟨n0, n1, n2, n3⟩ := n
      dsimp only at *
      generalize word9 n1 = wd at *
      generalize pickN n2 3 = ep at *
      generalize pickN n3 4 = ct at *
      generalize text8 n0 = tx at *
      clear hrnd hre hn hnb hp3 hp4 host hrd
      have LM := fun W0 (hw : Below w.heap.size w W0) (h : InO W0 ⟨m, K, d⟩ A1 c1 A2 c2) => lab_call9 (fun W hb => HT.out W (hw.trans (hb.mono hw.size))) h hR0 hq hlab
      have CM := fun W0 (hw : Below w.heap.size w W0) F1 f1 F2 f2 (h : InO W0 ⟨m, K, d1⟩ F1 f1 F2 f2) => cel_call9 (fun W hb => HT.out W (hw.trans (hb.mono hw.size))) h hR1 hss htx hcel
      clear hlab hcel hss htx hq hR0 hR1
      have l1 : (k : Int) < (R.length : Int) := by omega
      have l2 : (k : Int) < 10 := by omega
      have w1i := IntWalk.i64_in ((k : Int) + 1) (by omega)
      have r0 : wr.cell? ⟨kb, off + k * 4, none⟩ = some (.int .i64 n0) := hr 0 _ rfl
      have r1 : wr.cell? ⟨kb, off + k * 4 + 1, none⟩ = some (.int .i64 n1) := hr 1 _ rfl
      have r2 : wr.cell? ⟨kb, off + k * 4 + 2, none⟩ = some (.int .i64 n2) := hr 2 _ rfl
      have r3 : wr.cell? ⟨kb, off + k * 4 + 3, none⟩ = some (.int .i64 n3) := hr 3 _ rfl
      clear hr
      have hNO : DO < wr.heap.size := iO.lt
      have hb0 := (Below.refl wr.heap.size wr).alloc (Nat.le_refl _) (.cells #[.int .i64 n0, .int .i64 n1, .int .i64 n2, .int .i64 n3] 25)
      have iN : Is (wr.alloc (.cells #[.int .i64 n0, .int .i64 n1, .int .i64 n2, .int .i64 n3] 25)) wr.heap.size 25 #[.int .i64 n0, .int .i64 n1, .int .i64 n2, .int .i64 n3] := Is.new _ _ _
      replace iO := iO.below hb0 iO.lt
      replace nO := nO.keep hb0
      replace hB := hB.trans (hb0.mono hB.size)
      clear hb0
      go_upto_region 7 with fail
      clear r0 r1 r2 r3
      generalize wr.alloc (.cells #[.int .i64 n0, .int .i64 n1, .int .i64 n2, .int .i64 n3] 25) = W1 at *
      generalize wr.heap.size = DN at *
      refine Code.wp_mono ?_ (draws9_lab W1 ⟨m, K, d⟩ ⟨m, K, d1⟩ A1 c1 A2 c2 DO iO nO.a nO.b n1 n2 n3 DN ⟨iN.lt, iN.cell 1⟩ ⟨iN.lt, iN.cell 2⟩ ⟨iN.lt, iN.cell 3⟩ wd ep ct WD PE PC s (LM W1 hB nO) _ _ _ _ _ _ _ _ _ _ _ _ _ _ _ _ _ _ _ _ _ _ _ _ _ _ _ _ _ _ _ _ _ _ _ _ _ _ _ _ _ _ _ _ _ _ _ _ _ _ _ _ _ _ _ _ _ _ _ _ _ _ _ _ _ _ _ _ _ _ _ _ _ _ _ _ _ _ _ _ _ _ _ _ _ _ _ _ _ _ _ _ _ _ _ _ _ _ _ _ _ _ _ _ _ _ _ _ _ _ _ _ _ _ _ _ _ _ _ _ _ _ _ _ _ _ _ _ _ _ _ _ _ _ _ _ _ _ _ _ _ _ _ _ _ _ _ _ _)
      rintro e YY W2 ⟨rfl, hd, F1P, f1P, F2P, f2P, DP, hT0, hb, hD, iP, nI, o1, o2, l1, l2, d1', d2'⟩
      obtain ⟨T0, Dd⟩ := YY
      subst hT0
      obtain rfl : Dd = [] := hd
      clear d1' d2' hD
      replace zA := o1.off9 zA iO.lt
      replace zB := o2.off9 zB iO.lt
      replace iO := iO.below hb iO.lt
      replace iN := iN.below hb iN.lt
      replace hB := hB.trans (hb.mono hB.size)
      clear hb o1 o2
      have nP : InO W2 ⟨m, K, d1⟩ F1P f1P F2P f2P := ⟨nI, l1, l2⟩
      clear nI l1 l2
      go_upto_region 8 with fail
      refine Code.wp_mono ?_ (draws9_cel W2 ⟨m, K, d1⟩ ⟨m, K, d2⟩ F1P f1P F2P f2P DP iP nP.a nP.b n0 DN ⟨iN.lt, iN.cell 0⟩ s tx x TX (CM W2 hB _ _ _ _ nP) _ _ _ _ _ _ _ _ _ _ _ _ _ _ _ _ _ _ _ _ _ _ _ _ _ _ _ _ _ _ _ _ _ _ _ _ _ _ _ _ _ _ _ _ _ _ _ _ _ _ _ _ _ _ _ _ _ _ _ _ _ _ _ _ _ _ _ _ _ _ _ _ _ _ _ _ _ _ _ _ _ _ _ _ _ _ _ _ _ _ _ _ _ _ _ _ _ _ _ _ _ _ _ _ _ _ _ _ _ _ _ _ _ _ _ _ _ _ _ _ _ _ _ _ _ _ _ _ _ _ _ _ _ _ _ _ _ _ _ _ _ _ _ _ _ _ _ _)
      rintro e YY W3 ⟨rfl, hd, F1Q, f1Q, F2Q, f2Q, DQ, hT0, hb, hD, iQ, nI, o1, o2, l1, l2, d1', d2'⟩
      obtain ⟨T0, Dd⟩ := YY
      subst hT0
      obtain rfl : Dd = [] := hd
      clear d1' d2' hD
      replace zA := o1.off9 zA iO.lt
      replace zB := o2.off9 zB iO.lt
      replace iO := iO.below hb iO.lt
      replace iP := iP.below hb iP.lt
      replace hB := hB.trans (hb.mono hB.size)
      clear hb o1 o2 iN
      have nQ : InO W3 ⟨m, K, d2⟩ F1Q f1Q F2Q f2Q := ⟨nI, l1, l2⟩
      clear nI l1 l2 nP nO LM CM WD PE PC TX
      have cO0 : W3.cell? ⟨DO, 0, none⟩ = some (.int .i64 m) := iO.cell 0
      have cO1 : W3.cell? ⟨DO, 1, none⟩ = some (.string K) := iO.cell 1
      have cO3 : W3.cell? ⟨DO, 3, none⟩ = some (.int .i64 d.a) := iO.cell 3
      have cO4 : W3.cell? ⟨DO, 4, none⟩ = some (.slice A1 d.N.length c1) := iO.cell 4
      have cP4 : W3.cell? ⟨DP, 4, none⟩ = some (.slice F1P d1.N.length f1P) := iP.cell 4
      have cP5 : W3.cell? ⟨DP, 5, none⟩ = some (.slice F2P d1.K.length f2P) := iP.cell 5
      have cQ0 : W3.cell? ⟨DQ, 0, none⟩ = some (.int .i64 m) := iQ.cell 0
      have cQ1 : W3.cell? ⟨DQ, 1, none⟩ = some (.string K) := iQ.cell 1
      have cQ3 : W3.cell? ⟨DQ, 3, none⟩ = some (.int .i64 d2.a) := iQ.cell 3
      have cQ4 : W3.cell? ⟨DQ, 4, none⟩ = some (.slice F1Q d1.N.length f1Q) := by rw [← hN]; exact iQ.cell 4
      have cQ5 : W3.cell? ⟨DQ, 5, none⟩ = some (.slice F2Q d2.K.length f2Q) := iQ.cell 5
      have zN : d1.N.length ≤ 22 := by rcases gN with h | h <;> omega
      have zK : d1.K.length ≤ 22 ∧ d2.K.length ≤ 23 := by rw [hK] at *; rcases gK with h | h <;> omega
      obtain ⟨a, ha⟩ : ∃ a : Int, (d1.N.length : Int) - (d.N.length : Int) = a := ⟨_, rfl⟩
      obtain ⟨b, hbb⟩ : ∃ b : Int, (d2.K.length : Int) - (d1.K.length : Int) = b := ⟨_, rfl⟩
      rw [ha, hbb] at hcost
      have a01 : 0 ≤ a ∧ a ≤ 1 := by rcases gN with h | h <;> omega
      have b01 : 0 ≤ b ∧ b ≤ 1 := by rcases gK with h | h <;> omega
      have wa := IntWalk.i64_in a (by omega)
      have wb := IntWalk.i64_in b (by omega)
      have w16 := IntWalk.i64_in (16 * a) (by omega)
      have w40 := IntWalk.i64_in (40 * b) (by omega)
      have wS := IntWalk.i64_in (16 * a + 40 * b) (by omega)
      have tA1 : ¬ a < 0 := by omega
      have tA2 : ¬ 1 < a := by omega
      have tB1 : ¬ b < 0 := by omega
      have tB2 : ¬ 1 < b := by omega
      clear gN gK zN zK a01 b01 hcd hN hK
      have hDD := HDO.out
      cases rb with
      | true =>
        have he : d2.a = d.a := by simp only [if_true] at hcost; omega
        rw [he] at cQ3
        have hz : d.a - d.a = 0 := by omega
        have wz := IntWalk.i64_in (0 : Int) (by omega)
        clear hcost he hca hca2
        go_wp2_with (first
          | (refine wpList_load_row rfl 31 _ rfl DQ rfl 31 _ (0, 0) _ iQ Tryz.underlying31 rfl infoOra ?_)
          | (refine wpList_store_row rfl 31 _ _ rfl DO (oraL ⟨m, K, d2⟩ F1Q f1Q F2Q f2Q) rfl rfl 31 _ iO infoOra rfl (oraL_one9 _ _ _ _ _) ?_))
        go_roundw
        case rel =>
          have q1 := iO.row (oraL ⟨m, K, d2⟩ F1Q f1Q F2Q f2Q)
          have q2 := belowRow hB hDD (oraL ⟨m, K, d2⟩ F1Q f1Q F2Q f2Q)
          exact ⟨k + 1, d2, F1Q, f1Q, F2Q, f2Q, by omega, by omega, by go_num, HRE.out, q1, ⟨nQ.i.apart (grownRowG _ _ _) zA zB, fun p hp => by simpa using nQ.a p hp, fun p hp => by simpa using nQ.b p hp⟩, q2, zA, zB⟩
        case measure => simp [intOf]; omega
      | false =>
        simp only [Bool.false_eq_true, if_false] at hcost
        clear hca hca2
        go_wp2_with (first
          | (refine wpList_load_row rfl 31 _ rfl DQ rfl 31 _ (0, 0) _ iQ Tryz.underlying31 rfl infoOra ?_)
          | (refine wpList_store_row rfl 31 _ _ rfl DO (oraL ⟨m, K, d2⟩ F1Q f1Q F2Q f2Q) rfl rfl 31 _ iO infoOra rfl (oraL_one9 _ _ _ _ _) ?_))
        go_roundw
        case rel =>
          have q1 := iO.row (oraL ⟨m, K, d2⟩ F1Q f1Q F2Q f2Q)
          have q2 := belowRow hB hDD (oraL ⟨m, K, d2⟩ F1Q f1Q F2Q f2Q)
          exact ⟨k + 1, d2, F1Q, f1Q, F2Q, f2Q, by omega, by omega, by go_num, HRE.out, q1, ⟨nQ.i.apart (grownRowG _ _ _) zA zB, fun p hp => by simpa using nQ.a p hp, fun p hp => by simpa using nQ.b p hp⟩, q2, zA, zB⟩
        case measure => simp [intOf]; omega
    · have hend : (k : Int) < (R.length : Int) → ¬ (k : Int) < 10 := fun h => by omega
      clear iO nO host HRB HMR HO0 HDO HC HY
      by_cases hl2 : (k : Int) < (R.length : Int)
      · have hl3 := hend hl2
        clear hend
        go_wp2
        go_ret
        exact ⟨rfl, hB⟩
      · clear hend
        go_wp2
        go_ret
        exact ⟨rfl, hB⟩
end Go.Proofs.YtfgdcpolfekgjaaGreat

