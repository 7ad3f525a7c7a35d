/-
  OracleKeeps: the walk of the statement's function.
-/
import Derived.Test.YtfgdcpolfekgjaaGreatOrk1
import Derived.Test.YtfgdcpolfekgjaaGreatOrx2
namespace Go.Proofs.YtfgdcpolfekgjaaGreat
open Go.RowKit Go.Shelf

set_option maxRecDepth 100000 in
set_option maxHeartbeats 16000000 in
theorem okeeps_walk [Tabs] (rb : Bool) (key : Int) (A : Option Addr) (cap : Nat) (L : List Int) (small : Bool) (A' : Option Addr) (cap' : Nat) (R : List Raw9) (w : World) (hT : Tab w) (hkb : -9223372036854775808 ≤ key ∧ key ≤ 9223372036854775807) (hl : L.length ≤ maxLen ∧ L.length ≤ cap) (_hn : A = none → cap = 0) (hc : InL w A L) (hL : ∀ y ∈ L, -9223372036854775808 ≤ y ∧ y ≤ 9223372036854775807)
    (hR : R.length ≤ maxLen) (hc' : InV w A' (flQ R)) (hb' : ∀ n ∈ R, Big9 n) :
    Calls Tryz.prog 5 #[.bool rb, .int .i64 key, .slice A L.length cap, .bool small, .slice A' R.length cap'] w fun e w' => e = .returned (.bool true) ∧ Below w.heap.size w w' := by
  obtain ⟨i0, hi0, hz0, hz1, hz2⟩ := infoThree8 infoStr8
  have HT := Lib.hid (fun W (hb : Below w.heap.size w W) => hT.below hb hT.two)
  have DR := Lib.hid (fun (W : World) (hb : Below w.heap.size w W) => draws_any A cap L small W (hc.keep hb) hL hl.1)
  have hBs := drwS_size L small
  unfold maxLen at hR
  generalize drwS L small = B at *
  have hr0 : rightV B 0 = true := rightV_iff.2 ⟨by omega, Int.le_refl _, by omega⟩
  have OC := Lib.hid (fun W => oracle9_any rb key B 0 W hr0 hkb)
  have hKz := keyB9_size (pickN key 256)
  generalize keyB9 (pickN key 256) = K at *
  obtain ⟨m, hm⟩ : ∃ m : Int, m = if rb then 1 else 2 := ⟨_, rfl⟩
  rw [← hm] at OC
  have hm12 : m = 1 ∨ m = 2 := by rw [hm]; cases rb; exact .inr rfl; exact .inl rfl
  have hrb : ∀ d : Ide, real9 ⟨m, K, d⟩ = rb := fun d => by rw [real9, hm]; cases rb <;> rfl
  have HO0 : Hid (Ost9 rb (T9 K) (C9 K) B 0 0 ⟨B, 0, [], [], false⟩) := Lib.hid (Ost9.start (by omega))
  have HE := Lib.hid (fun W : World => (InO.empty W m K B 0 false))
  have ht0 : (oraL ⟨m, K, ⟨B, 0, [], [], false⟩⟩ none 0 none 0)[2]? = some (.string B) := rfl
  have ht1 : (oraL ⟨m, K, ⟨B, 0, [], [], false⟩⟩ none 0 none 0)[3]? = some (.int .i64 0) := rfl
  generalize (⟨B, 0, [], [], false⟩ : Ide) = d0 at *
  have HC := Lib.hid (fun (W : World) (hb : Below w.heap.size w W) => hc'.keep hb)
  have HY := Lib.hid hb'
  have HBs := Lib.hid hBs
  have HKz := Lib.hid hKz
  have HM := Lib.hid hm12
  have HRB := Lib.hid hrb
  have HQL := Lib.hid (qs9_len R)
  generalize hLL : L.length = Llen at *
  clear hc hL hl hc' hb' hBs hr0 _hn hLL hT hkb hKz hm12 hrb hm
  go_enter Tryz.func5, Tryz.ntmps5
  go_wp2_with fail
  have hB : Below w.heap.size w w := Below.refl _ _
  refine (awake9_any _ (HT.out _ hB)).mono ?_
  rintro e V1 ⟨rfl, hb⟩
  replace hB := hB.trans (hb.mono hB.size)
  clear hb
  go_wp2_with fail
  refine (DR.out _ hB).mono ?_
  rintro e V2 ⟨rfl, hb⟩
  replace hB := hB.trans (hb.mono hB.size)
  clear hb DR
  go_wp2_with fail
  refine (OC.out _).mono ?_
  rintro e V3 ⟨rfl, hb⟩
  replace hB := hB.trans (hb.mono hB.size)
  clear hb OC
  have nO := HE.out V3
  have iO : Is (V3.alloc (.cells (oraL ⟨m, K, d0⟩ none 0 none 0) 31)) V3.heap.size 31 (oraL ⟨m, K, d0⟩ none 0 none 0) := Is.new _ _ _
  replace nO := nO.keep ((Below.refl _ _).alloc (Nat.le_refl _) (.cells (oraL ⟨m, K, d0⟩ none 0 none 0) 31))
  have hDO := hB.size
  replace hB := hB.alloc hB.size (.cells (oraL ⟨m, K, d0⟩ none 0 none 0) 31)
  have c2 := (iO.cell 2).trans ht0
  have c3 := (iO.cell 3).trans ht1
  go_upto_region 3 with fail
  clear c2 c3
  generalize V3.alloc (.cells (oraL ⟨m, K, d0⟩ none 0 none 0) 31) = V4 at *
  generalize V3.heap.size = DO at *
  have HDO := Lib.hid hDO
  have c2 : V4.cell? ⟨DO, 2, none⟩ = some (.string B) := (iO.cell 2).trans ht0
  have c3 : V4.cell? ⟨DO, 3, none⟩ = some (.int .i64 0) := (iO.cell 3).trans ht1
  have hb0 := (Below.refl V4.heap.size V4).alloc (Nat.le_refl _) (.cells #[.string B, .int .i64 0] 23)
  have iF : Is (V4.alloc (.cells #[.string B, .int .i64 0] 23)) V4.heap.size 23 #[.string B, .int .i64 0] := Is.new _ _ _
  replace iO := iO.below hb0 iO.lt
  replace nO := nO.keep hb0
  replace hB := hB.trans (hb0.mono hB.size)
  go_upto_region 6 with fail
  clear c2 c3 hb0 hDO HE ht0 ht1
  generalize V4.alloc (.cells #[.string B, .int .i64 0] 23) = V5 at *
  generalize V4.heap.size = DF at *
  go_wp2
  go_loopw [14, 15, 16] (fun vi vo i wr => ∃ k : Nat, k ≤ 10 ∧ k ≤ R.length ∧ i = .int .i64 (k : Int) ∧ Kst9 w wr DO DF rb m K B (qs9 R) k vi vo) (fun _ _ i _ => 10 - (intOf i).toNat)
  case atStart => exact ⟨0, by omega, by omega, rfl, ⟨d0, [], [], none, 0, none, 0, none, 0, none, 0, HO0.out, Kp9.start _ _, rfl, rfl, rfl, rfl, ⟨iO, iF, nO, RowV.nil _ _ _ _, RowV.nil _ _ _ _, Sep8.none _, (fun p hp => by cases hp), (fun p hp => by cases hp), HDO.out, hB⟩⟩⟩
  case round =>
    clear iO iF nO hB HO0
    obtain ⟨k, hk10, hkl, rfl, hst⟩ := hrel
    obtain ⟨d, LL, O, A1, c1, A2, c2, AI, cI, AO, cO, host, hkp, hLt, hLk, rfl, rfl, KN⟩ := hst.out
    clear hst
    have hDO := HDO.out
    by_cases hlt : k < R.length ∧ k < 10
    · obtain ⟨hlt, hlt2⟩ := hlt
      obtain ⟨n, hn⟩ : ∃ n, R[k]? = some n := ⟨_, List.getElem?_eq_getElem hlt⟩
      have hnb := HY.out n (List.mem_of_getElem? hn)
      obtain ⟨kb, off, rfl, _, hr⟩ := (HC.out wr KN.hB).raw9 hn
      have HQ := Lib.hid (qs9_at hn hlt2)
      have hp3 := pickN_bd n.2.2.1 3 (by omega)
      have hp4 := pickN_bd n.2.2.2 4 (by omega)
      have hq := askE9_of n _ _ hp3 hp4
      have hrd := HRB.out d
      obtain ⟨s, x, y, d1, d2, hrnd⟩ := round9 (T := T9) (C := C9) (U := U9) (o := ⟨m, K, d⟩) (B := B) (n := k) (k := k) HM.out HKz.out (by rw [hrd]; exact host) (by omega) (by omega) HBs.out T9_size C9_size U9_hU hq (text8_size n.1)
      have hre := hrnd.ost
      rw [hrd] at hre
      have hR0 : right9 ⟨m, K, d⟩ = true := (right9_iff _).2 ⟨HM.out, HKz.out, host.right⟩
      have hR1 : right9 ⟨m, K, d1⟩ = true := (right9_iff _).2 ⟨HM.out, HKz.out, hrnd.right1⟩
      have hR2 : right9 ⟨m, K, d2⟩ = true := (right9_iff _).2 ⟨HM.out, HKz.out, hre.right⟩
      have WD := Lib.hid (fun W => word9_any n.2.1 W hnb.2.1)
      have PE := Lib.hid (fun W => pick9_any n.2.2.1 3 W hnb.2.2.1.1 hnb.2.2.1.2 (by omega) (by omega))
      have PC := Lib.hid (fun W => pick9_any n.2.2.2 4 W hnb.2.2.2.1 hnb.2.2.2.2 (by omega) (by omega))
      have TX := Lib.hid (fun W => qtext_any n.1 W hnb.1)
      have htx := text8_size n.1
      have HST := Lib.hid (hkp.step HQ.out hrnd.sub hrnd.has)
      have HBO := Lib.hid (fun (j : Nat) (q s2 : ByteArray) (hj : j < k) (hq : (qs9 R)[j]? = some q) (hs : O[j]? = some s2) => hkp.both hre.right hrnd.sub hrnd.has hj hq hs)
      have hOl := hkp.len
      obtain ⟨n0, n1, n2, n3⟩ := n
      dsimp only at *
      have hlab := hrnd.lab
      have hcel := hrnd.cel
      have hagn := hrnd.again
      have hopn := hrnd.opn
      have hss := hrnd.sizeS
      have hxs := hrnd.sizeX
      have HBK := Lib.hid hrnd.back
      have htp : rb = true → d2.a = 0 := fun h => by have := hre.at_; rw [h, if_pos rfl] at this; exact this
      have HTP := Lib.hid htp
      have hdB := hre.tape
      generalize word9 n1 = wd at *
      generalize pickN n2 3 = ep at *
      generalize pickN n3 4 = ct at *
      generalize text8 n0 = tx at *
      have AS : Hid (∀ W, Calls Tryz.prog 16 #[.string wd, .int .i64 ep, .int .i64 ct] W fun e w' => e = .returned (.tuple #[.string (ask9 wd ep ct), .int .i64 0]) ∧ Below W.heap.size W w') := Lib.hid (fun W => by
        have := oask_any wd ep ct W
        rw [askV9, hq] at this
        exact this)
      generalize ask9 wd ep ct = q at *
      have HRE := Lib.hid hre
      have LM := fun W0 (hw : Below w.heap.size w W0) (h : InO W0 ⟨m, K, d⟩ A1 c1 A2 c2) => lab_call9 (fun W hb => HT.out W (hw.trans (hb.mono hw.size))) h hR0 hq hlab
      have CM := fun W0 (hw : Below w.heap.size w W0) F1 f1 F2 f2 (h : InO W0 ⟨m, K, d1⟩ F1 f1 F2 f2) => cel_call9 (fun W hb => HT.out W (hw.trans (hb.mono hw.size))) h hR1 hss htx hcel
      have DM := fun W0 (hw : Below w.heap.size w W0) F1 f1 F2 f2 (h : InO W0 ⟨m, K, d2⟩ F1 f1 F2 f2) => cel_call9 (fun W hb => HT.out W (hw.trans (hb.mono hw.size))) h hR2 hss htx hagn
      have OP := fun W (hb : Below w.heap.size w W) F1 f1 F2 f2 (h : InO W ⟨m, K, d2⟩ F1 f1 F2 f2) => oopen_ok ⟨m, K, d2⟩ F1 f1 F2 f2 s x W (HT.out W hb) h.i hR2 hss hxs
      rw [hopn] at OP
      replace OP := Lib.hid OP
      have RC := fun W F1 f1 F2 f2 (h : InO W ⟨m, K, d1⟩ F1 f1 F2 f2) => oright_any ⟨m, K, d1⟩ F1 f1 F2 f2 W h.i
      rw [hR1] at RC
      replace RC := Lib.hid RC
      have SM := Lib.hid (fun W F1 f1 F2 f2 E1 e1 E2 e2 (h : InO W ⟨m, K, d2⟩ F1 f1 F2 f2) (h' : InO W ⟨m, K, d2⟩ E1 e1 E2 e2) => same9_any ⟨m, K, d2⟩ F1 f1 F2 f2 E1 e1 E2 e2 W h.i h'.i)
      have hs2 : (s.size : Int) = 16 := by omega
      have hx2 : (x.size : Int) = 40 := by omega
      have HLk := Lib.hid hLk
      have HLt := Lib.hid hLt
      have HOl := Lib.hid hOl
      clear hrnd hre hn hnb hp3 hp4 host hrd hlab hcel hagn hopn hss hxs htx hq hR0 hR1 hR2 hkp htp hLk hLt hOl
      have l1 : (k : Int) < (R.length : Int) := by omega
      have l2 : (k : Int) < 10 := by omega
      have w1i := IntWalk.i64_in ((k : Int) + 1) (by omega)
      have r0 : wr.cell? ⟨kb, off + k * 4, none⟩ = some (.int .i64 n0) := hr 0 _ rfl
      have r1 : wr.cell? ⟨kb, off + k * 4 + 1, none⟩ = some (.int .i64 n1) := hr 1 _ rfl
      have r2 : wr.cell? ⟨kb, off + k * 4 + 2, none⟩ = some (.int .i64 n2) := hr 2 _ rfl
      have r3 : wr.cell? ⟨kb, off + k * 4 + 3, none⟩ = some (.int .i64 n3) := hr 3 _ rfl
      clear hr
      have HSEP := Lib.hid KN.sep
      have hDn : DO < wr.heap.size := KN.iA.lt
      have HN0 : Hid (wr.heap.size ≤ wr.heap.size) := Lib.hid (Nat.le_refl _)
      have iN : Is (wr.alloc (.cells #[.int .i64 n0, .int .i64 n1, .int .i64 n2, .int .i64 n3] 25)) wr.heap.size 25 #[.int .i64 n0, .int .i64 n1, .int .i64 n2, .int .i64 n3] := Is.new _ _ _
      have hsz : wr.heap.size ≤ (wr.alloc (.cells #[.int .i64 n0, .int .i64 n1, .int .i64 n2, .int .i64 n3] 25)).heap.size := by simp
      replace KN := KN.alloc (.cells #[.int .i64 n0, .int .i64 n1, .int .i64 n2, .int .i64 n3] 25)
      go_upto_region 10 with fail
      clear r0 r1 r2 r3 HN0
      generalize wr.alloc (.cells #[.int .i64 n0, .int .i64 n1, .int .i64 n2, .int .i64 n3] 25) = W1 at *
      generalize wr.heap.size = DN at *
      refine Code.wp_mono ?_ (keeps9_ask W1 n1 n2 n3 DN ⟨iN.lt, iN.cell 1⟩ ⟨iN.lt, iN.cell 2⟩ ⟨iN.lt, iN.cell 3⟩ wd ep ct WD PE PC q AS _ _ _ _ _ _ _ _ _ _ _ _ _ _ _ _ _ _ _ _ _ _ _ _ _ _ _ _ _ _ _ _ _ _ _ _ _ _ _ _ _ _ _ _ _ _ _ _ _ _ _ _ _ _ _ _ _ _ _ _ _ _ _ _ _ _ _ _ _ _ _ _ _ _ _ _ _ _ _ _ _ _ _ _ _ _ _ _ _ _ _ _ _ _ _ _ _ _ _ _ _ _ _ _ _ _ _ _ _ _ _ _ _ _ _ _ _ _ _ _ _ _ _ _ _ _ _ _ _ _ _ _ _ _ _ _ _ _ _ _ _ _ _ _ _ _ _ _ _ _ _ _ _ _ _ _ _ _ _ _ _ _ _ _ _ _ _ _ _ _ _ _ _ _ _ _ _ _ _ _ _ _ _ _ _ _ _ _ _ _ _ _ _ _ _ _ _ _ _ _ _ _ _ _ _ _ _ _ _ _ _ _ _ _ _ _ _ _ _ _ _ _ _ _ _ _ _ _ _ _ _ _)
      rintro e YY W2 ⟨rfl, hd, _, hT0, hb⟩
      obtain ⟨T0, Dd⟩ := YY
      subst hT0
      obtain rfl : Dd = [] := hd
      replace iN := iN.below hb iN.lt
      replace hsz := Nat.le_trans hsz hb.size
      replace KN := KN.below hb
      clear hb
      go_upto_region 11 with fail
      refine Code.wp_mono ?_ (keeps9_lab W2 ⟨m, K, d⟩ ⟨m, K, d1⟩ A1 c1 A2 c2 DO KN.iA KN.nA.a KN.nA.b n1 n2 n3 DN ⟨iN.lt, iN.cell 1⟩ ⟨iN.lt, iN.cell 2⟩ ⟨iN.lt, iN.cell 3⟩ wd ep ct WD PE PC s (LM W2 KN.hB KN.nA) _ _ _ _ _ _ _ _ _ _ _ _ _ _ _ _ _ _ _ _ _ _ _ _ _ _ _ _ _ _ _ _ _ _ _ _ _ _ _ _ _ _ _ _ _ _ _ _ _ _ _ _ _ _ _ _ _ _ _ _ _ _ _ _ _ _ _ _ _ _ _ _ _ _ _ _ _ _ _ _ _ _ _ _ _ _ _ _ _ _ _ _ _ _ _ _ _ _ _ _ _ _ _ _ _ _ _ _ _ _ _ _ _ _ _ _ _ _ _ _ _ _ _ _ _ _ _ _ _ _ _ _ _ _ _ _ _ _ _ _ _ _ _ _ _ _ _ _ _ _ _ _ _ _ _ _ _ _ _ _ _ _ _ _ _ _ _ _ _ _ _ _ _ _ _ _ _ _ _ _ _ _ _ _ _ _ _ _ _ _ _ _ _ _ _ _ _ _ _ _ _ _ _ _ _ _ _ _ _ _ _ _ _ _ _ _ _ _ _ _ _ _ _ _ _ _ _ _ _ _ _)
      rintro e YY W3 ⟨rfl, hd, F1P, f1P, F2P, f2P, DP, hT0, hb, hDP, iP, nI, q1, q2, l1, l2, d1', d2'⟩
      obtain ⟨T0, Dd⟩ := YY
      subst hT0
      obtain rfl : Dd = [] := hd
      clear d1' d2'
      have w1 := q1.ownB hsz
      have w2 := q2.ownB hsz
      replace iN := iN.below hb iN.lt
      replace hsz := Nat.le_trans hsz hb.size
      replace KN := KN.below hb
      clear hb q1 q2 hDP
      have nP : InO W3 ⟨m, K, d1⟩ F1P f1P F2P f2P := ⟨nI, l1, l2⟩
      clear nI l1 l2
      go_wp2_with (refine wpList_load_rowG (by kernel_rfl) 31 _ rfl DP rfl 31 _ iP Tryz.underlying31 rfl infoOra ?_)
      refine (RC.out _ _ _ _ _ nP).mono ?_
      rintro e W4 ⟨rfl, hb⟩
      replace w1 := w1.wide9 hb.size
      replace w2 := w2.wide9 hb.size
      replace iN := iN.below hb iN.lt
      replace iP := iP.below hb iP.lt
      replace nP := nP.keep hb
      replace hsz := Nat.le_trans hsz hb.size
      replace KN := KN.below hb
      clear hb RC
      go_upto_region 14 with fail
      refine Code.wp_mono ?_ (keeps9_cel W4 ⟨m, K, d1⟩ ⟨m, K, d2⟩ F1P f1P F2P f2P DP iP nP.a nP.b n0 DN ⟨iN.lt, iN.cell 0⟩ s tx x TX (CM W4 KN.hB _ _ _ _ nP) _ _ _ _ _ _ _ _ _ _ _ _ _ _ _ _ _ _ _ _ _ _ _ _ _ _ _ _ _ _ _ _ _ _ _ _ _ _ _ _ _ _ _ _ _ _ _ _ _ _ _ _ _ _ _ _ _ _ _ _ _ _ _ _ _ _ _ _ _ _ _ _ _ _ _ _ _ _ _ _ _ _ _ _ _ _ _ _ _ _ _ _ _ _ _ _ _ _ _ _ _ _ _ _ _ _ _ _ _ _ _ _ _ _ _ _ _ _ _ _ _ _ _ _ _ _ _ _ _ _ _ _ _ _ _ _ _ _ _ _ _ _ _ _ _ _ _ _ _ _ _ _ _ _ _ _ _ _ _ _ _ _ _ _ _ _ _ _ _ _ _ _ _ _ _ _ _ _ _ _ _ _ _ _ _ _ _ _ _ _ _ _ _ _ _ _ _ _ _ _ _ _ _ _ _ _ _ _ _ _ _ _ _ _ _ _ _ _ _ _ _ _ _ _ _ _ _ _ _ _)
      rintro e YY W5 ⟨rfl, hd, F1Q, f1Q, F2Q, f2Q, DQ, hT0, hb, hDQ, iQ, nI, q1, q2, l1, l2, d1', d2'⟩
      obtain ⟨T0, Dd⟩ := YY
      subst hT0
      obtain rfl : Dd = [] := hd
      clear d1' d2'
      replace w1 := w1.chain9 q1 hsz hb.size
      replace w2 := w2.chain9 q2 hsz hb.size
      replace iN := iN.below hb iN.lt
      replace hsz := Nat.le_trans hsz hb.size
      replace KN := KN.below hb
      clear hb q1 q2 hDQ nP iP
      have nQ : InO W5 ⟨m, K, d2⟩ F1Q f1Q F2Q f2Q := ⟨nI, l1, l2⟩
      clear nI l1 l2
      go_upto_region 15 with fail
      refine Code.wp_mono ?_ (keeps9_again W5 ⟨m, K, d2⟩ ⟨m, K, d2⟩ F1Q f1Q F2Q f2Q DQ iQ nQ.a nQ.b n0 DN ⟨iN.lt, iN.cell 0⟩ s tx x TX (DM W5 KN.hB _ _ _ _ nQ) _ _ _ _ _ _ _ _ _ _ _ _ _ _ _ _ _ _ _ _ _ _ _ _ _ _ _ _ _ _ _ _ _ _ _ _ _ _ _ _ _ _ _ _ _ _ _ _ _ _ _ _ _ _ _ _ _ _ _ _ _ _ _ _ _ _ _ _ _ _ _ _ _ _ _ _ _ _ _ _ _ _ _ _ _ _ _ _ _ _ _ _ _ _ _ _ _ _ _ _ _ _ _ _ _ _ _ _ _ _ _ _ _ _ _ _ _ _ _ _ _ _ _ _ _ _ _ _ _ _ _ _ _ _ _ _ _ _ _ _ _ _ _ _ _ _ _ _ _ _ _ _ _ _ _ _ _ _ _ _ _ _ _ _ _ _ _ _ _ _ _ _ _ _ _ _ _ _ _ _ _ _ _ _ _ _ _ _ _ _ _ _ _ _ _ _ _ _ _ _ _ _ _ _ _ _ _ _ _ _ _ _ _ _ _ _ _ _ _ _ _ _ _ _ _ _ _ _ _ _)
      rintro e YY W6 ⟨rfl, hd, F1R, f1R, F2R, f2R, DR, hT0, hb, hDR, iR, nI, q1, q2, l1, l2, d1', d2'⟩
      obtain ⟨T0, Dd⟩ := YY
      subst hT0
      obtain rfl : Dd = [] := hd
      clear d1' d2'
      replace w1 := w1.chain9 q1 hsz hb.size
      replace w2 := w2.chain9 q2 hsz hb.size
      replace iN := iN.below hb iN.lt
      replace iQ := iQ.below hb iQ.lt
      replace nQ := nQ.keep hb
      replace hsz := Nat.le_trans hsz hb.size
      replace KN := KN.below hb
      clear hb q1 q2 hDR
      have nZ : InO W6 ⟨m, K, d2⟩ F1R f1R F2R f2R := ⟨nI, l1, l2⟩
      clear nI l1 l2
      go_wp2_with (refine wpList_load_rowG (by kernel_rfl) 31 _ rfl DR rfl 31 _ iR Tryz.underlying31 rfl infoOra ?_)
      refine (OP.out _ KN.hB _ _ _ _ nZ).mono ?_
      rintro e W7 ⟨rfl, hb⟩
      replace w1 := w1.wide9 hb.size
      replace w2 := w2.wide9 hb.size
      replace iN := iN.below hb iN.lt
      replace iQ := iQ.below hb iQ.lt
      replace iR := iR.below hb iR.lt
      replace nQ := nQ.keep hb
      replace nZ := nZ.keep hb
      replace hsz := Nat.le_trans hsz hb.size
      replace KN := KN.below hb
      clear hb
      go_upto_region 17 with fail
      go_cut [175] (fun v W => v = .bool false ∧ Below W7.heap.size W7 W)
      case first =>
        have hb7 : Below W7.heap.size W7 W7 := Below.refl _ _
        go_wp2_with (first | (refine wpList_load_rowG (by kernel_rfl) 31 _ rfl DQ rfl 31 _ iQ Tryz.underlying31 rfl infoOra ?_) | (refine wpList_load_rowG (by kernel_rfl) 31 _ rfl DR rfl 31 _ iR Tryz.underlying31 rfl infoOra ?_))
        refine (SM.out _ _ _ _ _ _ _ _ _ nQ nZ).mono ?_
        rintro e W8 ⟨rfl, hb⟩
        replace hb7 := hb7.trans (hb.mono hb7.size)
        clear hb
        cases hcl : d2.c with
        | true =>
          have zR := iR.below hb7 iR.lt
          have zF := KN.iF.below hb7 KN.iF.lt
          have cR6 : W8.cell? ⟨DR, 6, none⟩ = some (.bool true) := (zR.cell 6).trans (by show some (Value.bool d2.c) = _; rw [hcl])
          have cR2 : W8.cell? ⟨DR, 2, none⟩ = some (.string B) := (zR.cell 2).trans (by show some (Value.string d2.B) = _; rw [hdB])
          have cF0 : W8.cell? ⟨DF, 0, none⟩ = some (.string B) := zF.cell 0
          have cF1 : W8.cell? ⟨DF, 1, none⟩ = some (.int .i64 0) := zF.cell 1
          have NT := neT9 B 0 W8
          cases rb with
          | true =>
            have cR3 : W8.cell? ⟨DR, 3, none⟩ = some (.int .i64 0) := (zR.cell 3).trans (by show some (Value.int .i64 d2.a) = _; rw [HTP.out rfl])
            go_wp2
            go_meet
            exact ⟨rfl, hb7⟩
          | false =>
            go_wp2
            go_meet
            exact ⟨rfl, hb7⟩
        | false =>
          obtain rfl := HBK.out hcl
          have zN := iN.below hb7 iN.lt
          have cN0 : W8.cell? ⟨DN, 0, none⟩ = some (.int .i64 n0) := zN.cell 0
          have cR6 : W8.cell? ⟨DR, 6, none⟩ = some (.bool false) := ((iR.below hb7 iR.lt).cell 6).trans (by show some (Value.bool d2.c) = _; rw [hcl])
          go_wp2_with fail
          refine (TX.out _).mono ?_
          rintro e W9 ⟨rfl, hb⟩
          replace hb7 := hb7.trans (hb.mono hb7.size)
          clear hb cN0 zN cR6
          have zR := iR.below hb7 iR.lt
          have zF := KN.iF.below hb7 KN.iF.lt
          have cR2 : W9.cell? ⟨DR, 2, none⟩ = some (.string B) := (zR.cell 2).trans (by show some (Value.string d2.B) = _; rw [hdB])
          have cF0 : W9.cell? ⟨DF, 0, none⟩ = some (.string B) := zF.cell 0
          have cF1 : W9.cell? ⟨DF, 1, none⟩ = some (.int .i64 0) := zF.cell 1
          have NT := neT9 B 0 W9
          cases rb with
          | true =>
            have cR3 : W9.cell? ⟨DR, 3, none⟩ = some (.int .i64 0) := (zR.cell 3).trans (by show some (Value.int .i64 d2.a) = _; rw [HTP.out rfl])
            go_wp2
            go_meet
            exact ⟨rfl, hb7⟩
          | false =>
            go_wp2
            go_meet
            exact ⟨rfl, hb7⟩
      case rest =>
        obtain ⟨rfl, hb⟩ := hcut
        replace w1 := w1.wide9 hb.size
        replace w2 := w2.wide9 hb.size
        replace iR := iR.below hb iR.lt
        replace nZ := nZ.keep hb
        replace hsz := Nat.le_trans hsz hb.size
        replace KN := KN.below hb
        clear hb SM TX OP nQ iQ iN HBK HTP hdB LM CM DM WD PE PC AS
        have iA := KN.iA
        go_upto_region 20 with (first
          | (refine wpList_load_row rfl 31 _ rfl DR rfl 31 _ (0, 0) _ iR Tryz.underlying31 rfl infoOra ?_)
          | (refine wpList_store_row rfl 31 _ _ rfl DO (oraL ⟨m, K, d2⟩ F1R f1R F2R f2R) rfl rfl 31 _ iA infoOra rfl (oraL_one9 _ _ _ _ _) ?_))
        replace KN := KN.set HSEP.out hsz w1 w2 nZ hDn
        clear iA w1 w2 iR nZ hsz
        generalize wc.setRow DO (oraL ⟨m, K, d2⟩ F1R f1R F2R f2R) = X0 at *
        go_wp2
        go_loopw [31] (fun j wr => ∃ mm : Nat, mm ≤ k ∧ j = .int .i64 (mm : Int) ∧ KIn9 w wr DO DF B ⟨m, K, d2⟩ F1R f1R F2R f2R AI cI AO cO LL O) (fun j _ => k - (intOf j).toNat)
        case atStart => exact ⟨0, by omega, rfl, KN⟩
        case round =>
          clear KN
          obtain ⟨mm, hmk, rfl, KN⟩ := hrel
          by_cases hlm : mm < k
          · have lm : (mm : Int) < (LL.length : Int) := by have := HLk.out; omega
            have lm2 : (mm : Int) < (O.length : Int) := by have := HOl.out; omega
            have w6i := IntWalk.i64_in ((mm : Int) + 1) (by omega)
            obtain ⟨qj, hqj⟩ : ∃ q, (qs9 R)[mm]? = some q := ⟨_, List.getElem?_eq_getElem (by have := (List.getElem?_eq_some_iff.1 HQ.out).1; omega)⟩
            obtain ⟨oj, hoj⟩ : ∃ o, O[mm]? = some o := ⟨_, List.getElem?_eq_getElem (by have := HOl.out; omega)⟩
            have hjI : LL[mm]? = some qj := by rw [HLt.out]; exact take_at9 hqj hlm
            obtain ⟨bI, hAI, hcI⟩ := rowAt9 KN.rI hjI
            obtain ⟨bO, hAO, hcO⟩ := rowAt9 KN.rO hoj
            subst hAI
            subst hAO
            obtain ⟨hsame, hclash⟩ := HBO.out mm qj oj hlm hqj hoj
            clear hjI hqj hoj
            have cA6 : wr.cell? ⟨DO, 6, none⟩ = some (.bool d2.c) := KN.iA.cell 6
            by_cases ht : qj = q
            · have ho := hsame ht
              rw [ht] at hcI
              rw [ho] at hcO
              clear hsame hclash ht ho cA6
              go_wp2
              go_roundw
              case rel => exact ⟨mm + 1, by omega, by go_num, KN⟩
              case measure => simp [intOf]; omega
            · have n1 := ne7 ht
              have n2 := beq7 ht
              by_cases ho : oj = s
              · rw [hclash ht ho] at cA6
                rw [ho] at hcO
                clear hsame hclash ht ho
                go_wp2
                go_roundw
                case rel => exact ⟨mm + 1, by omega, by go_num, KN⟩
                case measure => simp [intOf]; omega
              · have n3 := ne7 ho
                have n4 := beq7 ho
                clear hsame hclash ht cA6
                go_wp2
                go_roundw
                case rel => exact ⟨mm + 1, by omega, by go_num, KN⟩
                case measure => simp [intOf]; omega
          · have lm : ¬ (mm : Int) < (LL.length : Int) := by have := HLk.out; omega
            obtain rfl : mm = k := by omega
            have hO15 : O.length ≤ 15 := by have := HOl.out; omega
            have hL15 : LL.length ≤ 15 := by have := HLk.out; omega
            have KX := KN.alloc (.cells #[.string q] 9)
            have iX : Is (wr.alloc (.cells #[.string q] 9)) wr.heap.size 9 #[.string q] := Is.new _ _ _
            have oneT : ∀ u ∈ (#[.string q] : Array Value).toList, u.oneCell' = true := fun u hu => by simp only [List.mem_cons, List.not_mem_nil, or_false] at hu; subst hu; rfl
            have oneS : ∀ u ∈ (#[.string s] : Array Value).toList, u.oneCell' = true := fun u hu => by simp only [List.mem_cons, List.not_mem_nil, or_false] at hu; subst hu; rfl
            go_wp2_with (first | (at_builtin; refine wpList_pushA rfl _ _ 41 9 i0 (.string ⟨#[]⟩) 1 16 rfl Tryz.underlying41 hi0 hz0 hz1 hz2 rfl (by decide) w.heap.size AI cI LL.length _ KX.rI wr.heap.size 9 #[.string q] iX rfl oneT (by unfold maxLen; omega) (by omega) ⟨rfl, rfl⟩ KX.hB.size ?_; intro B1 b1 Y1 rr1 gg1 tt1; have KY := (KX.pushI rr1 gg1 tt1).alloc (.cells #[.string s] 9); have iY : Is (Y1.alloc (.cells #[.string s] 9)) Y1.heap.size 9 #[.string s] := Is.new _ _ _) | (at_builtin; refine wpList_pushA rfl _ _ 41 9 i0 (.string ⟨#[]⟩) 1 16 rfl Tryz.underlying41 hi0 hz0 hz1 hz2 rfl (by decide) w.heap.size AO cO O.length _ KY.rO Y1.heap.size 9 #[.string s] iY rfl oneS (by unfold maxLen; omega) (by omega) ⟨rfl, rfl⟩ KY.hB.size ?_; intro B2 b2 Y2 rr2 gg2 tt2; have KZ := KY.pushO rr2 gg2 tt2))
            go_roundw
            case rel =>
              have hst : Kst9 w Y2 DO DF rb m K B (qs9 R) (mm + 1) (.slice B1 (LL ++ [q]).length b1) (.slice B2 (O ++ [s]).length b2) := ⟨d2, LL ++ [q], O ++ [s], F1R, f1R, F2R, f2R, B1, b1, B2, b2, HRE.out, HST.out, by rw [HLt.out, take_succ9 HQ.out], by rw [List.length_append, HLk.out]; rfl, rfl, rfl, KZ⟩
              rw [List.length_append, List.length_append] at hst
              exact ⟨mm + 1, by omega, by omega, by go_num, hst⟩
            case measure => simp [intOf]; omega
    · have hend : (k : Int) < (R.length : Int) → ¬ (k : Int) < 10 := fun h => by omega
      have hr8 := (right8_iff _).2 host.right
      have DC := Lib.hid (fun W A c A' c' (h : InI W d A c A' c') => dright8_any d A c A' c' W h)
      rw [hr8] at DC
      have iA := KN.iA
      have rA : wr.rangeAt DO 2 (ideL d A1 c1 A2 c2).toList := iA.range9 2 _ (ora_ide9 ⟨m, K, d⟩ A1 c1 A2 c2)
      have nI := KN.nA.i
      have hBw := KN.hB
      clear KN iA host hkp hr8 HDO HC HY HQL HRB
      by_cases hl2 : (k : Int) < (R.length : Int)
      · have hl3 := hend hl2
        clear hend
        go_wp2_with (refine wpList_load_midG (by kernel_rfl) 29 _ rfl DO 2 rfl _ _ rA Tryz.underlying29 rfl infoIde ?_)
        refine (DC.out _ _ _ _ _ nI).mono ?_
        rintro e W9 ⟨rfl, hb⟩
        go_wp2
        go_ret
        exact ⟨rfl, hBw.trans (hb.mono hBw.size)⟩
      · clear hend
        go_wp2_with (refine wpList_load_midG (by kernel_rfl) 29 _ rfl DO 2 rfl _ _ rA Tryz.underlying29 rfl infoIde ?_)
        refine (DC.out _ _ _ _ _ nI).mono ?_
        rintro e W9 ⟨rfl, hb⟩
        go_wp2
        go_ret
        exact ⟨rfl, hBw.trans (hb.mono hBw.size)⟩
end Go.Proofs.YtfgdcpolfekgjaaGreat

