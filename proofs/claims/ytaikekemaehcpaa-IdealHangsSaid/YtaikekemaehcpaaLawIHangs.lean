/-
  IdealHangs: the walk of the statement's function.
-/
import Derived.Test.YtaikekemaehcpaaIdz2
import Derived.Test.YtaikekemaehcpaaIdz1
import Derived.Test.YtaikekemaehcpaaGIdP
namespace Go.Proofs.Ytaikekemaehcpaa
open Go.RowKit Go.Shelf

theorem neT8 (B : ByteArray) (a : Int) (w : World) : (binOp .neq 26 (.agg #[.string B, .int .i64 a]) (.agg #[.string B, .int .i64 a])).run Try.prog w = .ok (.bool false) w := by go_simp
/-- where both stand. -/
structure Two8 (w W : World) (DP DQ : Nat) (B : ByteArray) (p : Int) (k : Nat) (a b : Ide) (A1 : Option Addr) (c1 : Nat) (A2 : Option Addr) (c2 : Nat) (E1 : Option Addr) (e1 : Nat) (E2 : Option Addr) (e2 : Nat) : Prop where
  tw : Tw8 B (nul8 15) p k a b
  iP : Is W DP 30 (ideL a A1 c1 A2 c2)
  iQ : Is W DQ 30 (ideL b E1 e1 E2 e2)
  nP : InI W a A1 c1 A2 c2
  nQ : InI W b E1 e1 E2 e2
  hB : Below w.heap.size w W
structure At8 (w W : World) (DP DQ : Nat) (B : ByteArray) (p : Int) (k : Nat) : Prop where
  out : ∃ a b A1 c1 A2 c2 E1 e1 E2 e2, Two8 w W DP DQ B p k a b A1 c1 A2 c2 E1 e1 E2 e2

set_option maxRecDepth 100000 in
set_option maxHeartbeats 8000000 in
theorem ihangs_walk (A : Option Addr) (cap : Nat) (L : List Int) (small : Bool) (A' : Option Addr) (cap' : Nat) (M : List Int) (more : Int) (w : World) (hl : L.length ≤ maxLen ∧ L.length ≤ cap) (_hn : A = none → cap = 0) (hc : InL w A L) (hL : ∀ y ∈ L, -9223372036854775808 ≤ y ∧ y ≤ 9223372036854775807)
    (hm : M.length ≤ maxLen ∧ M.length ≤ cap') (_hn' : A' = none → cap' = 0) (hc' : InL w A' M) (hM : ∀ y ∈ M, -9223372036854775808 ≤ y ∧ y ≤ 9223372036854775807) (hmo : -9223372036854775808 ≤ more ∧ more ≤ 9223372036854775807) :
    Calls Try.prog 5 #[.slice A L.length cap, .bool small, .slice A' M.length cap', .int .i64 more] w fun e w' => e = .returned (.bool true) ∧ Below w.heap.size w w' := by
  have DR := Lib.hid (fun (W : World) (hb : Below w.heap.size w W) => draws_any A cap L small W (hc.keep hb) hL hl.1)
  have hBs := drwS_size L small
  obtain ⟨hm1, _⟩ := hm
  unfold maxLen at hm1
  generalize drwS L small = B at *
  have hr0 := two_right8 hBs
  have TW0 := Lib.hid (Tw8.start (Z := nul8 15) (p := pickN more 200) hr0)
  have M0 := fun w => new_any B 0 w
  have e0 : new8 B 0 = (⟨B, 0, [], [], false⟩, 0) := by rw [new8, if_pos hr0]
  simp only [e0] at M0 TW0
  have H0 := Lib.hid (fun W : World => InI.empty W (show (⟨B, 0, [], [], false⟩ : Ide).N = [] from rfl) (show (⟨B, 0, [], [], false⟩ : Ide).K = [] from rfl))
  generalize (⟨B, 0, [], [], false⟩ : Ide) = D0 at *
  replace M0 := Lib.hid M0
  have HC := Lib.hid (fun (W : World) (hb : Below w.heap.size w W) => hc'.keep hb)
  have HY := Lib.hid hM
  have P200 := Lib.hid (fun w => pick8_any more 200 w hmo.1 hmo.2 (by omega) (by omega))
  have hp := pickN_bd more 200 (by omega)
  generalize pickN more 200 = p at *
  have HBs := Lib.hid hBs
  clear hc hL hl hc' hM hBs hr0 e0 hmo _hn _hn'
  go_enter Try.func5, Try.ntmps5
  go_wp2_with fail
  have hB : Below w.heap.size w w := Below.refl _ _
  refine (awake8_any _).mono ?_
  rintro e W1 ⟨rfl, hb⟩
  replace hB := hB.trans (hb.mono hB.size)
  clear hb
  go_wp2_with fail
  refine (DR.out _ hB).mono ?_
  rintro e W2 ⟨rfl, hb⟩
  replace hB := hB.trans (hb.mono hB.size)
  clear hb
  go_wp2_with fail
  refine (M0.out _).mono ?_
  rintro e W3 ⟨rfl, hb⟩
  replace hB := hB.trans (hb.mono hB.size)
  clear hb
  have nP := H0.out W3
  have iP : Is (W3.alloc (.cells (ideL D0 none 0 none 0) 30)) W3.heap.size 30 (ideL D0 none 0 none 0) := Is.new _ _ _
  replace nP := nP.keep ((Below.refl _ _).alloc (Nat.le_refl _) (.cells (ideL D0 none 0 none 0) 30))
  have hDP := hB.size
  replace hB := hB.alloc hB.size (.cells (ideL D0 none 0 none 0) 30)
  go_wp2_with (first | (refine wpList_load_rowG (by kernel_rfl) 30 _ rfl (W3.heap.size) rfl 30 _ iP Try.underlying30 rfl infoIde ?_))
  generalize W3.alloc (.cells (ideL D0 none 0 none 0) 30) = W4 at *
  generalize W3.heap.size = DP at *
  refine (DR.out _ hB).mono ?_
  rintro e W5 ⟨rfl, hb⟩
  replace iP := iP.below hb iP.lt
  replace nP := nP.keep hb
  replace hB := hB.trans (hb.mono hB.size)
  clear hb
  go_wp2_with (first | (refine wpList_load_rowG (by kernel_rfl) 30 _ rfl (DP) rfl 30 _ iP Try.underlying30 rfl infoIde ?_))
  refine (M0.out _).mono ?_
  rintro e W6 ⟨rfl, hb⟩
  replace iP := iP.below hb iP.lt
  replace nP := nP.keep hb
  replace hB := hB.trans (hb.mono hB.size)
  clear hb
  have nQ := H0.out W6
  have iQ : Is (W6.alloc (.cells (ideL D0 none 0 none 0) 30)) W6.heap.size 30 (ideL D0 none 0 none 0) := Is.new _ _ _
  have qPQ := iP.lt
  replace iP := iP.alloc (.cells (ideL D0 none 0 none 0) 30)
  replace nP := nP.keep ((Below.refl _ _).alloc (Nat.le_refl _) (.cells (ideL D0 none 0 none 0) 30))
  replace nQ := nQ.keep ((Below.refl _ _).alloc (Nat.le_refl _) (.cells (ideL D0 none 0 none 0) 30))
  have hDQ := hB.size
  replace hB := hB.alloc hB.size (.cells (ideL D0 none 0 none 0) 30)
  go_wp2_with (first | (refine wpList_load_rowG (by kernel_rfl) 30 _ rfl (DP) rfl 30 _ iP Try.underlying30 rfl infoIde ?_) | (refine wpList_load_rowG (by kernel_rfl) 30 _ rfl (W6.heap.size) rfl 30 _ iQ Try.underlying30 rfl infoIde ?_))
  generalize W6.alloc (.cells (ideL D0 none 0 none 0) 30) = W7 at *
  generalize W6.heap.size = DQ at *
  have HPQ := Lib.hid (Nat.ne_of_lt qPQ)
  have HDP := Lib.hid hDP
  have HDQ := Lib.hid hDQ
  clear qPQ hDP hDQ
  go_loopw [14] (fun i wr => ∃ k : Nat, k ≤ 15 ∧ k ≤ M.length ∧ i = .int .i64 (k : Int) ∧ At8 w wr DP DQ B p k) (fun i _ => 15 - (intOf i).toNat)
  case atStart => exact ⟨0, by omega, by omega, rfl, ⟨_, _, _, _, _, _, _, _, _, _, TW0.out, iP, iQ, nP, nQ, hB⟩⟩
  case round =>
    clear iP iQ nP nQ hB
    obtain ⟨k, hk15, hkl, rfl, hat⟩ := hrel
    obtain ⟨a, b, A1, c1, A2, c2, E1, e1, E2, e2, tw, iP, iQ, nP, nQ, hB⟩ := hat.out
    clear hat
    by_cases hlt : k < M.length ∧ k < 15
    · obtain ⟨hlt, hlt2⟩ := hlt
      obtain ⟨kb, off, rfl, hkb, hcy⟩ := HC.out wr hB k hlt
      have hyb := HY.out (M.getD k 0) (by rw [List.getD_eq_getElem?_getD, List.getElem?_eq_getElem hlt]; exact List.getElem_mem hlt)
      generalize M.getD k 0 = y at *
      have PY := Lib.hid (fun w => pick8_any y 2 w hyb.1 hyb.2 (by omega) (by omega))
      generalize pickN y 2 = py at *
      have l1 : (k : Int) < (M.length : Int) := by omega
      have l2 : (k : Int) < 15 := by omega
      have w1i := IntWalk.i64_in ((k : Int) + 1) (by omega)
      have w2i := IntWalk.i64_in ((k : Int) + 1 + p) (by omega)
      have w3i : IntKind.u8.wrap (k : Int) = (k : Int) := by rw [show IntKind.u8.wrap (k : Int) = (k : Int) % 256 from rfl]; omega
      have w4i : IntKind.u8.wrap ((k : Int) + 1 + p) = (k : Int) + 1 + p := by rw [show IntKind.u8.wrap ((k : Int) + 1 + p) = ((k : Int) + 1 + p) % 256 from rfl]; omega
      have v9 := convL8 [(k : Int)] (n := 1) (by rfl) (Is.new wr 5 #[.int .u8 (k : Int)])
      go_wp2_with fail
      clear v9
      replace iP := iP.alloc (.cells #[.int .u8 (k : Int)] 5)
      replace iQ := iQ.alloc (.cells #[.int .u8 (k : Int)] 5)
      replace nP := nP.keep ((Below.refl _ _).alloc (Nat.le_refl _) (.cells #[.int .u8 (k : Int)] 5))
      replace nQ := nQ.keep ((Below.refl _ _).alloc (Nat.le_refl _) (.cells #[.int .u8 (k : Int)] 5))
      replace hB := hB.alloc hB.size (.cells #[.int .u8 (k : Int)] 5)
      replace hcy := (((Below.refl _ _).alloc (Nat.le_refl _) (.cells #[.int .u8 (k : Int)] 5)).cell (p := ⟨kb, off + k, none⟩) hkb).trans hcy
      replace hkb : kb < (wr.alloc (.cells #[.int .u8 (k : Int)] 5)).heap.size := by rw [World.size_alloc]; omega
      generalize wr.alloc (.cells #[.int .u8 (k : Int)] 5) = V1 at *
      refine (P200.out _).mono ?_
      rintro e w' ⟨rfl, rfl⟩
      have v10 := convL8 [(k : Int) + 1 + p, 121] (n := 2) (by rfl) (Is.new V1 5 #[.int .u8 ((k : Int) + 1 + p), .int .u8 121])
      replace iP := iP.alloc (.cells #[.int .u8 ((k : Int) + 1 + p), .int .u8 121] 5)
      replace iQ := iQ.alloc (.cells #[.int .u8 ((k : Int) + 1 + p), .int .u8 121] 5)
      replace nP := nP.keep ((Below.refl _ _).alloc (Nat.le_refl _) (.cells #[.int .u8 ((k : Int) + 1 + p), .int .u8 121] 5))
      replace nQ := nQ.keep ((Below.refl _ _).alloc (Nat.le_refl _) (.cells #[.int .u8 ((k : Int) + 1 + p), .int .u8 121] 5))
      replace hB := hB.alloc hB.size (.cells #[.int .u8 ((k : Int) + 1 + p), .int .u8 121] 5)
      replace hcy := (((Below.refl _ _).alloc (Nat.le_refl _) (.cells #[.int .u8 ((k : Int) + 1 + p), .int .u8 121] 5)).cell (p := ⟨kb, off + k, none⟩) hkb).trans hcy
      replace hkb : kb < (V1.alloc (.cells #[.int .u8 ((k : Int) + 1 + p), .int .u8 121] 5)).heap.size := by rw [World.size_alloc]; omega
      go_wp2_with fail
      clear v10
      generalize V1.alloc (.cells #[.int .u8 ((k : Int) + 1 + p), .int .u8 121] 5) = V2 at *
      refine (PY.out _).mono ?_
      rintro e w' ⟨rfl, rfl⟩
      clear hcy hkb PY P200 w1i w2i w3i w4i
      have hPQ := HPQ.out
      have hDP := HDP.out
      have hDQ := HDQ.out
      by_cases hz : py = 0
      · subst hz
        obtain ⟨s, a', b', ha, hb2, tw2⟩ := tw.lab HBs.out hp hlt2
        have LA := fun W A c A' c' (h : InI W a A c A' c') => label_any a A c A' c' (strOfNums [(k : Int)]) W h
        have LB := fun W A c A' c' (h : InI W b A c A' c') => label_any b A c A' c' (strOfNums [(k : Int) + 1 + p, 121]) W h
        simp only [ha] at LA
        simp only [hb2] at LB
        replace LA := Lib.hid LA
        replace LB := Lib.hid LB
        have TW := Lib.hid tw2
        clear tw ha hb2 tw2
        go_wp2_with (refine wpList_load_rowG (by kernel_rfl) 30 _ rfl DP rfl 30 _ iP Try.underlying30 rfl infoIde ?_)
        refine (LA.out _ _ _ _ _ nP).mono ?_
        rintro e V3 ⟨F1, f1, F2, f2, rfl, nF, hb⟩
        replace iP := iP.below hb iP.lt
        replace iQ := iQ.below hb iQ.lt
        replace nQ := nQ.keep hb
        replace hB := hB.trans (hb.mono hB.size)
        clear hb nP
        have j1 := iP.row (ideL a' F1 f1 F2 f2)
        have j2 := iQ.rowFar (k := DP) (by omega) (ideL a' F1 f1 F2 f2)
        have j3 := nF.offRow iP (ideL a' F1 f1 F2 f2)
        have j4 := nQ.offRow iP (ideL a' F1 f1 F2 f2)
        have j5 := belowRow hB (g := DP) (by omega) (ideL a' F1 f1 F2 f2)
        go_wp2_with (first | (refine wpList_store_row rfl 30 _ _ rfl DP (ideL a' F1 f1 F2 f2) rfl rfl 30 _ iP infoIde rfl (ideL_one _ _ _ _ _) ?_) | (refine wpList_load_rowG (by kernel_rfl) 30 _ rfl DQ rfl 30 _ j2 Try.underlying30 rfl infoIde ?_))
        clear iP iQ nF nQ hB
        have iP := j1
        have iQ := j2
        have nP := j3
        have nQ := j4
        have hB := j5
        clear j1 j2 j3 j4 j5
        generalize V3.setRow DP (ideL a' F1 f1 F2 f2) = V4 at *
        refine (LB.out _ _ _ _ _ nQ).mono ?_
        rintro e V5 ⟨G1, g1, G2, g2, rfl, nF, hb⟩
        replace iP := iP.below hb iP.lt
        replace iQ := iQ.below hb iQ.lt
        replace nP := nP.keep hb
        replace hB := hB.trans (hb.mono hB.size)
        clear hb nQ
        have j1 := iQ.row (ideL b' G1 g1 G2 g2)
        have j2 := iP.rowFar (k := DQ) (by omega) (ideL b' G1 g1 G2 g2)
        have j3 := nF.offRow iQ (ideL b' G1 g1 G2 g2)
        have j4 := nP.offRow iQ (ideL b' G1 g1 G2 g2)
        have j5 := belowRow hB (g := DQ) (by omega) (ideL b' G1 g1 G2 g2)
        have cP0 : (V5.setRow DQ (ideL b' G1 g1 G2 g2)).cell? ⟨DP, 0, none⟩ = some (.string B) := by rw [← TW.out.ra.tape]; exact j2.cell 0
        have cP1 : (V5.setRow DQ (ideL b' G1 g1 G2 g2)).cell? ⟨DP, 1, none⟩ = some (.int .i64 a'.a) := j2.cell 1
        have cQ0 : (V5.setRow DQ (ideL b' G1 g1 G2 g2)).cell? ⟨DQ, 0, none⟩ = some (.string B) := by rw [← TW.out.rb.tape]; exact j1.cell 0
        have cQ1 : (V5.setRow DQ (ideL b' G1 g1 G2 g2)).cell? ⟨DQ, 1, none⟩ = some (.int .i64 a'.a) := by rw [TW.out.at_]; exact j1.cell 1
        have w9i := IntWalk.i64_in ((k : Int) + 1) (by omega)
        go_wp2_with (refine wpList_store_row rfl 30 _ _ rfl DQ (ideL b' G1 g1 G2 g2) rfl rfl 30 _ iQ infoIde rfl (ideL_one _ _ _ _ _) ?_)
        go_roundw
        case rel => exact ⟨k + 1, by omega, by omega, by go_num, ⟨_, _, _, _, _, _, _, _, _, _, TW.out, j2, j1, j4, j3, j5⟩⟩
        case measure => simp [intOf]; omega
      · go_wp2_with fail
        obtain ⟨s, a', b', ha, hb2, tw2⟩ := tw.sea HBs.out (nul8_size 15) hlt2 (t := nul8 24) (u := strOfNums [(k : Int)] ++ nul8 23) (nul8_size 24) (by rw [ByteArray.size_append, strOfNums_size, nul8_size]; rfl)
        have TW := Lib.hid tw2
        have HA := Lib.hid ha
        have HB2 := Lib.hid hb2
        have HX := Lib.hid (show (strOfNums [(k : Int)]).size ≤ 100 from by rw [strOfNums_size]; simp)
        clear tw ha hb2 tw2
        generalize strOfNums [(k : Int)] = X at *
        go_wp2
        refine Code.wp_mono ?_ (hangs_p X HX.out a b a' s A1 c1 A2 c2 E1 e1 E2 e2 DP DQ w _ hPQ hDP hDQ HA.out hB iP iQ nP nQ _ _ _ _ _ _ _ _ _ _ _ _ _ _ _ _ _ _ _ _ _ _ _ _ _ _ _ _ _ _ _ _ _ _ _ _ _ _ _ _ _ _ _ _ _ _ _ _ _ _ _ _ _ _ _ _ _ _ _ _ _ _ _ _ _ _ _ _ _ _ _ _ _ _ _ _ _ _ _ _ _ _ _ _ _ _ _ _ _ _ _ _ _ _ _ _ _ _ _ _ _ _ _ _ _ _ _ _ _ _ _ _ _ _ _ _ _ _ _ _ _ _ _ _)
        clear iP iQ nP nQ hB
        rintro e YY V3 ⟨rfl, hd, g2, g5, F1, f1, F2, f2, hT, hB, iP, iQ, nQ, nP⟩
        obtain ⟨T, D⟩ := YY
        subst hT
        obtain rfl : D = [] := hd
        go_wp2
        refine Code.wp_mono ?_ (hangs_q X HX.out a' b b' s F1 f1 F2 f2 E1 e1 E2 e2 DP DQ w _ hPQ hDP hDQ HB2.out hB iQ iP nQ nP _ _ _ _ _ _ _ _ _ _ _ _ _ _ _ _ _ _ _ _ _ _ _ _ _ _ _ _ _ _ _ _ _ _ _ _ _ _ _ _ _ _ _ _ _ _ _ _ _ _ _ _ _ _ _ _ _ _ _ _ _ _ _ _ _ _ _ _ _ _ _ _ _ _ _ _ _ _ _ _ _ _ _ _ _ _ _ _ _ _ _ _ _ _ _ _ _ _ _ _ _ _ _ _ _ _ _ _ _ _ _ _ _ _ _ _ _ _ _ _ _ _ _ _)
        clear iP iQ nP nQ hB
        rintro e YY V5 ⟨rfl, hd, g1', g6, G1, g1, G2, g2', hT, hB, j1, j2, j4, j3⟩
        obtain ⟨T, D⟩ := YY
        subst hT
        obtain rfl : D = [] := hd
        have cP0 : (V5).cell? ⟨DP, 0, none⟩ = some (.string B) := by rw [← TW.out.ra.tape]; exact j2.cell 0
        have cP1 : (V5).cell? ⟨DP, 1, none⟩ = some (.int .i64 a'.a) := j2.cell 1
        have cQ0 : (V5).cell? ⟨DQ, 0, none⟩ = some (.string B) := by rw [← TW.out.rb.tape]; exact j1.cell 0
        have cQ1 : (V5).cell? ⟨DQ, 1, none⟩ = some (.int .i64 a'.a) := by rw [TW.out.at_]; exact j1.cell 1
        have w9i := IntWalk.i64_in ((k : Int) + 1) (by omega)
        go_wp2
        go_roundw
        case rel => exact ⟨k + 1, by omega, by omega, by go_num, ⟨_, _, _, _, _, _, _, _, _, _, TW.out, j2, j1, j4, j3, hB⟩⟩
        case measure => simp [intOf]; omega
    · have hd : (¬ k < M.length) ∨ (k < M.length ∧ ¬ k < 15) := by omega
      clear tw iP iQ nP nQ
      rcases hd with l1 | ⟨l1, l2⟩
      · have l1' : ¬ (k : Int) < (M.length : Int) := by omega
        go_wp2
        go_ret
        exact ⟨rfl, hB⟩
      · have l1' : (k : Int) < (M.length : Int) := by omega
        have l2' : ¬ (k : Int) < 15 := by omega
        go_wp2
        go_ret
        exact ⟨rfl, hB⟩
end Go.Proofs.Ytaikekemaehcpaa
