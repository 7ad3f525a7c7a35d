/-
  IdealTells: the walk of the statement's function.
-/
import Derived.Test.YtdbdoammbnogaaaIdw4
import Derived.Deep.DeepCutAuto
import Derived.Deep.CutBlock
namespace Go.Proofs.Ytdbdoammbnogaaa
open Go.RowKit Go.Shelf

set_option maxRecDepth 100000 in
set_option maxHeartbeats 16000000 in
theorem itells_walk (A : Option Addr) (cap : Nat) (L : List Int) (small : Bool) (A' : Option Addr) (cap' : Nat) (R : List Raw8) (n : Raw8) (an : ByteArray) (O : Ide) (E1 : Option Addr) (e1 : Nat) (E2 : Option Addr) (e2 : Nat) (at0 : Int) (w : World) (hl : L.length ≤ maxLen ∧ L.length ≤ cap) (_hn : A = none → cap = 0) (hc : InL w A L) (hL : ∀ y ∈ L, -9223372036854775808 ≤ y ∧ y ≤ 9223372036854775807)
    (hR : R.length ≤ maxLen) (hc' : InV w A' (flI R)) (hb' : ∀ n ∈ R, Big8 n) (hnn : Big8 n) (_han : an.size ≤ maxLen) (hO : Odd8 w O E1 e1 E2 e2) (hat : -9223372036854775808 ≤ at0 ∧ at0 ≤ 9223372036854775807) :
    Calls Try.prog 3 #[.slice A L.length cap, .bool small, .slice A' R.length cap', .agg #[.int .i64 n.1, .int .i64 n.2.1, .int .i64 n.2.2], .string an, ideV O E1 e1 E2 e2, .int .i64 at0] w fun e w' => e = .returned (.bool true) ∧ Below w.heap.size w w' := by
  have DR := Lib.hid (fun (W : World) (hb : Below w.heap.size w W) => draws_any A cap L small W (hc.keep hb) hL hl.1)
  have hBs := drwS_size L small
  generalize drwS L small = B at *
  have hr0 := two_right8 hBs
  have e0 : new8 B 0 = (⟨B, 0, [], [], false⟩, 0) := by rw [new8, if_pos hr0]
  have M0 := fun w => new_any B 0 w
  have M1 := fun w => dnew_any B 0 w
  have M2 := fun w => new_any O.B O.a w
  have M3 := fun w => dnew_any O.B O.a w
  obtain ⟨D1, er1, h1⟩ : ∃ x y, new8 O.B O.a = (x, y) := ⟨_, _, rfl⟩
  have hD1 : D1.N = [] ∧ D1.K = [] := by
    have : (new8 O.B O.a).1.N = [] ∧ (new8 O.B O.a).1.K = [] := by unfold new8; split <;> exact ⟨rfl, rfl⟩
    rw [h1] at this; exact this
  simp only [h1] at M2 M3
  have ID := Lib.hid (fun (W : World) (hb : Below w.heap.size w W) => ideal_any B 0 A' cap' R W (hc'.keep hb) hb' hR)
  have HSZ : Hid (((asks8 (new8 B 0).1 (qs8 R)).B.size : Int) = 2000) := Lib.hid (by rw [(raw8_fro hBs R).tape]; omega)
  have HFN : Hid ((asks8 (new8 B 0).1 (qs8 R)).N.length ≤ 15) := Lib.hid (by have := (raw8_fro hBs R).few; omega)
  have HFK : Hid ((asks8 (new8 B 0).1 (qs8 R)).K.length ≤ 15) := Lib.hid (by have := (raw8_fro hBs R).few; omega)
  generalize asks8 (new8 B 0).1 (qs8 R) = D at *
  simp only [e0] at M0 M1
  have H0 := Lib.hid (fun W : World => InI.empty W (show (⟨B, 0, [], [], false⟩ : Ide).N = [] from rfl) (show (⟨B, 0, [], [], false⟩ : Ide).K = [] from rfl))
  generalize (⟨B, 0, [], [], false⟩ : Ide) = D0 at *
  replace M0 := Lib.hid M0
  replace M1 := Lib.hid M1
  replace M2 := Lib.hid M2
  replace M3 := Lib.hid M3
  have HO := Lib.hid (fun (W : World) (hb : Below w.heap.size w W) => hO.keep hb)
  have hn := Lib.hid hnn
  have P5 := Lib.hid (fun w => pick8_any at0 5 w hat.1 hat.2 (by omega) (by omega))
  have hp5 := pickN_bd at0 5 (by omega)
  generalize pickN at0 5 = p5 at *
  have P6 := Lib.hid (fun w => pick8_any n.2.1 6 w hnn.2.1.1 hnn.2.1.2 (by omega) (by omega))
  have hp6 := pickN_bd n.2.1 6 (by omega)
  generalize pickN n.2.1 6 = p6 at *
  have hpu : IntKind.u8.wrap p6 = p6 := by rw [show IntKind.u8.wrap p6 = p6 % 256 from rfl]; omega
  obtain ⟨X6, hX0⟩ : ∃ X, strOfNums [p6] = X := ⟨_, rfl⟩
  obtain ⟨lb, hlb0⟩ : ∃ x, label8 n.2.1 = x := ⟨_, rfl⟩
  obtain ⟨tx, htx0⟩ : ∃ x, text8 n.2.2 = x := ⟨_, rfl⟩
  have hlb := Lib.hid hlb0
  have htx := Lib.hid htx0
  clear hl hL hc hc' hb' hR hBs hr0 e0 h1 hD1 hO hnn hat hlb0 htx0 hp6 _hn _han
  generalize hLL : L.length = Llen at *
  generalize hRL : R.length = Rlen at *
  clear hLL hRL
  obtain ⟨W0, hW0⟩ : ∃ W, W = (w.alloc (.cells #[.int .i64 n.1, .int .i64 n.2.1, .int .i64 n.2.2] 24)).alloc (.cells (ideL O E1 e1 E2 e2) 30) := ⟨_, rfl⟩
  have iN : Is W0 w.heap.size 24 #[.int .i64 n.1, .int .i64 n.2.1, .int .i64 n.2.2] := by rw [hW0]; exact heap_alloc2_old w _ _
  have iO : Is W0 (w.heap.size + 1) 30 (ideL O E1 e1 E2 e2) := by rw [hW0]; exact heap_alloc2_new w _ _
  have hB : Below w.heap.size w W0 := by rw [hW0]; exact ((Below.refl _ _).alloc (Nat.le_refl _) _).alloc (by simp) _
  go_enter Try.func3, Try.ntmps3
  go_wp2_with fail
  rw [← hW0]
  clear hW0
  go_wp2_with fail
  refine (awake8_any _).mono ?_
  rintro e W1 ⟨rfl, hb⟩
  replace iN := iN.below hb iN.lt
  replace iO := iO.below hb iO.lt
  replace hB := hB.trans (hb.mono hB.size)
  clear hb
  go_wp2_with (first | (refine wpList_load_rowG (by kernel_rfl) 30 _ rfl ((w.heap.size + 1)) rfl 30 _ iO Try.underlying30 rfl infoIde ?_))
  refine (DR.out _ hB).mono ?_
  rintro e W2 ⟨rfl, hb⟩
  replace iN := iN.below hb iN.lt
  replace iO := iO.below hb iO.lt
  replace hB := hB.trans (hb.mono hB.size)
  clear hb
  have iT : Is (W2.alloc (.cells #[.string B, .int .i64 0] 26)) W2.heap.size 26 #[.string B, .int .i64 0] := Is.new _ _ _
  have qNT := iN.lt
  replace iN := iN.alloc (.cells #[.string B, .int .i64 0] 26)
  have qOT := iO.lt
  replace iO := iO.alloc (.cells #[.string B, .int .i64 0] 26)
  have hDT := hB.size
  replace hB := hB.alloc hB.size (.cells #[.string B, .int .i64 0] 26)
  go_wp2_with (first | (refine wpList_load_rowG (by kernel_rfl) 30 _ rfl ((w.heap.size + 1)) rfl 30 _ iO Try.underlying30 rfl infoIde ?_) | (refine wpList_load_rowG (by kernel_rfl) 26 _ rfl (W2.heap.size) rfl 26 _ iT Try.underlying26 rfl infoTape ?_))
  generalize W2.alloc (.cells #[.string B, .int .i64 0] 26) = W3 at *
  generalize W2.heap.size = DT at *
  refine (M0.out _).mono ?_
  rintro e W4 ⟨rfl, hb⟩
  replace iN := iN.below hb iN.lt
  replace iO := iO.below hb iO.lt
  replace iT := iT.below hb iT.lt
  replace hB := hB.trans (hb.mono hB.size)
  clear hb
  have iA : Is (W4.alloc (.cells (ideL D0 none 0 none 0) 30)) W4.heap.size 30 (ideL D0 none 0 none 0) := Is.new _ _ _
  have qNA := iN.lt
  replace iN := iN.alloc (.cells (ideL D0 none 0 none 0) 30)
  have qOA := iO.lt
  replace iO := iO.alloc (.cells (ideL D0 none 0 none 0) 30)
  have qTA := iT.lt
  replace iT := iT.alloc (.cells (ideL D0 none 0 none 0) 30)
  have hDA := hB.size
  replace hB := hB.alloc hB.size (.cells (ideL D0 none 0 none 0) 30)
  go_wp2_with (first | (refine wpList_load_rowG (by kernel_rfl) 30 _ rfl ((w.heap.size + 1)) rfl 30 _ iO Try.underlying30 rfl infoIde ?_) | (refine wpList_load_rowG (by kernel_rfl) 26 _ rfl (DT) rfl 26 _ iT Try.underlying26 rfl infoTape ?_) | (refine wpList_load_rowG (by kernel_rfl) 30 _ rfl (W4.heap.size) rfl 30 _ iA Try.underlying30 rfl infoIde ?_))
  generalize W4.alloc (.cells (ideL D0 none 0 none 0) 30) = W5 at *
  generalize W4.heap.size = DA at *
  refine (M1.out _).mono ?_
  rintro e W6 ⟨rfl, hb⟩
  replace iN := iN.below hb iN.lt
  replace iO := iO.below hb iO.lt
  replace iT := iT.below hb iT.lt
  replace iA := iA.below hb iA.lt
  replace hB := hB.trans (hb.mono hB.size)
  clear hb
  have iB : Is (W6.alloc (.cells (ideL D0 none 0 none 0) 30)) W6.heap.size 30 (ideL D0 none 0 none 0) := Is.new _ _ _
  have qNB := iN.lt
  replace iN := iN.alloc (.cells (ideL D0 none 0 none 0) 30)
  have qOB := iO.lt
  replace iO := iO.alloc (.cells (ideL D0 none 0 none 0) 30)
  have qTB := iT.lt
  replace iT := iT.alloc (.cells (ideL D0 none 0 none 0) 30)
  have qAB := iA.lt
  replace iA := iA.alloc (.cells (ideL D0 none 0 none 0) 30)
  have hDB := hB.size
  replace hB := hB.alloc hB.size (.cells (ideL D0 none 0 none 0) 30)
  go_wp2_with (first | (refine wpList_load_rowG (by kernel_rfl) 30 _ rfl ((w.heap.size + 1)) rfl 30 _ iO Try.underlying30 rfl infoIde ?_) | (refine wpList_load_rowG (by kernel_rfl) 26 _ rfl (DT) rfl 26 _ iT Try.underlying26 rfl infoTape ?_) | (refine wpList_load_rowG (by kernel_rfl) 30 _ rfl (DA) rfl 30 _ iA Try.underlying30 rfl infoIde ?_) | (refine wpList_load_rowG (by kernel_rfl) 30 _ rfl (W6.heap.size) rfl 30 _ iB Try.underlying30 rfl infoIde ?_) | (refine wpList_load_mid (by kernel_rfl) 26 _ rfl (w.heap.size + 1) 0 rfl [.string O.B, .int .i64 O.a] _ (World.rangeAt_of_block iO 0 2) Try.underlying26 rfl infoTape ?_))
  generalize W6.alloc (.cells (ideL D0 none 0 none 0) 30) = W7 at *
  generalize W6.heap.size = DB at *
  refine (M2.out _).mono ?_
  rintro e W8 ⟨rfl, hb⟩
  replace iN := iN.below hb iN.lt
  replace iO := iO.below hb iO.lt
  replace iT := iT.below hb iT.lt
  replace iA := iA.below hb iA.lt
  replace iB := iB.below hb iB.lt
  replace hB := hB.trans (hb.mono hB.size)
  clear hb
  have iP : Is (W8.alloc (.cells (ideL D1 none 0 none 0) 30)) W8.heap.size 30 (ideL D1 none 0 none 0) := Is.new _ _ _
  have qNP := iN.lt
  replace iN := iN.alloc (.cells (ideL D1 none 0 none 0) 30)
  have qOP := iO.lt
  replace iO := iO.alloc (.cells (ideL D1 none 0 none 0) 30)
  have qTP := iT.lt
  replace iT := iT.alloc (.cells (ideL D1 none 0 none 0) 30)
  have qAP := iA.lt
  replace iA := iA.alloc (.cells (ideL D1 none 0 none 0) 30)
  have qBP := iB.lt
  replace iB := iB.alloc (.cells (ideL D1 none 0 none 0) 30)
  have hDP := hB.size
  replace hB := hB.alloc hB.size (.cells (ideL D1 none 0 none 0) 30)
  go_wp2_with (first | (refine wpList_load_rowG (by kernel_rfl) 30 _ rfl ((w.heap.size + 1)) rfl 30 _ iO Try.underlying30 rfl infoIde ?_) | (refine wpList_load_rowG (by kernel_rfl) 26 _ rfl (DT) rfl 26 _ iT Try.underlying26 rfl infoTape ?_) | (refine wpList_load_rowG (by kernel_rfl) 30 _ rfl (DA) rfl 30 _ iA Try.underlying30 rfl infoIde ?_) | (refine wpList_load_rowG (by kernel_rfl) 30 _ rfl (DB) rfl 30 _ iB Try.underlying30 rfl infoIde ?_) | (refine wpList_load_rowG (by kernel_rfl) 30 _ rfl (W8.heap.size) rfl 30 _ iP Try.underlying30 rfl infoIde ?_) | (refine wpList_load_mid (by kernel_rfl) 26 _ rfl (w.heap.size + 1) 0 rfl [.string O.B, .int .i64 O.a] _ (World.rangeAt_of_block iO 0 2) Try.underlying26 rfl infoTape ?_))
  generalize W8.alloc (.cells (ideL D1 none 0 none 0) 30) = W9 at *
  generalize W8.heap.size = DP at *
  refine (M3.out _).mono ?_
  rintro e W10 ⟨rfl, hb⟩
  replace iN := iN.below hb iN.lt
  replace iO := iO.below hb iO.lt
  replace iT := iT.below hb iT.lt
  replace iA := iA.below hb iA.lt
  replace iB := iB.below hb iB.lt
  replace iP := iP.below hb iP.lt
  replace hB := hB.trans (hb.mono hB.size)
  clear hb
  have nA := H0.out W10
  have iQ : Is (W10.alloc (.cells (ideL D1 none 0 none 0) 30)) W10.heap.size 30 (ideL D1 none 0 none 0) := Is.new _ _ _
  have qNQ := iN.lt
  replace iN := iN.alloc (.cells (ideL D1 none 0 none 0) 30)
  have qOQ := iO.lt
  replace iO := iO.alloc (.cells (ideL D1 none 0 none 0) 30)
  have qTQ := iT.lt
  replace iT := iT.alloc (.cells (ideL D1 none 0 none 0) 30)
  have qAQ := iA.lt
  replace iA := iA.alloc (.cells (ideL D1 none 0 none 0) 30)
  have qBQ := iB.lt
  replace iB := iB.alloc (.cells (ideL D1 none 0 none 0) 30)
  have qPQ := iP.lt
  replace iP := iP.alloc (.cells (ideL D1 none 0 none 0) 30)
  replace nA := nA.keep ((Below.refl _ _).alloc (Nat.le_refl _) (.cells (ideL D1 none 0 none 0) 30))
  have hDQ := hB.size
  replace hB := hB.alloc hB.size (.cells (ideL D1 none 0 none 0) 30)
  go_wp2_with (first | (refine wpList_load_rowG (by kernel_rfl) 30 _ rfl ((w.heap.size + 1)) rfl 30 _ iO Try.underlying30 rfl infoIde ?_) | (refine wpList_load_rowG (by kernel_rfl) 26 _ rfl (DT) rfl 26 _ iT Try.underlying26 rfl infoTape ?_) | (refine wpList_load_rowG (by kernel_rfl) 30 _ rfl (DA) rfl 30 _ iA Try.underlying30 rfl infoIde ?_) | (refine wpList_load_rowG (by kernel_rfl) 30 _ rfl (DB) rfl 30 _ iB Try.underlying30 rfl infoIde ?_) | (refine wpList_load_rowG (by kernel_rfl) 30 _ rfl (DP) rfl 30 _ iP Try.underlying30 rfl infoIde ?_) | (refine wpList_load_rowG (by kernel_rfl) 30 _ rfl (W10.heap.size) rfl 30 _ iQ Try.underlying30 rfl infoIde ?_) | (refine wpList_load_mid (by kernel_rfl) 26 _ rfl (w.heap.size + 1) 0 rfl [.string O.B, .int .i64 O.a] _ (World.rangeAt_of_block iO 0 2) Try.underlying26 rfl infoTape ?_))
  generalize W10.alloc (.cells (ideL D1 none 0 none 0) 30) = W11 at *
  generalize W10.heap.size = DQ at *
  refine (same8_any D0 none 0 none 0 none 0 none 0 _ nA nA).mono ?_
  rintro e W12 ⟨rfl, hb⟩
  replace iN := iN.below hb iN.lt
  replace iO := iO.below hb iO.lt
  replace iT := iT.below hb iT.lt
  replace iA := iA.below hb iA.lt
  replace iB := iB.below hb iB.lt
  replace iP := iP.below hb iP.lt
  replace iQ := iQ.below hb iQ.lt
  replace nA := nA.keep hb
  replace hB := hB.trans (hb.mono hB.size)
  clear hb
  clear nA
  clear iA iB iP iQ
  go_wp2_with (first | (refine wpList_load_rowG (by kernel_rfl) 30 _ rfl ((w.heap.size + 1)) rfl 30 _ iO Try.underlying30 rfl infoIde ?_) | (refine wpList_load_rowG (by kernel_rfl) 26 _ rfl (DT) rfl 26 _ iT Try.underlying26 rfl infoTape ?_) | (refine wpList_load_mid (by kernel_rfl) 26 _ rfl (w.heap.size + 1) 0 rfl [.string O.B, .int .i64 O.a] _ (World.rangeAt_of_block iO 0 2) Try.underlying26 rfl infoTape ?_))
  refine (ID.out _ hB).mono ?_
  rintro e W13 ⟨A1, c1, A2, c2, rfl, hI, hb⟩
  replace iN := iN.below hb iN.lt
  replace iO := iO.below hb iO.lt
  replace iT := iT.below hb iT.lt
  replace hB := hB.trans (hb.mono hB.size)
  clear hb
  have nD := hI
  clear hI
  clear iT
  have iD : Is (W13.alloc (.cells (ideL D A1 c1 A2 c2) 30)) W13.heap.size 30 (ideL D A1 c1 A2 c2) := Is.new _ _ _
  have qND := iN.lt
  replace iN := iN.alloc (.cells (ideL D A1 c1 A2 c2) 30)
  have qOD := iO.lt
  replace iO := iO.alloc (.cells (ideL D A1 c1 A2 c2) 30)
  replace nD := nD.keep ((Below.refl _ _).alloc (Nat.le_refl _) (.cells (ideL D A1 c1 A2 c2) 30))
  have hDD := hB.size
  replace hB := hB.alloc hB.size (.cells (ideL D A1 c1 A2 c2) 30)
  go_upto_region 10 with (first | (refine wpList_load_rowG (by kernel_rfl) 30 _ rfl ((w.heap.size + 1)) rfl 30 _ iO Try.underlying30 rfl infoIde ?_) | (refine wpList_load_rowG (by kernel_rfl) 30 _ rfl (W13.heap.size) rfl 30 _ iD Try.underlying30 rfl infoIde ?_))
  generalize W13.alloc (.cells (ideL D A1 c1 A2 c2) 30) = W14 at *
  generalize W13.heap.size = DD at *
  go_upto_region 11 with (first | (refine wpList_load_rowG (by kernel_rfl) 30 _ rfl DD rfl 30 _ iD Try.underlying30 rfl infoIde ?_))
  have iZ : Is (W14.alloc (.cells (ideL D A1 c1 A2 c2) 30)) W14.heap.size 30 (ideL D A1 c1 A2 c2) := Is.new _ _ _
  have hDZ := iD.lt
  have hNZ := iN.lt
  have hOZ := iO.lt
  have hZw := hB.size
  replace iN := iN.alloc (.cells (ideL D A1 c1 A2 c2) 30)
  replace iO := iO.alloc (.cells (ideL D A1 c1 A2 c2) 30)
  replace iD := iD.alloc (.cells (ideL D A1 c1 A2 c2) 30)
  replace nD := nD.keep ((Below.refl _ _).alloc (Nat.le_refl _) (.cells (ideL D A1 c1 A2 c2) 30))
  replace hB := hB.alloc hB.size (.cells (ideL D A1 c1 A2 c2) 30)
  generalize W14.alloc (.cells (ideL D A1 c1 A2 c2) 30) = WZ at *
  generalize W14.heap.size = DZ at *
  replace hDZ : DD ≠ DZ := Nat.ne_of_lt hDZ
  replace hNZ : w.heap.size ≠ DZ := Nat.ne_of_lt hNZ
  replace hOZ : (w.heap.size + 1) ≠ DZ := Nat.ne_of_lt hOZ
  go_wp2_with fail
  refine (P5.out _).mono ?_
  rintro e w' ⟨rfl, rfl⟩
  go_upto_block 0 with fail
  refine Code.wp_mono ?_ (tells_switch w n hn D O A1 c1 A2 c2 E1 e1 E2 e2 w.heap.size (w.heap.size + 1) DD DZ p5 hp5 HSZ HFN HFK WZ hDZ hNZ hOZ hZw hB iN iO iD iZ nD (HO.out _ hB) _ _ _ _ _ _ _ _ _ _ _ _ _ _ _ _ _ _ _ _ _ _ _ _ _ _ _ _ _ _ _ _ _ _ _ _ _ _ _ _ _ _ _ _ _ _ _ _ _ _ _ _ _ _ _ _ _ _ _ _ _ _ _ _ _ _ _ _ _ _ _ _ _ _ _ _ _ _ _ _ _ _ _ _ _ _ _ _ _ _ _ _ _ _ _ _ _ _ _ _ _ _ _ _ _ _ _ _ _ _ _ _ _ _ _ _ _ _ _ _ _ _ _ _ _ _ _ _ _ _ _ _ _ _ _ _ _ _ _ _ _ _ _ _ _ _ _ _ _ _ _ _ _ _ _ _ _ _ _ _ _ _ _ _ _ _ _ _ _ _ _ _ _ _ _ _ _ _ _ _ _ _ _ _ _ _ _ _ _ _ _ _ _ _ _ _ _ _ _ _ _ _ _ _ _ _ _ _ _ _ _ _ _ _ _ _ _ _ _ _ _ _ _ _ _ _ _ _ _ _ _ _ _ _ _ _ _ _ _ _ _ _ _ _ _ _ _ _ _ _ _ _ _ _ _ _ _ _ _ _ _ _ _ _ _ _ _ _ _ _ _ _ _ _ _ _ _ _ _ _ _ _ _ _ _ _ _ _ _ _ _ _ _ _ _ _ _ _ _ _ _ _ _ _ _ _ _ _ _ _ _ _ _ _ _ _ _ _ _ _ _ rfl)
  rintro e YY wc hE
  obtain ⟨rfl, hd, ff, hT, hz⟩ := hE.out
  dsimp only at hT
  obtain ⟨T0, Dd⟩ := YY
  subst hT
  obtain rfl : Dd = [] := hd
  clear hB iN iO iD iZ nD
  obtain ⟨Z, F1, f1, F2, f2, iN, iD, iZ, nD, nZ, hB⟩ := hz.out
  clear hz
  have cZ0 : wc.cell? ⟨DZ, 0, none⟩ = some (.string Z.B) := iZ.cell 0
  by_cases hbig : 3000 < (Z.B.size : Int)
  · go_wp2
    go_ret
    exact ⟨rfl, hB⟩
  · have oD := iD
    have oZ := iZ
    have iL : Is (wc.alloc (.cells #[.string D.B, .int .i64 D.a, .slice A1 D.N.length c1, .slice A2 D.K.length c2, .bool D.c, .string Z.B, .int .i64 Z.a, .slice F1 Z.N.length f1, .slice F2 Z.K.length f2, .bool Z.c] 30)) wc.heap.size 30 #[.string D.B, .int .i64 D.a, .slice A1 D.N.length c1, .slice A2 D.K.length c2, .bool D.c, .string Z.B, .int .i64 Z.a, .slice F1 Z.N.length f1, .slice F2 Z.K.length f2, .bool Z.c] := Is.new _ _ _
    have qNL := iN.lt
    replace iN := iN.alloc (.cells #[.string D.B, .int .i64 D.a, .slice A1 D.N.length c1, .slice A2 D.K.length c2, .bool D.c, .string Z.B, .int .i64 Z.a, .slice F1 Z.N.length f1, .slice F2 Z.K.length f2, .bool Z.c] 30)
    have qDL := iD.lt
    replace iD := iD.alloc (.cells #[.string D.B, .int .i64 D.a, .slice A1 D.N.length c1, .slice A2 D.K.length c2, .bool D.c, .string Z.B, .int .i64 Z.a, .slice F1 Z.N.length f1, .slice F2 Z.K.length f2, .bool Z.c] 30)
    have qZL := iZ.lt
    replace iZ := iZ.alloc (.cells #[.string D.B, .int .i64 D.a, .slice A1 D.N.length c1, .slice A2 D.K.length c2, .bool D.c, .string Z.B, .int .i64 Z.a, .slice F1 Z.N.length f1, .slice F2 Z.K.length f2, .bool Z.c] 30)
    replace nD := nD.keep ((Below.refl _ _).alloc (Nat.le_refl _) (.cells #[.string D.B, .int .i64 D.a, .slice A1 D.N.length c1, .slice A2 D.K.length c2, .bool D.c, .string Z.B, .int .i64 Z.a, .slice F1 Z.N.length f1, .slice F2 Z.K.length f2, .bool Z.c] 30))
    replace nZ := nZ.keep ((Below.refl _ _).alloc (Nat.le_refl _) (.cells #[.string D.B, .int .i64 D.a, .slice A1 D.N.length c1, .slice A2 D.K.length c2, .bool D.c, .string Z.B, .int .i64 Z.a, .slice F1 Z.N.length f1, .slice F2 Z.K.length f2, .bool Z.c] 30))
    have hDL := hB.size
    replace hB := hB.alloc hB.size (.cells #[.string D.B, .int .i64 D.a, .slice A1 D.N.length c1, .slice A2 D.K.length c2, .bool D.c, .string Z.B, .int .i64 Z.a, .slice F1 Z.N.length f1, .slice F2 Z.K.length f2, .bool Z.c] 30)
    go_wp2_with (first | (refine wpList_load_rowG (by kernel_rfl) 30 _ rfl (DZ) rfl 30 _ oZ Try.underlying30 rfl infoIde ?_) | (refine wpList_load_rowG (by kernel_rfl) 30 _ rfl (DD) rfl 30 _ oD Try.underlying30 rfl infoIde ?_) | (refine wpList_load_rowG (by kernel_rfl) 30 _ rfl (DD) rfl 30 _ iD Try.underlying30 rfl infoIde ?_) | (refine wpList_load_rowG (by kernel_rfl) 30 _ rfl (DZ) rfl 30 _ iZ Try.underlying30 rfl infoIde ?_) | (refine wpList_load_rowG (by kernel_rfl) 30 _ rfl (wc.heap.size) rfl 30 _ iL Try.underlying30 rfl infoIde ?_))
    clear oD oZ
    generalize wc.alloc (.cells #[.string D.B, .int .i64 D.a, .slice A1 D.N.length c1, .slice A2 D.K.length c2, .bool D.c, .string Z.B, .int .i64 Z.a, .slice F1 Z.N.length f1, .slice F2 Z.K.length f2, .bool Z.c] 30) = W101 at *
    generalize wc.heap.size = DL at *
    clear cZ0 iD iZ
    go_loopw [158] (fun i wr => ∃ j : Nat, j ≤ 2 ∧ i = .int .i64 (j : Int) ∧ Below W101.heap.size W101 wr) (fun i _ => 2 - (intOf i).toNat)
    case atStart => exact ⟨0, by omega, rfl, Below.refl _ _⟩
    case round =>
      obtain ⟨j, hj, rfl, hb1⟩ := hrel
      have iN := iN.below hb1 iN.lt
      have iL := iL.below hb1 iL.lt
      have nD := nD.keep hb1
      have nZ := nZ.keep hb1
      have hBr := hB.trans (hb1.mono hB.size)
      by_cases hlt : j < 2
      · obtain ⟨V, G1, g1, G2, g2, nX, hr⟩ : ∃ (V : Ide) (G1 : Option Addr) (g1 : Nat) (G2 : Option Addr) (g2 : Nat), InI wr V G1 g1 G2 g2 ∧ wr.rangeAt DL (j * 5) [.string V.B, .int .i64 V.a, .slice G1 V.N.length g1, .slice G2 V.K.length g2, .bool V.c] := by
          rcases (show j = 0 ∨ j = 1 by omega) with rfl | rfl
          · exact ⟨D, A1, c1, A2, c2, nD, (two_rows8 iL).1⟩
          · exact ⟨Z, F1, f1, F2, f2, nZ, (two_rows8 iL).2⟩
        have l1 : (j : Int) < 2 := by omega
        have w9j := IntWalk.i64_in ((j : Int) + 1) (by omega)
        clear nD nZ iL
        have hB := hBr
        clear hBr
        have cN1 : (wr.alloc (.cells (ideL V G1 g1 G2 g2) 30)).cell? ⟨w.heap.size, 1, none⟩ = some (.int .i64 n.2.1) := (iN.alloc _).cell 1
        have hBx := hb1.alloc hb1.size (.cells (ideL V G1 g1 G2 g2) 30)
        clear hb1
        have iX : Is (wr.alloc (.cells (ideL V G1 g1 G2 g2) 30)) wr.heap.size 30 (ideL V G1 g1 G2 g2) := Is.new _ _ _
        have qNX := iN.lt
        replace iN := iN.alloc (.cells (ideL V G1 g1 G2 g2) 30)
        replace nX := nX.keep ((Below.refl _ _).alloc (Nat.le_refl _) (.cells (ideL V G1 g1 G2 g2) 30))
        have hDX := hB.size
        replace hB := hB.alloc hB.size (.cells (ideL V G1 g1 G2 g2) 30)
        go_wp2_with (first | (refine wpList_load_rowG (by kernel_rfl) 30 _ rfl (wr.heap.size) rfl 30 _ iX Try.underlying30 rfl infoIde ?_) | (refine wpList_load_mid (by kernel_rfl) 30 _ rfl DL (j * 5) rfl [.string V.B, .int .i64 V.a, .slice G1 V.N.length g1, .slice G2 V.K.length g2, .bool V.c] _ hr Try.underlying30 rfl infoIde ?_))
        generalize wr.alloc (.cells (ideL V G1 g1 G2 g2) 30) = W201 at *
        generalize wr.heap.size = DX at *
        clear cN1 hr
        refine (P6.out _).mono ?_
        rintro e w' ⟨rfl, rfl⟩
        have v6 := convL8 [p6] (n := 1) (by rfl) (Is.new W201 5 #[.int .u8 p6])
        rw [hX0] at v6
        have iS : Is ((W201.alloc (.cells #[.int .u8 p6] 5)).alloc (.cells #[.string an, .string X6] 9)) (W201.heap.size + 1) 9 #[.string an, .string X6] := heap_alloc2_new _ _ _
        replace iN := (iN.alloc (.cells #[.int .u8 p6] 5)).alloc (.cells #[.string an, .string X6] 9)
        replace iX := (iX.alloc (.cells #[.int .u8 p6] 5)).alloc (.cells #[.string an, .string X6] 9)
        replace nX := nX.keep (((Below.refl _ _).alloc (Nat.le_refl _) (.cells #[.int .u8 p6] 5)).alloc (by simp) (.cells #[.string an, .string X6] 9))
        replace hB := (hB.alloc hB.size (.cells #[.int .u8 p6] 5)).alloc (hB.alloc hB.size (.cells #[.int .u8 p6] 5)).size (.cells #[.string an, .string X6] 9)
        have hbW : Below W201.heap.size W201 ((W201.alloc (.cells #[.int .u8 p6] 5)).alloc (.cells #[.string an, .string X6] 9)) := ((Below.refl _ _).alloc (Nat.le_refl _) (.cells #[.int .u8 p6] 5)).alloc (by simp) (.cells #[.string an, .string X6] 9)
        replace hBx := hBx.trans (hbW.mono hBx.size)
        clear hbW
        go_upto_block 3 with fail
        clear v6
        generalize (W201.alloc (.cells #[.int .u8 p6] 5)).alloc (.cells #[.string an, .string X6] 9) = V0 at *
        generalize W201.heap.size + 1 = DS at *
        refine Code.wp_mono ?_ (tells_labels V G1 g1 G2 g2 an X6 DX DS _ iX nX iS _ _ _ _ _ _ _ _ _ _ _ _ _ _ _ _ _ _ _ _ _ _ _ _ _ _ _ _ _ _ _ _ _ _ _ _ _ _ _ _ _ _ _ _ _ _ _ _ _ _ _ _ _ _ _ _ _ _ _ _ _ _ _ _ _ _ _ _ _ _ _ _ _ _ _ _ _ _ _ _ _ _ _ _ _ _ _ _ _ _ _ _ _ _ _ _ _ _ _ _ _ _ _ _ _ _ _ _ _ _ _ _ _ _ _ _ _ _ _ _ _ _ _ _ _ _ _ _ _ _ _ _ _ _ _ _ _ _ _ _ _ _ _ _ _ _ _ _ _ _ _ _ _ _ _ _ _ _ _ _ _ _ _ _ _ _ _ _ _ _ _ _ _ _ _ _ _ _ _ _ _ _ _ _ _ _ _ _ _ _ _ _ _ _ _ _ _ _ _ _ _ _ _ _ _ _ _ _ _ _ _ _ _ _ _ _ _ _ _ _ _ _ _ _ _ _ _ _ _ _ _ _ _ _ _ _ _ _ _ _ _ _ _ _ _ _ _ _ _ _ _ _ _ _ _ _ _ _ _ _ _ _ _ _ _ _ _ _ _ _ _ _ _ _ _ _ _ _ _ _ _ _ _ _ _ _ _ _ _ _ _ _ _ _ _ _ _ _ _ _ _ _ _ _ _ _ _ _ _ _ _ _ _ _ _ _ _ _ _ _ _ _ rfl)
        rintro e YY V1 hE
        obtain ⟨rfl, hd, fl, hT, hb2⟩ := hE.out
        dsimp only at hT
        clear hE
        obtain ⟨T0, Dd⟩ := YY
        subst hT
        obtain rfl : Dd = [] := hd
        replace iN := iN.below hb2 iN.lt
        replace iX := iX.below hb2 iX.lt
        replace nX := nX.keep hb2
        clear iS hB
        clear hj
        have hBx := hBx.trans (hb2.mono hBx.size)
        clear hb2
        go_wp2
        refine Code.wp_mono ?_ (tells_three n hn.out lb tx an hlb.out htx.out w.heap.size _ iN _ _ _ _ _ _ _ _ _ _ _ _ _ _ _ _ _ _ _ _ _ _ _ _ _ _ _ _ _ _ _ _ _ _ _ _ _ _ _ _ _ _ _ _ _ _ _ _ _ _ _ _ _ _ _ _ _ _ _ _ _ _ _ _ _ _ _ _ _ _ _ _ _ _ _ _ _ _ _ _ _ _ _ _ _ _ _ _ _ _ _ _ _ _ _ _ _ _ _ _ _ _ _ _ _ _ _ _ _ _ _ _ _ _ _ _ _ _ _ _ _ _ _ _ _ _ _ _ _ _ _ _ _ _ _ _ _ _ _ _ _ _ _ _ _ _ _ _ _ _ _ _ _ _ _ _ _ _ _ _ _ _ _ _ _ _ _ _ _ _ _ _ _ _ _ _ _ _ _ _ _ _ _ _ _ _ _ _ _ _ _ _ _ _ _ _ _ _ _ _ _ _ _ _ _ _ _ _ _ _ _ _ _ _ _ _ _ _ _ _ _ _ _ _ _ _ _ _ _ _ _ _ _ _ _ _ _ _ _ _ _ _ _ _ _ _ _ _ _ _ _ _ _ _ _ _ _ _ _ _ _ _ _ _ _ _ _ _ _ _ _ _ _ _ _ _ _ _ _ _ _ _ _ _ _ _ _ _ _ _ _ _ _ _ _ _ _ _ _ _ _ _ _ _ _ _ _ _ _ _ _ _ _ _ _ _ _ _ _ _ _ _ _)
        rintro e YY V3 ⟨rfl, hd, DG, hT, hZ, iN2, i3⟩
        obtain ⟨T0, Dd⟩ := YY
        subst hT
        obtain rfl : Dd = [] := hd
        replace iX := iX.below hZ iX.lt
        replace nX := nX.keep hZ
        replace hBx := hBx.trans (hZ.mono hBx.size)
        clear hZ iN iN2
        go_upto_block 5 with fail
        refine Code.wp_mono ?_ (tells_pairs V G1 g1 G2 g2 lb tx an DX DG _ iX nX i3 _ _ _ _ _ _ _ _ _ _ _ _ _ _ _ _ _ _ _ _ _ _ _ _ _ _ _ _ _ _ _ _ _ _ _ _ _ _ _ _ _ _ _ _ _ _ _ _ _ _ _ _ _ _ _ _ _ _ _ _ _ _ _ _ _ _ _ _ _ _ _ _ _ _ _ _ _ _ _ _ _ _ _ _ _ _ _ _ _ _ _ _ _ _ _ _ _ _ _ _ _ _ _ _ _ _ _ _ _ _ _ _ _ _ _ _ _ _ _ _ _ _ _ _ _ _ _ _ _ _ _ _ _ _ _ _ _ _ _ _ _ _ _ _ _ _ _ _ _ _ _ _ _ _ _ _ _ _ _ _ _ _ _ _ _ _ _ _ _ _ _ _ _ _ _ _ _ _ _ _ _ _ _ _ _ _ _ _ _ _ _ _ _ _ _ _ _ _ _ _ _ _ _ _ _ _ _ _ _ _ _ _ _ _ _ _ _ _ _ _ _ _ _ _ _ _ _ _ _ _ _ _ _ _ _ _ _ _ _ _ _ _ _ _ _ _ _ _ _ _ _ _ _ _ _ _ _ _ _ _ _ _ _ _ _ _ _ _ _ _ _ _ _ _ _ _ _ _ _ _ _ _ _ _ _ _ _ _ _ _ _ _ _ _ _ _ _ _ _ _ _ _ _ _ _ _ _ _ _ _ _ _ _ _ _ _ _ _ _ _ _ _ rfl)
        rintro e YY V4 hE
        obtain ⟨rfl, hd, fp, hT, hb3⟩ := hE.out
        dsimp only at hT
        clear hE
        obtain ⟨T0, Dd⟩ := YY
        subst hT
        obtain rfl : Dd = [] := hd
        have hBx := hBx.trans (hb3.mono hBx.size)
        clear hb3 iX nX i3
        go_wp2
        go_roundw
        case rel => exact ⟨j + 1, by omega, by go_num, hBx⟩
        case measure => simp [intOf]; omega
      · obtain rfl : j = 2 := by omega
        clear iN iL nD nZ hb1
        go_wp2
        go_ret
        exact ⟨rfl, hBr⟩
end Go.Proofs.Ytdbdoammbnogaaa
