/-
  IdealNone: the walk of the statement's function.
-/
import Derived.Test.YtaikekemaehcpaaIdy5
import Derived.Test.YtaikekemaehcpaaIdz1
import Derived.Test.YtaikekemaehcpaaIdeX
import Derived.Lib.MinMax
namespace Go.Proofs.Ytaikekemaehcpaa
open Go.RowKit Go.Shelf

/-- at most a hundred bytes of a text. -/
def cut8 (s : ByteArray) : ByteArray := s.extract 0 (min s.size 100)
theorem cut8_run (s : ByteArray) (_hs : s.size ≤ maxLen) (wx : World) : (Instr.slice 9 (.string s) none (some (.int .i64 (min (s.size : Int) 100))) none).run Try.prog wx = .ok (.string (cut8 s)) wx := by
  obtain ⟨m, hm⟩ : ∃ m : Nat, m = min s.size 100 := ⟨_, rfl⟩
  have := run_slice_string_h (P := Try.prog) (w := wx) (t := 9) (s := s) Try.underlying9 .i64 (m : Int) (by omega) (by omega)
  rw [Int.toNat_natCast] at this
  rw [show min (s.size : Int) 100 = (m : Int) by omega, cut8, ← hm]
  exact this
theorem any_miss8 {α : Type} (p : α → Bool) {l : List α} {i : Nat} {x : α} (hx : l[i]? = some x) (h : (l.take i).any p = false) (hp : p x = false) : (l.take (i + 1)).any p = false := by
  rw [List.take_add_one, hx, List.any_append, h]
  simp [hp]
theorem any_hit8 {α : Type} (p : α → Bool) {l : List α} {i : Nat} {x : α} (hx : l[i]? = some x) (h : (l.take i).any p = false) (hp : p x = true) : (l.take (i + 1)).any p = true := by
  rw [List.take_add_one, hx, List.any_append, h]
  simp [hp]
theorem any_old8 {α : Type} (p : α → Bool) {l : List α} {i : Nat} {x : α} (hx : l[i]? = some x) (h : (l.take i).any p = true) : (l.take (i + 1)).any p = true := by
  rw [List.take_add_one, hx, List.any_append, h]
  rfl

set_option maxRecDepth 100000 in
set_option maxHeartbeats 4000000 in
theorem inone_walk (A : Option Addr) (cap : Nat) (L : List Int) (A' : Option Addr) (cap' : Nat) (R : List Raw8) (sl st : ByteArray) (w : World) (hl : L.length ≤ maxLen ∧ L.length ≤ cap) (_hn : A = none → cap = 0) (hc : InL w A L) (hL : ∀ y ∈ L, -9223372036854775808 ≤ y ∧ y ≤ 9223372036854775807)
    (hR : R.length ≤ maxLen) (hc' : InV w A' (flI R)) (hb' : ∀ n ∈ R, Big8 n) (hsl : sl.size ≤ maxLen) (hst : st.size ≤ maxLen) :
    Calls Try.prog 7 #[.slice A L.length cap, .slice A' R.length cap', .string sl, .string st] w fun e w' => e = .returned (.bool true) ∧ Below w.heap.size w w' := by
  have DR := Lib.hid (fun (W : World) (hb : Below w.heap.size w W) => draws_any A cap L false W (hc.keep hb) hL hl.1)
  have hBs := drwS_size L false
  have S1 := cut8_run sl hsl
  have S2 := cut8_run st hst
  generalize cut8 sl = l at *
  generalize cut8 st = x at *
  generalize drwS L false = B at *
  have ID := Lib.hid (fun (W : World) (hb : Below w.heap.size w W) => ideal_any B 0 A' cap' R W (hc'.keep hb) hb' hR)
  have HOP := Lib.hid (none8_ope hBs R l x)
  have OP := Lib.hid (fun W A c A' c' (h : InI W (asks8 (new8 B 0).1 (qs8 R)) A c A' c') => open_any _ A c A' c' l x W h)
  have LP := fun W A c A' c' (h : InI W (poor8 (asks8 (new8 B 0).1 (qs8 R))) A c A' c') => label_any _ A c A' c' nev8 W h
  have SP := fun W A c A' c' (h : InI W (poor8 (asks8 (new8 B 0).1 (qs8 R))) A c A' c') => seal_any _ A c A' c' hex8 nev24 W h
  have SD := fun W A c A' c' (h : InI W (asks8 (new8 B 0).1 (qs8 R)) A c A' c') => seal_any _ A c A' c' l sho8 W h
  simp only [poor8_lab hBs R] at LP
  simp only [poor8_sea hBs R] at SP
  simp only [short8_sea] at SD
  have HSZ : Hid (((asks8 (new8 B 0).1 (qs8 R)).B.size : Int) = 2000) := Lib.hid (by rw [(raw8_fro hBs R).tape]; omega)
  have HKL : Hid ((asks8 (new8 B 0).1 (qs8 R)).K.length ≤ 15) := Lib.hid (by have := (raw8_fro hBs R).few; omega)
  have HPI := Lib.hid (fun (W : World) {A c A' c'} (h : InI W (asks8 (new8 B 0).1 (qs8 R)) A c A' c') => show InI W (poor8 (asks8 (new8 B 0).1 (qs8 R))) A c A' c' from ⟨h.n, h.k, h.nil, h.nilK, h.fit, h.fitK⟩)
  have HPL := Lib.hid (show ∀ A c A' c', ideL (poor8 (asks8 (new8 B 0).1 (qs8 R))) A c A' c' = (ideL (asks8 (new8 B 0).1 (qs8 R)) A c A' c').setIfInBounds 1 (.int .i64 2000) from fun _ _ _ _ => rfl)
  generalize hDg : asks8 (new8 B 0).1 (qs8 R) = D at *
  generalize hPg : poor8 D = P at *
  clear hDg hPg hl hL hc hc' hb' hR hsl hst hBs _hn
  simp only [nev8] at LP
  simp only [hex8, nev24] at SP
  simp only [sho8] at SD
  replace LP := Lib.hid LP
  replace SP := Lib.hid SP
  replace SD := Lib.hid SD
  go_enter Try.func7, Try.ntmps7
  go_wp2_with fail
  have hB : Below w.heap.size w w := Below.refl _ _
  refine (awake8_any _).mono ?_
  rintro e W1 ⟨rfl, hb⟩
  replace hB := hB.trans (hb.mono hB.size)
  clear hb
  go_wp2_with fail
  refine (DR.out _ hB).mono ?_
  rintro e W2 ⟨rfl, hb⟩
  replace hB := hB.trans (hb.mono hB.size)
  clear hb
  go_wp2_with fail
  refine (ID.out _ hB).mono ?_
  rintro e W3 ⟨A1, c1, A2, c2, rfl, hI, hb⟩
  replace hB := hB.trans (hb.mono hB.size)
  clear hb
  have nD := hI
  clear hI
  have iD : Is (W3.alloc (.cells (ideL D A1 c1 A2 c2) 30)) W3.heap.size 30 (ideL D A1 c1 A2 c2) := Is.new _ _ _
  replace nD := nD.keep ((Below.refl _ _).alloc (Nat.le_refl _) (.cells (ideL D A1 c1 A2 c2) 30))
  have hDD := hB.size
  replace hB := hB.alloc hB.size (.cells (ideL D A1 c1 A2 c2) 30)
  go_wp2_with (first | (refine wpList_load_rowG (by kernel_rfl) 30 _ rfl (W3.heap.size) rfl 30 _ iD Try.underlying30 rfl infoIde ?_))
  generalize W3.alloc (.cells (ideL D A1 c1 A2 c2) 30) = W4 at *
  generalize W3.heap.size = DD at *
  obtain ⟨f, hf⟩ : ∃ f : Cel8 → Bool, f = fun z => decide (z.1 = l) && decide (z.2.2 = x) := ⟨_, rfl⟩
  rw [← hf] at HOP
  have HF := Lib.hid hf
  clear hf
  go_loopw [13, 14] (fun v i wr => ∃ j : Nat, j ≤ D.K.length ∧ i = .int .i64 (j : Int) ∧ v = .bool ((D.K.take j).any f) ∧ Is wr DD 30 (ideL D A1 c1 A2 c2) ∧ InI wr D A1 c1 A2 c2 ∧ Below w.heap.size w wr)
    (fun _ i _ => D.K.length - (intOf i).toNat)
  case atStart => exact ⟨0, by omega, rfl, rfl, iD, nD, hB⟩
  case round =>
    clear iD nD hB
    obtain ⟨j, hj, rfl, rfl, iD, nD, hB⟩ := hrel
    have c3 : wr.cell? ⟨DD, 3, none⟩ = some (.slice A2 D.K.length c2) := iD.cell 3
    by_cases hlt : j < D.K.length
    · have l1 : (j : Int) < (D.K.length : Int) := by omega
      obtain ⟨y, hy⟩ : ∃ y, D.K[j]? = some y := ⟨_, List.getElem?_eq_getElem hlt⟩
      obtain ⟨b, off, rfl, _, hr⟩ := nD.k.cel hy
      have e0 : wr.cell? ⟨b, off + j * 3, none⟩ = some (.string y.1) := hr 0 _ rfl
      have e2 : wr.cell? ⟨b, off + j * 3 + 2, none⟩ = some (.string y.2.2) := hr 2 _ rfl
      have w5i := IntWalk.i64_in ((j : Int) + 1) (by have := HKL.out; omega)
      cases hv : (D.K.take j).any f with
      | true =>
        have hv2 := Lib.hid (any_old8 f hy hv)
        clear hr hy hv
        go_wp2
        go_roundw
        case rel => exact ⟨j + 1, by omega, by go_num, by rw [hv2.out], iD, nD, hB⟩
        case measure => simp [intOf]; omega
      | false =>
        by_cases hp : y.1 = l
        · by_cases hq : y.2.2 = x
          · have hv2 := Lib.hid (any_hit8 f hy hv (by rw [HF.out]; simp [hp, hq]))
            have HE := Lib.hid hp
            rw [hp] at e0
            rw [hq] at e2
            clear hr hy hv hp hq
            go_wp2
            go_roundw
            case rel => exact ⟨j + 1, by omega, by go_num, by rw [hv2.out], iD, nD, hB⟩
            case measure => simp [intOf]; omega
          · have hv2 := Lib.hid (any_miss8 f hy hv (by rw [HF.out]; simp [hp, hq]))
            have n1 := ne7 hq
            have n2 := beq7 hq
            rw [hp] at e0
            clear hr hy hv hp
            go_wp2
            go_roundw
            case rel => exact ⟨j + 1, by omega, by go_num, by rw [hv2.out], iD, nD, hB⟩
            case measure => simp [intOf]; omega
        · have hv2 := Lib.hid (any_miss8 f hy hv (by rw [HF.out]; simp [hp]))
          have n1 := ne7 hp
          have n2 := beq7 hp
          clear hr hy hv
          go_wp2
          go_roundw
          case rel => exact ⟨j + 1, by omega, by go_num, by rw [hv2.out], iD, nD, hB⟩
          case measure => simp [intOf]; omega
    · have l1 : ¬ (j : Int) < (D.K.length : Int) := by omega
      obtain rfl : j = D.K.length := by omega
      rw [List.take_length]
      clear hj hlt S1 S2
      go_wp2_with (first | (refine wpList_load_rowG (by kernel_rfl) 30 _ rfl (DD) rfl 30 _ iD Try.underlying30 rfl infoIde ?_))
      refine (OP.out _ _ _ _ _ nD).mono ?_
      rintro e W1 ⟨rfl, hb⟩
      replace iD := iD.below hb iD.lt
      replace nD := nD.keep hb
      replace hB := hB.trans (hb.mono hB.size)
      clear hb
      have hPL : (#[.string D.B, .int .i64 (D.B.size : Int), .slice A1 D.N.length c1, .slice A2 D.K.length c2, .bool D.c] : Array Value) = ideL P A1 c1 A2 c2 := by rw [HPL.out, HSZ.out]; rfl
      have cD0 : (W1.alloc (.cells #[.string D.B, .int .i64 D.a, .slice A1 D.N.length c1, .slice A2 D.K.length c2, .bool D.c] 30)).cell? ⟨DD, 0, none⟩ = some (.string D.B) := (iD.alloc _).cell 0
      have oD := iD
      have iP : Is (W1.alloc (.cells (ideL P A1 c1 A2 c2) 30)) W1.heap.size 30 (ideL P A1 c1 A2 c2) := Is.new _ _ _
      have qDP := iD.lt
      replace iD := iD.alloc (.cells (ideL P A1 c1 A2 c2) 30)
      replace nD := nD.keep ((Below.refl _ _).alloc (Nat.le_refl _) (.cells (ideL P A1 c1 A2 c2) 30))
      have hDP := hB.size
      replace hB := hB.alloc hB.size (.cells (ideL P A1 c1 A2 c2) 30)
      go_wp2_with (first | (refine wpList_load_rowG (by kernel_rfl) 30 _ rfl (DD) rfl 30 _ oD Try.underlying30 rfl infoIde ?_) | (refine wpList_load_rowG (by kernel_rfl) 30 _ rfl (DD) rfl 30 _ iD Try.underlying30 rfl infoIde ?_) | (refine wpList_load_rowG (by kernel_rfl) 30 _ rfl (W1.heap.size) rfl 30 _ iP Try.underlying30 rfl infoIde ?_))
      clear oD
      generalize W1.alloc (.cells (ideL P A1 c1 A2 c2) 30) = W2 at *
      generalize W1.heap.size = DP at *
      clear cD0 hPL
      have nP := HPI.out _ nD
      refine (LP.out _ _ _ _ _ nP).mono ?_
      rintro e W3 ⟨E1, e1, E2, e2, rfl, hI, hb⟩
      replace iD := iD.below hb iD.lt
      replace iP := iP.below hb iP.lt
      replace nD := nD.keep hb
      replace nP := nP.keep hb
      replace hB := hB.trans (hb.mono hB.size)
      clear hb
      have nA := hI
      clear hI
      have iA : Is (W3.alloc (.cells (ideL P E1 e1 E2 e2) 30)) W3.heap.size 30 (ideL P E1 e1 E2 e2) := Is.new _ _ _
      have qDA := iD.lt
      replace iD := iD.alloc (.cells (ideL P E1 e1 E2 e2) 30)
      have qPA := iP.lt
      replace iP := iP.alloc (.cells (ideL P E1 e1 E2 e2) 30)
      replace nD := nD.keep ((Below.refl _ _).alloc (Nat.le_refl _) (.cells (ideL P E1 e1 E2 e2) 30))
      replace nP := nP.keep ((Below.refl _ _).alloc (Nat.le_refl _) (.cells (ideL P E1 e1 E2 e2) 30))
      replace nA := nA.keep ((Below.refl _ _).alloc (Nat.le_refl _) (.cells (ideL P E1 e1 E2 e2) 30))
      have hDA := hB.size
      replace hB := hB.alloc hB.size (.cells (ideL P E1 e1 E2 e2) 30)
      go_wp2_with (first | (refine wpList_load_rowG (by kernel_rfl) 30 _ rfl (DD) rfl 30 _ iD Try.underlying30 rfl infoIde ?_) | (refine wpList_load_rowG (by kernel_rfl) 30 _ rfl (DP) rfl 30 _ iP Try.underlying30 rfl infoIde ?_) | (refine wpList_load_rowG (by kernel_rfl) 30 _ rfl (W3.heap.size) rfl 30 _ iA Try.underlying30 rfl infoIde ?_))
      generalize W3.alloc (.cells (ideL P E1 e1 E2 e2) 30) = W4 at *
      generalize W3.heap.size = DA at *
      refine (SP.out _ _ _ _ _ nP).mono ?_
      rintro e W5 ⟨F1, f1, F2, f2, rfl, hI, hb⟩
      replace iD := iD.below hb iD.lt
      replace iP := iP.below hb iP.lt
      replace iA := iA.below hb iA.lt
      replace nD := nD.keep hb
      replace nP := nP.keep hb
      replace nA := nA.keep hb
      replace hB := hB.trans (hb.mono hB.size)
      clear hb
      have nB := hI
      clear hI
      have iB : Is (W5.alloc (.cells (ideL P F1 f1 F2 f2) 30)) W5.heap.size 30 (ideL P F1 f1 F2 f2) := Is.new _ _ _
      have qDB := iD.lt
      replace iD := iD.alloc (.cells (ideL P F1 f1 F2 f2) 30)
      have qPB := iP.lt
      replace iP := iP.alloc (.cells (ideL P F1 f1 F2 f2) 30)
      have qAB := iA.lt
      replace iA := iA.alloc (.cells (ideL P F1 f1 F2 f2) 30)
      replace nD := nD.keep ((Below.refl _ _).alloc (Nat.le_refl _) (.cells (ideL P F1 f1 F2 f2) 30))
      replace nP := nP.keep ((Below.refl _ _).alloc (Nat.le_refl _) (.cells (ideL P F1 f1 F2 f2) 30))
      replace nA := nA.keep ((Below.refl _ _).alloc (Nat.le_refl _) (.cells (ideL P F1 f1 F2 f2) 30))
      replace nB := nB.keep ((Below.refl _ _).alloc (Nat.le_refl _) (.cells (ideL P F1 f1 F2 f2) 30))
      have hDB := hB.size
      replace hB := hB.alloc hB.size (.cells (ideL P F1 f1 F2 f2) 30)
      go_wp2_with (first | (refine wpList_load_rowG (by kernel_rfl) 30 _ rfl (DD) rfl 30 _ iD Try.underlying30 rfl infoIde ?_) | (refine wpList_load_rowG (by kernel_rfl) 30 _ rfl (DP) rfl 30 _ iP Try.underlying30 rfl infoIde ?_) | (refine wpList_load_rowG (by kernel_rfl) 30 _ rfl (DA) rfl 30 _ iA Try.underlying30 rfl infoIde ?_) | (refine wpList_load_rowG (by kernel_rfl) 30 _ rfl (W5.heap.size) rfl 30 _ iB Try.underlying30 rfl infoIde ?_))
      generalize W5.alloc (.cells (ideL P F1 f1 F2 f2) 30) = W6 at *
      generalize W5.heap.size = DB at *
      refine (SD.out _ _ _ _ _ nD).mono ?_
      rintro e W7 ⟨G1, g1, G2, g2, rfl, hI, hb⟩
      replace iD := iD.below hb iD.lt
      replace iP := iP.below hb iP.lt
      replace iA := iA.below hb iA.lt
      replace iB := iB.below hb iB.lt
      replace nD := nD.keep hb
      replace nP := nP.keep hb
      replace nA := nA.keep hb
      replace nB := nB.keep hb
      replace hB := hB.trans (hb.mono hB.size)
      clear hb
      have nC := hI
      clear hI
      rcases HOP.out with ⟨h1, h2⟩ | ⟨h1, h2⟩
      · rw [h1, h2]
        clear h1 h2
        have iC : Is (W7.alloc (.cells (ideL D G1 g1 G2 g2) 30)) W7.heap.size 30 (ideL D G1 g1 G2 g2) := Is.new _ _ _
        have qDC := iD.lt
        replace iD := iD.alloc (.cells (ideL D G1 g1 G2 g2) 30)
        have qPC := iP.lt
        replace iP := iP.alloc (.cells (ideL D G1 g1 G2 g2) 30)
        have qAC := iA.lt
        replace iA := iA.alloc (.cells (ideL D G1 g1 G2 g2) 30)
        have qBC := iB.lt
        replace iB := iB.alloc (.cells (ideL D G1 g1 G2 g2) 30)
        replace nD := nD.keep ((Below.refl _ _).alloc (Nat.le_refl _) (.cells (ideL D G1 g1 G2 g2) 30))
        replace nP := nP.keep ((Below.refl _ _).alloc (Nat.le_refl _) (.cells (ideL D G1 g1 G2 g2) 30))
        replace nA := nA.keep ((Below.refl _ _).alloc (Nat.le_refl _) (.cells (ideL D G1 g1 G2 g2) 30))
        replace nB := nB.keep ((Below.refl _ _).alloc (Nat.le_refl _) (.cells (ideL D G1 g1 G2 g2) 30))
        replace nC := nC.keep ((Below.refl _ _).alloc (Nat.le_refl _) (.cells (ideL D G1 g1 G2 g2) 30))
        have hDC := hB.size
        replace hB := hB.alloc hB.size (.cells (ideL D G1 g1 G2 g2) 30)
        go_wp2_with (first | (refine wpList_load_rowG (by kernel_rfl) 30 _ rfl (DD) rfl 30 _ iD Try.underlying30 rfl infoIde ?_) | (refine wpList_load_rowG (by kernel_rfl) 30 _ rfl (DP) rfl 30 _ iP Try.underlying30 rfl infoIde ?_) | (refine wpList_load_rowG (by kernel_rfl) 30 _ rfl (DA) rfl 30 _ iA Try.underlying30 rfl infoIde ?_) | (refine wpList_load_rowG (by kernel_rfl) 30 _ rfl (DB) rfl 30 _ iB Try.underlying30 rfl infoIde ?_) | (refine wpList_load_rowG (by kernel_rfl) 30 _ rfl (W7.heap.size) rfl 30 _ iC Try.underlying30 rfl infoIde ?_))
        generalize W7.alloc (.cells (ideL D G1 g1 G2 g2) 30) = W8 at *
        generalize W7.heap.size = DC at *
        refine (same8_any P E1 e1 E2 e2 A1 c1 A2 c2 _ nA nP).mono ?_
        rintro e W9 ⟨rfl, hb⟩
        replace iD := iD.below hb iD.lt
        replace iP := iP.below hb iP.lt
        replace iA := iA.below hb iA.lt
        replace iB := iB.below hb iB.lt
        replace iC := iC.below hb iC.lt
        replace nD := nD.keep hb
        replace nP := nP.keep hb
        replace nA := nA.keep hb
        replace nB := nB.keep hb
        replace nC := nC.keep hb
        replace hB := hB.trans (hb.mono hB.size)
        clear hb
        go_wp2_with (first | (refine wpList_load_rowG (by kernel_rfl) 30 _ rfl (DD) rfl 30 _ iD Try.underlying30 rfl infoIde ?_) | (refine wpList_load_rowG (by kernel_rfl) 30 _ rfl (DP) rfl 30 _ iP Try.underlying30 rfl infoIde ?_) | (refine wpList_load_rowG (by kernel_rfl) 30 _ rfl (DA) rfl 30 _ iA Try.underlying30 rfl infoIde ?_) | (refine wpList_load_rowG (by kernel_rfl) 30 _ rfl (DB) rfl 30 _ iB Try.underlying30 rfl infoIde ?_) | (refine wpList_load_rowG (by kernel_rfl) 30 _ rfl (DC) rfl 30 _ iC Try.underlying30 rfl infoIde ?_))
        refine (same8_any P F1 f1 F2 f2 A1 c1 A2 c2 _ nB nP).mono ?_
        rintro e W10 ⟨rfl, hb⟩
        replace iD := iD.below hb iD.lt
        replace iP := iP.below hb iP.lt
        replace iA := iA.below hb iA.lt
        replace iB := iB.below hb iB.lt
        replace iC := iC.below hb iC.lt
        replace nD := nD.keep hb
        replace nP := nP.keep hb
        replace nA := nA.keep hb
        replace nB := nB.keep hb
        replace nC := nC.keep hb
        replace hB := hB.trans (hb.mono hB.size)
        clear hb
        go_wp2_with (first | (refine wpList_load_rowG (by kernel_rfl) 30 _ rfl (DD) rfl 30 _ iD Try.underlying30 rfl infoIde ?_) | (refine wpList_load_rowG (by kernel_rfl) 30 _ rfl (DP) rfl 30 _ iP Try.underlying30 rfl infoIde ?_) | (refine wpList_load_rowG (by kernel_rfl) 30 _ rfl (DA) rfl 30 _ iA Try.underlying30 rfl infoIde ?_) | (refine wpList_load_rowG (by kernel_rfl) 30 _ rfl (DB) rfl 30 _ iB Try.underlying30 rfl infoIde ?_) | (refine wpList_load_rowG (by kernel_rfl) 30 _ rfl (DC) rfl 30 _ iC Try.underlying30 rfl infoIde ?_))
        refine (same8_any D G1 g1 G2 g2 A1 c1 A2 c2 _ nC nD).mono ?_
        rintro e W11 ⟨rfl, hb⟩
        replace iD := iD.below hb iD.lt
        replace iP := iP.below hb iP.lt
        replace iA := iA.below hb iA.lt
        replace iB := iB.below hb iB.lt
        replace iC := iC.below hb iC.lt
        replace nD := nD.keep hb
        replace nP := nP.keep hb
        replace nA := nA.keep hb
        replace nB := nB.keep hb
        replace nC := nC.keep hb
        replace hB := hB.trans (hb.mono hB.size)
        clear hb
        go_wp2
        go_ret
        exact ⟨rfl, hB⟩
      · rw [h1, h2]
        clear h1 h2
        have iC : Is (W7.alloc (.cells (ideL D G1 g1 G2 g2) 30)) W7.heap.size 30 (ideL D G1 g1 G2 g2) := Is.new _ _ _
        have qDC := iD.lt
        replace iD := iD.alloc (.cells (ideL D G1 g1 G2 g2) 30)
        have qPC := iP.lt
        replace iP := iP.alloc (.cells (ideL D G1 g1 G2 g2) 30)
        have qAC := iA.lt
        replace iA := iA.alloc (.cells (ideL D G1 g1 G2 g2) 30)
        have qBC := iB.lt
        replace iB := iB.alloc (.cells (ideL D G1 g1 G2 g2) 30)
        replace nD := nD.keep ((Below.refl _ _).alloc (Nat.le_refl _) (.cells (ideL D G1 g1 G2 g2) 30))
        replace nP := nP.keep ((Below.refl _ _).alloc (Nat.le_refl _) (.cells (ideL D G1 g1 G2 g2) 30))
        replace nA := nA.keep ((Below.refl _ _).alloc (Nat.le_refl _) (.cells (ideL D G1 g1 G2 g2) 30))
        replace nB := nB.keep ((Below.refl _ _).alloc (Nat.le_refl _) (.cells (ideL D G1 g1 G2 g2) 30))
        replace nC := nC.keep ((Below.refl _ _).alloc (Nat.le_refl _) (.cells (ideL D G1 g1 G2 g2) 30))
        have hDC := hB.size
        replace hB := hB.alloc hB.size (.cells (ideL D G1 g1 G2 g2) 30)
        go_wp2_with (first | (refine wpList_load_rowG (by kernel_rfl) 30 _ rfl (DD) rfl 30 _ iD Try.underlying30 rfl infoIde ?_) | (refine wpList_load_rowG (by kernel_rfl) 30 _ rfl (DP) rfl 30 _ iP Try.underlying30 rfl infoIde ?_) | (refine wpList_load_rowG (by kernel_rfl) 30 _ rfl (DA) rfl 30 _ iA Try.underlying30 rfl infoIde ?_) | (refine wpList_load_rowG (by kernel_rfl) 30 _ rfl (DB) rfl 30 _ iB Try.underlying30 rfl infoIde ?_) | (refine wpList_load_rowG (by kernel_rfl) 30 _ rfl (W7.heap.size) rfl 30 _ iC Try.underlying30 rfl infoIde ?_))
        generalize W7.alloc (.cells (ideL D G1 g1 G2 g2) 30) = W8 at *
        generalize W7.heap.size = DC at *
        refine (same8_any P E1 e1 E2 e2 A1 c1 A2 c2 _ nA nP).mono ?_
        rintro e W9 ⟨rfl, hb⟩
        replace iD := iD.below hb iD.lt
        replace iP := iP.below hb iP.lt
        replace iA := iA.below hb iA.lt
        replace iB := iB.below hb iB.lt
        replace iC := iC.below hb iC.lt
        replace nD := nD.keep hb
        replace nP := nP.keep hb
        replace nA := nA.keep hb
        replace nB := nB.keep hb
        replace nC := nC.keep hb
        replace hB := hB.trans (hb.mono hB.size)
        clear hb
        go_wp2_with (first | (refine wpList_load_rowG (by kernel_rfl) 30 _ rfl (DD) rfl 30 _ iD Try.underlying30 rfl infoIde ?_) | (refine wpList_load_rowG (by kernel_rfl) 30 _ rfl (DP) rfl 30 _ iP Try.underlying30 rfl infoIde ?_) | (refine wpList_load_rowG (by kernel_rfl) 30 _ rfl (DA) rfl 30 _ iA Try.underlying30 rfl infoIde ?_) | (refine wpList_load_rowG (by kernel_rfl) 30 _ rfl (DB) rfl 30 _ iB Try.underlying30 rfl infoIde ?_) | (refine wpList_load_rowG (by kernel_rfl) 30 _ rfl (DC) rfl 30 _ iC Try.underlying30 rfl infoIde ?_))
        refine (same8_any P F1 f1 F2 f2 A1 c1 A2 c2 _ nB nP).mono ?_
        rintro e W10 ⟨rfl, hb⟩
        replace iD := iD.below hb iD.lt
        replace iP := iP.below hb iP.lt
        replace iA := iA.below hb iA.lt
        replace iB := iB.below hb iB.lt
        replace iC := iC.below hb iC.lt
        replace nD := nD.keep hb
        replace nP := nP.keep hb
        replace nA := nA.keep hb
        replace nB := nB.keep hb
        replace nC := nC.keep hb
        replace hB := hB.trans (hb.mono hB.size)
        clear hb
        go_wp2_with (first | (refine wpList_load_rowG (by kernel_rfl) 30 _ rfl (DD) rfl 30 _ iD Try.underlying30 rfl infoIde ?_) | (refine wpList_load_rowG (by kernel_rfl) 30 _ rfl (DP) rfl 30 _ iP Try.underlying30 rfl infoIde ?_) | (refine wpList_load_rowG (by kernel_rfl) 30 _ rfl (DA) rfl 30 _ iA Try.underlying30 rfl infoIde ?_) | (refine wpList_load_rowG (by kernel_rfl) 30 _ rfl (DB) rfl 30 _ iB Try.underlying30 rfl infoIde ?_) | (refine wpList_load_rowG (by kernel_rfl) 30 _ rfl (DC) rfl 30 _ iC Try.underlying30 rfl infoIde ?_))
        refine (same8_any D G1 g1 G2 g2 A1 c1 A2 c2 _ nC nD).mono ?_
        rintro e W11 ⟨rfl, hb⟩
        replace iD := iD.below hb iD.lt
        replace iP := iP.below hb iP.lt
        replace iA := iA.below hb iA.lt
        replace iB := iB.below hb iB.lt
        replace iC := iC.below hb iC.lt
        replace nD := nD.keep hb
        replace nP := nP.keep hb
        replace nA := nA.keep hb
        replace nB := nB.keep hb
        replace nC := nC.keep hb
        replace hB := hB.trans (hb.mono hB.size)
        clear hb
        go_wp2
        go_ret
        exact ⟨rfl, hB⟩
end Go.Proofs.Ytaikekemaehcpaa
