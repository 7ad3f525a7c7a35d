/-
  Layer 8: awake, the statements' own: it answers true.
-/
import Derived.Test.YtdbdoammbnogaaaIdy4
import Derived.Test.YtdbdoammbnogaaaIdeX
namespace Go.Proofs.Ytdbdoammbnogaaa
open Go.RowKit Go.Shelf

/-- a row of a block, loaded where a guard asks for it. -/
theorem wpList_load_rowG {P : Program} {ops : Array Oper} {rest : List Oper} {o : Oper} {a : Act} {w : World} {Q : Exit → Act → World → Prop} (hw : Region.wanted o (yielded ops a.tmps) = true) (ty : TypeId) (x : Operand) (ho : o.op = .load ty x)
    (g : Nat) (hx : a.eval x = .pointer (some ⟨g, 0, none⟩)) (t : TypeId) (cs : Array Value) {d : TypeDesc} (hg : Is w g t cs)
    (hu : P.underlying ty = some d) (hd : (match d with | .struct _ | .array _ _ => true | _ => false) = true) (hi : (P.info? ty).map (·.size) = some cs.size)
    (h : wpList P ops Q rest (a.put o.dst (.agg cs)) w) : wpList P ops Q (o :: rest) a w :=
  wpList_step fun K hK => by rw [if_pos hw]; exact wp_load_row ty x ho g hx t cs (0, 0) d hg hu hd hi (hK _ _ h)
theorem InI.empty (W : World) {d : Ide} (hN : d.N = []) (hK : d.K = []) : InI W d none 0 none 0 := by
  refine ⟨?_, ?_, fun _ => rfl, fun _ => rfl, ?_, ?_⟩
  · rw [hN]; intro j u hj; cases hj
  · rw [hK]; intro j u hj; cases hj
  · rw [hN]; simp
  · rw [hK]; simp
def awB8 : ByteArray := ⟨#[97, 98, 99, 100, 101, 102, 103, 104, 105, 106, 107, 108, 109, 110, 111, 112]⟩
def awD8 : Ide := ⟨awB8, 0, [], [], false⟩
def awF8 : Ide := ⟨awB8, 16, [(⟨#[120]⟩, awB8)], [], false⟩
def awZ8 : Ide := ⟨⟨#[]⟩, 0, [], [], false⟩
theorem aw8_new : new8 awB8 0 = (awD8, 0) := by kernel_rfl
theorem aw8_newN : new8 ⟨#[]⟩ 1 = (awZ8, 1) := by kernel_rfl
theorem aw8_lab : lab8 awD8 ⟨#[120]⟩ = (awB8, awF8, 0) := by kernel_rfl
theorem aw8_lab2 : lab8 awF8 ⟨#[120]⟩ = (awB8, awF8, 0) := by kernel_rfl
theorem aw8_lab3 : lab8 awF8 ⟨#[121]⟩ = (⟨#[]⟩, awF8, 12) := by kernel_rfl
theorem aw8_ope : ope8 awD8 ⟨#[120]⟩ ⟨#[121]⟩ = (⟨#[]⟩, 11) := by kernel_rfl
theorem aw8_right : right8 awF8 = true := by kernel_rfl

set_option maxRecDepth 100000 in
set_option maxHeartbeats 4000000 in
theorem awake8_any (w : World) :
    Calls Try.prog 8 #[] w fun e w' => e = .returned (.bool true) ∧ Below w.heap.size w w' := by
  have M0 := fun w => new_any awB8 0 w
  have M5 := fun w => new_any ⟨#[]⟩ 1 w
  have M1 := fun W A c A' c' (h : InI W awD8 A c A' c') => label_any awD8 A c A' c' ⟨#[120]⟩ W h
  have M2 := fun W A c A' c' (h : InI W awF8 A c A' c') => label_any awF8 A c A' c' ⟨#[120]⟩ W h
  have M3 := fun W A c A' c' (h : InI W awF8 A c A' c') => label_any awF8 A c A' c' ⟨#[121]⟩ W h
  have M4 := fun W A c A' c' (h : InI W awD8 A c A' c') => open_any awD8 A c A' c' ⟨#[120]⟩ ⟨#[121]⟩ W h
  have M6 := fun W A c A' c' (h : InI W awF8 A c A' c') => right_any awF8 A c A' c' W h
  have H0 := Lib.hid (fun W : World => InI.empty W (show awD8.N = [] from rfl) (show awD8.K = [] from rfl))
  simp only [aw8_new] at M0
  simp only [aw8_newN] at M5
  simp only [aw8_lab] at M1
  simp only [aw8_lab2] at M2
  simp only [aw8_lab3] at M3
  simp only [aw8_ope] at M4
  simp only [aw8_right] at M6
  generalize awD8 = D0 at *
  generalize awF8 = F at *
  generalize awZ8 = Z0 at *
  simp only [awB8] at M0 M1 M2
  replace M0 := Lib.hid M0
  replace M1 := Lib.hid M1
  replace M2 := Lib.hid M2
  replace M3 := Lib.hid M3
  replace M4 := Lib.hid M4
  replace M5 := Lib.hid M5
  replace M6 := Lib.hid M6
  go_enter Try.func8, Try.ntmps8
  go_wp2_with fail
  have hB : Below w.heap.size w w := Below.refl _ _
  refine (M0.out _).mono ?_
  rintro e W1 ⟨rfl, hb⟩
  replace hB := hB.trans (hb.mono hB.size)
  clear hb
  have nD := H0.out W1
  have iD : Is (W1.alloc (.cells (ideL D0 none 0 none 0) 30)) W1.heap.size 30 (ideL D0 none 0 none 0) := Is.new _ _ _
  replace nD := nD.keep ((Below.refl _ _).alloc (Nat.le_refl _) (.cells (ideL D0 none 0 none 0) 30))
  have hDD := hB.size
  replace hB := hB.alloc hB.size (.cells (ideL D0 none 0 none 0) 30)
  go_wp2_with (first | (refine wpList_load_rowG (by kernel_rfl) 30 _ rfl (W1.heap.size) rfl 30 _ iD Try.underlying30 rfl infoIde ?_))
  generalize W1.alloc (.cells (ideL D0 none 0 none 0) 30) = W2 at *
  generalize W1.heap.size = DD at *
  refine (M1.out _ _ _ _ _ nD).mono ?_
  rintro e W3 ⟨A1, c1, A2, c2, rfl, hI, hb⟩
  replace iD := iD.below hb iD.lt
  replace nD := nD.keep hb
  replace hB := hB.trans (hb.mono hB.size)
  clear hb
  have nF := hI
  clear hI
  have iF : Is (W3.alloc (.cells (ideL F A1 c1 A2 c2) 30)) W3.heap.size 30 (ideL F A1 c1 A2 c2) := Is.new _ _ _
  have qDF := iD.lt
  replace iD := iD.alloc (.cells (ideL F A1 c1 A2 c2) 30)
  replace nD := nD.keep ((Below.refl _ _).alloc (Nat.le_refl _) (.cells (ideL F A1 c1 A2 c2) 30))
  replace nF := nF.keep ((Below.refl _ _).alloc (Nat.le_refl _) (.cells (ideL F A1 c1 A2 c2) 30))
  have hDF := hB.size
  replace hB := hB.alloc hB.size (.cells (ideL F A1 c1 A2 c2) 30)
  go_wp2_with (first | (refine wpList_load_rowG (by kernel_rfl) 30 _ rfl (DD) rfl 30 _ iD Try.underlying30 rfl infoIde ?_) | (refine wpList_load_rowG (by kernel_rfl) 30 _ rfl (W3.heap.size) rfl 30 _ iF Try.underlying30 rfl infoIde ?_))
  generalize W3.alloc (.cells (ideL F A1 c1 A2 c2) 30) = W4 at *
  generalize W3.heap.size = DF at *
  refine (M2.out _ _ _ _ _ nF).mono ?_
  rintro e W5 ⟨E1, e1, E2, e2, rfl, hI, hb⟩
  replace iD := iD.below hb iD.lt
  replace iF := iF.below hb iF.lt
  replace nD := nD.keep hb
  replace nF := nF.keep hb
  replace hB := hB.trans (hb.mono hB.size)
  clear hb
  have nG := hI
  clear hI
  have iG : Is (W5.alloc (.cells (ideL F E1 e1 E2 e2) 30)) W5.heap.size 30 (ideL F E1 e1 E2 e2) := Is.new _ _ _
  have qDG := iD.lt
  replace iD := iD.alloc (.cells (ideL F E1 e1 E2 e2) 30)
  have qFG := iF.lt
  replace iF := iF.alloc (.cells (ideL F E1 e1 E2 e2) 30)
  replace nD := nD.keep ((Below.refl _ _).alloc (Nat.le_refl _) (.cells (ideL F E1 e1 E2 e2) 30))
  replace nF := nF.keep ((Below.refl _ _).alloc (Nat.le_refl _) (.cells (ideL F E1 e1 E2 e2) 30))
  replace nG := nG.keep ((Below.refl _ _).alloc (Nat.le_refl _) (.cells (ideL F E1 e1 E2 e2) 30))
  have hDG := hB.size
  replace hB := hB.alloc hB.size (.cells (ideL F E1 e1 E2 e2) 30)
  go_wp2_with (first | (refine wpList_load_rowG (by kernel_rfl) 30 _ rfl (DD) rfl 30 _ iD Try.underlying30 rfl infoIde ?_) | (refine wpList_load_rowG (by kernel_rfl) 30 _ rfl (DF) rfl 30 _ iF Try.underlying30 rfl infoIde ?_) | (refine wpList_load_rowG (by kernel_rfl) 30 _ rfl (W5.heap.size) rfl 30 _ iG Try.underlying30 rfl infoIde ?_))
  generalize W5.alloc (.cells (ideL F E1 e1 E2 e2) 30) = W6 at *
  generalize W5.heap.size = DG at *
  refine (M3.out _ _ _ _ _ nF).mono ?_
  rintro e W7 ⟨G1, g1, G2, g2, rfl, hI, hb⟩
  replace iD := iD.below hb iD.lt
  replace iF := iF.below hb iF.lt
  replace iG := iG.below hb iG.lt
  replace nD := nD.keep hb
  replace nF := nF.keep hb
  replace nG := nG.keep hb
  replace hB := hB.trans (hb.mono hB.size)
  clear hb
  have nH := hI
  clear hI
  have iH : Is (W7.alloc (.cells (ideL F G1 g1 G2 g2) 30)) W7.heap.size 30 (ideL F G1 g1 G2 g2) := Is.new _ _ _
  have qDH := iD.lt
  replace iD := iD.alloc (.cells (ideL F G1 g1 G2 g2) 30)
  have qFH := iF.lt
  replace iF := iF.alloc (.cells (ideL F G1 g1 G2 g2) 30)
  have qGH := iG.lt
  replace iG := iG.alloc (.cells (ideL F G1 g1 G2 g2) 30)
  replace nD := nD.keep ((Below.refl _ _).alloc (Nat.le_refl _) (.cells (ideL F G1 g1 G2 g2) 30))
  replace nF := nF.keep ((Below.refl _ _).alloc (Nat.le_refl _) (.cells (ideL F G1 g1 G2 g2) 30))
  replace nG := nG.keep ((Below.refl _ _).alloc (Nat.le_refl _) (.cells (ideL F G1 g1 G2 g2) 30))
  replace nH := nH.keep ((Below.refl _ _).alloc (Nat.le_refl _) (.cells (ideL F G1 g1 G2 g2) 30))
  have hDH := hB.size
  replace hB := hB.alloc hB.size (.cells (ideL F G1 g1 G2 g2) 30)
  go_wp2_with (first | (refine wpList_load_rowG (by kernel_rfl) 30 _ rfl (DD) rfl 30 _ iD Try.underlying30 rfl infoIde ?_) | (refine wpList_load_rowG (by kernel_rfl) 30 _ rfl (DF) rfl 30 _ iF Try.underlying30 rfl infoIde ?_) | (refine wpList_load_rowG (by kernel_rfl) 30 _ rfl (DG) rfl 30 _ iG Try.underlying30 rfl infoIde ?_) | (refine wpList_load_rowG (by kernel_rfl) 30 _ rfl (W7.heap.size) rfl 30 _ iH Try.underlying30 rfl infoIde ?_))
  generalize W7.alloc (.cells (ideL F G1 g1 G2 g2) 30) = W8 at *
  generalize W7.heap.size = DH at *
  refine (M4.out _ _ _ _ _ nD).mono ?_
  rintro e W9 ⟨rfl, hb⟩
  replace iD := iD.below hb iD.lt
  replace iF := iF.below hb iF.lt
  replace iG := iG.below hb iG.lt
  replace iH := iH.below hb iH.lt
  replace nD := nD.keep hb
  replace nF := nF.keep hb
  replace nG := nG.keep hb
  replace nH := nH.keep hb
  replace hB := hB.trans (hb.mono hB.size)
  clear hb
  go_wp2_with (first | (refine wpList_load_rowG (by kernel_rfl) 30 _ rfl (DD) rfl 30 _ iD Try.underlying30 rfl infoIde ?_) | (refine wpList_load_rowG (by kernel_rfl) 30 _ rfl (DF) rfl 30 _ iF Try.underlying30 rfl infoIde ?_) | (refine wpList_load_rowG (by kernel_rfl) 30 _ rfl (DG) rfl 30 _ iG Try.underlying30 rfl infoIde ?_) | (refine wpList_load_rowG (by kernel_rfl) 30 _ rfl (DH) rfl 30 _ iH Try.underlying30 rfl infoIde ?_))
  refine (M5.out _).mono ?_
  rintro e W10 ⟨rfl, hb⟩
  replace iD := iD.below hb iD.lt
  replace iF := iF.below hb iF.lt
  replace iG := iG.below hb iG.lt
  replace iH := iH.below hb iH.lt
  replace nD := nD.keep hb
  replace nF := nF.keep hb
  replace nG := nG.keep hb
  replace nH := nH.keep hb
  replace hB := hB.trans (hb.mono hB.size)
  clear hb
  have iZ : Is (W10.alloc (.cells (ideL Z0 none 0 none 0) 30)) W10.heap.size 30 (ideL Z0 none 0 none 0) := Is.new _ _ _
  have qDZ := iD.lt
  replace iD := iD.alloc (.cells (ideL Z0 none 0 none 0) 30)
  have qFZ := iF.lt
  replace iF := iF.alloc (.cells (ideL Z0 none 0 none 0) 30)
  have qGZ := iG.lt
  replace iG := iG.alloc (.cells (ideL Z0 none 0 none 0) 30)
  have qHZ := iH.lt
  replace iH := iH.alloc (.cells (ideL Z0 none 0 none 0) 30)
  replace nD := nD.keep ((Below.refl _ _).alloc (Nat.le_refl _) (.cells (ideL Z0 none 0 none 0) 30))
  replace nF := nF.keep ((Below.refl _ _).alloc (Nat.le_refl _) (.cells (ideL Z0 none 0 none 0) 30))
  replace nG := nG.keep ((Below.refl _ _).alloc (Nat.le_refl _) (.cells (ideL Z0 none 0 none 0) 30))
  replace nH := nH.keep ((Below.refl _ _).alloc (Nat.le_refl _) (.cells (ideL Z0 none 0 none 0) 30))
  have hDZ := hB.size
  replace hB := hB.alloc hB.size (.cells (ideL Z0 none 0 none 0) 30)
  go_wp2_with (first | (refine wpList_load_rowG (by kernel_rfl) 30 _ rfl (DD) rfl 30 _ iD Try.underlying30 rfl infoIde ?_) | (refine wpList_load_rowG (by kernel_rfl) 30 _ rfl (DF) rfl 30 _ iF Try.underlying30 rfl infoIde ?_) | (refine wpList_load_rowG (by kernel_rfl) 30 _ rfl (DG) rfl 30 _ iG Try.underlying30 rfl infoIde ?_) | (refine wpList_load_rowG (by kernel_rfl) 30 _ rfl (DH) rfl 30 _ iH Try.underlying30 rfl infoIde ?_) | (refine wpList_load_rowG (by kernel_rfl) 30 _ rfl (W10.heap.size) rfl 30 _ iZ Try.underlying30 rfl infoIde ?_))
  generalize W10.alloc (.cells (ideL Z0 none 0 none 0) 30) = W11 at *
  generalize W10.heap.size = DZ at *
  refine (same8_any F A1 c1 A2 c2 E1 e1 E2 e2 _ nF nG).mono ?_
  rintro e W12 ⟨rfl, hb⟩
  replace iD := iD.below hb iD.lt
  replace iF := iF.below hb iF.lt
  replace iG := iG.below hb iG.lt
  replace iH := iH.below hb iH.lt
  replace iZ := iZ.below hb iZ.lt
  replace nD := nD.keep hb
  replace nF := nF.keep hb
  replace nG := nG.keep hb
  replace nH := nH.keep hb
  replace hB := hB.trans (hb.mono hB.size)
  clear hb
  go_wp2_with (first | (refine wpList_load_rowG (by kernel_rfl) 30 _ rfl (DD) rfl 30 _ iD Try.underlying30 rfl infoIde ?_) | (refine wpList_load_rowG (by kernel_rfl) 30 _ rfl (DF) rfl 30 _ iF Try.underlying30 rfl infoIde ?_) | (refine wpList_load_rowG (by kernel_rfl) 30 _ rfl (DG) rfl 30 _ iG Try.underlying30 rfl infoIde ?_) | (refine wpList_load_rowG (by kernel_rfl) 30 _ rfl (DH) rfl 30 _ iH Try.underlying30 rfl infoIde ?_) | (refine wpList_load_rowG (by kernel_rfl) 30 _ rfl (DZ) rfl 30 _ iZ Try.underlying30 rfl infoIde ?_))
  refine (M6.out _ _ _ _ _ nF).mono ?_
  rintro e W13 ⟨rfl, hb⟩
  replace iD := iD.below hb iD.lt
  replace iF := iF.below hb iF.lt
  replace iG := iG.below hb iG.lt
  replace iH := iH.below hb iH.lt
  replace iZ := iZ.below hb iZ.lt
  replace nD := nD.keep hb
  replace nF := nF.keep hb
  replace nG := nG.keep hb
  replace nH := nH.keep hb
  replace hB := hB.trans (hb.mono hB.size)
  clear hb
  go_wp2
  go_ret
  exact ⟨rfl, hB⟩
end Go.Proofs.Ytdbdoammbnogaaa
