/-
  MacTells: the walk of the statement's function.
-/
import Derived.Test.YtcpkkicpkmjagaaDoorMacT
namespace Go.Proofs.YtcpkkicpkmjagaaDoor
open Go.RowKit

theorem three {P : ByteArray → Prop} (a b c : ByteArray) (ha : P a) (hb : P b) (hc : P c) (i : Nat) (h : i < 3) : ∃ y, P y ∧ (#[Value.string a, .string b, .string c] : Array Value)[i]? = some (.string y) := by
  rcases (by omega : i = 0 ∨ i = 1 ∨ i = 2) with rfl | rfl | rfl
  · exact ⟨a, ha, rfl⟩
  · exact ⟨b, hb, rfl⟩
  · exact ⟨c, hc, rfl⟩
theorem five {P : ByteArray → Prop} (a0 b0 a1 b1 a2 b2 a3 b3 a4 b4 : ByteArray) (h0 : P a0) (h1 : P a1) (h2 : P a2) (h3 : P a3) (h4 : P a4) (i : Nat) (h : i < 5) :
    ∃ a b, P a ∧ (#[Value.string a0, .string b0, .string a1, .string b1, .string a2, .string b2, .string a3, .string b3, .string a4, .string b4] : Array Value)[i * 2]? = some (.string a) ∧
      (#[Value.string a0, .string b0, .string a1, .string b1, .string a2, .string b2, .string a3, .string b3, .string a4, .string b4] : Array Value)[i * 2 + 1]? = some (.string b) := by
  rcases (by omega : i = 0 ∨ i = 1 ∨ i = 2 ∨ i = 3 ∨ i = 4) with rfl | rfl | rfl | rfl | rfl
  · exact ⟨a0, b0, h0, rfl, rfl⟩
  · exact ⟨a1, b1, h1, rfl, rfl⟩
  · exact ⟨a2, b2, h2, rfl, rfl⟩
  · exact ⟨a3, b3, h3, rfl, rfl⟩
  · exact ⟨a4, b4, h4, rfl, rfl⟩
theorem twoI (a b : Int) (i : Nat) (h : i < 2) : ∃ y : Int, (#[Value.int .i64 a, .int .i64 b] : Array Value)[i]? = some (.int .i64 y) := by
  rcases (by omega : i = 0 ∨ i = 1) with rfl | rfl
  · exact ⟨a, rfl⟩
  · exact ⟨b, rfl⟩

set_option maxRecDepth 100000 in
set_option maxHeartbeats 2000000 in
theorem mtells_walk (key name s : ByteArray) (n long : Int) (w : World) (hT : Tab w) (hk : key.size ≤ maxLen) (hname : name.size ≤ maxLen) (hs : s.size ≤ maxLen) (hn : -9223372036854775808 ≤ n ∧ n ≤ 9223372036854775807) (hl : -9223372036854775808 ≤ long ∧ long ≤ 9223372036854775807) :
    Calls Tryd.prog 4 #[.string key, .string name, .string s, .int .i64 n, .int .i64 long] w fun e w' => e = .returned (.bool true) ∧ Below w.heap.size w w' := by
  unfold maxLen at hk hname hs
  have bl := pickN_bd long 4 (by decide)
  obtain ⟨A, hA⟩ : ∃ A : Nat, 999 + pickN long 4 = (A : Int) := ⟨(999 + pickN long 4).toNat, by omega⟩
  have hA2 : A ≤ 1002 := by omega
  have mk0 := fun W => run_make0 W A (by omega)
  go_enter Tryd.func4, Tryd.ntmps4
  go_wp2_with fail
  refine (awake2_any _ hT).mono ?_
  rintro e w1 ⟨rfl, hB1⟩
  go_wp2_with fail
  have hK : (key.extract 0 (min (key.size : Int) 300).toNat).size ≤ 300 := by simp; omega
  have hM : (name.extract 0 (min (name.size : Int) 300).toNat).size ≤ 300 := by simp; omega
  have hX : (s.extract 0 (min (s.size : Int) 300).toNat).size ≤ 300 := by simp; omega
  generalize key.extract 0 (min (key.size : Int) 300).toNat = K at *
  generalize name.extract 0 (min (name.size : Int) 300).toNat = M at *
  generalize s.extract 0 (min (s.size : Int) 300).toNat = X at *
  have cv := run_conv0 (Is.new w1 5 (zcells A))
  have hLs := zerosB_size A
  generalize zerosB A = L at *
  have HLS := Lib.hid hLs
  clear hLs hk hname hs
  refine (pick2_any long 4 _ hl.1 hl.2 (by decide) (by decide)).mono ?_
  rintro e w' ⟨rfl, rfl⟩
  go_wp2
  have iQ : Is ((w1.alloc (.cells (zcells A) 5)).alloc (.cells #[.string K, .string L, .string ⟨#[]⟩] 9)) (w1.heap.size + 1) 9 #[.string K, .string L, .string ⟨#[]⟩] := heap_alloc2_new w1 _ _
  have hB0 : Below w.heap.size w ((w1.alloc (.cells (zcells A) 5)).alloc (.cells #[.string K, .string L, .string ⟨#[]⟩] 9)) := (hB1.alloc hB1.size _).alloc (Nat.le_trans hB1.size (by simp)) _
  obtain ⟨Bq, hBq⟩ : ∃ Bq, Bq = w1.heap.size + 1 := ⟨_, rfl⟩
  rw [← hBq] at iQ ⊢
  clear hBq cv mk0 hA bl
  have hLs : L.size ≤ 1002 := by rw [HLS.out]; exact hA2
  have pk100 : ∀ w, Calls Tryd.prog 26 #[.int .i64 n, .int .i64 100] w fun e w' => e = .returned (.int .i64 (pickN n 100)) ∧ w = w' := fun w => pick2_any n 100 w hn.1 hn.2 (by decide) (by decide)
  have pk70 : ∀ w, Calls Tryd.prog 26 #[.int .i64 n, .int .i64 70] w fun e w' => e = .returned (.int .i64 (pickN n 70)) ∧ w = w' := fun w => pick2_any n 70 w hn.1 hn.2 (by decide) (by decide)
  generalize pickN n 100 = p100 at *
  generalize pickN n 70 = p70 at *
  have PK1 := Lib.hid pk100
  have PK7 := Lib.hid pk70
  clear pk100 pk70
  obtain ⟨s7, e7, c7, r7⟩ := derive_both K L p70
  have C7 := Lib.hid c7
  have R7 := Lib.hid r7
  clear c7 r7
  go_loopw [65] (fun i wr => ∃ k : Nat, k ≤ 3 ∧ i = .int .i64 k ∧ Is wr Bq 9 #[.string K, .string L, .string ⟨#[]⟩] ∧ Below w.heap.size w wr)
    (fun i _ => 3 - (intOf i).toNat)
  case atStart => exact ⟨0, by omega, rfl, iQ, hB0⟩
  case round =>
    clear iQ hB0 hB1
    obtain ⟨k, hk, rfl, iQ, hB⟩ := hrel
    by_cases hlt : k < 3
    · obtain ⟨y, hy, hc⟩ := three (P := fun y => y.size ≤ 2000) K L ⟨#[]⟩ (by omega) (by omega) (by decide) k hlt
      have hcell : wr.cell? ⟨Bq, k, none⟩ = some (.string y) := (iQ.cell k).trans hc
      have hi1 : (0 : Int) ≤ (k : Int) := by omega
      have hi2 : (k : Int) < 3 := by omega
      clear hc
      obtain ⟨s1, e1, c1, r1⟩ := mac_both y X (by omega)
      have C1 := Lib.hid c1
      have R1 := Lib.hid r1
      clear c1 r1
      go_wp2_with fail
      refine (C1.out _ (hT.below hB hT.two)).mono ?_
      rintro e w2 ⟨rfl, hb2⟩
      have iQ2 := iQ.below hb2 iQ.lt
      have hB2 : Below w.heap.size w w2 := hB.trans (hb2.mono hB.size)
      clear hb2 iQ hB hcell
      go_wp2_with fail
      refine (R1.out _).mono ?_
      rintro e w3 ⟨rfl, hb3⟩
      have iQ3 := iQ2.below hb3 iQ2.lt
      have hB3 : Below w.heap.size w w3 := hB2.trans (hb3.mono hB2.size)
      clear hb3 iQ2 hB2
      go_wp2_with fail
      refine (PK1.out _).mono ?_
      rintro e w' ⟨rfl, rfl⟩
      go_wp2
      have iI : Is (w3.alloc (.cells #[.int .i64 n, .int .i64 p100] 3)) w3.heap.size 3 #[.int .i64 n, .int .i64 p100] := Is.new w3 _ _
      have jQ := iQ3.alloc (.cells #[.int .i64 n, .int .i64 p100] 3)
      have hB4 := hB3.alloc hB3.size (.cells #[.int .i64 n, .int .i64 p100] 3)
      obtain ⟨Bi, hBi⟩ : ∃ Bi, Bi = w3.heap.size := ⟨_, rfl⟩
      rw [← hBi] at iI ⊢
      clear hBi iQ3 hB3
      go_loopw [94] (fun i wr => ∃ j : Nat, j ≤ 2 ∧ i = .int .i64 j ∧ Is wr Bi 3 #[.int .i64 n, .int .i64 p100] ∧ Is wr Bq 9 #[.string K, .string L, .string ⟨#[]⟩] ∧ Below w.heap.size w wr)
        (fun i _ => 2 - (intOf i).toNat)
      case atStart => exact ⟨0, by omega, rfl, iI, jQ, hB4⟩
      case round =>
        clear iI jQ hB4
        obtain ⟨j, hj, rfl, iI0, jQ0, hB0⟩ := hrel
        by_cases hlj : j < 2
        · obtain ⟨z, hcz⟩ := twoI n p100 j hlj
          have hcell : wr.cell? ⟨Bi, j, none⟩ = some (.int .i64 z) := (iI0.cell j).trans hcz
          have hj1 : (0 : Int) ≤ (j : Int) := by omega
          have hj2 : (j : Int) < 2 := by omega
          clear hcz
          obtain ⟨s2, e2, c2, r2⟩ := derive_both y M z
          have C2 := Lib.hid c2
          have R2 := Lib.hid r2
          clear c2 r2
          go_wp2_with fail
          refine (C2.out _ (hT.below hB0 hT.two)).mono ?_
          rintro e v1 ⟨rfl, hb⟩
          have iI1 := iI0.below hb iI0.lt
          have jQ1 := jQ0.below hb jQ0.lt
          have hB1 : Below w.heap.size w v1 := hB0.trans (hb.mono hB0.size)
          clear hb iI0 jQ0 hB0
          go_wp2_with fail
          refine (R2.out _).mono ?_
          rintro e v2 ⟨rfl, hb⟩
          have iI2 := iI1.below hb iI1.lt
          have jQ2 := jQ1.below hb jQ1.lt
          have hB2 : Below w.heap.size w v2 := hB1.trans (hb.mono hB1.size)
          clear hb iI1 jQ1 hB1
          go_wp2_with fail
          refine (PK7.out _).mono ?_
          rintro e w' ⟨rfl, rfl⟩
          go_wp2_with fail
          refine (C7.out _ (hT.below hB2 hT.two)).mono ?_
          rintro e v3 ⟨rfl, hb⟩
          have iI3 := iI2.below hb iI2.lt
          have jQ3 := jQ2.below hb jQ2.lt
          have hB3 : Below w.heap.size w v3 := hB2.trans (hb.mono hB2.size)
          clear hb iI2 jQ2 hB2
          go_wp2_with fail
          refine (PK7.out _).mono ?_
          rintro e w' ⟨rfl, rfl⟩
          go_wp2_with fail
          refine (R7.out _).mono ?_
          rintro e v4 ⟨rfl, hb⟩
          have iI4 := iI3.below hb iI3.lt
          have jQ4 := jQ3.below hb jQ3.lt
          have hB4 : Below w.heap.size w v4 := hB3.trans (hb.mono hB3.size)
          clear hb iI3 jQ3 hB3
          go_wp2
          go_roundw
          case rel => exact ⟨j + 1, by omega, by go_num, iI4, jQ4, hB4⟩
          case measure => simp [intOf]; omega
        · have hj2 : ¬ (j : Int) < 2 := by omega
          go_wp2
          go_roundw
          case rel => exact ⟨k + 1, by omega, by go_num, jQ0, hB0⟩
          case measure => simp [intOf]; omega
    · have hk3 : ¬ (k : Int) < 3 := by omega
      have mkL : ∀ W : World, (Instr.makeSlice 42 (.int .i64 1048513) (.int .i64 1048513)).run Tryd.prog W = .ok (.slice (some ⟨W.heap.size, 0, none⟩) 1048513 1048513) (W.alloc (.cells (zcells 1048513) 5)) := fun W => run_make0 W 1048513 (by omega)
      have cvL := run_conv0 (Is.new wr 5 (zcells 1048513))
      have hmlong := fun w => mac_long K (zerosB 1048513) w (by omega) (by rw [zerosB_size]; decide)
      generalize zerosB 1048513 = Z at *
      generalize zcells 1048513 = zc at *
      have HML := Lib.hid hmlong
      clear hmlong
      go_wp2_with fail
      refine (HML.out _).mono ?_
      rintro e w' ⟨rfl, rfl⟩
      have hB1 := hB.alloc hB.size (.cells zc 5)
      generalize wr.alloc (.cells zc 5) = w2 at *
      clear mkL cvL hB iQ
      have n1 : ¬ (9223372036854775807 < K.size + 1) := by omega
      have n2 : ¬ (9223372036854775807 < X.size + K.size) := by omega
      have n3 : ¬ (9223372036854775807 < X.size + M.size) := by omega
      go_wp2
      have hz1 : (K ++ ⟨#[97]⟩ : ByteArray).size ≤ 2000 := by
        rw [ByteArray.size_append]
        have h1 : (⟨#[97]⟩ : ByteArray).size = 1 := rfl
        omega
      have hz2 : (X ++ K).size ≤ 2000 := by rw [ByteArray.size_append]; omega
      generalize (K ++ ⟨#[97]⟩ : ByteArray) = Ka at *
      generalize (K ++ ⟨#[98]⟩ : ByteArray) = Kb at *
      generalize X ++ K = XK at *
      generalize X ++ M = XM at *
      have iP : Is (w2.alloc (.cells #[.string K, .string M, .string K, .string K, .string K, .string X, .string Ka, .string Kb, .string XK, .string XM] 46)) w2.heap.size 46 #[.string K, .string M, .string K, .string K, .string K, .string X, .string Ka, .string Kb, .string XK, .string XM] := Is.new w2 _ _
      have hB2 := hB1.alloc hB1.size (.cells #[.string K, .string M, .string K, .string K, .string K, .string X, .string Ka, .string Kb, .string XK, .string XM] 46)
      obtain ⟨Bp, hBp⟩ : ∃ Bp, Bp = w2.heap.size := ⟨_, rfl⟩
      rw [← hBp] at iP ⊢
      clear hBp hB1 n1 n2 n3
      go_loopw [178] (fun i wr => ∃ j : Nat, j ≤ 5 ∧ i = .int .i64 j ∧ Is wr Bp 46 #[.string K, .string M, .string K, .string K, .string K, .string X, .string Ka, .string Kb, .string XK, .string XM] ∧ Below w.heap.size w wr)
        (fun i _ => 5 - (intOf i).toNat)
      case atStart => exact ⟨0, by omega, rfl, iP, hB2⟩
      case round =>
        clear iP hB2
        obtain ⟨j, hj, rfl, iP, hB⟩ := hrel
        by_cases hlj : j < 5
        · obtain ⟨a, b, ha, hc1, hc2⟩ := five (P := fun y => y.size ≤ 2000) K M K K K X Ka Kb XK XM (by omega) (by omega) (by omega) hz1 hz2 j hlj
          have g1 : wr.cell? ⟨Bp, j * 2, none⟩ = some (.string a) := (iP.cell _).trans hc1
          have g2 : wr.cell? ⟨Bp, j * 2 + 1, none⟩ = some (.string b) := (iP.cell _).trans hc2
          have hj1 : (0 : Int) ≤ (j : Int) := by omega
          have hj2 : (j : Int) < 5 := by omega
          have hBl : Bp < wr.heap.size := iP.lt
          clear hc1 hc2
          obtain ⟨v, m, c3, r3⟩ := same_both a b (by unfold maxLen; omega)
          have C3 := Lib.hid c3
          have R3 := Lib.hid r3
          clear c3 r3
          go_wp2_with fail
          have iT := Is.new wr 46 #[.string a, .string b]
          have jP := iP.alloc (.cells #[.string a, .string b] 46)
          have hB2 := hB.alloc hB.size (.cells #[.string a, .string b] 46)
          refine (C3.out _).mono ?_
          rintro e w3 ⟨rfl, hb⟩
          have iT3 := iT.below hb iT.lt
          have iP3 := jP.below hb jP.lt
          have hB3 : Below w.heap.size w w3 := hB2.trans (hb.mono hB2.size)
          clear hb iT jP hB2 iP hB g1 g2
          have t1 : w3.cell? ⟨wr.heap.size, 0, none⟩ = some (.string a) := iT3.cell 0
          have t2 : w3.cell? ⟨wr.heap.size, 1, none⟩ = some (.string b) := iT3.cell 1
          go_wp2_with fail
          refine (R3.out _).mono ?_
          rintro e w4 ⟨rfl, hb⟩
          have iP4 := iP3.below hb iP3.lt
          have hB4 : Below w.heap.size w w4 := hB3.trans (hb.mono hB3.size)
          clear hb iP3 hB3 iT3 t1 t2
          go_wp2
          go_roundw
          case rel => exact ⟨j + 1, by omega, by go_num, iP4, hB4⟩
          case measure => simp [intOf]; omega
        · have hj2 : ¬ (j : Int) < 5 := by omega
          go_wp2
          go_ret
          exact ⟨rfl, hB⟩
end Go.Proofs.YtcpkkicpkmjagaaDoor
