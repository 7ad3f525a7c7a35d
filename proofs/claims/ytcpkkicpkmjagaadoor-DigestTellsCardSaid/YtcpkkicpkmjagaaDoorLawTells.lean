/-
  DigestTells: the walk of the statement's function.
-/
import Derived.Test.YtcpkkicpkmjagaaDoorDigB
import Derived.Test.YtcpkkicpkmjagaaDoorKitR
namespace Go.Proofs.YtcpkkicpkmjagaaDoor
open Go.RowKit

theorem two_strings (a b : ByteArray) (i : Nat) (h : i < 2) : ∃ y, (#[Value.string a, .string b] : Array Value)[i]? = some (.string y) := by
  rcases (by omega : i = 0 ∨ i = 1) with rfl | rfl
  · exact ⟨a, rfl⟩
  · exact ⟨b, rfl⟩

/-- five sums on their way, one behind the other. -/
abbrev arr5 (a b c d e : Hs) : Array Value := #[.int .u32 a.h.a, .int .u32 a.h.b, .int .u32 a.h.c, .int .u32 a.h.d, .int .u32 a.h.e, .int .u32 a.h.f, .int .u32 a.h.g, .int .u32 a.h.h, .string a.r, .int .i64 a.m, .int .u32 b.h.a, .int .u32 b.h.b, .int .u32 b.h.c, .int .u32 b.h.d, .int .u32 b.h.e, .int .u32 b.h.f, .int .u32 b.h.g, .int .u32 b.h.h, .string b.r, .int .i64 b.m, .int .u32 c.h.a, .int .u32 c.h.b, .int .u32 c.h.c, .int .u32 c.h.d, .int .u32 c.h.e, .int .u32 c.h.f, .int .u32 c.h.g, .int .u32 c.h.h, .string c.r, .int .i64 c.m, .int .u32 d.h.a, .int .u32 d.h.b, .int .u32 d.h.c, .int .u32 d.h.d, .int .u32 d.h.e, .int .u32 d.h.f, .int .u32 d.h.g, .int .u32 d.h.h, .string d.r, .int .i64 d.m, .int .u32 e.h.a, .int .u32 e.h.b, .int .u32 e.h.c, .int .u32 e.h.d, .int .u32 e.h.e, .int .u32 e.h.f, .int .u32 e.h.g, .int .u32 e.h.h, .string e.r, .int .i64 e.m]
theorem five_hash {P : Hs → Prop} (a b c d e : Hs) (ha : P a) (hb : P b) (hc : P c) (hd : P d) (he : P e) (j : Nat) (h : j < 5) :
    ∃ z, P z ∧ ∀ i v, z.arr.toList[i]? = some v → (arr5 a b c d e)[j * 10 + i]? = some v := by
  have key : ∀ (z : Hs) (i : Nat) (v : Value), z.arr.toList[i]? = some v → i < 10 := fun z i v hv => by
    have := (List.getElem?_eq_some_iff.1 hv).1
    exact this
  rcases (by omega : j = 0 ∨ j = 1 ∨ j = 2 ∨ j = 3 ∨ j = 4) with rfl | rfl | rfl | rfl | rfl
  · exact ⟨a, ha, fun i v hv => by
      have := key a i v hv
      rcases (by omega : i = 0 ∨ i = 1 ∨ i = 2 ∨ i = 3 ∨ i = 4 ∨ i = 5 ∨ i = 6 ∨ i = 7 ∨ i = 8 ∨ i = 9) with rfl | rfl | rfl | rfl | rfl | rfl | rfl | rfl | rfl | rfl <;> exact hv⟩
  · exact ⟨b, hb, fun i v hv => by
      have := key b i v hv
      rcases (by omega : i = 0 ∨ i = 1 ∨ i = 2 ∨ i = 3 ∨ i = 4 ∨ i = 5 ∨ i = 6 ∨ i = 7 ∨ i = 8 ∨ i = 9) with rfl | rfl | rfl | rfl | rfl | rfl | rfl | rfl | rfl | rfl <;> exact hv⟩
  · exact ⟨c, hc, fun i v hv => by
      have := key c i v hv
      rcases (by omega : i = 0 ∨ i = 1 ∨ i = 2 ∨ i = 3 ∨ i = 4 ∨ i = 5 ∨ i = 6 ∨ i = 7 ∨ i = 8 ∨ i = 9) with rfl | rfl | rfl | rfl | rfl | rfl | rfl | rfl | rfl | rfl <;> exact hv⟩
  · exact ⟨d, hd, fun i v hv => by
      have := key d i v hv
      rcases (by omega : i = 0 ∨ i = 1 ∨ i = 2 ∨ i = 3 ∨ i = 4 ∨ i = 5 ∨ i = 6 ∨ i = 7 ∨ i = 8 ∨ i = 9) with rfl | rfl | rfl | rfl | rfl | rfl | rfl | rfl | rfl | rfl <;> exact hv⟩
  · exact ⟨e, he, fun i v hv => by
      have := key e i v hv
      rcases (by omega : i = 0 ∨ i = 1 ∨ i = 2 ∨ i = 3 ∨ i = 4 ∨ i = 5 ∨ i = 6 ∨ i = 7 ∨ i = 8 ∨ i = 9) with rfl | rfl | rfl | rfl | rfl | rfl | rfl | rfl | rfl | rfl <;> exact hv⟩
theorem range10 {W : World} {b : Nat} {x : Hs} (h : Is W b 25 x.arr) : W.rangeAt b 0 x.arr.toList := fun j v hv => by
  rw [Nat.zero_add, h.cell]
  simpa using hv

set_option maxRecDepth 100000 in
set_option maxHeartbeats 2000000 in
theorem tells_walk (h : S8) (s t : ByteArray) (odd : Hs) (w : World) (hT : Tab w) (hh : h.Ok) (hs : s.size ≤ maxLen) (ht : t.size ≤ maxLen) (ho : odd.h.Ok) (hor : odd.r.size ≤ maxLen) (hom : -9223372036854775808 ≤ odd.m ∧ odd.m ≤ 9223372036854775807) :
    Calls Tryd.prog 3 #[.agg h.arr, .string s, .string t, .agg odd.arr] w fun e w' => e = .returned (.bool true) ∧ Below w.heap.size w w' := by
  unfold maxLen at hs ht hor
  have HH := Lib.hid hh
  have HO := Lib.hid ho
  clear hh ho
  go_enter Tryd.func3, Tryd.ntmps3
  go_wp2_with fail
  have iH0 : Is ((w.alloc (.cells h.arr 23)).alloc (.cells odd.arr 25)) w.heap.size 23 h.arr := heap_alloc2_old w _ _
  have iO0 : Is ((w.alloc (.cells h.arr 23)).alloc (.cells odd.arr 25)) (w.heap.size + 1) 25 odd.arr := heap_alloc2_new w _ _
  have hB0 : Below w.heap.size w ((w.alloc (.cells h.arr 23)).alloc (.cells odd.arr 25)) := ((Below.refl _ _).alloc (Nat.le_refl _) _).alloc (by simp) _
  refine (awake_any _ (hT.below hB0 hT.two)).mono ?_
  rintro e w1 ⟨rfl, hb1⟩
  have iH := iH0.below hb1 iH0.lt
  have iO := iO0.below hb1 iO0.lt
  have hB1 : Below w.heap.size w w1 := hB0.trans (hb1.mono hB0.size)
  clear hb1 hB0 iH0 iO0
  go_wp2
  have hX : (s.extract 0 (min (s.size : Int) 500).toNat).size ≤ 500 := by simp; omega
  have hY : (t.extract 0 (min (t.size : Int) 500).toNat).size ≤ 500 := by simp; omega
  generalize s.extract 0 (min (s.size : Int) 500).toNat = X at *
  generalize t.extract 0 (min (t.size : Int) 500).toNat = Y at *
  clear hs ht
  go_loopw [12] (fun v wr => ∃ B : ByteArray, v = .string B ∧ B.size ≤ 600 ∧ w1 = wr)
    (fun v _ => 700 - strLen v)
  case atStart => exact ⟨X, rfl, by omega, rfl⟩
  case round =>
    obtain ⟨B, rfl, hBs, rfl⟩ := hrel
    by_cases hlt : B.size < 64
    · have hd : decide ((B.size : Int) < 64) = true := by simp; omega
      have hn : ¬ (9223372036854775807 < B.size + 1) := by omega
      go_wp2
      have hz : (B ++ ⟨#[0]⟩ : ByteArray).size = B.size + 1 := by rw [ByteArray.size_append]; rfl
      go_roundw
      case rel => exact ⟨_, rfl, by omega, trivial⟩
      case measure =>
        show 700 - (B ++ ⟨#[0]⟩ : ByteArray).size < 700 - B.size
        omega
    · have hd : decide ((B.size : Int) < 64) = false := by simp; omega
      have h64 : (64 : Int) ≤ (B.size : Int) := by omega
      go_wp2
      have iB := Is.new w1 9 #[.string (B.extract 0 64), .string X]
      have jH := iH.alloc (.cells #[.string (B.extract 0 64), .string X] 9)
      have jO := iO.alloc (.cells #[.string (B.extract 0 64), .string X] 9)
      have hB2 := hB1.alloc hB1.size (.cells #[.string (B.extract 0 64), .string X] 9)
      generalize B.extract 0 64 = B64 at *
      obtain ⟨Bb, hBb⟩ : ∃ Bb, Bb = w1.heap.size := ⟨_, rfl⟩
      have hbl : w.heap.size + 1 < Bb := by rw [hBb]; exact iO.lt
      rw [← hBb] at iB ⊢
      clear hBb iH iO hB1 hd h64 hlt
      go_loopw [62] (fun i wr => ∃ k : Nat, k ≤ 2 ∧ i = .int .i64 k ∧ Is wr Bb 9 #[.string B64, .string X] ∧ Is wr w.heap.size 23 h.arr ∧ Is wr (w.heap.size + 1) 25 odd.arr ∧ Below w.heap.size w wr)
        (fun i _ => 2 - (intOf i).toNat)
      case atStart => exact ⟨0, by omega, rfl, iB, jH, jO, hB2⟩
      case round =>
        clear iB jH jO hB2
        obtain ⟨k, hk, rfl, iB, iH, iO, hB⟩ := hrel
        by_cases hlt : k < 2
        · obtain ⟨y, hc⟩ := two_strings B64 X k hlt
          have hcell : wr.cell? ⟨Bb, k, none⟩ = some (.string y) := (iB.cell k).trans hc
          have hi1 : (0 : Int) ≤ (k : Int) := by omega
          have hi2 : (k : Int) < 2 := by omega
          clear hc
          obtain ⟨r, e1, c1, r1⟩ := compress_both h HH.out y
          have C1 := Lib.hid c1
          have R1 := Lib.hid r1
          clear c1 r1
          have c0 : wr.cell? ⟨w.heap.size, 0, none⟩ = some (.int .u32 h.a) := iH.cell 0
          have c1 : wr.cell? ⟨w.heap.size, 1, none⟩ = some (.int .u32 h.b) := iH.cell 1
          have c2 : wr.cell? ⟨w.heap.size, 2, none⟩ = some (.int .u32 h.c) := iH.cell 2
          have c3 : wr.cell? ⟨w.heap.size, 3, none⟩ = some (.int .u32 h.d) := iH.cell 3
          have c4 : wr.cell? ⟨w.heap.size, 4, none⟩ = some (.int .u32 h.e) := iH.cell 4
          have c5 : wr.cell? ⟨w.heap.size, 5, none⟩ = some (.int .u32 h.f) := iH.cell 5
          have c6 : wr.cell? ⟨w.heap.size, 6, none⟩ = some (.int .u32 h.g) := iH.cell 6
          have c7 : wr.cell? ⟨w.heap.size, 7, none⟩ = some (.int .u32 h.h) := iH.cell 7
          go_wp2_with fail
          refine (C1.out _ (hT.below hB hT.two)).mono ?_
          rintro e w2 ⟨rfl, hb⟩
          have iB2 := (iB.below hb iB.lt).alloc (.cells r.arr 23)
          have iH2 := (iH.below hb iH.lt).alloc (.cells r.arr 23)
          have iO2 := (iO.below hb iO.lt).alloc (.cells r.arr 23)
          have iR2 := Is.new w2 23 r.arr
          have hB2 : Below w.heap.size w w2 := hB.trans (hb.mono hB.size)
          have hB2' := hB2.alloc hB2.size (.cells r.arr 23)
          clear hb iB iH iO hB hcell c0 c1 c2 c3 c4 c5 c6 c7
          have c0 : (w2.alloc (.cells r.arr 23)).cell? ⟨w.heap.size, 0, none⟩ = some (.int .u32 h.a) := iH2.cell 0
          have c1 : (w2.alloc (.cells r.arr 23)).cell? ⟨w.heap.size, 1, none⟩ = some (.int .u32 h.b) := iH2.cell 1
          have c2 : (w2.alloc (.cells r.arr 23)).cell? ⟨w.heap.size, 2, none⟩ = some (.int .u32 h.c) := iH2.cell 2
          have c3 : (w2.alloc (.cells r.arr 23)).cell? ⟨w.heap.size, 3, none⟩ = some (.int .u32 h.d) := iH2.cell 3
          have c4 : (w2.alloc (.cells r.arr 23)).cell? ⟨w.heap.size, 4, none⟩ = some (.int .u32 h.e) := iH2.cell 4
          have c5 : (w2.alloc (.cells r.arr 23)).cell? ⟨w.heap.size, 5, none⟩ = some (.int .u32 h.f) := iH2.cell 5
          have c6 : (w2.alloc (.cells r.arr 23)).cell? ⟨w.heap.size, 6, none⟩ = some (.int .u32 h.g) := iH2.cell 6
          have c7 : (w2.alloc (.cells r.arr 23)).cell? ⟨w.heap.size, 7, none⟩ = some (.int .u32 h.h) := iH2.cell 7
          go_wp2_with fail
          refine (R1.out _).mono ?_
          rintro e w3 ⟨rfl, hb⟩
          have iB3 := (iB2.below hb iB2.lt).alloc (.cells r.arr 23)
          have iH3 := (iH2.below hb iH2.lt).alloc (.cells r.arr 23)
          have iO3 := (iO2.below hb iO2.lt).alloc (.cells r.arr 23)
          have iR3 := (iR2.below hb iR2.lt).alloc (.cells r.arr 23)
          have iS3 := Is.new w3 23 r.arr
          have hB3 : Below w.heap.size w w3 := hB2'.trans (hb.mono hB2'.size)
          have hB3' := hB3.alloc hB3.size (.cells r.arr 23)
          clear hb iB2 iH2 iO2 hB2 hB2' iR2 c0 c1 c2 c3 c4 c5 c6 c7
          have c0 : (w3.alloc (.cells r.arr 23)).cell? ⟨w2.heap.size, 0, none⟩ = some (.int .u32 r.a) := iR3.cell 0
          have c1 : (w3.alloc (.cells r.arr 23)).cell? ⟨w2.heap.size, 1, none⟩ = some (.int .u32 r.b) := iR3.cell 1
          have c2 : (w3.alloc (.cells r.arr 23)).cell? ⟨w2.heap.size, 2, none⟩ = some (.int .u32 r.c) := iR3.cell 2
          have c3 : (w3.alloc (.cells r.arr 23)).cell? ⟨w2.heap.size, 3, none⟩ = some (.int .u32 r.d) := iR3.cell 3
          have c4 : (w3.alloc (.cells r.arr 23)).cell? ⟨w2.heap.size, 4, none⟩ = some (.int .u32 r.e) := iR3.cell 4
          have c5 : (w3.alloc (.cells r.arr 23)).cell? ⟨w2.heap.size, 5, none⟩ = some (.int .u32 r.f) := iR3.cell 5
          have c6 : (w3.alloc (.cells r.arr 23)).cell? ⟨w2.heap.size, 6, none⟩ = some (.int .u32 r.g) := iR3.cell 6
          have c7 : (w3.alloc (.cells r.arr 23)).cell? ⟨w2.heap.size, 7, none⟩ = some (.int .u32 r.h) := iR3.cell 7
          have d0 : (w3.alloc (.cells r.arr 23)).cell? ⟨w3.heap.size, 0, none⟩ = some (.int .u32 r.a) := iS3.cell 0
          have d1 : (w3.alloc (.cells r.arr 23)).cell? ⟨w3.heap.size, 1, none⟩ = some (.int .u32 r.b) := iS3.cell 1
          have d2 : (w3.alloc (.cells r.arr 23)).cell? ⟨w3.heap.size, 2, none⟩ = some (.int .u32 r.c) := iS3.cell 2
          have d3 : (w3.alloc (.cells r.arr 23)).cell? ⟨w3.heap.size, 3, none⟩ = some (.int .u32 r.d) := iS3.cell 3
          have d4 : (w3.alloc (.cells r.arr 23)).cell? ⟨w3.heap.size, 4, none⟩ = some (.int .u32 r.e) := iS3.cell 4
          have d5 : (w3.alloc (.cells r.arr 23)).cell? ⟨w3.heap.size, 5, none⟩ = some (.int .u32 r.f) := iS3.cell 5
          have d6 : (w3.alloc (.cells r.arr 23)).cell? ⟨w3.heap.size, 6, none⟩ = some (.int .u32 r.g) := iS3.cell 6
          have d7 : (w3.alloc (.cells r.arr 23)).cell? ⟨w3.heap.size, 7, none⟩ = some (.int .u32 r.h) := iS3.cell 7
          have heq := eqIn8 r
          go_wp2
          clear heq c0 c1 c2 c3 c4 c5 c6 c7 d0 d1 d2 d3 d4 d5 d6 d7
          go_roundw
          case rel => exact ⟨k + 1, by omega, by go_num, iB3, iH3, iO3, hB3'⟩
          case measure => simp [intOf]; omega
        · have hk2 : ¬ (k : Int) < 2 := by omega
          have hle : (X.size : Int) ≤ 1048576 - Hs0.m := by show (X.size : Int) ≤ 1048576 - 0; omega
          have HLE := Lib.hid hle
          have hya := fun w hT => add_ok Hs0 X w hT right_new HLE.out
          have hyr := fun w => radd_ok Hs0 X w H0_ok right_new HLE.out
          have hyk : (addH Hs0 X).h.Ok := addH_ok H0_ok X
          have hym : (addH Hs0 X).m = X.size := by rw [addH]; show (0 : Int) + _ = _; omega
          have hyz : (addH Hs0 X).r.size ≤ 500 := by have := right_small (right_add right_new HLE.out); omega
          generalize addH Hs0 X = y at *
          have HYA := Lib.hid hya
          have HYR := Lib.hid hyr
          have HYK := Lib.hid hyk
          have HYM := Lib.hid hym
          clear hle hya hyr hyk hym
          go_wp2_with fail
          refine (new_any _ (hT.below hB hT.two)).mono ?_
          rintro e w2 ⟨rfl, hb⟩
          have iO2 := iO.below hb iO.lt
          have hB2 : Below w.heap.size w w2 := hB.trans (hb.mono hB.size)
          clear hb iO hB iB iH
          go_wp2_with fail
          refine (HYA.out _ (hT.below hB2 hT.two)).mono ?_
          rintro e w3 ⟨rfl, hb⟩
          have iO3 := (iO2.below hb iO2.lt).alloc (.cells y.arr 25)
          have iA3 := Is.new w3 25 y.arr
          have hB3 : Below w.heap.size w w3 := hB2.trans (hb.mono hB2.size)
          have hB3' := hB3.alloc hB3.size (.cells y.arr 25)
          clear hb iO2 hB2 hB3
          go_wp2_with fail
          refine (rnew_any _).mono ?_
          rintro e w4 ⟨rfl, hb⟩
          have iO4 := iO3.below hb iO3.lt
          have iA4 := iA3.below hb iA3.lt
          have hB4 : Below w.heap.size w w4 := hB3'.trans (hb.mono hB3'.size)
          clear hb iO3 iA3 hB3'
          go_wp2_with fail
          refine (HYR.out _).mono ?_
          rintro e w5 ⟨rfl, hb⟩
          have iO5 := (iO4.below hb iO4.lt).alloc (.cells y.arr 25)
          have iA5 := (iA4.below hb iA4.lt).alloc (.cells y.arr 25)
          have iB5 := Is.new w5 25 y.arr
          have hB5 : Below w.heap.size w w5 := hB4.trans (hb.mono hB4.size)
          have hB5' := hB5.alloc hB5.size (.cells y.arr 25)
          clear hb iO4 iA4 hB4 hB5
          have c0 : (w5.alloc (.cells y.arr 25)).cell? ⟨w3.heap.size, 0, none⟩ = some (.int .u32 y.h.a) := iA5.cell 0
          have c1 : (w5.alloc (.cells y.arr 25)).cell? ⟨w3.heap.size, 1, none⟩ = some (.int .u32 y.h.b) := iA5.cell 1
          have c2 : (w5.alloc (.cells y.arr 25)).cell? ⟨w3.heap.size, 2, none⟩ = some (.int .u32 y.h.c) := iA5.cell 2
          have c3 : (w5.alloc (.cells y.arr 25)).cell? ⟨w3.heap.size, 3, none⟩ = some (.int .u32 y.h.d) := iA5.cell 3
          have c4 : (w5.alloc (.cells y.arr 25)).cell? ⟨w3.heap.size, 4, none⟩ = some (.int .u32 y.h.e) := iA5.cell 4
          have c5 : (w5.alloc (.cells y.arr 25)).cell? ⟨w3.heap.size, 5, none⟩ = some (.int .u32 y.h.f) := iA5.cell 5
          have c6 : (w5.alloc (.cells y.arr 25)).cell? ⟨w3.heap.size, 6, none⟩ = some (.int .u32 y.h.g) := iA5.cell 6
          have c7 : (w5.alloc (.cells y.arr 25)).cell? ⟨w3.heap.size, 7, none⟩ = some (.int .u32 y.h.h) := iA5.cell 7
          have c8 : (w5.alloc (.cells y.arr 25)).cell? ⟨w3.heap.size, 8, none⟩ = some (.string y.r) := iA5.cell 8
          have c9 : (w5.alloc (.cells y.arr 25)).cell? ⟨w3.heap.size, 9, none⟩ = some (.int .i64 y.m) := iA5.cell 9
          have d0 : (w5.alloc (.cells y.arr 25)).cell? ⟨w5.heap.size, 0, none⟩ = some (.int .u32 y.h.a) := iB5.cell 0
          have d1 : (w5.alloc (.cells y.arr 25)).cell? ⟨w5.heap.size, 1, none⟩ = some (.int .u32 y.h.b) := iB5.cell 1
          have d2 : (w5.alloc (.cells y.arr 25)).cell? ⟨w5.heap.size, 2, none⟩ = some (.int .u32 y.h.c) := iB5.cell 2
          have d3 : (w5.alloc (.cells y.arr 25)).cell? ⟨w5.heap.size, 3, none⟩ = some (.int .u32 y.h.d) := iB5.cell 3
          have d4 : (w5.alloc (.cells y.arr 25)).cell? ⟨w5.heap.size, 4, none⟩ = some (.int .u32 y.h.e) := iB5.cell 4
          have d5 : (w5.alloc (.cells y.arr 25)).cell? ⟨w5.heap.size, 5, none⟩ = some (.int .u32 y.h.f) := iB5.cell 5
          have d6 : (w5.alloc (.cells y.arr 25)).cell? ⟨w5.heap.size, 6, none⟩ = some (.int .u32 y.h.g) := iB5.cell 6
          have d7 : (w5.alloc (.cells y.arr 25)).cell? ⟨w5.heap.size, 7, none⟩ = some (.int .u32 y.h.h) := iB5.cell 7
          have d8 : (w5.alloc (.cells y.arr 25)).cell? ⟨w5.heap.size, 8, none⟩ = some (.string y.r) := iB5.cell 8
          have d9 : (w5.alloc (.cells y.arr 25)).cell? ⟨w5.heap.size, 9, none⟩ = some (.int .i64 y.m) := iB5.cell 9
          go_wp2_with fail
          refine (same_self y _).mono ?_
          rintro e w6 ⟨rfl, hb⟩
          have iO6 := iO5.below hb iO5.lt
          have iB6 := iB5.below hb iB5.lt
          have hB6 : Below w.heap.size w w6 := hB5'.trans (hb.mono hB5'.size)
          clear hb iO5 iA5 iB5 hB5' c0 c1 c2 c3 c4 c5 c6 c7 c8 c9 d0 d1 d2 d3 d4 d5 d6 d7 d8 d9
          go_wp2_with fail
          refine (new_any _ (hT.below hB6 hT.two)).mono ?_
          rintro e w7 ⟨rfl, hb⟩
          have iO7 := iO6.below hb iO6.lt
          have iB7 := iB6.below hb iB6.lt
          have hB7 : Below w.heap.size w w7 := hB6.trans (hb.mono hB6.size)
          clear hb iO6 iB6 hB6
          go_wp2_with fail
          refine (rnew_any _).mono ?_
          rintro e w8 ⟨rfl, hb⟩
          have iO8 := iO7.below hb iO7.lt
          have iB8 := iB7.below hb iB7.lt
          have hB8 : Below w.heap.size w w8 := hB7.trans (hb.mono hB7.size)
          clear hb iO7 iB7 hB7
          go_wp2_with fail
          refine (same_self Hs0 _).mono ?_
          rintro e w9 ⟨rfl, hb⟩
          have iO9 := iO8.below hb iO8.lt
          have iB9 := iB8.below hb iB8.lt
          have hB9 : Below w.heap.size w w9 := hB8.trans (hb.mono hB8.size)
          clear hb iO8 iB8 hB8
          have c0 : w9.cell? ⟨w5.heap.size, 0, none⟩ = some (.int .u32 y.h.a) := iB9.cell 0
          have c1 : w9.cell? ⟨w5.heap.size, 1, none⟩ = some (.int .u32 y.h.b) := iB9.cell 1
          have c2 : w9.cell? ⟨w5.heap.size, 2, none⟩ = some (.int .u32 y.h.c) := iB9.cell 2
          have c3 : w9.cell? ⟨w5.heap.size, 3, none⟩ = some (.int .u32 y.h.d) := iB9.cell 3
          have c4 : w9.cell? ⟨w5.heap.size, 4, none⟩ = some (.int .u32 y.h.e) := iB9.cell 4
          have c5 : w9.cell? ⟨w5.heap.size, 5, none⟩ = some (.int .u32 y.h.f) := iB9.cell 5
          have c6 : w9.cell? ⟨w5.heap.size, 6, none⟩ = some (.int .u32 y.h.g) := iB9.cell 6
          have c7 : w9.cell? ⟨w5.heap.size, 7, none⟩ = some (.int .u32 y.h.h) := iB9.cell 7
          have c8 : w9.cell? ⟨w5.heap.size, 8, none⟩ = some (.string y.r) := iB9.cell 8
          have c9 : w9.cell? ⟨w5.heap.size, 9, none⟩ = some (.int .i64 y.m) := iB9.cell 9
          have d0 : w9.cell? ⟨w.heap.size + 1, 0, none⟩ = some (.int .u32 odd.h.a) := iO9.cell 0
          have d1 : w9.cell? ⟨w.heap.size + 1, 1, none⟩ = some (.int .u32 odd.h.b) := iO9.cell 1
          have d2 : w9.cell? ⟨w.heap.size + 1, 2, none⟩ = some (.int .u32 odd.h.c) := iO9.cell 2
          have d3 : w9.cell? ⟨w.heap.size + 1, 3, none⟩ = some (.int .u32 odd.h.d) := iO9.cell 3
          have d4 : w9.cell? ⟨w.heap.size + 1, 4, none⟩ = some (.int .u32 odd.h.e) := iO9.cell 4
          have d5 : w9.cell? ⟨w.heap.size + 1, 5, none⟩ = some (.int .u32 odd.h.f) := iO9.cell 5
          have d6 : w9.cell? ⟨w.heap.size + 1, 6, none⟩ = some (.int .u32 odd.h.g) := iO9.cell 6
          have d7 : w9.cell? ⟨w.heap.size + 1, 7, none⟩ = some (.int .u32 odd.h.h) := iO9.cell 7
          have d8 : w9.cell? ⟨w.heap.size + 1, 8, none⟩ = some (.string odd.r) := iO9.cell 8
          have d9 : w9.cell? ⟨w.heap.size + 1, 9, none⟩ = some (.int .i64 odd.m) := iO9.cell 9
          have hlB := iB9.lt
          have hlO := iO9.lt
          have g1 : ¬ (w.heap.size = w9.heap.size) := by omega
          have g2 : ¬ (w.heap.size = w9.heap.size + 1) := by omega
          have g3 : ¬ (w5.heap.size = w9.heap.size + 1) := by omega
          have g4 : ¬ (w5.heap.size = w9.heap.size) := by omega
          have g5 : ¬ (w5.heap.size = w9.heap.size + 1 + 1) := by omega
          have g6 : ¬ (w.heap.size + 1 = w9.heap.size) := by omega
          have g7 : w.heap.size < w9.heap.size := by omega
          have g8 : w.heap.size < w9.heap.size + 1 := by omega
          have g9 : w5.heap.size < w9.heap.size + 1 := by omega
          have g10 : w5.heap.size < w9.heap.size + 1 + 1 := by omega
          by_cases h5 : 500 < odd.r.size
          · have hd5 : decide (500 < (odd.r.size : Int)) = true := by simp; omega
            go_wp2
            go_ret
            exact ⟨rfl, (hB9.alloc hB9.size _).alloc (Nat.le_trans hB9.size (by simp)) _⟩
          · have hd5 : decide (500 < (odd.r.size : Int)) = false := by simp; omega
            go_wp2
            have jO := ((iO9.alloc (.cells (Hs.mk y.h y.r odd.m).arr 25)).alloc (.cells (Hs.mk y.h odd.r y.m).arr 25)).alloc (.cells (Hs.mk odd.h y.r y.m).arr 25)
            have jB := ((iB9.alloc (.cells (Hs.mk y.h y.r odd.m).arr 25)).alloc (.cells (Hs.mk y.h odd.r y.m).arr 25)).alloc (.cells (Hs.mk odd.h y.r y.m).arr 25)
            have jC := ((Is.new w9 25 (Hs.mk y.h y.r odd.m).arr).alloc (.cells (Hs.mk y.h odd.r y.m).arr 25)).alloc (.cells (Hs.mk odd.h y.r y.m).arr 25)
            have jD : Is (((w9.alloc (.cells (Hs.mk y.h y.r odd.m).arr 25)).alloc (.cells (Hs.mk y.h odd.r y.m).arr 25)).alloc (.cells (Hs.mk odd.h y.r y.m).arr 25)) (w9.heap.size + 1) 25 (Hs.mk y.h odd.r y.m).arr := Is.alloc (heap_alloc2_new w9 _ _) _
            have jG : Is (((w9.alloc (.cells (Hs.mk y.h y.r odd.m).arr 25)).alloc (.cells (Hs.mk y.h odd.r y.m).arr 25)).alloc (.cells (Hs.mk odd.h y.r y.m).arr 25)) (w9.heap.size + 1 + 1) 25 (Hs.mk odd.h y.r y.m).arr := by
              have := Is.new ((w9.alloc (.cells (Hs.mk y.h y.r odd.m).arr 25)).alloc (.cells (Hs.mk y.h odd.r y.m).arr 25)) 25 (Hs.mk odd.h y.r y.m).arr
              simpa using this
            have hBx : Below w.heap.size w (((w9.alloc (.cells (Hs.mk y.h y.r odd.m).arr 25)).alloc (.cells (Hs.mk y.h odd.r y.m).arr 25)).alloc (.cells (Hs.mk odd.h y.r y.m).arr 25)) := ((hB9.alloc hB9.size _).alloc (Nat.le_trans hB9.size (by simp)) _).alloc (Nat.le_trans hB9.size (by simp; omega)) _
            change Code.wp _ _ _ _ (((w9.alloc (.cells (Hs.mk y.h y.r odd.m).arr 25)).alloc (.cells (Hs.mk y.h odd.r y.m).arr 25)).alloc (.cells (Hs.mk odd.h y.r y.m).arr 25))
            generalize (((w9.alloc (.cells (Hs.mk y.h y.r odd.m).arr 25)).alloc (.cells (Hs.mk y.h odd.r y.m).arr 25)).alloc (.cells (Hs.mk odd.h y.r y.m).arr 25)) = wx at *
            obtain ⟨BG, hBG⟩ : ∃ B, B = w9.heap.size + 1 + 1 := ⟨_, rfl⟩
            obtain ⟨BD, hBD⟩ : ∃ B, B = w9.heap.size + 1 := ⟨_, rfl⟩
            obtain ⟨BC, hBC⟩ : ∃ B, B = w9.heap.size := ⟨_, rfl⟩
            obtain ⟨BB, hBB⟩ : ∃ B, B = w5.heap.size := ⟨_, rfl⟩
            obtain ⟨BO, hBO⟩ : ∃ B, B = w.heap.size + 1 := ⟨_, rfl⟩
            rw [← hBG, ← hBD, ← hBC, ← hBB, ← hBO]
            rw [← hBO] at jO
            rw [← hBB] at jB
            rw [← hBC] at jC
            rw [← hBD] at jD
            rw [← hBG] at jG
            have q1 : w.heap.size < BO := by omega
            have q2 : BO < BC := by omega
            have q3 : BB < BC := by omega
            have q4 : BC < BD := by omega
            have q5 : BD < BG := by omega
            clear hBG hBD hBC hBB hBO hlB hlO g1 g2 g3 g4 g5 g6 g7 g8 g9 g10 iO9 iB9 hB9 hd5 c0 c1 c2 c3 c4 c5 c6 c7 c8 c9 d0 d1 d2 d3 d4 d5 d6 d7 d8 d9
            have hp := pickN_bd odd.m 16380 (by decide)
            have pk : ∀ w, Calls Tryd.prog 18 #[.int .i64 odd.m, .int .i64 16380] w fun e w' => e = .returned (.int .i64 (pickN odd.m 16380)) ∧ w = w' := fun w => pick_any odd.m 16380 w hom.1 hom.2 (by decide) (by decide)
            generalize pickN odd.m 16380 = pp at *
            have PK := Lib.hid pk
            clear pk
            obtain ⟨hp0, hp1⟩ := hp
            have ym0 : 0 ≤ y.m := by rw [HYM.out]; omega
            have ym1 : y.m ≤ 500 := by rw [HYM.out]; omega
            have wi1 := IntWalk.i64_in (64 * pp) (by omega)
            have wi2 := IntWalk.i64_in (y.m + 64 * pp) (by omega)
            have b9 : wx.cell? ⟨BB, 9, none⟩ = some (.int .i64 y.m) := jB.cell 9
            have o9 : wx.cell? ⟨BO, 9, none⟩ = some (.int .i64 odd.m) := jO.cell 9
            have g9 : wx.drew.cell? ⟨BG, 9, none⟩ = some (.int .i64 y.m) := jG.cell 9
            have f9 : wx.drew.frozen? ⟨BG, 9, none⟩ = false := jG.frozen 9
            refine wp_region_held_drew (S := fun W => W.cell? ⟨BB, 9, none⟩ = some (.int .i64 y.m) ∧ W.cell? ⟨BO, 9, none⟩ = some (.int .i64 odd.m)) (by kernel_rfl) ⟨b9, o9⟩ (fun hS => ?_)
            refine wpAnyH_take (i := 0) (v := .pointer (some ⟨BB, 9, none⟩)) rfl (by kernel_rfl) (by kernel_rfl) (by kernel_rfl) (fun _ _ _ h => h) (Or.inl ⟨by rfl, fun w hSw => by go_simp⟩) hS ?_
            simp only [Act.put]
            refine wpAnyH_take (i := 1) (v := .int .i64 y.m) rfl (by kernel_rfl) (by kernel_rfl) (by kernel_rfl) (fun _ _ _ h => h) (Or.inl ⟨by rfl, fun w hSw => by (dsimp only at hSw; obtain ⟨hs1, hs2⟩ := hSw; go_simp)⟩) hS ?_
            simp only [Act.put]
            refine wpAnyH_take (i := 2) (v := .pointer (some ⟨BO, 9, none⟩)) rfl (by kernel_rfl) (by kernel_rfl) (by kernel_rfl) (fun _ _ _ h => h) (Or.inl ⟨by rfl, fun w hSw => by go_simp⟩) hS ?_
            simp only [Act.put]
            refine wpAnyH_take (i := 3) (v := .int .i64 odd.m) rfl (by kernel_rfl) (by kernel_rfl) (by kernel_rfl) (fun _ _ _ h => h) (Or.inl ⟨by rfl, fun w hSw => by (dsimp only at hSw; obtain ⟨hs1, hs2⟩ := hSw; go_simp)⟩) hS ?_
            simp only [Act.put]
            refine wpAnyH_next (i := 4) (by kernel_rfl) rfl (fun Kc hKc => ?_)
            go_simp
            go_at_call 18
            refine (PK.out _).mono ?_
            rintro e w' ⟨rfl, rfl⟩
            refine hKc.out _ _ ⟨b9, o9⟩ (fun _ => ?_)
            clear hKc Kc
            try simp only [Act.put]
            refine wpAnyH_next (i := 5) (by kernel_rfl) rfl (fun Kc hKc => ?_)
            go_simp
            refine hKc.out _ _ ⟨b9, o9⟩ (fun _ => ?_)
            clear hKc Kc
            try simp only [Act.put]
            refine wpAnyH_next (i := 6) (by kernel_rfl) rfl (fun Kc hKc => ?_)
            go_simp
            refine hKc.out _ _ ⟨b9, o9⟩ (fun _ => ?_)
            clear hKc Kc
            try simp only [Act.put]
            refine wpAnyH_next (i := 7) (by kernel_rfl) rfl (fun Kc hKc => ?_)
            go_simp
            refine hKc.out _ _ ⟨b9, o9⟩ (fun _ => ?_)
            clear hKc Kc
            try simp only [Act.put]
            refine wpAnyH_next (i := 8) (by kernel_rfl) rfl (fun Kc hKc => ?_)
            go_simp
            refine hKc.out _ _ ⟨(jB.far (show BB ≠ BG by omega) _).cell 9, (jO.far (show BO ≠ BG by omega) _).cell 9⟩ (fun _ => ?_)
            clear hKc Kc
            try simp only [Act.put]
            refine wpAnyH_done (by kernel_rfl) ?_ _
            have kB : Is (wx.setCell ⟨BG, 9, none⟩ (.int .i64 (y.m + 64 * pp))).drew BB 25 y.arr := jB.far (show BB ≠ BG by omega) _
            have kO : Is (wx.setCell ⟨BG, 9, none⟩ (.int .i64 (y.m + 64 * pp))).drew BO 25 odd.arr := jO.far (show BO ≠ BG by omega) _
            have kC : Is (wx.setCell ⟨BG, 9, none⟩ (.int .i64 (y.m + 64 * pp))).drew BC 25 (Hs.mk y.h y.r odd.m).arr := jC.far (show BC ≠ BG by omega) _
            have kD : Is (wx.setCell ⟨BG, 9, none⟩ (.int .i64 (y.m + 64 * pp))).drew BD 25 (Hs.mk y.h odd.r y.m).arr := jD.far (show BD ≠ BG by omega) _
            have kG : Is (wx.setCell ⟨BG, 9, none⟩ (.int .i64 (y.m + 64 * pp))).drew BG 25 (Hs.mk odd.h y.r (y.m + 64 * pp)).arr := jG.set 9 _
            have hBy : Below w.heap.size w (wx.setCell ⟨BG, 9, none⟩ (.int .i64 (y.m + 64 * pp))).drew := belowN (hBx.setCell (by show w.heap.size ≤ BG; omega) _) 1
            generalize (wx.setCell ⟨BG, 9, none⟩ (.int .i64 (y.m + 64 * pp))).drew = wy at *
            clear jB jO jC jD jG hBx b9 o9 g9 f9 wi1 wi2
            unfold Is at kB kO kC kD kG
            go_wp2_with (refine wpList_load_row rfl 25 _ rfl _ rfl _ _ _ _ (by first | with_reducible exact kB | with_reducible exact kC | with_reducible exact kD | with_reducible exact kG | with_reducible exact kO) Tryd.underlying25 rfl (by kernel_rfl) ?_)
            have iL := Is.new wy 25 (arr5 y (Hs.mk y.h y.r odd.m) (Hs.mk y.h odd.r y.m) (Hs.mk odd.h y.r (y.m + 64 * pp)) odd)
            have hBl := hBy.alloc hBy.size (.cells (arr5 y (Hs.mk y.h y.r odd.m) (Hs.mk y.h odd.r y.m) (Hs.mk odd.h y.r (y.m + 64 * pp)) odd) 25)
            change Code.wp _ _ _ _ (wy.alloc (.cells (arr5 y (Hs.mk y.h y.r odd.m) (Hs.mk y.h odd.r y.m) (Hs.mk odd.h y.r (y.m + 64 * pp)) odd) 25))
            obtain ⟨BL, hBL⟩ : ∃ B, B = wy.heap.size := ⟨_, rfl⟩
            rw [← hBL] at iL
            rw [← hBL]
            generalize wy.alloc (.cells (arr5 y (Hs.mk y.h y.r odd.m) (Hs.mk y.h odd.r y.m) (Hs.mk odd.h y.r (y.m + 64 * pp)) odd) 25) = wl at *
            have hok5 : ∀ j, j < 5 → ∃ z : Hs, z.h.Ok ∧ ∀ i v, z.arr.toList[i]? = some v → (arr5 y (Hs.mk y.h y.r odd.m) (Hs.mk y.h odd.r y.m) (Hs.mk odd.h y.r (y.m + 64 * pp)) odd)[j * 10 + i]? = some v := fun j hj =>
              five_hash (P := fun z => z.h.Ok) y (Hs.mk y.h y.r odd.m) (Hs.mk y.h odd.r y.m) (Hs.mk odd.h y.r (y.m + 64 * pp)) odd HYK.out HYK.out HYK.out HO.out HO.out j hj
            generalize (arr5 y (Hs.mk y.h y.r odd.m) (Hs.mk y.h odd.r y.m) (Hs.mk odd.h y.r (y.m + 64 * pp)) odd) = A5 at *
            have HOK := Lib.hid hok5
            clear hok5 hBL kB kC kD kG kO hBy
            go_loopw [146] (fun i wr => ∃ j : Nat, j ≤ 5 ∧ i = .int .i64 j ∧ Is wr BL 25 A5 ∧ Below w.heap.size w wr)
              (fun i _ => 5 - (intOf i).toNat)
            case atStart => exact ⟨0, by omega, rfl, iL, hBl⟩
            case round =>
              clear iL hBl
              obtain ⟨j, hj, rfl, iL, hB⟩ := hrel
              by_cases hlj : j < 5
              · obtain ⟨z, hz, hzc⟩ := HOK.out j hlj
                have hrg : wr.rangeAt BL (j * 10) z.arr.toList := fun i v hv => (iL.cell _).trans (hzc i v hv)
                have HZ := Lib.hid hz
                clear hz hzc
                have hj1 : (0 : Int) ≤ (j : Int) := by omega
                have hj2 : (j : Int) < 5 := by omega
                have hbl : BL < wr.heap.size := iL.lt
                have z0 := Is.new wr 25 z.arr
                have L0 := iL.alloc (.cells z.arr 25)
                have hB0 := hB.alloc hB.size (.cells z.arr 25)
                have zc8 : (wr.alloc (.cells z.arr 25)).cell? ⟨wr.heap.size, 8, none⟩ = some (.string z.r) := z0.cell 8
                by_cases h5 : 500 < z.r.size
                · have hd5 : decide (500 < (z.r.size : Int)) = true := by simp; omega
                  go_wp2_with (refine wpList_load_mid rfl 25 _ rfl BL (j * 10) rfl z.arr.toList _ hrg Tryd.underlying25 rfl (by kernel_rfl) ?_)
                  go_roundw
                  case rel => exact ⟨j + 1, by omega, by go_num, L0, hB0⟩
                  case measure => simp [intOf]; omega
                · have hd5 : decide (500 < (z.r.size : Int)) = false := by simp; omega
                  obtain ⟨r, e1, c1, r1⟩ := add_both z HZ.out Y
                  obtain ⟨s2, e2, c2, r2⟩ := end_both z HZ.out
                  have C1 := Lib.hid c1
                  have R1 := Lib.hid r1
                  have C2 := Lib.hid c2
                  have R2 := Lib.hid r2
                  clear c1 r1 c2 r2
                  go_wp2_with (first
                    | (refine wpList_load_mid rfl 25 _ rfl BL (j * 10) rfl z.arr.toList _ hrg Tryd.underlying25 rfl (by kernel_rfl) ?_)
                    | (refine wpList_load_row rfl 25 _ rfl _ rfl _ _ _ _ (by with_reducible exact z0) Tryd.underlying25 rfl (by kernel_rfl) ?_))
                  refine (C1.out _ (hT.below hB0 hT.two)).mono ?_
                  rintro e v1 ⟨rfl, hb⟩
                  have z1 := (z0.below hb z0.lt).alloc (.cells r.arr 25)
                  have L1 := (L0.below hb L0.lt).alloc (.cells r.arr 25)
                  have p1 := Is.new v1 25 r.arr
                  have hB1 : Below w.heap.size w v1 := hB0.trans (hb.mono hB0.size)
                  have hB1' := hB1.alloc hB1.size (.cells r.arr 25)
                  clear hb z0 L0 hB0 zc8 hrg iL hB hB1 hd5
                  have z1h := z1
                  unfold Is at z1h
                  go_wp2_with (refine wpList_load_row rfl 25 _ rfl _ rfl _ _ _ _ (by with_reducible exact z1h) Tryd.underlying25 rfl (by kernel_rfl) ?_)
                  refine (R1.out _).mono ?_
                  rintro e v2 ⟨rfl, hb⟩
                  have z2 := (z1.below hb z1.lt).alloc (.cells r.arr 25)
                  have L2 := (L1.below hb L1.lt).alloc (.cells r.arr 25)
                  have p2 := (p1.below hb p1.lt).alloc (.cells r.arr 25)
                  have q2 := Is.new v2 25 r.arr
                  have hB2 : Below w.heap.size w v2 := hB1'.trans (hb.mono hB1'.size)
                  have hB2' := hB2.alloc hB2.size (.cells r.arr 25)
                  clear hb z1 L1 p1 hB1' hB2 z1h
                  have z2h := z2
                  unfold Is at z2h
                  go_wp2_with (refine wpList_load_row rfl 25 _ rfl _ rfl _ _ _ _ (by with_reducible exact z2h) Tryd.underlying25 rfl (by kernel_rfl) ?_)
                  refine (C2.out _ (hT.below hB2' hT.two)).mono ?_
                  rintro e v3 ⟨rfl, hb⟩
                  have z3 := z2.below hb z2.lt
                  have L3 := L2.below hb L2.lt
                  have p3 := p2.below hb p2.lt
                  have q3 := q2.below hb q2.lt
                  have hB3 : Below w.heap.size w v3 := hB2'.trans (hb.mono hB2'.size)
                  clear hb z2 L2 p2 q2 hB2' z2h
                  have z3h := z3
                  unfold Is at z3h
                  go_wp2_with (refine wpList_load_row rfl 25 _ rfl _ rfl _ _ _ _ (by with_reducible exact z3h) Tryd.underlying25 rfl (by kernel_rfl) ?_)
                  refine (R2.out _).mono ?_
                  rintro e v4 ⟨rfl, hb⟩
                  have z4 := z3.below hb z3.lt
                  have L4 := L3.below hb L3.lt
                  have p4 := p3.below hb p3.lt
                  have q4 := q3.below hb q3.lt
                  have hB4 : Below w.heap.size w v4 := hB3.trans (hb.mono hB3.size)
                  clear hb z3 L3 p3 q3 hB3 z3h
                  go_wp2
                  refine wp_region_held_drew (S := fun W => W.rangeAt wr.heap.size 0 z.arr.toList ∧ W.rangeAt v1.heap.size 0 r.arr.toList ∧ W.rangeAt v2.heap.size 0 r.arr.toList) (by kernel_rfl) ⟨range10 z4, range10 p4, range10 q4⟩ (fun hS => ?_)
                  refine wpAnyH_take (i := 0) rfl (by kernel_rfl) (by kernel_rfl) (by kernel_rfl) (fun _ _ _ h => h) (yieldsIf_load_mid (by rfl) _ _ rfl _ _ rfl z.arr.toList _ (fun w h => h.1) Tryd.underlying25 rfl (by kernel_rfl)) hS ?_
                  simp only [Act.put]
                  refine wpAnyH_take (i := 2) rfl (by kernel_rfl) (by kernel_rfl) (by kernel_rfl) (fun _ _ _ h => h) (yieldsIf_load_mid (by rfl) _ _ rfl _ _ rfl z.arr.toList _ (fun w h => h.1) Tryd.underlying25 rfl (by kernel_rfl)) hS ?_
                  simp only [Act.put]
                  refine wpAnyH_next (i := 1) (by kernel_rfl) rfl (fun Kc hKc => ?_)
                  go_simp
                  go_at_call 21
                  refine (right_any z _).mono ?_
                  rintro e v5 ⟨rfl, hb⟩
                  have z5 := (z4.drewN 1).below hb z4.lt
                  have p5 := (p4.drewN 1).below hb p4.lt
                  have q5 := (q4.drewN 1).below hb q4.lt
                  have L5 := (L4.drewN 1).below hb L4.lt
                  have hB5 : Below w.heap.size w v5 := (belowN hB4 1).trans (hb.mono hB4.size)
                  clear hb
                  refine hKc.out _ _ ⟨range10 z5, range10 p5, range10 q5⟩ (fun _ => ?_)
                  clear hKc Kc
                  try simp only [Act.put]
                  refine wpAnyH_next (i := 3) (by kernel_rfl) rfl (fun Kc hKc => ?_)
                  go_simp
                  go_at_call 22
                  refine (rright_any z _).mono ?_
                  rintro e v6 ⟨rfl, hb⟩
                  have z6 := z5.below hb z5.lt
                  have p6 := p5.below hb p5.lt
                  have q6 := q5.below hb q5.lt
                  have L6 := L5.below hb L5.lt
                  have hB6 : Below w.heap.size w v6 := hB5.trans (hb.mono hB5.size)
                  clear hb
                  generalize rightB z = bz
                  refine hKc.out _ _ ⟨range10 z6, range10 p6, range10 q6⟩ (fun _ => ?_)
                  clear hKc Kc
                  try simp only [Act.put]
                  refine wpAnyH_next (i := 4) (by kernel_rfl) rfl (fun Kc hKc => ?_)
                  go_simp
                  refine hKc.out _ _ ⟨range10 z6, range10 p6, range10 q6⟩ (fun _ => ?_)
                  clear hKc Kc
                  try simp only [Act.put]
                  refine wpAnyH_next (i := 5) (by kernel_rfl) rfl (fun Kc hKc => ?_)
                  go_simp
                  refine hKc.out _ _ ⟨range10 z6, range10 p6, range10 q6⟩ (fun _ => ?_)
                  clear hKc Kc
                  try simp only [Act.put]
                  refine wpAnyH_take (i := 6) rfl (by kernel_rfl) (by kernel_rfl) (by kernel_rfl) (fun _ _ _ h => h) (yieldsIf_load_mid (by rfl) _ _ rfl _ _ rfl r.arr.toList _ (fun w h => h.2.1) Tryd.underlying25 rfl (by kernel_rfl)) ⟨range10 z6, range10 p6, range10 q6⟩ ?_
                  simp only [Act.put]
                  refine wpAnyH_take (i := 7) rfl (by kernel_rfl) (by kernel_rfl) (by kernel_rfl) (fun _ _ _ h => h) (yieldsIf_load_mid (by rfl) _ _ rfl _ _ rfl r.arr.toList _ (fun w h => h.2.2) Tryd.underlying25 rfl (by kernel_rfl)) ⟨range10 z6, range10 p6, range10 q6⟩ ?_
                  simp only [Act.put]
                  refine wpAnyH_next (i := 8) (by kernel_rfl) rfl (fun Kc hKc => ?_)
                  go_simp
                  go_at_call 17
                  refine (same_self r _).mono ?_
                  rintro e v7 ⟨rfl, hb⟩
                  have z7 := z6.below hb z6.lt
                  have p7 := p6.below hb p6.lt
                  have q7 := q6.below hb q6.lt
                  have L7 := L6.below hb L6.lt
                  have hB7 : Below w.heap.size w v7 := hB6.trans (hb.mono hB6.size)
                  clear hb
                  refine hKc.out _ _ ⟨range10 z7, range10 p7, range10 q7⟩ (fun _ => ?_)
                  clear hKc Kc
                  try simp only [Act.put]
                  refine wpAnyH_next (i := 9) (by kernel_rfl) rfl (fun Kc hKc => ?_)
                  go_simp
                  refine hKc.out _ _ ⟨range10 z7, range10 p7, range10 q7⟩ (fun _ => ?_)
                  clear hKc Kc
                  try simp only [Act.put]
                  refine wpAnyH_next (i := 10) (by kernel_rfl) rfl (fun Kc hKc => ?_)
                  go_simp
                  refine hKc.out _ _ ⟨range10 z7, range10 p7, range10 q7⟩ (fun _ => ?_)
                  clear hKc Kc
                  try simp only [Act.put]
                  refine wpAnyH_next (i := 11) (by kernel_rfl) rfl (fun Kc hKc => ?_)
                  go_simp
                  refine hKc.out _ _ ⟨range10 z7, range10 p7, range10 q7⟩ (fun _ => ?_)
                  clear hKc Kc
                  try simp only [Act.put]
                  refine wpAnyH_take (i := 12) (v := .int .i64 e1) rfl (by kernel_rfl) (by kernel_rfl) (by kernel_rfl) (fun _ _ _ h => h) (Or.inl ⟨by rfl, fun w hSw => by go_simp⟩) ⟨range10 z7, range10 p7, range10 q7⟩ ?_
                  simp only [Act.put]
                  refine wpAnyH_take (i := 13) (v := .int .i64 e1) rfl (by kernel_rfl) (by kernel_rfl) (by kernel_rfl) (fun _ _ _ h => h) (Or.inl ⟨by rfl, fun w hSw => by go_simp⟩) ⟨range10 z7, range10 p7, range10 q7⟩ ?_
                  simp only [Act.put]
                  refine wpAnyH_next (i := 14) (by kernel_rfl) rfl (fun Kc hKc => ?_)
                  go_simp
                  refine hKc.out _ _ ⟨range10 z7, range10 p7, range10 q7⟩ (fun _ => ?_)
                  clear hKc Kc
                  try simp only [Act.put]
                  refine wpAnyH_next (i := 15) (by kernel_rfl) rfl (fun Kc hKc => ?_)
                  go_simp
                  refine hKc.out _ _ ⟨range10 z7, range10 p7, range10 q7⟩ (fun _ => ?_)
                  clear hKc Kc
                  try simp only [Act.put]
                  refine wpAnyH_next (i := 16) (by kernel_rfl) rfl (fun Kc hKc => ?_)
                  go_simp
                  refine hKc.out _ _ ⟨range10 z7, range10 p7, range10 q7⟩ (fun _ => ?_)
                  clear hKc Kc
                  try simp only [Act.put]
                  refine wpAnyH_take (i := 17) (v := .string s2) rfl (by kernel_rfl) (by kernel_rfl) (by kernel_rfl) (fun _ _ _ h => h) (Or.inl ⟨by rfl, fun w hSw => by go_simp⟩) ⟨range10 z7, range10 p7, range10 q7⟩ ?_
                  simp only [Act.put]
                  refine wpAnyH_take (i := 18) (v := .string s2) rfl (by kernel_rfl) (by kernel_rfl) (by kernel_rfl) (fun _ _ _ h => h) (Or.inl ⟨by rfl, fun w hSw => by go_simp⟩) ⟨range10 z7, range10 p7, range10 q7⟩ ?_
                  simp only [Act.put]
                  refine wpAnyH_next (i := 19) (by kernel_rfl) rfl (fun Kc hKc => ?_)
                  go_simp
                  refine hKc.out _ _ ⟨range10 z7, range10 p7, range10 q7⟩ (fun _ => ?_)
                  clear hKc Kc
                  try simp only [Act.put]
                  refine wpAnyH_next (i := 20) (by kernel_rfl) rfl (fun Kc hKc => ?_)
                  go_simp
                  refine hKc.out _ _ ⟨range10 z7, range10 p7, range10 q7⟩ (fun _ => ?_)
                  clear hKc Kc
                  try simp only [Act.put]
                  refine wpAnyH_next (i := 21) (by kernel_rfl) rfl (fun Kc hKc => ?_)
                  go_simp
                  refine hKc.out _ _ ⟨range10 z7, range10 p7, range10 q7⟩ (fun _ => ?_)
                  clear hKc Kc
                  try simp only [Act.put]
                  refine wpAnyH_take (i := 22) (v := .int .i64 e2) rfl (by kernel_rfl) (by kernel_rfl) (by kernel_rfl) (fun _ _ _ h => h) (Or.inl ⟨by rfl, fun w hSw => by go_simp⟩) ⟨range10 z7, range10 p7, range10 q7⟩ ?_
                  simp only [Act.put]
                  refine wpAnyH_take (i := 23) (v := .int .i64 e2) rfl (by kernel_rfl) (by kernel_rfl) (by kernel_rfl) (fun _ _ _ h => h) (Or.inl ⟨by rfl, fun w hSw => by go_simp⟩) ⟨range10 z7, range10 p7, range10 q7⟩ ?_
                  simp only [Act.put]
                  refine wpAnyH_next (i := 24) (by kernel_rfl) rfl (fun Kc hKc => ?_)
                  go_simp
                  refine hKc.out _ _ ⟨range10 z7, range10 p7, range10 q7⟩ (fun _ => ?_)
                  clear hKc Kc
                  try simp only [Act.put]
                  refine wpAnyH_next (i := 25) (by kernel_rfl) rfl (fun Kc hKc => ?_)
                  go_simp
                  refine hKc.out _ _ ⟨range10 z7, range10 p7, range10 q7⟩ (fun _ => ?_)
                  clear hKc Kc
                  try simp only [Act.put]
                  refine wpAnyH_done (by kernel_rfl) ?_ _
                  go_wp2
                  go_roundw
                  case rel => exact ⟨j + 1, by omega, by go_num, L7, hB7⟩
                  case measure => simp [intOf]; omega
              · have hj2 : ¬ (j : Int) < 5 := by omega
                go_wp2_with fail
                refine (sum_ok X _ (hT.below hB hT.two) (by omega)).mono ?_
                rintro e v1 ⟨rfl, hb⟩
                have hB1 : Below w.heap.size w v1 := hB.trans (hb.mono hB.size)
                clear hb hB iL
                go_wp2_with fail
                refine (rsum_ok X _ (by omega)).mono ?_
                rintro e v2 ⟨rfl, hb⟩
                have hB2 : Below w.heap.size w v2 := hB1.trans (hb.mono hB1.size)
                clear hb hB1
                generalize endS (addH Hs0 X) = es
                go_wp2
                go_ret
                exact ⟨rfl, hB2⟩
end Go.Proofs.YtcpkkicpkmjagaaDoor
