/-
  MacLong: the walk of the statement's function.
-/
import Derived.Test.YtcpkkicpkmjagaaDoorMacK
import Derived.Test.YtcpkkicpkmjagaaDoorMacZ
import Derived.Deep.DeepCutAuto
namespace Go.Proofs.YtcpkkicpkmjagaaDoor
open Go.RowKit

theorem mac_zero (A : Nat) (hA : A ≤ 1002) : ∃ (s : ByteArray) (e : Int), (∀ w, Tab w → Calls Tryd.prog 27 #[.string (zerosB A), .string ⟨#[120]⟩] w fun x w' => x = .returned (.tuple #[.string s, .int .i64 e]) ∧ Below w.heap.size w w') ∧ ((A ≤ 1000 ∧ e = 0) ∨ (1000 < A ∧ e = 1)) := by
  by_cases h : A ≤ 1000
  · exact ⟨_, 0, fun w hT => mac_ok (zerosB A) ⟨#[120]⟩ w hT (by rw [zerosB_size]; exact h) (by decide), .inl ⟨h, rfl⟩⟩
  · exact ⟨_, 1, fun w _ => (mac_arg (zerosB A) ⟨#[120]⟩ w (by rw [zerosB_size]; omega)).mono fun _ _ ⟨h1, h2⟩ => ⟨h1, h2 ▸ Below.refl _ _⟩, .inr ⟨by omega, rfl⟩⟩
theorem derive_zero (A B : Nat) (hA : A ≤ 1002) (hB : B ≤ 1002) : ∃ (s : ByteArray) (e : Int), (∀ w, Tab w → Calls Tryd.prog 29 #[.string (zerosB A), .string (zerosB B), .int .i64 3] w fun x w' => x = .returned (.tuple #[.string s, .int .i64 e]) ∧ Below w.heap.size w w') ∧ ((A ≤ 1000 ∧ B ≤ 1000 ∧ e = 0) ∨ ((1000 < A ∨ 1000 < B) ∧ e = 1)) := by
  by_cases h : A ≤ 1000 ∧ B ≤ 1000
  · exact ⟨_, 0, fun w hT => derive_ok (zerosB A) (zerosB B) 3 w hT (by rw [zerosB_size]; exact h.1) (by rw [zerosB_size]; exact h.2) (by decide), .inl ⟨h.1, h.2, rfl⟩⟩
  · exact ⟨_, 1, fun w _ => (derive_arg (zerosB A) (zerosB B) 3 w (by simp only [drvB, zerosB_size, Bool.and_eq_false_iff, decide_eq_false_iff_not]; omega)).mono fun _ _ ⟨h1, h2⟩ => ⟨h1, h2 ▸ Below.refl _ _⟩, .inr ⟨by omega, rfl⟩⟩
theorem derive_c (C : Nat) (hC : C ≤ 5000) : ∃ (s : ByteArray) (e : Int), (∀ w, Tab w → Calls Tryd.prog 29 #[.string ⟨#[107, 101, 121]⟩, .string ⟨#[110, 97, 109, 101]⟩, .int .i64 (C : Int)] w fun x w' => x = .returned (.tuple #[.string s, .int .i64 e]) ∧ Below w.heap.size w w') ∧ ((C ≤ 4096 ∧ e = 0 ∧ s.size = C) ∨ (4096 < C ∧ e = 1 ∧ s = ⟨#[]⟩)) := by
  by_cases h : C ≤ 4096
  · exact ⟨_, 0, fun w hT => derive_ok ⟨#[107, 101, 121]⟩ ⟨#[110, 97, 109, 101]⟩ C w hT (by decide) (by decide) h, .inl ⟨h, rfl, drv_size _ _ _⟩⟩
  · exact ⟨_, 1, fun w _ => (derive_arg ⟨#[107, 101, 121]⟩ ⟨#[110, 97, 109, 101]⟩ (C : Int) w (by simp only [drvB, Bool.and_eq_false_iff, decide_eq_false_iff_not]; omega)).mono fun _ _ ⟨h1, h2⟩ => ⟨h1, h2 ▸ Below.refl _ _⟩, .inr ⟨by omega, rfl, rfl⟩⟩

set_option maxRecDepth 100000 in
set_option maxHeartbeats 1000000 in
theorem mlong_walk (k m n : Int) (w : World) (hT : Tab w) (hk : -9223372036854775808 ≤ k ∧ k ≤ 9223372036854775807) (hm : -9223372036854775808 ≤ m ∧ m ≤ 9223372036854775807) (hn : -9223372036854775808 ≤ n ∧ n ≤ 9223372036854775807) :
    Calls Tryd.prog 9 #[.int .i64 k, .int .i64 m, .int .i64 n] w fun e w' => e = .returned (.bool true) ∧ Below w.heap.size w w' := by
  have bk := pickN_bd k 5 (by decide)
  have bm := pickN_bd m 5 (by decide)
  have bn := pickN_bd n 5 (by decide)
  obtain ⟨A, hA⟩ : ∃ A : Nat, 998 + pickN k 5 = (A : Int) := ⟨(998 + pickN k 5).toNat, by omega⟩
  obtain ⟨B, hB⟩ : ∃ B : Nat, 998 + pickN m 5 = (B : Int) := ⟨(998 + pickN m 5).toNat, by omega⟩
  obtain ⟨C, hC⟩ : ∃ C : Nat, 4094 + pickN n 5 = (C : Int) := ⟨(4094 + pickN n 5).toNat, by omega⟩
  have hA2 : A ≤ 1002 := by omega
  have hBs : B ≤ 1002 := by omega
  have hC2 : C ≤ 5000 := by omega
  obtain ⟨sA, eA, cA, oA⟩ := mac_zero A hA2
  obtain ⟨sF, eF, cF, oF⟩ := derive_zero A B hA2 hBs
  obtain ⟨sG, eG, cG, oG⟩ := derive_c C hC2
  have CA := Lib.hid cA
  have CF := Lib.hid cF
  have CG := Lib.hid cG
  have OA := Lib.hid oA
  have OF := Lib.hid oF
  have OG := Lib.hid oG
  clear cA cF cG oA oF oG
  have mkA : ∀ W : World, (Instr.makeSlice 42 (.int .i64 (A : Int)) (.int .i64 (A : Int))).run Tryd.prog W = .ok (.slice (some ⟨W.heap.size, 0, none⟩) A A) (W.alloc (.cells (zcells A) 5)) := fun W => run_make0 W A (by omega)
  have mkB : ∀ W : World, (Instr.makeSlice 42 (.int .i64 (B : Int)) (.int .i64 (B : Int))).run Tryd.prog W = .ok (.slice (some ⟨W.heap.size, 0, none⟩) B B) (W.alloc (.cells (zcells B) 5)) := fun W => run_make0 W B (by omega)
  go_enter Tryd.func9, Tryd.ntmps9
  go_wp2_with fail
  refine (awake2_any _ hT).mono ?_
  rintro e w1 ⟨rfl, hB1⟩
  have cv1 := run_conv0 (Is.new w1 5 (zcells A))
  go_wp2_with fail
  refine (pick2_any k 5 _ hk.1 hk.2 (by decide) (by decide)).mono ?_
  rintro e w' ⟨rfl, rfl⟩
  go_wp2_with fail
  refine (pick2_any m 5 _ hm.1 hm.2 (by decide) (by decide)).mono ?_
  rintro e w' ⟨rfl, rfl⟩
  go_wp2_with fail
  refine (pick2_any n 5 _ hn.1 hn.2 (by decide) (by decide)).mono ?_
  rintro e w' ⟨rfl, rfl⟩
  go_wp2_with fail
  have hB1' := hB1.alloc hB1.size (.cells (zcells A) 5)
  refine (CA.out _ (hT.below hB1' hT.two)).mono ?_
  rintro e w2 ⟨rfl, hb2⟩
  have hB2 : Below w.heap.size w w2 := hB1'.trans (hb2.mono hB1'.size)
  clear hb2 hB1' hB1 cv1
  have c1 := run_conv0 (W := (w2.alloc (.cells (zcells A) 5)).drew) (Is.new w2 5 (zcells A))
  have c2 := run_conv0 (W := ((w2.alloc (.cells (zcells A) 5)).alloc (.cells (zcells B) 5)).drew) ((Is.new w2 5 (zcells A)).alloc _)
  have c3 := run_conv0 (W := ((w2.alloc (.cells (zcells A) 5)).alloc (.cells (zcells B) 5)).drew) (g := w2.heap.size + 1) (n := B) (heap_alloc2_new w2 _ _)
  have c4 := run_conv0 (W := (w2.alloc (.cells (zcells B) 5)).drew) (Is.new w2 5 (zcells B))
  have c5 := run_conv0 (W := ((w2.alloc (.cells (zcells B) 5)).alloc (.cells (zcells A) 5)).drew) ((Is.new w2 5 (zcells B)).alloc _)
  have c6 := run_conv0 (W := ((w2.alloc (.cells (zcells B) 5)).alloc (.cells (zcells A) 5)).drew) (g := w2.heap.size + 1) (n := A) (heap_alloc2_new w2 _ _)
  have hBa := belowN ((hB2.alloc hB2.size (.cells (zcells A) 5)).alloc (Nat.le_trans hB2.size (by simp)) (.cells (zcells B) 5)) 1
  have hBb := belowN ((hB2.alloc hB2.size (.cells (zcells B) 5)).alloc (Nat.le_trans hB2.size (by simp)) (.cells (zcells A) 5)) 1
  go_wp2
  go_cut [13, 14] (fun s e W => s = .string sF ∧ e = .int .i64 eF ∧ Below w.heap.size w W)
  case first =>
    go_region_with (go_at_call 29; refine (CF.out _ (hT.below (belowN ((hB2.alloc hB2.size _).alloc (Nat.le_trans hB2.size (by simp)) _) 1) hT.two)).mono ?_; rintro e w3 ⟨rfl, hb3⟩; have hB3 : Below w.heap.size w w3 := (by first | exact hBa.trans (hb3.mono hBa.size) | exact hBb.trans (hb3.mono hBb.size)))
    all_goals go_wp2_with fail
    all_goals go_meet
    all_goals exact ⟨rfl, rfl, hB3⟩
  case rest =>
    clear hBa hBb c1 c2 c3 c4 c5 c6 hB2 mkA mkB
    obtain ⟨rfl, rfl, hB3⟩ := hcut
    go_wp2_with fail
    refine (CG.out _ (hT.below hB3 hT.two)).mono ?_
    rintro e w4 ⟨rfl, hb4⟩
    have hB4 : Below w.heap.size w w4 := hB3.trans (hb4.mono hB3.size)
    clear hb4 hB3 hA hB hC
    have oA := OA.out
    have oF := OF.out
    have oG := OG.out
    rcases oA with ⟨a1, rfl⟩ | ⟨a1, rfl⟩
    · have x1 : decide ((A : Int) ≤ 1000) = true := by simp; omega
      rcases oF with ⟨_, b1, rfl⟩ | ⟨b1, rfl⟩
      · have x2 : decide ((B : Int) ≤ 1000) = true := by simp; omega
        rcases oG with ⟨g1, rfl, g2⟩ | ⟨g1, rfl, rfl⟩
        · have x3 : decide ((C : Int) ≤ 4096) = true := by simp; omega
          have x4 : ((sG.size : Int) == (C : Int)) = true := by rw [g2]; simp
          clear g2
          go_wp2
          go_ret
          exact ⟨rfl, hB4⟩
        · have x3 : decide ((C : Int) ≤ 4096) = false := by simp; omega
          go_wp2
          go_ret
          exact ⟨rfl, hB4⟩
      · have x2 : decide ((B : Int) ≤ 1000) = false := by simp; omega
        rcases oG with ⟨g1, rfl, g2⟩ | ⟨g1, rfl, rfl⟩
        · have x3 : decide ((C : Int) ≤ 4096) = true := by simp; omega
          have x4 : ((sG.size : Int) == (C : Int)) = true := by rw [g2]; simp
          clear g2
          go_wp2
          go_ret
          exact ⟨rfl, hB4⟩
        · have x3 : decide ((C : Int) ≤ 4096) = false := by simp; omega
          go_wp2
          go_ret
          exact ⟨rfl, hB4⟩
    · have x1 : decide ((A : Int) ≤ 1000) = false := by simp; omega
      rcases oF with ⟨b1, _, rfl⟩ | ⟨b1, rfl⟩
      · omega
      · rcases oG with ⟨g1, rfl, g2⟩ | ⟨g1, rfl, rfl⟩
        · have x3 : decide ((C : Int) ≤ 4096) = true := by simp; omega
          have x4 : ((sG.size : Int) == (C : Int)) = true := by rw [g2]; simp
          clear g2
          go_wp2
          go_ret
          exact ⟨rfl, hB4⟩
        · have x3 : decide ((C : Int) ≤ 4096) = false := by simp; omega
          go_wp2
          go_ret
          exact ⟨rfl, hB4⟩
end Go.Proofs.YtcpkkicpkmjagaaDoor
