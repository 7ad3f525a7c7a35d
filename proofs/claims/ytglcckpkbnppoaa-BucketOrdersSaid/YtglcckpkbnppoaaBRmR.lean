/-
  BucketRoom: what is done in regions that draw their order.
-/
import Derived.Test.YtglcckpkbnppoaaBuzD
import Derived.Test.YtglcckpkbnppoaaBuzE
namespace Go.Proofs.Ytglcckpkbnppoaa
open Go.RowKit Go.Shelf

set_option maxRecDepth 100000 in
set_option maxHeartbeats 4000000 in
theorem rm12_6 (W0 : World) (D1 : Nat) (s t : Sto12) (A : Option Addr) (c : Nat) (bR oR len cp k : Nat) (z : Int) (l x : ByteArray) (ev : Int) (i1 : Is W0 D1 31 (stoA s A c)) (hbl : bR < W0.heap.size) (hcl : W0.cell? ⟨bR, oR + k, none⟩ = some (.int .i64 z)) (hk : k < len) (HLb : Hid (∀ W, Calls Try.prog 23 #[.int .i64 z] W fun e w' => e = .returned (.string l) ∧ Below W.heap.size W w')) (HC : Hid (∀ W, Calls Try.prog 24 #[.int .i64 (k : Int)] W fun e w' => e = .returned (.string x) ∧ Below W.heap.size W w')) (HP : Hid (∀ W, Below W0.heap.size W0 W → Calls Try.prog 25 #[stoV s A c, .string l, .string x] W fun e w' => ∃ A1 c1, e = .returned (.tuple #[stoV t A1 c1, .int .i64 ev]) ∧ InS w' t A1 c1 ∧ Below W.heap.size W w')) (x1 x2 x3 x5 x7 x8 x9 x10 x11 x12 x13 x14 x15 x16 x17 x18 x19 x20 x21 x22 x23 x24 x25 x26 x27 x28 x29 x30 x31 x32 x33 x34 x35 x36 x37 x38 x39 x40 x41 x42 x43 x44 x45 x46 x47 x48 x49 x50 x51 x52 x53 x54 x55 x56 x57 x58 x59 x60 x61 x62 x63 x64 x65 x66 x67 x68 x69 x70 x71 x72 x73 x74 x75 x76 x77 x78 x79 x80 x81 x82 x83 x84 x85 x86 x87 : Value) :
    (Code.region 6 (opsOf Try.f6 6) true).wp Try.prog (fun ex YY W => ex = .normal ∧ YY.defers = [] ∧ ∃ (AQ : Option Addr) (cQ : Nat) (DN : Nat), YY.tmps = #[.slice (some ⟨bR, oR, none⟩) len cp, x1, x2, x3, .pointer (some ⟨D1, 0, none⟩), x5, .int .i64 (k : Int), .pointer (some ⟨DN, 0, none⟩), .int .i64 ev, x9, x10, x11, x12, x13, x14, x15, x16, x17, x18, x19, x20, x21, x22, x23, x24, x25, x26, .tuple #[stoV t AQ cQ, .int .i64 ev], .agg (stoA s A c), .slice (some ⟨bR, oR, none⟩) len cp, .int .i64 (k : Int), .pointer (some ⟨bR, oR + k, none⟩), .int .i64 z, .string l, .int .i64 (k : Int), .string x, .tuple #[stoV t AQ cQ, .int .i64 ev], stoV t AQ cQ, .int .i64 ev, x39, x40, x41, x42, x43, x44, x45, x46, x47, x48, x49, x50, x51, x52, x53, x54, x55, x56, x57, x58, x59, x60, x61, x62, x63, x64, x65, x66, x67, x68, x69, x70, x71, x72, x73, x74, x75, x76, x77, x78, x79, x80, x81, x82, x83, x84, x85, x86, x87] ∧ Below W0.heap.size W0 W ∧ InS W t AQ cQ ∧ W0.heap.size ≤ DN ∧ Is W DN 31 (stoA t AQ cQ)) { tmps := #[.slice (some ⟨bR, oR, none⟩) len cp, x1, x2, x3, .pointer (some ⟨D1, 0, none⟩), x5, .int .i64 (k : Int), x7, x8, x9, x10, x11, x12, x13, x14, x15, x16, x17, x18, x19, x20, x21, x22, x23, x24, x25, x26, x27, x28, x29, x30, x31, x32, x33, x34, x35, x36, x37, x38, x39, x40, x41, x42, x43, x44, x45, x46, x47, x48, x49, x50, x51, x52, x53, x54, x55, x56, x57, x58, x59, x60, x61, x62, x63, x64, x65, x66, x67, x68, x69, x70, x71, x72, x73, x74, x75, x76, x77, x78, x79, x80, x81, x82, x83, x84, x85, x86, x87], defers := [] } W0 := by
  have hB : Below W0.heap.size W0 (W0.drewN 1) := belowN (Below.refl _ _) 1
  generalize hQ : (fun (ex : Exit) (YY : Act) (W : World) => ex = .normal ∧ YY.defers = [] ∧ ∃ (AQ : Option Addr) (cQ : Nat) (DN : Nat), YY.tmps = #[.slice (some ⟨bR, oR, none⟩) len cp, x1, x2, x3, .pointer (some ⟨D1, 0, none⟩), x5, .int .i64 (k : Int), .pointer (some ⟨DN, 0, none⟩), .int .i64 ev, x9, x10, x11, x12, x13, x14, x15, x16, x17, x18, x19, x20, x21, x22, x23, x24, x25, x26, .tuple #[stoV t AQ cQ, .int .i64 ev], .agg (stoA s A c), .slice (some ⟨bR, oR, none⟩) len cp, .int .i64 (k : Int), .pointer (some ⟨bR, oR + k, none⟩), .int .i64 z, .string l, .int .i64 (k : Int), .string x, .tuple #[stoV t AQ cQ, .int .i64 ev], stoV t AQ cQ, .int .i64 ev, x39, x40, x41, x42, x43, x44, x45, x46, x47, x48, x49, x50, x51, x52, x53, x54, x55, x56, x57, x58, x59, x60, x61, x62, x63, x64, x65, x66, x67, x68, x69, x70, x71, x72, x73, x74, x75, x76, x77, x78, x79, x80, x81, x82, x83, x84, x85, x86, x87] ∧ Below W0.heap.size W0 W ∧ InS W t AQ cQ ∧ W0.heap.size ≤ DN ∧ Is W DN 31 (stoA t AQ cQ)) = Q
  have HQN : ∀ c a W, ¬ Q (.panic c) a W := fun c a W h => by subst hQ; exact nomatch h.1
  have ST5_7_8_12_13 : ∀ (W : World) (AQ : Option Addr) (cQ : Nat) (DN : Nat), Below W0.heap.size W0 W → InS W t AQ cQ → W0.heap.size ≤ DN → Is W DN 31 (stoA t AQ cQ) → wpAnyH Try.prog .any (opsOf Try.f6 6) Q (fun W => Below W0.heap.size W0 W) 0 #[true, true, true, true, true, true, true, true, true, true, true, true, true, true, true] { tmps := #[.slice (some ⟨bR, oR, none⟩) len cp, x1, x2, x3, .pointer (some ⟨D1, 0, none⟩), x5, .int .i64 (k : Int), .pointer (some ⟨DN, 0, none⟩), .int .i64 ev, x9, x10, x11, x12, x13, x14, x15, x16, x17, x18, x19, x20, x21, x22, x23, x24, x25, x26, .tuple #[stoV t AQ cQ, .int .i64 ev], .agg (stoA s A c), .slice (some ⟨bR, oR, none⟩) len cp, .int .i64 (k : Int), .pointer (some ⟨bR, oR + k, none⟩), .int .i64 z, .string l, .int .i64 (k : Int), .string x, .tuple #[stoV t AQ cQ, .int .i64 ev], stoV t AQ cQ, .int .i64 ev, x39, x40, x41, x42, x43, x44, x45, x46, x47, x48, x49, x50, x51, x52, x53, x54, x55, x56, x57, x58, x59, x60, x61, x62, x63, x64, x65, x66, x67, x68, x69, x70, x71, x72, x73, x74, x75, x76, x77, x78, x79, x80, x81, x82, x83, x84, x85, x86, x87], defers := [] } W := by
    intro W AQ cQ DN hB hZ hD iN
    refine wpAnyH_done (by kernel_rfl) ?_ _
    subst hQ
    exact ⟨rfl, rfl, AQ, cQ, DN, rfl, hB, hZ, hD, iN⟩
  have ST5_7_8_12 : ∀ (W : World) (AQ : Option Addr) (cQ : Nat) (DN : Nat), Below W0.heap.size W0 W → InS W t AQ cQ → W0.heap.size ≤ DN → Is W DN 31 #[.slice none 0 0, .int .i64 0, .int .i64 0] → wpAnyH Try.prog .any (opsOf Try.f6 6) Q (fun W => Below W0.heap.size W0 W) 2 #[true, true, true, true, true, true, true, true, true, true, true, true, true, false, false] { tmps := #[.slice (some ⟨bR, oR, none⟩) len cp, x1, x2, x3, .pointer (some ⟨D1, 0, none⟩), x5, .int .i64 (k : Int), .pointer (some ⟨DN, 0, none⟩), x8, x9, x10, x11, x12, x13, x14, x15, x16, x17, x18, x19, x20, x21, x22, x23, x24, x25, x26, .tuple #[stoV t AQ cQ, .int .i64 ev], .agg (stoA s A c), .slice (some ⟨bR, oR, none⟩) len cp, .int .i64 (k : Int), .pointer (some ⟨bR, oR + k, none⟩), .int .i64 z, .string l, .int .i64 (k : Int), .string x, .tuple #[stoV t AQ cQ, .int .i64 ev], stoV t AQ cQ, .int .i64 ev, x39, x40, x41, x42, x43, x44, x45, x46, x47, x48, x49, x50, x51, x52, x53, x54, x55, x56, x57, x58, x59, x60, x61, x62, x63, x64, x65, x66, x67, x68, x69, x70, x71, x72, x73, x74, x75, x76, x77, x78, x79, x80, x81, x82, x83, x84, x85, x86, x87], defers := [] } W := by
    intro W AQ cQ DN hB hZ hD iN
    refine wpAnyH_ready (by kernel_rfl) (by simp) (AllReadyH.cons (i := 13) (at_nth rfl) ?_ (AllReadyH.nil))
    · have hone := stoA_one12 t AQ cQ
      replace hZ := hZ.far12 iN (stoA t AQ cQ)
      have iN2 := iN.row (stoA t AQ cQ)
      have hB2 := belowRow hB hD (stoA t AQ cQ)
      refine arm10_skip (w' := W.setRow DN (stoA t AQ cQ)) (by kernel_rfl) (run_row10 (x := .tmp 7) (y := .tmp 37) (by kernel_rfl) (by kernel_rfl) (by kernel_rfl) iN infoSto12 rfl hone) hB2 ?_
      simp only [Act.put]
      replace hB := hB2
      replace iN := iN2
      clear iN2 hB2 hone
      refine wpAnyH_pure (i := 14) (v := .int .i64 ev) (at_nth rfl) (by kernel_rfl) (by kernel_rfl) (by kernel_rfl) (fun _ _ _ h => absurd h (HQN _ _ _)) (by kernel_rfl) (fun w hSw => by kernel_rfl) hB ?_
      simp only [Act.put, List.setIfInBounds_toArray, List.set_cons_succ, List.set_cons_zero]
      exact ST5_7_8_12_13 _ _ _ _ hB hZ hD iN
  have ST5_7_8 : ∀ (W : World) (AQ : Option Addr) (cQ : Nat), Below W0.heap.size W0 W → InS W t AQ cQ → wpAnyH Try.prog .any (opsOf Try.f6 6) Q (fun W => Below W0.heap.size W0 W) 3 #[true, true, true, true, true, true, true, true, true, true, true, true, false, false, false] { tmps := #[.slice (some ⟨bR, oR, none⟩) len cp, x1, x2, x3, .pointer (some ⟨D1, 0, none⟩), x5, .int .i64 (k : Int), x7, x8, x9, x10, x11, x12, x13, x14, x15, x16, x17, x18, x19, x20, x21, x22, x23, x24, x25, x26, .tuple #[stoV t AQ cQ, .int .i64 ev], .agg (stoA s A c), .slice (some ⟨bR, oR, none⟩) len cp, .int .i64 (k : Int), .pointer (some ⟨bR, oR + k, none⟩), .int .i64 z, .string l, .int .i64 (k : Int), .string x, .tuple #[stoV t AQ cQ, .int .i64 ev], stoV t AQ cQ, .int .i64 ev, x39, x40, x41, x42, x43, x44, x45, x46, x47, x48, x49, x50, x51, x52, x53, x54, x55, x56, x57, x58, x59, x60, x61, x62, x63, x64, x65, x66, x67, x68, x69, x70, x71, x72, x73, x74, x75, x76, x77, x78, x79, x80, x81, x82, x83, x84, x85, x86, x87], defers := [] } W := by
    intro W AQ cQ hB hZ
    refine wpAnyH_ready (by kernel_rfl) (by simp) (AllReadyH.cons (i := 12) (at_nth rfl) ?_ (AllReadyH.nil))
    · have iN := Is.new W 31 #[.slice none 0 0, .int .i64 0, .int .i64 0]
      replace hZ := hZ.keep ((Below.refl _ _).alloc (Nat.le_refl _) (.cells #[.slice none 0 0, .int .i64 0, .int .i64 0] 31))
      have hD := hB.size
      replace hB := hB.alloc hB.size (.cells #[.slice none 0 0, .int .i64 0, .int .i64 0] 31)
      refine arm10_value (v := .pointer (some ⟨W.heap.size, 0, none⟩)) (w' := W.alloc (.cells #[.slice none 0 0, .int .i64 0, .int .i64 0] 31)) (by kernel_rfl) (by go_simp) hB ?_
      simp only [Act.put, List.setIfInBounds_toArray, List.set_cons_succ, List.set_cons_zero]
      exact ST5_7_8_12 _ _ _ _ hB hZ hD iN
  have ST5_7_12 : ∀ (W : World) (DN : Nat), Below W0.heap.size W0 W → W0.heap.size ≤ DN → Is W DN 31 #[.slice none 0 0, .int .i64 0, .int .i64 0] → wpAnyH Try.prog .any (opsOf Try.f6 6) Q (fun W => Below W0.heap.size W0 W) 6 #[true, true, true, true, true, true, true, true, false, false, false, false, true, false, false] { tmps := #[.slice (some ⟨bR, oR, none⟩) len cp, x1, x2, x3, .pointer (some ⟨D1, 0, none⟩), x5, .int .i64 (k : Int), .pointer (some ⟨DN, 0, none⟩), x8, x9, x10, x11, x12, x13, x14, x15, x16, x17, x18, x19, x20, x21, x22, x23, x24, x25, x26, x27, .agg (stoA s A c), .slice (some ⟨bR, oR, none⟩) len cp, .int .i64 (k : Int), .pointer (some ⟨bR, oR + k, none⟩), .int .i64 z, .string l, .int .i64 (k : Int), .string x, x36, x37, x38, x39, x40, x41, x42, x43, x44, x45, x46, x47, x48, x49, x50, x51, x52, x53, x54, x55, x56, x57, x58, x59, x60, x61, x62, x63, x64, x65, x66, x67, x68, x69, x70, x71, x72, x73, x74, x75, x76, x77, x78, x79, x80, x81, x82, x83, x84, x85, x86, x87], defers := [] } W := by
    intro W DN hB hD iN
    refine wpAnyH_ready (by kernel_rfl) (by simp) (AllReadyH.cons (i := 8) (at_nth rfl) ?_ (AllReadyH.nil))
    · refine arm10_call (by kernel_rfl) (fun wy => by kernel_rfl) ((HP.out _ hB).mono ?_)
      rintro e Wn ⟨AQ, cQ, rfl, hZ, hb⟩
      replace iN := iN.below hb iN.lt
      replace hB := hB.trans (hb.mono hB.size)
      clear hb
      refine ⟨_, rfl, hB, ?_⟩
      simp only [Act.put, List.setIfInBounds_toArray, List.set_cons_succ, List.set_cons_zero]
      refine wpAnyH_pure (i := 9) (v := .tuple #[stoV t AQ cQ, .int .i64 ev]) (at_nth rfl) (by kernel_rfl) (by kernel_rfl) (by kernel_rfl) (fun _ _ _ h => absurd h (HQN _ _ _)) (by kernel_rfl) (fun w hSw => by kernel_rfl) hB ?_
      simp only [Act.put, List.setIfInBounds_toArray, List.set_cons_succ, List.set_cons_zero]
      refine wpAnyH_pure (i := 10) (v := stoV t AQ cQ) (at_nth rfl) (by kernel_rfl) (by kernel_rfl) (by kernel_rfl) (fun _ _ _ h => absurd h (HQN _ _ _)) (by kernel_rfl) (fun w hSw => by kernel_rfl) hB ?_
      simp only [Act.put, List.setIfInBounds_toArray, List.set_cons_succ, List.set_cons_zero]
      refine wpAnyH_pure (i := 11) (v := .int .i64 ev) (at_nth rfl) (by kernel_rfl) (by kernel_rfl) (by kernel_rfl) (fun _ _ _ h => absurd h (HQN _ _ _)) (by kernel_rfl) (fun w hSw => by kernel_rfl) hB ?_
      simp only [Act.put, List.setIfInBounds_toArray, List.set_cons_succ, List.set_cons_zero]
      exact ST5_7_8_12 _ _ _ _ hB hZ hD iN
  have ST5_7 : ∀ (W : World), Below W0.heap.size W0 W → wpAnyH Try.prog .any (opsOf Try.f6 6) Q (fun W => Below W0.heap.size W0 W) 7 #[true, true, true, true, true, true, true, true, false, false, false, false, false, false, false] { tmps := #[.slice (some ⟨bR, oR, none⟩) len cp, x1, x2, x3, .pointer (some ⟨D1, 0, none⟩), x5, .int .i64 (k : Int), x7, x8, x9, x10, x11, x12, x13, x14, x15, x16, x17, x18, x19, x20, x21, x22, x23, x24, x25, x26, x27, .agg (stoA s A c), .slice (some ⟨bR, oR, none⟩) len cp, .int .i64 (k : Int), .pointer (some ⟨bR, oR + k, none⟩), .int .i64 z, .string l, .int .i64 (k : Int), .string x, x36, x37, x38, x39, x40, x41, x42, x43, x44, x45, x46, x47, x48, x49, x50, x51, x52, x53, x54, x55, x56, x57, x58, x59, x60, x61, x62, x63, x64, x65, x66, x67, x68, x69, x70, x71, x72, x73, x74, x75, x76, x77, x78, x79, x80, x81, x82, x83, x84, x85, x86, x87], defers := [] } W := by
    intro W hB
    refine wpAnyH_ready (by kernel_rfl) (by simp) (AllReadyH.cons (i := 8) (at_nth rfl) ?_ (AllReadyH.cons (i := 12) (at_nth rfl) ?_ (AllReadyH.nil)))
    · refine arm10_call (by kernel_rfl) (fun wy => by kernel_rfl) ((HP.out _ hB).mono ?_)
      rintro e Wn ⟨AQ, cQ, rfl, hZ, hb⟩
      replace hB := hB.trans (hb.mono hB.size)
      clear hb
      refine ⟨_, rfl, hB, ?_⟩
      simp only [Act.put, List.setIfInBounds_toArray, List.set_cons_succ, List.set_cons_zero]
      refine wpAnyH_pure (i := 9) (v := .tuple #[stoV t AQ cQ, .int .i64 ev]) (at_nth rfl) (by kernel_rfl) (by kernel_rfl) (by kernel_rfl) (fun _ _ _ h => absurd h (HQN _ _ _)) (by kernel_rfl) (fun w hSw => by kernel_rfl) hB ?_
      simp only [Act.put, List.setIfInBounds_toArray, List.set_cons_succ, List.set_cons_zero]
      refine wpAnyH_pure (i := 10) (v := stoV t AQ cQ) (at_nth rfl) (by kernel_rfl) (by kernel_rfl) (by kernel_rfl) (fun _ _ _ h => absurd h (HQN _ _ _)) (by kernel_rfl) (fun w hSw => by kernel_rfl) hB ?_
      simp only [Act.put, List.setIfInBounds_toArray, List.set_cons_succ, List.set_cons_zero]
      refine wpAnyH_pure (i := 11) (v := .int .i64 ev) (at_nth rfl) (by kernel_rfl) (by kernel_rfl) (by kernel_rfl) (fun _ _ _ h => absurd h (HQN _ _ _)) (by kernel_rfl) (fun w hSw => by kernel_rfl) hB ?_
      simp only [Act.put, List.setIfInBounds_toArray, List.set_cons_succ, List.set_cons_zero]
      exact ST5_7_8 _ _ _ hB hZ
    · have iN := Is.new W 31 #[.slice none 0 0, .int .i64 0, .int .i64 0]
      have hD := hB.size
      replace hB := hB.alloc hB.size (.cells #[.slice none 0 0, .int .i64 0, .int .i64 0] 31)
      refine arm10_value (v := .pointer (some ⟨W.heap.size, 0, none⟩)) (w' := W.alloc (.cells #[.slice none 0 0, .int .i64 0, .int .i64 0] 31)) (by kernel_rfl) (by go_simp) hB ?_
      simp only [Act.put, List.setIfInBounds_toArray, List.set_cons_succ, List.set_cons_zero]
      exact ST5_7_12 _ _ hB hD iN
  have ST5_12 : ∀ (W : World) (DN : Nat), Below W0.heap.size W0 W → W0.heap.size ≤ DN → Is W DN 31 #[.slice none 0 0, .int .i64 0, .int .i64 0] → wpAnyH Try.prog .any (opsOf Try.f6 6) Q (fun W => Below W0.heap.size W0 W) 7 #[true, true, true, true, true, true, true, false, false, false, false, false, true, false, false] { tmps := #[.slice (some ⟨bR, oR, none⟩) len cp, x1, x2, x3, .pointer (some ⟨D1, 0, none⟩), x5, .int .i64 (k : Int), .pointer (some ⟨DN, 0, none⟩), x8, x9, x10, x11, x12, x13, x14, x15, x16, x17, x18, x19, x20, x21, x22, x23, x24, x25, x26, x27, .agg (stoA s A c), .slice (some ⟨bR, oR, none⟩) len cp, .int .i64 (k : Int), .pointer (some ⟨bR, oR + k, none⟩), .int .i64 z, .string l, .int .i64 (k : Int), x35, x36, x37, x38, x39, x40, x41, x42, x43, x44, x45, x46, x47, x48, x49, x50, x51, x52, x53, x54, x55, x56, x57, x58, x59, x60, x61, x62, x63, x64, x65, x66, x67, x68, x69, x70, x71, x72, x73, x74, x75, x76, x77, x78, x79, x80, x81, x82, x83, x84, x85, x86, x87], defers := [] } W := by
    intro W DN hB hD iN
    refine wpAnyH_ready (by kernel_rfl) (by simp) (AllReadyH.cons (i := 7) (at_nth rfl) ?_ (AllReadyH.nil))
    · refine arm10_call (by kernel_rfl) (fun wy => by kernel_rfl) ((HC.out _).mono ?_)
      rintro e Wn ⟨rfl, hb⟩
      replace iN := iN.below hb iN.lt
      replace hB := hB.trans (hb.mono hB.size)
      clear hb
      refine ⟨_, rfl, hB, ?_⟩
      simp only [Act.put, List.setIfInBounds_toArray, List.set_cons_succ, List.set_cons_zero]
      exact ST5_7_12 _ _ hB hD iN
  have ST5 : ∀ (W : World), Below W0.heap.size W0 W → wpAnyH Try.prog .any (opsOf Try.f6 6) Q (fun W => Below W0.heap.size W0 W) 8 #[true, true, true, true, true, true, true, false, false, false, false, false, false, false, false] { tmps := #[.slice (some ⟨bR, oR, none⟩) len cp, x1, x2, x3, .pointer (some ⟨D1, 0, none⟩), x5, .int .i64 (k : Int), x7, x8, x9, x10, x11, x12, x13, x14, x15, x16, x17, x18, x19, x20, x21, x22, x23, x24, x25, x26, x27, .agg (stoA s A c), .slice (some ⟨bR, oR, none⟩) len cp, .int .i64 (k : Int), .pointer (some ⟨bR, oR + k, none⟩), .int .i64 z, .string l, .int .i64 (k : Int), x35, x36, x37, x38, x39, x40, x41, x42, x43, x44, x45, x46, x47, x48, x49, x50, x51, x52, x53, x54, x55, x56, x57, x58, x59, x60, x61, x62, x63, x64, x65, x66, x67, x68, x69, x70, x71, x72, x73, x74, x75, x76, x77, x78, x79, x80, x81, x82, x83, x84, x85, x86, x87], defers := [] } W := by
    intro W hB
    refine wpAnyH_ready (by kernel_rfl) (by simp) (AllReadyH.cons (i := 7) (at_nth rfl) ?_ (AllReadyH.cons (i := 12) (at_nth rfl) ?_ (AllReadyH.nil)))
    · refine arm10_call (by kernel_rfl) (fun wy => by kernel_rfl) ((HC.out _).mono ?_)
      rintro e Wn ⟨rfl, hb⟩
      replace hB := hB.trans (hb.mono hB.size)
      clear hb
      refine ⟨_, rfl, hB, ?_⟩
      simp only [Act.put, List.setIfInBounds_toArray, List.set_cons_succ, List.set_cons_zero]
      exact ST5_7 _ hB
    · have iN := Is.new W 31 #[.slice none 0 0, .int .i64 0, .int .i64 0]
      have hD := hB.size
      replace hB := hB.alloc hB.size (.cells #[.slice none 0 0, .int .i64 0, .int .i64 0] 31)
      refine arm10_value (v := .pointer (some ⟨W.heap.size, 0, none⟩)) (w' := W.alloc (.cells #[.slice none 0 0, .int .i64 0, .int .i64 0] 31)) (by kernel_rfl) (by go_simp) hB ?_
      simp only [Act.put, List.setIfInBounds_toArray, List.set_cons_succ, List.set_cons_zero]
      exact ST5_12 _ _ hB hD iN
  have ST12 : ∀ (W : World) (DN : Nat), Below W0.heap.size W0 W → W0.heap.size ≤ DN → Is W DN 31 #[.slice none 0 0, .int .i64 0, .int .i64 0] → wpAnyH Try.prog .any (opsOf Try.f6 6) Q (fun W => Below W0.heap.size W0 W) 8 #[true, true, true, true, true, false, true, false, false, false, false, false, true, false, false] { tmps := #[.slice (some ⟨bR, oR, none⟩) len cp, x1, x2, x3, .pointer (some ⟨D1, 0, none⟩), x5, .int .i64 (k : Int), .pointer (some ⟨DN, 0, none⟩), x8, x9, x10, x11, x12, x13, x14, x15, x16, x17, x18, x19, x20, x21, x22, x23, x24, x25, x26, x27, .agg (stoA s A c), .slice (some ⟨bR, oR, none⟩) len cp, .int .i64 (k : Int), .pointer (some ⟨bR, oR + k, none⟩), .int .i64 z, x33, .int .i64 (k : Int), x35, x36, x37, x38, x39, x40, x41, x42, x43, x44, x45, x46, x47, x48, x49, x50, x51, x52, x53, x54, x55, x56, x57, x58, x59, x60, x61, x62, x63, x64, x65, x66, x67, x68, x69, x70, x71, x72, x73, x74, x75, x76, x77, x78, x79, x80, x81, x82, x83, x84, x85, x86, x87], defers := [] } W := by
    intro W DN hB hD iN
    refine wpAnyH_ready (by kernel_rfl) (by simp) (AllReadyH.cons (i := 5) (at_nth rfl) ?_ (AllReadyH.nil))
    · refine arm10_call (by kernel_rfl) (fun wy => by kernel_rfl) ((HLb.out _).mono ?_)
      rintro e Wn ⟨rfl, hb⟩
      replace iN := iN.below hb iN.lt
      replace hB := hB.trans (hb.mono hB.size)
      clear hb
      refine ⟨_, rfl, hB, ?_⟩
      simp only [Act.put, List.setIfInBounds_toArray, List.set_cons_succ, List.set_cons_zero]
      exact ST5_12 _ _ hB hD iN
  have ST : ∀ (W : World), Below W0.heap.size W0 W → wpAnyH Try.prog .any (opsOf Try.f6 6) Q (fun W => Below W0.heap.size W0 W) 9 #[true, true, true, true, true, false, true, false, false, false, false, false, false, false, false] { tmps := #[.slice (some ⟨bR, oR, none⟩) len cp, x1, x2, x3, .pointer (some ⟨D1, 0, none⟩), x5, .int .i64 (k : Int), x7, x8, x9, x10, x11, x12, x13, x14, x15, x16, x17, x18, x19, x20, x21, x22, x23, x24, x25, x26, x27, .agg (stoA s A c), .slice (some ⟨bR, oR, none⟩) len cp, .int .i64 (k : Int), .pointer (some ⟨bR, oR + k, none⟩), .int .i64 z, x33, .int .i64 (k : Int), x35, x36, x37, x38, x39, x40, x41, x42, x43, x44, x45, x46, x47, x48, x49, x50, x51, x52, x53, x54, x55, x56, x57, x58, x59, x60, x61, x62, x63, x64, x65, x66, x67, x68, x69, x70, x71, x72, x73, x74, x75, x76, x77, x78, x79, x80, x81, x82, x83, x84, x85, x86, x87], defers := [] } W := by
    intro W hB
    refine wpAnyH_ready (by kernel_rfl) (by simp) (AllReadyH.cons (i := 5) (at_nth rfl) ?_ (AllReadyH.cons (i := 12) (at_nth rfl) ?_ (AllReadyH.nil)))
    · refine arm10_call (by kernel_rfl) (fun wy => by kernel_rfl) ((HLb.out _).mono ?_)
      rintro e Wn ⟨rfl, hb⟩
      replace hB := hB.trans (hb.mono hB.size)
      clear hb
      refine ⟨_, rfl, hB, ?_⟩
      simp only [Act.put, List.setIfInBounds_toArray, List.set_cons_succ, List.set_cons_zero]
      exact ST5 _ hB
    · have iN := Is.new W 31 #[.slice none 0 0, .int .i64 0, .int .i64 0]
      have hD := hB.size
      replace hB := hB.alloc hB.size (.cells #[.slice none 0 0, .int .i64 0, .int .i64 0] 31)
      refine arm10_value (v := .pointer (some ⟨W.heap.size, 0, none⟩)) (w' := W.alloc (.cells #[.slice none 0 0, .int .i64 0, .int .i64 0] 31)) (by kernel_rfl) (by go_simp) hB ?_
      simp only [Act.put, List.setIfInBounds_toArray, List.set_cons_succ, List.set_cons_zero]
      exact ST12 _ _ hB hD iN
  refine wp_region_held_drew (S := fun W => Below W0.heap.size W0 W) (by kernel_rfl) hB (fun hS => ?_)
  change wpAnyH _ _ (opsOf Try.f6 6) _ _ 15 (Array.replicate 15 false) _ (W0.drewN 1)
  clear hS
  replace hB : Below W0.heap.size W0 (W0.drewN 1) := belowN (Below.refl _ _) 1
  refine wpAnyH_pure (i := 0) (v := .agg (stoA s A c)) (at_nth rfl) (by kernel_rfl) (by kernel_rfl) (by kernel_rfl) (fun _ _ _ h => absurd h (HQN _ _ _)) (by kernel_rfl) (fun w hSw => by exact run_load_rowO (x := .tmp 4) (by kernel_rfl) (by kernel_rfl) (i1.below hSw i1.lt) Try.underlying31 rfl infoSto12) hB ?_
  simp only [Act.put, List.setIfInBounds_toArray, List.set_cons_succ, List.set_cons_zero]
  refine wpAnyH_pure (i := 1) (v := .slice (some ⟨bR, oR, none⟩) len cp) (at_nth rfl) (by kernel_rfl) (by kernel_rfl) (by kernel_rfl) (fun _ _ _ h => absurd h (HQN _ _ _)) (by kernel_rfl) (fun w hSw => by kernel_rfl) hB ?_
  simp only [Act.put, List.setIfInBounds_toArray, List.set_cons_succ, List.set_cons_zero]
  refine wpAnyH_pure (i := 2) (v := .int .i64 (k : Int)) (at_nth rfl) (by kernel_rfl) (by kernel_rfl) (by kernel_rfl) (fun _ _ _ h => absurd h (HQN _ _ _)) (by kernel_rfl) (fun w hSw => by kernel_rfl) hB ?_
  simp only [Act.put, List.setIfInBounds_toArray, List.set_cons_succ, List.set_cons_zero]
  refine wpAnyH_pure (i := 3) (v := .pointer (some ⟨bR, oR + k, none⟩)) (at_nth rfl) (by kernel_rfl) (by kernel_rfl) (by kernel_rfl) (fun _ _ _ h => absurd h (HQN _ _ _)) (by kernel_rfl) (fun w hSw => by have hk' := hk; go_simp) hB ?_
  simp only [Act.put, List.setIfInBounds_toArray, List.set_cons_succ, List.set_cons_zero]
  refine wpAnyH_pure (i := 4) (v := .int .i64 z) (at_nth rfl) (by kernel_rfl) (by kernel_rfl) (by kernel_rfl) (fun _ _ _ h => absurd h (HQN _ _ _)) (by kernel_rfl) (fun w hSw => by (have hc := cell_below12 hSw hcl hbl; go_simp)) hB ?_
  simp only [Act.put, List.setIfInBounds_toArray, List.set_cons_succ, List.set_cons_zero]
  refine wpAnyH_pure (i := 6) (v := .int .i64 (k : Int)) (at_nth rfl) (by kernel_rfl) (by kernel_rfl) (by kernel_rfl) (fun _ _ _ h => absurd h (HQN _ _ _)) (by kernel_rfl) (fun w hSw => by kernel_rfl) hB ?_
  simp only [Act.put, List.setIfInBounds_toArray, List.set_cons_succ, List.set_cons_zero]
  exact ST _ hB

set_option maxRecDepth 100000 in
set_option maxHeartbeats 4000000 in
theorem rm12_7 (W0 : World) (D1 : Nat) (s t : Sto12) (A : Option Addr) (c : Nat) (bR oR len cp k : Nat) (z : Int) (l : ByteArray) (was : Bool) (ev : Int) (i1 : Is W0 D1 31 (stoA s A c)) (hbl : bR < W0.heap.size) (hcl : W0.cell? ⟨bR, oR + k, none⟩ = some (.int .i64 z)) (hk : k < len) (HLb : Hid (∀ W, Calls Try.prog 23 #[.int .i64 z] W fun e w' => e = .returned (.string l) ∧ Below W.heap.size W w')) (HP : Hid (∀ W, Below W0.heap.size W0 W → Calls Try.prog 27 #[stoV s A c, .string l] W fun e w' => ∃ A1 c1, e = .returned (.tuple #[stoV t A1 c1, .bool was, .int .i64 ev]) ∧ InS w' t A1 c1 ∧ Below W.heap.size W w')) (x1 x2 x3 x4 x5 x8 x9 x10 x11 x12 x13 x14 x15 x16 x17 x18 x19 x20 x21 x22 x23 x24 x25 x26 x27 x28 x29 x30 x31 x32 x33 x34 x35 x36 x37 x38 x39 x40 x41 x42 x43 x44 x45 x46 x47 x48 x49 x50 x51 x52 x53 x54 x55 x56 x57 x58 x59 x60 x61 x62 x63 x64 x65 x66 x67 x68 x69 x70 x71 x72 x73 x74 x75 x76 x77 x78 x79 x80 x81 x82 x83 x84 x85 x86 x87 : Value) :
    (Code.region 7 (opsOf Try.f6 7) true).wp Try.prog (fun ex YY W => ex = .normal ∧ YY.defers = [] ∧ ∃ (AQ : Option Addr) (cQ : Nat) (DN : Nat), YY.tmps = #[.slice (some ⟨bR, oR, none⟩) len cp, x1, x2, x3, x4, x5, .int .i64 (k : Int), .pointer (some ⟨D1, 0, none⟩), x8, .pointer (some ⟨DN, 0, none⟩), .bool was, .int .i64 ev, x12, x13, x14, x15, x16, x17, x18, x19, x20, x21, x22, x23, x24, x25, x26, x27, x28, x29, x30, x31, x32, x33, x34, x35, x36, x37, x38, .tuple #[stoV t AQ cQ, .bool was, .int .i64 ev], .agg (stoA s A c), .slice (some ⟨bR, oR, none⟩) len cp, .int .i64 (k : Int), .pointer (some ⟨bR, oR + k, none⟩), .int .i64 z, .string l, .tuple #[stoV t AQ cQ, .bool was, .int .i64 ev], stoV t AQ cQ, .bool was, .int .i64 ev, x50, x51, x52, x53, x54, x55, x56, x57, x58, x59, x60, x61, x62, x63, x64, x65, x66, x67, x68, x69, x70, x71, x72, x73, x74, x75, x76, x77, x78, x79, x80, x81, x82, x83, x84, x85, x86, x87] ∧ Below W0.heap.size W0 W ∧ InS W t AQ cQ ∧ W0.heap.size ≤ DN ∧ Is W DN 31 (stoA t AQ cQ)) { tmps := #[.slice (some ⟨bR, oR, none⟩) len cp, x1, x2, x3, x4, x5, .int .i64 (k : Int), .pointer (some ⟨D1, 0, none⟩), x8, x9, x10, x11, x12, x13, x14, x15, x16, x17, x18, x19, x20, x21, x22, x23, x24, x25, x26, x27, x28, x29, x30, x31, x32, x33, x34, x35, x36, x37, x38, x39, x40, x41, x42, x43, x44, x45, x46, x47, x48, x49, x50, x51, x52, x53, x54, x55, x56, x57, x58, x59, x60, x61, x62, x63, x64, x65, x66, x67, x68, x69, x70, x71, x72, x73, x74, x75, x76, x77, x78, x79, x80, x81, x82, x83, x84, x85, x86, x87], defers := [] } W0 := by
  have hB : Below W0.heap.size W0 (W0.drewN 1) := belowN (Below.refl _ _) 1
  generalize hQ : (fun (ex : Exit) (YY : Act) (W : World) => ex = .normal ∧ YY.defers = [] ∧ ∃ (AQ : Option Addr) (cQ : Nat) (DN : Nat), YY.tmps = #[.slice (some ⟨bR, oR, none⟩) len cp, x1, x2, x3, x4, x5, .int .i64 (k : Int), .pointer (some ⟨D1, 0, none⟩), x8, .pointer (some ⟨DN, 0, none⟩), .bool was, .int .i64 ev, x12, x13, x14, x15, x16, x17, x18, x19, x20, x21, x22, x23, x24, x25, x26, x27, x28, x29, x30, x31, x32, x33, x34, x35, x36, x37, x38, .tuple #[stoV t AQ cQ, .bool was, .int .i64 ev], .agg (stoA s A c), .slice (some ⟨bR, oR, none⟩) len cp, .int .i64 (k : Int), .pointer (some ⟨bR, oR + k, none⟩), .int .i64 z, .string l, .tuple #[stoV t AQ cQ, .bool was, .int .i64 ev], stoV t AQ cQ, .bool was, .int .i64 ev, x50, x51, x52, x53, x54, x55, x56, x57, x58, x59, x60, x61, x62, x63, x64, x65, x66, x67, x68, x69, x70, x71, x72, x73, x74, x75, x76, x77, x78, x79, x80, x81, x82, x83, x84, x85, x86, x87] ∧ Below W0.heap.size W0 W ∧ InS W t AQ cQ ∧ W0.heap.size ≤ DN ∧ Is W DN 31 (stoA t AQ cQ)) = Q
  have HQN : ∀ c a W, ¬ Q (.panic c) a W := fun c a W h => by subst hQ; exact nomatch h.1
  have ST5_6_11_12 : ∀ (W : World) (AQ : Option Addr) (cQ : Nat) (DN : Nat), Below W0.heap.size W0 W → InS W t AQ cQ → W0.heap.size ≤ DN → Is W DN 31 (stoA t AQ cQ) → wpAnyH Try.prog .any (opsOf Try.f6 7) Q (fun W => Below W0.heap.size W0 W) 0 #[true, true, true, true, true, true, true, true, true, true, true, true, true, true, true] { tmps := #[.slice (some ⟨bR, oR, none⟩) len cp, x1, x2, x3, x4, x5, .int .i64 (k : Int), .pointer (some ⟨D1, 0, none⟩), x8, .pointer (some ⟨DN, 0, none⟩), .bool was, .int .i64 ev, x12, x13, x14, x15, x16, x17, x18, x19, x20, x21, x22, x23, x24, x25, x26, x27, x28, x29, x30, x31, x32, x33, x34, x35, x36, x37, x38, .tuple #[stoV t AQ cQ, .bool was, .int .i64 ev], .agg (stoA s A c), .slice (some ⟨bR, oR, none⟩) len cp, .int .i64 (k : Int), .pointer (some ⟨bR, oR + k, none⟩), .int .i64 z, .string l, .tuple #[stoV t AQ cQ, .bool was, .int .i64 ev], stoV t AQ cQ, .bool was, .int .i64 ev, x50, x51, x52, x53, x54, x55, x56, x57, x58, x59, x60, x61, x62, x63, x64, x65, x66, x67, x68, x69, x70, x71, x72, x73, x74, x75, x76, x77, x78, x79, x80, x81, x82, x83, x84, x85, x86, x87], defers := [] } W := by
    intro W AQ cQ DN hB hZ hD iN
    refine wpAnyH_done (by kernel_rfl) ?_ _
    subst hQ
    exact ⟨rfl, rfl, AQ, cQ, DN, rfl, hB, hZ, hD, iN⟩
  have ST5_6_11 : ∀ (W : World) (AQ : Option Addr) (cQ : Nat) (DN : Nat), Below W0.heap.size W0 W → InS W t AQ cQ → W0.heap.size ≤ DN → Is W DN 31 #[.slice none 0 0, .int .i64 0, .int .i64 0] → wpAnyH Try.prog .any (opsOf Try.f6 7) Q (fun W => Below W0.heap.size W0 W) 3 #[true, true, true, true, true, true, true, true, true, true, true, true, false, false, false] { tmps := #[.slice (some ⟨bR, oR, none⟩) len cp, x1, x2, x3, x4, x5, .int .i64 (k : Int), .pointer (some ⟨D1, 0, none⟩), x8, .pointer (some ⟨DN, 0, none⟩), x10, x11, x12, x13, x14, x15, x16, x17, x18, x19, x20, x21, x22, x23, x24, x25, x26, x27, x28, x29, x30, x31, x32, x33, x34, x35, x36, x37, x38, .tuple #[stoV t AQ cQ, .bool was, .int .i64 ev], .agg (stoA s A c), .slice (some ⟨bR, oR, none⟩) len cp, .int .i64 (k : Int), .pointer (some ⟨bR, oR + k, none⟩), .int .i64 z, .string l, .tuple #[stoV t AQ cQ, .bool was, .int .i64 ev], stoV t AQ cQ, .bool was, .int .i64 ev, x50, x51, x52, x53, x54, x55, x56, x57, x58, x59, x60, x61, x62, x63, x64, x65, x66, x67, x68, x69, x70, x71, x72, x73, x74, x75, x76, x77, x78, x79, x80, x81, x82, x83, x84, x85, x86, x87], defers := [] } W := by
    intro W AQ cQ DN hB hZ hD iN
    refine wpAnyH_ready (by kernel_rfl) (by simp) (AllReadyH.cons (i := 12) (at_nth rfl) ?_ (AllReadyH.nil))
    · have hone := stoA_one12 t AQ cQ
      replace hZ := hZ.far12 iN (stoA t AQ cQ)
      have iN2 := iN.row (stoA t AQ cQ)
      have hB2 := belowRow hB hD (stoA t AQ cQ)
      refine arm10_skip (w' := W.setRow DN (stoA t AQ cQ)) (by kernel_rfl) (run_row10 (x := .tmp 9) (y := .tmp 47) (by kernel_rfl) (by kernel_rfl) (by kernel_rfl) iN infoSto12 rfl hone) hB2 ?_
      simp only [Act.put]
      replace hB := hB2
      replace iN := iN2
      clear iN2 hB2 hone
      refine wpAnyH_pure (i := 13) (v := .bool was) (at_nth rfl) (by kernel_rfl) (by kernel_rfl) (by kernel_rfl) (fun _ _ _ h => absurd h (HQN _ _ _)) (by kernel_rfl) (fun w hSw => by kernel_rfl) hB ?_
      simp only [Act.put, List.setIfInBounds_toArray, List.set_cons_succ, List.set_cons_zero]
      refine wpAnyH_pure (i := 14) (v := .int .i64 ev) (at_nth rfl) (by kernel_rfl) (by kernel_rfl) (by kernel_rfl) (fun _ _ _ h => absurd h (HQN _ _ _)) (by kernel_rfl) (fun w hSw => by kernel_rfl) hB ?_
      simp only [Act.put, List.setIfInBounds_toArray, List.set_cons_succ, List.set_cons_zero]
      exact ST5_6_11_12 _ _ _ _ hB hZ hD iN
  have ST5_6 : ∀ (W : World) (AQ : Option Addr) (cQ : Nat), Below W0.heap.size W0 W → InS W t AQ cQ → wpAnyH Try.prog .any (opsOf Try.f6 7) Q (fun W => Below W0.heap.size W0 W) 4 #[true, true, true, true, true, true, true, true, true, true, true, false, false, false, false] { tmps := #[.slice (some ⟨bR, oR, none⟩) len cp, x1, x2, x3, x4, x5, .int .i64 (k : Int), .pointer (some ⟨D1, 0, none⟩), x8, x9, x10, x11, x12, x13, x14, x15, x16, x17, x18, x19, x20, x21, x22, x23, x24, x25, x26, x27, x28, x29, x30, x31, x32, x33, x34, x35, x36, x37, x38, .tuple #[stoV t AQ cQ, .bool was, .int .i64 ev], .agg (stoA s A c), .slice (some ⟨bR, oR, none⟩) len cp, .int .i64 (k : Int), .pointer (some ⟨bR, oR + k, none⟩), .int .i64 z, .string l, .tuple #[stoV t AQ cQ, .bool was, .int .i64 ev], stoV t AQ cQ, .bool was, .int .i64 ev, x50, x51, x52, x53, x54, x55, x56, x57, x58, x59, x60, x61, x62, x63, x64, x65, x66, x67, x68, x69, x70, x71, x72, x73, x74, x75, x76, x77, x78, x79, x80, x81, x82, x83, x84, x85, x86, x87], defers := [] } W := by
    intro W AQ cQ hB hZ
    refine wpAnyH_ready (by kernel_rfl) (by simp) (AllReadyH.cons (i := 11) (at_nth rfl) ?_ (AllReadyH.nil))
    · have iN := Is.new W 31 #[.slice none 0 0, .int .i64 0, .int .i64 0]
      replace hZ := hZ.keep ((Below.refl _ _).alloc (Nat.le_refl _) (.cells #[.slice none 0 0, .int .i64 0, .int .i64 0] 31))
      have hD := hB.size
      replace hB := hB.alloc hB.size (.cells #[.slice none 0 0, .int .i64 0, .int .i64 0] 31)
      refine arm10_value (v := .pointer (some ⟨W.heap.size, 0, none⟩)) (w' := W.alloc (.cells #[.slice none 0 0, .int .i64 0, .int .i64 0] 31)) (by kernel_rfl) (by go_simp) hB ?_
      simp only [Act.put, List.setIfInBounds_toArray, List.set_cons_succ, List.set_cons_zero]
      exact ST5_6_11 _ _ _ _ hB hZ hD iN
  have ST5_11 : ∀ (W : World) (DN : Nat), Below W0.heap.size W0 W → W0.heap.size ≤ DN → Is W DN 31 #[.slice none 0 0, .int .i64 0, .int .i64 0] → wpAnyH Try.prog .any (opsOf Try.f6 7) Q (fun W => Below W0.heap.size W0 W) 8 #[true, true, true, true, true, true, false, false, false, false, false, true, false, false, false] { tmps := #[.slice (some ⟨bR, oR, none⟩) len cp, x1, x2, x3, x4, x5, .int .i64 (k : Int), .pointer (some ⟨D1, 0, none⟩), x8, .pointer (some ⟨DN, 0, none⟩), x10, x11, x12, x13, x14, x15, x16, x17, x18, x19, x20, x21, x22, x23, x24, x25, x26, x27, x28, x29, x30, x31, x32, x33, x34, x35, x36, x37, x38, x39, .agg (stoA s A c), .slice (some ⟨bR, oR, none⟩) len cp, .int .i64 (k : Int), .pointer (some ⟨bR, oR + k, none⟩), .int .i64 z, .string l, x46, x47, x48, x49, x50, x51, x52, x53, x54, x55, x56, x57, x58, x59, x60, x61, x62, x63, x64, x65, x66, x67, x68, x69, x70, x71, x72, x73, x74, x75, x76, x77, x78, x79, x80, x81, x82, x83, x84, x85, x86, x87], defers := [] } W := by
    intro W DN hB hD iN
    refine wpAnyH_ready (by kernel_rfl) (by simp) (AllReadyH.cons (i := 6) (at_nth rfl) ?_ (AllReadyH.nil))
    · refine arm10_call (by kernel_rfl) (fun wy => by kernel_rfl) ((HP.out _ hB).mono ?_)
      rintro e Wn ⟨AQ, cQ, rfl, hZ, hb⟩
      replace iN := iN.below hb iN.lt
      replace hB := hB.trans (hb.mono hB.size)
      clear hb
      refine ⟨_, rfl, hB, ?_⟩
      simp only [Act.put, List.setIfInBounds_toArray, List.set_cons_succ, List.set_cons_zero]
      refine wpAnyH_pure (i := 7) (v := .tuple #[stoV t AQ cQ, .bool was, .int .i64 ev]) (at_nth rfl) (by kernel_rfl) (by kernel_rfl) (by kernel_rfl) (fun _ _ _ h => absurd h (HQN _ _ _)) (by kernel_rfl) (fun w hSw => by kernel_rfl) hB ?_
      simp only [Act.put, List.setIfInBounds_toArray, List.set_cons_succ, List.set_cons_zero]
      refine wpAnyH_pure (i := 8) (v := stoV t AQ cQ) (at_nth rfl) (by kernel_rfl) (by kernel_rfl) (by kernel_rfl) (fun _ _ _ h => absurd h (HQN _ _ _)) (by kernel_rfl) (fun w hSw => by kernel_rfl) hB ?_
      simp only [Act.put, List.setIfInBounds_toArray, List.set_cons_succ, List.set_cons_zero]
      refine wpAnyH_pure (i := 9) (v := .bool was) (at_nth rfl) (by kernel_rfl) (by kernel_rfl) (by kernel_rfl) (fun _ _ _ h => absurd h (HQN _ _ _)) (by kernel_rfl) (fun w hSw => by kernel_rfl) hB ?_
      simp only [Act.put, List.setIfInBounds_toArray, List.set_cons_succ, List.set_cons_zero]
      refine wpAnyH_pure (i := 10) (v := .int .i64 ev) (at_nth rfl) (by kernel_rfl) (by kernel_rfl) (by kernel_rfl) (fun _ _ _ h => absurd h (HQN _ _ _)) (by kernel_rfl) (fun w hSw => by kernel_rfl) hB ?_
      simp only [Act.put, List.setIfInBounds_toArray, List.set_cons_succ, List.set_cons_zero]
      exact ST5_6_11 _ _ _ _ hB hZ hD iN
  have ST5 : ∀ (W : World), Below W0.heap.size W0 W → wpAnyH Try.prog .any (opsOf Try.f6 7) Q (fun W => Below W0.heap.size W0 W) 9 #[true, true, true, true, true, true, false, false, false, false, false, false, false, false, false] { tmps := #[.slice (some ⟨bR, oR, none⟩) len cp, x1, x2, x3, x4, x5, .int .i64 (k : Int), .pointer (some ⟨D1, 0, none⟩), x8, x9, x10, x11, x12, x13, x14, x15, x16, x17, x18, x19, x20, x21, x22, x23, x24, x25, x26, x27, x28, x29, x30, x31, x32, x33, x34, x35, x36, x37, x38, x39, .agg (stoA s A c), .slice (some ⟨bR, oR, none⟩) len cp, .int .i64 (k : Int), .pointer (some ⟨bR, oR + k, none⟩), .int .i64 z, .string l, x46, x47, x48, x49, x50, x51, x52, x53, x54, x55, x56, x57, x58, x59, x60, x61, x62, x63, x64, x65, x66, x67, x68, x69, x70, x71, x72, x73, x74, x75, x76, x77, x78, x79, x80, x81, x82, x83, x84, x85, x86, x87], defers := [] } W := by
    intro W hB
    refine wpAnyH_ready (by kernel_rfl) (by simp) (AllReadyH.cons (i := 6) (at_nth rfl) ?_ (AllReadyH.cons (i := 11) (at_nth rfl) ?_ (AllReadyH.nil)))
    · refine arm10_call (by kernel_rfl) (fun wy => by kernel_rfl) ((HP.out _ hB).mono ?_)
      rintro e Wn ⟨AQ, cQ, rfl, hZ, hb⟩
      replace hB := hB.trans (hb.mono hB.size)
      clear hb
      refine ⟨_, rfl, hB, ?_⟩
      simp only [Act.put, List.setIfInBounds_toArray, List.set_cons_succ, List.set_cons_zero]
      refine wpAnyH_pure (i := 7) (v := .tuple #[stoV t AQ cQ, .bool was, .int .i64 ev]) (at_nth rfl) (by kernel_rfl) (by kernel_rfl) (by kernel_rfl) (fun _ _ _ h => absurd h (HQN _ _ _)) (by kernel_rfl) (fun w hSw => by kernel_rfl) hB ?_
      simp only [Act.put, List.setIfInBounds_toArray, List.set_cons_succ, List.set_cons_zero]
      refine wpAnyH_pure (i := 8) (v := stoV t AQ cQ) (at_nth rfl) (by kernel_rfl) (by kernel_rfl) (by kernel_rfl) (fun _ _ _ h => absurd h (HQN _ _ _)) (by kernel_rfl) (fun w hSw => by kernel_rfl) hB ?_
      simp only [Act.put, List.setIfInBounds_toArray, List.set_cons_succ, List.set_cons_zero]
      refine wpAnyH_pure (i := 9) (v := .bool was) (at_nth rfl) (by kernel_rfl) (by kernel_rfl) (by kernel_rfl) (fun _ _ _ h => absurd h (HQN _ _ _)) (by kernel_rfl) (fun w hSw => by kernel_rfl) hB ?_
      simp only [Act.put, List.setIfInBounds_toArray, List.set_cons_succ, List.set_cons_zero]
      refine wpAnyH_pure (i := 10) (v := .int .i64 ev) (at_nth rfl) (by kernel_rfl) (by kernel_rfl) (by kernel_rfl) (fun _ _ _ h => absurd h (HQN _ _ _)) (by kernel_rfl) (fun w hSw => by kernel_rfl) hB ?_
      simp only [Act.put, List.setIfInBounds_toArray, List.set_cons_succ, List.set_cons_zero]
      exact ST5_6 _ _ _ hB hZ
    · have iN := Is.new W 31 #[.slice none 0 0, .int .i64 0, .int .i64 0]
      have hD := hB.size
      replace hB := hB.alloc hB.size (.cells #[.slice none 0 0, .int .i64 0, .int .i64 0] 31)
      refine arm10_value (v := .pointer (some ⟨W.heap.size, 0, none⟩)) (w' := W.alloc (.cells #[.slice none 0 0, .int .i64 0, .int .i64 0] 31)) (by kernel_rfl) (by go_simp) hB ?_
      simp only [Act.put, List.setIfInBounds_toArray, List.set_cons_succ, List.set_cons_zero]
      exact ST5_11 _ _ hB hD iN
  have ST11 : ∀ (W : World) (DN : Nat), Below W0.heap.size W0 W → W0.heap.size ≤ DN → Is W DN 31 #[.slice none 0 0, .int .i64 0, .int .i64 0] → wpAnyH Try.prog .any (opsOf Try.f6 7) Q (fun W => Below W0.heap.size W0 W) 9 #[true, true, true, true, true, false, false, false, false, false, false, true, false, false, false] { tmps := #[.slice (some ⟨bR, oR, none⟩) len cp, x1, x2, x3, x4, x5, .int .i64 (k : Int), .pointer (some ⟨D1, 0, none⟩), x8, .pointer (some ⟨DN, 0, none⟩), x10, x11, x12, x13, x14, x15, x16, x17, x18, x19, x20, x21, x22, x23, x24, x25, x26, x27, x28, x29, x30, x31, x32, x33, x34, x35, x36, x37, x38, x39, .agg (stoA s A c), .slice (some ⟨bR, oR, none⟩) len cp, .int .i64 (k : Int), .pointer (some ⟨bR, oR + k, none⟩), .int .i64 z, x45, x46, x47, x48, x49, x50, x51, x52, x53, x54, x55, x56, x57, x58, x59, x60, x61, x62, x63, x64, x65, x66, x67, x68, x69, x70, x71, x72, x73, x74, x75, x76, x77, x78, x79, x80, x81, x82, x83, x84, x85, x86, x87], defers := [] } W := by
    intro W DN hB hD iN
    refine wpAnyH_ready (by kernel_rfl) (by simp) (AllReadyH.cons (i := 5) (at_nth rfl) ?_ (AllReadyH.nil))
    · refine arm10_call (by kernel_rfl) (fun wy => by kernel_rfl) ((HLb.out _).mono ?_)
      rintro e Wn ⟨rfl, hb⟩
      replace iN := iN.below hb iN.lt
      replace hB := hB.trans (hb.mono hB.size)
      clear hb
      refine ⟨_, rfl, hB, ?_⟩
      simp only [Act.put, List.setIfInBounds_toArray, List.set_cons_succ, List.set_cons_zero]
      exact ST5_11 _ _ hB hD iN
  have ST : ∀ (W : World), Below W0.heap.size W0 W → wpAnyH Try.prog .any (opsOf Try.f6 7) Q (fun W => Below W0.heap.size W0 W) 10 #[true, true, true, true, true, false, false, false, false, false, false, false, false, false, false] { tmps := #[.slice (some ⟨bR, oR, none⟩) len cp, x1, x2, x3, x4, x5, .int .i64 (k : Int), .pointer (some ⟨D1, 0, none⟩), x8, x9, x10, x11, x12, x13, x14, x15, x16, x17, x18, x19, x20, x21, x22, x23, x24, x25, x26, x27, x28, x29, x30, x31, x32, x33, x34, x35, x36, x37, x38, x39, .agg (stoA s A c), .slice (some ⟨bR, oR, none⟩) len cp, .int .i64 (k : Int), .pointer (some ⟨bR, oR + k, none⟩), .int .i64 z, x45, x46, x47, x48, x49, x50, x51, x52, x53, x54, x55, x56, x57, x58, x59, x60, x61, x62, x63, x64, x65, x66, x67, x68, x69, x70, x71, x72, x73, x74, x75, x76, x77, x78, x79, x80, x81, x82, x83, x84, x85, x86, x87], defers := [] } W := by
    intro W hB
    refine wpAnyH_ready (by kernel_rfl) (by simp) (AllReadyH.cons (i := 5) (at_nth rfl) ?_ (AllReadyH.cons (i := 11) (at_nth rfl) ?_ (AllReadyH.nil)))
    · refine arm10_call (by kernel_rfl) (fun wy => by kernel_rfl) ((HLb.out _).mono ?_)
      rintro e Wn ⟨rfl, hb⟩
      replace hB := hB.trans (hb.mono hB.size)
      clear hb
      refine ⟨_, rfl, hB, ?_⟩
      simp only [Act.put, List.setIfInBounds_toArray, List.set_cons_succ, List.set_cons_zero]
      exact ST5 _ hB
    · have iN := Is.new W 31 #[.slice none 0 0, .int .i64 0, .int .i64 0]
      have hD := hB.size
      replace hB := hB.alloc hB.size (.cells #[.slice none 0 0, .int .i64 0, .int .i64 0] 31)
      refine arm10_value (v := .pointer (some ⟨W.heap.size, 0, none⟩)) (w' := W.alloc (.cells #[.slice none 0 0, .int .i64 0, .int .i64 0] 31)) (by kernel_rfl) (by go_simp) hB ?_
      simp only [Act.put, List.setIfInBounds_toArray, List.set_cons_succ, List.set_cons_zero]
      exact ST11 _ _ hB hD iN
  refine wp_region_held_drew (S := fun W => Below W0.heap.size W0 W) (by kernel_rfl) hB (fun hS => ?_)
  change wpAnyH _ _ (opsOf Try.f6 7) _ _ 15 (Array.replicate 15 false) _ (W0.drewN 1)
  clear hS
  replace hB : Below W0.heap.size W0 (W0.drewN 1) := belowN (Below.refl _ _) 1
  refine wpAnyH_pure (i := 0) (v := .agg (stoA s A c)) (at_nth rfl) (by kernel_rfl) (by kernel_rfl) (by kernel_rfl) (fun _ _ _ h => absurd h (HQN _ _ _)) (by kernel_rfl) (fun w hSw => by exact run_load_rowO (x := .tmp 7) (by kernel_rfl) (by kernel_rfl) (i1.below hSw i1.lt) Try.underlying31 rfl infoSto12) hB ?_
  simp only [Act.put, List.setIfInBounds_toArray, List.set_cons_succ, List.set_cons_zero]
  refine wpAnyH_pure (i := 1) (v := .slice (some ⟨bR, oR, none⟩) len cp) (at_nth rfl) (by kernel_rfl) (by kernel_rfl) (by kernel_rfl) (fun _ _ _ h => absurd h (HQN _ _ _)) (by kernel_rfl) (fun w hSw => by kernel_rfl) hB ?_
  simp only [Act.put, List.setIfInBounds_toArray, List.set_cons_succ, List.set_cons_zero]
  refine wpAnyH_pure (i := 2) (v := .int .i64 (k : Int)) (at_nth rfl) (by kernel_rfl) (by kernel_rfl) (by kernel_rfl) (fun _ _ _ h => absurd h (HQN _ _ _)) (by kernel_rfl) (fun w hSw => by kernel_rfl) hB ?_
  simp only [Act.put, List.setIfInBounds_toArray, List.set_cons_succ, List.set_cons_zero]
  refine wpAnyH_pure (i := 3) (v := .pointer (some ⟨bR, oR + k, none⟩)) (at_nth rfl) (by kernel_rfl) (by kernel_rfl) (by kernel_rfl) (fun _ _ _ h => absurd h (HQN _ _ _)) (by kernel_rfl) (fun w hSw => by have hk' := hk; go_simp) hB ?_
  simp only [Act.put, List.setIfInBounds_toArray, List.set_cons_succ, List.set_cons_zero]
  refine wpAnyH_pure (i := 4) (v := .int .i64 z) (at_nth rfl) (by kernel_rfl) (by kernel_rfl) (by kernel_rfl) (fun _ _ _ h => absurd h (HQN _ _ _)) (by kernel_rfl) (fun w hSw => by (have hc := cell_below12 hSw hcl hbl; go_simp)) hB ?_
  simp only [Act.put, List.setIfInBounds_toArray, List.set_cons_succ, List.set_cons_zero]
  exact ST _ hB
end Go.Proofs.Ytglcckpkbnppoaa
