/-
  Layer 12: what the statements' own awake does in regions that draw their order.
-/
import Derived.Test.YtglcckpkbnppoaaBuzB
import Derived.Test.YtglcckpkbnppoaaGCo3
namespace Go.Proofs.Ytglcckpkbnppoaa
open Go.RowKit Go.Shelf

/-- a store's cells lie in no box of one. -/
theorem InS.far12 {W : World} {s : Sto12} {A : Option Addr} {c D : Nat} {v0 v1 v2 : Value} (h : InS W s A c) (i : Is W D 31 #[v0, v1, v2]) (cs : Array Value) (h1 : ∀ b, v1 ≠ .string b := by simp) (h2 : ∀ b, v2 ≠ .string b := by simp) : InS (W.setRow D cs) s A c := by
  refine ⟨fun j u hj => ?_, h.nil, h.cap, h.fit⟩
  obtain ⟨b, off, rfl, hb, hc⟩ := h.b j u hj
  refine ⟨b, off, rfl, by simpa using hb, ?_⟩
  have hne : b ≠ D := by
    rintro rfl
    have hlen : 1 < (flB s.B).length := by
      rw [flB_len]
      have := (List.getElem?_eq_some_iff.1 hj).1
      rw [flB_len] at this
      omega
    cases hB : s.B with
    | nil => rw [hB] at hlen; exact absurd hlen (by decide)
    | cons x r =>
      obtain ⟨b2, off2, e, _, hc2⟩ := h.b 1 (.string x.l) (by rw [hB]; rfl)
      cases e
      rw [i.cell] at hc2
      have : off + 1 < 3 := by
        have := (Array.getElem?_eq_some_iff.1 hc2).1
        simpa using this
      rcases (by omega : off = 0 ∨ off = 1) with rfl | rfl
      · exact h1 x.l (by simpa using hc2)
      · exact h2 x.l (by simpa using hc2)
  rw [← hc]
  simp only [World.cell?, setRow_other W D b cs hne]
set_option maxRecDepth 100000 in
set_option maxHeartbeats 4000000 in
theorem aw12_4 (W0 : World) (D1 : Nat) (s t : Sto12) (A : Option Addr) (c : Nat) (l x : ByteArray) (ev : Int) (i1 : Is W0 D1 31 (stoA s A c)) (HC : Hid (∀ W, Calls Try.prog 24 #[.int .i64 1] W fun e w' => e = .returned (.string x) ∧ Below W.heap.size W w')) (HP : Hid (∀ W, Below W0.heap.size W0 W → Calls Try.prog 25 #[stoV s A c, .string l, .string x] W fun e w' => ∃ A1 c1, e = .returned (.tuple #[stoV t A1 c1, .int .i64 ev]) ∧ InS w' t A1 c1 ∧ Below W.heap.size W w')) (x0 x2 x4 x5 x6 x7 x8 x9 x10 x11 x12 x13 x14 x15 x16 x17 x18 x19 x20 x21 x22 x23 x24 x25 x26 x27 x28 x29 x30 x31 x32 x33 x34 x35 x36 x37 x38 x39 x40 x41 x42 x43 x44 x45 x46 x47 x48 x49 x50 x51 x52 x53 x54 x55 x56 x57 x58 x59 x60 x61 x62 x63 x64 x65 x66 x67 x68 x69 x70 x71 x72 x73 x74 x75 x76 x77 x78 x79 x80 x81 x82 x83 x84 x85 x86 x87 x88 x89 x90 x91 x92 x93 x94 x95 x96 x97 x98 x99 x100 x101 x102 x103 x104 x105 x106 x107 x108 x109 x110 x111 x112 x113 x114 x115 x116 x117 x118 x119 x120 x121 x122 x123 x124 x125 x126 x127 x128 x129 x130 x131 x132 x133 x134 x135 x136 x137 x138 x139 x140 x141 x142 x143 x144 x145 x146 x147 x148 : Value) :
    (Code.region 4 (opsOf Try.f9 4) true).wp Try.prog (fun ex YY W => ex = .normal ∧ YY.defers = [] ∧ ∃ (AQ : Option Addr) (cQ : Nat) (DN : Nat), YY.tmps = #[x0, .pointer (some ⟨D1, 0, none⟩), x2, .string l, x4, .pointer (some ⟨DN, 0, none⟩), .int .i64 ev, x7, x8, x9, x10, x11, x12, x13, x14, x15, x16, x17, x18, x19, x20, x21, x22, x23, x24, x25, x26, x27, x28, x29, .tuple #[stoV t AQ cQ, .int .i64 ev], .agg (stoA s A c), .string l, .string x, .tuple #[stoV t AQ cQ, .int .i64 ev], stoV t AQ cQ, .int .i64 ev, x37, x38, x39, x40, x41, x42, x43, x44, x45, x46, x47, x48, x49, x50, x51, x52, x53, x54, x55, x56, x57, x58, x59, x60, x61, x62, x63, x64, x65, x66, x67, x68, x69, x70, x71, x72, x73, x74, x75, x76, x77, x78, x79, x80, x81, x82, x83, x84, x85, x86, x87, x88, x89, x90, x91, x92, x93, x94, x95, x96, x97, x98, x99, x100, x101, x102, x103, x104, x105, x106, x107, x108, x109, x110, x111, x112, x113, x114, x115, x116, x117, x118, x119, x120, x121, x122, x123, x124, x125, x126, x127, x128, x129, x130, x131, x132, x133, x134, x135, x136, x137, x138, x139, x140, x141, x142, x143, x144, x145, x146, x147, x148] ∧ Below W0.heap.size W0 W ∧ InS W t AQ cQ ∧ W0.heap.size ≤ DN ∧ Is W DN 31 (stoA t AQ cQ)) { tmps := #[x0, .pointer (some ⟨D1, 0, none⟩), x2, .string l, x4, x5, x6, x7, x8, x9, x10, x11, x12, x13, x14, x15, x16, x17, x18, x19, x20, x21, x22, x23, x24, x25, x26, x27, x28, x29, x30, x31, x32, x33, x34, x35, x36, x37, x38, x39, x40, x41, x42, x43, x44, x45, x46, x47, x48, x49, x50, x51, x52, x53, x54, x55, x56, x57, x58, x59, x60, x61, x62, x63, x64, x65, x66, x67, x68, x69, x70, x71, x72, x73, x74, x75, x76, x77, x78, x79, x80, x81, x82, x83, x84, x85, x86, x87, x88, x89, x90, x91, x92, x93, x94, x95, x96, x97, x98, x99, x100, x101, x102, x103, x104, x105, x106, x107, x108, x109, x110, x111, x112, x113, x114, x115, x116, x117, x118, x119, x120, x121, x122, x123, x124, x125, x126, x127, x128, x129, x130, x131, x132, x133, x134, x135, x136, x137, x138, x139, x140, x141, x142, x143, x144, x145, x146, x147, x148], defers := [] } W0 := by
  have hB : Below W0.heap.size W0 (W0.drewN 1) := belowN (Below.refl _ _) 1
  generalize hQ : (fun (ex : Exit) (YY : Act) (W : World) => ex = .normal ∧ YY.defers = [] ∧ ∃ (AQ : Option Addr) (cQ : Nat) (DN : Nat), YY.tmps = #[x0, .pointer (some ⟨D1, 0, none⟩), x2, .string l, x4, .pointer (some ⟨DN, 0, none⟩), .int .i64 ev, x7, x8, x9, x10, x11, x12, x13, x14, x15, x16, x17, x18, x19, x20, x21, x22, x23, x24, x25, x26, x27, x28, x29, .tuple #[stoV t AQ cQ, .int .i64 ev], .agg (stoA s A c), .string l, .string x, .tuple #[stoV t AQ cQ, .int .i64 ev], stoV t AQ cQ, .int .i64 ev, x37, x38, x39, x40, x41, x42, x43, x44, x45, x46, x47, x48, x49, x50, x51, x52, x53, x54, x55, x56, x57, x58, x59, x60, x61, x62, x63, x64, x65, x66, x67, x68, x69, x70, x71, x72, x73, x74, x75, x76, x77, x78, x79, x80, x81, x82, x83, x84, x85, x86, x87, x88, x89, x90, x91, x92, x93, x94, x95, x96, x97, x98, x99, x100, x101, x102, x103, x104, x105, x106, x107, x108, x109, x110, x111, x112, x113, x114, x115, x116, x117, x118, x119, x120, x121, x122, x123, x124, x125, x126, x127, x128, x129, x130, x131, x132, x133, x134, x135, x136, x137, x138, x139, x140, x141, x142, x143, x144, x145, x146, x147, x148] ∧ Below W0.heap.size W0 W ∧ InS W t AQ cQ ∧ W0.heap.size ≤ DN ∧ Is W DN 31 (stoA t AQ cQ)) = Q
  have HQN : ∀ c a W, ¬ Q (.panic c) a W := fun c a W h => by subst hQ; exact nomatch h.1
  have ST2_3_7_8 : ∀ (W : World) (AQ : Option Addr) (cQ : Nat) (DN : Nat), Below W0.heap.size W0 W → InS W t AQ cQ → W0.heap.size ≤ DN → Is W DN 31 (stoA t AQ cQ) → wpAnyH Try.prog .any (opsOf Try.f9 4) Q (fun W => Below W0.heap.size W0 W) 0 #[true, true, true, true, true, true, true, true, true, true] { tmps := #[x0, .pointer (some ⟨D1, 0, none⟩), x2, .string l, x4, .pointer (some ⟨DN, 0, none⟩), .int .i64 ev, x7, x8, x9, x10, x11, x12, x13, x14, x15, x16, x17, x18, x19, x20, x21, x22, x23, x24, x25, x26, x27, x28, x29, .tuple #[stoV t AQ cQ, .int .i64 ev], .agg (stoA s A c), .string l, .string x, .tuple #[stoV t AQ cQ, .int .i64 ev], stoV t AQ cQ, .int .i64 ev, x37, x38, x39, x40, x41, x42, x43, x44, x45, x46, x47, x48, x49, x50, x51, x52, x53, x54, x55, x56, x57, x58, x59, x60, x61, x62, x63, x64, x65, x66, x67, x68, x69, x70, x71, x72, x73, x74, x75, x76, x77, x78, x79, x80, x81, x82, x83, x84, x85, x86, x87, x88, x89, x90, x91, x92, x93, x94, x95, x96, x97, x98, x99, x100, x101, x102, x103, x104, x105, x106, x107, x108, x109, x110, x111, x112, x113, x114, x115, x116, x117, x118, x119, x120, x121, x122, x123, x124, x125, x126, x127, x128, x129, x130, x131, x132, x133, x134, x135, x136, x137, x138, x139, x140, x141, x142, x143, x144, x145, x146, x147, x148], defers := [] } W := by
    intro W AQ cQ DN hB hZ hD iN
    refine wpAnyH_done (by kernel_rfl) ?_ _
    subst hQ
    exact ⟨rfl, rfl, AQ, cQ, DN, rfl, hB, hZ, hD, iN⟩
  have ST2_3_7 : ∀ (W : World) (AQ : Option Addr) (cQ : Nat) (DN : Nat), Below W0.heap.size W0 W → InS W t AQ cQ → W0.heap.size ≤ DN → Is W DN 31 #[.slice none 0 0, .int .i64 0, .int .i64 0] → wpAnyH Try.prog .any (opsOf Try.f9 4) Q (fun W => Below W0.heap.size W0 W) 2 #[true, true, true, true, true, true, true, true, false, false] { tmps := #[x0, .pointer (some ⟨D1, 0, none⟩), x2, .string l, x4, .pointer (some ⟨DN, 0, none⟩), x6, x7, x8, x9, x10, x11, x12, x13, x14, x15, x16, x17, x18, x19, x20, x21, x22, x23, x24, x25, x26, x27, x28, x29, .tuple #[stoV t AQ cQ, .int .i64 ev], .agg (stoA s A c), .string l, .string x, .tuple #[stoV t AQ cQ, .int .i64 ev], stoV t AQ cQ, .int .i64 ev, x37, x38, x39, x40, x41, x42, x43, x44, x45, x46, x47, x48, x49, x50, x51, x52, x53, x54, x55, x56, x57, x58, x59, x60, x61, x62, x63, x64, x65, x66, x67, x68, x69, x70, x71, x72, x73, x74, x75, x76, x77, x78, x79, x80, x81, x82, x83, x84, x85, x86, x87, x88, x89, x90, x91, x92, x93, x94, x95, x96, x97, x98, x99, x100, x101, x102, x103, x104, x105, x106, x107, x108, x109, x110, x111, x112, x113, x114, x115, x116, x117, x118, x119, x120, x121, x122, x123, x124, x125, x126, x127, x128, x129, x130, x131, x132, x133, x134, x135, x136, x137, x138, x139, x140, x141, x142, x143, x144, x145, x146, x147, x148], defers := [] } W := by
    intro W AQ cQ DN hB hZ hD iN
    refine wpAnyH_ready (by kernel_rfl) (by simp) (AllReadyH.cons (i := 8) (at_nth rfl) ?_ (AllReadyH.nil))
    · have hone := stoA_one12 t AQ cQ
      replace hZ := hZ.far12 iN (stoA t AQ cQ)
      have iN2 := iN.row (stoA t AQ cQ)
      have hB2 := belowRow hB hD (stoA t AQ cQ)
      refine arm10_skip (w' := W.setRow DN (stoA t AQ cQ)) (by kernel_rfl) (run_row10 (x := .tmp 5) (y := .tmp 35) (by kernel_rfl) (by kernel_rfl) (by kernel_rfl) iN infoSto12 rfl hone) hB2 ?_
      simp only [Act.put]
      replace hB := hB2
      replace iN := iN2
      clear iN2 hB2 hone
      refine wpAnyH_pure (i := 9) (v := .int .i64 ev) (at_nth rfl) (by kernel_rfl) (by kernel_rfl) (by kernel_rfl) (fun _ _ _ h => absurd h (HQN _ _ _)) (by kernel_rfl) (fun w hSw => by kernel_rfl) hB ?_
      simp only [Act.put, List.setIfInBounds_toArray, List.set_cons_succ, List.set_cons_zero]
      exact ST2_3_7_8 _ _ _ _ hB hZ hD iN
  have ST2_3 : ∀ (W : World) (AQ : Option Addr) (cQ : Nat), Below W0.heap.size W0 W → InS W t AQ cQ → wpAnyH Try.prog .any (opsOf Try.f9 4) Q (fun W => Below W0.heap.size W0 W) 3 #[true, true, true, true, true, true, true, false, false, false] { tmps := #[x0, .pointer (some ⟨D1, 0, none⟩), x2, .string l, x4, x5, x6, x7, x8, x9, x10, x11, x12, x13, x14, x15, x16, x17, x18, x19, x20, x21, x22, x23, x24, x25, x26, x27, x28, x29, .tuple #[stoV t AQ cQ, .int .i64 ev], .agg (stoA s A c), .string l, .string x, .tuple #[stoV t AQ cQ, .int .i64 ev], stoV t AQ cQ, .int .i64 ev, x37, x38, x39, x40, x41, x42, x43, x44, x45, x46, x47, x48, x49, x50, x51, x52, x53, x54, x55, x56, x57, x58, x59, x60, x61, x62, x63, x64, x65, x66, x67, x68, x69, x70, x71, x72, x73, x74, x75, x76, x77, x78, x79, x80, x81, x82, x83, x84, x85, x86, x87, x88, x89, x90, x91, x92, x93, x94, x95, x96, x97, x98, x99, x100, x101, x102, x103, x104, x105, x106, x107, x108, x109, x110, x111, x112, x113, x114, x115, x116, x117, x118, x119, x120, x121, x122, x123, x124, x125, x126, x127, x128, x129, x130, x131, x132, x133, x134, x135, x136, x137, x138, x139, x140, x141, x142, x143, x144, x145, x146, x147, x148], defers := [] } W := by
    intro W AQ cQ hB hZ
    refine wpAnyH_ready (by kernel_rfl) (by simp) (AllReadyH.cons (i := 7) (at_nth rfl) ?_ (AllReadyH.nil))
    · have iN := Is.new W 31 #[.slice none 0 0, .int .i64 0, .int .i64 0]
      replace hZ := hZ.keep ((Below.refl _ _).alloc (Nat.le_refl _) (.cells #[.slice none 0 0, .int .i64 0, .int .i64 0] 31))
      have hD := hB.size
      replace hB := hB.alloc hB.size (.cells #[.slice none 0 0, .int .i64 0, .int .i64 0] 31)
      refine arm10_value (v := .pointer (some ⟨W.heap.size, 0, none⟩)) (w' := W.alloc (.cells #[.slice none 0 0, .int .i64 0, .int .i64 0] 31)) (by kernel_rfl) (by go_simp) hB ?_
      simp only [Act.put, List.setIfInBounds_toArray, List.set_cons_succ, List.set_cons_zero]
      exact ST2_3_7 _ _ _ _ hB hZ hD iN
  have ST2_7 : ∀ (W : World) (DN : Nat), Below W0.heap.size W0 W → W0.heap.size ≤ DN → Is W DN 31 #[.slice none 0 0, .int .i64 0, .int .i64 0] → wpAnyH Try.prog .any (opsOf Try.f9 4) Q (fun W => Below W0.heap.size W0 W) 6 #[true, true, true, false, false, false, false, true, false, false] { tmps := #[x0, .pointer (some ⟨D1, 0, none⟩), x2, .string l, x4, .pointer (some ⟨DN, 0, none⟩), x6, x7, x8, x9, x10, x11, x12, x13, x14, x15, x16, x17, x18, x19, x20, x21, x22, x23, x24, x25, x26, x27, x28, x29, x30, .agg (stoA s A c), .string l, .string x, x34, x35, x36, x37, x38, x39, x40, x41, x42, x43, x44, x45, x46, x47, x48, x49, x50, x51, x52, x53, x54, x55, x56, x57, x58, x59, x60, x61, x62, x63, x64, x65, x66, x67, x68, x69, x70, x71, x72, x73, x74, x75, x76, x77, x78, x79, x80, x81, x82, x83, x84, x85, x86, x87, x88, x89, x90, x91, x92, x93, x94, x95, x96, x97, x98, x99, x100, x101, x102, x103, x104, x105, x106, x107, x108, x109, x110, x111, x112, x113, x114, x115, x116, x117, x118, x119, x120, x121, x122, x123, x124, x125, x126, x127, x128, x129, x130, x131, x132, x133, x134, x135, x136, x137, x138, x139, x140, x141, x142, x143, x144, x145, x146, x147, x148], defers := [] } W := by
    intro W DN hB hD iN
    refine wpAnyH_ready (by kernel_rfl) (by simp) (AllReadyH.cons (i := 3) (at_nth rfl) ?_ (AllReadyH.nil))
    · refine arm10_call (by kernel_rfl) (fun wy => by kernel_rfl) ((HP.out _ hB).mono ?_)
      rintro e Wn ⟨AQ, cQ, rfl, hZ, hb⟩
      replace iN := iN.below hb iN.lt
      replace hB := hB.trans (hb.mono hB.size)
      clear hb
      refine ⟨_, rfl, hB, ?_⟩
      simp only [Act.put, List.setIfInBounds_toArray, List.set_cons_succ, List.set_cons_zero]
      refine wpAnyH_pure (i := 4) (v := .tuple #[stoV t AQ cQ, .int .i64 ev]) (at_nth rfl) (by kernel_rfl) (by kernel_rfl) (by kernel_rfl) (fun _ _ _ h => absurd h (HQN _ _ _)) (by kernel_rfl) (fun w hSw => by kernel_rfl) hB ?_
      simp only [Act.put, List.setIfInBounds_toArray, List.set_cons_succ, List.set_cons_zero]
      refine wpAnyH_pure (i := 5) (v := stoV t AQ cQ) (at_nth rfl) (by kernel_rfl) (by kernel_rfl) (by kernel_rfl) (fun _ _ _ h => absurd h (HQN _ _ _)) (by kernel_rfl) (fun w hSw => by kernel_rfl) hB ?_
      simp only [Act.put, List.setIfInBounds_toArray, List.set_cons_succ, List.set_cons_zero]
      refine wpAnyH_pure (i := 6) (v := .int .i64 ev) (at_nth rfl) (by kernel_rfl) (by kernel_rfl) (by kernel_rfl) (fun _ _ _ h => absurd h (HQN _ _ _)) (by kernel_rfl) (fun w hSw => by kernel_rfl) hB ?_
      simp only [Act.put, List.setIfInBounds_toArray, List.set_cons_succ, List.set_cons_zero]
      exact ST2_3_7 _ _ _ _ hB hZ hD iN
  have ST2 : ∀ (W : World), Below W0.heap.size W0 W → wpAnyH Try.prog .any (opsOf Try.f9 4) Q (fun W => Below W0.heap.size W0 W) 7 #[true, true, true, false, false, false, false, false, false, false] { tmps := #[x0, .pointer (some ⟨D1, 0, none⟩), x2, .string l, x4, x5, x6, x7, x8, x9, x10, x11, x12, x13, x14, x15, x16, x17, x18, x19, x20, x21, x22, x23, x24, x25, x26, x27, x28, x29, x30, .agg (stoA s A c), .string l, .string x, x34, x35, x36, x37, x38, x39, x40, x41, x42, x43, x44, x45, x46, x47, x48, x49, x50, x51, x52, x53, x54, x55, x56, x57, x58, x59, x60, x61, x62, x63, x64, x65, x66, x67, x68, x69, x70, x71, x72, x73, x74, x75, x76, x77, x78, x79, x80, x81, x82, x83, x84, x85, x86, x87, x88, x89, x90, x91, x92, x93, x94, x95, x96, x97, x98, x99, x100, x101, x102, x103, x104, x105, x106, x107, x108, x109, x110, x111, x112, x113, x114, x115, x116, x117, x118, x119, x120, x121, x122, x123, x124, x125, x126, x127, x128, x129, x130, x131, x132, x133, x134, x135, x136, x137, x138, x139, x140, x141, x142, x143, x144, x145, x146, x147, x148], defers := [] } W := by
    intro W hB
    refine wpAnyH_ready (by kernel_rfl) (by simp) (AllReadyH.cons (i := 3) (at_nth rfl) ?_ (AllReadyH.cons (i := 7) (at_nth rfl) ?_ (AllReadyH.nil)))
    · refine arm10_call (by kernel_rfl) (fun wy => by kernel_rfl) ((HP.out _ hB).mono ?_)
      rintro e Wn ⟨AQ, cQ, rfl, hZ, hb⟩
      replace hB := hB.trans (hb.mono hB.size)
      clear hb
      refine ⟨_, rfl, hB, ?_⟩
      simp only [Act.put, List.setIfInBounds_toArray, List.set_cons_succ, List.set_cons_zero]
      refine wpAnyH_pure (i := 4) (v := .tuple #[stoV t AQ cQ, .int .i64 ev]) (at_nth rfl) (by kernel_rfl) (by kernel_rfl) (by kernel_rfl) (fun _ _ _ h => absurd h (HQN _ _ _)) (by kernel_rfl) (fun w hSw => by kernel_rfl) hB ?_
      simp only [Act.put, List.setIfInBounds_toArray, List.set_cons_succ, List.set_cons_zero]
      refine wpAnyH_pure (i := 5) (v := stoV t AQ cQ) (at_nth rfl) (by kernel_rfl) (by kernel_rfl) (by kernel_rfl) (fun _ _ _ h => absurd h (HQN _ _ _)) (by kernel_rfl) (fun w hSw => by kernel_rfl) hB ?_
      simp only [Act.put, List.setIfInBounds_toArray, List.set_cons_succ, List.set_cons_zero]
      refine wpAnyH_pure (i := 6) (v := .int .i64 ev) (at_nth rfl) (by kernel_rfl) (by kernel_rfl) (by kernel_rfl) (fun _ _ _ h => absurd h (HQN _ _ _)) (by kernel_rfl) (fun w hSw => by kernel_rfl) hB ?_
      simp only [Act.put, List.setIfInBounds_toArray, List.set_cons_succ, List.set_cons_zero]
      exact ST2_3 _ _ _ hB hZ
    · have iN := Is.new W 31 #[.slice none 0 0, .int .i64 0, .int .i64 0]
      have hD := hB.size
      replace hB := hB.alloc hB.size (.cells #[.slice none 0 0, .int .i64 0, .int .i64 0] 31)
      refine arm10_value (v := .pointer (some ⟨W.heap.size, 0, none⟩)) (w' := W.alloc (.cells #[.slice none 0 0, .int .i64 0, .int .i64 0] 31)) (by kernel_rfl) (by go_simp) hB ?_
      simp only [Act.put, List.setIfInBounds_toArray, List.set_cons_succ, List.set_cons_zero]
      exact ST2_7 _ _ hB hD iN
  have ST7 : ∀ (W : World) (DN : Nat), Below W0.heap.size W0 W → W0.heap.size ≤ DN → Is W DN 31 #[.slice none 0 0, .int .i64 0, .int .i64 0] → wpAnyH Try.prog .any (opsOf Try.f9 4) Q (fun W => Below W0.heap.size W0 W) 7 #[true, true, false, false, false, false, false, true, false, false] { tmps := #[x0, .pointer (some ⟨D1, 0, none⟩), x2, .string l, x4, .pointer (some ⟨DN, 0, none⟩), x6, x7, x8, x9, x10, x11, x12, x13, x14, x15, x16, x17, x18, x19, x20, x21, x22, x23, x24, x25, x26, x27, x28, x29, x30, .agg (stoA s A c), .string l, x33, x34, x35, x36, x37, x38, x39, x40, x41, x42, x43, x44, x45, x46, x47, x48, x49, x50, x51, x52, x53, x54, x55, x56, x57, x58, x59, x60, x61, x62, x63, x64, x65, x66, x67, x68, x69, x70, x71, x72, x73, x74, x75, x76, x77, x78, x79, x80, x81, x82, x83, x84, x85, x86, x87, x88, x89, x90, x91, x92, x93, x94, x95, x96, x97, x98, x99, x100, x101, x102, x103, x104, x105, x106, x107, x108, x109, x110, x111, x112, x113, x114, x115, x116, x117, x118, x119, x120, x121, x122, x123, x124, x125, x126, x127, x128, x129, x130, x131, x132, x133, x134, x135, x136, x137, x138, x139, x140, x141, x142, x143, x144, x145, x146, x147, x148], defers := [] } W := by
    intro W DN hB hD iN
    refine wpAnyH_ready (by kernel_rfl) (by simp) (AllReadyH.cons (i := 2) (at_nth rfl) ?_ (AllReadyH.nil))
    · refine arm10_call (by kernel_rfl) (fun wy => by kernel_rfl) ((HC.out _).mono ?_)
      rintro e Wn ⟨rfl, hb⟩
      replace iN := iN.below hb iN.lt
      replace hB := hB.trans (hb.mono hB.size)
      clear hb
      refine ⟨_, rfl, hB, ?_⟩
      simp only [Act.put, List.setIfInBounds_toArray, List.set_cons_succ, List.set_cons_zero]
      exact ST2_7 _ _ hB hD iN
  have ST : ∀ (W : World), Below W0.heap.size W0 W → wpAnyH Try.prog .any (opsOf Try.f9 4) Q (fun W => Below W0.heap.size W0 W) 8 #[true, true, false, false, false, false, false, false, false, false] { tmps := #[x0, .pointer (some ⟨D1, 0, none⟩), x2, .string l, x4, x5, x6, x7, x8, x9, x10, x11, x12, x13, x14, x15, x16, x17, x18, x19, x20, x21, x22, x23, x24, x25, x26, x27, x28, x29, x30, .agg (stoA s A c), .string l, x33, x34, x35, x36, x37, x38, x39, x40, x41, x42, x43, x44, x45, x46, x47, x48, x49, x50, x51, x52, x53, x54, x55, x56, x57, x58, x59, x60, x61, x62, x63, x64, x65, x66, x67, x68, x69, x70, x71, x72, x73, x74, x75, x76, x77, x78, x79, x80, x81, x82, x83, x84, x85, x86, x87, x88, x89, x90, x91, x92, x93, x94, x95, x96, x97, x98, x99, x100, x101, x102, x103, x104, x105, x106, x107, x108, x109, x110, x111, x112, x113, x114, x115, x116, x117, x118, x119, x120, x121, x122, x123, x124, x125, x126, x127, x128, x129, x130, x131, x132, x133, x134, x135, x136, x137, x138, x139, x140, x141, x142, x143, x144, x145, x146, x147, x148], defers := [] } W := by
    intro W hB
    refine wpAnyH_ready (by kernel_rfl) (by simp) (AllReadyH.cons (i := 2) (at_nth rfl) ?_ (AllReadyH.cons (i := 7) (at_nth rfl) ?_ (AllReadyH.nil)))
    · refine arm10_call (by kernel_rfl) (fun wy => by kernel_rfl) ((HC.out _).mono ?_)
      rintro e Wn ⟨rfl, hb⟩
      replace hB := hB.trans (hb.mono hB.size)
      clear hb
      refine ⟨_, rfl, hB, ?_⟩
      simp only [Act.put, List.setIfInBounds_toArray, List.set_cons_succ, List.set_cons_zero]
      exact ST2 _ hB
    · have iN := Is.new W 31 #[.slice none 0 0, .int .i64 0, .int .i64 0]
      have hD := hB.size
      replace hB := hB.alloc hB.size (.cells #[.slice none 0 0, .int .i64 0, .int .i64 0] 31)
      refine arm10_value (v := .pointer (some ⟨W.heap.size, 0, none⟩)) (w' := W.alloc (.cells #[.slice none 0 0, .int .i64 0, .int .i64 0] 31)) (by kernel_rfl) (by go_simp) hB ?_
      simp only [Act.put, List.setIfInBounds_toArray, List.set_cons_succ, List.set_cons_zero]
      exact ST7 _ _ hB hD iN
  refine wp_region_held_drew (S := fun W => Below W0.heap.size W0 W) (by kernel_rfl) hB (fun hS => ?_)
  change wpAnyH _ _ (opsOf Try.f9 4) _ _ 10 (Array.replicate 10 false) _ (W0.drewN 1)
  clear hS
  replace hB : Below W0.heap.size W0 (W0.drewN 1) := belowN (Below.refl _ _) 1
  refine wpAnyH_pure (i := 0) (v := .agg (stoA s A c)) (at_nth rfl) (by kernel_rfl) (by kernel_rfl) (by kernel_rfl) (fun _ _ _ h => absurd h (HQN _ _ _)) (by kernel_rfl) (fun w hSw => by exact run_load_rowO (x := .tmp 1) (by kernel_rfl) (by kernel_rfl) (i1.below hSw i1.lt) Try.underlying31 rfl infoSto12) hB ?_
  simp only [Act.put, List.setIfInBounds_toArray, List.set_cons_succ, List.set_cons_zero]
  refine wpAnyH_pure (i := 1) (v := .string l) (at_nth rfl) (by kernel_rfl) (by kernel_rfl) (by kernel_rfl) (fun _ _ _ h => absurd h (HQN _ _ _)) (by kernel_rfl) (fun w hSw => by kernel_rfl) hB ?_
  simp only [Act.put, List.setIfInBounds_toArray, List.set_cons_succ, List.set_cons_zero]
  exact ST _ hB

set_option maxRecDepth 100000 in
set_option maxHeartbeats 4000000 in
theorem aw12_5 (W0 : World) (D1 : Nat) (s t : Sto12) (A : Option Addr) (c : Nat) (l x : ByteArray) (ev : Int) (i1 : Is W0 D1 31 (stoA s A c)) (HC : Hid (∀ W, Calls Try.prog 24 #[.int .i64 2] W fun e w' => e = .returned (.string x) ∧ Below W.heap.size W w')) (HP : Hid (∀ W, Below W0.heap.size W0 W → Calls Try.prog 25 #[stoV s A c, .string l, .string x] W fun e w' => ∃ A1 c1, e = .returned (.tuple #[stoV t A1 c1, .int .i64 ev]) ∧ InS w' t A1 c1 ∧ Below W.heap.size W w')) (x0 x1 x2 x3 x6 x7 x8 x9 x10 x11 x12 x13 x14 x15 x16 x17 x18 x19 x20 x21 x22 x23 x24 x25 x26 x27 x28 x29 x30 x31 x32 x33 x34 x35 x36 x37 x38 x39 x40 x41 x42 x43 x44 x45 x46 x47 x48 x49 x50 x51 x52 x53 x54 x55 x56 x57 x58 x59 x60 x61 x62 x63 x64 x65 x66 x67 x68 x69 x70 x71 x72 x73 x74 x75 x76 x77 x78 x79 x80 x81 x82 x83 x84 x85 x86 x87 x88 x89 x90 x91 x92 x93 x94 x95 x96 x97 x98 x99 x100 x101 x102 x103 x104 x105 x106 x107 x108 x109 x110 x111 x112 x113 x114 x115 x116 x117 x118 x119 x120 x121 x122 x123 x124 x125 x126 x127 x128 x129 x130 x131 x132 x133 x134 x135 x136 x137 x138 x139 x140 x141 x142 x143 x144 x145 x146 x147 x148 : Value) :
    (Code.region 5 (opsOf Try.f9 5) true).wp Try.prog (fun ex YY W => ex = .normal ∧ YY.defers = [] ∧ ∃ (AQ : Option Addr) (cQ : Nat) (DN : Nat), YY.tmps = #[x0, x1, x2, x3, .string l, .pointer (some ⟨D1, 0, none⟩), x6, .pointer (some ⟨DN, 0, none⟩), .int .i64 ev, x9, x10, x11, x12, x13, x14, x15, x16, x17, x18, x19, x20, x21, x22, x23, x24, x25, x26, x27, x28, x29, x30, x31, x32, x33, x34, x35, x36, .tuple #[stoV t AQ cQ, .int .i64 ev], .agg (stoA s A c), .string l, .string x, .tuple #[stoV t AQ cQ, .int .i64 ev], stoV t AQ cQ, .int .i64 ev, x44, x45, x46, x47, x48, x49, x50, x51, x52, x53, x54, x55, x56, x57, x58, x59, x60, x61, x62, x63, x64, x65, x66, x67, x68, x69, x70, x71, x72, x73, x74, x75, x76, x77, x78, x79, x80, x81, x82, x83, x84, x85, x86, x87, x88, x89, x90, x91, x92, x93, x94, x95, x96, x97, x98, x99, x100, x101, x102, x103, x104, x105, x106, x107, x108, x109, x110, x111, x112, x113, x114, x115, x116, x117, x118, x119, x120, x121, x122, x123, x124, x125, x126, x127, x128, x129, x130, x131, x132, x133, x134, x135, x136, x137, x138, x139, x140, x141, x142, x143, x144, x145, x146, x147, x148] ∧ Below W0.heap.size W0 W ∧ InS W t AQ cQ ∧ W0.heap.size ≤ DN ∧ Is W DN 31 (stoA t AQ cQ)) { tmps := #[x0, x1, x2, x3, .string l, .pointer (some ⟨D1, 0, none⟩), x6, x7, x8, x9, x10, x11, x12, x13, x14, x15, x16, x17, x18, x19, x20, x21, x22, x23, x24, x25, x26, x27, x28, x29, x30, x31, x32, x33, x34, x35, x36, x37, x38, x39, x40, x41, x42, x43, x44, x45, x46, x47, x48, x49, x50, x51, x52, x53, x54, x55, x56, x57, x58, x59, x60, x61, x62, x63, x64, x65, x66, x67, x68, x69, x70, x71, x72, x73, x74, x75, x76, x77, x78, x79, x80, x81, x82, x83, x84, x85, x86, x87, x88, x89, x90, x91, x92, x93, x94, x95, x96, x97, x98, x99, x100, x101, x102, x103, x104, x105, x106, x107, x108, x109, x110, x111, x112, x113, x114, x115, x116, x117, x118, x119, x120, x121, x122, x123, x124, x125, x126, x127, x128, x129, x130, x131, x132, x133, x134, x135, x136, x137, x138, x139, x140, x141, x142, x143, x144, x145, x146, x147, x148], defers := [] } W0 := by
  have hB : Below W0.heap.size W0 (W0.drewN 1) := belowN (Below.refl _ _) 1
  generalize hQ : (fun (ex : Exit) (YY : Act) (W : World) => ex = .normal ∧ YY.defers = [] ∧ ∃ (AQ : Option Addr) (cQ : Nat) (DN : Nat), YY.tmps = #[x0, x1, x2, x3, .string l, .pointer (some ⟨D1, 0, none⟩), x6, .pointer (some ⟨DN, 0, none⟩), .int .i64 ev, x9, x10, x11, x12, x13, x14, x15, x16, x17, x18, x19, x20, x21, x22, x23, x24, x25, x26, x27, x28, x29, x30, x31, x32, x33, x34, x35, x36, .tuple #[stoV t AQ cQ, .int .i64 ev], .agg (stoA s A c), .string l, .string x, .tuple #[stoV t AQ cQ, .int .i64 ev], stoV t AQ cQ, .int .i64 ev, x44, x45, x46, x47, x48, x49, x50, x51, x52, x53, x54, x55, x56, x57, x58, x59, x60, x61, x62, x63, x64, x65, x66, x67, x68, x69, x70, x71, x72, x73, x74, x75, x76, x77, x78, x79, x80, x81, x82, x83, x84, x85, x86, x87, x88, x89, x90, x91, x92, x93, x94, x95, x96, x97, x98, x99, x100, x101, x102, x103, x104, x105, x106, x107, x108, x109, x110, x111, x112, x113, x114, x115, x116, x117, x118, x119, x120, x121, x122, x123, x124, x125, x126, x127, x128, x129, x130, x131, x132, x133, x134, x135, x136, x137, x138, x139, x140, x141, x142, x143, x144, x145, x146, x147, x148] ∧ Below W0.heap.size W0 W ∧ InS W t AQ cQ ∧ W0.heap.size ≤ DN ∧ Is W DN 31 (stoA t AQ cQ)) = Q
  have HQN : ∀ c a W, ¬ Q (.panic c) a W := fun c a W h => by subst hQ; exact nomatch h.1
  have ST2_3_7_8 : ∀ (W : World) (AQ : Option Addr) (cQ : Nat) (DN : Nat), Below W0.heap.size W0 W → InS W t AQ cQ → W0.heap.size ≤ DN → Is W DN 31 (stoA t AQ cQ) → wpAnyH Try.prog .any (opsOf Try.f9 5) Q (fun W => Below W0.heap.size W0 W) 0 #[true, true, true, true, true, true, true, true, true, true] { tmps := #[x0, x1, x2, x3, .string l, .pointer (some ⟨D1, 0, none⟩), x6, .pointer (some ⟨DN, 0, none⟩), .int .i64 ev, x9, x10, x11, x12, x13, x14, x15, x16, x17, x18, x19, x20, x21, x22, x23, x24, x25, x26, x27, x28, x29, x30, x31, x32, x33, x34, x35, x36, .tuple #[stoV t AQ cQ, .int .i64 ev], .agg (stoA s A c), .string l, .string x, .tuple #[stoV t AQ cQ, .int .i64 ev], stoV t AQ cQ, .int .i64 ev, x44, x45, x46, x47, x48, x49, x50, x51, x52, x53, x54, x55, x56, x57, x58, x59, x60, x61, x62, x63, x64, x65, x66, x67, x68, x69, x70, x71, x72, x73, x74, x75, x76, x77, x78, x79, x80, x81, x82, x83, x84, x85, x86, x87, x88, x89, x90, x91, x92, x93, x94, x95, x96, x97, x98, x99, x100, x101, x102, x103, x104, x105, x106, x107, x108, x109, x110, x111, x112, x113, x114, x115, x116, x117, x118, x119, x120, x121, x122, x123, x124, x125, x126, x127, x128, x129, x130, x131, x132, x133, x134, x135, x136, x137, x138, x139, x140, x141, x142, x143, x144, x145, x146, x147, x148], defers := [] } W := by
    intro W AQ cQ DN hB hZ hD iN
    refine wpAnyH_done (by kernel_rfl) ?_ _
    subst hQ
    exact ⟨rfl, rfl, AQ, cQ, DN, rfl, hB, hZ, hD, iN⟩
  have ST2_3_7 : ∀ (W : World) (AQ : Option Addr) (cQ : Nat) (DN : Nat), Below W0.heap.size W0 W → InS W t AQ cQ → W0.heap.size ≤ DN → Is W DN 31 #[.slice none 0 0, .int .i64 0, .int .i64 0] → wpAnyH Try.prog .any (opsOf Try.f9 5) Q (fun W => Below W0.heap.size W0 W) 2 #[true, true, true, true, true, true, true, true, false, false] { tmps := #[x0, x1, x2, x3, .string l, .pointer (some ⟨D1, 0, none⟩), x6, .pointer (some ⟨DN, 0, none⟩), x8, x9, x10, x11, x12, x13, x14, x15, x16, x17, x18, x19, x20, x21, x22, x23, x24, x25, x26, x27, x28, x29, x30, x31, x32, x33, x34, x35, x36, .tuple #[stoV t AQ cQ, .int .i64 ev], .agg (stoA s A c), .string l, .string x, .tuple #[stoV t AQ cQ, .int .i64 ev], stoV t AQ cQ, .int .i64 ev, x44, x45, x46, x47, x48, x49, x50, x51, x52, x53, x54, x55, x56, x57, x58, x59, x60, x61, x62, x63, x64, x65, x66, x67, x68, x69, x70, x71, x72, x73, x74, x75, x76, x77, x78, x79, x80, x81, x82, x83, x84, x85, x86, x87, x88, x89, x90, x91, x92, x93, x94, x95, x96, x97, x98, x99, x100, x101, x102, x103, x104, x105, x106, x107, x108, x109, x110, x111, x112, x113, x114, x115, x116, x117, x118, x119, x120, x121, x122, x123, x124, x125, x126, x127, x128, x129, x130, x131, x132, x133, x134, x135, x136, x137, x138, x139, x140, x141, x142, x143, x144, x145, x146, x147, x148], defers := [] } W := by
    intro W AQ cQ DN hB hZ hD iN
    refine wpAnyH_ready (by kernel_rfl) (by simp) (AllReadyH.cons (i := 8) (at_nth rfl) ?_ (AllReadyH.nil))
    · have hone := stoA_one12 t AQ cQ
      replace hZ := hZ.far12 iN (stoA t AQ cQ)
      have iN2 := iN.row (stoA t AQ cQ)
      have hB2 := belowRow hB hD (stoA t AQ cQ)
      refine arm10_skip (w' := W.setRow DN (stoA t AQ cQ)) (by kernel_rfl) (run_row10 (x := .tmp 7) (y := .tmp 42) (by kernel_rfl) (by kernel_rfl) (by kernel_rfl) iN infoSto12 rfl hone) hB2 ?_
      simp only [Act.put]
      replace hB := hB2
      replace iN := iN2
      clear iN2 hB2 hone
      refine wpAnyH_pure (i := 9) (v := .int .i64 ev) (at_nth rfl) (by kernel_rfl) (by kernel_rfl) (by kernel_rfl) (fun _ _ _ h => absurd h (HQN _ _ _)) (by kernel_rfl) (fun w hSw => by kernel_rfl) hB ?_
      simp only [Act.put, List.setIfInBounds_toArray, List.set_cons_succ, List.set_cons_zero]
      exact ST2_3_7_8 _ _ _ _ hB hZ hD iN
  have ST2_3 : ∀ (W : World) (AQ : Option Addr) (cQ : Nat), Below W0.heap.size W0 W → InS W t AQ cQ → wpAnyH Try.prog .any (opsOf Try.f9 5) Q (fun W => Below W0.heap.size W0 W) 3 #[true, true, true, true, true, true, true, false, false, false] { tmps := #[x0, x1, x2, x3, .string l, .pointer (some ⟨D1, 0, none⟩), x6, x7, x8, x9, x10, x11, x12, x13, x14, x15, x16, x17, x18, x19, x20, x21, x22, x23, x24, x25, x26, x27, x28, x29, x30, x31, x32, x33, x34, x35, x36, .tuple #[stoV t AQ cQ, .int .i64 ev], .agg (stoA s A c), .string l, .string x, .tuple #[stoV t AQ cQ, .int .i64 ev], stoV t AQ cQ, .int .i64 ev, x44, x45, x46, x47, x48, x49, x50, x51, x52, x53, x54, x55, x56, x57, x58, x59, x60, x61, x62, x63, x64, x65, x66, x67, x68, x69, x70, x71, x72, x73, x74, x75, x76, x77, x78, x79, x80, x81, x82, x83, x84, x85, x86, x87, x88, x89, x90, x91, x92, x93, x94, x95, x96, x97, x98, x99, x100, x101, x102, x103, x104, x105, x106, x107, x108, x109, x110, x111, x112, x113, x114, x115, x116, x117, x118, x119, x120, x121, x122, x123, x124, x125, x126, x127, x128, x129, x130, x131, x132, x133, x134, x135, x136, x137, x138, x139, x140, x141, x142, x143, x144, x145, x146, x147, x148], defers := [] } W := by
    intro W AQ cQ hB hZ
    refine wpAnyH_ready (by kernel_rfl) (by simp) (AllReadyH.cons (i := 7) (at_nth rfl) ?_ (AllReadyH.nil))
    · have iN := Is.new W 31 #[.slice none 0 0, .int .i64 0, .int .i64 0]
      replace hZ := hZ.keep ((Below.refl _ _).alloc (Nat.le_refl _) (.cells #[.slice none 0 0, .int .i64 0, .int .i64 0] 31))
      have hD := hB.size
      replace hB := hB.alloc hB.size (.cells #[.slice none 0 0, .int .i64 0, .int .i64 0] 31)
      refine arm10_value (v := .pointer (some ⟨W.heap.size, 0, none⟩)) (w' := W.alloc (.cells #[.slice none 0 0, .int .i64 0, .int .i64 0] 31)) (by kernel_rfl) (by go_simp) hB ?_
      simp only [Act.put, List.setIfInBounds_toArray, List.set_cons_succ, List.set_cons_zero]
      exact ST2_3_7 _ _ _ _ hB hZ hD iN
  have ST2_7 : ∀ (W : World) (DN : Nat), Below W0.heap.size W0 W → W0.heap.size ≤ DN → Is W DN 31 #[.slice none 0 0, .int .i64 0, .int .i64 0] → wpAnyH Try.prog .any (opsOf Try.f9 5) Q (fun W => Below W0.heap.size W0 W) 6 #[true, true, true, false, false, false, false, true, false, false] { tmps := #[x0, x1, x2, x3, .string l, .pointer (some ⟨D1, 0, none⟩), x6, .pointer (some ⟨DN, 0, none⟩), x8, x9, x10, x11, x12, x13, x14, x15, x16, x17, x18, x19, x20, x21, x22, x23, x24, x25, x26, x27, x28, x29, x30, x31, x32, x33, x34, x35, x36, x37, .agg (stoA s A c), .string l, .string x, x41, x42, x43, x44, x45, x46, x47, x48, x49, x50, x51, x52, x53, x54, x55, x56, x57, x58, x59, x60, x61, x62, x63, x64, x65, x66, x67, x68, x69, x70, x71, x72, x73, x74, x75, x76, x77, x78, x79, x80, x81, x82, x83, x84, x85, x86, x87, x88, x89, x90, x91, x92, x93, x94, x95, x96, x97, x98, x99, x100, x101, x102, x103, x104, x105, x106, x107, x108, x109, x110, x111, x112, x113, x114, x115, x116, x117, x118, x119, x120, x121, x122, x123, x124, x125, x126, x127, x128, x129, x130, x131, x132, x133, x134, x135, x136, x137, x138, x139, x140, x141, x142, x143, x144, x145, x146, x147, x148], defers := [] } W := by
    intro W DN hB hD iN
    refine wpAnyH_ready (by kernel_rfl) (by simp) (AllReadyH.cons (i := 3) (at_nth rfl) ?_ (AllReadyH.nil))
    · refine arm10_call (by kernel_rfl) (fun wy => by kernel_rfl) ((HP.out _ hB).mono ?_)
      rintro e Wn ⟨AQ, cQ, rfl, hZ, hb⟩
      replace iN := iN.below hb iN.lt
      replace hB := hB.trans (hb.mono hB.size)
      clear hb
      refine ⟨_, rfl, hB, ?_⟩
      simp only [Act.put, List.setIfInBounds_toArray, List.set_cons_succ, List.set_cons_zero]
      refine wpAnyH_pure (i := 4) (v := .tuple #[stoV t AQ cQ, .int .i64 ev]) (at_nth rfl) (by kernel_rfl) (by kernel_rfl) (by kernel_rfl) (fun _ _ _ h => absurd h (HQN _ _ _)) (by kernel_rfl) (fun w hSw => by kernel_rfl) hB ?_
      simp only [Act.put, List.setIfInBounds_toArray, List.set_cons_succ, List.set_cons_zero]
      refine wpAnyH_pure (i := 5) (v := stoV t AQ cQ) (at_nth rfl) (by kernel_rfl) (by kernel_rfl) (by kernel_rfl) (fun _ _ _ h => absurd h (HQN _ _ _)) (by kernel_rfl) (fun w hSw => by kernel_rfl) hB ?_
      simp only [Act.put, List.setIfInBounds_toArray, List.set_cons_succ, List.set_cons_zero]
      refine wpAnyH_pure (i := 6) (v := .int .i64 ev) (at_nth rfl) (by kernel_rfl) (by kernel_rfl) (by kernel_rfl) (fun _ _ _ h => absurd h (HQN _ _ _)) (by kernel_rfl) (fun w hSw => by kernel_rfl) hB ?_
      simp only [Act.put, List.setIfInBounds_toArray, List.set_cons_succ, List.set_cons_zero]
      exact ST2_3_7 _ _ _ _ hB hZ hD iN
  have ST2 : ∀ (W : World), Below W0.heap.size W0 W → wpAnyH Try.prog .any (opsOf Try.f9 5) Q (fun W => Below W0.heap.size W0 W) 7 #[true, true, true, false, false, false, false, false, false, false] { tmps := #[x0, x1, x2, x3, .string l, .pointer (some ⟨D1, 0, none⟩), x6, x7, x8, x9, x10, x11, x12, x13, x14, x15, x16, x17, x18, x19, x20, x21, x22, x23, x24, x25, x26, x27, x28, x29, x30, x31, x32, x33, x34, x35, x36, x37, .agg (stoA s A c), .string l, .string x, x41, x42, x43, x44, x45, x46, x47, x48, x49, x50, x51, x52, x53, x54, x55, x56, x57, x58, x59, x60, x61, x62, x63, x64, x65, x66, x67, x68, x69, x70, x71, x72, x73, x74, x75, x76, x77, x78, x79, x80, x81, x82, x83, x84, x85, x86, x87, x88, x89, x90, x91, x92, x93, x94, x95, x96, x97, x98, x99, x100, x101, x102, x103, x104, x105, x106, x107, x108, x109, x110, x111, x112, x113, x114, x115, x116, x117, x118, x119, x120, x121, x122, x123, x124, x125, x126, x127, x128, x129, x130, x131, x132, x133, x134, x135, x136, x137, x138, x139, x140, x141, x142, x143, x144, x145, x146, x147, x148], defers := [] } W := by
    intro W hB
    refine wpAnyH_ready (by kernel_rfl) (by simp) (AllReadyH.cons (i := 3) (at_nth rfl) ?_ (AllReadyH.cons (i := 7) (at_nth rfl) ?_ (AllReadyH.nil)))
    · refine arm10_call (by kernel_rfl) (fun wy => by kernel_rfl) ((HP.out _ hB).mono ?_)
      rintro e Wn ⟨AQ, cQ, rfl, hZ, hb⟩
      replace hB := hB.trans (hb.mono hB.size)
      clear hb
      refine ⟨_, rfl, hB, ?_⟩
      simp only [Act.put, List.setIfInBounds_toArray, List.set_cons_succ, List.set_cons_zero]
      refine wpAnyH_pure (i := 4) (v := .tuple #[stoV t AQ cQ, .int .i64 ev]) (at_nth rfl) (by kernel_rfl) (by kernel_rfl) (by kernel_rfl) (fun _ _ _ h => absurd h (HQN _ _ _)) (by kernel_rfl) (fun w hSw => by kernel_rfl) hB ?_
      simp only [Act.put, List.setIfInBounds_toArray, List.set_cons_succ, List.set_cons_zero]
      refine wpAnyH_pure (i := 5) (v := stoV t AQ cQ) (at_nth rfl) (by kernel_rfl) (by kernel_rfl) (by kernel_rfl) (fun _ _ _ h => absurd h (HQN _ _ _)) (by kernel_rfl) (fun w hSw => by kernel_rfl) hB ?_
      simp only [Act.put, List.setIfInBounds_toArray, List.set_cons_succ, List.set_cons_zero]
      refine wpAnyH_pure (i := 6) (v := .int .i64 ev) (at_nth rfl) (by kernel_rfl) (by kernel_rfl) (by kernel_rfl) (fun _ _ _ h => absurd h (HQN _ _ _)) (by kernel_rfl) (fun w hSw => by kernel_rfl) hB ?_
      simp only [Act.put, List.setIfInBounds_toArray, List.set_cons_succ, List.set_cons_zero]
      exact ST2_3 _ _ _ hB hZ
    · have iN := Is.new W 31 #[.slice none 0 0, .int .i64 0, .int .i64 0]
      have hD := hB.size
      replace hB := hB.alloc hB.size (.cells #[.slice none 0 0, .int .i64 0, .int .i64 0] 31)
      refine arm10_value (v := .pointer (some ⟨W.heap.size, 0, none⟩)) (w' := W.alloc (.cells #[.slice none 0 0, .int .i64 0, .int .i64 0] 31)) (by kernel_rfl) (by go_simp) hB ?_
      simp only [Act.put, List.setIfInBounds_toArray, List.set_cons_succ, List.set_cons_zero]
      exact ST2_7 _ _ hB hD iN
  have ST7 : ∀ (W : World) (DN : Nat), Below W0.heap.size W0 W → W0.heap.size ≤ DN → Is W DN 31 #[.slice none 0 0, .int .i64 0, .int .i64 0] → wpAnyH Try.prog .any (opsOf Try.f9 5) Q (fun W => Below W0.heap.size W0 W) 7 #[true, true, false, false, false, false, false, true, false, false] { tmps := #[x0, x1, x2, x3, .string l, .pointer (some ⟨D1, 0, none⟩), x6, .pointer (some ⟨DN, 0, none⟩), x8, x9, x10, x11, x12, x13, x14, x15, x16, x17, x18, x19, x20, x21, x22, x23, x24, x25, x26, x27, x28, x29, x30, x31, x32, x33, x34, x35, x36, x37, .agg (stoA s A c), .string l, x40, x41, x42, x43, x44, x45, x46, x47, x48, x49, x50, x51, x52, x53, x54, x55, x56, x57, x58, x59, x60, x61, x62, x63, x64, x65, x66, x67, x68, x69, x70, x71, x72, x73, x74, x75, x76, x77, x78, x79, x80, x81, x82, x83, x84, x85, x86, x87, x88, x89, x90, x91, x92, x93, x94, x95, x96, x97, x98, x99, x100, x101, x102, x103, x104, x105, x106, x107, x108, x109, x110, x111, x112, x113, x114, x115, x116, x117, x118, x119, x120, x121, x122, x123, x124, x125, x126, x127, x128, x129, x130, x131, x132, x133, x134, x135, x136, x137, x138, x139, x140, x141, x142, x143, x144, x145, x146, x147, x148], defers := [] } W := by
    intro W DN hB hD iN
    refine wpAnyH_ready (by kernel_rfl) (by simp) (AllReadyH.cons (i := 2) (at_nth rfl) ?_ (AllReadyH.nil))
    · refine arm10_call (by kernel_rfl) (fun wy => by kernel_rfl) ((HC.out _).mono ?_)
      rintro e Wn ⟨rfl, hb⟩
      replace iN := iN.below hb iN.lt
      replace hB := hB.trans (hb.mono hB.size)
      clear hb
      refine ⟨_, rfl, hB, ?_⟩
      simp only [Act.put, List.setIfInBounds_toArray, List.set_cons_succ, List.set_cons_zero]
      exact ST2_7 _ _ hB hD iN
  have ST : ∀ (W : World), Below W0.heap.size W0 W → wpAnyH Try.prog .any (opsOf Try.f9 5) Q (fun W => Below W0.heap.size W0 W) 8 #[true, true, false, false, false, false, false, false, false, false] { tmps := #[x0, x1, x2, x3, .string l, .pointer (some ⟨D1, 0, none⟩), x6, x7, x8, x9, x10, x11, x12, x13, x14, x15, x16, x17, x18, x19, x20, x21, x22, x23, x24, x25, x26, x27, x28, x29, x30, x31, x32, x33, x34, x35, x36, x37, .agg (stoA s A c), .string l, x40, x41, x42, x43, x44, x45, x46, x47, x48, x49, x50, x51, x52, x53, x54, x55, x56, x57, x58, x59, x60, x61, x62, x63, x64, x65, x66, x67, x68, x69, x70, x71, x72, x73, x74, x75, x76, x77, x78, x79, x80, x81, x82, x83, x84, x85, x86, x87, x88, x89, x90, x91, x92, x93, x94, x95, x96, x97, x98, x99, x100, x101, x102, x103, x104, x105, x106, x107, x108, x109, x110, x111, x112, x113, x114, x115, x116, x117, x118, x119, x120, x121, x122, x123, x124, x125, x126, x127, x128, x129, x130, x131, x132, x133, x134, x135, x136, x137, x138, x139, x140, x141, x142, x143, x144, x145, x146, x147, x148], defers := [] } W := by
    intro W hB
    refine wpAnyH_ready (by kernel_rfl) (by simp) (AllReadyH.cons (i := 2) (at_nth rfl) ?_ (AllReadyH.cons (i := 7) (at_nth rfl) ?_ (AllReadyH.nil)))
    · refine arm10_call (by kernel_rfl) (fun wy => by kernel_rfl) ((HC.out _).mono ?_)
      rintro e Wn ⟨rfl, hb⟩
      replace hB := hB.trans (hb.mono hB.size)
      clear hb
      refine ⟨_, rfl, hB, ?_⟩
      simp only [Act.put, List.setIfInBounds_toArray, List.set_cons_succ, List.set_cons_zero]
      exact ST2 _ hB
    · have iN := Is.new W 31 #[.slice none 0 0, .int .i64 0, .int .i64 0]
      have hD := hB.size
      replace hB := hB.alloc hB.size (.cells #[.slice none 0 0, .int .i64 0, .int .i64 0] 31)
      refine arm10_value (v := .pointer (some ⟨W.heap.size, 0, none⟩)) (w' := W.alloc (.cells #[.slice none 0 0, .int .i64 0, .int .i64 0] 31)) (by kernel_rfl) (by go_simp) hB ?_
      simp only [Act.put, List.setIfInBounds_toArray, List.set_cons_succ, List.set_cons_zero]
      exact ST7 _ _ hB hD iN
  refine wp_region_held_drew (S := fun W => Below W0.heap.size W0 W) (by kernel_rfl) hB (fun hS => ?_)
  change wpAnyH _ _ (opsOf Try.f9 5) _ _ 10 (Array.replicate 10 false) _ (W0.drewN 1)
  clear hS
  replace hB : Below W0.heap.size W0 (W0.drewN 1) := belowN (Below.refl _ _) 1
  refine wpAnyH_pure (i := 0) (v := .agg (stoA s A c)) (at_nth rfl) (by kernel_rfl) (by kernel_rfl) (by kernel_rfl) (fun _ _ _ h => absurd h (HQN _ _ _)) (by kernel_rfl) (fun w hSw => by exact run_load_rowO (x := .tmp 5) (by kernel_rfl) (by kernel_rfl) (i1.below hSw i1.lt) Try.underlying31 rfl infoSto12) hB ?_
  simp only [Act.put, List.setIfInBounds_toArray, List.set_cons_succ, List.set_cons_zero]
  refine wpAnyH_pure (i := 1) (v := .string l) (at_nth rfl) (by kernel_rfl) (by kernel_rfl) (by kernel_rfl) (fun _ _ _ h => absurd h (HQN _ _ _)) (by kernel_rfl) (fun w hSw => by kernel_rfl) hB ?_
  simp only [Act.put, List.setIfInBounds_toArray, List.set_cons_succ, List.set_cons_zero]
  exact ST _ hB

set_option maxRecDepth 100000 in
set_option maxHeartbeats 4000000 in
theorem aw12_11 (W0 : World) (D1 : Nat) (s t : Sto12) (A : Option Addr) (c : Nat) (x : ByteArray) (ev : Int) (i1 : Is W0 D1 31 (stoA s A c)) (HC : Hid (∀ W, Calls Try.prog 24 #[.int .i64 1] W fun e w' => e = .returned (.string x) ∧ Below W.heap.size W w')) (HP : Hid (∀ W, Below W0.heap.size W0 W → Calls Try.prog 25 #[stoV s A c, .string ⟨#[97]⟩, .string x] W fun e w' => ∃ A1 c1, e = .returned (.tuple #[stoV t A1 c1, .int .i64 ev]) ∧ InS w' t A1 c1 ∧ Below W.heap.size W w')) (x0 x2 x3 x4 x5 x6 x7 x8 x9 x10 x11 x12 x13 x14 x15 x16 x17 x18 x19 x20 x21 x22 x23 x24 x25 x26 x27 x28 x29 x30 x31 x32 x33 x34 x35 x36 x37 x38 x39 x40 x41 x42 x43 x44 x45 x46 x47 x48 x49 x50 x51 x52 x53 x54 x55 x56 x57 x58 x59 x60 x61 x62 x63 x64 x65 x66 x67 x68 x69 x70 x71 x72 x73 x74 x75 x76 x77 x78 x79 x80 x81 x82 x83 x84 x85 x86 x87 x88 x89 x90 x91 x92 x93 x94 x95 x96 x97 x98 x99 x100 x101 x102 x103 x104 x105 x106 x107 x108 x109 x110 x111 x112 x113 x114 x115 x116 x117 x118 x119 x120 x121 x122 x123 x124 x125 x126 x127 x128 x129 x130 x131 x132 x133 x134 x135 x136 x137 x138 x139 x140 x141 x142 x143 x144 x145 x146 x147 x148 : Value) :
    (Code.region 11 (opsOf Try.f9 11) true).wp Try.prog (fun ex YY W => ex = .normal ∧ YY.defers = [] ∧ ∃ (AQ : Option Addr) (cQ : Nat) (DN : Nat), YY.tmps = #[x0, .pointer (some ⟨D1, 0, none⟩), x2, x3, x4, x5, x6, x7, x8, x9, x10, x11, x12, x13, x14, x15, x16, x17, x18, .pointer (some ⟨DN, 0, none⟩), .int .i64 ev, x21, x22, x23, x24, x25, x26, x27, x28, x29, x30, x31, x32, x33, x34, x35, x36, x37, x38, x39, x40, x41, x42, x43, x44, x45, x46, x47, x48, x49, x50, x51, x52, x53, x54, x55, x56, x57, x58, x59, x60, x61, x62, x63, x64, x65, x66, x67, x68, .tuple #[stoV t AQ cQ, .int .i64 ev], .agg (stoA s A c), .string x, .tuple #[stoV t AQ cQ, .int .i64 ev], stoV t AQ cQ, .int .i64 ev, x75, x76, x77, x78, x79, x80, x81, x82, x83, x84, x85, x86, x87, x88, x89, x90, x91, x92, x93, x94, x95, x96, x97, x98, x99, x100, x101, x102, x103, x104, x105, x106, x107, x108, x109, x110, x111, x112, x113, x114, x115, x116, x117, x118, x119, x120, x121, x122, x123, x124, x125, x126, x127, x128, x129, x130, x131, x132, x133, x134, x135, x136, x137, x138, x139, x140, x141, x142, x143, x144, x145, x146, x147, x148] ∧ Below W0.heap.size W0 W ∧ InS W t AQ cQ ∧ W0.heap.size ≤ DN ∧ Is W DN 31 (stoA t AQ cQ)) { tmps := #[x0, .pointer (some ⟨D1, 0, none⟩), x2, x3, x4, x5, x6, x7, x8, x9, x10, x11, x12, x13, x14, x15, x16, x17, x18, x19, x20, x21, x22, x23, x24, x25, x26, x27, x28, x29, x30, x31, x32, x33, x34, x35, x36, x37, x38, x39, x40, x41, x42, x43, x44, x45, x46, x47, x48, x49, x50, x51, x52, x53, x54, x55, x56, x57, x58, x59, x60, x61, x62, x63, x64, x65, x66, x67, x68, x69, x70, x71, x72, x73, x74, x75, x76, x77, x78, x79, x80, x81, x82, x83, x84, x85, x86, x87, x88, x89, x90, x91, x92, x93, x94, x95, x96, x97, x98, x99, x100, x101, x102, x103, x104, x105, x106, x107, x108, x109, x110, x111, x112, x113, x114, x115, x116, x117, x118, x119, x120, x121, x122, x123, x124, x125, x126, x127, x128, x129, x130, x131, x132, x133, x134, x135, x136, x137, x138, x139, x140, x141, x142, x143, x144, x145, x146, x147, x148], defers := [] } W0 := by
  have hB : Below W0.heap.size W0 (W0.drewN 1) := belowN (Below.refl _ _) 1
  generalize hQ : (fun (ex : Exit) (YY : Act) (W : World) => ex = .normal ∧ YY.defers = [] ∧ ∃ (AQ : Option Addr) (cQ : Nat) (DN : Nat), YY.tmps = #[x0, .pointer (some ⟨D1, 0, none⟩), x2, x3, x4, x5, x6, x7, x8, x9, x10, x11, x12, x13, x14, x15, x16, x17, x18, .pointer (some ⟨DN, 0, none⟩), .int .i64 ev, x21, x22, x23, x24, x25, x26, x27, x28, x29, x30, x31, x32, x33, x34, x35, x36, x37, x38, x39, x40, x41, x42, x43, x44, x45, x46, x47, x48, x49, x50, x51, x52, x53, x54, x55, x56, x57, x58, x59, x60, x61, x62, x63, x64, x65, x66, x67, x68, .tuple #[stoV t AQ cQ, .int .i64 ev], .agg (stoA s A c), .string x, .tuple #[stoV t AQ cQ, .int .i64 ev], stoV t AQ cQ, .int .i64 ev, x75, x76, x77, x78, x79, x80, x81, x82, x83, x84, x85, x86, x87, x88, x89, x90, x91, x92, x93, x94, x95, x96, x97, x98, x99, x100, x101, x102, x103, x104, x105, x106, x107, x108, x109, x110, x111, x112, x113, x114, x115, x116, x117, x118, x119, x120, x121, x122, x123, x124, x125, x126, x127, x128, x129, x130, x131, x132, x133, x134, x135, x136, x137, x138, x139, x140, x141, x142, x143, x144, x145, x146, x147, x148] ∧ Below W0.heap.size W0 W ∧ InS W t AQ cQ ∧ W0.heap.size ≤ DN ∧ Is W DN 31 (stoA t AQ cQ)) = Q
  have HQN : ∀ c a W, ¬ Q (.panic c) a W := fun c a W h => by subst hQ; exact nomatch h.1
  have ST1_2_6_7 : ∀ (W : World) (AQ : Option Addr) (cQ : Nat) (DN : Nat), Below W0.heap.size W0 W → InS W t AQ cQ → W0.heap.size ≤ DN → Is W DN 31 (stoA t AQ cQ) → wpAnyH Try.prog .any (opsOf Try.f9 11) Q (fun W => Below W0.heap.size W0 W) 0 #[true, true, true, true, true, true, true, true, true] { tmps := #[x0, .pointer (some ⟨D1, 0, none⟩), x2, x3, x4, x5, x6, x7, x8, x9, x10, x11, x12, x13, x14, x15, x16, x17, x18, .pointer (some ⟨DN, 0, none⟩), .int .i64 ev, x21, x22, x23, x24, x25, x26, x27, x28, x29, x30, x31, x32, x33, x34, x35, x36, x37, x38, x39, x40, x41, x42, x43, x44, x45, x46, x47, x48, x49, x50, x51, x52, x53, x54, x55, x56, x57, x58, x59, x60, x61, x62, x63, x64, x65, x66, x67, x68, .tuple #[stoV t AQ cQ, .int .i64 ev], .agg (stoA s A c), .string x, .tuple #[stoV t AQ cQ, .int .i64 ev], stoV t AQ cQ, .int .i64 ev, x75, x76, x77, x78, x79, x80, x81, x82, x83, x84, x85, x86, x87, x88, x89, x90, x91, x92, x93, x94, x95, x96, x97, x98, x99, x100, x101, x102, x103, x104, x105, x106, x107, x108, x109, x110, x111, x112, x113, x114, x115, x116, x117, x118, x119, x120, x121, x122, x123, x124, x125, x126, x127, x128, x129, x130, x131, x132, x133, x134, x135, x136, x137, x138, x139, x140, x141, x142, x143, x144, x145, x146, x147, x148], defers := [] } W := by
    intro W AQ cQ DN hB hZ hD iN
    refine wpAnyH_done (by kernel_rfl) ?_ _
    subst hQ
    exact ⟨rfl, rfl, AQ, cQ, DN, rfl, hB, hZ, hD, iN⟩
  have ST1_2_6 : ∀ (W : World) (AQ : Option Addr) (cQ : Nat) (DN : Nat), Below W0.heap.size W0 W → InS W t AQ cQ → W0.heap.size ≤ DN → Is W DN 31 #[.slice none 0 0, .int .i64 0, .int .i64 0] → wpAnyH Try.prog .any (opsOf Try.f9 11) Q (fun W => Below W0.heap.size W0 W) 2 #[true, true, true, true, true, true, true, false, false] { tmps := #[x0, .pointer (some ⟨D1, 0, none⟩), x2, x3, x4, x5, x6, x7, x8, x9, x10, x11, x12, x13, x14, x15, x16, x17, x18, .pointer (some ⟨DN, 0, none⟩), x20, x21, x22, x23, x24, x25, x26, x27, x28, x29, x30, x31, x32, x33, x34, x35, x36, x37, x38, x39, x40, x41, x42, x43, x44, x45, x46, x47, x48, x49, x50, x51, x52, x53, x54, x55, x56, x57, x58, x59, x60, x61, x62, x63, x64, x65, x66, x67, x68, .tuple #[stoV t AQ cQ, .int .i64 ev], .agg (stoA s A c), .string x, .tuple #[stoV t AQ cQ, .int .i64 ev], stoV t AQ cQ, .int .i64 ev, x75, x76, x77, x78, x79, x80, x81, x82, x83, x84, x85, x86, x87, x88, x89, x90, x91, x92, x93, x94, x95, x96, x97, x98, x99, x100, x101, x102, x103, x104, x105, x106, x107, x108, x109, x110, x111, x112, x113, x114, x115, x116, x117, x118, x119, x120, x121, x122, x123, x124, x125, x126, x127, x128, x129, x130, x131, x132, x133, x134, x135, x136, x137, x138, x139, x140, x141, x142, x143, x144, x145, x146, x147, x148], defers := [] } W := by
    intro W AQ cQ DN hB hZ hD iN
    refine wpAnyH_ready (by kernel_rfl) (by simp) (AllReadyH.cons (i := 7) (at_nth rfl) ?_ (AllReadyH.nil))
    · have hone := stoA_one12 t AQ cQ
      replace hZ := hZ.far12 iN (stoA t AQ cQ)
      have iN2 := iN.row (stoA t AQ cQ)
      have hB2 := belowRow hB hD (stoA t AQ cQ)
      refine arm10_skip (w' := W.setRow DN (stoA t AQ cQ)) (by kernel_rfl) (run_row10 (x := .tmp 19) (y := .tmp 73) (by kernel_rfl) (by kernel_rfl) (by kernel_rfl) iN infoSto12 rfl hone) hB2 ?_
      simp only [Act.put]
      replace hB := hB2
      replace iN := iN2
      clear iN2 hB2 hone
      refine wpAnyH_pure (i := 8) (v := .int .i64 ev) (at_nth rfl) (by kernel_rfl) (by kernel_rfl) (by kernel_rfl) (fun _ _ _ h => absurd h (HQN _ _ _)) (by kernel_rfl) (fun w hSw => by kernel_rfl) hB ?_
      simp only [Act.put, List.setIfInBounds_toArray, List.set_cons_succ, List.set_cons_zero]
      exact ST1_2_6_7 _ _ _ _ hB hZ hD iN
  have ST1_2 : ∀ (W : World) (AQ : Option Addr) (cQ : Nat), Below W0.heap.size W0 W → InS W t AQ cQ → wpAnyH Try.prog .any (opsOf Try.f9 11) Q (fun W => Below W0.heap.size W0 W) 3 #[true, true, true, true, true, true, false, false, false] { tmps := #[x0, .pointer (some ⟨D1, 0, none⟩), x2, x3, x4, x5, x6, x7, x8, x9, x10, x11, x12, x13, x14, x15, x16, x17, x18, x19, x20, x21, x22, x23, x24, x25, x26, x27, x28, x29, x30, x31, x32, x33, x34, x35, x36, x37, x38, x39, x40, x41, x42, x43, x44, x45, x46, x47, x48, x49, x50, x51, x52, x53, x54, x55, x56, x57, x58, x59, x60, x61, x62, x63, x64, x65, x66, x67, x68, .tuple #[stoV t AQ cQ, .int .i64 ev], .agg (stoA s A c), .string x, .tuple #[stoV t AQ cQ, .int .i64 ev], stoV t AQ cQ, .int .i64 ev, x75, x76, x77, x78, x79, x80, x81, x82, x83, x84, x85, x86, x87, x88, x89, x90, x91, x92, x93, x94, x95, x96, x97, x98, x99, x100, x101, x102, x103, x104, x105, x106, x107, x108, x109, x110, x111, x112, x113, x114, x115, x116, x117, x118, x119, x120, x121, x122, x123, x124, x125, x126, x127, x128, x129, x130, x131, x132, x133, x134, x135, x136, x137, x138, x139, x140, x141, x142, x143, x144, x145, x146, x147, x148], defers := [] } W := by
    intro W AQ cQ hB hZ
    refine wpAnyH_ready (by kernel_rfl) (by simp) (AllReadyH.cons (i := 6) (at_nth rfl) ?_ (AllReadyH.nil))
    · have iN := Is.new W 31 #[.slice none 0 0, .int .i64 0, .int .i64 0]
      replace hZ := hZ.keep ((Below.refl _ _).alloc (Nat.le_refl _) (.cells #[.slice none 0 0, .int .i64 0, .int .i64 0] 31))
      have hD := hB.size
      replace hB := hB.alloc hB.size (.cells #[.slice none 0 0, .int .i64 0, .int .i64 0] 31)
      refine arm10_value (v := .pointer (some ⟨W.heap.size, 0, none⟩)) (w' := W.alloc (.cells #[.slice none 0 0, .int .i64 0, .int .i64 0] 31)) (by kernel_rfl) (by go_simp) hB ?_
      simp only [Act.put, List.setIfInBounds_toArray, List.set_cons_succ, List.set_cons_zero]
      exact ST1_2_6 _ _ _ _ hB hZ hD iN
  have ST1_6 : ∀ (W : World) (DN : Nat), Below W0.heap.size W0 W → W0.heap.size ≤ DN → Is W DN 31 #[.slice none 0 0, .int .i64 0, .int .i64 0] → wpAnyH Try.prog .any (opsOf Try.f9 11) Q (fun W => Below W0.heap.size W0 W) 6 #[true, true, false, false, false, false, true, false, false] { tmps := #[x0, .pointer (some ⟨D1, 0, none⟩), x2, x3, x4, x5, x6, x7, x8, x9, x10, x11, x12, x13, x14, x15, x16, x17, x18, .pointer (some ⟨DN, 0, none⟩), x20, x21, x22, x23, x24, x25, x26, x27, x28, x29, x30, x31, x32, x33, x34, x35, x36, x37, x38, x39, x40, x41, x42, x43, x44, x45, x46, x47, x48, x49, x50, x51, x52, x53, x54, x55, x56, x57, x58, x59, x60, x61, x62, x63, x64, x65, x66, x67, x68, x69, .agg (stoA s A c), .string x, x72, x73, x74, x75, x76, x77, x78, x79, x80, x81, x82, x83, x84, x85, x86, x87, x88, x89, x90, x91, x92, x93, x94, x95, x96, x97, x98, x99, x100, x101, x102, x103, x104, x105, x106, x107, x108, x109, x110, x111, x112, x113, x114, x115, x116, x117, x118, x119, x120, x121, x122, x123, x124, x125, x126, x127, x128, x129, x130, x131, x132, x133, x134, x135, x136, x137, x138, x139, x140, x141, x142, x143, x144, x145, x146, x147, x148], defers := [] } W := by
    intro W DN hB hD iN
    refine wpAnyH_ready (by kernel_rfl) (by simp) (AllReadyH.cons (i := 2) (at_nth rfl) ?_ (AllReadyH.nil))
    · refine arm10_call (by kernel_rfl) (fun wy => by kernel_rfl) ((HP.out _ hB).mono ?_)
      rintro e Wn ⟨AQ, cQ, rfl, hZ, hb⟩
      replace iN := iN.below hb iN.lt
      replace hB := hB.trans (hb.mono hB.size)
      clear hb
      refine ⟨_, rfl, hB, ?_⟩
      simp only [Act.put, List.setIfInBounds_toArray, List.set_cons_succ, List.set_cons_zero]
      refine wpAnyH_pure (i := 3) (v := .tuple #[stoV t AQ cQ, .int .i64 ev]) (at_nth rfl) (by kernel_rfl) (by kernel_rfl) (by kernel_rfl) (fun _ _ _ h => absurd h (HQN _ _ _)) (by kernel_rfl) (fun w hSw => by kernel_rfl) hB ?_
      simp only [Act.put, List.setIfInBounds_toArray, List.set_cons_succ, List.set_cons_zero]
      refine wpAnyH_pure (i := 4) (v := stoV t AQ cQ) (at_nth rfl) (by kernel_rfl) (by kernel_rfl) (by kernel_rfl) (fun _ _ _ h => absurd h (HQN _ _ _)) (by kernel_rfl) (fun w hSw => by kernel_rfl) hB ?_
      simp only [Act.put, List.setIfInBounds_toArray, List.set_cons_succ, List.set_cons_zero]
      refine wpAnyH_pure (i := 5) (v := .int .i64 ev) (at_nth rfl) (by kernel_rfl) (by kernel_rfl) (by kernel_rfl) (fun _ _ _ h => absurd h (HQN _ _ _)) (by kernel_rfl) (fun w hSw => by kernel_rfl) hB ?_
      simp only [Act.put, List.setIfInBounds_toArray, List.set_cons_succ, List.set_cons_zero]
      exact ST1_2_6 _ _ _ _ hB hZ hD iN
  have ST1 : ∀ (W : World), Below W0.heap.size W0 W → wpAnyH Try.prog .any (opsOf Try.f9 11) Q (fun W => Below W0.heap.size W0 W) 7 #[true, true, false, false, false, false, false, false, false] { tmps := #[x0, .pointer (some ⟨D1, 0, none⟩), x2, x3, x4, x5, x6, x7, x8, x9, x10, x11, x12, x13, x14, x15, x16, x17, x18, x19, x20, x21, x22, x23, x24, x25, x26, x27, x28, x29, x30, x31, x32, x33, x34, x35, x36, x37, x38, x39, x40, x41, x42, x43, x44, x45, x46, x47, x48, x49, x50, x51, x52, x53, x54, x55, x56, x57, x58, x59, x60, x61, x62, x63, x64, x65, x66, x67, x68, x69, .agg (stoA s A c), .string x, x72, x73, x74, x75, x76, x77, x78, x79, x80, x81, x82, x83, x84, x85, x86, x87, x88, x89, x90, x91, x92, x93, x94, x95, x96, x97, x98, x99, x100, x101, x102, x103, x104, x105, x106, x107, x108, x109, x110, x111, x112, x113, x114, x115, x116, x117, x118, x119, x120, x121, x122, x123, x124, x125, x126, x127, x128, x129, x130, x131, x132, x133, x134, x135, x136, x137, x138, x139, x140, x141, x142, x143, x144, x145, x146, x147, x148], defers := [] } W := by
    intro W hB
    refine wpAnyH_ready (by kernel_rfl) (by simp) (AllReadyH.cons (i := 2) (at_nth rfl) ?_ (AllReadyH.cons (i := 6) (at_nth rfl) ?_ (AllReadyH.nil)))
    · refine arm10_call (by kernel_rfl) (fun wy => by kernel_rfl) ((HP.out _ hB).mono ?_)
      rintro e Wn ⟨AQ, cQ, rfl, hZ, hb⟩
      replace hB := hB.trans (hb.mono hB.size)
      clear hb
      refine ⟨_, rfl, hB, ?_⟩
      simp only [Act.put, List.setIfInBounds_toArray, List.set_cons_succ, List.set_cons_zero]
      refine wpAnyH_pure (i := 3) (v := .tuple #[stoV t AQ cQ, .int .i64 ev]) (at_nth rfl) (by kernel_rfl) (by kernel_rfl) (by kernel_rfl) (fun _ _ _ h => absurd h (HQN _ _ _)) (by kernel_rfl) (fun w hSw => by kernel_rfl) hB ?_
      simp only [Act.put, List.setIfInBounds_toArray, List.set_cons_succ, List.set_cons_zero]
      refine wpAnyH_pure (i := 4) (v := stoV t AQ cQ) (at_nth rfl) (by kernel_rfl) (by kernel_rfl) (by kernel_rfl) (fun _ _ _ h => absurd h (HQN _ _ _)) (by kernel_rfl) (fun w hSw => by kernel_rfl) hB ?_
      simp only [Act.put, List.setIfInBounds_toArray, List.set_cons_succ, List.set_cons_zero]
      refine wpAnyH_pure (i := 5) (v := .int .i64 ev) (at_nth rfl) (by kernel_rfl) (by kernel_rfl) (by kernel_rfl) (fun _ _ _ h => absurd h (HQN _ _ _)) (by kernel_rfl) (fun w hSw => by kernel_rfl) hB ?_
      simp only [Act.put, List.setIfInBounds_toArray, List.set_cons_succ, List.set_cons_zero]
      exact ST1_2 _ _ _ hB hZ
    · have iN := Is.new W 31 #[.slice none 0 0, .int .i64 0, .int .i64 0]
      have hD := hB.size
      replace hB := hB.alloc hB.size (.cells #[.slice none 0 0, .int .i64 0, .int .i64 0] 31)
      refine arm10_value (v := .pointer (some ⟨W.heap.size, 0, none⟩)) (w' := W.alloc (.cells #[.slice none 0 0, .int .i64 0, .int .i64 0] 31)) (by kernel_rfl) (by go_simp) hB ?_
      simp only [Act.put, List.setIfInBounds_toArray, List.set_cons_succ, List.set_cons_zero]
      exact ST1_6 _ _ hB hD iN
  have ST6 : ∀ (W : World) (DN : Nat), Below W0.heap.size W0 W → W0.heap.size ≤ DN → Is W DN 31 #[.slice none 0 0, .int .i64 0, .int .i64 0] → wpAnyH Try.prog .any (opsOf Try.f9 11) Q (fun W => Below W0.heap.size W0 W) 7 #[true, false, false, false, false, false, true, false, false] { tmps := #[x0, .pointer (some ⟨D1, 0, none⟩), x2, x3, x4, x5, x6, x7, x8, x9, x10, x11, x12, x13, x14, x15, x16, x17, x18, .pointer (some ⟨DN, 0, none⟩), x20, x21, x22, x23, x24, x25, x26, x27, x28, x29, x30, x31, x32, x33, x34, x35, x36, x37, x38, x39, x40, x41, x42, x43, x44, x45, x46, x47, x48, x49, x50, x51, x52, x53, x54, x55, x56, x57, x58, x59, x60, x61, x62, x63, x64, x65, x66, x67, x68, x69, .agg (stoA s A c), x71, x72, x73, x74, x75, x76, x77, x78, x79, x80, x81, x82, x83, x84, x85, x86, x87, x88, x89, x90, x91, x92, x93, x94, x95, x96, x97, x98, x99, x100, x101, x102, x103, x104, x105, x106, x107, x108, x109, x110, x111, x112, x113, x114, x115, x116, x117, x118, x119, x120, x121, x122, x123, x124, x125, x126, x127, x128, x129, x130, x131, x132, x133, x134, x135, x136, x137, x138, x139, x140, x141, x142, x143, x144, x145, x146, x147, x148], defers := [] } W := by
    intro W DN hB hD iN
    refine wpAnyH_ready (by kernel_rfl) (by simp) (AllReadyH.cons (i := 1) (at_nth rfl) ?_ (AllReadyH.nil))
    · refine arm10_call (by kernel_rfl) (fun wy => by kernel_rfl) ((HC.out _).mono ?_)
      rintro e Wn ⟨rfl, hb⟩
      replace iN := iN.below hb iN.lt
      replace hB := hB.trans (hb.mono hB.size)
      clear hb
      refine ⟨_, rfl, hB, ?_⟩
      simp only [Act.put, List.setIfInBounds_toArray, List.set_cons_succ, List.set_cons_zero]
      exact ST1_6 _ _ hB hD iN
  have ST : ∀ (W : World), Below W0.heap.size W0 W → wpAnyH Try.prog .any (opsOf Try.f9 11) Q (fun W => Below W0.heap.size W0 W) 8 #[true, false, false, false, false, false, false, false, false] { tmps := #[x0, .pointer (some ⟨D1, 0, none⟩), x2, x3, x4, x5, x6, x7, x8, x9, x10, x11, x12, x13, x14, x15, x16, x17, x18, x19, x20, x21, x22, x23, x24, x25, x26, x27, x28, x29, x30, x31, x32, x33, x34, x35, x36, x37, x38, x39, x40, x41, x42, x43, x44, x45, x46, x47, x48, x49, x50, x51, x52, x53, x54, x55, x56, x57, x58, x59, x60, x61, x62, x63, x64, x65, x66, x67, x68, x69, .agg (stoA s A c), x71, x72, x73, x74, x75, x76, x77, x78, x79, x80, x81, x82, x83, x84, x85, x86, x87, x88, x89, x90, x91, x92, x93, x94, x95, x96, x97, x98, x99, x100, x101, x102, x103, x104, x105, x106, x107, x108, x109, x110, x111, x112, x113, x114, x115, x116, x117, x118, x119, x120, x121, x122, x123, x124, x125, x126, x127, x128, x129, x130, x131, x132, x133, x134, x135, x136, x137, x138, x139, x140, x141, x142, x143, x144, x145, x146, x147, x148], defers := [] } W := by
    intro W hB
    refine wpAnyH_ready (by kernel_rfl) (by simp) (AllReadyH.cons (i := 1) (at_nth rfl) ?_ (AllReadyH.cons (i := 6) (at_nth rfl) ?_ (AllReadyH.nil)))
    · refine arm10_call (by kernel_rfl) (fun wy => by kernel_rfl) ((HC.out _).mono ?_)
      rintro e Wn ⟨rfl, hb⟩
      replace hB := hB.trans (hb.mono hB.size)
      clear hb
      refine ⟨_, rfl, hB, ?_⟩
      simp only [Act.put, List.setIfInBounds_toArray, List.set_cons_succ, List.set_cons_zero]
      exact ST1 _ hB
    · have iN := Is.new W 31 #[.slice none 0 0, .int .i64 0, .int .i64 0]
      have hD := hB.size
      replace hB := hB.alloc hB.size (.cells #[.slice none 0 0, .int .i64 0, .int .i64 0] 31)
      refine arm10_value (v := .pointer (some ⟨W.heap.size, 0, none⟩)) (w' := W.alloc (.cells #[.slice none 0 0, .int .i64 0, .int .i64 0] 31)) (by kernel_rfl) (by go_simp) hB ?_
      simp only [Act.put, List.setIfInBounds_toArray, List.set_cons_succ, List.set_cons_zero]
      exact ST6 _ _ hB hD iN
  refine wp_region_held_drew (S := fun W => Below W0.heap.size W0 W) (by kernel_rfl) hB (fun hS => ?_)
  change wpAnyH _ _ (opsOf Try.f9 11) _ _ 9 (Array.replicate 9 false) _ (W0.drewN 1)
  clear hS
  replace hB : Below W0.heap.size W0 (W0.drewN 1) := belowN (Below.refl _ _) 1
  refine wpAnyH_pure (i := 0) (v := .agg (stoA s A c)) (at_nth rfl) (by kernel_rfl) (by kernel_rfl) (by kernel_rfl) (fun _ _ _ h => absurd h (HQN _ _ _)) (by kernel_rfl) (fun w hSw => by exact run_load_rowO (x := .tmp 1) (by kernel_rfl) (by kernel_rfl) (i1.below hSw i1.lt) Try.underlying31 rfl infoSto12) hB ?_
  simp only [Act.put, List.setIfInBounds_toArray, List.set_cons_succ, List.set_cons_zero]
  exact ST _ hB
end Go.Proofs.Ytglcckpkbnppoaa
