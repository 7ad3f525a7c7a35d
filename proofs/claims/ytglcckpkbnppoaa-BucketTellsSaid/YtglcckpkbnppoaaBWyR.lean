/-
  BucketWays: what is done in regions that draw their order.
-/
import Derived.Test.YtglcckpkbnppoaaBuzD
import Derived.Test.YtglcckpkbnppoaaBuzE
namespace Go.Proofs.Ytglcckpkbnppoaa
open Go.RowKit Go.Shelf

theorem cell_belowB12 {B : Nat} {W W' : World} (hb : Below B W W') {p : Addr} {v : Value} (h : W.cell? p = some v) (hp : p.block < B) : W'.cell? p = some v := by
  rw [← h]
  simp only [World.cell?, hb.block _ hp]
theorem InV.raw12 {W : World} {A : Option Addr} {R : List Raw12} (h : InV W A (flI12 R)) {k : Nat} {x : Raw12} (hx : R[k]? = some x) :
    ∃ b off, A = some ⟨b, off, none⟩ ∧ b < W.heap.size ∧ W.cell? ⟨b, off + k * 3, none⟩ = some (.int .i64 x.1) ∧ W.cell? ⟨b, off + k * 3 + 1, none⟩ = some (.int .i64 x.2.1) ∧ W.cell? ⟨b, off + k * 3 + 2, none⟩ = some (.int .i64 x.2.2) := by
  obtain ⟨b, off, rfl, hb, h0⟩ := h (k * 3 + 0) (.int .i64 x.1) ((flI_at12 hx 0 (by omega)).trans rfl)
  refine ⟨b, off, rfl, hb, h0, ?_, ?_⟩
  · obtain ⟨b2, off2, e, _, h1⟩ := h (k * 3 + 1) (.int .i64 x.2.1) ((flI_at12 hx 1 (by omega)).trans rfl)
    cases e; rw [← h1, Nat.add_assoc]
  · obtain ⟨b2, off2, e, _, h1⟩ := h (k * 3 + 2) (.int .i64 x.2.2) ((flI_at12 hx 2 (by omega)).trans rfl)
    cases e; rw [← h1, Nat.add_assoc]
set_option maxRecDepth 100000 in
set_option maxHeartbeats 4000000 in
theorem wy12_8 (W0 : World) (B0 D1 : Nat) (s t : Sto12) (A : Option Addr) (c : Nat) (bR oR len cp k : Nat) (z1 z2 : Int) (l x : ByteArray) (ev : Int) (hsz : B0 ≤ W0.heap.size) (hD : B0 ≤ D1) (i0 : Is W0 D1 31 (stoA s A c)) (h0 : InS W0 s A c) (hbl : bR < B0) (hc1 : W0.cell? ⟨bR, oR + k * 3 + 1, none⟩ = some (.int .i64 z1)) (hc2 : W0.cell? ⟨bR, oR + k * 3 + 2, none⟩ = some (.int .i64 z2)) (hk : k < len) (HLb : Hid (∀ W, Calls Try.prog 23 #[.int .i64 z1] W fun e w' => e = .returned (.string l) ∧ Below W.heap.size W w')) (HC : Hid (∀ W, Calls Try.prog 24 #[.int .i64 z2] W fun e w' => e = .returned (.string x) ∧ Below W.heap.size W w')) (HP : Hid (∀ W, InS W s A c → Calls Try.prog 25 #[stoV s A c, .string l, .string x] W fun e w' => ∃ A1 c1, e = .returned (.tuple #[stoV t A1 c1, .int .i64 ev]) ∧ InS w' t A1 c1 ∧ Below W.heap.size W w')) (x1 x2 x3 x5 x7 x8 x9 x10 x11 x12 x13 x14 x15 x16 x17 x18 x19 x20 x21 x22 x23 x24 x25 x26 x27 x28 x29 x30 x31 x32 x33 x34 x35 x36 x37 x38 x39 x40 x41 x42 x43 x44 x45 x46 x47 x48 x49 x50 x51 x52 x53 x54 x55 x56 x57 x58 x59 x60 x61 x62 x63 x64 x65 x66 x67 x68 x69 x70 x71 x72 x73 x74 x75 x76 x77 x78 x79 x80 x81 x82 x83 x84 x85 x86 x87 x88 x89 x90 x91 x92 x93 x94 x95 x96 x97 x98 x99 x100 x101 x102 x103 x104 x105 x106 x107 x108 x109 x110 x111 x112 x113 x114 x115 x116 x117 x118 x119 x120 x121 x122 x123 x124 x125 x126 x127 x128 x129 x130 x131 x132 x133 x134 x135 x136 x137 x138 : Value) :
    (Code.region 8 (opsOf Try.f7 8) true).wp Try.prog (fun ex YY W => ex = .normal ∧ YY.defers = [] ∧ ∃ (AQ : Option Addr) (cQ : Nat), YY.tmps = #[.slice (some ⟨bR, oR, none⟩) len cp, x1, x2, x3, .pointer (some ⟨D1, 0, none⟩), x5, .int .i64 (k : Int), .int .i64 ev, x8, x9, x10, x11, x12, x13, x14, x15, x16, x17, x18, x19, x20, x21, x22, x23, x24, x25, x26, x27, x28, x29, x30, x31, x32, x33, x34, .tuple #[stoV t AQ cQ, .int .i64 ev], .agg (stoA s A c), .slice (some ⟨bR, oR, none⟩) len cp, .int .i64 (k : Int), .pointer (some ⟨bR, oR + k * 3, none⟩), .pointer (some ⟨bR, oR + k * 3 + 1, none⟩), .int .i64 z1, .string l, .slice (some ⟨bR, oR, none⟩) len cp, .int .i64 (k : Int), .pointer (some ⟨bR, oR + k * 3, none⟩), .pointer (some ⟨bR, oR + k * 3 + 2, none⟩), .int .i64 z2, .string x, .tuple #[stoV t AQ cQ, .int .i64 ev], stoV t AQ cQ, .int .i64 ev, x52, x53, x54, x55, x56, x57, x58, x59, x60, x61, x62, x63, x64, x65, x66, x67, x68, x69, x70, x71, x72, x73, x74, x75, x76, x77, x78, x79, x80, x81, x82, x83, x84, x85, x86, x87, x88, x89, x90, x91, x92, x93, x94, x95, x96, x97, x98, x99, x100, x101, x102, x103, x104, x105, x106, x107, x108, x109, x110, x111, x112, x113, x114, x115, x116, x117, x118, x119, x120, x121, x122, x123, x124, x125, x126, x127, x128, x129, x130, x131, x132, x133, x134, x135, x136, x137, x138] ∧ Below B0 W0 W ∧ InS W t AQ cQ ∧ Is W D1 31 (stoA t AQ cQ)) { tmps := #[.slice (some ⟨bR, oR, none⟩) len cp, x1, x2, x3, .pointer (some ⟨D1, 0, none⟩), x5, .int .i64 (k : Int), x7, x8, x9, x10, x11, x12, x13, x14, x15, x16, x17, x18, x19, x20, x21, x22, x23, x24, x25, x26, x27, x28, x29, x30, x31, x32, x33, x34, x35, x36, x37, x38, x39, x40, x41, x42, x43, x44, x45, x46, x47, x48, x49, x50, x51, x52, x53, x54, x55, x56, x57, x58, x59, x60, x61, x62, x63, x64, x65, x66, x67, x68, x69, x70, x71, x72, x73, x74, x75, x76, x77, x78, x79, x80, x81, x82, x83, x84, x85, x86, x87, x88, x89, x90, x91, x92, x93, x94, x95, x96, x97, x98, x99, x100, x101, x102, x103, x104, x105, x106, x107, x108, x109, x110, x111, x112, x113, x114, x115, x116, x117, x118, x119, x120, x121, x122, x123, x124, x125, x126, x127, x128, x129, x130, x131, x132, x133, x134, x135, x136, x137, x138], defers := [] } W0 := by
  have hB : Below B0 W0 (W0.drewN 1) := belowN (Below.refl _ _) 1
  generalize hQ : (fun (ex : Exit) (YY : Act) (W : World) => ex = .normal ∧ YY.defers = [] ∧ ∃ (AQ : Option Addr) (cQ : Nat), YY.tmps = #[.slice (some ⟨bR, oR, none⟩) len cp, x1, x2, x3, .pointer (some ⟨D1, 0, none⟩), x5, .int .i64 (k : Int), .int .i64 ev, x8, x9, x10, x11, x12, x13, x14, x15, x16, x17, x18, x19, x20, x21, x22, x23, x24, x25, x26, x27, x28, x29, x30, x31, x32, x33, x34, .tuple #[stoV t AQ cQ, .int .i64 ev], .agg (stoA s A c), .slice (some ⟨bR, oR, none⟩) len cp, .int .i64 (k : Int), .pointer (some ⟨bR, oR + k * 3, none⟩), .pointer (some ⟨bR, oR + k * 3 + 1, none⟩), .int .i64 z1, .string l, .slice (some ⟨bR, oR, none⟩) len cp, .int .i64 (k : Int), .pointer (some ⟨bR, oR + k * 3, none⟩), .pointer (some ⟨bR, oR + k * 3 + 2, none⟩), .int .i64 z2, .string x, .tuple #[stoV t AQ cQ, .int .i64 ev], stoV t AQ cQ, .int .i64 ev, x52, x53, x54, x55, x56, x57, x58, x59, x60, x61, x62, x63, x64, x65, x66, x67, x68, x69, x70, x71, x72, x73, x74, x75, x76, x77, x78, x79, x80, x81, x82, x83, x84, x85, x86, x87, x88, x89, x90, x91, x92, x93, x94, x95, x96, x97, x98, x99, x100, x101, x102, x103, x104, x105, x106, x107, x108, x109, x110, x111, x112, x113, x114, x115, x116, x117, x118, x119, x120, x121, x122, x123, x124, x125, x126, x127, x128, x129, x130, x131, x132, x133, x134, x135, x136, x137, x138] ∧ Below B0 W0 W ∧ InS W t AQ cQ ∧ Is W D1 31 (stoA t AQ cQ)) = Q
  have HQN : ∀ c a W, ¬ Q (.panic c) a W := fun c a W h => by subst hQ; exact nomatch h.1
  have ST0_6_12_13_17 : ∀ (W : World) (AQ : Option Addr) (cQ : Nat), Below B0 W0 W → InS W t AQ cQ → Is W D1 31 (stoA t AQ cQ) → wpAnyH Try.prog .any (opsOf Try.f7 8) Q (fun W => Below B0 W0 W) 0 #[true, true, true, true, true, true, true, true, true, true, true, true, true, true, true, true, true, true, true] { tmps := #[.slice (some ⟨bR, oR, none⟩) len cp, x1, x2, x3, .pointer (some ⟨D1, 0, none⟩), x5, .int .i64 (k : Int), .int .i64 ev, x8, x9, x10, x11, x12, x13, x14, x15, x16, x17, x18, x19, x20, x21, x22, x23, x24, x25, x26, x27, x28, x29, x30, x31, x32, x33, x34, .tuple #[stoV t AQ cQ, .int .i64 ev], .agg (stoA s A c), .slice (some ⟨bR, oR, none⟩) len cp, .int .i64 (k : Int), .pointer (some ⟨bR, oR + k * 3, none⟩), .pointer (some ⟨bR, oR + k * 3 + 1, none⟩), .int .i64 z1, .string l, .slice (some ⟨bR, oR, none⟩) len cp, .int .i64 (k : Int), .pointer (some ⟨bR, oR + k * 3, none⟩), .pointer (some ⟨bR, oR + k * 3 + 2, none⟩), .int .i64 z2, .string x, .tuple #[stoV t AQ cQ, .int .i64 ev], stoV t AQ cQ, .int .i64 ev, x52, x53, x54, x55, x56, x57, x58, x59, x60, x61, x62, x63, x64, x65, x66, x67, x68, x69, x70, x71, x72, x73, x74, x75, x76, x77, x78, x79, x80, x81, x82, x83, x84, x85, x86, x87, x88, x89, x90, x91, x92, x93, x94, x95, x96, x97, x98, x99, x100, x101, x102, x103, x104, x105, x106, x107, x108, x109, x110, x111, x112, x113, x114, x115, x116, x117, x118, x119, x120, x121, x122, x123, x124, x125, x126, x127, x128, x129, x130, x131, x132, x133, x134, x135, x136, x137, x138], defers := [] } W := by
    intro W AQ cQ hB hZ iE
    refine wpAnyH_done (by kernel_rfl) ?_ _
    subst hQ
    exact ⟨rfl, rfl, AQ, cQ, rfl, hB, hZ, iE⟩
  have ST0_6_12_13 : ∀ (W : World) (AQ : Option Addr) (cQ : Nat), Below B0 W0 W → Is W D1 31 (stoA s A c) → InS W t AQ cQ → wpAnyH Try.prog .any (opsOf Try.f7 8) Q (fun W => Below B0 W0 W) 2 #[true, true, true, true, true, true, true, true, true, true, true, true, true, true, true, true, true, false, false] { tmps := #[.slice (some ⟨bR, oR, none⟩) len cp, x1, x2, x3, .pointer (some ⟨D1, 0, none⟩), x5, .int .i64 (k : Int), x7, x8, x9, x10, x11, x12, x13, x14, x15, x16, x17, x18, x19, x20, x21, x22, x23, x24, x25, x26, x27, x28, x29, x30, x31, x32, x33, x34, .tuple #[stoV t AQ cQ, .int .i64 ev], .agg (stoA s A c), .slice (some ⟨bR, oR, none⟩) len cp, .int .i64 (k : Int), .pointer (some ⟨bR, oR + k * 3, none⟩), .pointer (some ⟨bR, oR + k * 3 + 1, none⟩), .int .i64 z1, .string l, .slice (some ⟨bR, oR, none⟩) len cp, .int .i64 (k : Int), .pointer (some ⟨bR, oR + k * 3, none⟩), .pointer (some ⟨bR, oR + k * 3 + 2, none⟩), .int .i64 z2, .string x, .tuple #[stoV t AQ cQ, .int .i64 ev], stoV t AQ cQ, .int .i64 ev, x52, x53, x54, x55, x56, x57, x58, x59, x60, x61, x62, x63, x64, x65, x66, x67, x68, x69, x70, x71, x72, x73, x74, x75, x76, x77, x78, x79, x80, x81, x82, x83, x84, x85, x86, x87, x88, x89, x90, x91, x92, x93, x94, x95, x96, x97, x98, x99, x100, x101, x102, x103, x104, x105, x106, x107, x108, x109, x110, x111, x112, x113, x114, x115, x116, x117, x118, x119, x120, x121, x122, x123, x124, x125, x126, x127, x128, x129, x130, x131, x132, x133, x134, x135, x136, x137, x138], defers := [] } W := by
    intro W AQ cQ hB iD hZ
    refine wpAnyH_ready (by kernel_rfl) (by simp) (AllReadyH.cons (i := 17) (at_nth rfl) ?_ (AllReadyH.nil))
    · have hone := stoA_one12 t AQ cQ
      replace hZ := hZ.far12 iD (stoA t AQ cQ)
      have iE := iD.row (stoA t AQ cQ)
      have hB2 := belowRow hB hD (stoA t AQ cQ)
      refine arm10_skip (w' := W.setRow D1 (stoA t AQ cQ)) (by kernel_rfl) (run_row10 (x := .tmp 4) (y := .tmp 50) (by kernel_rfl) (by kernel_rfl) (by kernel_rfl) iD infoSto12 rfl hone) hB2 ?_
      simp only [Act.put]
      replace hB := hB2
      clear hB2 hone iD
      refine wpAnyH_pure (i := 18) (v := .int .i64 ev) (at_nth rfl) (by kernel_rfl) (by kernel_rfl) (by kernel_rfl) (fun _ _ _ h => absurd h (HQN _ _ _)) (by kernel_rfl) (fun w hSw => by kernel_rfl) hB ?_
      simp only [Act.put, List.setIfInBounds_toArray, List.set_cons_succ, List.set_cons_zero]
      exact ST0_6_12_13_17 _ _ _ hB hZ iE
  have ST0_6_12 : ∀ (W : World), Below B0 W0 W → Is W D1 31 (stoA s A c) → InS W s A c → wpAnyH Try.prog .any (opsOf Try.f7 8) Q (fun W => Below B0 W0 W) 6 #[true, true, true, true, true, true, true, true, true, true, true, true, true, false, false, false, false, false, false] { tmps := #[.slice (some ⟨bR, oR, none⟩) len cp, x1, x2, x3, .pointer (some ⟨D1, 0, none⟩), x5, .int .i64 (k : Int), x7, x8, x9, x10, x11, x12, x13, x14, x15, x16, x17, x18, x19, x20, x21, x22, x23, x24, x25, x26, x27, x28, x29, x30, x31, x32, x33, x34, x35, .agg (stoA s A c), .slice (some ⟨bR, oR, none⟩) len cp, .int .i64 (k : Int), .pointer (some ⟨bR, oR + k * 3, none⟩), .pointer (some ⟨bR, oR + k * 3 + 1, none⟩), .int .i64 z1, .string l, .slice (some ⟨bR, oR, none⟩) len cp, .int .i64 (k : Int), .pointer (some ⟨bR, oR + k * 3, none⟩), .pointer (some ⟨bR, oR + k * 3 + 2, none⟩), .int .i64 z2, .string x, x49, x50, x51, x52, x53, x54, x55, x56, x57, x58, x59, x60, x61, x62, x63, x64, x65, x66, x67, x68, x69, x70, x71, x72, x73, x74, x75, x76, x77, x78, x79, x80, x81, x82, x83, x84, x85, x86, x87, x88, x89, x90, x91, x92, x93, x94, x95, x96, x97, x98, x99, x100, x101, x102, x103, x104, x105, x106, x107, x108, x109, x110, x111, x112, x113, x114, x115, x116, x117, x118, x119, x120, x121, x122, x123, x124, x125, x126, x127, x128, x129, x130, x131, x132, x133, x134, x135, x136, x137, x138], defers := [] } W := by
    intro W hB iD hI
    refine wpAnyH_ready (by kernel_rfl) (by simp) (AllReadyH.cons (i := 13) (at_nth rfl) ?_ (AllReadyH.nil))
    · refine arm10_call (by kernel_rfl) (fun wy => by kernel_rfl) ((HP.out _ hI).mono ?_)
      rintro e Wn ⟨AQ, cQ, rfl, hZ, hb⟩
      replace iD := iD.below hb iD.lt
      replace hB := hB.trans (hb.mono (Nat.le_trans hsz hB.size))
      clear hb
      refine ⟨_, rfl, hB, ?_⟩
      simp only [Act.put, List.setIfInBounds_toArray, List.set_cons_succ, List.set_cons_zero]
      refine wpAnyH_pure (i := 14) (v := .tuple #[stoV t AQ cQ, .int .i64 ev]) (at_nth rfl) (by kernel_rfl) (by kernel_rfl) (by kernel_rfl) (fun _ _ _ h => absurd h (HQN _ _ _)) (by kernel_rfl) (fun w hSw => by kernel_rfl) hB ?_
      simp only [Act.put, List.setIfInBounds_toArray, List.set_cons_succ, List.set_cons_zero]
      refine wpAnyH_pure (i := 15) (v := stoV t AQ cQ) (at_nth rfl) (by kernel_rfl) (by kernel_rfl) (by kernel_rfl) (fun _ _ _ h => absurd h (HQN _ _ _)) (by kernel_rfl) (fun w hSw => by kernel_rfl) hB ?_
      simp only [Act.put, List.setIfInBounds_toArray, List.set_cons_succ, List.set_cons_zero]
      refine wpAnyH_pure (i := 16) (v := .int .i64 ev) (at_nth rfl) (by kernel_rfl) (by kernel_rfl) (by kernel_rfl) (fun _ _ _ h => absurd h (HQN _ _ _)) (by kernel_rfl) (fun w hSw => by kernel_rfl) hB ?_
      simp only [Act.put, List.setIfInBounds_toArray, List.set_cons_succ, List.set_cons_zero]
      exact ST0_6_12_13 _ _ _ hB iD hZ
  have ST0_6 : ∀ (W : World), Below B0 W0 W → Is W D1 31 (stoA s A c) → InS W s A c → wpAnyH Try.prog .any (opsOf Try.f7 8) Q (fun W => Below B0 W0 W) 7 #[true, true, true, true, true, true, true, true, true, true, true, true, false, false, false, false, false, false, false] { tmps := #[.slice (some ⟨bR, oR, none⟩) len cp, x1, x2, x3, .pointer (some ⟨D1, 0, none⟩), x5, .int .i64 (k : Int), x7, x8, x9, x10, x11, x12, x13, x14, x15, x16, x17, x18, x19, x20, x21, x22, x23, x24, x25, x26, x27, x28, x29, x30, x31, x32, x33, x34, x35, .agg (stoA s A c), .slice (some ⟨bR, oR, none⟩) len cp, .int .i64 (k : Int), .pointer (some ⟨bR, oR + k * 3, none⟩), .pointer (some ⟨bR, oR + k * 3 + 1, none⟩), .int .i64 z1, .string l, .slice (some ⟨bR, oR, none⟩) len cp, .int .i64 (k : Int), .pointer (some ⟨bR, oR + k * 3, none⟩), .pointer (some ⟨bR, oR + k * 3 + 2, none⟩), .int .i64 z2, x48, x49, x50, x51, x52, x53, x54, x55, x56, x57, x58, x59, x60, x61, x62, x63, x64, x65, x66, x67, x68, x69, x70, x71, x72, x73, x74, x75, x76, x77, x78, x79, x80, x81, x82, x83, x84, x85, x86, x87, x88, x89, x90, x91, x92, x93, x94, x95, x96, x97, x98, x99, x100, x101, x102, x103, x104, x105, x106, x107, x108, x109, x110, x111, x112, x113, x114, x115, x116, x117, x118, x119, x120, x121, x122, x123, x124, x125, x126, x127, x128, x129, x130, x131, x132, x133, x134, x135, x136, x137, x138], defers := [] } W := by
    intro W hB iD hI
    refine wpAnyH_ready (by kernel_rfl) (by simp) (AllReadyH.cons (i := 12) (at_nth rfl) ?_ (AllReadyH.nil))
    · refine arm10_call (by kernel_rfl) (fun wy => by kernel_rfl) ((HC.out _).mono ?_)
      rintro e Wn ⟨rfl, hb⟩
      replace iD := iD.below hb iD.lt
      replace hI := hI.keep hb
      replace hB := hB.trans (hb.mono (Nat.le_trans hsz hB.size))
      clear hb
      refine ⟨_, rfl, hB, ?_⟩
      simp only [Act.put, List.setIfInBounds_toArray, List.set_cons_succ, List.set_cons_zero]
      exact ST0_6_12 _ hB iD hI
  have ST0 : ∀ (W : World), Below B0 W0 W → Is W D1 31 (stoA s A c) → InS W s A c → wpAnyH Try.prog .any (opsOf Try.f7 8) Q (fun W => Below B0 W0 W) 8 #[true, true, true, true, true, true, false, true, true, true, true, true, false, false, false, false, false, false, false] { tmps := #[.slice (some ⟨bR, oR, none⟩) len cp, x1, x2, x3, .pointer (some ⟨D1, 0, none⟩), x5, .int .i64 (k : Int), x7, x8, x9, x10, x11, x12, x13, x14, x15, x16, x17, x18, x19, x20, x21, x22, x23, x24, x25, x26, x27, x28, x29, x30, x31, x32, x33, x34, x35, .agg (stoA s A c), .slice (some ⟨bR, oR, none⟩) len cp, .int .i64 (k : Int), .pointer (some ⟨bR, oR + k * 3, none⟩), .pointer (some ⟨bR, oR + k * 3 + 1, none⟩), .int .i64 z1, x42, .slice (some ⟨bR, oR, none⟩) len cp, .int .i64 (k : Int), .pointer (some ⟨bR, oR + k * 3, none⟩), .pointer (some ⟨bR, oR + k * 3 + 2, none⟩), .int .i64 z2, x48, x49, x50, x51, x52, x53, x54, x55, x56, x57, x58, x59, x60, x61, x62, x63, x64, x65, x66, x67, x68, x69, x70, x71, x72, x73, x74, x75, x76, x77, x78, x79, x80, x81, x82, x83, x84, x85, x86, x87, x88, x89, x90, x91, x92, x93, x94, x95, x96, x97, x98, x99, x100, x101, x102, x103, x104, x105, x106, x107, x108, x109, x110, x111, x112, x113, x114, x115, x116, x117, x118, x119, x120, x121, x122, x123, x124, x125, x126, x127, x128, x129, x130, x131, x132, x133, x134, x135, x136, x137, x138], defers := [] } W := by
    intro W hB iD hI
    refine wpAnyH_ready (by kernel_rfl) (by simp) (AllReadyH.cons (i := 6) (at_nth rfl) ?_ (AllReadyH.nil))
    · refine arm10_call (by kernel_rfl) (fun wy => by kernel_rfl) ((HLb.out _).mono ?_)
      rintro e Wn ⟨rfl, hb⟩
      replace iD := iD.below hb iD.lt
      replace hI := hI.keep hb
      replace hB := hB.trans (hb.mono (Nat.le_trans hsz hB.size))
      clear hb
      refine ⟨_, rfl, hB, ?_⟩
      simp only [Act.put, List.setIfInBounds_toArray, List.set_cons_succ, List.set_cons_zero]
      exact ST0_6 _ hB iD hI
  have ST6_12 : ∀ (W : World), Below B0 W0 W → Is W D1 31 (stoA s A c) → InS W s A c → wpAnyH Try.prog .any (opsOf Try.f7 8) Q (fun W => Below B0 W0 W) 7 #[false, true, true, true, true, true, true, true, true, true, true, true, true, false, false, false, false, false, false] { tmps := #[.slice (some ⟨bR, oR, none⟩) len cp, x1, x2, x3, .pointer (some ⟨D1, 0, none⟩), x5, .int .i64 (k : Int), x7, x8, x9, x10, x11, x12, x13, x14, x15, x16, x17, x18, x19, x20, x21, x22, x23, x24, x25, x26, x27, x28, x29, x30, x31, x32, x33, x34, x35, x36, .slice (some ⟨bR, oR, none⟩) len cp, .int .i64 (k : Int), .pointer (some ⟨bR, oR + k * 3, none⟩), .pointer (some ⟨bR, oR + k * 3 + 1, none⟩), .int .i64 z1, .string l, .slice (some ⟨bR, oR, none⟩) len cp, .int .i64 (k : Int), .pointer (some ⟨bR, oR + k * 3, none⟩), .pointer (some ⟨bR, oR + k * 3 + 2, none⟩), .int .i64 z2, .string x, x49, x50, x51, x52, x53, x54, x55, x56, x57, x58, x59, x60, x61, x62, x63, x64, x65, x66, x67, x68, x69, x70, x71, x72, x73, x74, x75, x76, x77, x78, x79, x80, x81, x82, x83, x84, x85, x86, x87, x88, x89, x90, x91, x92, x93, x94, x95, x96, x97, x98, x99, x100, x101, x102, x103, x104, x105, x106, x107, x108, x109, x110, x111, x112, x113, x114, x115, x116, x117, x118, x119, x120, x121, x122, x123, x124, x125, x126, x127, x128, x129, x130, x131, x132, x133, x134, x135, x136, x137, x138], defers := [] } W := by
    intro W hB iD hI
    refine wpAnyH_ready (by kernel_rfl) (by simp) (AllReadyH.cons (i := 0) (at_nth rfl) ?_ (AllReadyH.nil))
    · refine arm10_value (v := .agg (stoA s A c)) (w' := W) (by kernel_rfl) (run_load_rowO (x := .tmp 4) (by kernel_rfl) (by kernel_rfl) iD Try.underlying31 rfl infoSto12) hB ?_
      simp only [Act.put, List.setIfInBounds_toArray, List.set_cons_succ, List.set_cons_zero]
      exact ST0_6_12 _ hB iD hI
  have ST6 : ∀ (W : World), Below B0 W0 W → Is W D1 31 (stoA s A c) → InS W s A c → wpAnyH Try.prog .any (opsOf Try.f7 8) Q (fun W => Below B0 W0 W) 8 #[false, true, true, true, true, true, true, true, true, true, true, true, false, false, false, false, false, false, false] { tmps := #[.slice (some ⟨bR, oR, none⟩) len cp, x1, x2, x3, .pointer (some ⟨D1, 0, none⟩), x5, .int .i64 (k : Int), x7, x8, x9, x10, x11, x12, x13, x14, x15, x16, x17, x18, x19, x20, x21, x22, x23, x24, x25, x26, x27, x28, x29, x30, x31, x32, x33, x34, x35, x36, .slice (some ⟨bR, oR, none⟩) len cp, .int .i64 (k : Int), .pointer (some ⟨bR, oR + k * 3, none⟩), .pointer (some ⟨bR, oR + k * 3 + 1, none⟩), .int .i64 z1, .string l, .slice (some ⟨bR, oR, none⟩) len cp, .int .i64 (k : Int), .pointer (some ⟨bR, oR + k * 3, none⟩), .pointer (some ⟨bR, oR + k * 3 + 2, none⟩), .int .i64 z2, x48, x49, x50, x51, x52, x53, x54, x55, x56, x57, x58, x59, x60, x61, x62, x63, x64, x65, x66, x67, x68, x69, x70, x71, x72, x73, x74, x75, x76, x77, x78, x79, x80, x81, x82, x83, x84, x85, x86, x87, x88, x89, x90, x91, x92, x93, x94, x95, x96, x97, x98, x99, x100, x101, x102, x103, x104, x105, x106, x107, x108, x109, x110, x111, x112, x113, x114, x115, x116, x117, x118, x119, x120, x121, x122, x123, x124, x125, x126, x127, x128, x129, x130, x131, x132, x133, x134, x135, x136, x137, x138], defers := [] } W := by
    intro W hB iD hI
    refine wpAnyH_ready (by kernel_rfl) (by simp) (AllReadyH.cons (i := 0) (at_nth rfl) ?_ (AllReadyH.cons (i := 12) (at_nth rfl) ?_ (AllReadyH.nil)))
    · refine arm10_value (v := .agg (stoA s A c)) (w' := W) (by kernel_rfl) (run_load_rowO (x := .tmp 4) (by kernel_rfl) (by kernel_rfl) iD Try.underlying31 rfl infoSto12) hB ?_
      simp only [Act.put, List.setIfInBounds_toArray, List.set_cons_succ, List.set_cons_zero]
      exact ST0_6 _ hB iD hI
    · refine arm10_call (by kernel_rfl) (fun wy => by kernel_rfl) ((HC.out _).mono ?_)
      rintro e Wn ⟨rfl, hb⟩
      replace iD := iD.below hb iD.lt
      replace hI := hI.keep hb
      replace hB := hB.trans (hb.mono (Nat.le_trans hsz hB.size))
      clear hb
      refine ⟨_, rfl, hB, ?_⟩
      simp only [Act.put, List.setIfInBounds_toArray, List.set_cons_succ, List.set_cons_zero]
      exact ST6_12 _ hB iD hI
  have ST : ∀ (W : World), Below B0 W0 W → Is W D1 31 (stoA s A c) → InS W s A c → wpAnyH Try.prog .any (opsOf Try.f7 8) Q (fun W => Below B0 W0 W) 9 #[false, true, true, true, true, true, false, true, true, true, true, true, false, false, false, false, false, false, false] { tmps := #[.slice (some ⟨bR, oR, none⟩) len cp, x1, x2, x3, .pointer (some ⟨D1, 0, none⟩), x5, .int .i64 (k : Int), x7, x8, x9, x10, x11, x12, x13, x14, x15, x16, x17, x18, x19, x20, x21, x22, x23, x24, x25, x26, x27, x28, x29, x30, x31, x32, x33, x34, x35, x36, .slice (some ⟨bR, oR, none⟩) len cp, .int .i64 (k : Int), .pointer (some ⟨bR, oR + k * 3, none⟩), .pointer (some ⟨bR, oR + k * 3 + 1, none⟩), .int .i64 z1, x42, .slice (some ⟨bR, oR, none⟩) len cp, .int .i64 (k : Int), .pointer (some ⟨bR, oR + k * 3, none⟩), .pointer (some ⟨bR, oR + k * 3 + 2, none⟩), .int .i64 z2, x48, x49, x50, x51, x52, x53, x54, x55, x56, x57, x58, x59, x60, x61, x62, x63, x64, x65, x66, x67, x68, x69, x70, x71, x72, x73, x74, x75, x76, x77, x78, x79, x80, x81, x82, x83, x84, x85, x86, x87, x88, x89, x90, x91, x92, x93, x94, x95, x96, x97, x98, x99, x100, x101, x102, x103, x104, x105, x106, x107, x108, x109, x110, x111, x112, x113, x114, x115, x116, x117, x118, x119, x120, x121, x122, x123, x124, x125, x126, x127, x128, x129, x130, x131, x132, x133, x134, x135, x136, x137, x138], defers := [] } W := by
    intro W hB iD hI
    refine wpAnyH_ready (by kernel_rfl) (by simp) (AllReadyH.cons (i := 0) (at_nth rfl) ?_ (AllReadyH.cons (i := 6) (at_nth rfl) ?_ (AllReadyH.nil)))
    · refine arm10_value (v := .agg (stoA s A c)) (w' := W) (by kernel_rfl) (run_load_rowO (x := .tmp 4) (by kernel_rfl) (by kernel_rfl) iD Try.underlying31 rfl infoSto12) hB ?_
      simp only [Act.put, List.setIfInBounds_toArray, List.set_cons_succ, List.set_cons_zero]
      exact ST0 _ hB iD hI
    · refine arm10_call (by kernel_rfl) (fun wy => by kernel_rfl) ((HLb.out _).mono ?_)
      rintro e Wn ⟨rfl, hb⟩
      replace iD := iD.below hb iD.lt
      replace hI := hI.keep hb
      replace hB := hB.trans (hb.mono (Nat.le_trans hsz hB.size))
      clear hb
      refine ⟨_, rfl, hB, ?_⟩
      simp only [Act.put, List.setIfInBounds_toArray, List.set_cons_succ, List.set_cons_zero]
      exact ST6 _ hB iD hI
  refine wp_region_held_drew (S := fun W => Below B0 W0 W) (by kernel_rfl) hB (fun hS => ?_)
  change wpAnyH _ _ (opsOf Try.f7 8) _ _ 19 (Array.replicate 19 false) _ (W0.drewN 1)
  clear hS
  replace hB : Below B0 W0 (W0.drewN 1) := belowN (Below.refl _ _) 1
  refine wpAnyH_pure (i := 1) (v := .slice (some ⟨bR, oR, none⟩) len cp) (at_nth rfl) (by kernel_rfl) (by kernel_rfl) (by kernel_rfl) (fun _ _ _ h => absurd h (HQN _ _ _)) (by kernel_rfl) (fun w hSw => by kernel_rfl) hB ?_
  simp only [Act.put, List.setIfInBounds_toArray, List.set_cons_succ, List.set_cons_zero]
  refine wpAnyH_pure (i := 2) (v := .int .i64 (k : Int)) (at_nth rfl) (by kernel_rfl) (by kernel_rfl) (by kernel_rfl) (fun _ _ _ h => absurd h (HQN _ _ _)) (by kernel_rfl) (fun w hSw => by kernel_rfl) hB ?_
  simp only [Act.put, List.setIfInBounds_toArray, List.set_cons_succ, List.set_cons_zero]
  refine wpAnyH_pure (i := 3) (v := .pointer (some ⟨bR, oR + k * 3, none⟩)) (at_nth rfl) (by kernel_rfl) (by kernel_rfl) (by kernel_rfl) (fun _ _ _ h => absurd h (HQN _ _ _)) (by kernel_rfl) (fun w hSw => by have hk' := hk; go_simp) hB ?_
  simp only [Act.put, List.setIfInBounds_toArray, List.set_cons_succ, List.set_cons_zero]
  refine wpAnyH_pure (i := 4) (v := .pointer (some ⟨bR, oR + k * 3 + 1, none⟩)) (at_nth rfl) (by kernel_rfl) (by kernel_rfl) (by kernel_rfl) (fun _ _ _ h => absurd h (HQN _ _ _)) (by kernel_rfl) (fun w hSw => by go_simp) hB ?_
  simp only [Act.put, List.setIfInBounds_toArray, List.set_cons_succ, List.set_cons_zero]
  refine wpAnyH_pure (i := 5) (v := .int .i64 z1) (at_nth rfl) (by kernel_rfl) (by kernel_rfl) (by kernel_rfl) (fun _ _ _ h => absurd h (HQN _ _ _)) (by kernel_rfl) (fun w hSw => by (have hc := cell_belowB12 hSw hc1 hbl; go_simp)) hB ?_
  simp only [Act.put, List.setIfInBounds_toArray, List.set_cons_succ, List.set_cons_zero]
  refine wpAnyH_pure (i := 7) (v := .slice (some ⟨bR, oR, none⟩) len cp) (at_nth rfl) (by kernel_rfl) (by kernel_rfl) (by kernel_rfl) (fun _ _ _ h => absurd h (HQN _ _ _)) (by kernel_rfl) (fun w hSw => by kernel_rfl) hB ?_
  simp only [Act.put, List.setIfInBounds_toArray, List.set_cons_succ, List.set_cons_zero]
  refine wpAnyH_pure (i := 8) (v := .int .i64 (k : Int)) (at_nth rfl) (by kernel_rfl) (by kernel_rfl) (by kernel_rfl) (fun _ _ _ h => absurd h (HQN _ _ _)) (by kernel_rfl) (fun w hSw => by kernel_rfl) hB ?_
  simp only [Act.put, List.setIfInBounds_toArray, List.set_cons_succ, List.set_cons_zero]
  refine wpAnyH_pure (i := 9) (v := .pointer (some ⟨bR, oR + k * 3, none⟩)) (at_nth rfl) (by kernel_rfl) (by kernel_rfl) (by kernel_rfl) (fun _ _ _ h => absurd h (HQN _ _ _)) (by kernel_rfl) (fun w hSw => by have hk' := hk; go_simp) hB ?_
  simp only [Act.put, List.setIfInBounds_toArray, List.set_cons_succ, List.set_cons_zero]
  refine wpAnyH_pure (i := 10) (v := .pointer (some ⟨bR, oR + k * 3 + 2, none⟩)) (at_nth rfl) (by kernel_rfl) (by kernel_rfl) (by kernel_rfl) (fun _ _ _ h => absurd h (HQN _ _ _)) (by kernel_rfl) (fun w hSw => by go_simp) hB ?_
  simp only [Act.put, List.setIfInBounds_toArray, List.set_cons_succ, List.set_cons_zero]
  refine wpAnyH_pure (i := 11) (v := .int .i64 z2) (at_nth rfl) (by kernel_rfl) (by kernel_rfl) (by kernel_rfl) (fun _ _ _ h => absurd h (HQN _ _ _)) (by kernel_rfl) (fun w hSw => by (have hc := cell_belowB12 hSw hc2 hbl; go_simp)) hB ?_
  simp only [Act.put, List.setIfInBounds_toArray, List.set_cons_succ, List.set_cons_zero]
  exact ST _ hB i0 (h0.keep (belowN (Below.refl _ _) 1))

set_option maxRecDepth 100000 in
set_option maxHeartbeats 4000000 in
theorem wy12_9 (W0 : World) (B0 D1 : Nat) (s t : Sto12) (A : Option Addr) (c : Nat) (bR oR len cp k : Nat) (z1 : Int) (l : ByteArray) (was : Bool) (ev : Int) (hsz : B0 ≤ W0.heap.size) (hD : B0 ≤ D1) (i0 : Is W0 D1 31 (stoA s A c)) (h0 : InS W0 s A c) (hbl : bR < B0) (hc1 : W0.cell? ⟨bR, oR + k * 3 + 1, none⟩ = some (.int .i64 z1)) (hk : k < len) (HLb : Hid (∀ W, Calls Try.prog 23 #[.int .i64 z1] W fun e w' => e = .returned (.string l) ∧ Below W.heap.size W w')) (HP : Hid (∀ W, InS W s A c → Calls Try.prog 27 #[stoV s A c, .string l] W fun e w' => ∃ A1 c1, e = .returned (.tuple #[stoV t A1 c1, .bool was, .int .i64 ev]) ∧ InS w' t A1 c1 ∧ Below W.heap.size W w')) (x1 x2 x3 x5 x7 x8 x9 x10 x11 x12 x13 x14 x15 x16 x17 x18 x19 x20 x21 x22 x23 x24 x25 x26 x27 x28 x29 x30 x31 x32 x33 x34 x35 x36 x37 x38 x39 x40 x41 x42 x43 x44 x45 x46 x47 x48 x49 x50 x51 x52 x53 x54 x55 x56 x57 x58 x59 x60 x61 x62 x63 x64 x65 x66 x67 x68 x69 x70 x71 x72 x73 x74 x75 x76 x77 x78 x79 x80 x81 x82 x83 x84 x85 x86 x87 x88 x89 x90 x91 x92 x93 x94 x95 x96 x97 x98 x99 x100 x101 x102 x103 x104 x105 x106 x107 x108 x109 x110 x111 x112 x113 x114 x115 x116 x117 x118 x119 x120 x121 x122 x123 x124 x125 x126 x127 x128 x129 x130 x131 x132 x133 x134 x135 x136 x137 x138 : Value) :
    (Code.region 9 (opsOf Try.f7 9) true).wp Try.prog (fun ex YY W => ex = .normal ∧ YY.defers = [] ∧ ∃ (AQ : Option Addr) (cQ : Nat), YY.tmps = #[.slice (some ⟨bR, oR, none⟩) len cp, x1, x2, x3, .pointer (some ⟨D1, 0, none⟩), x5, .int .i64 (k : Int), .int .i64 ev, x8, x9, x10, x11, x12, x13, x14, x15, x16, x17, x18, x19, x20, x21, x22, x23, x24, x25, x26, x27, x28, x29, x30, x31, x32, x33, x34, x35, x36, x37, x38, x39, x40, x41, x42, x43, x44, x45, x46, x47, x48, x49, x50, x51, .tuple #[stoV t AQ cQ, .bool was, .int .i64 ev], .agg (stoA s A c), .slice (some ⟨bR, oR, none⟩) len cp, .int .i64 (k : Int), .pointer (some ⟨bR, oR + k * 3, none⟩), .pointer (some ⟨bR, oR + k * 3 + 1, none⟩), .int .i64 z1, .string l, .tuple #[stoV t AQ cQ, .bool was, .int .i64 ev], stoV t AQ cQ, .bool was, .int .i64 ev, x64, x65, x66, x67, x68, x69, x70, x71, x72, x73, x74, x75, x76, x77, x78, x79, x80, x81, x82, x83, x84, x85, x86, x87, x88, x89, x90, x91, x92, x93, x94, x95, x96, x97, x98, x99, x100, x101, x102, x103, x104, x105, x106, x107, x108, x109, x110, x111, x112, x113, x114, x115, x116, x117, x118, x119, x120, x121, x122, x123, x124, x125, x126, x127, x128, x129, x130, x131, x132, x133, x134, x135, x136, x137, x138] ∧ Below B0 W0 W ∧ InS W t AQ cQ ∧ Is W D1 31 (stoA t AQ cQ)) { tmps := #[.slice (some ⟨bR, oR, none⟩) len cp, x1, x2, x3, .pointer (some ⟨D1, 0, none⟩), x5, .int .i64 (k : Int), x7, x8, x9, x10, x11, x12, x13, x14, x15, x16, x17, x18, x19, x20, x21, x22, x23, x24, x25, x26, x27, x28, x29, x30, x31, x32, x33, x34, x35, x36, x37, x38, x39, x40, x41, x42, x43, x44, x45, x46, x47, x48, x49, x50, x51, x52, x53, x54, x55, x56, x57, x58, x59, x60, x61, x62, x63, x64, x65, x66, x67, x68, x69, x70, x71, x72, x73, x74, x75, x76, x77, x78, x79, x80, x81, x82, x83, x84, x85, x86, x87, x88, x89, x90, x91, x92, x93, x94, x95, x96, x97, x98, x99, x100, x101, x102, x103, x104, x105, x106, x107, x108, x109, x110, x111, x112, x113, x114, x115, x116, x117, x118, x119, x120, x121, x122, x123, x124, x125, x126, x127, x128, x129, x130, x131, x132, x133, x134, x135, x136, x137, x138], defers := [] } W0 := by
  have hB : Below B0 W0 (W0.drewN 1) := belowN (Below.refl _ _) 1
  generalize hQ : (fun (ex : Exit) (YY : Act) (W : World) => ex = .normal ∧ YY.defers = [] ∧ ∃ (AQ : Option Addr) (cQ : Nat), YY.tmps = #[.slice (some ⟨bR, oR, none⟩) len cp, x1, x2, x3, .pointer (some ⟨D1, 0, none⟩), x5, .int .i64 (k : Int), .int .i64 ev, x8, x9, x10, x11, x12, x13, x14, x15, x16, x17, x18, x19, x20, x21, x22, x23, x24, x25, x26, x27, x28, x29, x30, x31, x32, x33, x34, x35, x36, x37, x38, x39, x40, x41, x42, x43, x44, x45, x46, x47, x48, x49, x50, x51, .tuple #[stoV t AQ cQ, .bool was, .int .i64 ev], .agg (stoA s A c), .slice (some ⟨bR, oR, none⟩) len cp, .int .i64 (k : Int), .pointer (some ⟨bR, oR + k * 3, none⟩), .pointer (some ⟨bR, oR + k * 3 + 1, none⟩), .int .i64 z1, .string l, .tuple #[stoV t AQ cQ, .bool was, .int .i64 ev], stoV t AQ cQ, .bool was, .int .i64 ev, x64, x65, x66, x67, x68, x69, x70, x71, x72, x73, x74, x75, x76, x77, x78, x79, x80, x81, x82, x83, x84, x85, x86, x87, x88, x89, x90, x91, x92, x93, x94, x95, x96, x97, x98, x99, x100, x101, x102, x103, x104, x105, x106, x107, x108, x109, x110, x111, x112, x113, x114, x115, x116, x117, x118, x119, x120, x121, x122, x123, x124, x125, x126, x127, x128, x129, x130, x131, x132, x133, x134, x135, x136, x137, x138] ∧ Below B0 W0 W ∧ InS W t AQ cQ ∧ Is W D1 31 (stoA t AQ cQ)) = Q
  have HQN : ∀ c a W, ¬ Q (.panic c) a W := fun c a W h => by subst hQ; exact nomatch h.1
  have ST0_6_7_12 : ∀ (W : World) (AQ : Option Addr) (cQ : Nat), Below B0 W0 W → InS W t AQ cQ → Is W D1 31 (stoA t AQ cQ) → wpAnyH Try.prog .any (opsOf Try.f7 9) Q (fun W => Below B0 W0 W) 0 #[true, true, true, true, true, true, true, true, true, true, true, true, true, true] { tmps := #[.slice (some ⟨bR, oR, none⟩) len cp, x1, x2, x3, .pointer (some ⟨D1, 0, none⟩), x5, .int .i64 (k : Int), .int .i64 ev, x8, x9, x10, x11, x12, x13, x14, x15, x16, x17, x18, x19, x20, x21, x22, x23, x24, x25, x26, x27, x28, x29, x30, x31, x32, x33, x34, x35, x36, x37, x38, x39, x40, x41, x42, x43, x44, x45, x46, x47, x48, x49, x50, x51, .tuple #[stoV t AQ cQ, .bool was, .int .i64 ev], .agg (stoA s A c), .slice (some ⟨bR, oR, none⟩) len cp, .int .i64 (k : Int), .pointer (some ⟨bR, oR + k * 3, none⟩), .pointer (some ⟨bR, oR + k * 3 + 1, none⟩), .int .i64 z1, .string l, .tuple #[stoV t AQ cQ, .bool was, .int .i64 ev], stoV t AQ cQ, .bool was, .int .i64 ev, x64, x65, x66, x67, x68, x69, x70, x71, x72, x73, x74, x75, x76, x77, x78, x79, x80, x81, x82, x83, x84, x85, x86, x87, x88, x89, x90, x91, x92, x93, x94, x95, x96, x97, x98, x99, x100, x101, x102, x103, x104, x105, x106, x107, x108, x109, x110, x111, x112, x113, x114, x115, x116, x117, x118, x119, x120, x121, x122, x123, x124, x125, x126, x127, x128, x129, x130, x131, x132, x133, x134, x135, x136, x137, x138], defers := [] } W := by
    intro W AQ cQ hB hZ iE
    refine wpAnyH_done (by kernel_rfl) ?_ _
    subst hQ
    exact ⟨rfl, rfl, AQ, cQ, rfl, hB, hZ, iE⟩
  have ST0_6_7 : ∀ (W : World) (AQ : Option Addr) (cQ : Nat), Below B0 W0 W → Is W D1 31 (stoA s A c) → InS W t AQ cQ → wpAnyH Try.prog .any (opsOf Try.f7 9) Q (fun W => Below B0 W0 W) 2 #[true, true, true, true, true, true, true, true, true, true, true, true, false, false] { tmps := #[.slice (some ⟨bR, oR, none⟩) len cp, x1, x2, x3, .pointer (some ⟨D1, 0, none⟩), x5, .int .i64 (k : Int), x7, x8, x9, x10, x11, x12, x13, x14, x15, x16, x17, x18, x19, x20, x21, x22, x23, x24, x25, x26, x27, x28, x29, x30, x31, x32, x33, x34, x35, x36, x37, x38, x39, x40, x41, x42, x43, x44, x45, x46, x47, x48, x49, x50, x51, .tuple #[stoV t AQ cQ, .bool was, .int .i64 ev], .agg (stoA s A c), .slice (some ⟨bR, oR, none⟩) len cp, .int .i64 (k : Int), .pointer (some ⟨bR, oR + k * 3, none⟩), .pointer (some ⟨bR, oR + k * 3 + 1, none⟩), .int .i64 z1, .string l, .tuple #[stoV t AQ cQ, .bool was, .int .i64 ev], stoV t AQ cQ, .bool was, .int .i64 ev, x64, x65, x66, x67, x68, x69, x70, x71, x72, x73, x74, x75, x76, x77, x78, x79, x80, x81, x82, x83, x84, x85, x86, x87, x88, x89, x90, x91, x92, x93, x94, x95, x96, x97, x98, x99, x100, x101, x102, x103, x104, x105, x106, x107, x108, x109, x110, x111, x112, x113, x114, x115, x116, x117, x118, x119, x120, x121, x122, x123, x124, x125, x126, x127, x128, x129, x130, x131, x132, x133, x134, x135, x136, x137, x138], defers := [] } W := by
    intro W AQ cQ hB iD hZ
    refine wpAnyH_ready (by kernel_rfl) (by simp) (AllReadyH.cons (i := 12) (at_nth rfl) ?_ (AllReadyH.nil))
    · have hone := stoA_one12 t AQ cQ
      replace hZ := hZ.far12 iD (stoA t AQ cQ)
      have iE := iD.row (stoA t AQ cQ)
      have hB2 := belowRow hB hD (stoA t AQ cQ)
      refine arm10_skip (w' := W.setRow D1 (stoA t AQ cQ)) (by kernel_rfl) (run_row10 (x := .tmp 4) (y := .tmp 61) (by kernel_rfl) (by kernel_rfl) (by kernel_rfl) iD infoSto12 rfl hone) hB2 ?_
      simp only [Act.put]
      replace hB := hB2
      clear hB2 hone iD
      refine wpAnyH_pure (i := 13) (v := .int .i64 ev) (at_nth rfl) (by kernel_rfl) (by kernel_rfl) (by kernel_rfl) (fun _ _ _ h => absurd h (HQN _ _ _)) (by kernel_rfl) (fun w hSw => by kernel_rfl) hB ?_
      simp only [Act.put, List.setIfInBounds_toArray, List.set_cons_succ, List.set_cons_zero]
      exact ST0_6_7_12 _ _ _ hB hZ iE
  have ST0_6 : ∀ (W : World), Below B0 W0 W → Is W D1 31 (stoA s A c) → InS W s A c → wpAnyH Try.prog .any (opsOf Try.f7 9) Q (fun W => Below B0 W0 W) 7 #[true, true, true, true, true, true, true, false, false, false, false, false, false, false] { tmps := #[.slice (some ⟨bR, oR, none⟩) len cp, x1, x2, x3, .pointer (some ⟨D1, 0, none⟩), x5, .int .i64 (k : Int), x7, x8, x9, x10, x11, x12, x13, x14, x15, x16, x17, x18, x19, x20, x21, x22, x23, x24, x25, x26, x27, x28, x29, x30, x31, x32, x33, x34, x35, x36, x37, x38, x39, x40, x41, x42, x43, x44, x45, x46, x47, x48, x49, x50, x51, x52, .agg (stoA s A c), .slice (some ⟨bR, oR, none⟩) len cp, .int .i64 (k : Int), .pointer (some ⟨bR, oR + k * 3, none⟩), .pointer (some ⟨bR, oR + k * 3 + 1, none⟩), .int .i64 z1, .string l, x60, x61, x62, x63, x64, x65, x66, x67, x68, x69, x70, x71, x72, x73, x74, x75, x76, x77, x78, x79, x80, x81, x82, x83, x84, x85, x86, x87, x88, x89, x90, x91, x92, x93, x94, x95, x96, x97, x98, x99, x100, x101, x102, x103, x104, x105, x106, x107, x108, x109, x110, x111, x112, x113, x114, x115, x116, x117, x118, x119, x120, x121, x122, x123, x124, x125, x126, x127, x128, x129, x130, x131, x132, x133, x134, x135, x136, x137, x138], defers := [] } W := by
    intro W hB iD hI
    refine wpAnyH_ready (by kernel_rfl) (by simp) (AllReadyH.cons (i := 7) (at_nth rfl) ?_ (AllReadyH.nil))
    · refine arm10_call (by kernel_rfl) (fun wy => by kernel_rfl) ((HP.out _ hI).mono ?_)
      rintro e Wn ⟨AQ, cQ, rfl, hZ, hb⟩
      replace iD := iD.below hb iD.lt
      replace hB := hB.trans (hb.mono (Nat.le_trans hsz hB.size))
      clear hb
      refine ⟨_, rfl, hB, ?_⟩
      simp only [Act.put, List.setIfInBounds_toArray, List.set_cons_succ, List.set_cons_zero]
      refine wpAnyH_pure (i := 8) (v := .tuple #[stoV t AQ cQ, .bool was, .int .i64 ev]) (at_nth rfl) (by kernel_rfl) (by kernel_rfl) (by kernel_rfl) (fun _ _ _ h => absurd h (HQN _ _ _)) (by kernel_rfl) (fun w hSw => by kernel_rfl) hB ?_
      simp only [Act.put, List.setIfInBounds_toArray, List.set_cons_succ, List.set_cons_zero]
      refine wpAnyH_pure (i := 9) (v := stoV t AQ cQ) (at_nth rfl) (by kernel_rfl) (by kernel_rfl) (by kernel_rfl) (fun _ _ _ h => absurd h (HQN _ _ _)) (by kernel_rfl) (fun w hSw => by kernel_rfl) hB ?_
      simp only [Act.put, List.setIfInBounds_toArray, List.set_cons_succ, List.set_cons_zero]
      refine wpAnyH_pure (i := 10) (v := .bool was) (at_nth rfl) (by kernel_rfl) (by kernel_rfl) (by kernel_rfl) (fun _ _ _ h => absurd h (HQN _ _ _)) (by kernel_rfl) (fun w hSw => by kernel_rfl) hB ?_
      simp only [Act.put, List.setIfInBounds_toArray, List.set_cons_succ, List.set_cons_zero]
      refine wpAnyH_pure (i := 11) (v := .int .i64 ev) (at_nth rfl) (by kernel_rfl) (by kernel_rfl) (by kernel_rfl) (fun _ _ _ h => absurd h (HQN _ _ _)) (by kernel_rfl) (fun w hSw => by kernel_rfl) hB ?_
      simp only [Act.put, List.setIfInBounds_toArray, List.set_cons_succ, List.set_cons_zero]
      exact ST0_6_7 _ _ _ hB iD hZ
  have ST0 : ∀ (W : World), Below B0 W0 W → Is W D1 31 (stoA s A c) → InS W s A c → wpAnyH Try.prog .any (opsOf Try.f7 9) Q (fun W => Below B0 W0 W) 8 #[true, true, true, true, true, true, false, false, false, false, false, false, false, false] { tmps := #[.slice (some ⟨bR, oR, none⟩) len cp, x1, x2, x3, .pointer (some ⟨D1, 0, none⟩), x5, .int .i64 (k : Int), x7, x8, x9, x10, x11, x12, x13, x14, x15, x16, x17, x18, x19, x20, x21, x22, x23, x24, x25, x26, x27, x28, x29, x30, x31, x32, x33, x34, x35, x36, x37, x38, x39, x40, x41, x42, x43, x44, x45, x46, x47, x48, x49, x50, x51, x52, .agg (stoA s A c), .slice (some ⟨bR, oR, none⟩) len cp, .int .i64 (k : Int), .pointer (some ⟨bR, oR + k * 3, none⟩), .pointer (some ⟨bR, oR + k * 3 + 1, none⟩), .int .i64 z1, x59, x60, x61, x62, x63, x64, x65, x66, x67, x68, x69, x70, x71, x72, x73, x74, x75, x76, x77, x78, x79, x80, x81, x82, x83, x84, x85, x86, x87, x88, x89, x90, x91, x92, x93, x94, x95, x96, x97, x98, x99, x100, x101, x102, x103, x104, x105, x106, x107, x108, x109, x110, x111, x112, x113, x114, x115, x116, x117, x118, x119, x120, x121, x122, x123, x124, x125, x126, x127, x128, x129, x130, x131, x132, x133, x134, x135, x136, x137, x138], defers := [] } W := by
    intro W hB iD hI
    refine wpAnyH_ready (by kernel_rfl) (by simp) (AllReadyH.cons (i := 6) (at_nth rfl) ?_ (AllReadyH.nil))
    · refine arm10_call (by kernel_rfl) (fun wy => by kernel_rfl) ((HLb.out _).mono ?_)
      rintro e Wn ⟨rfl, hb⟩
      replace iD := iD.below hb iD.lt
      replace hI := hI.keep hb
      replace hB := hB.trans (hb.mono (Nat.le_trans hsz hB.size))
      clear hb
      refine ⟨_, rfl, hB, ?_⟩
      simp only [Act.put, List.setIfInBounds_toArray, List.set_cons_succ, List.set_cons_zero]
      exact ST0_6 _ hB iD hI
  have ST6 : ∀ (W : World), Below B0 W0 W → Is W D1 31 (stoA s A c) → InS W s A c → wpAnyH Try.prog .any (opsOf Try.f7 9) Q (fun W => Below B0 W0 W) 8 #[false, true, true, true, true, true, true, false, false, false, false, false, false, false] { tmps := #[.slice (some ⟨bR, oR, none⟩) len cp, x1, x2, x3, .pointer (some ⟨D1, 0, none⟩), x5, .int .i64 (k : Int), x7, x8, x9, x10, x11, x12, x13, x14, x15, x16, x17, x18, x19, x20, x21, x22, x23, x24, x25, x26, x27, x28, x29, x30, x31, x32, x33, x34, x35, x36, x37, x38, x39, x40, x41, x42, x43, x44, x45, x46, x47, x48, x49, x50, x51, x52, x53, .slice (some ⟨bR, oR, none⟩) len cp, .int .i64 (k : Int), .pointer (some ⟨bR, oR + k * 3, none⟩), .pointer (some ⟨bR, oR + k * 3 + 1, none⟩), .int .i64 z1, .string l, x60, x61, x62, x63, x64, x65, x66, x67, x68, x69, x70, x71, x72, x73, x74, x75, x76, x77, x78, x79, x80, x81, x82, x83, x84, x85, x86, x87, x88, x89, x90, x91, x92, x93, x94, x95, x96, x97, x98, x99, x100, x101, x102, x103, x104, x105, x106, x107, x108, x109, x110, x111, x112, x113, x114, x115, x116, x117, x118, x119, x120, x121, x122, x123, x124, x125, x126, x127, x128, x129, x130, x131, x132, x133, x134, x135, x136, x137, x138], defers := [] } W := by
    intro W hB iD hI
    refine wpAnyH_ready (by kernel_rfl) (by simp) (AllReadyH.cons (i := 0) (at_nth rfl) ?_ (AllReadyH.nil))
    · refine arm10_value (v := .agg (stoA s A c)) (w' := W) (by kernel_rfl) (run_load_rowO (x := .tmp 4) (by kernel_rfl) (by kernel_rfl) iD Try.underlying31 rfl infoSto12) hB ?_
      simp only [Act.put, List.setIfInBounds_toArray, List.set_cons_succ, List.set_cons_zero]
      exact ST0_6 _ hB iD hI
  have ST : ∀ (W : World), Below B0 W0 W → Is W D1 31 (stoA s A c) → InS W s A c → wpAnyH Try.prog .any (opsOf Try.f7 9) Q (fun W => Below B0 W0 W) 9 #[false, true, true, true, true, true, false, false, false, false, false, false, false, false] { tmps := #[.slice (some ⟨bR, oR, none⟩) len cp, x1, x2, x3, .pointer (some ⟨D1, 0, none⟩), x5, .int .i64 (k : Int), x7, x8, x9, x10, x11, x12, x13, x14, x15, x16, x17, x18, x19, x20, x21, x22, x23, x24, x25, x26, x27, x28, x29, x30, x31, x32, x33, x34, x35, x36, x37, x38, x39, x40, x41, x42, x43, x44, x45, x46, x47, x48, x49, x50, x51, x52, x53, .slice (some ⟨bR, oR, none⟩) len cp, .int .i64 (k : Int), .pointer (some ⟨bR, oR + k * 3, none⟩), .pointer (some ⟨bR, oR + k * 3 + 1, none⟩), .int .i64 z1, x59, x60, x61, x62, x63, x64, x65, x66, x67, x68, x69, x70, x71, x72, x73, x74, x75, x76, x77, x78, x79, x80, x81, x82, x83, x84, x85, x86, x87, x88, x89, x90, x91, x92, x93, x94, x95, x96, x97, x98, x99, x100, x101, x102, x103, x104, x105, x106, x107, x108, x109, x110, x111, x112, x113, x114, x115, x116, x117, x118, x119, x120, x121, x122, x123, x124, x125, x126, x127, x128, x129, x130, x131, x132, x133, x134, x135, x136, x137, x138], defers := [] } W := by
    intro W hB iD hI
    refine wpAnyH_ready (by kernel_rfl) (by simp) (AllReadyH.cons (i := 0) (at_nth rfl) ?_ (AllReadyH.cons (i := 6) (at_nth rfl) ?_ (AllReadyH.nil)))
    · refine arm10_value (v := .agg (stoA s A c)) (w' := W) (by kernel_rfl) (run_load_rowO (x := .tmp 4) (by kernel_rfl) (by kernel_rfl) iD Try.underlying31 rfl infoSto12) hB ?_
      simp only [Act.put, List.setIfInBounds_toArray, List.set_cons_succ, List.set_cons_zero]
      exact ST0 _ hB iD hI
    · refine arm10_call (by kernel_rfl) (fun wy => by kernel_rfl) ((HLb.out _).mono ?_)
      rintro e Wn ⟨rfl, hb⟩
      replace iD := iD.below hb iD.lt
      replace hI := hI.keep hb
      replace hB := hB.trans (hb.mono (Nat.le_trans hsz hB.size))
      clear hb
      refine ⟨_, rfl, hB, ?_⟩
      simp only [Act.put, List.setIfInBounds_toArray, List.set_cons_succ, List.set_cons_zero]
      exact ST6 _ hB iD hI
  refine wp_region_held_drew (S := fun W => Below B0 W0 W) (by kernel_rfl) hB (fun hS => ?_)
  change wpAnyH _ _ (opsOf Try.f7 9) _ _ 14 (Array.replicate 14 false) _ (W0.drewN 1)
  clear hS
  replace hB : Below B0 W0 (W0.drewN 1) := belowN (Below.refl _ _) 1
  refine wpAnyH_pure (i := 1) (v := .slice (some ⟨bR, oR, none⟩) len cp) (at_nth rfl) (by kernel_rfl) (by kernel_rfl) (by kernel_rfl) (fun _ _ _ h => absurd h (HQN _ _ _)) (by kernel_rfl) (fun w hSw => by kernel_rfl) hB ?_
  simp only [Act.put, List.setIfInBounds_toArray, List.set_cons_succ, List.set_cons_zero]
  refine wpAnyH_pure (i := 2) (v := .int .i64 (k : Int)) (at_nth rfl) (by kernel_rfl) (by kernel_rfl) (by kernel_rfl) (fun _ _ _ h => absurd h (HQN _ _ _)) (by kernel_rfl) (fun w hSw => by kernel_rfl) hB ?_
  simp only [Act.put, List.setIfInBounds_toArray, List.set_cons_succ, List.set_cons_zero]
  refine wpAnyH_pure (i := 3) (v := .pointer (some ⟨bR, oR + k * 3, none⟩)) (at_nth rfl) (by kernel_rfl) (by kernel_rfl) (by kernel_rfl) (fun _ _ _ h => absurd h (HQN _ _ _)) (by kernel_rfl) (fun w hSw => by have hk' := hk; go_simp) hB ?_
  simp only [Act.put, List.setIfInBounds_toArray, List.set_cons_succ, List.set_cons_zero]
  refine wpAnyH_pure (i := 4) (v := .pointer (some ⟨bR, oR + k * 3 + 1, none⟩)) (at_nth rfl) (by kernel_rfl) (by kernel_rfl) (by kernel_rfl) (fun _ _ _ h => absurd h (HQN _ _ _)) (by kernel_rfl) (fun w hSw => by go_simp) hB ?_
  simp only [Act.put, List.setIfInBounds_toArray, List.set_cons_succ, List.set_cons_zero]
  refine wpAnyH_pure (i := 5) (v := .int .i64 z1) (at_nth rfl) (by kernel_rfl) (by kernel_rfl) (by kernel_rfl) (fun _ _ _ h => absurd h (HQN _ _ _)) (by kernel_rfl) (fun w hSw => by (have hc := cell_belowB12 hSw hc1 hbl; go_simp)) hB ?_
  simp only [Act.put, List.setIfInBounds_toArray, List.set_cons_succ, List.set_cons_zero]
  exact ST _ hB i0 (h0.keep (belowN (Below.refl _ _) 1))
end Go.Proofs.Ytglcckpkbnppoaa
