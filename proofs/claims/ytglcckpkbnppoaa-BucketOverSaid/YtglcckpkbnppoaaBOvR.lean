/-
  BucketOver: what is done in regions that draw their order.
-/
import Derived.Test.YtglcckpkbnppoaaBuzD
namespace Go.Proofs.Ytglcckpkbnppoaa
open Go.RowKit Go.Shelf

set_option maxRecDepth 100000 in
set_option maxHeartbeats 4000000 in
theorem ov12_3 (W0 : World) (D1 : Nat) (s : Sto12) (A : Option Addr) (c : Nat) (z : Int) (l x : ByteArray) (is : Bool) (i1 : Is W0 D1 31 (stoA s A c)) (HLb : Hid (∀ W, Calls Try.prog 23 #[.int .i64 z] W fun e w' => e = .returned (.string l) ∧ Below W.heap.size W w')) (HG : Hid (∀ W, Below W0.heap.size W0 W → Calls Try.prog 29 #[stoV s A c, .string l] W fun e w' => e = .returned (.tuple #[.string x, .bool is]) ∧ Below W.heap.size W w')) (x0 x2 x3 x4 x5 x6 x7 x9 x10 x11 x12 x13 x14 x15 x16 x17 x18 x19 x20 x21 x22 x23 x24 x25 x26 x27 x28 x29 x30 x31 x32 x33 x34 x35 x36 x37 x38 x39 x40 x41 x42 x43 x44 x45 x46 x47 x48 x49 x50 x51 x52 x53 x54 x55 x56 x57 x58 x59 x60 x61 x62 x63 x64 x65 x66 x67 x68 x69 x70 x71 x72 x73 x74 x75 x76 x77 x78 x79 x80 x81 x82 x83 x84 x85 x86 x87 x88 x89 x90 x91 x92 x93 x94 x95 x96 x97 x98 x99 x100 x101 x102 x103 x104 x105 x106 x107 x108 x109 x110 x111 x112 x113 x114 x115 x116 x117 x118 x119 x120 x121 x122 x123 x124 x125 x126 x127 x128 x129 x130 x131 x132 x133 x134 x135 x136 x137 x138 x139 x140 : Value) :
    (Code.region 3 (opsOf Try.f8 3) true).wp Try.prog (fun ex YY W => ex = .normal ∧ YY.defers = [] ∧ ∃ (_ : Unit), YY.tmps = #[x0, .int .i64 z, x2, x3, x4, x5, x6, x7, .pointer (some ⟨D1, 0, none⟩), .string x, .bool is, x11, x12, x13, x14, x15, x16, x17, x18, x19, x20, x21, x22, x23, .tuple #[.string x, .bool is], .agg (stoA s A c), .int .i64 z, .string l, .tuple #[.string x, .bool is], .string x, .bool is, x31, x32, x33, x34, x35, x36, x37, x38, x39, x40, x41, x42, x43, x44, x45, x46, x47, x48, x49, x50, x51, x52, x53, x54, x55, x56, x57, x58, x59, x60, x61, x62, x63, x64, x65, x66, x67, x68, x69, x70, x71, x72, x73, x74, x75, x76, x77, x78, x79, x80, x81, x82, x83, x84, x85, x86, x87, x88, x89, x90, x91, x92, x93, x94, x95, x96, x97, x98, x99, x100, x101, x102, x103, x104, x105, x106, x107, x108, x109, x110, x111, x112, x113, x114, x115, x116, x117, x118, x119, x120, x121, x122, x123, x124, x125, x126, x127, x128, x129, x130, x131, x132, x133, x134, x135, x136, x137, x138, x139, x140] ∧ Below W0.heap.size W0 W) { tmps := #[x0, .int .i64 z, x2, x3, x4, x5, x6, x7, .pointer (some ⟨D1, 0, none⟩), x9, x10, x11, x12, x13, x14, x15, x16, x17, x18, x19, x20, x21, x22, x23, x24, x25, x26, x27, x28, x29, x30, x31, x32, x33, x34, x35, x36, x37, x38, x39, x40, x41, x42, x43, x44, x45, x46, x47, x48, x49, x50, x51, x52, x53, x54, x55, x56, x57, x58, x59, x60, x61, x62, x63, x64, x65, x66, x67, x68, x69, x70, x71, x72, x73, x74, x75, x76, x77, x78, x79, x80, x81, x82, x83, x84, x85, x86, x87, x88, x89, x90, x91, x92, x93, x94, x95, x96, x97, x98, x99, x100, x101, x102, x103, x104, x105, x106, x107, x108, x109, x110, x111, x112, x113, x114, x115, x116, x117, x118, x119, x120, x121, x122, x123, x124, x125, x126, x127, x128, x129, x130, x131, x132, x133, x134, x135, x136, x137, x138, x139, x140], defers := [] } W0 := by
  have hB : Below W0.heap.size W0 (W0.drewN 1) := belowN (Below.refl _ _) 1
  generalize hQ : (fun (ex : Exit) (YY : Act) (W : World) => ex = .normal ∧ YY.defers = [] ∧ ∃ (_ : Unit), YY.tmps = #[x0, .int .i64 z, x2, x3, x4, x5, x6, x7, .pointer (some ⟨D1, 0, none⟩), .string x, .bool is, x11, x12, x13, x14, x15, x16, x17, x18, x19, x20, x21, x22, x23, .tuple #[.string x, .bool is], .agg (stoA s A c), .int .i64 z, .string l, .tuple #[.string x, .bool is], .string x, .bool is, x31, x32, x33, x34, x35, x36, x37, x38, x39, x40, x41, x42, x43, x44, x45, x46, x47, x48, x49, x50, x51, x52, x53, x54, x55, x56, x57, x58, x59, x60, x61, x62, x63, x64, x65, x66, x67, x68, x69, x70, x71, x72, x73, x74, x75, x76, x77, x78, x79, x80, x81, x82, x83, x84, x85, x86, x87, x88, x89, x90, x91, x92, x93, x94, x95, x96, x97, x98, x99, x100, x101, x102, x103, x104, x105, x106, x107, x108, x109, x110, x111, x112, x113, x114, x115, x116, x117, x118, x119, x120, x121, x122, x123, x124, x125, x126, x127, x128, x129, x130, x131, x132, x133, x134, x135, x136, x137, x138, x139, x140] ∧ Below W0.heap.size W0 W) = Q
  have HQN : ∀ c a W, ¬ Q (.panic c) a W := fun c a W h => by subst hQ; exact nomatch h.1
  have ST2_3 : ∀ (W : World), Below W0.heap.size W0 W → wpAnyH Try.prog .any (opsOf Try.f8 3) Q (fun W => Below W0.heap.size W0 W) 0 #[true, true, true, true, true, true, true, true, true] { tmps := #[x0, .int .i64 z, x2, x3, x4, x5, x6, x7, .pointer (some ⟨D1, 0, none⟩), .string x, .bool is, x11, x12, x13, x14, x15, x16, x17, x18, x19, x20, x21, x22, x23, .tuple #[.string x, .bool is], .agg (stoA s A c), .int .i64 z, .string l, .tuple #[.string x, .bool is], .string x, .bool is, x31, x32, x33, x34, x35, x36, x37, x38, x39, x40, x41, x42, x43, x44, x45, x46, x47, x48, x49, x50, x51, x52, x53, x54, x55, x56, x57, x58, x59, x60, x61, x62, x63, x64, x65, x66, x67, x68, x69, x70, x71, x72, x73, x74, x75, x76, x77, x78, x79, x80, x81, x82, x83, x84, x85, x86, x87, x88, x89, x90, x91, x92, x93, x94, x95, x96, x97, x98, x99, x100, x101, x102, x103, x104, x105, x106, x107, x108, x109, x110, x111, x112, x113, x114, x115, x116, x117, x118, x119, x120, x121, x122, x123, x124, x125, x126, x127, x128, x129, x130, x131, x132, x133, x134, x135, x136, x137, x138, x139, x140], defers := [] } W := by
    intro W hB
    refine wpAnyH_done (by kernel_rfl) ?_ _
    subst hQ
    exact ⟨rfl, rfl, (), rfl, hB⟩
  have ST2 : ∀ (W : World), Below W0.heap.size W0 W → wpAnyH Try.prog .any (opsOf Try.f8 3) Q (fun W => Below W0.heap.size W0 W) 6 #[true, true, true, false, false, false, false, false, false] { tmps := #[x0, .int .i64 z, x2, x3, x4, x5, x6, x7, .pointer (some ⟨D1, 0, none⟩), x9, x10, x11, x12, x13, x14, x15, x16, x17, x18, x19, x20, x21, x22, x23, x24, .agg (stoA s A c), .int .i64 z, .string l, x28, x29, x30, x31, x32, x33, x34, x35, x36, x37, x38, x39, x40, x41, x42, x43, x44, x45, x46, x47, x48, x49, x50, x51, x52, x53, x54, x55, x56, x57, x58, x59, x60, x61, x62, x63, x64, x65, x66, x67, x68, x69, x70, x71, x72, x73, x74, x75, x76, x77, x78, x79, x80, x81, x82, x83, x84, x85, x86, x87, x88, x89, x90, x91, x92, x93, x94, x95, x96, x97, x98, x99, x100, x101, x102, x103, x104, x105, x106, x107, x108, x109, x110, x111, x112, x113, x114, x115, x116, x117, x118, x119, x120, x121, x122, x123, x124, x125, x126, x127, x128, x129, x130, x131, x132, x133, x134, x135, x136, x137, x138, x139, x140], defers := [] } W := by
    intro W hB
    refine wpAnyH_ready (by kernel_rfl) (by simp) (AllReadyH.cons (i := 3) (at_nth rfl) ?_ (AllReadyH.nil))
    · refine arm10_call (by kernel_rfl) (fun wy => by kernel_rfl) ((HG.out _ hB).mono ?_)
      rintro e Wn ⟨rfl, hb⟩
      replace hB := hB.trans (hb.mono hB.size)
      clear hb
      refine ⟨_, rfl, hB, ?_⟩
      simp only [Act.put, List.setIfInBounds_toArray, List.set_cons_succ, List.set_cons_zero]
      refine wpAnyH_pure (i := 4) (v := .tuple #[.string x, .bool is]) (at_nth rfl) (by kernel_rfl) (by kernel_rfl) (by kernel_rfl) (fun _ _ _ h => absurd h (HQN _ _ _)) (by kernel_rfl) (fun w hSw => by kernel_rfl) hB ?_
      simp only [Act.put, List.setIfInBounds_toArray, List.set_cons_succ, List.set_cons_zero]
      refine wpAnyH_pure (i := 5) (v := .string x) (at_nth rfl) (by kernel_rfl) (by kernel_rfl) (by kernel_rfl) (fun _ _ _ h => absurd h (HQN _ _ _)) (by kernel_rfl) (fun w hSw => by kernel_rfl) hB ?_
      simp only [Act.put, List.setIfInBounds_toArray, List.set_cons_succ, List.set_cons_zero]
      refine wpAnyH_pure (i := 6) (v := .bool is) (at_nth rfl) (by kernel_rfl) (by kernel_rfl) (by kernel_rfl) (fun _ _ _ h => absurd h (HQN _ _ _)) (by kernel_rfl) (fun w hSw => by kernel_rfl) hB ?_
      simp only [Act.put, List.setIfInBounds_toArray, List.set_cons_succ, List.set_cons_zero]
      refine wpAnyH_pure (i := 7) (v := .string x) (at_nth rfl) (by kernel_rfl) (by kernel_rfl) (by kernel_rfl) (fun _ _ _ h => absurd h (HQN _ _ _)) (by kernel_rfl) (fun w hSw => by kernel_rfl) hB ?_
      simp only [Act.put, List.setIfInBounds_toArray, List.set_cons_succ, List.set_cons_zero]
      refine wpAnyH_pure (i := 8) (v := .bool is) (at_nth rfl) (by kernel_rfl) (by kernel_rfl) (by kernel_rfl) (fun _ _ _ h => absurd h (HQN _ _ _)) (by kernel_rfl) (fun w hSw => by kernel_rfl) hB ?_
      simp only [Act.put, List.setIfInBounds_toArray, List.set_cons_succ, List.set_cons_zero]
      exact ST2_3 _ hB
  have ST : ∀ (W : World), Below W0.heap.size W0 W → wpAnyH Try.prog .any (opsOf Try.f8 3) Q (fun W => Below W0.heap.size W0 W) 7 #[true, true, false, false, false, false, false, false, false] { tmps := #[x0, .int .i64 z, x2, x3, x4, x5, x6, x7, .pointer (some ⟨D1, 0, none⟩), x9, x10, x11, x12, x13, x14, x15, x16, x17, x18, x19, x20, x21, x22, x23, x24, .agg (stoA s A c), .int .i64 z, x27, x28, x29, x30, x31, x32, x33, x34, x35, x36, x37, x38, x39, x40, x41, x42, x43, x44, x45, x46, x47, x48, x49, x50, x51, x52, x53, x54, x55, x56, x57, x58, x59, x60, x61, x62, x63, x64, x65, x66, x67, x68, x69, x70, x71, x72, x73, x74, x75, x76, x77, x78, x79, x80, x81, x82, x83, x84, x85, x86, x87, x88, x89, x90, x91, x92, x93, x94, x95, x96, x97, x98, x99, x100, x101, x102, x103, x104, x105, x106, x107, x108, x109, x110, x111, x112, x113, x114, x115, x116, x117, x118, x119, x120, x121, x122, x123, x124, x125, x126, x127, x128, x129, x130, x131, x132, x133, x134, x135, x136, x137, x138, x139, x140], defers := [] } W := by
    intro W hB
    refine wpAnyH_ready (by kernel_rfl) (by simp) (AllReadyH.cons (i := 2) (at_nth rfl) ?_ (AllReadyH.nil))
    · refine arm10_call (by kernel_rfl) (fun wy => by kernel_rfl) ((HLb.out _).mono ?_)
      rintro e Wn ⟨rfl, hb⟩
      replace hB := hB.trans (hb.mono hB.size)
      clear hb
      refine ⟨_, rfl, hB, ?_⟩
      simp only [Act.put, List.setIfInBounds_toArray, List.set_cons_succ, List.set_cons_zero]
      exact ST2 _ hB
  refine wp_region_held_drew (S := fun W => Below W0.heap.size W0 W) (by kernel_rfl) hB (fun hS => ?_)
  change wpAnyH _ _ (opsOf Try.f8 3) _ _ 9 (Array.replicate 9 false) _ (W0.drewN 1)
  clear hS
  replace hB : Below W0.heap.size W0 (W0.drewN 1) := belowN (Below.refl _ _) 1
  refine wpAnyH_pure (i := 0) (v := .agg (stoA s A c)) (at_nth rfl) (by kernel_rfl) (by kernel_rfl) (by kernel_rfl) (fun _ _ _ h => absurd h (HQN _ _ _)) (by kernel_rfl) (fun w hSw => by exact run_load_rowO (x := .tmp 8) (by kernel_rfl) (by kernel_rfl) (i1.below hSw i1.lt) Try.underlying31 rfl infoSto12) hB ?_
  simp only [Act.put, List.setIfInBounds_toArray, List.set_cons_succ, List.set_cons_zero]
  refine wpAnyH_pure (i := 1) (v := .int .i64 z) (at_nth rfl) (by kernel_rfl) (by kernel_rfl) (by kernel_rfl) (fun _ _ _ h => absurd h (HQN _ _ _)) (by kernel_rfl) (fun w hSw => by kernel_rfl) hB ?_
  simp only [Act.put, List.setIfInBounds_toArray, List.set_cons_succ, List.set_cons_zero]
  exact ST _ hB

set_option maxRecDepth 100000 in
set_option maxHeartbeats 4000000 in
theorem ov12_4 (W0 : World) (D1 : Nat) (s t : Sto12) (A : Option Addr) (c : Nat) (z : Int) (zc : Int) (l x : ByteArray) (ev : Int) (i1 : Is W0 D1 31 (stoA s A c)) (HLb : Hid (∀ W, Calls Try.prog 23 #[.int .i64 z] W fun e w' => e = .returned (.string l) ∧ Below W.heap.size W w')) (HC : Hid (∀ W, Calls Try.prog 24 #[.int .i64 zc] W fun e w' => e = .returned (.string x) ∧ Below W.heap.size W w')) (HP : Hid (∀ W, Below W0.heap.size W0 W → Calls Try.prog 25 #[stoV s A c, .string l, .string x] W fun e w' => ∃ A1 c1, e = .returned (.tuple #[stoV t A1 c1, .int .i64 ev]) ∧ InS w' t A1 c1 ∧ Below W.heap.size W w')) (x0 x3 x4 x5 x6 x7 x9 x10 x11 x12 x13 x14 x15 x16 x17 x18 x19 x20 x21 x22 x23 x24 x25 x26 x27 x28 x29 x30 x31 x32 x33 x34 x35 x36 x37 x38 x39 x40 x41 x42 x43 x44 x45 x46 x47 x48 x49 x50 x51 x52 x53 x54 x55 x56 x57 x58 x59 x60 x61 x62 x63 x64 x65 x66 x67 x68 x69 x70 x71 x72 x73 x74 x75 x76 x77 x78 x79 x80 x81 x82 x83 x84 x85 x86 x87 x88 x89 x90 x91 x92 x93 x94 x95 x96 x97 x98 x99 x100 x101 x102 x103 x104 x105 x106 x107 x108 x109 x110 x111 x112 x113 x114 x115 x116 x117 x118 x119 x120 x121 x122 x123 x124 x125 x126 x127 x128 x129 x130 x131 x132 x133 x134 x135 x136 x137 x138 x139 x140 : Value) :
    (Code.region 4 (opsOf Try.f8 4) true).wp Try.prog (fun ex YY W => ex = .normal ∧ YY.defers = [] ∧ ∃ (AQ : Option Addr) (cQ : Nat) (DN : Nat), YY.tmps = #[x0, .int .i64 z, .int .i64 zc, x3, x4, x5, x6, x7, .pointer (some ⟨D1, 0, none⟩), x9, x10, .pointer (some ⟨DN, 0, none⟩), .int .i64 ev, x13, x14, x15, x16, x17, x18, x19, x20, x21, x22, x23, x24, x25, x26, x27, x28, x29, x30, .tuple #[stoV t AQ cQ, .int .i64 ev], .agg (stoA s A c), .int .i64 z, .string l, .int .i64 zc, .string x, .tuple #[stoV t AQ cQ, .int .i64 ev], stoV t AQ cQ, .int .i64 ev, x40, x41, x42, x43, x44, x45, x46, x47, x48, x49, x50, x51, x52, x53, x54, x55, x56, x57, x58, x59, x60, x61, x62, x63, x64, x65, x66, x67, x68, x69, x70, x71, x72, x73, x74, x75, x76, x77, x78, x79, x80, x81, x82, x83, x84, x85, x86, x87, x88, x89, x90, x91, x92, x93, x94, x95, x96, x97, x98, x99, x100, x101, x102, x103, x104, x105, x106, x107, x108, x109, x110, x111, x112, x113, x114, x115, x116, x117, x118, x119, x120, x121, x122, x123, x124, x125, x126, x127, x128, x129, x130, x131, x132, x133, x134, x135, x136, x137, x138, x139, x140] ∧ Below W0.heap.size W0 W ∧ InS W t AQ cQ ∧ W0.heap.size ≤ DN ∧ Is W DN 31 (stoA t AQ cQ)) { tmps := #[x0, .int .i64 z, .int .i64 zc, x3, x4, x5, x6, x7, .pointer (some ⟨D1, 0, none⟩), x9, x10, x11, x12, x13, x14, x15, x16, x17, x18, x19, x20, x21, x22, x23, x24, x25, x26, x27, x28, x29, x30, x31, x32, x33, x34, x35, x36, x37, x38, x39, x40, x41, x42, x43, x44, x45, x46, x47, x48, x49, x50, x51, x52, x53, x54, x55, x56, x57, x58, x59, x60, x61, x62, x63, x64, x65, x66, x67, x68, x69, x70, x71, x72, x73, x74, x75, x76, x77, x78, x79, x80, x81, x82, x83, x84, x85, x86, x87, x88, x89, x90, x91, x92, x93, x94, x95, x96, x97, x98, x99, x100, x101, x102, x103, x104, x105, x106, x107, x108, x109, x110, x111, x112, x113, x114, x115, x116, x117, x118, x119, x120, x121, x122, x123, x124, x125, x126, x127, x128, x129, x130, x131, x132, x133, x134, x135, x136, x137, x138, x139, x140], defers := [] } W0 := by
  have hB : Below W0.heap.size W0 (W0.drewN 1) := belowN (Below.refl _ _) 1
  generalize hQ : (fun (ex : Exit) (YY : Act) (W : World) => ex = .normal ∧ YY.defers = [] ∧ ∃ (AQ : Option Addr) (cQ : Nat) (DN : Nat), YY.tmps = #[x0, .int .i64 z, .int .i64 zc, x3, x4, x5, x6, x7, .pointer (some ⟨D1, 0, none⟩), x9, x10, .pointer (some ⟨DN, 0, none⟩), .int .i64 ev, x13, x14, x15, x16, x17, x18, x19, x20, x21, x22, x23, x24, x25, x26, x27, x28, x29, x30, .tuple #[stoV t AQ cQ, .int .i64 ev], .agg (stoA s A c), .int .i64 z, .string l, .int .i64 zc, .string x, .tuple #[stoV t AQ cQ, .int .i64 ev], stoV t AQ cQ, .int .i64 ev, x40, x41, x42, x43, x44, x45, x46, x47, x48, x49, x50, x51, x52, x53, x54, x55, x56, x57, x58, x59, x60, x61, x62, x63, x64, x65, x66, x67, x68, x69, x70, x71, x72, x73, x74, x75, x76, x77, x78, x79, x80, x81, x82, x83, x84, x85, x86, x87, x88, x89, x90, x91, x92, x93, x94, x95, x96, x97, x98, x99, x100, x101, x102, x103, x104, x105, x106, x107, x108, x109, x110, x111, x112, x113, x114, x115, x116, x117, x118, x119, x120, x121, x122, x123, x124, x125, x126, x127, x128, x129, x130, x131, x132, x133, x134, x135, x136, x137, x138, x139, x140] ∧ Below W0.heap.size W0 W ∧ InS W t AQ cQ ∧ W0.heap.size ≤ DN ∧ Is W DN 31 (stoA t AQ cQ)) = Q
  have HQN : ∀ c a W, ¬ Q (.panic c) a W := fun c a W h => by subst hQ; exact nomatch h.1
  have ST2_4_5_9_10 : ∀ (W : World) (AQ : Option Addr) (cQ : Nat) (DN : Nat), Below W0.heap.size W0 W → InS W t AQ cQ → W0.heap.size ≤ DN → Is W DN 31 (stoA t AQ cQ) → wpAnyH Try.prog .any (opsOf Try.f8 4) Q (fun W => Below W0.heap.size W0 W) 0 #[true, true, true, true, true, true, true, true, true, true, true, true] { tmps := #[x0, .int .i64 z, .int .i64 zc, x3, x4, x5, x6, x7, .pointer (some ⟨D1, 0, none⟩), x9, x10, .pointer (some ⟨DN, 0, none⟩), .int .i64 ev, x13, x14, x15, x16, x17, x18, x19, x20, x21, x22, x23, x24, x25, x26, x27, x28, x29, x30, .tuple #[stoV t AQ cQ, .int .i64 ev], .agg (stoA s A c), .int .i64 z, .string l, .int .i64 zc, .string x, .tuple #[stoV t AQ cQ, .int .i64 ev], stoV t AQ cQ, .int .i64 ev, x40, x41, x42, x43, x44, x45, x46, x47, x48, x49, x50, x51, x52, x53, x54, x55, x56, x57, x58, x59, x60, x61, x62, x63, x64, x65, x66, x67, x68, x69, x70, x71, x72, x73, x74, x75, x76, x77, x78, x79, x80, x81, x82, x83, x84, x85, x86, x87, x88, x89, x90, x91, x92, x93, x94, x95, x96, x97, x98, x99, x100, x101, x102, x103, x104, x105, x106, x107, x108, x109, x110, x111, x112, x113, x114, x115, x116, x117, x118, x119, x120, x121, x122, x123, x124, x125, x126, x127, x128, x129, x130, x131, x132, x133, x134, x135, x136, x137, x138, x139, x140], defers := [] } W := by
    intro W AQ cQ DN hB hZ hD iN
    refine wpAnyH_done (by kernel_rfl) ?_ _
    subst hQ
    exact ⟨rfl, rfl, AQ, cQ, DN, rfl, hB, hZ, hD, iN⟩
  have ST2_4_5_9 : ∀ (W : World) (AQ : Option Addr) (cQ : Nat) (DN : Nat), Below W0.heap.size W0 W → InS W t AQ cQ → W0.heap.size ≤ DN → Is W DN 31 #[.slice none 0 0, .int .i64 0, .int .i64 0] → wpAnyH Try.prog .any (opsOf Try.f8 4) Q (fun W => Below W0.heap.size W0 W) 2 #[true, true, true, true, true, true, true, true, true, true, false, false] { tmps := #[x0, .int .i64 z, .int .i64 zc, x3, x4, x5, x6, x7, .pointer (some ⟨D1, 0, none⟩), x9, x10, .pointer (some ⟨DN, 0, none⟩), x12, x13, x14, x15, x16, x17, x18, x19, x20, x21, x22, x23, x24, x25, x26, x27, x28, x29, x30, .tuple #[stoV t AQ cQ, .int .i64 ev], .agg (stoA s A c), .int .i64 z, .string l, .int .i64 zc, .string x, .tuple #[stoV t AQ cQ, .int .i64 ev], stoV t AQ cQ, .int .i64 ev, x40, x41, x42, x43, x44, x45, x46, x47, x48, x49, x50, x51, x52, x53, x54, x55, x56, x57, x58, x59, x60, x61, x62, x63, x64, x65, x66, x67, x68, x69, x70, x71, x72, x73, x74, x75, x76, x77, x78, x79, x80, x81, x82, x83, x84, x85, x86, x87, x88, x89, x90, x91, x92, x93, x94, x95, x96, x97, x98, x99, x100, x101, x102, x103, x104, x105, x106, x107, x108, x109, x110, x111, x112, x113, x114, x115, x116, x117, x118, x119, x120, x121, x122, x123, x124, x125, x126, x127, x128, x129, x130, x131, x132, x133, x134, x135, x136, x137, x138, x139, x140], defers := [] } W := by
    intro W AQ cQ DN hB hZ hD iN
    refine wpAnyH_ready (by kernel_rfl) (by simp) (AllReadyH.cons (i := 10) (at_nth rfl) ?_ (AllReadyH.nil))
    · have hone := stoA_one12 t AQ cQ
      replace hZ := hZ.far12 iN (stoA t AQ cQ)
      have iN2 := iN.row (stoA t AQ cQ)
      have hB2 := belowRow hB hD (stoA t AQ cQ)
      refine arm10_skip (w' := W.setRow DN (stoA t AQ cQ)) (by kernel_rfl) (run_row10 (x := .tmp 11) (y := .tmp 38) (by kernel_rfl) (by kernel_rfl) (by kernel_rfl) iN infoSto12 rfl hone) hB2 ?_
      simp only [Act.put]
      replace hB := hB2
      replace iN := iN2
      clear iN2 hB2 hone
      refine wpAnyH_pure (i := 11) (v := .int .i64 ev) (at_nth rfl) (by kernel_rfl) (by kernel_rfl) (by kernel_rfl) (fun _ _ _ h => absurd h (HQN _ _ _)) (by kernel_rfl) (fun w hSw => by kernel_rfl) hB ?_
      simp only [Act.put, List.setIfInBounds_toArray, List.set_cons_succ, List.set_cons_zero]
      exact ST2_4_5_9_10 _ _ _ _ hB hZ hD iN
  have ST2_4_5 : ∀ (W : World) (AQ : Option Addr) (cQ : Nat), Below W0.heap.size W0 W → InS W t AQ cQ → wpAnyH Try.prog .any (opsOf Try.f8 4) Q (fun W => Below W0.heap.size W0 W) 3 #[true, true, true, true, true, true, true, true, true, false, false, false] { tmps := #[x0, .int .i64 z, .int .i64 zc, x3, x4, x5, x6, x7, .pointer (some ⟨D1, 0, none⟩), x9, x10, x11, x12, x13, x14, x15, x16, x17, x18, x19, x20, x21, x22, x23, x24, x25, x26, x27, x28, x29, x30, .tuple #[stoV t AQ cQ, .int .i64 ev], .agg (stoA s A c), .int .i64 z, .string l, .int .i64 zc, .string x, .tuple #[stoV t AQ cQ, .int .i64 ev], stoV t AQ cQ, .int .i64 ev, x40, x41, x42, x43, x44, x45, x46, x47, x48, x49, x50, x51, x52, x53, x54, x55, x56, x57, x58, x59, x60, x61, x62, x63, x64, x65, x66, x67, x68, x69, x70, x71, x72, x73, x74, x75, x76, x77, x78, x79, x80, x81, x82, x83, x84, x85, x86, x87, x88, x89, x90, x91, x92, x93, x94, x95, x96, x97, x98, x99, x100, x101, x102, x103, x104, x105, x106, x107, x108, x109, x110, x111, x112, x113, x114, x115, x116, x117, x118, x119, x120, x121, x122, x123, x124, x125, x126, x127, x128, x129, x130, x131, x132, x133, x134, x135, x136, x137, x138, x139, x140], defers := [] } W := by
    intro W AQ cQ hB hZ
    refine wpAnyH_ready (by kernel_rfl) (by simp) (AllReadyH.cons (i := 9) (at_nth rfl) ?_ (AllReadyH.nil))
    · have iN := Is.new W 31 #[.slice none 0 0, .int .i64 0, .int .i64 0]
      replace hZ := hZ.keep ((Below.refl _ _).alloc (Nat.le_refl _) (.cells #[.slice none 0 0, .int .i64 0, .int .i64 0] 31))
      have hD := hB.size
      replace hB := hB.alloc hB.size (.cells #[.slice none 0 0, .int .i64 0, .int .i64 0] 31)
      refine arm10_value (v := .pointer (some ⟨W.heap.size, 0, none⟩)) (w' := W.alloc (.cells #[.slice none 0 0, .int .i64 0, .int .i64 0] 31)) (by kernel_rfl) (by go_simp) hB ?_
      simp only [Act.put, List.setIfInBounds_toArray, List.set_cons_succ, List.set_cons_zero]
      exact ST2_4_5_9 _ _ _ _ hB hZ hD iN
  have ST2_4_9 : ∀ (W : World) (DN : Nat), Below W0.heap.size W0 W → W0.heap.size ≤ DN → Is W DN 31 #[.slice none 0 0, .int .i64 0, .int .i64 0] → wpAnyH Try.prog .any (opsOf Try.f8 4) Q (fun W => Below W0.heap.size W0 W) 6 #[true, true, true, true, true, false, false, false, false, true, false, false] { tmps := #[x0, .int .i64 z, .int .i64 zc, x3, x4, x5, x6, x7, .pointer (some ⟨D1, 0, none⟩), x9, x10, .pointer (some ⟨DN, 0, none⟩), x12, x13, x14, x15, x16, x17, x18, x19, x20, x21, x22, x23, x24, x25, x26, x27, x28, x29, x30, x31, .agg (stoA s A c), .int .i64 z, .string l, .int .i64 zc, .string x, x37, x38, x39, x40, x41, x42, x43, x44, x45, x46, x47, x48, x49, x50, x51, x52, x53, x54, x55, x56, x57, x58, x59, x60, x61, x62, x63, x64, x65, x66, x67, x68, x69, x70, x71, x72, x73, x74, x75, x76, x77, x78, x79, x80, x81, x82, x83, x84, x85, x86, x87, x88, x89, x90, x91, x92, x93, x94, x95, x96, x97, x98, x99, x100, x101, x102, x103, x104, x105, x106, x107, x108, x109, x110, x111, x112, x113, x114, x115, x116, x117, x118, x119, x120, x121, x122, x123, x124, x125, x126, x127, x128, x129, x130, x131, x132, x133, x134, x135, x136, x137, x138, x139, x140], defers := [] } W := by
    intro W DN hB hD iN
    refine wpAnyH_ready (by kernel_rfl) (by simp) (AllReadyH.cons (i := 5) (at_nth rfl) ?_ (AllReadyH.nil))
    · refine arm10_call (by kernel_rfl) (fun wy => by kernel_rfl) ((HP.out _ hB).mono ?_)
      rintro e Wn ⟨AQ, cQ, rfl, hZ, hb⟩
      replace iN := iN.below hb iN.lt
      replace hB := hB.trans (hb.mono hB.size)
      clear hb
      refine ⟨_, rfl, hB, ?_⟩
      simp only [Act.put, List.setIfInBounds_toArray, List.set_cons_succ, List.set_cons_zero]
      refine wpAnyH_pure (i := 6) (v := .tuple #[stoV t AQ cQ, .int .i64 ev]) (at_nth rfl) (by kernel_rfl) (by kernel_rfl) (by kernel_rfl) (fun _ _ _ h => absurd h (HQN _ _ _)) (by kernel_rfl) (fun w hSw => by kernel_rfl) hB ?_
      simp only [Act.put, List.setIfInBounds_toArray, List.set_cons_succ, List.set_cons_zero]
      refine wpAnyH_pure (i := 7) (v := stoV t AQ cQ) (at_nth rfl) (by kernel_rfl) (by kernel_rfl) (by kernel_rfl) (fun _ _ _ h => absurd h (HQN _ _ _)) (by kernel_rfl) (fun w hSw => by kernel_rfl) hB ?_
      simp only [Act.put, List.setIfInBounds_toArray, List.set_cons_succ, List.set_cons_zero]
      refine wpAnyH_pure (i := 8) (v := .int .i64 ev) (at_nth rfl) (by kernel_rfl) (by kernel_rfl) (by kernel_rfl) (fun _ _ _ h => absurd h (HQN _ _ _)) (by kernel_rfl) (fun w hSw => by kernel_rfl) hB ?_
      simp only [Act.put, List.setIfInBounds_toArray, List.set_cons_succ, List.set_cons_zero]
      exact ST2_4_5_9 _ _ _ _ hB hZ hD iN
  have ST2_4 : ∀ (W : World), Below W0.heap.size W0 W → wpAnyH Try.prog .any (opsOf Try.f8 4) Q (fun W => Below W0.heap.size W0 W) 7 #[true, true, true, true, true, false, false, false, false, false, false, false] { tmps := #[x0, .int .i64 z, .int .i64 zc, x3, x4, x5, x6, x7, .pointer (some ⟨D1, 0, none⟩), x9, x10, x11, x12, x13, x14, x15, x16, x17, x18, x19, x20, x21, x22, x23, x24, x25, x26, x27, x28, x29, x30, x31, .agg (stoA s A c), .int .i64 z, .string l, .int .i64 zc, .string x, x37, x38, x39, x40, x41, x42, x43, x44, x45, x46, x47, x48, x49, x50, x51, x52, x53, x54, x55, x56, x57, x58, x59, x60, x61, x62, x63, x64, x65, x66, x67, x68, x69, x70, x71, x72, x73, x74, x75, x76, x77, x78, x79, x80, x81, x82, x83, x84, x85, x86, x87, x88, x89, x90, x91, x92, x93, x94, x95, x96, x97, x98, x99, x100, x101, x102, x103, x104, x105, x106, x107, x108, x109, x110, x111, x112, x113, x114, x115, x116, x117, x118, x119, x120, x121, x122, x123, x124, x125, x126, x127, x128, x129, x130, x131, x132, x133, x134, x135, x136, x137, x138, x139, x140], defers := [] } W := by
    intro W hB
    refine wpAnyH_ready (by kernel_rfl) (by simp) (AllReadyH.cons (i := 5) (at_nth rfl) ?_ (AllReadyH.cons (i := 9) (at_nth rfl) ?_ (AllReadyH.nil)))
    · refine arm10_call (by kernel_rfl) (fun wy => by kernel_rfl) ((HP.out _ hB).mono ?_)
      rintro e Wn ⟨AQ, cQ, rfl, hZ, hb⟩
      replace hB := hB.trans (hb.mono hB.size)
      clear hb
      refine ⟨_, rfl, hB, ?_⟩
      simp only [Act.put, List.setIfInBounds_toArray, List.set_cons_succ, List.set_cons_zero]
      refine wpAnyH_pure (i := 6) (v := .tuple #[stoV t AQ cQ, .int .i64 ev]) (at_nth rfl) (by kernel_rfl) (by kernel_rfl) (by kernel_rfl) (fun _ _ _ h => absurd h (HQN _ _ _)) (by kernel_rfl) (fun w hSw => by kernel_rfl) hB ?_
      simp only [Act.put, List.setIfInBounds_toArray, List.set_cons_succ, List.set_cons_zero]
      refine wpAnyH_pure (i := 7) (v := stoV t AQ cQ) (at_nth rfl) (by kernel_rfl) (by kernel_rfl) (by kernel_rfl) (fun _ _ _ h => absurd h (HQN _ _ _)) (by kernel_rfl) (fun w hSw => by kernel_rfl) hB ?_
      simp only [Act.put, List.setIfInBounds_toArray, List.set_cons_succ, List.set_cons_zero]
      refine wpAnyH_pure (i := 8) (v := .int .i64 ev) (at_nth rfl) (by kernel_rfl) (by kernel_rfl) (by kernel_rfl) (fun _ _ _ h => absurd h (HQN _ _ _)) (by kernel_rfl) (fun w hSw => by kernel_rfl) hB ?_
      simp only [Act.put, List.setIfInBounds_toArray, List.set_cons_succ, List.set_cons_zero]
      exact ST2_4_5 _ _ _ hB hZ
    · have iN := Is.new W 31 #[.slice none 0 0, .int .i64 0, .int .i64 0]
      have hD := hB.size
      replace hB := hB.alloc hB.size (.cells #[.slice none 0 0, .int .i64 0, .int .i64 0] 31)
      refine arm10_value (v := .pointer (some ⟨W.heap.size, 0, none⟩)) (w' := W.alloc (.cells #[.slice none 0 0, .int .i64 0, .int .i64 0] 31)) (by kernel_rfl) (by go_simp) hB ?_
      simp only [Act.put, List.setIfInBounds_toArray, List.set_cons_succ, List.set_cons_zero]
      exact ST2_4_9 _ _ hB hD iN
  have ST2_9 : ∀ (W : World) (DN : Nat), Below W0.heap.size W0 W → W0.heap.size ≤ DN → Is W DN 31 #[.slice none 0 0, .int .i64 0, .int .i64 0] → wpAnyH Try.prog .any (opsOf Try.f8 4) Q (fun W => Below W0.heap.size W0 W) 7 #[true, true, true, true, false, false, false, false, false, true, false, false] { tmps := #[x0, .int .i64 z, .int .i64 zc, x3, x4, x5, x6, x7, .pointer (some ⟨D1, 0, none⟩), x9, x10, .pointer (some ⟨DN, 0, none⟩), x12, x13, x14, x15, x16, x17, x18, x19, x20, x21, x22, x23, x24, x25, x26, x27, x28, x29, x30, x31, .agg (stoA s A c), .int .i64 z, .string l, .int .i64 zc, x36, x37, x38, x39, x40, x41, x42, x43, x44, x45, x46, x47, x48, x49, x50, x51, x52, x53, x54, x55, x56, x57, x58, x59, x60, x61, x62, x63, x64, x65, x66, x67, x68, x69, x70, x71, x72, x73, x74, x75, x76, x77, x78, x79, x80, x81, x82, x83, x84, x85, x86, x87, x88, x89, x90, x91, x92, x93, x94, x95, x96, x97, x98, x99, x100, x101, x102, x103, x104, x105, x106, x107, x108, x109, x110, x111, x112, x113, x114, x115, x116, x117, x118, x119, x120, x121, x122, x123, x124, x125, x126, x127, x128, x129, x130, x131, x132, x133, x134, x135, x136, x137, x138, x139, x140], defers := [] } W := by
    intro W DN hB hD iN
    refine wpAnyH_ready (by kernel_rfl) (by simp) (AllReadyH.cons (i := 4) (at_nth rfl) ?_ (AllReadyH.nil))
    · refine arm10_call (by kernel_rfl) (fun wy => by kernel_rfl) ((HC.out _).mono ?_)
      rintro e Wn ⟨rfl, hb⟩
      replace iN := iN.below hb iN.lt
      replace hB := hB.trans (hb.mono hB.size)
      clear hb
      refine ⟨_, rfl, hB, ?_⟩
      simp only [Act.put, List.setIfInBounds_toArray, List.set_cons_succ, List.set_cons_zero]
      exact ST2_4_9 _ _ hB hD iN
  have ST2 : ∀ (W : World), Below W0.heap.size W0 W → wpAnyH Try.prog .any (opsOf Try.f8 4) Q (fun W => Below W0.heap.size W0 W) 8 #[true, true, true, true, false, false, false, false, false, false, false, false] { tmps := #[x0, .int .i64 z, .int .i64 zc, x3, x4, x5, x6, x7, .pointer (some ⟨D1, 0, none⟩), x9, x10, x11, x12, x13, x14, x15, x16, x17, x18, x19, x20, x21, x22, x23, x24, x25, x26, x27, x28, x29, x30, x31, .agg (stoA s A c), .int .i64 z, .string l, .int .i64 zc, x36, x37, x38, x39, x40, x41, x42, x43, x44, x45, x46, x47, x48, x49, x50, x51, x52, x53, x54, x55, x56, x57, x58, x59, x60, x61, x62, x63, x64, x65, x66, x67, x68, x69, x70, x71, x72, x73, x74, x75, x76, x77, x78, x79, x80, x81, x82, x83, x84, x85, x86, x87, x88, x89, x90, x91, x92, x93, x94, x95, x96, x97, x98, x99, x100, x101, x102, x103, x104, x105, x106, x107, x108, x109, x110, x111, x112, x113, x114, x115, x116, x117, x118, x119, x120, x121, x122, x123, x124, x125, x126, x127, x128, x129, x130, x131, x132, x133, x134, x135, x136, x137, x138, x139, x140], defers := [] } W := by
    intro W hB
    refine wpAnyH_ready (by kernel_rfl) (by simp) (AllReadyH.cons (i := 4) (at_nth rfl) ?_ (AllReadyH.cons (i := 9) (at_nth rfl) ?_ (AllReadyH.nil)))
    · refine arm10_call (by kernel_rfl) (fun wy => by kernel_rfl) ((HC.out _).mono ?_)
      rintro e Wn ⟨rfl, hb⟩
      replace hB := hB.trans (hb.mono hB.size)
      clear hb
      refine ⟨_, rfl, hB, ?_⟩
      simp only [Act.put, List.setIfInBounds_toArray, List.set_cons_succ, List.set_cons_zero]
      exact ST2_4 _ hB
    · have iN := Is.new W 31 #[.slice none 0 0, .int .i64 0, .int .i64 0]
      have hD := hB.size
      replace hB := hB.alloc hB.size (.cells #[.slice none 0 0, .int .i64 0, .int .i64 0] 31)
      refine arm10_value (v := .pointer (some ⟨W.heap.size, 0, none⟩)) (w' := W.alloc (.cells #[.slice none 0 0, .int .i64 0, .int .i64 0] 31)) (by kernel_rfl) (by go_simp) hB ?_
      simp only [Act.put, List.setIfInBounds_toArray, List.set_cons_succ, List.set_cons_zero]
      exact ST2_9 _ _ hB hD iN
  have ST9 : ∀ (W : World) (DN : Nat), Below W0.heap.size W0 W → W0.heap.size ≤ DN → Is W DN 31 #[.slice none 0 0, .int .i64 0, .int .i64 0] → wpAnyH Try.prog .any (opsOf Try.f8 4) Q (fun W => Below W0.heap.size W0 W) 8 #[true, true, false, true, false, false, false, false, false, true, false, false] { tmps := #[x0, .int .i64 z, .int .i64 zc, x3, x4, x5, x6, x7, .pointer (some ⟨D1, 0, none⟩), x9, x10, .pointer (some ⟨DN, 0, none⟩), x12, x13, x14, x15, x16, x17, x18, x19, x20, x21, x22, x23, x24, x25, x26, x27, x28, x29, x30, x31, .agg (stoA s A c), .int .i64 z, x34, .int .i64 zc, x36, x37, x38, x39, x40, x41, x42, x43, x44, x45, x46, x47, x48, x49, x50, x51, x52, x53, x54, x55, x56, x57, x58, x59, x60, x61, x62, x63, x64, x65, x66, x67, x68, x69, x70, x71, x72, x73, x74, x75, x76, x77, x78, x79, x80, x81, x82, x83, x84, x85, x86, x87, x88, x89, x90, x91, x92, x93, x94, x95, x96, x97, x98, x99, x100, x101, x102, x103, x104, x105, x106, x107, x108, x109, x110, x111, x112, x113, x114, x115, x116, x117, x118, x119, x120, x121, x122, x123, x124, x125, x126, x127, x128, x129, x130, x131, x132, x133, x134, x135, x136, x137, x138, x139, x140], defers := [] } W := by
    intro W DN hB hD iN
    refine wpAnyH_ready (by kernel_rfl) (by simp) (AllReadyH.cons (i := 2) (at_nth rfl) ?_ (AllReadyH.nil))
    · refine arm10_call (by kernel_rfl) (fun wy => by kernel_rfl) ((HLb.out _).mono ?_)
      rintro e Wn ⟨rfl, hb⟩
      replace iN := iN.below hb iN.lt
      replace hB := hB.trans (hb.mono hB.size)
      clear hb
      refine ⟨_, rfl, hB, ?_⟩
      simp only [Act.put, List.setIfInBounds_toArray, List.set_cons_succ, List.set_cons_zero]
      exact ST2_9 _ _ hB hD iN
  have ST : ∀ (W : World), Below W0.heap.size W0 W → wpAnyH Try.prog .any (opsOf Try.f8 4) Q (fun W => Below W0.heap.size W0 W) 9 #[true, true, false, true, false, false, false, false, false, false, false, false] { tmps := #[x0, .int .i64 z, .int .i64 zc, x3, x4, x5, x6, x7, .pointer (some ⟨D1, 0, none⟩), x9, x10, x11, x12, x13, x14, x15, x16, x17, x18, x19, x20, x21, x22, x23, x24, x25, x26, x27, x28, x29, x30, x31, .agg (stoA s A c), .int .i64 z, x34, .int .i64 zc, x36, x37, x38, x39, x40, x41, x42, x43, x44, x45, x46, x47, x48, x49, x50, x51, x52, x53, x54, x55, x56, x57, x58, x59, x60, x61, x62, x63, x64, x65, x66, x67, x68, x69, x70, x71, x72, x73, x74, x75, x76, x77, x78, x79, x80, x81, x82, x83, x84, x85, x86, x87, x88, x89, x90, x91, x92, x93, x94, x95, x96, x97, x98, x99, x100, x101, x102, x103, x104, x105, x106, x107, x108, x109, x110, x111, x112, x113, x114, x115, x116, x117, x118, x119, x120, x121, x122, x123, x124, x125, x126, x127, x128, x129, x130, x131, x132, x133, x134, x135, x136, x137, x138, x139, x140], defers := [] } W := by
    intro W hB
    refine wpAnyH_ready (by kernel_rfl) (by simp) (AllReadyH.cons (i := 2) (at_nth rfl) ?_ (AllReadyH.cons (i := 9) (at_nth rfl) ?_ (AllReadyH.nil)))
    · refine arm10_call (by kernel_rfl) (fun wy => by kernel_rfl) ((HLb.out _).mono ?_)
      rintro e Wn ⟨rfl, hb⟩
      replace hB := hB.trans (hb.mono hB.size)
      clear hb
      refine ⟨_, rfl, hB, ?_⟩
      simp only [Act.put, List.setIfInBounds_toArray, List.set_cons_succ, List.set_cons_zero]
      exact ST2 _ hB
    · have iN := Is.new W 31 #[.slice none 0 0, .int .i64 0, .int .i64 0]
      have hD := hB.size
      replace hB := hB.alloc hB.size (.cells #[.slice none 0 0, .int .i64 0, .int .i64 0] 31)
      refine arm10_value (v := .pointer (some ⟨W.heap.size, 0, none⟩)) (w' := W.alloc (.cells #[.slice none 0 0, .int .i64 0, .int .i64 0] 31)) (by kernel_rfl) (by go_simp) hB ?_
      simp only [Act.put, List.setIfInBounds_toArray, List.set_cons_succ, List.set_cons_zero]
      exact ST9 _ _ hB hD iN
  refine wp_region_held_drew (S := fun W => Below W0.heap.size W0 W) (by kernel_rfl) hB (fun hS => ?_)
  change wpAnyH _ _ (opsOf Try.f8 4) _ _ 12 (Array.replicate 12 false) _ (W0.drewN 1)
  clear hS
  replace hB : Below W0.heap.size W0 (W0.drewN 1) := belowN (Below.refl _ _) 1
  refine wpAnyH_pure (i := 0) (v := .agg (stoA s A c)) (at_nth rfl) (by kernel_rfl) (by kernel_rfl) (by kernel_rfl) (fun _ _ _ h => absurd h (HQN _ _ _)) (by kernel_rfl) (fun w hSw => by exact run_load_rowO (x := .tmp 8) (by kernel_rfl) (by kernel_rfl) (i1.below hSw i1.lt) Try.underlying31 rfl infoSto12) hB ?_
  simp only [Act.put, List.setIfInBounds_toArray, List.set_cons_succ, List.set_cons_zero]
  refine wpAnyH_pure (i := 1) (v := .int .i64 z) (at_nth rfl) (by kernel_rfl) (by kernel_rfl) (by kernel_rfl) (fun _ _ _ h => absurd h (HQN _ _ _)) (by kernel_rfl) (fun w hSw => by kernel_rfl) hB ?_
  simp only [Act.put, List.setIfInBounds_toArray, List.set_cons_succ, List.set_cons_zero]
  refine wpAnyH_pure (i := 3) (v := .int .i64 zc) (at_nth rfl) (by kernel_rfl) (by kernel_rfl) (by kernel_rfl) (fun _ _ _ h => absurd h (HQN _ _ _)) (by kernel_rfl) (fun w hSw => by kernel_rfl) hB ?_
  simp only [Act.put, List.setIfInBounds_toArray, List.set_cons_succ, List.set_cons_zero]
  exact ST _ hB

set_option maxRecDepth 100000 in
set_option maxHeartbeats 4000000 in
theorem ov12_5 (W0 : World) (D1 : Nat) (s t : Sto12) (A : Option Addr) (c : Nat) (z : Int) (l x : ByteArray) (ev : Int) (i1 : Is W0 D1 31 (stoA s A c)) (HLb : Hid (∀ W, Calls Try.prog 23 #[.int .i64 z] W fun e w' => e = .returned (.string l) ∧ Below W.heap.size W w')) (HP : Hid (∀ W, Below W0.heap.size W0 W → Calls Try.prog 25 #[stoV s A c, .string l, .string x] W fun e w' => ∃ A1 c1, e = .returned (.tuple #[stoV t A1 c1, .int .i64 ev]) ∧ InS w' t A1 c1 ∧ Below W.heap.size W w')) (x0 x2 x3 x4 x5 x6 x7 x8 x10 x12 x13 x14 x15 x16 x17 x18 x19 x20 x21 x22 x23 x24 x25 x26 x27 x28 x29 x30 x31 x32 x33 x34 x35 x36 x37 x38 x39 x40 x41 x42 x43 x44 x45 x46 x47 x48 x49 x50 x51 x52 x53 x54 x55 x56 x57 x58 x59 x60 x61 x62 x63 x64 x65 x66 x67 x68 x69 x70 x71 x72 x73 x74 x75 x76 x77 x78 x79 x80 x81 x82 x83 x84 x85 x86 x87 x88 x89 x90 x91 x92 x93 x94 x95 x96 x97 x98 x99 x100 x101 x102 x103 x104 x105 x106 x107 x108 x109 x110 x111 x112 x113 x114 x115 x116 x117 x118 x119 x120 x121 x122 x123 x124 x125 x126 x127 x128 x129 x130 x131 x132 x133 x134 x135 x136 x137 x138 x139 x140 : Value) :
    (Code.region 5 (opsOf Try.f8 5) true).wp Try.prog (fun ex YY W => ex = .normal ∧ YY.defers = [] ∧ ∃ (AQ : Option Addr) (cQ : Nat) (DN : Nat), YY.tmps = #[x0, .int .i64 z, x2, x3, x4, x5, x6, x7, x8, .string x, x10, .pointer (some ⟨D1, 0, none⟩), x12, .pointer (some ⟨DN, 0, none⟩), .int .i64 ev, x15, x16, x17, x18, x19, x20, x21, x22, x23, x24, x25, x26, x27, x28, x29, x30, x31, x32, x33, x34, x35, x36, x37, x38, x39, .tuple #[stoV t AQ cQ, .int .i64 ev], .agg (stoA s A c), .int .i64 z, .string l, .string x, .tuple #[stoV t AQ cQ, .int .i64 ev], stoV t AQ cQ, .int .i64 ev, x48, x49, x50, x51, x52, x53, x54, x55, x56, x57, x58, x59, x60, x61, x62, x63, x64, x65, x66, x67, x68, x69, x70, x71, x72, x73, x74, x75, x76, x77, x78, x79, x80, x81, x82, x83, x84, x85, x86, x87, x88, x89, x90, x91, x92, x93, x94, x95, x96, x97, x98, x99, x100, x101, x102, x103, x104, x105, x106, x107, x108, x109, x110, x111, x112, x113, x114, x115, x116, x117, x118, x119, x120, x121, x122, x123, x124, x125, x126, x127, x128, x129, x130, x131, x132, x133, x134, x135, x136, x137, x138, x139, x140] ∧ Below W0.heap.size W0 W ∧ InS W t AQ cQ ∧ W0.heap.size ≤ DN ∧ Is W DN 31 (stoA t AQ cQ)) { tmps := #[x0, .int .i64 z, x2, x3, x4, x5, x6, x7, x8, .string x, x10, .pointer (some ⟨D1, 0, none⟩), x12, x13, x14, x15, x16, x17, x18, x19, x20, x21, x22, x23, x24, x25, x26, x27, x28, x29, x30, x31, x32, x33, x34, x35, x36, x37, x38, x39, x40, x41, x42, x43, x44, x45, x46, x47, x48, x49, x50, x51, x52, x53, x54, x55, x56, x57, x58, x59, x60, x61, x62, x63, x64, x65, x66, x67, x68, x69, x70, x71, x72, x73, x74, x75, x76, x77, x78, x79, x80, x81, x82, x83, x84, x85, x86, x87, x88, x89, x90, x91, x92, x93, x94, x95, x96, x97, x98, x99, x100, x101, x102, x103, x104, x105, x106, x107, x108, x109, x110, x111, x112, x113, x114, x115, x116, x117, x118, x119, x120, x121, x122, x123, x124, x125, x126, x127, x128, x129, x130, x131, x132, x133, x134, x135, x136, x137, x138, x139, x140], defers := [] } W0 := by
  have hB : Below W0.heap.size W0 (W0.drewN 1) := belowN (Below.refl _ _) 1
  generalize hQ : (fun (ex : Exit) (YY : Act) (W : World) => ex = .normal ∧ YY.defers = [] ∧ ∃ (AQ : Option Addr) (cQ : Nat) (DN : Nat), YY.tmps = #[x0, .int .i64 z, x2, x3, x4, x5, x6, x7, x8, .string x, x10, .pointer (some ⟨D1, 0, none⟩), x12, .pointer (some ⟨DN, 0, none⟩), .int .i64 ev, x15, x16, x17, x18, x19, x20, x21, x22, x23, x24, x25, x26, x27, x28, x29, x30, x31, x32, x33, x34, x35, x36, x37, x38, x39, .tuple #[stoV t AQ cQ, .int .i64 ev], .agg (stoA s A c), .int .i64 z, .string l, .string x, .tuple #[stoV t AQ cQ, .int .i64 ev], stoV t AQ cQ, .int .i64 ev, x48, x49, x50, x51, x52, x53, x54, x55, x56, x57, x58, x59, x60, x61, x62, x63, x64, x65, x66, x67, x68, x69, x70, x71, x72, x73, x74, x75, x76, x77, x78, x79, x80, x81, x82, x83, x84, x85, x86, x87, x88, x89, x90, x91, x92, x93, x94, x95, x96, x97, x98, x99, x100, x101, x102, x103, x104, x105, x106, x107, x108, x109, x110, x111, x112, x113, x114, x115, x116, x117, x118, x119, x120, x121, x122, x123, x124, x125, x126, x127, x128, x129, x130, x131, x132, x133, x134, x135, x136, x137, x138, x139, x140] ∧ Below W0.heap.size W0 W ∧ InS W t AQ cQ ∧ W0.heap.size ≤ DN ∧ Is W DN 31 (stoA t AQ cQ)) = Q
  have HQN : ∀ c a W, ¬ Q (.panic c) a W := fun c a W h => by subst hQ; exact nomatch h.1
  have ST2_4_8_9 : ∀ (W : World) (AQ : Option Addr) (cQ : Nat) (DN : Nat), Below W0.heap.size W0 W → InS W t AQ cQ → W0.heap.size ≤ DN → Is W DN 31 (stoA t AQ cQ) → wpAnyH Try.prog .any (opsOf Try.f8 5) Q (fun W => Below W0.heap.size W0 W) 0 #[true, true, true, true, true, true, true, true, true, true, true] { tmps := #[x0, .int .i64 z, x2, x3, x4, x5, x6, x7, x8, .string x, x10, .pointer (some ⟨D1, 0, none⟩), x12, .pointer (some ⟨DN, 0, none⟩), .int .i64 ev, x15, x16, x17, x18, x19, x20, x21, x22, x23, x24, x25, x26, x27, x28, x29, x30, x31, x32, x33, x34, x35, x36, x37, x38, x39, .tuple #[stoV t AQ cQ, .int .i64 ev], .agg (stoA s A c), .int .i64 z, .string l, .string x, .tuple #[stoV t AQ cQ, .int .i64 ev], stoV t AQ cQ, .int .i64 ev, x48, x49, x50, x51, x52, x53, x54, x55, x56, x57, x58, x59, x60, x61, x62, x63, x64, x65, x66, x67, x68, x69, x70, x71, x72, x73, x74, x75, x76, x77, x78, x79, x80, x81, x82, x83, x84, x85, x86, x87, x88, x89, x90, x91, x92, x93, x94, x95, x96, x97, x98, x99, x100, x101, x102, x103, x104, x105, x106, x107, x108, x109, x110, x111, x112, x113, x114, x115, x116, x117, x118, x119, x120, x121, x122, x123, x124, x125, x126, x127, x128, x129, x130, x131, x132, x133, x134, x135, x136, x137, x138, x139, x140], defers := [] } W := by
    intro W AQ cQ DN hB hZ hD iN
    refine wpAnyH_done (by kernel_rfl) ?_ _
    subst hQ
    exact ⟨rfl, rfl, AQ, cQ, DN, rfl, hB, hZ, hD, iN⟩
  have ST2_4_8 : ∀ (W : World) (AQ : Option Addr) (cQ : Nat) (DN : Nat), Below W0.heap.size W0 W → InS W t AQ cQ → W0.heap.size ≤ DN → Is W DN 31 #[.slice none 0 0, .int .i64 0, .int .i64 0] → wpAnyH Try.prog .any (opsOf Try.f8 5) Q (fun W => Below W0.heap.size W0 W) 2 #[true, true, true, true, true, true, true, true, true, false, false] { tmps := #[x0, .int .i64 z, x2, x3, x4, x5, x6, x7, x8, .string x, x10, .pointer (some ⟨D1, 0, none⟩), x12, .pointer (some ⟨DN, 0, none⟩), x14, x15, x16, x17, x18, x19, x20, x21, x22, x23, x24, x25, x26, x27, x28, x29, x30, x31, x32, x33, x34, x35, x36, x37, x38, x39, .tuple #[stoV t AQ cQ, .int .i64 ev], .agg (stoA s A c), .int .i64 z, .string l, .string x, .tuple #[stoV t AQ cQ, .int .i64 ev], stoV t AQ cQ, .int .i64 ev, x48, x49, x50, x51, x52, x53, x54, x55, x56, x57, x58, x59, x60, x61, x62, x63, x64, x65, x66, x67, x68, x69, x70, x71, x72, x73, x74, x75, x76, x77, x78, x79, x80, x81, x82, x83, x84, x85, x86, x87, x88, x89, x90, x91, x92, x93, x94, x95, x96, x97, x98, x99, x100, x101, x102, x103, x104, x105, x106, x107, x108, x109, x110, x111, x112, x113, x114, x115, x116, x117, x118, x119, x120, x121, x122, x123, x124, x125, x126, x127, x128, x129, x130, x131, x132, x133, x134, x135, x136, x137, x138, x139, x140], defers := [] } W := by
    intro W AQ cQ DN hB hZ hD iN
    refine wpAnyH_ready (by kernel_rfl) (by simp) (AllReadyH.cons (i := 9) (at_nth rfl) ?_ (AllReadyH.nil))
    · have hone := stoA_one12 t AQ cQ
      replace hZ := hZ.far12 iN (stoA t AQ cQ)
      have iN2 := iN.row (stoA t AQ cQ)
      have hB2 := belowRow hB hD (stoA t AQ cQ)
      refine arm10_skip (w' := W.setRow DN (stoA t AQ cQ)) (by kernel_rfl) (run_row10 (x := .tmp 13) (y := .tmp 46) (by kernel_rfl) (by kernel_rfl) (by kernel_rfl) iN infoSto12 rfl hone) hB2 ?_
      simp only [Act.put]
      replace hB := hB2
      replace iN := iN2
      clear iN2 hB2 hone
      refine wpAnyH_pure (i := 10) (v := .int .i64 ev) (at_nth rfl) (by kernel_rfl) (by kernel_rfl) (by kernel_rfl) (fun _ _ _ h => absurd h (HQN _ _ _)) (by kernel_rfl) (fun w hSw => by kernel_rfl) hB ?_
      simp only [Act.put, List.setIfInBounds_toArray, List.set_cons_succ, List.set_cons_zero]
      exact ST2_4_8_9 _ _ _ _ hB hZ hD iN
  have ST2_4 : ∀ (W : World) (AQ : Option Addr) (cQ : Nat), Below W0.heap.size W0 W → InS W t AQ cQ → wpAnyH Try.prog .any (opsOf Try.f8 5) Q (fun W => Below W0.heap.size W0 W) 3 #[true, true, true, true, true, true, true, true, false, false, false] { tmps := #[x0, .int .i64 z, x2, x3, x4, x5, x6, x7, x8, .string x, x10, .pointer (some ⟨D1, 0, none⟩), x12, x13, x14, x15, x16, x17, x18, x19, x20, x21, x22, x23, x24, x25, x26, x27, x28, x29, x30, x31, x32, x33, x34, x35, x36, x37, x38, x39, .tuple #[stoV t AQ cQ, .int .i64 ev], .agg (stoA s A c), .int .i64 z, .string l, .string x, .tuple #[stoV t AQ cQ, .int .i64 ev], stoV t AQ cQ, .int .i64 ev, x48, x49, x50, x51, x52, x53, x54, x55, x56, x57, x58, x59, x60, x61, x62, x63, x64, x65, x66, x67, x68, x69, x70, x71, x72, x73, x74, x75, x76, x77, x78, x79, x80, x81, x82, x83, x84, x85, x86, x87, x88, x89, x90, x91, x92, x93, x94, x95, x96, x97, x98, x99, x100, x101, x102, x103, x104, x105, x106, x107, x108, x109, x110, x111, x112, x113, x114, x115, x116, x117, x118, x119, x120, x121, x122, x123, x124, x125, x126, x127, x128, x129, x130, x131, x132, x133, x134, x135, x136, x137, x138, x139, x140], defers := [] } W := by
    intro W AQ cQ hB hZ
    refine wpAnyH_ready (by kernel_rfl) (by simp) (AllReadyH.cons (i := 8) (at_nth rfl) ?_ (AllReadyH.nil))
    · have iN := Is.new W 31 #[.slice none 0 0, .int .i64 0, .int .i64 0]
      replace hZ := hZ.keep ((Below.refl _ _).alloc (Nat.le_refl _) (.cells #[.slice none 0 0, .int .i64 0, .int .i64 0] 31))
      have hD := hB.size
      replace hB := hB.alloc hB.size (.cells #[.slice none 0 0, .int .i64 0, .int .i64 0] 31)
      refine arm10_value (v := .pointer (some ⟨W.heap.size, 0, none⟩)) (w' := W.alloc (.cells #[.slice none 0 0, .int .i64 0, .int .i64 0] 31)) (by kernel_rfl) (by go_simp) hB ?_
      simp only [Act.put, List.setIfInBounds_toArray, List.set_cons_succ, List.set_cons_zero]
      exact ST2_4_8 _ _ _ _ hB hZ hD iN
  have ST2_8 : ∀ (W : World) (DN : Nat), Below W0.heap.size W0 W → W0.heap.size ≤ DN → Is W DN 31 #[.slice none 0 0, .int .i64 0, .int .i64 0] → wpAnyH Try.prog .any (opsOf Try.f8 5) Q (fun W => Below W0.heap.size W0 W) 6 #[true, true, true, true, false, false, false, false, true, false, false] { tmps := #[x0, .int .i64 z, x2, x3, x4, x5, x6, x7, x8, .string x, x10, .pointer (some ⟨D1, 0, none⟩), x12, .pointer (some ⟨DN, 0, none⟩), x14, x15, x16, x17, x18, x19, x20, x21, x22, x23, x24, x25, x26, x27, x28, x29, x30, x31, x32, x33, x34, x35, x36, x37, x38, x39, x40, .agg (stoA s A c), .int .i64 z, .string l, .string x, x45, x46, x47, x48, x49, x50, x51, x52, x53, x54, x55, x56, x57, x58, x59, x60, x61, x62, x63, x64, x65, x66, x67, x68, x69, x70, x71, x72, x73, x74, x75, x76, x77, x78, x79, x80, x81, x82, x83, x84, x85, x86, x87, x88, x89, x90, x91, x92, x93, x94, x95, x96, x97, x98, x99, x100, x101, x102, x103, x104, x105, x106, x107, x108, x109, x110, x111, x112, x113, x114, x115, x116, x117, x118, x119, x120, x121, x122, x123, x124, x125, x126, x127, x128, x129, x130, x131, x132, x133, x134, x135, x136, x137, x138, x139, x140], defers := [] } W := by
    intro W DN hB hD iN
    refine wpAnyH_ready (by kernel_rfl) (by simp) (AllReadyH.cons (i := 4) (at_nth rfl) ?_ (AllReadyH.nil))
    · refine arm10_call (by kernel_rfl) (fun wy => by kernel_rfl) ((HP.out _ hB).mono ?_)
      rintro e Wn ⟨AQ, cQ, rfl, hZ, hb⟩
      replace iN := iN.below hb iN.lt
      replace hB := hB.trans (hb.mono hB.size)
      clear hb
      refine ⟨_, rfl, hB, ?_⟩
      simp only [Act.put, List.setIfInBounds_toArray, List.set_cons_succ, List.set_cons_zero]
      refine wpAnyH_pure (i := 5) (v := .tuple #[stoV t AQ cQ, .int .i64 ev]) (at_nth rfl) (by kernel_rfl) (by kernel_rfl) (by kernel_rfl) (fun _ _ _ h => absurd h (HQN _ _ _)) (by kernel_rfl) (fun w hSw => by kernel_rfl) hB ?_
      simp only [Act.put, List.setIfInBounds_toArray, List.set_cons_succ, List.set_cons_zero]
      refine wpAnyH_pure (i := 6) (v := stoV t AQ cQ) (at_nth rfl) (by kernel_rfl) (by kernel_rfl) (by kernel_rfl) (fun _ _ _ h => absurd h (HQN _ _ _)) (by kernel_rfl) (fun w hSw => by kernel_rfl) hB ?_
      simp only [Act.put, List.setIfInBounds_toArray, List.set_cons_succ, List.set_cons_zero]
      refine wpAnyH_pure (i := 7) (v := .int .i64 ev) (at_nth rfl) (by kernel_rfl) (by kernel_rfl) (by kernel_rfl) (fun _ _ _ h => absurd h (HQN _ _ _)) (by kernel_rfl) (fun w hSw => by kernel_rfl) hB ?_
      simp only [Act.put, List.setIfInBounds_toArray, List.set_cons_succ, List.set_cons_zero]
      exact ST2_4_8 _ _ _ _ hB hZ hD iN
  have ST2 : ∀ (W : World), Below W0.heap.size W0 W → wpAnyH Try.prog .any (opsOf Try.f8 5) Q (fun W => Below W0.heap.size W0 W) 7 #[true, true, true, true, false, false, false, false, false, false, false] { tmps := #[x0, .int .i64 z, x2, x3, x4, x5, x6, x7, x8, .string x, x10, .pointer (some ⟨D1, 0, none⟩), x12, x13, x14, x15, x16, x17, x18, x19, x20, x21, x22, x23, x24, x25, x26, x27, x28, x29, x30, x31, x32, x33, x34, x35, x36, x37, x38, x39, x40, .agg (stoA s A c), .int .i64 z, .string l, .string x, x45, x46, x47, x48, x49, x50, x51, x52, x53, x54, x55, x56, x57, x58, x59, x60, x61, x62, x63, x64, x65, x66, x67, x68, x69, x70, x71, x72, x73, x74, x75, x76, x77, x78, x79, x80, x81, x82, x83, x84, x85, x86, x87, x88, x89, x90, x91, x92, x93, x94, x95, x96, x97, x98, x99, x100, x101, x102, x103, x104, x105, x106, x107, x108, x109, x110, x111, x112, x113, x114, x115, x116, x117, x118, x119, x120, x121, x122, x123, x124, x125, x126, x127, x128, x129, x130, x131, x132, x133, x134, x135, x136, x137, x138, x139, x140], defers := [] } W := by
    intro W hB
    refine wpAnyH_ready (by kernel_rfl) (by simp) (AllReadyH.cons (i := 4) (at_nth rfl) ?_ (AllReadyH.cons (i := 8) (at_nth rfl) ?_ (AllReadyH.nil)))
    · refine arm10_call (by kernel_rfl) (fun wy => by kernel_rfl) ((HP.out _ hB).mono ?_)
      rintro e Wn ⟨AQ, cQ, rfl, hZ, hb⟩
      replace hB := hB.trans (hb.mono hB.size)
      clear hb
      refine ⟨_, rfl, hB, ?_⟩
      simp only [Act.put, List.setIfInBounds_toArray, List.set_cons_succ, List.set_cons_zero]
      refine wpAnyH_pure (i := 5) (v := .tuple #[stoV t AQ cQ, .int .i64 ev]) (at_nth rfl) (by kernel_rfl) (by kernel_rfl) (by kernel_rfl) (fun _ _ _ h => absurd h (HQN _ _ _)) (by kernel_rfl) (fun w hSw => by kernel_rfl) hB ?_
      simp only [Act.put, List.setIfInBounds_toArray, List.set_cons_succ, List.set_cons_zero]
      refine wpAnyH_pure (i := 6) (v := stoV t AQ cQ) (at_nth rfl) (by kernel_rfl) (by kernel_rfl) (by kernel_rfl) (fun _ _ _ h => absurd h (HQN _ _ _)) (by kernel_rfl) (fun w hSw => by kernel_rfl) hB ?_
      simp only [Act.put, List.setIfInBounds_toArray, List.set_cons_succ, List.set_cons_zero]
      refine wpAnyH_pure (i := 7) (v := .int .i64 ev) (at_nth rfl) (by kernel_rfl) (by kernel_rfl) (by kernel_rfl) (fun _ _ _ h => absurd h (HQN _ _ _)) (by kernel_rfl) (fun w hSw => by kernel_rfl) hB ?_
      simp only [Act.put, List.setIfInBounds_toArray, List.set_cons_succ, List.set_cons_zero]
      exact ST2_4 _ _ _ hB hZ
    · have iN := Is.new W 31 #[.slice none 0 0, .int .i64 0, .int .i64 0]
      have hD := hB.size
      replace hB := hB.alloc hB.size (.cells #[.slice none 0 0, .int .i64 0, .int .i64 0] 31)
      refine arm10_value (v := .pointer (some ⟨W.heap.size, 0, none⟩)) (w' := W.alloc (.cells #[.slice none 0 0, .int .i64 0, .int .i64 0] 31)) (by kernel_rfl) (by go_simp) hB ?_
      simp only [Act.put, List.setIfInBounds_toArray, List.set_cons_succ, List.set_cons_zero]
      exact ST2_8 _ _ hB hD iN
  have ST8 : ∀ (W : World) (DN : Nat), Below W0.heap.size W0 W → W0.heap.size ≤ DN → Is W DN 31 #[.slice none 0 0, .int .i64 0, .int .i64 0] → wpAnyH Try.prog .any (opsOf Try.f8 5) Q (fun W => Below W0.heap.size W0 W) 7 #[true, true, false, true, false, false, false, false, true, false, false] { tmps := #[x0, .int .i64 z, x2, x3, x4, x5, x6, x7, x8, .string x, x10, .pointer (some ⟨D1, 0, none⟩), x12, .pointer (some ⟨DN, 0, none⟩), x14, x15, x16, x17, x18, x19, x20, x21, x22, x23, x24, x25, x26, x27, x28, x29, x30, x31, x32, x33, x34, x35, x36, x37, x38, x39, x40, .agg (stoA s A c), .int .i64 z, x43, .string x, x45, x46, x47, x48, x49, x50, x51, x52, x53, x54, x55, x56, x57, x58, x59, x60, x61, x62, x63, x64, x65, x66, x67, x68, x69, x70, x71, x72, x73, x74, x75, x76, x77, x78, x79, x80, x81, x82, x83, x84, x85, x86, x87, x88, x89, x90, x91, x92, x93, x94, x95, x96, x97, x98, x99, x100, x101, x102, x103, x104, x105, x106, x107, x108, x109, x110, x111, x112, x113, x114, x115, x116, x117, x118, x119, x120, x121, x122, x123, x124, x125, x126, x127, x128, x129, x130, x131, x132, x133, x134, x135, x136, x137, x138, x139, x140], defers := [] } W := by
    intro W DN hB hD iN
    refine wpAnyH_ready (by kernel_rfl) (by simp) (AllReadyH.cons (i := 2) (at_nth rfl) ?_ (AllReadyH.nil))
    · refine arm10_call (by kernel_rfl) (fun wy => by kernel_rfl) ((HLb.out _).mono ?_)
      rintro e Wn ⟨rfl, hb⟩
      replace iN := iN.below hb iN.lt
      replace hB := hB.trans (hb.mono hB.size)
      clear hb
      refine ⟨_, rfl, hB, ?_⟩
      simp only [Act.put, List.setIfInBounds_toArray, List.set_cons_succ, List.set_cons_zero]
      exact ST2_8 _ _ hB hD iN
  have ST : ∀ (W : World), Below W0.heap.size W0 W → wpAnyH Try.prog .any (opsOf Try.f8 5) Q (fun W => Below W0.heap.size W0 W) 8 #[true, true, false, true, false, false, false, false, false, false, false] { tmps := #[x0, .int .i64 z, x2, x3, x4, x5, x6, x7, x8, .string x, x10, .pointer (some ⟨D1, 0, none⟩), x12, x13, x14, x15, x16, x17, x18, x19, x20, x21, x22, x23, x24, x25, x26, x27, x28, x29, x30, x31, x32, x33, x34, x35, x36, x37, x38, x39, x40, .agg (stoA s A c), .int .i64 z, x43, .string x, x45, x46, x47, x48, x49, x50, x51, x52, x53, x54, x55, x56, x57, x58, x59, x60, x61, x62, x63, x64, x65, x66, x67, x68, x69, x70, x71, x72, x73, x74, x75, x76, x77, x78, x79, x80, x81, x82, x83, x84, x85, x86, x87, x88, x89, x90, x91, x92, x93, x94, x95, x96, x97, x98, x99, x100, x101, x102, x103, x104, x105, x106, x107, x108, x109, x110, x111, x112, x113, x114, x115, x116, x117, x118, x119, x120, x121, x122, x123, x124, x125, x126, x127, x128, x129, x130, x131, x132, x133, x134, x135, x136, x137, x138, x139, x140], defers := [] } W := by
    intro W hB
    refine wpAnyH_ready (by kernel_rfl) (by simp) (AllReadyH.cons (i := 2) (at_nth rfl) ?_ (AllReadyH.cons (i := 8) (at_nth rfl) ?_ (AllReadyH.nil)))
    · refine arm10_call (by kernel_rfl) (fun wy => by kernel_rfl) ((HLb.out _).mono ?_)
      rintro e Wn ⟨rfl, hb⟩
      replace hB := hB.trans (hb.mono hB.size)
      clear hb
      refine ⟨_, rfl, hB, ?_⟩
      simp only [Act.put, List.setIfInBounds_toArray, List.set_cons_succ, List.set_cons_zero]
      exact ST2 _ hB
    · have iN := Is.new W 31 #[.slice none 0 0, .int .i64 0, .int .i64 0]
      have hD := hB.size
      replace hB := hB.alloc hB.size (.cells #[.slice none 0 0, .int .i64 0, .int .i64 0] 31)
      refine arm10_value (v := .pointer (some ⟨W.heap.size, 0, none⟩)) (w' := W.alloc (.cells #[.slice none 0 0, .int .i64 0, .int .i64 0] 31)) (by kernel_rfl) (by go_simp) hB ?_
      simp only [Act.put, List.setIfInBounds_toArray, List.set_cons_succ, List.set_cons_zero]
      exact ST8 _ _ hB hD iN
  refine wp_region_held_drew (S := fun W => Below W0.heap.size W0 W) (by kernel_rfl) hB (fun hS => ?_)
  change wpAnyH _ _ (opsOf Try.f8 5) _ _ 11 (Array.replicate 11 false) _ (W0.drewN 1)
  clear hS
  replace hB : Below W0.heap.size W0 (W0.drewN 1) := belowN (Below.refl _ _) 1
  refine wpAnyH_pure (i := 0) (v := .agg (stoA s A c)) (at_nth rfl) (by kernel_rfl) (by kernel_rfl) (by kernel_rfl) (fun _ _ _ h => absurd h (HQN _ _ _)) (by kernel_rfl) (fun w hSw => by exact run_load_rowO (x := .tmp 11) (by kernel_rfl) (by kernel_rfl) (i1.below hSw i1.lt) Try.underlying31 rfl infoSto12) hB ?_
  simp only [Act.put, List.setIfInBounds_toArray, List.set_cons_succ, List.set_cons_zero]
  refine wpAnyH_pure (i := 1) (v := .int .i64 z) (at_nth rfl) (by kernel_rfl) (by kernel_rfl) (by kernel_rfl) (fun _ _ _ h => absurd h (HQN _ _ _)) (by kernel_rfl) (fun w hSw => by kernel_rfl) hB ?_
  simp only [Act.put, List.setIfInBounds_toArray, List.set_cons_succ, List.set_cons_zero]
  refine wpAnyH_pure (i := 3) (v := .string x) (at_nth rfl) (by kernel_rfl) (by kernel_rfl) (by kernel_rfl) (fun _ _ _ h => absurd h (HQN _ _ _)) (by kernel_rfl) (fun w hSw => by kernel_rfl) hB ?_
  simp only [Act.put, List.setIfInBounds_toArray, List.set_cons_succ, List.set_cons_zero]
  exact ST _ hB

set_option maxRecDepth 100000 in
set_option maxHeartbeats 4000000 in
theorem ov12_6 (W0 : World) (D1 : Nat) (s t : Sto12) (A : Option Addr) (c : Nat) (z : Int) (l : ByteArray) (was : Bool) (ev : Int) (i1 : Is W0 D1 31 (stoA s A c)) (HLb : Hid (∀ W, Calls Try.prog 23 #[.int .i64 z] W fun e w' => e = .returned (.string l) ∧ Below W.heap.size W w')) (HP : Hid (∀ W, Below W0.heap.size W0 W → Calls Try.prog 27 #[stoV s A c, .string l] W fun e w' => ∃ A1 c1, e = .returned (.tuple #[stoV t A1 c1, .bool was, .int .i64 ev]) ∧ InS w' t A1 c1 ∧ Below W.heap.size W w')) (x0 x2 x3 x4 x5 x6 x7 x9 x10 x11 x12 x13 x14 x15 x16 x17 x18 x19 x20 x21 x22 x23 x24 x25 x26 x27 x28 x29 x30 x31 x32 x33 x34 x35 x36 x37 x38 x39 x40 x41 x42 x43 x44 x45 x46 x47 x48 x49 x50 x51 x52 x53 x54 x55 x56 x57 x58 x59 x60 x61 x62 x63 x64 x65 x66 x67 x68 x69 x70 x71 x72 x73 x74 x75 x76 x77 x78 x79 x80 x81 x82 x83 x84 x85 x86 x87 x88 x89 x90 x91 x92 x93 x94 x95 x96 x97 x98 x99 x100 x101 x102 x103 x104 x105 x106 x107 x108 x109 x110 x111 x112 x113 x114 x115 x116 x117 x118 x119 x120 x121 x122 x123 x124 x125 x126 x127 x128 x129 x130 x131 x132 x133 x134 x135 x136 x137 x138 x139 x140 : Value) :
    (Code.region 6 (opsOf Try.f8 6) true).wp Try.prog (fun ex YY W => ex = .normal ∧ YY.defers = [] ∧ ∃ (AQ : Option Addr) (cQ : Nat) (DN : Nat), YY.tmps = #[x0, .int .i64 z, x2, x3, x4, x5, x6, x7, .pointer (some ⟨D1, 0, none⟩), x9, x10, x11, x12, x13, x14, .pointer (some ⟨DN, 0, none⟩), .bool was, .int .i64 ev, x18, x19, x20, x21, x22, x23, x24, x25, x26, x27, x28, x29, x30, x31, x32, x33, x34, x35, x36, x37, x38, x39, x40, x41, x42, x43, x44, x45, x46, x47, .tuple #[stoV t AQ cQ, .bool was, .int .i64 ev], .agg (stoA s A c), .int .i64 z, .string l, .tuple #[stoV t AQ cQ, .bool was, .int .i64 ev], stoV t AQ cQ, .bool was, .int .i64 ev, x56, x57, x58, x59, x60, x61, x62, x63, x64, x65, x66, x67, x68, x69, x70, x71, x72, x73, x74, x75, x76, x77, x78, x79, x80, x81, x82, x83, x84, x85, x86, x87, x88, x89, x90, x91, x92, x93, x94, x95, x96, x97, x98, x99, x100, x101, x102, x103, x104, x105, x106, x107, x108, x109, x110, x111, x112, x113, x114, x115, x116, x117, x118, x119, x120, x121, x122, x123, x124, x125, x126, x127, x128, x129, x130, x131, x132, x133, x134, x135, x136, x137, x138, x139, x140] ∧ Below W0.heap.size W0 W ∧ InS W t AQ cQ ∧ W0.heap.size ≤ DN ∧ Is W DN 31 (stoA t AQ cQ)) { tmps := #[x0, .int .i64 z, x2, x3, x4, x5, x6, x7, .pointer (some ⟨D1, 0, none⟩), x9, x10, x11, x12, x13, x14, x15, x16, x17, x18, x19, x20, x21, x22, x23, x24, x25, x26, x27, x28, x29, x30, x31, x32, x33, x34, x35, x36, x37, x38, x39, x40, x41, x42, x43, x44, x45, x46, x47, x48, x49, x50, x51, x52, x53, x54, x55, x56, x57, x58, x59, x60, x61, x62, x63, x64, x65, x66, x67, x68, x69, x70, x71, x72, x73, x74, x75, x76, x77, x78, x79, x80, x81, x82, x83, x84, x85, x86, x87, x88, x89, x90, x91, x92, x93, x94, x95, x96, x97, x98, x99, x100, x101, x102, x103, x104, x105, x106, x107, x108, x109, x110, x111, x112, x113, x114, x115, x116, x117, x118, x119, x120, x121, x122, x123, x124, x125, x126, x127, x128, x129, x130, x131, x132, x133, x134, x135, x136, x137, x138, x139, x140], defers := [] } W0 := by
  have hB : Below W0.heap.size W0 (W0.drewN 1) := belowN (Below.refl _ _) 1
  generalize hQ : (fun (ex : Exit) (YY : Act) (W : World) => ex = .normal ∧ YY.defers = [] ∧ ∃ (AQ : Option Addr) (cQ : Nat) (DN : Nat), YY.tmps = #[x0, .int .i64 z, x2, x3, x4, x5, x6, x7, .pointer (some ⟨D1, 0, none⟩), x9, x10, x11, x12, x13, x14, .pointer (some ⟨DN, 0, none⟩), .bool was, .int .i64 ev, x18, x19, x20, x21, x22, x23, x24, x25, x26, x27, x28, x29, x30, x31, x32, x33, x34, x35, x36, x37, x38, x39, x40, x41, x42, x43, x44, x45, x46, x47, .tuple #[stoV t AQ cQ, .bool was, .int .i64 ev], .agg (stoA s A c), .int .i64 z, .string l, .tuple #[stoV t AQ cQ, .bool was, .int .i64 ev], stoV t AQ cQ, .bool was, .int .i64 ev, x56, x57, x58, x59, x60, x61, x62, x63, x64, x65, x66, x67, x68, x69, x70, x71, x72, x73, x74, x75, x76, x77, x78, x79, x80, x81, x82, x83, x84, x85, x86, x87, x88, x89, x90, x91, x92, x93, x94, x95, x96, x97, x98, x99, x100, x101, x102, x103, x104, x105, x106, x107, x108, x109, x110, x111, x112, x113, x114, x115, x116, x117, x118, x119, x120, x121, x122, x123, x124, x125, x126, x127, x128, x129, x130, x131, x132, x133, x134, x135, x136, x137, x138, x139, x140] ∧ Below W0.heap.size W0 W ∧ InS W t AQ cQ ∧ W0.heap.size ≤ DN ∧ Is W DN 31 (stoA t AQ cQ)) = Q
  have HQN : ∀ c a W, ¬ Q (.panic c) a W := fun c a W h => by subst hQ; exact nomatch h.1
  have ST2_3_8_9 : ∀ (W : World) (AQ : Option Addr) (cQ : Nat) (DN : Nat), Below W0.heap.size W0 W → InS W t AQ cQ → W0.heap.size ≤ DN → Is W DN 31 (stoA t AQ cQ) → wpAnyH Try.prog .any (opsOf Try.f8 6) Q (fun W => Below W0.heap.size W0 W) 0 #[true, true, true, true, true, true, true, true, true, true, true, true] { tmps := #[x0, .int .i64 z, x2, x3, x4, x5, x6, x7, .pointer (some ⟨D1, 0, none⟩), x9, x10, x11, x12, x13, x14, .pointer (some ⟨DN, 0, none⟩), .bool was, .int .i64 ev, x18, x19, x20, x21, x22, x23, x24, x25, x26, x27, x28, x29, x30, x31, x32, x33, x34, x35, x36, x37, x38, x39, x40, x41, x42, x43, x44, x45, x46, x47, .tuple #[stoV t AQ cQ, .bool was, .int .i64 ev], .agg (stoA s A c), .int .i64 z, .string l, .tuple #[stoV t AQ cQ, .bool was, .int .i64 ev], stoV t AQ cQ, .bool was, .int .i64 ev, x56, x57, x58, x59, x60, x61, x62, x63, x64, x65, x66, x67, x68, x69, x70, x71, x72, x73, x74, x75, x76, x77, x78, x79, x80, x81, x82, x83, x84, x85, x86, x87, x88, x89, x90, x91, x92, x93, x94, x95, x96, x97, x98, x99, x100, x101, x102, x103, x104, x105, x106, x107, x108, x109, x110, x111, x112, x113, x114, x115, x116, x117, x118, x119, x120, x121, x122, x123, x124, x125, x126, x127, x128, x129, x130, x131, x132, x133, x134, x135, x136, x137, x138, x139, x140], defers := [] } W := by
    intro W AQ cQ DN hB hZ hD iN
    refine wpAnyH_done (by kernel_rfl) ?_ _
    subst hQ
    exact ⟨rfl, rfl, AQ, cQ, DN, rfl, hB, hZ, hD, iN⟩
  have ST2_3_8 : ∀ (W : World) (AQ : Option Addr) (cQ : Nat) (DN : Nat), Below W0.heap.size W0 W → InS W t AQ cQ → W0.heap.size ≤ DN → Is W DN 31 #[.slice none 0 0, .int .i64 0, .int .i64 0] → wpAnyH Try.prog .any (opsOf Try.f8 6) Q (fun W => Below W0.heap.size W0 W) 3 #[true, true, true, true, true, true, true, true, true, false, false, false] { tmps := #[x0, .int .i64 z, x2, x3, x4, x5, x6, x7, .pointer (some ⟨D1, 0, none⟩), x9, x10, x11, x12, x13, x14, .pointer (some ⟨DN, 0, none⟩), x16, x17, x18, x19, x20, x21, x22, x23, x24, x25, x26, x27, x28, x29, x30, x31, x32, x33, x34, x35, x36, x37, x38, x39, x40, x41, x42, x43, x44, x45, x46, x47, .tuple #[stoV t AQ cQ, .bool was, .int .i64 ev], .agg (stoA s A c), .int .i64 z, .string l, .tuple #[stoV t AQ cQ, .bool was, .int .i64 ev], stoV t AQ cQ, .bool was, .int .i64 ev, x56, x57, x58, x59, x60, x61, x62, x63, x64, x65, x66, x67, x68, x69, x70, x71, x72, x73, x74, x75, x76, x77, x78, x79, x80, x81, x82, x83, x84, x85, x86, x87, x88, x89, x90, x91, x92, x93, x94, x95, x96, x97, x98, x99, x100, x101, x102, x103, x104, x105, x106, x107, x108, x109, x110, x111, x112, x113, x114, x115, x116, x117, x118, x119, x120, x121, x122, x123, x124, x125, x126, x127, x128, x129, x130, x131, x132, x133, x134, x135, x136, x137, x138, x139, x140], defers := [] } W := by
    intro W AQ cQ DN hB hZ hD iN
    refine wpAnyH_ready (by kernel_rfl) (by simp) (AllReadyH.cons (i := 9) (at_nth rfl) ?_ (AllReadyH.nil))
    · have hone := stoA_one12 t AQ cQ
      replace hZ := hZ.far12 iN (stoA t AQ cQ)
      have iN2 := iN.row (stoA t AQ cQ)
      have hB2 := belowRow hB hD (stoA t AQ cQ)
      refine arm10_skip (w' := W.setRow DN (stoA t AQ cQ)) (by kernel_rfl) (run_row10 (x := .tmp 15) (y := .tmp 53) (by kernel_rfl) (by kernel_rfl) (by kernel_rfl) iN infoSto12 rfl hone) hB2 ?_
      simp only [Act.put]
      replace hB := hB2
      replace iN := iN2
      clear iN2 hB2 hone
      refine wpAnyH_pure (i := 10) (v := .bool was) (at_nth rfl) (by kernel_rfl) (by kernel_rfl) (by kernel_rfl) (fun _ _ _ h => absurd h (HQN _ _ _)) (by kernel_rfl) (fun w hSw => by kernel_rfl) hB ?_
      simp only [Act.put, List.setIfInBounds_toArray, List.set_cons_succ, List.set_cons_zero]
      refine wpAnyH_pure (i := 11) (v := .int .i64 ev) (at_nth rfl) (by kernel_rfl) (by kernel_rfl) (by kernel_rfl) (fun _ _ _ h => absurd h (HQN _ _ _)) (by kernel_rfl) (fun w hSw => by kernel_rfl) hB ?_
      simp only [Act.put, List.setIfInBounds_toArray, List.set_cons_succ, List.set_cons_zero]
      exact ST2_3_8_9 _ _ _ _ hB hZ hD iN
  have ST2_3 : ∀ (W : World) (AQ : Option Addr) (cQ : Nat), Below W0.heap.size W0 W → InS W t AQ cQ → wpAnyH Try.prog .any (opsOf Try.f8 6) Q (fun W => Below W0.heap.size W0 W) 4 #[true, true, true, true, true, true, true, true, false, false, false, false] { tmps := #[x0, .int .i64 z, x2, x3, x4, x5, x6, x7, .pointer (some ⟨D1, 0, none⟩), x9, x10, x11, x12, x13, x14, x15, x16, x17, x18, x19, x20, x21, x22, x23, x24, x25, x26, x27, x28, x29, x30, x31, x32, x33, x34, x35, x36, x37, x38, x39, x40, x41, x42, x43, x44, x45, x46, x47, .tuple #[stoV t AQ cQ, .bool was, .int .i64 ev], .agg (stoA s A c), .int .i64 z, .string l, .tuple #[stoV t AQ cQ, .bool was, .int .i64 ev], stoV t AQ cQ, .bool was, .int .i64 ev, x56, x57, x58, x59, x60, x61, x62, x63, x64, x65, x66, x67, x68, x69, x70, x71, x72, x73, x74, x75, x76, x77, x78, x79, x80, x81, x82, x83, x84, x85, x86, x87, x88, x89, x90, x91, x92, x93, x94, x95, x96, x97, x98, x99, x100, x101, x102, x103, x104, x105, x106, x107, x108, x109, x110, x111, x112, x113, x114, x115, x116, x117, x118, x119, x120, x121, x122, x123, x124, x125, x126, x127, x128, x129, x130, x131, x132, x133, x134, x135, x136, x137, x138, x139, x140], defers := [] } W := by
    intro W AQ cQ hB hZ
    refine wpAnyH_ready (by kernel_rfl) (by simp) (AllReadyH.cons (i := 8) (at_nth rfl) ?_ (AllReadyH.nil))
    · have iN := Is.new W 31 #[.slice none 0 0, .int .i64 0, .int .i64 0]
      replace hZ := hZ.keep ((Below.refl _ _).alloc (Nat.le_refl _) (.cells #[.slice none 0 0, .int .i64 0, .int .i64 0] 31))
      have hD := hB.size
      replace hB := hB.alloc hB.size (.cells #[.slice none 0 0, .int .i64 0, .int .i64 0] 31)
      refine arm10_value (v := .pointer (some ⟨W.heap.size, 0, none⟩)) (w' := W.alloc (.cells #[.slice none 0 0, .int .i64 0, .int .i64 0] 31)) (by kernel_rfl) (by go_simp) hB ?_
      simp only [Act.put, List.setIfInBounds_toArray, List.set_cons_succ, List.set_cons_zero]
      exact ST2_3_8 _ _ _ _ hB hZ hD iN
  have ST2_8 : ∀ (W : World) (DN : Nat), Below W0.heap.size W0 W → W0.heap.size ≤ DN → Is W DN 31 #[.slice none 0 0, .int .i64 0, .int .i64 0] → wpAnyH Try.prog .any (opsOf Try.f8 6) Q (fun W => Below W0.heap.size W0 W) 8 #[true, true, true, false, false, false, false, false, true, false, false, false] { tmps := #[x0, .int .i64 z, x2, x3, x4, x5, x6, x7, .pointer (some ⟨D1, 0, none⟩), x9, x10, x11, x12, x13, x14, .pointer (some ⟨DN, 0, none⟩), x16, x17, x18, x19, x20, x21, x22, x23, x24, x25, x26, x27, x28, x29, x30, x31, x32, x33, x34, x35, x36, x37, x38, x39, x40, x41, x42, x43, x44, x45, x46, x47, x48, .agg (stoA s A c), .int .i64 z, .string l, x52, x53, x54, x55, x56, x57, x58, x59, x60, x61, x62, x63, x64, x65, x66, x67, x68, x69, x70, x71, x72, x73, x74, x75, x76, x77, x78, x79, x80, x81, x82, x83, x84, x85, x86, x87, x88, x89, x90, x91, x92, x93, x94, x95, x96, x97, x98, x99, x100, x101, x102, x103, x104, x105, x106, x107, x108, x109, x110, x111, x112, x113, x114, x115, x116, x117, x118, x119, x120, x121, x122, x123, x124, x125, x126, x127, x128, x129, x130, x131, x132, x133, x134, x135, x136, x137, x138, x139, x140], defers := [] } W := by
    intro W DN hB hD iN
    refine wpAnyH_ready (by kernel_rfl) (by simp) (AllReadyH.cons (i := 3) (at_nth rfl) ?_ (AllReadyH.nil))
    · refine arm10_call (by kernel_rfl) (fun wy => by kernel_rfl) ((HP.out _ hB).mono ?_)
      rintro e Wn ⟨AQ, cQ, rfl, hZ, hb⟩
      replace iN := iN.below hb iN.lt
      replace hB := hB.trans (hb.mono hB.size)
      clear hb
      refine ⟨_, rfl, hB, ?_⟩
      simp only [Act.put, List.setIfInBounds_toArray, List.set_cons_succ, List.set_cons_zero]
      refine wpAnyH_pure (i := 4) (v := .tuple #[stoV t AQ cQ, .bool was, .int .i64 ev]) (at_nth rfl) (by kernel_rfl) (by kernel_rfl) (by kernel_rfl) (fun _ _ _ h => absurd h (HQN _ _ _)) (by kernel_rfl) (fun w hSw => by kernel_rfl) hB ?_
      simp only [Act.put, List.setIfInBounds_toArray, List.set_cons_succ, List.set_cons_zero]
      refine wpAnyH_pure (i := 5) (v := stoV t AQ cQ) (at_nth rfl) (by kernel_rfl) (by kernel_rfl) (by kernel_rfl) (fun _ _ _ h => absurd h (HQN _ _ _)) (by kernel_rfl) (fun w hSw => by kernel_rfl) hB ?_
      simp only [Act.put, List.setIfInBounds_toArray, List.set_cons_succ, List.set_cons_zero]
      refine wpAnyH_pure (i := 6) (v := .bool was) (at_nth rfl) (by kernel_rfl) (by kernel_rfl) (by kernel_rfl) (fun _ _ _ h => absurd h (HQN _ _ _)) (by kernel_rfl) (fun w hSw => by kernel_rfl) hB ?_
      simp only [Act.put, List.setIfInBounds_toArray, List.set_cons_succ, List.set_cons_zero]
      refine wpAnyH_pure (i := 7) (v := .int .i64 ev) (at_nth rfl) (by kernel_rfl) (by kernel_rfl) (by kernel_rfl) (fun _ _ _ h => absurd h (HQN _ _ _)) (by kernel_rfl) (fun w hSw => by kernel_rfl) hB ?_
      simp only [Act.put, List.setIfInBounds_toArray, List.set_cons_succ, List.set_cons_zero]
      exact ST2_3_8 _ _ _ _ hB hZ hD iN
  have ST2 : ∀ (W : World), Below W0.heap.size W0 W → wpAnyH Try.prog .any (opsOf Try.f8 6) Q (fun W => Below W0.heap.size W0 W) 9 #[true, true, true, false, false, false, false, false, false, false, false, false] { tmps := #[x0, .int .i64 z, x2, x3, x4, x5, x6, x7, .pointer (some ⟨D1, 0, none⟩), x9, x10, x11, x12, x13, x14, x15, x16, x17, x18, x19, x20, x21, x22, x23, x24, x25, x26, x27, x28, x29, x30, x31, x32, x33, x34, x35, x36, x37, x38, x39, x40, x41, x42, x43, x44, x45, x46, x47, x48, .agg (stoA s A c), .int .i64 z, .string l, x52, x53, x54, x55, x56, x57, x58, x59, x60, x61, x62, x63, x64, x65, x66, x67, x68, x69, x70, x71, x72, x73, x74, x75, x76, x77, x78, x79, x80, x81, x82, x83, x84, x85, x86, x87, x88, x89, x90, x91, x92, x93, x94, x95, x96, x97, x98, x99, x100, x101, x102, x103, x104, x105, x106, x107, x108, x109, x110, x111, x112, x113, x114, x115, x116, x117, x118, x119, x120, x121, x122, x123, x124, x125, x126, x127, x128, x129, x130, x131, x132, x133, x134, x135, x136, x137, x138, x139, x140], defers := [] } W := by
    intro W hB
    refine wpAnyH_ready (by kernel_rfl) (by simp) (AllReadyH.cons (i := 3) (at_nth rfl) ?_ (AllReadyH.cons (i := 8) (at_nth rfl) ?_ (AllReadyH.nil)))
    · refine arm10_call (by kernel_rfl) (fun wy => by kernel_rfl) ((HP.out _ hB).mono ?_)
      rintro e Wn ⟨AQ, cQ, rfl, hZ, hb⟩
      replace hB := hB.trans (hb.mono hB.size)
      clear hb
      refine ⟨_, rfl, hB, ?_⟩
      simp only [Act.put, List.setIfInBounds_toArray, List.set_cons_succ, List.set_cons_zero]
      refine wpAnyH_pure (i := 4) (v := .tuple #[stoV t AQ cQ, .bool was, .int .i64 ev]) (at_nth rfl) (by kernel_rfl) (by kernel_rfl) (by kernel_rfl) (fun _ _ _ h => absurd h (HQN _ _ _)) (by kernel_rfl) (fun w hSw => by kernel_rfl) hB ?_
      simp only [Act.put, List.setIfInBounds_toArray, List.set_cons_succ, List.set_cons_zero]
      refine wpAnyH_pure (i := 5) (v := stoV t AQ cQ) (at_nth rfl) (by kernel_rfl) (by kernel_rfl) (by kernel_rfl) (fun _ _ _ h => absurd h (HQN _ _ _)) (by kernel_rfl) (fun w hSw => by kernel_rfl) hB ?_
      simp only [Act.put, List.setIfInBounds_toArray, List.set_cons_succ, List.set_cons_zero]
      refine wpAnyH_pure (i := 6) (v := .bool was) (at_nth rfl) (by kernel_rfl) (by kernel_rfl) (by kernel_rfl) (fun _ _ _ h => absurd h (HQN _ _ _)) (by kernel_rfl) (fun w hSw => by kernel_rfl) hB ?_
      simp only [Act.put, List.setIfInBounds_toArray, List.set_cons_succ, List.set_cons_zero]
      refine wpAnyH_pure (i := 7) (v := .int .i64 ev) (at_nth rfl) (by kernel_rfl) (by kernel_rfl) (by kernel_rfl) (fun _ _ _ h => absurd h (HQN _ _ _)) (by kernel_rfl) (fun w hSw => by kernel_rfl) hB ?_
      simp only [Act.put, List.setIfInBounds_toArray, List.set_cons_succ, List.set_cons_zero]
      exact ST2_3 _ _ _ hB hZ
    · have iN := Is.new W 31 #[.slice none 0 0, .int .i64 0, .int .i64 0]
      have hD := hB.size
      replace hB := hB.alloc hB.size (.cells #[.slice none 0 0, .int .i64 0, .int .i64 0] 31)
      refine arm10_value (v := .pointer (some ⟨W.heap.size, 0, none⟩)) (w' := W.alloc (.cells #[.slice none 0 0, .int .i64 0, .int .i64 0] 31)) (by kernel_rfl) (by go_simp) hB ?_
      simp only [Act.put, List.setIfInBounds_toArray, List.set_cons_succ, List.set_cons_zero]
      exact ST2_8 _ _ hB hD iN
  have ST8 : ∀ (W : World) (DN : Nat), Below W0.heap.size W0 W → W0.heap.size ≤ DN → Is W DN 31 #[.slice none 0 0, .int .i64 0, .int .i64 0] → wpAnyH Try.prog .any (opsOf Try.f8 6) Q (fun W => Below W0.heap.size W0 W) 9 #[true, true, false, false, false, false, false, false, true, false, false, false] { tmps := #[x0, .int .i64 z, x2, x3, x4, x5, x6, x7, .pointer (some ⟨D1, 0, none⟩), x9, x10, x11, x12, x13, x14, .pointer (some ⟨DN, 0, none⟩), x16, x17, x18, x19, x20, x21, x22, x23, x24, x25, x26, x27, x28, x29, x30, x31, x32, x33, x34, x35, x36, x37, x38, x39, x40, x41, x42, x43, x44, x45, x46, x47, x48, .agg (stoA s A c), .int .i64 z, x51, x52, x53, x54, x55, x56, x57, x58, x59, x60, x61, x62, x63, x64, x65, x66, x67, x68, x69, x70, x71, x72, x73, x74, x75, x76, x77, x78, x79, x80, x81, x82, x83, x84, x85, x86, x87, x88, x89, x90, x91, x92, x93, x94, x95, x96, x97, x98, x99, x100, x101, x102, x103, x104, x105, x106, x107, x108, x109, x110, x111, x112, x113, x114, x115, x116, x117, x118, x119, x120, x121, x122, x123, x124, x125, x126, x127, x128, x129, x130, x131, x132, x133, x134, x135, x136, x137, x138, x139, x140], defers := [] } W := by
    intro W DN hB hD iN
    refine wpAnyH_ready (by kernel_rfl) (by simp) (AllReadyH.cons (i := 2) (at_nth rfl) ?_ (AllReadyH.nil))
    · refine arm10_call (by kernel_rfl) (fun wy => by kernel_rfl) ((HLb.out _).mono ?_)
      rintro e Wn ⟨rfl, hb⟩
      replace iN := iN.below hb iN.lt
      replace hB := hB.trans (hb.mono hB.size)
      clear hb
      refine ⟨_, rfl, hB, ?_⟩
      simp only [Act.put, List.setIfInBounds_toArray, List.set_cons_succ, List.set_cons_zero]
      exact ST2_8 _ _ hB hD iN
  have ST : ∀ (W : World), Below W0.heap.size W0 W → wpAnyH Try.prog .any (opsOf Try.f8 6) Q (fun W => Below W0.heap.size W0 W) 10 #[true, true, false, false, false, false, false, false, false, false, false, false] { tmps := #[x0, .int .i64 z, x2, x3, x4, x5, x6, x7, .pointer (some ⟨D1, 0, none⟩), x9, x10, x11, x12, x13, x14, x15, x16, x17, x18, x19, x20, x21, x22, x23, x24, x25, x26, x27, x28, x29, x30, x31, x32, x33, x34, x35, x36, x37, x38, x39, x40, x41, x42, x43, x44, x45, x46, x47, x48, .agg (stoA s A c), .int .i64 z, x51, x52, x53, x54, x55, x56, x57, x58, x59, x60, x61, x62, x63, x64, x65, x66, x67, x68, x69, x70, x71, x72, x73, x74, x75, x76, x77, x78, x79, x80, x81, x82, x83, x84, x85, x86, x87, x88, x89, x90, x91, x92, x93, x94, x95, x96, x97, x98, x99, x100, x101, x102, x103, x104, x105, x106, x107, x108, x109, x110, x111, x112, x113, x114, x115, x116, x117, x118, x119, x120, x121, x122, x123, x124, x125, x126, x127, x128, x129, x130, x131, x132, x133, x134, x135, x136, x137, x138, x139, x140], defers := [] } W := by
    intro W hB
    refine wpAnyH_ready (by kernel_rfl) (by simp) (AllReadyH.cons (i := 2) (at_nth rfl) ?_ (AllReadyH.cons (i := 8) (at_nth rfl) ?_ (AllReadyH.nil)))
    · refine arm10_call (by kernel_rfl) (fun wy => by kernel_rfl) ((HLb.out _).mono ?_)
      rintro e Wn ⟨rfl, hb⟩
      replace hB := hB.trans (hb.mono hB.size)
      clear hb
      refine ⟨_, rfl, hB, ?_⟩
      simp only [Act.put, List.setIfInBounds_toArray, List.set_cons_succ, List.set_cons_zero]
      exact ST2 _ hB
    · have iN := Is.new W 31 #[.slice none 0 0, .int .i64 0, .int .i64 0]
      have hD := hB.size
      replace hB := hB.alloc hB.size (.cells #[.slice none 0 0, .int .i64 0, .int .i64 0] 31)
      refine arm10_value (v := .pointer (some ⟨W.heap.size, 0, none⟩)) (w' := W.alloc (.cells #[.slice none 0 0, .int .i64 0, .int .i64 0] 31)) (by kernel_rfl) (by go_simp) hB ?_
      simp only [Act.put, List.setIfInBounds_toArray, List.set_cons_succ, List.set_cons_zero]
      exact ST8 _ _ hB hD iN
  refine wp_region_held_drew (S := fun W => Below W0.heap.size W0 W) (by kernel_rfl) hB (fun hS => ?_)
  change wpAnyH _ _ (opsOf Try.f8 6) _ _ 12 (Array.replicate 12 false) _ (W0.drewN 1)
  clear hS
  replace hB : Below W0.heap.size W0 (W0.drewN 1) := belowN (Below.refl _ _) 1
  refine wpAnyH_pure (i := 0) (v := .agg (stoA s A c)) (at_nth rfl) (by kernel_rfl) (by kernel_rfl) (by kernel_rfl) (fun _ _ _ h => absurd h (HQN _ _ _)) (by kernel_rfl) (fun w hSw => by exact run_load_rowO (x := .tmp 8) (by kernel_rfl) (by kernel_rfl) (i1.below hSw i1.lt) Try.underlying31 rfl infoSto12) hB ?_
  simp only [Act.put, List.setIfInBounds_toArray, List.set_cons_succ, List.set_cons_zero]
  refine wpAnyH_pure (i := 1) (v := .int .i64 z) (at_nth rfl) (by kernel_rfl) (by kernel_rfl) (by kernel_rfl) (fun _ _ _ h => absurd h (HQN _ _ _)) (by kernel_rfl) (fun w hSw => by kernel_rfl) hB ?_
  simp only [Act.put, List.setIfInBounds_toArray, List.set_cons_succ, List.set_cons_zero]
  exact ST _ hB

set_option maxRecDepth 100000 in
set_option maxHeartbeats 4000000 in
theorem ov12_7 (W0 : World) (D1 : Nat) (s t : Sto12) (A : Option Addr) (c : Nat) (z : Int) (l : ByteArray) (was : Bool) (ev : Int) (i1 : Is W0 D1 31 (stoA s A c)) (HLb : Hid (∀ W, Calls Try.prog 23 #[.int .i64 z] W fun e w' => e = .returned (.string l) ∧ Below W.heap.size W w')) (HP : Hid (∀ W, Below W0.heap.size W0 W → Calls Try.prog 27 #[stoV s A c, .string l] W fun e w' => ∃ A1 c1, e = .returned (.tuple #[stoV t A1 c1, .bool was, .int .i64 ev]) ∧ InS w' t A1 c1 ∧ Below W.heap.size W w')) (x0 x2 x3 x4 x5 x6 x7 x8 x9 x10 x11 x12 x13 x14 x16 x17 x18 x19 x20 x21 x22 x23 x24 x25 x26 x27 x28 x29 x30 x31 x32 x33 x34 x35 x36 x37 x38 x39 x40 x41 x42 x43 x44 x45 x46 x47 x48 x49 x50 x51 x52 x53 x54 x55 x56 x57 x58 x59 x60 x61 x62 x63 x64 x65 x66 x67 x68 x69 x70 x71 x72 x73 x74 x75 x76 x77 x78 x79 x80 x81 x82 x83 x84 x85 x86 x87 x88 x89 x90 x91 x92 x93 x94 x95 x96 x97 x98 x99 x100 x101 x102 x103 x104 x105 x106 x107 x108 x109 x110 x111 x112 x113 x114 x115 x116 x117 x118 x119 x120 x121 x122 x123 x124 x125 x126 x127 x128 x129 x130 x131 x132 x133 x134 x135 x136 x137 x138 x139 x140 : Value) :
    (Code.region 7 (opsOf Try.f8 7) true).wp Try.prog (fun ex YY W => ex = .normal ∧ YY.defers = [] ∧ ∃ (AQ : Option Addr) (cQ : Nat) (DN : Nat), YY.tmps = #[x0, .int .i64 z, x2, x3, x4, x5, x6, x7, x8, x9, x10, x11, x12, x13, x14, .pointer (some ⟨D1, 0, none⟩), x16, x17, .pointer (some ⟨DN, 0, none⟩), .bool was, .int .i64 ev, x21, x22, x23, x24, x25, x26, x27, x28, x29, x30, x31, x32, x33, x34, x35, x36, x37, x38, x39, x40, x41, x42, x43, x44, x45, x46, x47, x48, x49, x50, x51, x52, x53, x54, x55, .tuple #[stoV t AQ cQ, .bool was, .int .i64 ev], .agg (stoA s A c), .int .i64 z, .string l, .tuple #[stoV t AQ cQ, .bool was, .int .i64 ev], stoV t AQ cQ, .bool was, .int .i64 ev, x64, x65, x66, x67, x68, x69, x70, x71, x72, x73, x74, x75, x76, x77, x78, x79, x80, x81, x82, x83, x84, x85, x86, x87, x88, x89, x90, x91, x92, x93, x94, x95, x96, x97, x98, x99, x100, x101, x102, x103, x104, x105, x106, x107, x108, x109, x110, x111, x112, x113, x114, x115, x116, x117, x118, x119, x120, x121, x122, x123, x124, x125, x126, x127, x128, x129, x130, x131, x132, x133, x134, x135, x136, x137, x138, x139, x140] ∧ Below W0.heap.size W0 W ∧ InS W t AQ cQ ∧ W0.heap.size ≤ DN ∧ Is W DN 31 (stoA t AQ cQ)) { tmps := #[x0, .int .i64 z, x2, x3, x4, x5, x6, x7, x8, x9, x10, x11, x12, x13, x14, .pointer (some ⟨D1, 0, none⟩), x16, x17, x18, x19, x20, x21, x22, x23, x24, x25, x26, x27, x28, x29, x30, x31, x32, x33, x34, x35, x36, x37, x38, x39, x40, x41, x42, x43, x44, x45, x46, x47, x48, x49, x50, x51, x52, x53, x54, x55, x56, x57, x58, x59, x60, x61, x62, x63, x64, x65, x66, x67, x68, x69, x70, x71, x72, x73, x74, x75, x76, x77, x78, x79, x80, x81, x82, x83, x84, x85, x86, x87, x88, x89, x90, x91, x92, x93, x94, x95, x96, x97, x98, x99, x100, x101, x102, x103, x104, x105, x106, x107, x108, x109, x110, x111, x112, x113, x114, x115, x116, x117, x118, x119, x120, x121, x122, x123, x124, x125, x126, x127, x128, x129, x130, x131, x132, x133, x134, x135, x136, x137, x138, x139, x140], defers := [] } W0 := by
  have hB : Below W0.heap.size W0 (W0.drewN 1) := belowN (Below.refl _ _) 1
  generalize hQ : (fun (ex : Exit) (YY : Act) (W : World) => ex = .normal ∧ YY.defers = [] ∧ ∃ (AQ : Option Addr) (cQ : Nat) (DN : Nat), YY.tmps = #[x0, .int .i64 z, x2, x3, x4, x5, x6, x7, x8, x9, x10, x11, x12, x13, x14, .pointer (some ⟨D1, 0, none⟩), x16, x17, .pointer (some ⟨DN, 0, none⟩), .bool was, .int .i64 ev, x21, x22, x23, x24, x25, x26, x27, x28, x29, x30, x31, x32, x33, x34, x35, x36, x37, x38, x39, x40, x41, x42, x43, x44, x45, x46, x47, x48, x49, x50, x51, x52, x53, x54, x55, .tuple #[stoV t AQ cQ, .bool was, .int .i64 ev], .agg (stoA s A c), .int .i64 z, .string l, .tuple #[stoV t AQ cQ, .bool was, .int .i64 ev], stoV t AQ cQ, .bool was, .int .i64 ev, x64, x65, x66, x67, x68, x69, x70, x71, x72, x73, x74, x75, x76, x77, x78, x79, x80, x81, x82, x83, x84, x85, x86, x87, x88, x89, x90, x91, x92, x93, x94, x95, x96, x97, x98, x99, x100, x101, x102, x103, x104, x105, x106, x107, x108, x109, x110, x111, x112, x113, x114, x115, x116, x117, x118, x119, x120, x121, x122, x123, x124, x125, x126, x127, x128, x129, x130, x131, x132, x133, x134, x135, x136, x137, x138, x139, x140] ∧ Below W0.heap.size W0 W ∧ InS W t AQ cQ ∧ W0.heap.size ≤ DN ∧ Is W DN 31 (stoA t AQ cQ)) = Q
  have HQN : ∀ c a W, ¬ Q (.panic c) a W := fun c a W h => by subst hQ; exact nomatch h.1
  have ST2_3_8_9 : ∀ (W : World) (AQ : Option Addr) (cQ : Nat) (DN : Nat), Below W0.heap.size W0 W → InS W t AQ cQ → W0.heap.size ≤ DN → Is W DN 31 (stoA t AQ cQ) → wpAnyH Try.prog .any (opsOf Try.f8 7) Q (fun W => Below W0.heap.size W0 W) 0 #[true, true, true, true, true, true, true, true, true, true, true, true] { tmps := #[x0, .int .i64 z, x2, x3, x4, x5, x6, x7, x8, x9, x10, x11, x12, x13, x14, .pointer (some ⟨D1, 0, none⟩), x16, x17, .pointer (some ⟨DN, 0, none⟩), .bool was, .int .i64 ev, x21, x22, x23, x24, x25, x26, x27, x28, x29, x30, x31, x32, x33, x34, x35, x36, x37, x38, x39, x40, x41, x42, x43, x44, x45, x46, x47, x48, x49, x50, x51, x52, x53, x54, x55, .tuple #[stoV t AQ cQ, .bool was, .int .i64 ev], .agg (stoA s A c), .int .i64 z, .string l, .tuple #[stoV t AQ cQ, .bool was, .int .i64 ev], stoV t AQ cQ, .bool was, .int .i64 ev, x64, x65, x66, x67, x68, x69, x70, x71, x72, x73, x74, x75, x76, x77, x78, x79, x80, x81, x82, x83, x84, x85, x86, x87, x88, x89, x90, x91, x92, x93, x94, x95, x96, x97, x98, x99, x100, x101, x102, x103, x104, x105, x106, x107, x108, x109, x110, x111, x112, x113, x114, x115, x116, x117, x118, x119, x120, x121, x122, x123, x124, x125, x126, x127, x128, x129, x130, x131, x132, x133, x134, x135, x136, x137, x138, x139, x140], defers := [] } W := by
    intro W AQ cQ DN hB hZ hD iN
    refine wpAnyH_done (by kernel_rfl) ?_ _
    subst hQ
    exact ⟨rfl, rfl, AQ, cQ, DN, rfl, hB, hZ, hD, iN⟩
  have ST2_3_8 : ∀ (W : World) (AQ : Option Addr) (cQ : Nat) (DN : Nat), Below W0.heap.size W0 W → InS W t AQ cQ → W0.heap.size ≤ DN → Is W DN 31 #[.slice none 0 0, .int .i64 0, .int .i64 0] → wpAnyH Try.prog .any (opsOf Try.f8 7) Q (fun W => Below W0.heap.size W0 W) 3 #[true, true, true, true, true, true, true, true, true, false, false, false] { tmps := #[x0, .int .i64 z, x2, x3, x4, x5, x6, x7, x8, x9, x10, x11, x12, x13, x14, .pointer (some ⟨D1, 0, none⟩), x16, x17, .pointer (some ⟨DN, 0, none⟩), x19, x20, x21, x22, x23, x24, x25, x26, x27, x28, x29, x30, x31, x32, x33, x34, x35, x36, x37, x38, x39, x40, x41, x42, x43, x44, x45, x46, x47, x48, x49, x50, x51, x52, x53, x54, x55, .tuple #[stoV t AQ cQ, .bool was, .int .i64 ev], .agg (stoA s A c), .int .i64 z, .string l, .tuple #[stoV t AQ cQ, .bool was, .int .i64 ev], stoV t AQ cQ, .bool was, .int .i64 ev, x64, x65, x66, x67, x68, x69, x70, x71, x72, x73, x74, x75, x76, x77, x78, x79, x80, x81, x82, x83, x84, x85, x86, x87, x88, x89, x90, x91, x92, x93, x94, x95, x96, x97, x98, x99, x100, x101, x102, x103, x104, x105, x106, x107, x108, x109, x110, x111, x112, x113, x114, x115, x116, x117, x118, x119, x120, x121, x122, x123, x124, x125, x126, x127, x128, x129, x130, x131, x132, x133, x134, x135, x136, x137, x138, x139, x140], defers := [] } W := by
    intro W AQ cQ DN hB hZ hD iN
    refine wpAnyH_ready (by kernel_rfl) (by simp) (AllReadyH.cons (i := 9) (at_nth rfl) ?_ (AllReadyH.nil))
    · have hone := stoA_one12 t AQ cQ
      replace hZ := hZ.far12 iN (stoA t AQ cQ)
      have iN2 := iN.row (stoA t AQ cQ)
      have hB2 := belowRow hB hD (stoA t AQ cQ)
      refine arm10_skip (w' := W.setRow DN (stoA t AQ cQ)) (by kernel_rfl) (run_row10 (x := .tmp 18) (y := .tmp 61) (by kernel_rfl) (by kernel_rfl) (by kernel_rfl) iN infoSto12 rfl hone) hB2 ?_
      simp only [Act.put]
      replace hB := hB2
      replace iN := iN2
      clear iN2 hB2 hone
      refine wpAnyH_pure (i := 10) (v := .bool was) (at_nth rfl) (by kernel_rfl) (by kernel_rfl) (by kernel_rfl) (fun _ _ _ h => absurd h (HQN _ _ _)) (by kernel_rfl) (fun w hSw => by kernel_rfl) hB ?_
      simp only [Act.put, List.setIfInBounds_toArray, List.set_cons_succ, List.set_cons_zero]
      refine wpAnyH_pure (i := 11) (v := .int .i64 ev) (at_nth rfl) (by kernel_rfl) (by kernel_rfl) (by kernel_rfl) (fun _ _ _ h => absurd h (HQN _ _ _)) (by kernel_rfl) (fun w hSw => by kernel_rfl) hB ?_
      simp only [Act.put, List.setIfInBounds_toArray, List.set_cons_succ, List.set_cons_zero]
      exact ST2_3_8_9 _ _ _ _ hB hZ hD iN
  have ST2_3 : ∀ (W : World) (AQ : Option Addr) (cQ : Nat), Below W0.heap.size W0 W → InS W t AQ cQ → wpAnyH Try.prog .any (opsOf Try.f8 7) Q (fun W => Below W0.heap.size W0 W) 4 #[true, true, true, true, true, true, true, true, false, false, false, false] { tmps := #[x0, .int .i64 z, x2, x3, x4, x5, x6, x7, x8, x9, x10, x11, x12, x13, x14, .pointer (some ⟨D1, 0, none⟩), x16, x17, x18, x19, x20, x21, x22, x23, x24, x25, x26, x27, x28, x29, x30, x31, x32, x33, x34, x35, x36, x37, x38, x39, x40, x41, x42, x43, x44, x45, x46, x47, x48, x49, x50, x51, x52, x53, x54, x55, .tuple #[stoV t AQ cQ, .bool was, .int .i64 ev], .agg (stoA s A c), .int .i64 z, .string l, .tuple #[stoV t AQ cQ, .bool was, .int .i64 ev], stoV t AQ cQ, .bool was, .int .i64 ev, x64, x65, x66, x67, x68, x69, x70, x71, x72, x73, x74, x75, x76, x77, x78, x79, x80, x81, x82, x83, x84, x85, x86, x87, x88, x89, x90, x91, x92, x93, x94, x95, x96, x97, x98, x99, x100, x101, x102, x103, x104, x105, x106, x107, x108, x109, x110, x111, x112, x113, x114, x115, x116, x117, x118, x119, x120, x121, x122, x123, x124, x125, x126, x127, x128, x129, x130, x131, x132, x133, x134, x135, x136, x137, x138, x139, x140], defers := [] } W := by
    intro W AQ cQ hB hZ
    refine wpAnyH_ready (by kernel_rfl) (by simp) (AllReadyH.cons (i := 8) (at_nth rfl) ?_ (AllReadyH.nil))
    · have iN := Is.new W 31 #[.slice none 0 0, .int .i64 0, .int .i64 0]
      replace hZ := hZ.keep ((Below.refl _ _).alloc (Nat.le_refl _) (.cells #[.slice none 0 0, .int .i64 0, .int .i64 0] 31))
      have hD := hB.size
      replace hB := hB.alloc hB.size (.cells #[.slice none 0 0, .int .i64 0, .int .i64 0] 31)
      refine arm10_value (v := .pointer (some ⟨W.heap.size, 0, none⟩)) (w' := W.alloc (.cells #[.slice none 0 0, .int .i64 0, .int .i64 0] 31)) (by kernel_rfl) (by go_simp) hB ?_
      simp only [Act.put, List.setIfInBounds_toArray, List.set_cons_succ, List.set_cons_zero]
      exact ST2_3_8 _ _ _ _ hB hZ hD iN
  have ST2_8 : ∀ (W : World) (DN : Nat), Below W0.heap.size W0 W → W0.heap.size ≤ DN → Is W DN 31 #[.slice none 0 0, .int .i64 0, .int .i64 0] → wpAnyH Try.prog .any (opsOf Try.f8 7) Q (fun W => Below W0.heap.size W0 W) 8 #[true, true, true, false, false, false, false, false, true, false, false, false] { tmps := #[x0, .int .i64 z, x2, x3, x4, x5, x6, x7, x8, x9, x10, x11, x12, x13, x14, .pointer (some ⟨D1, 0, none⟩), x16, x17, .pointer (some ⟨DN, 0, none⟩), x19, x20, x21, x22, x23, x24, x25, x26, x27, x28, x29, x30, x31, x32, x33, x34, x35, x36, x37, x38, x39, x40, x41, x42, x43, x44, x45, x46, x47, x48, x49, x50, x51, x52, x53, x54, x55, x56, .agg (stoA s A c), .int .i64 z, .string l, x60, x61, x62, x63, x64, x65, x66, x67, x68, x69, x70, x71, x72, x73, x74, x75, x76, x77, x78, x79, x80, x81, x82, x83, x84, x85, x86, x87, x88, x89, x90, x91, x92, x93, x94, x95, x96, x97, x98, x99, x100, x101, x102, x103, x104, x105, x106, x107, x108, x109, x110, x111, x112, x113, x114, x115, x116, x117, x118, x119, x120, x121, x122, x123, x124, x125, x126, x127, x128, x129, x130, x131, x132, x133, x134, x135, x136, x137, x138, x139, x140], defers := [] } W := by
    intro W DN hB hD iN
    refine wpAnyH_ready (by kernel_rfl) (by simp) (AllReadyH.cons (i := 3) (at_nth rfl) ?_ (AllReadyH.nil))
    · refine arm10_call (by kernel_rfl) (fun wy => by kernel_rfl) ((HP.out _ hB).mono ?_)
      rintro e Wn ⟨AQ, cQ, rfl, hZ, hb⟩
      replace iN := iN.below hb iN.lt
      replace hB := hB.trans (hb.mono hB.size)
      clear hb
      refine ⟨_, rfl, hB, ?_⟩
      simp only [Act.put, List.setIfInBounds_toArray, List.set_cons_succ, List.set_cons_zero]
      refine wpAnyH_pure (i := 4) (v := .tuple #[stoV t AQ cQ, .bool was, .int .i64 ev]) (at_nth rfl) (by kernel_rfl) (by kernel_rfl) (by kernel_rfl) (fun _ _ _ h => absurd h (HQN _ _ _)) (by kernel_rfl) (fun w hSw => by kernel_rfl) hB ?_
      simp only [Act.put, List.setIfInBounds_toArray, List.set_cons_succ, List.set_cons_zero]
      refine wpAnyH_pure (i := 5) (v := stoV t AQ cQ) (at_nth rfl) (by kernel_rfl) (by kernel_rfl) (by kernel_rfl) (fun _ _ _ h => absurd h (HQN _ _ _)) (by kernel_rfl) (fun w hSw => by kernel_rfl) hB ?_
      simp only [Act.put, List.setIfInBounds_toArray, List.set_cons_succ, List.set_cons_zero]
      refine wpAnyH_pure (i := 6) (v := .bool was) (at_nth rfl) (by kernel_rfl) (by kernel_rfl) (by kernel_rfl) (fun _ _ _ h => absurd h (HQN _ _ _)) (by kernel_rfl) (fun w hSw => by kernel_rfl) hB ?_
      simp only [Act.put, List.setIfInBounds_toArray, List.set_cons_succ, List.set_cons_zero]
      refine wpAnyH_pure (i := 7) (v := .int .i64 ev) (at_nth rfl) (by kernel_rfl) (by kernel_rfl) (by kernel_rfl) (fun _ _ _ h => absurd h (HQN _ _ _)) (by kernel_rfl) (fun w hSw => by kernel_rfl) hB ?_
      simp only [Act.put, List.setIfInBounds_toArray, List.set_cons_succ, List.set_cons_zero]
      exact ST2_3_8 _ _ _ _ hB hZ hD iN
  have ST2 : ∀ (W : World), Below W0.heap.size W0 W → wpAnyH Try.prog .any (opsOf Try.f8 7) Q (fun W => Below W0.heap.size W0 W) 9 #[true, true, true, false, false, false, false, false, false, false, false, false] { tmps := #[x0, .int .i64 z, x2, x3, x4, x5, x6, x7, x8, x9, x10, x11, x12, x13, x14, .pointer (some ⟨D1, 0, none⟩), x16, x17, x18, x19, x20, x21, x22, x23, x24, x25, x26, x27, x28, x29, x30, x31, x32, x33, x34, x35, x36, x37, x38, x39, x40, x41, x42, x43, x44, x45, x46, x47, x48, x49, x50, x51, x52, x53, x54, x55, x56, .agg (stoA s A c), .int .i64 z, .string l, x60, x61, x62, x63, x64, x65, x66, x67, x68, x69, x70, x71, x72, x73, x74, x75, x76, x77, x78, x79, x80, x81, x82, x83, x84, x85, x86, x87, x88, x89, x90, x91, x92, x93, x94, x95, x96, x97, x98, x99, x100, x101, x102, x103, x104, x105, x106, x107, x108, x109, x110, x111, x112, x113, x114, x115, x116, x117, x118, x119, x120, x121, x122, x123, x124, x125, x126, x127, x128, x129, x130, x131, x132, x133, x134, x135, x136, x137, x138, x139, x140], defers := [] } W := by
    intro W hB
    refine wpAnyH_ready (by kernel_rfl) (by simp) (AllReadyH.cons (i := 3) (at_nth rfl) ?_ (AllReadyH.cons (i := 8) (at_nth rfl) ?_ (AllReadyH.nil)))
    · refine arm10_call (by kernel_rfl) (fun wy => by kernel_rfl) ((HP.out _ hB).mono ?_)
      rintro e Wn ⟨AQ, cQ, rfl, hZ, hb⟩
      replace hB := hB.trans (hb.mono hB.size)
      clear hb
      refine ⟨_, rfl, hB, ?_⟩
      simp only [Act.put, List.setIfInBounds_toArray, List.set_cons_succ, List.set_cons_zero]
      refine wpAnyH_pure (i := 4) (v := .tuple #[stoV t AQ cQ, .bool was, .int .i64 ev]) (at_nth rfl) (by kernel_rfl) (by kernel_rfl) (by kernel_rfl) (fun _ _ _ h => absurd h (HQN _ _ _)) (by kernel_rfl) (fun w hSw => by kernel_rfl) hB ?_
      simp only [Act.put, List.setIfInBounds_toArray, List.set_cons_succ, List.set_cons_zero]
      refine wpAnyH_pure (i := 5) (v := stoV t AQ cQ) (at_nth rfl) (by kernel_rfl) (by kernel_rfl) (by kernel_rfl) (fun _ _ _ h => absurd h (HQN _ _ _)) (by kernel_rfl) (fun w hSw => by kernel_rfl) hB ?_
      simp only [Act.put, List.setIfInBounds_toArray, List.set_cons_succ, List.set_cons_zero]
      refine wpAnyH_pure (i := 6) (v := .bool was) (at_nth rfl) (by kernel_rfl) (by kernel_rfl) (by kernel_rfl) (fun _ _ _ h => absurd h (HQN _ _ _)) (by kernel_rfl) (fun w hSw => by kernel_rfl) hB ?_
      simp only [Act.put, List.setIfInBounds_toArray, List.set_cons_succ, List.set_cons_zero]
      refine wpAnyH_pure (i := 7) (v := .int .i64 ev) (at_nth rfl) (by kernel_rfl) (by kernel_rfl) (by kernel_rfl) (fun _ _ _ h => absurd h (HQN _ _ _)) (by kernel_rfl) (fun w hSw => by kernel_rfl) hB ?_
      simp only [Act.put, List.setIfInBounds_toArray, List.set_cons_succ, List.set_cons_zero]
      exact ST2_3 _ _ _ hB hZ
    · have iN := Is.new W 31 #[.slice none 0 0, .int .i64 0, .int .i64 0]
      have hD := hB.size
      replace hB := hB.alloc hB.size (.cells #[.slice none 0 0, .int .i64 0, .int .i64 0] 31)
      refine arm10_value (v := .pointer (some ⟨W.heap.size, 0, none⟩)) (w' := W.alloc (.cells #[.slice none 0 0, .int .i64 0, .int .i64 0] 31)) (by kernel_rfl) (by go_simp) hB ?_
      simp only [Act.put, List.setIfInBounds_toArray, List.set_cons_succ, List.set_cons_zero]
      exact ST2_8 _ _ hB hD iN
  have ST8 : ∀ (W : World) (DN : Nat), Below W0.heap.size W0 W → W0.heap.size ≤ DN → Is W DN 31 #[.slice none 0 0, .int .i64 0, .int .i64 0] → wpAnyH Try.prog .any (opsOf Try.f8 7) Q (fun W => Below W0.heap.size W0 W) 9 #[true, true, false, false, false, false, false, false, true, false, false, false] { tmps := #[x0, .int .i64 z, x2, x3, x4, x5, x6, x7, x8, x9, x10, x11, x12, x13, x14, .pointer (some ⟨D1, 0, none⟩), x16, x17, .pointer (some ⟨DN, 0, none⟩), x19, x20, x21, x22, x23, x24, x25, x26, x27, x28, x29, x30, x31, x32, x33, x34, x35, x36, x37, x38, x39, x40, x41, x42, x43, x44, x45, x46, x47, x48, x49, x50, x51, x52, x53, x54, x55, x56, .agg (stoA s A c), .int .i64 z, x59, x60, x61, x62, x63, x64, x65, x66, x67, x68, x69, x70, x71, x72, x73, x74, x75, x76, x77, x78, x79, x80, x81, x82, x83, x84, x85, x86, x87, x88, x89, x90, x91, x92, x93, x94, x95, x96, x97, x98, x99, x100, x101, x102, x103, x104, x105, x106, x107, x108, x109, x110, x111, x112, x113, x114, x115, x116, x117, x118, x119, x120, x121, x122, x123, x124, x125, x126, x127, x128, x129, x130, x131, x132, x133, x134, x135, x136, x137, x138, x139, x140], defers := [] } W := by
    intro W DN hB hD iN
    refine wpAnyH_ready (by kernel_rfl) (by simp) (AllReadyH.cons (i := 2) (at_nth rfl) ?_ (AllReadyH.nil))
    · refine arm10_call (by kernel_rfl) (fun wy => by kernel_rfl) ((HLb.out _).mono ?_)
      rintro e Wn ⟨rfl, hb⟩
      replace iN := iN.below hb iN.lt
      replace hB := hB.trans (hb.mono hB.size)
      clear hb
      refine ⟨_, rfl, hB, ?_⟩
      simp only [Act.put, List.setIfInBounds_toArray, List.set_cons_succ, List.set_cons_zero]
      exact ST2_8 _ _ hB hD iN
  have ST : ∀ (W : World), Below W0.heap.size W0 W → wpAnyH Try.prog .any (opsOf Try.f8 7) Q (fun W => Below W0.heap.size W0 W) 10 #[true, true, false, false, false, false, false, false, false, false, false, false] { tmps := #[x0, .int .i64 z, x2, x3, x4, x5, x6, x7, x8, x9, x10, x11, x12, x13, x14, .pointer (some ⟨D1, 0, none⟩), x16, x17, x18, x19, x20, x21, x22, x23, x24, x25, x26, x27, x28, x29, x30, x31, x32, x33, x34, x35, x36, x37, x38, x39, x40, x41, x42, x43, x44, x45, x46, x47, x48, x49, x50, x51, x52, x53, x54, x55, x56, .agg (stoA s A c), .int .i64 z, x59, x60, x61, x62, x63, x64, x65, x66, x67, x68, x69, x70, x71, x72, x73, x74, x75, x76, x77, x78, x79, x80, x81, x82, x83, x84, x85, x86, x87, x88, x89, x90, x91, x92, x93, x94, x95, x96, x97, x98, x99, x100, x101, x102, x103, x104, x105, x106, x107, x108, x109, x110, x111, x112, x113, x114, x115, x116, x117, x118, x119, x120, x121, x122, x123, x124, x125, x126, x127, x128, x129, x130, x131, x132, x133, x134, x135, x136, x137, x138, x139, x140], defers := [] } W := by
    intro W hB
    refine wpAnyH_ready (by kernel_rfl) (by simp) (AllReadyH.cons (i := 2) (at_nth rfl) ?_ (AllReadyH.cons (i := 8) (at_nth rfl) ?_ (AllReadyH.nil)))
    · refine arm10_call (by kernel_rfl) (fun wy => by kernel_rfl) ((HLb.out _).mono ?_)
      rintro e Wn ⟨rfl, hb⟩
      replace hB := hB.trans (hb.mono hB.size)
      clear hb
      refine ⟨_, rfl, hB, ?_⟩
      simp only [Act.put, List.setIfInBounds_toArray, List.set_cons_succ, List.set_cons_zero]
      exact ST2 _ hB
    · have iN := Is.new W 31 #[.slice none 0 0, .int .i64 0, .int .i64 0]
      have hD := hB.size
      replace hB := hB.alloc hB.size (.cells #[.slice none 0 0, .int .i64 0, .int .i64 0] 31)
      refine arm10_value (v := .pointer (some ⟨W.heap.size, 0, none⟩)) (w' := W.alloc (.cells #[.slice none 0 0, .int .i64 0, .int .i64 0] 31)) (by kernel_rfl) (by go_simp) hB ?_
      simp only [Act.put, List.setIfInBounds_toArray, List.set_cons_succ, List.set_cons_zero]
      exact ST8 _ _ hB hD iN
  refine wp_region_held_drew (S := fun W => Below W0.heap.size W0 W) (by kernel_rfl) hB (fun hS => ?_)
  change wpAnyH _ _ (opsOf Try.f8 7) _ _ 12 (Array.replicate 12 false) _ (W0.drewN 1)
  clear hS
  replace hB : Below W0.heap.size W0 (W0.drewN 1) := belowN (Below.refl _ _) 1
  refine wpAnyH_pure (i := 0) (v := .agg (stoA s A c)) (at_nth rfl) (by kernel_rfl) (by kernel_rfl) (by kernel_rfl) (fun _ _ _ h => absurd h (HQN _ _ _)) (by kernel_rfl) (fun w hSw => by exact run_load_rowO (x := .tmp 15) (by kernel_rfl) (by kernel_rfl) (i1.below hSw i1.lt) Try.underlying31 rfl infoSto12) hB ?_
  simp only [Act.put, List.setIfInBounds_toArray, List.set_cons_succ, List.set_cons_zero]
  refine wpAnyH_pure (i := 1) (v := .int .i64 z) (at_nth rfl) (by kernel_rfl) (by kernel_rfl) (by kernel_rfl) (fun _ _ _ h => absurd h (HQN _ _ _)) (by kernel_rfl) (fun w hSw => by kernel_rfl) hB ?_
  simp only [Act.put, List.setIfInBounds_toArray, List.set_cons_succ, List.set_cons_zero]
  exact ST _ hB
end Go.Proofs.Ytglcckpkbnppoaa
