/-
  CodecStays: the walk of the statement's function.
-/
import Derived.Test.YtploljgamimlpaaCStR1
import Derived.Test.YtploljgamimlpaaCStR2
import Derived.Test.YtploljgamimlpaaCStR3
import Derived.Lib.MinMax
namespace Go.Proofs.Ytploljgamimlpaa
open Go.RowKit Go.Shelf

set_option maxRecDepth 100000 in
set_option maxHeartbeats 8000000 in
theorem stays10_cur (W0 : World) (s C : ByteArray) (at_ p : Int) (HW : Hid (IntKind.i64.wrap (min (s.size : Int) 500 + 1) = min (s.size : Int) 500 + 1)) (HSL : Hid (∀ wx : World, (Instr.slice 9 (.string s) none (some (.int .i64 (min (s.size : Int) 500))) none).run Try.prog wx = .ok (.string C) wx))
    (PK : Hid (∀ W, Calls Try.prog 10 #[.int .i64 at_, .int .i64 (min (s.size : Int) 500 + 1)] W fun e w' => e = .returned (.int .i64 p) ∧ W = w')) (x2 x3 x4 x5 x6 x7 x8 x9 x10 x11 x12 x13 x14 x15 x16 x17 x18 x19 x20 x21 x22 x23 x24 x25 x26 x27 x28 x29 x30 x31 x32 x33 x34 x35 x36 x37 x38 x39 x40 x41 x42 x43 x44 x45 x46 x47 x48 x49 x50 x51 x52 x53 x54 x55 x56 x57 x58 x59 x60 x61 x62 x63 x64 x65 x66 x67 x68 x69 x70 x71 x72 x73 x74 x75 x76 x77 x78 x79 x80 x81 x82 x83 x84 x85 x86 x87 x88 x89 x90 x91 x92 x93 x94 x95 x96 x97 x98 x99 x100 x101 x102 x103 x104 x105 x106 x107 x108 x109 x110 x111 x112 x113 x114 x115 x116 x117 x118 x119 x120 x121 x122 x123 x124 x125 x126 x127 x128 x129 x130 x131 x132 x133 x134 x135 x136 x137 x138 x139 x140 x141 x142 x143 x144 x145 x146 x147 x148 x149 x150 x151 x152 x153 x154 x155 x156 x157 x158 x159 x160 : Value) :
    (Code.region 2 (opsOf Try.f8 2) true).wp Try.prog (fun ex YY W => ex = .normal ∧ YY.defers = [] ∧ ∃ (DD : Nat), YY.tmps = #[.string s, .int .i64 at_, x2, x3, x4, x5, .pointer (some ⟨DD, 0, none⟩), x7, x8, x9, x10, x11, x12, x13, x14, x15, x16, .string s, .string s, .int .i64 (s.size : Int), .int .i64 (min (s.size : Int) 500), .string C, .int .i64 at_, .string s, .int .i64 (s.size : Int), .int .i64 (min (s.size : Int) 500), .int .i64 (min (s.size : Int) 500 + 1), .int .i64 p, .agg #[.string C, .int .i64 p], x29, x30, x31, x32, x33, x34, x35, x36, x37, x38, x39, x40, x41, x42, x43, x44, x45, x46, x47, x48, x49, x50, x51, x52, x53, x54, x55, x56, x57, x58, x59, x60, x61, x62, x63, x64, x65, x66, x67, x68, x69, x70, x71, x72, x73, x74, x75, x76, x77, x78, x79, x80, x81, x82, x83, x84, x85, x86, x87, x88, x89, x90, x91, x92, x93, x94, x95, x96, x97, x98, x99, x100, x101, x102, x103, x104, x105, x106, x107, x108, x109, x110, x111, x112, x113, x114, x115, x116, x117, x118, x119, x120, x121, x122, x123, x124, x125, x126, x127, x128, x129, x130, x131, x132, x133, x134, x135, x136, x137, x138, x139, x140, x141, x142, x143, x144, x145, x146, x147, x148, x149, x150, x151, x152, x153, x154, x155, x156, x157, x158, x159, x160] ∧ Below W0.heap.size W0 W ∧ W0.heap.size ≤ DD ∧ Is W DD 24 #[.string C, .int .i64 p]) { tmps := #[.string s, .int .i64 at_, x2, x3, x4, x5, x6, x7, x8, x9, x10, x11, x12, x13, x14, x15, x16, x17, x18, x19, x20, x21, x22, x23, x24, x25, x26, x27, x28, x29, x30, x31, x32, x33, x34, x35, x36, x37, x38, x39, x40, x41, x42, x43, x44, x45, x46, x47, x48, x49, x50, x51, x52, x53, x54, x55, x56, x57, x58, x59, x60, x61, x62, x63, x64, x65, x66, x67, x68, x69, x70, x71, x72, x73, x74, x75, x76, x77, x78, x79, x80, x81, x82, x83, x84, x85, x86, x87, x88, x89, x90, x91, x92, x93, x94, x95, x96, x97, x98, x99, x100, x101, x102, x103, x104, x105, x106, x107, x108, x109, x110, x111, x112, x113, x114, x115, x116, x117, x118, x119, x120, x121, x122, x123, x124, x125, x126, x127, x128, x129, x130, x131, x132, x133, x134, x135, x136, x137, x138, x139, x140, x141, x142, x143, x144, x145, x146, x147, x148, x149, x150, x151, x152, x153, x154, x155, x156, x157, x158, x159, x160], defers := [] } W0 := by
  have hB : Below W0.heap.size W0 (W0.drewN 1) := belowN (Below.refl _ _) 1
  generalize hQ : (fun (ex : Exit) (YY : Act) (W : World) => ex = .normal ∧ YY.defers = [] ∧ ∃ (DD : Nat), YY.tmps = #[.string s, .int .i64 at_, x2, x3, x4, x5, .pointer (some ⟨DD, 0, none⟩), x7, x8, x9, x10, x11, x12, x13, x14, x15, x16, .string s, .string s, .int .i64 (s.size : Int), .int .i64 (min (s.size : Int) 500), .string C, .int .i64 at_, .string s, .int .i64 (s.size : Int), .int .i64 (min (s.size : Int) 500), .int .i64 (min (s.size : Int) 500 + 1), .int .i64 p, .agg #[.string C, .int .i64 p], x29, x30, x31, x32, x33, x34, x35, x36, x37, x38, x39, x40, x41, x42, x43, x44, x45, x46, x47, x48, x49, x50, x51, x52, x53, x54, x55, x56, x57, x58, x59, x60, x61, x62, x63, x64, x65, x66, x67, x68, x69, x70, x71, x72, x73, x74, x75, x76, x77, x78, x79, x80, x81, x82, x83, x84, x85, x86, x87, x88, x89, x90, x91, x92, x93, x94, x95, x96, x97, x98, x99, x100, x101, x102, x103, x104, x105, x106, x107, x108, x109, x110, x111, x112, x113, x114, x115, x116, x117, x118, x119, x120, x121, x122, x123, x124, x125, x126, x127, x128, x129, x130, x131, x132, x133, x134, x135, x136, x137, x138, x139, x140, x141, x142, x143, x144, x145, x146, x147, x148, x149, x150, x151, x152, x153, x154, x155, x156, x157, x158, x159, x160] ∧ Below W0.heap.size W0 W ∧ W0.heap.size ≤ DD ∧ Is W DD 24 #[.string C, .int .i64 p]) = Q
  have HQN : ∀ c a W, ¬ Q (.panic c) a W := fun c a W h => by subst hQ; exact nomatch h.1
  have ST10_12_13 : ∀ (W : World) (DD : Nat), Below W0.heap.size W0 W → W0.heap.size ≤ DD → Is W DD 24 #[.string C, .int .i64 p] → wpAnyH Try.prog .any (opsOf Try.f8 2) Q (fun W => Below W0.heap.size W0 W) 0 #[true, true, true, true, true, true, true, true, true, true, true, true, true, true] { tmps := #[.string s, .int .i64 at_, x2, x3, x4, x5, .pointer (some ⟨DD, 0, none⟩), x7, x8, x9, x10, x11, x12, x13, x14, x15, x16, .string s, .string s, .int .i64 (s.size : Int), .int .i64 (min (s.size : Int) 500), .string C, .int .i64 at_, .string s, .int .i64 (s.size : Int), .int .i64 (min (s.size : Int) 500), .int .i64 (min (s.size : Int) 500 + 1), .int .i64 p, .agg #[.string C, .int .i64 p], x29, x30, x31, x32, x33, x34, x35, x36, x37, x38, x39, x40, x41, x42, x43, x44, x45, x46, x47, x48, x49, x50, x51, x52, x53, x54, x55, x56, x57, x58, x59, x60, x61, x62, x63, x64, x65, x66, x67, x68, x69, x70, x71, x72, x73, x74, x75, x76, x77, x78, x79, x80, x81, x82, x83, x84, x85, x86, x87, x88, x89, x90, x91, x92, x93, x94, x95, x96, x97, x98, x99, x100, x101, x102, x103, x104, x105, x106, x107, x108, x109, x110, x111, x112, x113, x114, x115, x116, x117, x118, x119, x120, x121, x122, x123, x124, x125, x126, x127, x128, x129, x130, x131, x132, x133, x134, x135, x136, x137, x138, x139, x140, x141, x142, x143, x144, x145, x146, x147, x148, x149, x150, x151, x152, x153, x154, x155, x156, x157, x158, x159, x160], defers := [] } W := by
    intro W DD hB hDD iE
    refine wpAnyH_done (by kernel_rfl) ?_ _
    subst hQ
    exact ⟨rfl, rfl, DD, rfl, hB, hDD, iE⟩
  have ST10_12 : ∀ (W : World) (DD : Nat), Below W0.heap.size W0 W → W0.heap.size ≤ DD → Is W DD 24 #[.string ⟨#[]⟩, .int .i64 0] → wpAnyH Try.prog .any (opsOf Try.f8 2) Q (fun W => Below W0.heap.size W0 W) 1 #[true, true, true, true, true, true, true, true, true, true, true, true, true, false] { tmps := #[.string s, .int .i64 at_, x2, x3, x4, x5, .pointer (some ⟨DD, 0, none⟩), x7, x8, x9, x10, x11, x12, x13, x14, x15, x16, .string s, .string s, .int .i64 (s.size : Int), .int .i64 (min (s.size : Int) 500), .string C, .int .i64 at_, .string s, .int .i64 (s.size : Int), .int .i64 (min (s.size : Int) 500), .int .i64 (min (s.size : Int) 500 + 1), .int .i64 p, .agg #[.string C, .int .i64 p], x29, x30, x31, x32, x33, x34, x35, x36, x37, x38, x39, x40, x41, x42, x43, x44, x45, x46, x47, x48, x49, x50, x51, x52, x53, x54, x55, x56, x57, x58, x59, x60, x61, x62, x63, x64, x65, x66, x67, x68, x69, x70, x71, x72, x73, x74, x75, x76, x77, x78, x79, x80, x81, x82, x83, x84, x85, x86, x87, x88, x89, x90, x91, x92, x93, x94, x95, x96, x97, x98, x99, x100, x101, x102, x103, x104, x105, x106, x107, x108, x109, x110, x111, x112, x113, x114, x115, x116, x117, x118, x119, x120, x121, x122, x123, x124, x125, x126, x127, x128, x129, x130, x131, x132, x133, x134, x135, x136, x137, x138, x139, x140, x141, x142, x143, x144, x145, x146, x147, x148, x149, x150, x151, x152, x153, x154, x155, x156, x157, x158, x159, x160], defers := [] } W := by
    intro W DD hB hDD iD
    refine wpAnyH_ready (by kernel_rfl) (by simp) (AllReadyH.cons (i := 13) (at_nth rfl) ?_ (AllReadyH.nil))
    · have kB := belowRow hB hDD #[.string C, .int .i64 p]
      refine arm10_skip (by kernel_rfl) (run_row10 (ty := 24) (x := .tmp 6) (y := .tmp 28) (cs := #[.string C, .int .i64 p]) (by kernel_rfl) (by kernel_rfl) (by kernel_rfl) iD infoCur10 rfl (by rw [← Array.all_toList]; rfl)) kB ?_
      try simp only [Act.put]
      have iE := iD.row #[.string C, .int .i64 p]
      replace hB := kB
      exact ST10_12_13 _ _ hB hDD iE
  have ST10 : ∀ (W : World), Below W0.heap.size W0 W → wpAnyH Try.prog .any (opsOf Try.f8 2) Q (fun W => Below W0.heap.size W0 W) 2 #[true, true, true, true, true, true, true, true, true, true, true, true, false, false] { tmps := #[.string s, .int .i64 at_, x2, x3, x4, x5, x6, x7, x8, x9, x10, x11, x12, x13, x14, x15, x16, .string s, .string s, .int .i64 (s.size : Int), .int .i64 (min (s.size : Int) 500), .string C, .int .i64 at_, .string s, .int .i64 (s.size : Int), .int .i64 (min (s.size : Int) 500), .int .i64 (min (s.size : Int) 500 + 1), .int .i64 p, .agg #[.string C, .int .i64 p], x29, x30, x31, x32, x33, x34, x35, x36, x37, x38, x39, x40, x41, x42, x43, x44, x45, x46, x47, x48, x49, x50, x51, x52, x53, x54, x55, x56, x57, x58, x59, x60, x61, x62, x63, x64, x65, x66, x67, x68, x69, x70, x71, x72, x73, x74, x75, x76, x77, x78, x79, x80, x81, x82, x83, x84, x85, x86, x87, x88, x89, x90, x91, x92, x93, x94, x95, x96, x97, x98, x99, x100, x101, x102, x103, x104, x105, x106, x107, x108, x109, x110, x111, x112, x113, x114, x115, x116, x117, x118, x119, x120, x121, x122, x123, x124, x125, x126, x127, x128, x129, x130, x131, x132, x133, x134, x135, x136, x137, x138, x139, x140, x141, x142, x143, x144, x145, x146, x147, x148, x149, x150, x151, x152, x153, x154, x155, x156, x157, x158, x159, x160], defers := [] } W := by
    intro W hB
    refine wpAnyH_ready (by kernel_rfl) (by simp) (AllReadyH.cons (i := 12) (at_nth rfl) ?_ (AllReadyH.nil))
    · have iD := Is.new W 24 #[.string ⟨#[]⟩, .int .i64 0]
      have hDD : W0.heap.size ≤ W.heap.size := hB.size
      replace hB := hB.alloc hB.size (.cells #[.string ⟨#[]⟩, .int .i64 0] 24)
      refine arm10_value (by kernel_rfl) (run_allocC10 _ (by kernel_rfl)) hB ?_
      simp only [Act.put, List.setIfInBounds_toArray, List.set_cons_succ, List.set_cons_zero]
      exact ST10_12 _ _ hB hDD iD
  have ST12 : ∀ (W : World) (DD : Nat), Below W0.heap.size W0 W → W0.heap.size ≤ DD → Is W DD 24 #[.string ⟨#[]⟩, .int .i64 0] → wpAnyH Try.prog .any (opsOf Try.f8 2) Q (fun W => Below W0.heap.size W0 W) 3 #[true, true, true, true, true, true, true, true, true, true, false, false, true, false] { tmps := #[.string s, .int .i64 at_, x2, x3, x4, x5, .pointer (some ⟨DD, 0, none⟩), x7, x8, x9, x10, x11, x12, x13, x14, x15, x16, .string s, .string s, .int .i64 (s.size : Int), .int .i64 (min (s.size : Int) 500), .string C, .int .i64 at_, .string s, .int .i64 (s.size : Int), .int .i64 (min (s.size : Int) 500), .int .i64 (min (s.size : Int) 500 + 1), x27, x28, x29, x30, x31, x32, x33, x34, x35, x36, x37, x38, x39, x40, x41, x42, x43, x44, x45, x46, x47, x48, x49, x50, x51, x52, x53, x54, x55, x56, x57, x58, x59, x60, x61, x62, x63, x64, x65, x66, x67, x68, x69, x70, x71, x72, x73, x74, x75, x76, x77, x78, x79, x80, x81, x82, x83, x84, x85, x86, x87, x88, x89, x90, x91, x92, x93, x94, x95, x96, x97, x98, x99, x100, x101, x102, x103, x104, x105, x106, x107, x108, x109, x110, x111, x112, x113, x114, x115, x116, x117, x118, x119, x120, x121, x122, x123, x124, x125, x126, x127, x128, x129, x130, x131, x132, x133, x134, x135, x136, x137, x138, x139, x140, x141, x142, x143, x144, x145, x146, x147, x148, x149, x150, x151, x152, x153, x154, x155, x156, x157, x158, x159, x160], defers := [] } W := by
    intro W DD hB hDD iD
    refine wpAnyH_ready (by kernel_rfl) (by simp) (AllReadyH.cons (i := 10) (at_nth rfl) ?_ (AllReadyH.nil))
    · refine arm10_call (by kernel_rfl) (fun wy => by kernel_rfl) ((PK.out _).mono ?_)
      rintro e Wn ⟨rfl, rfl⟩
      refine ⟨_, rfl, hB, ?_⟩
      simp only [Act.put, List.setIfInBounds_toArray, List.set_cons_succ, List.set_cons_zero]
      refine wpAnyH_pure (i := 11) (v := .agg #[.string C, .int .i64 p]) (at_nth rfl) (by kernel_rfl) (by kernel_rfl) (by kernel_rfl) (fun _ _ _ h => absurd h (HQN _ _ _)) (by kernel_rfl) (fun w hSw => by go_simp) hB ?_
      simp only [Act.put, List.setIfInBounds_toArray, List.set_cons_succ, List.set_cons_zero]
      exact ST10_12 _ _ hB hDD iD
  have ST : ∀ (W : World), Below W0.heap.size W0 W → wpAnyH Try.prog .any (opsOf Try.f8 2) Q (fun W => Below W0.heap.size W0 W) 4 #[true, true, true, true, true, true, true, true, true, true, false, false, false, false] { tmps := #[.string s, .int .i64 at_, x2, x3, x4, x5, x6, x7, x8, x9, x10, x11, x12, x13, x14, x15, x16, .string s, .string s, .int .i64 (s.size : Int), .int .i64 (min (s.size : Int) 500), .string C, .int .i64 at_, .string s, .int .i64 (s.size : Int), .int .i64 (min (s.size : Int) 500), .int .i64 (min (s.size : Int) 500 + 1), x27, x28, x29, x30, x31, x32, x33, x34, x35, x36, x37, x38, x39, x40, x41, x42, x43, x44, x45, x46, x47, x48, x49, x50, x51, x52, x53, x54, x55, x56, x57, x58, x59, x60, x61, x62, x63, x64, x65, x66, x67, x68, x69, x70, x71, x72, x73, x74, x75, x76, x77, x78, x79, x80, x81, x82, x83, x84, x85, x86, x87, x88, x89, x90, x91, x92, x93, x94, x95, x96, x97, x98, x99, x100, x101, x102, x103, x104, x105, x106, x107, x108, x109, x110, x111, x112, x113, x114, x115, x116, x117, x118, x119, x120, x121, x122, x123, x124, x125, x126, x127, x128, x129, x130, x131, x132, x133, x134, x135, x136, x137, x138, x139, x140, x141, x142, x143, x144, x145, x146, x147, x148, x149, x150, x151, x152, x153, x154, x155, x156, x157, x158, x159, x160], defers := [] } W := by
    intro W hB
    refine wpAnyH_ready (by kernel_rfl) (by simp) (AllReadyH.cons (i := 10) (at_nth rfl) ?_ (AllReadyH.cons (i := 12) (at_nth rfl) ?_ (AllReadyH.nil)))
    · refine arm10_call (by kernel_rfl) (fun wy => by kernel_rfl) ((PK.out _).mono ?_)
      rintro e Wn ⟨rfl, rfl⟩
      refine ⟨_, rfl, hB, ?_⟩
      simp only [Act.put, List.setIfInBounds_toArray, List.set_cons_succ, List.set_cons_zero]
      refine wpAnyH_pure (i := 11) (v := .agg #[.string C, .int .i64 p]) (at_nth rfl) (by kernel_rfl) (by kernel_rfl) (by kernel_rfl) (fun _ _ _ h => absurd h (HQN _ _ _)) (by kernel_rfl) (fun w hSw => by go_simp) hB ?_
      simp only [Act.put, List.setIfInBounds_toArray, List.set_cons_succ, List.set_cons_zero]
      exact ST10 _ hB
    · have iD := Is.new W 24 #[.string ⟨#[]⟩, .int .i64 0]
      have hDD : W0.heap.size ≤ W.heap.size := hB.size
      replace hB := hB.alloc hB.size (.cells #[.string ⟨#[]⟩, .int .i64 0] 24)
      refine arm10_value (by kernel_rfl) (run_allocC10 _ (by kernel_rfl)) hB ?_
      simp only [Act.put, List.setIfInBounds_toArray, List.set_cons_succ, List.set_cons_zero]
      exact ST12 _ _ hB hDD iD
  refine wp_region_held_drew (S := fun W => Below W0.heap.size W0 W) (by kernel_rfl) hB (fun hS => ?_)
  change wpAnyH _ _ (opsOf Try.f8 2) _ _ 14 (Array.replicate 14 false) _ (W0.drewN 1)
  clear hS
  replace hB : Below W0.heap.size W0 (W0.drewN 1) := belowN (Below.refl _ _) 1
  refine wpAnyH_pure (i := 0) (v := .string s) (at_nth rfl) (by kernel_rfl) (by kernel_rfl) (by kernel_rfl) (fun _ _ _ h => absurd h (HQN _ _ _)) (by kernel_rfl) (fun w hSw => by kernel_rfl) hB ?_
  simp only [Act.put, List.setIfInBounds_toArray, List.set_cons_succ, List.set_cons_zero]
  refine wpAnyH_pure (i := 1) (v := .string s) (at_nth rfl) (by kernel_rfl) (by kernel_rfl) (by kernel_rfl) (fun _ _ _ h => absurd h (HQN _ _ _)) (by kernel_rfl) (fun w hSw => by kernel_rfl) hB ?_
  simp only [Act.put, List.setIfInBounds_toArray, List.set_cons_succ, List.set_cons_zero]
  refine wpAnyH_pure (i := 2) (v := .int .i64 (s.size : Int)) (at_nth rfl) (by kernel_rfl) (by kernel_rfl) (by kernel_rfl) (fun _ _ _ h => absurd h (HQN _ _ _)) (by kernel_rfl) (fun w hSw => by go_simp) hB ?_
  simp only [Act.put, List.setIfInBounds_toArray, List.set_cons_succ, List.set_cons_zero]
  refine wpAnyH_pure (i := 3) (v := .int .i64 (min (s.size : Int) 500)) (at_nth rfl) (by kernel_rfl) (by kernel_rfl) (by kernel_rfl) (fun _ _ _ h => absurd h (HQN _ _ _)) (by kernel_rfl) (fun w hSw => by go_simp) hB ?_
  simp only [Act.put, List.setIfInBounds_toArray, List.set_cons_succ, List.set_cons_zero]
  refine wpAnyH_pure (i := 4) (v := .string C) (at_nth rfl) (by kernel_rfl) (by kernel_rfl) (by kernel_rfl) (fun _ _ _ h => absurd h (HQN _ _ _)) (by kernel_rfl) (fun w hSw => by (have hs1 := HSL.out; go_simp)) hB ?_
  simp only [Act.put, List.setIfInBounds_toArray, List.set_cons_succ, List.set_cons_zero]
  refine wpAnyH_pure (i := 5) (v := .int .i64 at_) (at_nth rfl) (by kernel_rfl) (by kernel_rfl) (by kernel_rfl) (fun _ _ _ h => absurd h (HQN _ _ _)) (by kernel_rfl) (fun w hSw => by kernel_rfl) hB ?_
  simp only [Act.put, List.setIfInBounds_toArray, List.set_cons_succ, List.set_cons_zero]
  refine wpAnyH_pure (i := 6) (v := .string s) (at_nth rfl) (by kernel_rfl) (by kernel_rfl) (by kernel_rfl) (fun _ _ _ h => absurd h (HQN _ _ _)) (by kernel_rfl) (fun w hSw => by kernel_rfl) hB ?_
  simp only [Act.put, List.setIfInBounds_toArray, List.set_cons_succ, List.set_cons_zero]
  refine wpAnyH_pure (i := 7) (v := .int .i64 (s.size : Int)) (at_nth rfl) (by kernel_rfl) (by kernel_rfl) (by kernel_rfl) (fun _ _ _ h => absurd h (HQN _ _ _)) (by kernel_rfl) (fun w hSw => by go_simp) hB ?_
  simp only [Act.put, List.setIfInBounds_toArray, List.set_cons_succ, List.set_cons_zero]
  refine wpAnyH_pure (i := 8) (v := .int .i64 (min (s.size : Int) 500)) (at_nth rfl) (by kernel_rfl) (by kernel_rfl) (by kernel_rfl) (fun _ _ _ h => absurd h (HQN _ _ _)) (by kernel_rfl) (fun w hSw => by go_simp) hB ?_
  simp only [Act.put, List.setIfInBounds_toArray, List.set_cons_succ, List.set_cons_zero]
  refine wpAnyH_pure (i := 9) (v := .int .i64 (min (s.size : Int) 500 + 1)) (at_nth rfl) (by kernel_rfl) (by kernel_rfl) (by kernel_rfl) (fun _ _ _ h => absurd h (HQN _ _ _)) (by kernel_rfl) (fun w hSw => by (have w1 := HW.out; go_simp)) hB ?_
  simp only [Act.put, List.setIfInBounds_toArray, List.set_cons_succ, List.set_cons_zero]
  exact ST _ hB

set_option maxRecDepth 100000 in
set_option maxHeartbeats 8000000 in
theorem cstays_walk (s : ByteArray) (at_ : Int) (w : World) (hs : s.size ≤ maxLen) (ha : -9223372036854775808 ≤ at_ ∧ at_ ≤ 9223372036854775807) :
    Calls Try.prog 8 #[.string s, .int .i64 at_] w fun e w' => e = .returned (.bool true) ∧ Below w.heap.size w w' := by
  unfold maxLen at hs
  have AW := Lib.hid awake10_any
  have PK := Lib.hid (fun W => pick10_any at_ (min (s.size : Int) 500 + 1) W ha.1 ha.2 (by omega) (by omega))
  have hp := pickN_bd at_ (min (s.size : Int) 500 + 1) (by omega)
  generalize pickN at_ (min (s.size : Int) 500 + 1) = p at *
  have HW := Lib.hid (IntWalk.i64_in (min (s.size : Int) 500 + 1) (by omega))
  have HSL := Lib.hid (show ∀ wx : World, (Instr.slice 9 (.string s) none (some (.int .i64 (min (s.size : Int) 500))) none).run Try.prog wx = .ok (.string (cut10 500 s)) wx from fun wx => run_cut10 500 s wx)
  have hcs := cut_size10 500 s
  generalize cut10 500 s = C at *
  have hC : C.size ≤ 500 := by omega
  have hp2 : 0 ≤ p ∧ p ≤ (C.size : Int) := by omega
  clear hcs hp ha
  have CN := Lib.hid (fun W => cn_any10 C p W)
  have CT := Lib.hid (fun W => ct_any10 C p W)
  have CL := Lib.hid (fun W => cl_any10 C p W)
  have hcase : ((∃ e, e ≠ 0 ∧ tnV10 C p = (0, p, e) ∧ ttV10 C p = (⟨#[]⟩, p, e) ∧ tlV10 C p = ([], p, e)) ∨
      ∃ n, tnV10 C p = (n, p + 4, 0) ∧ ((∃ x, ttV10 C p = (x, p + 4 + (x.size : Int), 0) ∧ p + 4 + (x.size : Int) ≤ (C.size : Int)) ∨ ∃ e, e ≠ 0 ∧ ttV10 C p = (⟨#[]⟩, p, e)) ∧
        ((∃ (l : List ByteArray) (q : Int), tlV10 C p = (l, q, 0) ∧ p + 4 + 4 * (l.length : Int) ≤ q ∧ q ≤ (C.size : Int)) ∨ ∃ e, e ≠ 0 ∧ tlV10 C p = ([], p, e))) := by
    by_cases h : (tnV10 C p).2.2 = 0
    · right
      obtain ⟨hN, hb⟩ := tn_ok10 h
      refine ⟨(tnV10 C p).1, Prod.ext rfl (Prod.ext hb h), ?_, ?_⟩
      · by_cases ht : (ttV10 C p).2.2 = 0
        · have hT := tt_ok10 ht
          exact .inl ⟨(ttV10 C p).1, Prod.ext rfl (Prod.ext hT.to ht), by have h1 := hT.right.2.2; rw [hT.to] at h1; exact h1⟩
        · exact .inr ⟨_, ht, tt_keep10 ht⟩
      · by_cases ht : (tlV10 C p).2.2 = 0
        · have hT := tl_ok10 ht
          exact .inl ⟨_, _, Prod.ext rfl (Prod.ext rfl ht), hT.ahead, hT.right.2.2⟩
        · exact .inr ⟨_, ht, tl_keep10 ht⟩
    · left
      refine ⟨_, h, tn_keep10 h, tt_num10 h, ?_⟩
      rw [tlV10, if_neg h]
  go_enter Try.func8, Try.ntmps8
  go_wp2_with fail
  refine (AW.out _).mono ?_
  rintro e W1 ⟨rfl, hB1⟩
  go_wp2
  refine Code.wp_mono ?_ (stays10_cur _ s C at_ p HW HSL PK _ _ _ _ _ _ _ _ _ _ _ _ _ _ _ _ _ _ _ _ _ _ _ _ _ _ _ _ _ _ _ _ _ _ _ _ _ _ _ _ _ _ _ _ _ _ _ _ _ _ _ _ _ _ _ _ _ _ _ _ _ _ _ _ _ _ _ _ _ _ _ _ _ _ _ _ _ _ _ _ _ _ _ _ _ _ _ _ _ _ _ _ _ _ _ _ _ _ _ _ _ _ _ _ _ _ _ _ _ _ _ _ _ _ _ _ _ _ _ _ _ _ _ _ _ _ _ _ _ _ _ _ _ _ _ _ _ _ _ _ _ _ _ _ _ _ _ _ _ _ _ _ _ _ _ _ _ _ _)
  rintro e YY W2 ⟨rfl, hd, DD, hT0, hb, hDD, iD⟩
  obtain ⟨T0, Dd⟩ := YY
  subst hT0
  obtain rfl : Dd = [] := hd
  have hB2 := hB1.trans (hb.mono hB1.size)
  have hDw : w.heap.size ≤ DD := by have := hB1.size; omega
  clear hb hDD hB1 PK HW HSL
  rw [tnR10] at CN
  rw [ttR10] at CT
  simp only [tlR10] at CL
  obtain ⟨nv, np, ne, hnv⟩ : ∃ a b c, tnV10 C p = (a, b, c) := ⟨_, _, _, rfl⟩
  obtain ⟨tv, tp, te, htv⟩ : ∃ a b c, ttV10 C p = (a, b, c) := ⟨_, _, _, rfl⟩
  obtain ⟨lv, lp, le, hlv⟩ : ∃ a b c, tlV10 C p = (a, b, c) := ⟨_, _, _, rfl⟩
  rw [hnv, htv, hlv] at hcase
  rw [hnv] at CN
  rw [htv] at CT
  simp only [hlv] at CL
  have HCASE := Lib.hid hcase
  clear hcase hnv htv hlv
  have d0 : W2.cell? ⟨DD, 0, none⟩ = some (.string C) := iD.cell 0
  have d1 : W2.cell? ⟨DD, 1, none⟩ = some (.int .i64 p) := iD.cell 1
  go_wp2_with fail
  clear d0 d1
  refine (CN.out _).mono ?_
  rintro e W3 ⟨rfl, hb⟩
  have iD3 := (iD.below hb iD.lt).alloc (.cells #[.string C, .int .i64 np] 24)
  have iN3 := Is.new W3 24 #[.string C, .int .i64 np]
  have hB3a := hB2.trans (hb.mono hB2.size)
  have hB3 := hB3a.alloc hB3a.size (.cells #[.string C, .int .i64 np] 24)
  have HQ1 := Lib.hid (show DD < W3.heap.size from (iD.below hb iD.lt).lt)
  clear hb hB2 iD hB3a
  have d0 : (W3.alloc (.cells #[.string C, .int .i64 np] 24)).cell? ⟨DD, 0, none⟩ = some (.string C) := iD3.cell 0
  have d1 : (W3.alloc (.cells #[.string C, .int .i64 np] 24)).cell? ⟨DD, 1, none⟩ = some (.int .i64 p) := iD3.cell 1
  go_wp2_with fail
  clear d0 d1
  generalize W3.alloc (.cells #[.string C, .int .i64 np] 24) = W4 at *
  generalize W3.heap.size = bN at *
  refine (CT.out _).mono ?_
  rintro e W5 ⟨rfl, hb⟩
  have iD5 := (iD3.below hb iD3.lt).alloc (.cells #[.string C, .int .i64 tp] 24)
  have iN5 := (iN3.below hb iN3.lt).alloc (.cells #[.string C, .int .i64 tp] 24)
  have iX5 := Is.new W5 24 #[.string C, .int .i64 tp]
  have hB5a := hB3.trans (hb.mono hB3.size)
  have hB5 := hB5a.alloc hB5a.size (.cells #[.string C, .int .i64 tp] 24)
  clear hb hB3 iD3 iN3 hB5a
  have d0 : (W5.alloc (.cells #[.string C, .int .i64 tp] 24)).cell? ⟨DD, 0, none⟩ = some (.string C) := iD5.cell 0
  have d1 : (W5.alloc (.cells #[.string C, .int .i64 tp] 24)).cell? ⟨DD, 1, none⟩ = some (.int .i64 p) := iD5.cell 1
  go_wp2_with fail
  clear d0 d1
  generalize W5.alloc (.cells #[.string C, .int .i64 tp] 24) = W6 at *
  generalize W5.heap.size = bX at *
  refine (CL.out _).mono ?_
  rintro e W7 ⟨A', c', rfl, _, hb⟩
  rename ∀ (a : Act) (w : World), Code.wp _ _ _ a w → _ => hK1
  have HK1 := Lib.hid hK1
  clear hK1
  have iD7 := (iD5.below hb iD5.lt).alloc (.cells #[.string C, .int .i64 lp] 24)
  have iN7 := (iN5.below hb iN5.lt).alloc (.cells #[.string C, .int .i64 lp] 24)
  have iX7 := (iX5.below hb iX5.lt).alloc (.cells #[.string C, .int .i64 lp] 24)
  have iL7 := Is.new W7 24 #[.string C, .int .i64 lp]
  have hB7a := hB5.trans (hb.mono hB5.size)
  have hB7 := hB7a.alloc hB7a.size (.cells #[.string C, .int .i64 lp] 24)
  clear hb hB5 iD5 iN5 iX5 hB7a
  have HB := Lib.hid hB7
  clear hB7
  go_wp2_with fail
  have hLl : W7.heap.size < W7.heap.size + 1 := by omega
  obtain ⟨bL, hbL⟩ : ∃ bL, bL = W7.heap.size := ⟨_, rfl⟩
  obtain ⟨W8, hW8⟩ : ∃ W8, W8 = W7.alloc (.cells #[.string C, .int .i64 lp] 24) := ⟨_, rfl⟩
  rw [← hbL, ← hW8] at iL7 ⊢
  rw [← hW8] at iD7 iN7 iX7 HB
  clear hLl
  obtain ⟨m, hm⟩ : ∃ m, m = lv.length := ⟨_, rfl⟩
  rw [← hm]
  clear hW8 hbL
  have d0 : W8.cell? ⟨DD, 0, none⟩ = some (.string C) := iD7.cell 0
  have d1 : W8.cell? ⟨DD, 1, none⟩ = some (.int .i64 p) := iD7.cell 1
  have n1 : W8.cell? ⟨bN, 1, none⟩ = some (.int .i64 np) := iN7.cell 1
  have x1 : W8.cell? ⟨bX, 1, none⟩ = some (.int .i64 tp) := iX7.cell 1
  have y1 : W8.cell? ⟨bL, 1, none⟩ = some (.int .i64 lp) := iL7.cell 1
  refine HK1.out _ _ ?_
  rcases HCASE.out with ⟨e1, he1, h1, h2, h3⟩ | ⟨n, h1, ⟨x, h2, ht⟩ | ⟨e2, he2, h2⟩, ⟨l, q, h3, hl1, hl2⟩ | ⟨e3, he3, h3⟩⟩
  · obtain ⟨h1a, h1b, h1c⟩ : 0 = nv ∧ p = np ∧ e1 = ne := by simpa [eq_comm] using h1
    subst h1a h1b h1c
    obtain ⟨h2a, h2b, h2c⟩ : ⟨#[]⟩ = tv ∧ p = tp ∧ e1 = te := by simpa [eq_comm] using h2
    subst h2a h2b h2c
    obtain ⟨h3a, h3b, h3c⟩ : [] = lv ∧ p = lp ∧ e1 = le := by simpa [eq_comm] using h3
    subst h3a h3b h3c
    rw [List.length_nil] at hm
    subst hm
    clear HCASE
    refine wp_seq (wp_seq (wp_region_list (stays10_sixA W8 C ⟨#[]⟩ p 0 p e1 e1 e1 0 c' DD bN bX bL A' ⟨hp2.1, by omega⟩ hC iD7 iN7 iX7 iL7 he1 he1 he1 _ _ _ _ _ _ _ _ _ _ _ _ _ _ _ _ _ _ _ _ _ _ _ _ _ _ _ _ _ _ _ _ _ _ _ _ _ _ _ _ _ _ _ _ _ _ _ _ _ _ _ _ _ _ _ _ _ _ _ _ _ _ _ _ _ _ _ _ _ _ _ _ _ _ _ _ _ _ _ _ _ _ _ _ _ _ _ _ _ _ _ _ _ _ _ _ _ _ _ _ _ _ _ _ _ _ _ _ _ _ _ _ _ _ _ _ _ _ _ _ _ _ _ _ _ _ _ _ _ _ _ _ _ _ _ _ _ _ _ _ _ _ _ _ _ _ _ _ _ _ _ ?_)))
    refine wp_cond_false (by kernel_rfl) (wp_skip ?_)
    refine wp_seq (wp_region_list (stays10_eightA W8 C ⟨#[]⟩ p 0 p e1 e1 e1 0 c' DD bN bX bL A' ⟨hp2.1, by omega⟩ hC iD7 iN7 iX7 iL7 he1 he1 he1 _ _ _ _ _ _ _ _ _ _ _ _ _ _ _ _ _ _ _ _ _ _ _ _ _ _ _ _ _ _ _ _ _ _ _ _ _ _ _ _ _ _ _ _ _ _ _ _ _ _ _ _ _ _ _ _ _ _ _ _ _ _ _ _ _ _ _ _ _ _ _ _ _ _ _ _ _ _ _ _ _ _ _ _ _ _ _ _ _ _ _ _ _ _ _ _ _ _ _ _ _ _ _ _ _ _ _ _ _ _ _ _ _ _ _ _ _ _ _ _ _ _ _ _ _ _ _ _ _ _ _ _ _ _ _ _ _ _ _ _ _ _ _ _ _ _ _ _ _ _ _ ?_))
    go_wp2
    go_ret
    exact ⟨rfl, HB.out⟩
  · obtain ⟨h1a, h1b, h1c⟩ : n = nv ∧ p + 4 = np ∧ 0 = ne := by simpa [eq_comm] using h1
    subst h1a h1b h1c
    obtain ⟨h2a, h2b, h2c⟩ : x = tv ∧ p + 4 + (x.size : Int) = tp ∧ 0 = te := by simpa [eq_comm] using h2
    subst h2a h2b h2c
    obtain ⟨h3a, h3b, h3c⟩ : l = lv ∧ q = lp ∧ 0 = le := by simpa [eq_comm] using h3
    subst h3a h3b h3c
    rw [← hm] at hl1
    clear HCASE
    refine wp_seq (wp_seq (wp_region_list (stays10_sixB W8 C x p n q 0 0 0 m c' DD bN bX bL A' ⟨hp2.1, by omega⟩ hC iD7 iN7 iX7 iL7 ht hl1 hl2 _ _ _ _ _ _ _ _ _ _ _ _ _ _ _ _ _ _ _ _ _ _ _ _ _ _ _ _ _ _ _ _ _ _ _ _ _ _ _ _ _ _ _ _ _ _ _ _ _ _ _ _ _ _ _ _ _ _ _ _ _ _ _ _ _ _ _ _ _ _ _ _ _ _ _ _ _ _ _ _ _ _ _ _ _ _ _ _ _ _ _ _ _ _ _ _ _ _ _ _ _ _ _ _ _ _ _ _ _ _ _ _ _ _ _ _ _ _ _ _ _ _ _ _ _ _ _ _ _ _ _ _ _ _ _ _ _ _ _ _ _ _ _ _ _ _ _ _ _ _ _ ?_)))
    refine wp_cond_false (by kernel_rfl) (wp_skip ?_)
    refine wp_seq (wp_region_list (stays10_eightB W8 C x p n q 0 0 0 m c' DD bN bX bL A' ⟨hp2.1, by omega⟩ hC iD7 iN7 iX7 iL7 ht hl1 hl2 _ _ _ _ _ _ _ _ _ _ _ _ _ _ _ _ _ _ _ _ _ _ _ _ _ _ _ _ _ _ _ _ _ _ _ _ _ _ _ _ _ _ _ _ _ _ _ _ _ _ _ _ _ _ _ _ _ _ _ _ _ _ _ _ _ _ _ _ _ _ _ _ _ _ _ _ _ _ _ _ _ _ _ _ _ _ _ _ _ _ _ _ _ _ _ _ _ _ _ _ _ _ _ _ _ _ _ _ _ _ _ _ _ _ _ _ _ _ _ _ _ _ _ _ _ _ _ _ _ _ _ _ _ _ _ _ _ _ _ _ _ _ _ _ _ _ _ _ _ _ _ ?_))
    go_wp2
    go_ret
    exact ⟨rfl, HB.out⟩
  · obtain ⟨h1a, h1b, h1c⟩ : n = nv ∧ p + 4 = np ∧ 0 = ne := by simpa [eq_comm] using h1
    subst h1a h1b h1c
    obtain ⟨h2a, h2b, h2c⟩ : x = tv ∧ p + 4 + (x.size : Int) = tp ∧ 0 = te := by simpa [eq_comm] using h2
    subst h2a h2b h2c
    obtain ⟨h3a, h3b, h3c⟩ : [] = lv ∧ p = lp ∧ e3 = le := by simpa [eq_comm] using h3
    subst h3a h3b h3c
    rw [List.length_nil] at hm
    subst hm
    clear HCASE
    refine wp_seq (wp_seq (wp_region_list (stays10_sixC W8 C x p n p 0 0 e3 0 c' DD bN bX bL A' ⟨hp2.1, by omega⟩ hC iD7 iN7 iX7 iL7 ht he3 _ _ _ _ _ _ _ _ _ _ _ _ _ _ _ _ _ _ _ _ _ _ _ _ _ _ _ _ _ _ _ _ _ _ _ _ _ _ _ _ _ _ _ _ _ _ _ _ _ _ _ _ _ _ _ _ _ _ _ _ _ _ _ _ _ _ _ _ _ _ _ _ _ _ _ _ _ _ _ _ _ _ _ _ _ _ _ _ _ _ _ _ _ _ _ _ _ _ _ _ _ _ _ _ _ _ _ _ _ _ _ _ _ _ _ _ _ _ _ _ _ _ _ _ _ _ _ _ _ _ _ _ _ _ _ _ _ _ _ _ _ _ _ _ _ _ _ _ _ _ _ ?_)))
    refine wp_cond_false (by kernel_rfl) (wp_skip ?_)
    refine wp_seq (wp_region_list (stays10_eightC W8 C x p n p 0 0 e3 0 c' DD bN bX bL A' ⟨hp2.1, by omega⟩ hC iD7 iN7 iX7 iL7 ht he3 _ _ _ _ _ _ _ _ _ _ _ _ _ _ _ _ _ _ _ _ _ _ _ _ _ _ _ _ _ _ _ _ _ _ _ _ _ _ _ _ _ _ _ _ _ _ _ _ _ _ _ _ _ _ _ _ _ _ _ _ _ _ _ _ _ _ _ _ _ _ _ _ _ _ _ _ _ _ _ _ _ _ _ _ _ _ _ _ _ _ _ _ _ _ _ _ _ _ _ _ _ _ _ _ _ _ _ _ _ _ _ _ _ _ _ _ _ _ _ _ _ _ _ _ _ _ _ _ _ _ _ _ _ _ _ _ _ _ _ _ _ _ _ _ _ _ _ _ _ _ _ ?_))
    go_wp2
    go_ret
    exact ⟨rfl, HB.out⟩
  · obtain ⟨h1a, h1b, h1c⟩ : n = nv ∧ p + 4 = np ∧ 0 = ne := by simpa [eq_comm] using h1
    subst h1a h1b h1c
    obtain ⟨h2a, h2b, h2c⟩ : ⟨#[]⟩ = tv ∧ p = tp ∧ e2 = te := by simpa [eq_comm] using h2
    subst h2a h2b h2c
    obtain ⟨h3a, h3b, h3c⟩ : l = lv ∧ q = lp ∧ 0 = le := by simpa [eq_comm] using h3
    subst h3a h3b h3c
    rw [← hm] at hl1
    clear HCASE
    refine wp_seq (wp_seq (wp_region_list (stays10_sixD W8 C ⟨#[]⟩ p n q 0 e2 0 m c' DD bN bX bL A' ⟨hp2.1, by omega⟩ hC iD7 iN7 iX7 iL7 he2 hl1 hl2 _ _ _ _ _ _ _ _ _ _ _ _ _ _ _ _ _ _ _ _ _ _ _ _ _ _ _ _ _ _ _ _ _ _ _ _ _ _ _ _ _ _ _ _ _ _ _ _ _ _ _ _ _ _ _ _ _ _ _ _ _ _ _ _ _ _ _ _ _ _ _ _ _ _ _ _ _ _ _ _ _ _ _ _ _ _ _ _ _ _ _ _ _ _ _ _ _ _ _ _ _ _ _ _ _ _ _ _ _ _ _ _ _ _ _ _ _ _ _ _ _ _ _ _ _ _ _ _ _ _ _ _ _ _ _ _ _ _ _ _ _ _ _ _ _ _ _ _ _ _ _ ?_)))
    refine wp_cond_false (by kernel_rfl) (wp_skip ?_)
    refine wp_seq (wp_region_list (stays10_eightD W8 C ⟨#[]⟩ p n q 0 e2 0 m c' DD bN bX bL A' ⟨hp2.1, by omega⟩ hC iD7 iN7 iX7 iL7 he2 hl1 hl2 _ _ _ _ _ _ _ _ _ _ _ _ _ _ _ _ _ _ _ _ _ _ _ _ _ _ _ _ _ _ _ _ _ _ _ _ _ _ _ _ _ _ _ _ _ _ _ _ _ _ _ _ _ _ _ _ _ _ _ _ _ _ _ _ _ _ _ _ _ _ _ _ _ _ _ _ _ _ _ _ _ _ _ _ _ _ _ _ _ _ _ _ _ _ _ _ _ _ _ _ _ _ _ _ _ _ _ _ _ _ _ _ _ _ _ _ _ _ _ _ _ _ _ _ _ _ _ _ _ _ _ _ _ _ _ _ _ _ _ _ _ _ _ _ _ _ _ _ _ _ _ ?_))
    go_wp2
    go_ret
    exact ⟨rfl, HB.out⟩
  · obtain ⟨h1a, h1b, h1c⟩ : n = nv ∧ p + 4 = np ∧ 0 = ne := by simpa [eq_comm] using h1
    subst h1a h1b h1c
    obtain ⟨h2a, h2b, h2c⟩ : ⟨#[]⟩ = tv ∧ p = tp ∧ e2 = te := by simpa [eq_comm] using h2
    subst h2a h2b h2c
    obtain ⟨h3a, h3b, h3c⟩ : [] = lv ∧ p = lp ∧ e3 = le := by simpa [eq_comm] using h3
    subst h3a h3b h3c
    rw [List.length_nil] at hm
    subst hm
    clear HCASE
    refine wp_seq (wp_seq (wp_region_list (stays10_sixE W8 C ⟨#[]⟩ p n p 0 e2 e3 0 c' DD bN bX bL A' ⟨hp2.1, by omega⟩ hC iD7 iN7 iX7 iL7 he2 he3 _ _ _ _ _ _ _ _ _ _ _ _ _ _ _ _ _ _ _ _ _ _ _ _ _ _ _ _ _ _ _ _ _ _ _ _ _ _ _ _ _ _ _ _ _ _ _ _ _ _ _ _ _ _ _ _ _ _ _ _ _ _ _ _ _ _ _ _ _ _ _ _ _ _ _ _ _ _ _ _ _ _ _ _ _ _ _ _ _ _ _ _ _ _ _ _ _ _ _ _ _ _ _ _ _ _ _ _ _ _ _ _ _ _ _ _ _ _ _ _ _ _ _ _ _ _ _ _ _ _ _ _ _ _ _ _ _ _ _ _ _ _ _ _ _ _ _ _ _ _ _ ?_)))
    refine wp_cond_false (by kernel_rfl) (wp_skip ?_)
    refine wp_seq (wp_region_list (stays10_eightE W8 C ⟨#[]⟩ p n p 0 e2 e3 0 c' DD bN bX bL A' ⟨hp2.1, by omega⟩ hC iD7 iN7 iX7 iL7 he2 he3 _ _ _ _ _ _ _ _ _ _ _ _ _ _ _ _ _ _ _ _ _ _ _ _ _ _ _ _ _ _ _ _ _ _ _ _ _ _ _ _ _ _ _ _ _ _ _ _ _ _ _ _ _ _ _ _ _ _ _ _ _ _ _ _ _ _ _ _ _ _ _ _ _ _ _ _ _ _ _ _ _ _ _ _ _ _ _ _ _ _ _ _ _ _ _ _ _ _ _ _ _ _ _ _ _ _ _ _ _ _ _ _ _ _ _ _ _ _ _ _ _ _ _ _ _ _ _ _ _ _ _ _ _ _ _ _ _ _ _ _ _ _ _ _ _ _ _ _ _ _ _ ?_))
    go_wp2
    go_ret
    exact ⟨rfl, HB.out⟩
end Go.Proofs.Ytploljgamimlpaa
