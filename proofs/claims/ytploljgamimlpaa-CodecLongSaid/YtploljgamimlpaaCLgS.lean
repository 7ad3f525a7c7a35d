/-
  CodecLong: its drawn region.
-/
import Derived.Test.YtploljgamimlpaaCLgP
namespace Go.Proofs.Ytploljgamimlpaa
open Go.RowKit Go.Shelf

set_option maxRecDepth 100000 in
set_option maxHeartbeats 8000000 in
theorem long10_take (W0 : World) (n : Int) (m q : Nat) (lp le : Int) (hn : 0 ≤ n ∧ n ≤ 2000) (hm : m ≤ 2000000) (HM : Hid (4 * n = (m : Int))) (HU1 : Hid (IntKind.u8.wrap (n / 256) = n / 256)) (HU2 : Hid (IntKind.u8.wrap (n % 256) = n % 256)) (HQ : Hid (¬ 9223372036854775807 < (num10 n).size + (nulN10 m).size))
    (CL : Hid (∀ W, Calls Try.prog 24 #[.agg #[.string (num10 n ++ nulN10 m), .int .i64 0]] W fun e w' => ∃ A c, e = .returned (.tuple #[.slice A q c, .agg #[.string (num10 n ++ nulN10 m), .int .i64 lp], .int .i64 le]) ∧ True ∧ Below W.heap.size W w')) (x0 x1 x2 x3 x4 x5 x7 x8 x9 x10 x11 x12 x13 x14 x15 x16 x17 x18 x19 x20 x21 x22 x23 x24 x25 x26 x27 x28 x29 x30 x31 x32 x33 x34 x35 x36 x37 x38 x39 x40 x41 x42 x43 x44 x45 x46 x47 x48 x49 x50 x51 x52 x53 x54 x55 x56 x57 x58 x59 x60 x61 x62 x63 x64 x65 x66 x67 x68 x69 x70 x71 x72 x73 x74 x75 x76 x77 x78 x79 x80 x81 x82 x83 x84 x85 x86 x87 x88 x89 x90 x91 x92 x93 x94 x95 x96 x97 x98 x99 x100 x101 x102 x103 x104 x105 x106 x107 x108 x109 x110 x111 x112 x113 x114 x115 x116 x117 x118 x119 x120 x121 x122 x123 x124 x125 x126 x127 x128 x129 x130 x131 x132 x133 x134 x135 x136 x137 x138 x139 x140 x141 x142 x143 x144 x145 x146 x147 x148 x149 x150 x151 x152 x153 x154 x155 x156 x157 x158 x159 x160 : Value) :
    (Code.region 7 (opsOf Try.f6 7) true).wp Try.prog (fun ex YY W => ex = .normal ∧ YY.defers = [] ∧ ∃ (DB : Nat) (DN : Nat) (A' : Option Addr) (c' : Nat) (DD : Nat), YY.tmps = #[x0, x1, x2, x3, x4, x5, .int .i64 n, x7, x8, x9, x10, x11, x12, x13, .slice A' q c', .pointer (some ⟨DD, 0, none⟩), .int .i64 le, x17, x18, x19, x20, x21, x22, x23, x24, x25, x26, x27, x28, x29, x30, x31, x32, x33, x34, x35, x36, x37, x38, x39, x40, x41, x42, x43, x44, x45, x46, x47, .tuple #[.slice A' q c', .agg #[.string (num10 n ++ nulN10 m), .int .i64 lp], .int .i64 le], .int .i64 n, .int .i64 (n / 256), .int .u8 (n / 256), .int .i64 n, .int .i64 (n % 256), .int .u8 (n % 256), .slice (some ⟨DB, 0, none⟩) 4 4, .string (num10 n), .int .i64 n, .int .i64 (m : Int), .slice (some ⟨DN, 0, none⟩) m m, .string (nulN10 m), .string (num10 n ++ nulN10 m), .agg #[.string (num10 n ++ nulN10 m), .int .i64 0], .tuple #[.slice A' q c', .agg #[.string (num10 n ++ nulN10 m), .int .i64 lp], .int .i64 le], .slice A' q c', .agg #[.string (num10 n ++ nulN10 m), .int .i64 lp], .int .i64 le, x67, x68, x69, x70, x71, x72, x73, x74, x75, x76, x77, x78, x79, x80, x81, x82, x83, x84, x85, x86, x87, x88, x89, x90, x91, x92, x93, x94, x95, x96, x97, x98, x99, x100, x101, x102, x103, x104, x105, x106, x107, x108, x109, x110, x111, x112, x113, x114, x115, x116, x117, x118, x119, x120, x121, x122, x123, x124, x125, x126, x127, x128, x129, x130, x131, x132, x133, x134, x135, x136, x137, x138, x139, x140, x141, x142, x143, x144, x145, x146, x147, x148, x149, x150, x151, x152, x153, x154, x155, x156, x157, x158, x159, x160] ∧ Below W0.heap.size W0 W ∧ W0.heap.size ≤ DD) { tmps := #[x0, x1, x2, x3, x4, x5, .int .i64 n, x7, x8, x9, x10, x11, x12, x13, x14, x15, x16, x17, x18, x19, x20, x21, x22, x23, x24, x25, x26, x27, x28, x29, x30, x31, x32, x33, x34, x35, x36, x37, x38, x39, x40, x41, x42, x43, x44, x45, x46, x47, x48, x49, x50, x51, x52, x53, x54, x55, x56, x57, x58, x59, x60, x61, x62, x63, x64, x65, x66, x67, x68, x69, x70, x71, x72, x73, x74, x75, x76, x77, x78, x79, x80, x81, x82, x83, x84, x85, x86, x87, x88, x89, x90, x91, x92, x93, x94, x95, x96, x97, x98, x99, x100, x101, x102, x103, x104, x105, x106, x107, x108, x109, x110, x111, x112, x113, x114, x115, x116, x117, x118, x119, x120, x121, x122, x123, x124, x125, x126, x127, x128, x129, x130, x131, x132, x133, x134, x135, x136, x137, x138, x139, x140, x141, x142, x143, x144, x145, x146, x147, x148, x149, x150, x151, x152, x153, x154, x155, x156, x157, x158, x159, x160], defers := [] } W0 := by
  have hB : Below W0.heap.size W0 (W0.drewN 1) := belowN (Below.refl _ _) 1
  generalize hQ : (fun (ex : Exit) (YY : Act) (W : World) => ex = .normal ∧ YY.defers = [] ∧ ∃ (DB : Nat) (DN : Nat) (A' : Option Addr) (c' : Nat) (DD : Nat), YY.tmps = #[x0, x1, x2, x3, x4, x5, .int .i64 n, x7, x8, x9, x10, x11, x12, x13, .slice A' q c', .pointer (some ⟨DD, 0, none⟩), .int .i64 le, x17, x18, x19, x20, x21, x22, x23, x24, x25, x26, x27, x28, x29, x30, x31, x32, x33, x34, x35, x36, x37, x38, x39, x40, x41, x42, x43, x44, x45, x46, x47, .tuple #[.slice A' q c', .agg #[.string (num10 n ++ nulN10 m), .int .i64 lp], .int .i64 le], .int .i64 n, .int .i64 (n / 256), .int .u8 (n / 256), .int .i64 n, .int .i64 (n % 256), .int .u8 (n % 256), .slice (some ⟨DB, 0, none⟩) 4 4, .string (num10 n), .int .i64 n, .int .i64 (m : Int), .slice (some ⟨DN, 0, none⟩) m m, .string (nulN10 m), .string (num10 n ++ nulN10 m), .agg #[.string (num10 n ++ nulN10 m), .int .i64 0], .tuple #[.slice A' q c', .agg #[.string (num10 n ++ nulN10 m), .int .i64 lp], .int .i64 le], .slice A' q c', .agg #[.string (num10 n ++ nulN10 m), .int .i64 lp], .int .i64 le, x67, x68, x69, x70, x71, x72, x73, x74, x75, x76, x77, x78, x79, x80, x81, x82, x83, x84, x85, x86, x87, x88, x89, x90, x91, x92, x93, x94, x95, x96, x97, x98, x99, x100, x101, x102, x103, x104, x105, x106, x107, x108, x109, x110, x111, x112, x113, x114, x115, x116, x117, x118, x119, x120, x121, x122, x123, x124, x125, x126, x127, x128, x129, x130, x131, x132, x133, x134, x135, x136, x137, x138, x139, x140, x141, x142, x143, x144, x145, x146, x147, x148, x149, x150, x151, x152, x153, x154, x155, x156, x157, x158, x159, x160] ∧ Below W0.heap.size W0 W ∧ W0.heap.size ≤ DD) = Q
  have HQN : ∀ c a W, ¬ Q (.panic c) a W := fun c a W h => by subst hQ; exact nomatch h.1
  have ST6_7_10_11_14_19_21 : ∀ (W : World) (DB : Nat) (DN : Nat) (A' : Option Addr) (c' : Nat) (DD : Nat), Below W0.heap.size W0 W → W0.heap.size ≤ DD → wpAnyH Try.prog .any (opsOf Try.f6 7) Q (fun W => Below W0.heap.size W0 W) 0 #[true, true, true, true, true, true, true, true, true, true, true, true, true, true, true, true, true, true, true, true, true, true, true] { tmps := #[x0, x1, x2, x3, x4, x5, .int .i64 n, x7, x8, x9, x10, x11, x12, x13, .slice A' q c', .pointer (some ⟨DD, 0, none⟩), .int .i64 le, x17, x18, x19, x20, x21, x22, x23, x24, x25, x26, x27, x28, x29, x30, x31, x32, x33, x34, x35, x36, x37, x38, x39, x40, x41, x42, x43, x44, x45, x46, x47, .tuple #[.slice A' q c', .agg #[.string (num10 n ++ nulN10 m), .int .i64 lp], .int .i64 le], .int .i64 n, .int .i64 (n / 256), .int .u8 (n / 256), .int .i64 n, .int .i64 (n % 256), .int .u8 (n % 256), .slice (some ⟨DB, 0, none⟩) 4 4, .string (num10 n), .int .i64 n, .int .i64 (m : Int), .slice (some ⟨DN, 0, none⟩) m m, .string (nulN10 m), .string (num10 n ++ nulN10 m), .agg #[.string (num10 n ++ nulN10 m), .int .i64 0], .tuple #[.slice A' q c', .agg #[.string (num10 n ++ nulN10 m), .int .i64 lp], .int .i64 le], .slice A' q c', .agg #[.string (num10 n ++ nulN10 m), .int .i64 lp], .int .i64 le, x67, x68, x69, x70, x71, x72, x73, x74, x75, x76, x77, x78, x79, x80, x81, x82, x83, x84, x85, x86, x87, x88, x89, x90, x91, x92, x93, x94, x95, x96, x97, x98, x99, x100, x101, x102, x103, x104, x105, x106, x107, x108, x109, x110, x111, x112, x113, x114, x115, x116, x117, x118, x119, x120, x121, x122, x123, x124, x125, x126, x127, x128, x129, x130, x131, x132, x133, x134, x135, x136, x137, x138, x139, x140, x141, x142, x143, x144, x145, x146, x147, x148, x149, x150, x151, x152, x153, x154, x155, x156, x157, x158, x159, x160], defers := [] } W := by
    intro W DB DN A' c' DD hB hDD
    refine wpAnyH_done (by kernel_rfl) ?_ _
    subst hQ
    exact ⟨rfl, rfl, DB, DN, A', c', DD, rfl, hB, hDD⟩
  have ST6_7_10_11_14_19 : ∀ (W : World) (DB : Nat) (DN : Nat) (A' : Option Addr) (c' : Nat) (DD : Nat), Below W0.heap.size W0 W → W0.heap.size ≤ DD → Is W DD 24 #[.string ⟨#[]⟩, .int .i64 0] → wpAnyH Try.prog .any (opsOf Try.f6 7) Q (fun W => Below W0.heap.size W0 W) 2 #[true, true, true, true, true, true, true, true, true, true, true, true, true, true, true, true, true, true, true, true, true, false, false] { tmps := #[x0, x1, x2, x3, x4, x5, .int .i64 n, x7, x8, x9, x10, x11, x12, x13, .slice A' q c', .pointer (some ⟨DD, 0, none⟩), x16, x17, x18, x19, x20, x21, x22, x23, x24, x25, x26, x27, x28, x29, x30, x31, x32, x33, x34, x35, x36, x37, x38, x39, x40, x41, x42, x43, x44, x45, x46, x47, .tuple #[.slice A' q c', .agg #[.string (num10 n ++ nulN10 m), .int .i64 lp], .int .i64 le], .int .i64 n, .int .i64 (n / 256), .int .u8 (n / 256), .int .i64 n, .int .i64 (n % 256), .int .u8 (n % 256), .slice (some ⟨DB, 0, none⟩) 4 4, .string (num10 n), .int .i64 n, .int .i64 (m : Int), .slice (some ⟨DN, 0, none⟩) m m, .string (nulN10 m), .string (num10 n ++ nulN10 m), .agg #[.string (num10 n ++ nulN10 m), .int .i64 0], .tuple #[.slice A' q c', .agg #[.string (num10 n ++ nulN10 m), .int .i64 lp], .int .i64 le], .slice A' q c', .agg #[.string (num10 n ++ nulN10 m), .int .i64 lp], .int .i64 le, x67, x68, x69, x70, x71, x72, x73, x74, x75, x76, x77, x78, x79, x80, x81, x82, x83, x84, x85, x86, x87, x88, x89, x90, x91, x92, x93, x94, x95, x96, x97, x98, x99, x100, x101, x102, x103, x104, x105, x106, x107, x108, x109, x110, x111, x112, x113, x114, x115, x116, x117, x118, x119, x120, x121, x122, x123, x124, x125, x126, x127, x128, x129, x130, x131, x132, x133, x134, x135, x136, x137, x138, x139, x140, x141, x142, x143, x144, x145, x146, x147, x148, x149, x150, x151, x152, x153, x154, x155, x156, x157, x158, x159, x160], defers := [] } W := by
    intro W DB DN A' c' DD hB hDD iD
    refine wpAnyH_ready (by kernel_rfl) (by simp) (AllReadyH.cons (i := 21) (at_nth rfl) ?_ (AllReadyH.nil))
    · have kB := belowRow hB hDD #[.string (num10 n ++ nulN10 m), .int .i64 lp]
      refine arm10_skip (by kernel_rfl) (run_row10 (ty := 24) (x := .tmp 15) (y := .tmp 65) (cs := #[.string (num10 n ++ nulN10 m), .int .i64 lp]) (by kernel_rfl) (by kernel_rfl) (by kernel_rfl) iD infoCur10 rfl (by rw [← Array.all_toList]; rfl)) kB ?_
      try simp only [Act.put]
      replace hB := kB
      clear iD
      refine wpAnyH_pure (i := 22) (v := .int .i64 le) (at_nth rfl) (by kernel_rfl) (by kernel_rfl) (by kernel_rfl) (fun _ _ _ h => absurd h (HQN _ _ _)) (by kernel_rfl) (fun w hSw => by kernel_rfl) hB ?_
      simp only [Act.put, List.setIfInBounds_toArray, List.set_cons_succ, List.set_cons_zero]
      exact ST6_7_10_11_14_19_21 _ _ _ _ _ _ hB hDD
  have ST6_7_10_11_14 : ∀ (W : World) (DB : Nat) (DN : Nat) (A' : Option Addr) (c' : Nat), Below W0.heap.size W0 W → wpAnyH Try.prog .any (opsOf Try.f6 7) Q (fun W => Below W0.heap.size W0 W) 4 #[true, true, true, true, true, true, true, true, true, true, true, true, true, true, true, true, true, true, true, false, false, false, false] { tmps := #[x0, x1, x2, x3, x4, x5, .int .i64 n, x7, x8, x9, x10, x11, x12, x13, x14, x15, x16, x17, x18, x19, x20, x21, x22, x23, x24, x25, x26, x27, x28, x29, x30, x31, x32, x33, x34, x35, x36, x37, x38, x39, x40, x41, x42, x43, x44, x45, x46, x47, .tuple #[.slice A' q c', .agg #[.string (num10 n ++ nulN10 m), .int .i64 lp], .int .i64 le], .int .i64 n, .int .i64 (n / 256), .int .u8 (n / 256), .int .i64 n, .int .i64 (n % 256), .int .u8 (n % 256), .slice (some ⟨DB, 0, none⟩) 4 4, .string (num10 n), .int .i64 n, .int .i64 (m : Int), .slice (some ⟨DN, 0, none⟩) m m, .string (nulN10 m), .string (num10 n ++ nulN10 m), .agg #[.string (num10 n ++ nulN10 m), .int .i64 0], .tuple #[.slice A' q c', .agg #[.string (num10 n ++ nulN10 m), .int .i64 lp], .int .i64 le], .slice A' q c', .agg #[.string (num10 n ++ nulN10 m), .int .i64 lp], .int .i64 le, x67, x68, x69, x70, x71, x72, x73, x74, x75, x76, x77, x78, x79, x80, x81, x82, x83, x84, x85, x86, x87, x88, x89, x90, x91, x92, x93, x94, x95, x96, x97, x98, x99, x100, x101, x102, x103, x104, x105, x106, x107, x108, x109, x110, x111, x112, x113, x114, x115, x116, x117, x118, x119, x120, x121, x122, x123, x124, x125, x126, x127, x128, x129, x130, x131, x132, x133, x134, x135, x136, x137, x138, x139, x140, x141, x142, x143, x144, x145, x146, x147, x148, x149, x150, x151, x152, x153, x154, x155, x156, x157, x158, x159, x160], defers := [] } W := by
    intro W DB DN A' c' hB
    refine wpAnyH_ready (by kernel_rfl) (by simp) (AllReadyH.cons (i := 19) (at_nth rfl) ?_ (AllReadyH.nil))
    · have iD := Is.new W 24 #[.string ⟨#[]⟩, .int .i64 0]
      have hDD : W0.heap.size ≤ W.heap.size := hB.size
      replace hB := hB.alloc hB.size (.cells #[.string ⟨#[]⟩, .int .i64 0] 24)
      refine arm10_value (by kernel_rfl) (run_allocC10 _ (by kernel_rfl)) hB ?_
      simp only [Act.put, List.setIfInBounds_toArray, List.set_cons_succ, List.set_cons_zero]
      refine wpAnyH_pure (i := 20) (v := .slice A' q c') (at_nth rfl) (by kernel_rfl) (by kernel_rfl) (by kernel_rfl) (fun _ _ _ h => absurd h (HQN _ _ _)) (by kernel_rfl) (fun w hSw => by kernel_rfl) hB ?_
      simp only [Act.put, List.setIfInBounds_toArray, List.set_cons_succ, List.set_cons_zero]
      exact ST6_7_10_11_14_19 _ _ _ _ _ _ hB hDD iD
  have ST6_7_10_11_19 : ∀ (W : World) (DB : Nat) (DN : Nat) (DD : Nat), Below W0.heap.size W0 W → W0.heap.size ≤ DD → Is W DD 24 #[.string ⟨#[]⟩, .int .i64 0] → wpAnyH Try.prog .any (opsOf Try.f6 7) Q (fun W => Below W0.heap.size W0 W) 8 #[true, true, true, true, true, true, true, true, true, true, true, true, true, true, false, false, false, false, false, true, false, false, false] { tmps := #[x0, x1, x2, x3, x4, x5, .int .i64 n, x7, x8, x9, x10, x11, x12, x13, x14, .pointer (some ⟨DD, 0, none⟩), x16, x17, x18, x19, x20, x21, x22, x23, x24, x25, x26, x27, x28, x29, x30, x31, x32, x33, x34, x35, x36, x37, x38, x39, x40, x41, x42, x43, x44, x45, x46, x47, x48, .int .i64 n, .int .i64 (n / 256), .int .u8 (n / 256), .int .i64 n, .int .i64 (n % 256), .int .u8 (n % 256), .slice (some ⟨DB, 0, none⟩) 4 4, .string (num10 n), .int .i64 n, .int .i64 (m : Int), .slice (some ⟨DN, 0, none⟩) m m, .string (nulN10 m), .string (num10 n ++ nulN10 m), .agg #[.string (num10 n ++ nulN10 m), .int .i64 0], x63, x64, x65, x66, x67, x68, x69, x70, x71, x72, x73, x74, x75, x76, x77, x78, x79, x80, x81, x82, x83, x84, x85, x86, x87, x88, x89, x90, x91, x92, x93, x94, x95, x96, x97, x98, x99, x100, x101, x102, x103, x104, x105, x106, x107, x108, x109, x110, x111, x112, x113, x114, x115, x116, x117, x118, x119, x120, x121, x122, x123, x124, x125, x126, x127, x128, x129, x130, x131, x132, x133, x134, x135, x136, x137, x138, x139, x140, x141, x142, x143, x144, x145, x146, x147, x148, x149, x150, x151, x152, x153, x154, x155, x156, x157, x158, x159, x160], defers := [] } W := by
    intro W DB DN DD hB hDD iD
    refine wpAnyH_ready (by kernel_rfl) (by simp) (AllReadyH.cons (i := 14) (at_nth rfl) ?_ (AllReadyH.nil))
    · refine arm10_call (by kernel_rfl) (fun wy => by kernel_rfl) ((CL.out _).mono ?_)
      rintro e Wn ⟨A', c', rfl, hLx, hb⟩
      replace hB := hB.trans (hb.mono hB.size)
      replace iD := iD.below hb iD.lt
      clear hb hLx
      refine ⟨_, rfl, hB, ?_⟩
      simp only [Act.put, List.setIfInBounds_toArray, List.set_cons_succ, List.set_cons_zero]
      refine wpAnyH_pure (i := 15) (v := .tuple #[.slice A' q c', .agg #[.string (num10 n ++ nulN10 m), .int .i64 lp], .int .i64 le]) (at_nth rfl) (by kernel_rfl) (by kernel_rfl) (by kernel_rfl) (fun _ _ _ h => absurd h (HQN _ _ _)) (by kernel_rfl) (fun w hSw => by kernel_rfl) hB ?_
      simp only [Act.put, List.setIfInBounds_toArray, List.set_cons_succ, List.set_cons_zero]
      refine wpAnyH_pure (i := 16) (v := .slice A' q c') (at_nth rfl) (by kernel_rfl) (by kernel_rfl) (by kernel_rfl) (fun _ _ _ h => absurd h (HQN _ _ _)) (by kernel_rfl) (fun w hSw => by kernel_rfl) hB ?_
      simp only [Act.put, List.setIfInBounds_toArray, List.set_cons_succ, List.set_cons_zero]
      refine wpAnyH_pure (i := 17) (v := .agg #[.string (num10 n ++ nulN10 m), .int .i64 lp]) (at_nth rfl) (by kernel_rfl) (by kernel_rfl) (by kernel_rfl) (fun _ _ _ h => absurd h (HQN _ _ _)) (by kernel_rfl) (fun w hSw => by kernel_rfl) hB ?_
      simp only [Act.put, List.setIfInBounds_toArray, List.set_cons_succ, List.set_cons_zero]
      refine wpAnyH_pure (i := 18) (v := .int .i64 le) (at_nth rfl) (by kernel_rfl) (by kernel_rfl) (by kernel_rfl) (fun _ _ _ h => absurd h (HQN _ _ _)) (by kernel_rfl) (fun w hSw => by kernel_rfl) hB ?_
      simp only [Act.put, List.setIfInBounds_toArray, List.set_cons_succ, List.set_cons_zero]
      refine wpAnyH_pure (i := 20) (v := .slice A' q c') (at_nth rfl) (by kernel_rfl) (by kernel_rfl) (by kernel_rfl) (fun _ _ _ h => absurd h (HQN _ _ _)) (by kernel_rfl) (fun w hSw => by kernel_rfl) hB ?_
      simp only [Act.put, List.setIfInBounds_toArray, List.set_cons_succ, List.set_cons_zero]
      exact ST6_7_10_11_14_19 _ _ _ _ _ _ hB hDD iD
  have ST6_7_10_11 : ∀ (W : World) (DB : Nat) (DN : Nat), Below W0.heap.size W0 W → wpAnyH Try.prog .any (opsOf Try.f6 7) Q (fun W => Below W0.heap.size W0 W) 9 #[true, true, true, true, true, true, true, true, true, true, true, true, true, true, false, false, false, false, false, false, false, false, false] { tmps := #[x0, x1, x2, x3, x4, x5, .int .i64 n, x7, x8, x9, x10, x11, x12, x13, x14, x15, x16, x17, x18, x19, x20, x21, x22, x23, x24, x25, x26, x27, x28, x29, x30, x31, x32, x33, x34, x35, x36, x37, x38, x39, x40, x41, x42, x43, x44, x45, x46, x47, x48, .int .i64 n, .int .i64 (n / 256), .int .u8 (n / 256), .int .i64 n, .int .i64 (n % 256), .int .u8 (n % 256), .slice (some ⟨DB, 0, none⟩) 4 4, .string (num10 n), .int .i64 n, .int .i64 (m : Int), .slice (some ⟨DN, 0, none⟩) m m, .string (nulN10 m), .string (num10 n ++ nulN10 m), .agg #[.string (num10 n ++ nulN10 m), .int .i64 0], x63, x64, x65, x66, x67, x68, x69, x70, x71, x72, x73, x74, x75, x76, x77, x78, x79, x80, x81, x82, x83, x84, x85, x86, x87, x88, x89, x90, x91, x92, x93, x94, x95, x96, x97, x98, x99, x100, x101, x102, x103, x104, x105, x106, x107, x108, x109, x110, x111, x112, x113, x114, x115, x116, x117, x118, x119, x120, x121, x122, x123, x124, x125, x126, x127, x128, x129, x130, x131, x132, x133, x134, x135, x136, x137, x138, x139, x140, x141, x142, x143, x144, x145, x146, x147, x148, x149, x150, x151, x152, x153, x154, x155, x156, x157, x158, x159, x160], defers := [] } W := by
    intro W DB DN hB
    refine wpAnyH_ready (by kernel_rfl) (by simp) (AllReadyH.cons (i := 14) (at_nth rfl) ?_ (AllReadyH.cons (i := 19) (at_nth rfl) ?_ (AllReadyH.nil)))
    · refine arm10_call (by kernel_rfl) (fun wy => by kernel_rfl) ((CL.out _).mono ?_)
      rintro e Wn ⟨A', c', rfl, hLx, hb⟩
      replace hB := hB.trans (hb.mono hB.size)
      clear hb hLx
      refine ⟨_, rfl, hB, ?_⟩
      simp only [Act.put, List.setIfInBounds_toArray, List.set_cons_succ, List.set_cons_zero]
      refine wpAnyH_pure (i := 15) (v := .tuple #[.slice A' q c', .agg #[.string (num10 n ++ nulN10 m), .int .i64 lp], .int .i64 le]) (at_nth rfl) (by kernel_rfl) (by kernel_rfl) (by kernel_rfl) (fun _ _ _ h => absurd h (HQN _ _ _)) (by kernel_rfl) (fun w hSw => by kernel_rfl) hB ?_
      simp only [Act.put, List.setIfInBounds_toArray, List.set_cons_succ, List.set_cons_zero]
      refine wpAnyH_pure (i := 16) (v := .slice A' q c') (at_nth rfl) (by kernel_rfl) (by kernel_rfl) (by kernel_rfl) (fun _ _ _ h => absurd h (HQN _ _ _)) (by kernel_rfl) (fun w hSw => by kernel_rfl) hB ?_
      simp only [Act.put, List.setIfInBounds_toArray, List.set_cons_succ, List.set_cons_zero]
      refine wpAnyH_pure (i := 17) (v := .agg #[.string (num10 n ++ nulN10 m), .int .i64 lp]) (at_nth rfl) (by kernel_rfl) (by kernel_rfl) (by kernel_rfl) (fun _ _ _ h => absurd h (HQN _ _ _)) (by kernel_rfl) (fun w hSw => by kernel_rfl) hB ?_
      simp only [Act.put, List.setIfInBounds_toArray, List.set_cons_succ, List.set_cons_zero]
      refine wpAnyH_pure (i := 18) (v := .int .i64 le) (at_nth rfl) (by kernel_rfl) (by kernel_rfl) (by kernel_rfl) (fun _ _ _ h => absurd h (HQN _ _ _)) (by kernel_rfl) (fun w hSw => by kernel_rfl) hB ?_
      simp only [Act.put, List.setIfInBounds_toArray, List.set_cons_succ, List.set_cons_zero]
      exact ST6_7_10_11_14 _ _ _ _ _ hB
    · have iD := Is.new W 24 #[.string ⟨#[]⟩, .int .i64 0]
      have hDD : W0.heap.size ≤ W.heap.size := hB.size
      replace hB := hB.alloc hB.size (.cells #[.string ⟨#[]⟩, .int .i64 0] 24)
      refine arm10_value (by kernel_rfl) (run_allocC10 _ (by kernel_rfl)) hB ?_
      simp only [Act.put, List.setIfInBounds_toArray, List.set_cons_succ, List.set_cons_zero]
      exact ST6_7_10_11_19 _ _ _ _ hB hDD iD
  have ST6_7_10_19 : ∀ (W : World) (DB : Nat) (DN : Nat) (DD : Nat), Below W0.heap.size W0 W → W0.heap.size ≤ DD → Is W DN 5 (nulC10 m) → Is W DD 24 #[.string ⟨#[]⟩, .int .i64 0] → wpAnyH Try.prog .any (opsOf Try.f6 7) Q (fun W => Below W0.heap.size W0 W) 11 #[true, true, true, true, true, true, true, true, true, true, true, false, false, false, false, false, false, false, false, true, false, false, false] { tmps := #[x0, x1, x2, x3, x4, x5, .int .i64 n, x7, x8, x9, x10, x11, x12, x13, x14, .pointer (some ⟨DD, 0, none⟩), x16, x17, x18, x19, x20, x21, x22, x23, x24, x25, x26, x27, x28, x29, x30, x31, x32, x33, x34, x35, x36, x37, x38, x39, x40, x41, x42, x43, x44, x45, x46, x47, x48, .int .i64 n, .int .i64 (n / 256), .int .u8 (n / 256), .int .i64 n, .int .i64 (n % 256), .int .u8 (n % 256), .slice (some ⟨DB, 0, none⟩) 4 4, .string (num10 n), .int .i64 n, .int .i64 (m : Int), .slice (some ⟨DN, 0, none⟩) m m, x60, x61, x62, x63, x64, x65, x66, x67, x68, x69, x70, x71, x72, x73, x74, x75, x76, x77, x78, x79, x80, x81, x82, x83, x84, x85, x86, x87, x88, x89, x90, x91, x92, x93, x94, x95, x96, x97, x98, x99, x100, x101, x102, x103, x104, x105, x106, x107, x108, x109, x110, x111, x112, x113, x114, x115, x116, x117, x118, x119, x120, x121, x122, x123, x124, x125, x126, x127, x128, x129, x130, x131, x132, x133, x134, x135, x136, x137, x138, x139, x140, x141, x142, x143, x144, x145, x146, x147, x148, x149, x150, x151, x152, x153, x154, x155, x156, x157, x158, x159, x160], defers := [] } W := by
    intro W DB DN DD hB hDD iN iD
    refine wpAnyH_ready (by kernel_rfl) (by simp) (AllReadyH.cons (i := 11) (at_nth rfl) ?_ (AllReadyH.nil))
    · refine arm10_value (v := .string (nulN10 m)) (w' := W) (by kernel_rfl) (exec_conv10 (x := .tmp 59) (t := 47) (t2 := 9) (by kernel_rfl) (by kernel_rfl) (run_convN10 iN)) hB ?_
      simp only [Act.put, List.setIfInBounds_toArray, List.set_cons_succ, List.set_cons_zero]
      clear iN
      refine wpAnyH_pure (i := 12) (v := .string (num10 n ++ nulN10 m)) (at_nth rfl) (by kernel_rfl) (by kernel_rfl) (by kernel_rfl) (fun _ _ _ h => absurd h (HQN _ _ _)) (by kernel_rfl) (fun w hSw => by (have q1 := HQ.out; go_simp)) hB ?_
      simp only [Act.put, List.setIfInBounds_toArray, List.set_cons_succ, List.set_cons_zero]
      refine wpAnyH_pure (i := 13) (v := .agg #[.string (num10 n ++ nulN10 m), .int .i64 0]) (at_nth rfl) (by kernel_rfl) (by kernel_rfl) (by kernel_rfl) (fun _ _ _ h => absurd h (HQN _ _ _)) (by kernel_rfl) (fun w hSw => by go_simp) hB ?_
      simp only [Act.put, List.setIfInBounds_toArray, List.set_cons_succ, List.set_cons_zero]
      exact ST6_7_10_11_19 _ _ _ _ hB hDD iD
  have ST6_7_10 : ∀ (W : World) (DB : Nat) (DN : Nat), Below W0.heap.size W0 W → Is W DN 5 (nulC10 m) → wpAnyH Try.prog .any (opsOf Try.f6 7) Q (fun W => Below W0.heap.size W0 W) 12 #[true, true, true, true, true, true, true, true, true, true, true, false, false, false, false, false, false, false, false, false, false, false, false] { tmps := #[x0, x1, x2, x3, x4, x5, .int .i64 n, x7, x8, x9, x10, x11, x12, x13, x14, x15, x16, x17, x18, x19, x20, x21, x22, x23, x24, x25, x26, x27, x28, x29, x30, x31, x32, x33, x34, x35, x36, x37, x38, x39, x40, x41, x42, x43, x44, x45, x46, x47, x48, .int .i64 n, .int .i64 (n / 256), .int .u8 (n / 256), .int .i64 n, .int .i64 (n % 256), .int .u8 (n % 256), .slice (some ⟨DB, 0, none⟩) 4 4, .string (num10 n), .int .i64 n, .int .i64 (m : Int), .slice (some ⟨DN, 0, none⟩) m m, x60, x61, x62, x63, x64, x65, x66, x67, x68, x69, x70, x71, x72, x73, x74, x75, x76, x77, x78, x79, x80, x81, x82, x83, x84, x85, x86, x87, x88, x89, x90, x91, x92, x93, x94, x95, x96, x97, x98, x99, x100, x101, x102, x103, x104, x105, x106, x107, x108, x109, x110, x111, x112, x113, x114, x115, x116, x117, x118, x119, x120, x121, x122, x123, x124, x125, x126, x127, x128, x129, x130, x131, x132, x133, x134, x135, x136, x137, x138, x139, x140, x141, x142, x143, x144, x145, x146, x147, x148, x149, x150, x151, x152, x153, x154, x155, x156, x157, x158, x159, x160], defers := [] } W := by
    intro W DB DN hB iN
    refine wpAnyH_ready (by kernel_rfl) (by simp) (AllReadyH.cons (i := 11) (at_nth rfl) ?_ (AllReadyH.cons (i := 19) (at_nth rfl) ?_ (AllReadyH.nil)))
    · refine arm10_value (v := .string (nulN10 m)) (w' := W) (by kernel_rfl) (exec_conv10 (x := .tmp 59) (t := 47) (t2 := 9) (by kernel_rfl) (by kernel_rfl) (run_convN10 iN)) hB ?_
      simp only [Act.put, List.setIfInBounds_toArray, List.set_cons_succ, List.set_cons_zero]
      clear iN
      refine wpAnyH_pure (i := 12) (v := .string (num10 n ++ nulN10 m)) (at_nth rfl) (by kernel_rfl) (by kernel_rfl) (by kernel_rfl) (fun _ _ _ h => absurd h (HQN _ _ _)) (by kernel_rfl) (fun w hSw => by (have q1 := HQ.out; go_simp)) hB ?_
      simp only [Act.put, List.setIfInBounds_toArray, List.set_cons_succ, List.set_cons_zero]
      refine wpAnyH_pure (i := 13) (v := .agg #[.string (num10 n ++ nulN10 m), .int .i64 0]) (at_nth rfl) (by kernel_rfl) (by kernel_rfl) (by kernel_rfl) (fun _ _ _ h => absurd h (HQN _ _ _)) (by kernel_rfl) (fun w hSw => by go_simp) hB ?_
      simp only [Act.put, List.setIfInBounds_toArray, List.set_cons_succ, List.set_cons_zero]
      exact ST6_7_10_11 _ _ _ hB
    · have iD := Is.new W 24 #[.string ⟨#[]⟩, .int .i64 0]
      have hDD : W0.heap.size ≤ W.heap.size := hB.size
      replace iN := iN.alloc (.cells #[.string ⟨#[]⟩, .int .i64 0] 24)
      replace hB := hB.alloc hB.size (.cells #[.string ⟨#[]⟩, .int .i64 0] 24)
      refine arm10_value (by kernel_rfl) (run_allocC10 _ (by kernel_rfl)) hB ?_
      simp only [Act.put, List.setIfInBounds_toArray, List.set_cons_succ, List.set_cons_zero]
      exact ST6_7_10_19 _ _ _ _ hB hDD iN iD
  have ST6_7_19 : ∀ (W : World) (DB : Nat) (DD : Nat), Below W0.heap.size W0 W → W0.heap.size ≤ DD → Is W DD 24 #[.string ⟨#[]⟩, .int .i64 0] → wpAnyH Try.prog .any (opsOf Try.f6 7) Q (fun W => Below W0.heap.size W0 W) 12 #[true, true, true, true, true, true, true, true, true, true, false, false, false, false, false, false, false, false, false, true, false, false, false] { tmps := #[x0, x1, x2, x3, x4, x5, .int .i64 n, x7, x8, x9, x10, x11, x12, x13, x14, .pointer (some ⟨DD, 0, none⟩), x16, x17, x18, x19, x20, x21, x22, x23, x24, x25, x26, x27, x28, x29, x30, x31, x32, x33, x34, x35, x36, x37, x38, x39, x40, x41, x42, x43, x44, x45, x46, x47, x48, .int .i64 n, .int .i64 (n / 256), .int .u8 (n / 256), .int .i64 n, .int .i64 (n % 256), .int .u8 (n % 256), .slice (some ⟨DB, 0, none⟩) 4 4, .string (num10 n), .int .i64 n, .int .i64 (m : Int), x59, x60, x61, x62, x63, x64, x65, x66, x67, x68, x69, x70, x71, x72, x73, x74, x75, x76, x77, x78, x79, x80, x81, x82, x83, x84, x85, x86, x87, x88, x89, x90, x91, x92, x93, x94, x95, x96, x97, x98, x99, x100, x101, x102, x103, x104, x105, x106, x107, x108, x109, x110, x111, x112, x113, x114, x115, x116, x117, x118, x119, x120, x121, x122, x123, x124, x125, x126, x127, x128, x129, x130, x131, x132, x133, x134, x135, x136, x137, x138, x139, x140, x141, x142, x143, x144, x145, x146, x147, x148, x149, x150, x151, x152, x153, x154, x155, x156, x157, x158, x159, x160], defers := [] } W := by
    intro W DB DD hB hDD iD
    refine wpAnyH_ready (by kernel_rfl) (by simp) (AllReadyH.cons (i := 10) (at_nth rfl) ?_ (AllReadyH.nil))
    · have iN := Is.new W 5 (nulC10 m)
      replace iD := iD.alloc (.cells (nulC10 m) 5)
      replace hB := hB.alloc hB.size (.cells (nulC10 m) 5)
      refine arm10_value (v := .slice (some ⟨W.heap.size, 0, none⟩) m m) (w' := W.alloc (.cells (nulC10 m) 5)) (by kernel_rfl) (exec_make10 (x := .tmp 58) (t := 47) (by kernel_rfl) (by kernel_rfl) (run_makeN10 W m hm)) hB ?_
      simp only [Act.put, List.setIfInBounds_toArray, List.set_cons_succ, List.set_cons_zero]
      exact ST6_7_10_19 _ _ _ _ hB hDD iN iD
  have ST6_7 : ∀ (W : World) (DB : Nat), Below W0.heap.size W0 W → wpAnyH Try.prog .any (opsOf Try.f6 7) Q (fun W => Below W0.heap.size W0 W) 13 #[true, true, true, true, true, true, true, true, true, true, false, false, false, false, false, false, false, false, false, false, false, false, false] { tmps := #[x0, x1, x2, x3, x4, x5, .int .i64 n, x7, x8, x9, x10, x11, x12, x13, x14, x15, x16, x17, x18, x19, x20, x21, x22, x23, x24, x25, x26, x27, x28, x29, x30, x31, x32, x33, x34, x35, x36, x37, x38, x39, x40, x41, x42, x43, x44, x45, x46, x47, x48, .int .i64 n, .int .i64 (n / 256), .int .u8 (n / 256), .int .i64 n, .int .i64 (n % 256), .int .u8 (n % 256), .slice (some ⟨DB, 0, none⟩) 4 4, .string (num10 n), .int .i64 n, .int .i64 (m : Int), x59, x60, x61, x62, x63, x64, x65, x66, x67, x68, x69, x70, x71, x72, x73, x74, x75, x76, x77, x78, x79, x80, x81, x82, x83, x84, x85, x86, x87, x88, x89, x90, x91, x92, x93, x94, x95, x96, x97, x98, x99, x100, x101, x102, x103, x104, x105, x106, x107, x108, x109, x110, x111, x112, x113, x114, x115, x116, x117, x118, x119, x120, x121, x122, x123, x124, x125, x126, x127, x128, x129, x130, x131, x132, x133, x134, x135, x136, x137, x138, x139, x140, x141, x142, x143, x144, x145, x146, x147, x148, x149, x150, x151, x152, x153, x154, x155, x156, x157, x158, x159, x160], defers := [] } W := by
    intro W DB hB
    refine wpAnyH_ready (by kernel_rfl) (by simp) (AllReadyH.cons (i := 10) (at_nth rfl) ?_ (AllReadyH.cons (i := 19) (at_nth rfl) ?_ (AllReadyH.nil)))
    · have iN := Is.new W 5 (nulC10 m)
      replace hB := hB.alloc hB.size (.cells (nulC10 m) 5)
      refine arm10_value (v := .slice (some ⟨W.heap.size, 0, none⟩) m m) (w' := W.alloc (.cells (nulC10 m) 5)) (by kernel_rfl) (exec_make10 (x := .tmp 58) (t := 47) (by kernel_rfl) (by kernel_rfl) (run_makeN10 W m hm)) hB ?_
      simp only [Act.put, List.setIfInBounds_toArray, List.set_cons_succ, List.set_cons_zero]
      exact ST6_7_10 _ _ _ hB iN
    · have iD := Is.new W 24 #[.string ⟨#[]⟩, .int .i64 0]
      have hDD : W0.heap.size ≤ W.heap.size := hB.size
      replace hB := hB.alloc hB.size (.cells #[.string ⟨#[]⟩, .int .i64 0] 24)
      refine arm10_value (by kernel_rfl) (run_allocC10 _ (by kernel_rfl)) hB ?_
      simp only [Act.put, List.setIfInBounds_toArray, List.set_cons_succ, List.set_cons_zero]
      exact ST6_7_19 _ _ _ hB hDD iD
  have ST6_10_11_19 : ∀ (W : World) (DB : Nat) (DN : Nat) (DD : Nat), Below W0.heap.size W0 W → W0.heap.size ≤ DD → Is W DB 5 #[.int .u8 0, .int .u8 0, .int .u8 (n / 256), .int .u8 (n % 256)] → Is W DD 24 #[.string ⟨#[]⟩, .int .i64 0] → wpAnyH Try.prog .any (opsOf Try.f6 7) Q (fun W => Below W0.heap.size W0 W) 11 #[true, true, true, true, true, true, true, false, true, true, true, true, false, false, false, false, false, false, false, true, false, false, false] { tmps := #[x0, x1, x2, x3, x4, x5, .int .i64 n, x7, x8, x9, x10, x11, x12, x13, x14, .pointer (some ⟨DD, 0, none⟩), x16, x17, x18, x19, x20, x21, x22, x23, x24, x25, x26, x27, x28, x29, x30, x31, x32, x33, x34, x35, x36, x37, x38, x39, x40, x41, x42, x43, x44, x45, x46, x47, x48, .int .i64 n, .int .i64 (n / 256), .int .u8 (n / 256), .int .i64 n, .int .i64 (n % 256), .int .u8 (n % 256), .slice (some ⟨DB, 0, none⟩) 4 4, x56, .int .i64 n, .int .i64 (m : Int), .slice (some ⟨DN, 0, none⟩) m m, .string (nulN10 m), x61, x62, x63, x64, x65, x66, x67, x68, x69, x70, x71, x72, x73, x74, x75, x76, x77, x78, x79, x80, x81, x82, x83, x84, x85, x86, x87, x88, x89, x90, x91, x92, x93, x94, x95, x96, x97, x98, x99, x100, x101, x102, x103, x104, x105, x106, x107, x108, x109, x110, x111, x112, x113, x114, x115, x116, x117, x118, x119, x120, x121, x122, x123, x124, x125, x126, x127, x128, x129, x130, x131, x132, x133, x134, x135, x136, x137, x138, x139, x140, x141, x142, x143, x144, x145, x146, x147, x148, x149, x150, x151, x152, x153, x154, x155, x156, x157, x158, x159, x160], defers := [] } W := by
    intro W DB DN DD hB hDD iB iD
    refine wpAnyH_ready (by kernel_rfl) (by simp) (AllReadyH.cons (i := 7) (at_nth rfl) ?_ (AllReadyH.nil))
    · refine arm10_value (v := .string (num10 n)) (w' := W) (by kernel_rfl) (exec_conv10 (x := .tmp 55) (t := 47) (t2 := 9) (by kernel_rfl) (by kernel_rfl) (conv_four10 hn.1 hn.2 iB)) hB ?_
      simp only [Act.put, List.setIfInBounds_toArray, List.set_cons_succ, List.set_cons_zero]
      clear iB
      refine wpAnyH_pure (i := 12) (v := .string (num10 n ++ nulN10 m)) (at_nth rfl) (by kernel_rfl) (by kernel_rfl) (by kernel_rfl) (fun _ _ _ h => absurd h (HQN _ _ _)) (by kernel_rfl) (fun w hSw => by (have q1 := HQ.out; go_simp)) hB ?_
      simp only [Act.put, List.setIfInBounds_toArray, List.set_cons_succ, List.set_cons_zero]
      refine wpAnyH_pure (i := 13) (v := .agg #[.string (num10 n ++ nulN10 m), .int .i64 0]) (at_nth rfl) (by kernel_rfl) (by kernel_rfl) (by kernel_rfl) (fun _ _ _ h => absurd h (HQN _ _ _)) (by kernel_rfl) (fun w hSw => by go_simp) hB ?_
      simp only [Act.put, List.setIfInBounds_toArray, List.set_cons_succ, List.set_cons_zero]
      exact ST6_7_10_11_19 _ _ _ _ hB hDD iD
  have ST6_10_11 : ∀ (W : World) (DB : Nat) (DN : Nat), Below W0.heap.size W0 W → Is W DB 5 #[.int .u8 0, .int .u8 0, .int .u8 (n / 256), .int .u8 (n % 256)] → wpAnyH Try.prog .any (opsOf Try.f6 7) Q (fun W => Below W0.heap.size W0 W) 12 #[true, true, true, true, true, true, true, false, true, true, true, true, false, false, false, false, false, false, false, false, false, false, false] { tmps := #[x0, x1, x2, x3, x4, x5, .int .i64 n, x7, x8, x9, x10, x11, x12, x13, x14, x15, x16, x17, x18, x19, x20, x21, x22, x23, x24, x25, x26, x27, x28, x29, x30, x31, x32, x33, x34, x35, x36, x37, x38, x39, x40, x41, x42, x43, x44, x45, x46, x47, x48, .int .i64 n, .int .i64 (n / 256), .int .u8 (n / 256), .int .i64 n, .int .i64 (n % 256), .int .u8 (n % 256), .slice (some ⟨DB, 0, none⟩) 4 4, x56, .int .i64 n, .int .i64 (m : Int), .slice (some ⟨DN, 0, none⟩) m m, .string (nulN10 m), x61, x62, x63, x64, x65, x66, x67, x68, x69, x70, x71, x72, x73, x74, x75, x76, x77, x78, x79, x80, x81, x82, x83, x84, x85, x86, x87, x88, x89, x90, x91, x92, x93, x94, x95, x96, x97, x98, x99, x100, x101, x102, x103, x104, x105, x106, x107, x108, x109, x110, x111, x112, x113, x114, x115, x116, x117, x118, x119, x120, x121, x122, x123, x124, x125, x126, x127, x128, x129, x130, x131, x132, x133, x134, x135, x136, x137, x138, x139, x140, x141, x142, x143, x144, x145, x146, x147, x148, x149, x150, x151, x152, x153, x154, x155, x156, x157, x158, x159, x160], defers := [] } W := by
    intro W DB DN hB iB
    refine wpAnyH_ready (by kernel_rfl) (by simp) (AllReadyH.cons (i := 7) (at_nth rfl) ?_ (AllReadyH.cons (i := 19) (at_nth rfl) ?_ (AllReadyH.nil)))
    · refine arm10_value (v := .string (num10 n)) (w' := W) (by kernel_rfl) (exec_conv10 (x := .tmp 55) (t := 47) (t2 := 9) (by kernel_rfl) (by kernel_rfl) (conv_four10 hn.1 hn.2 iB)) hB ?_
      simp only [Act.put, List.setIfInBounds_toArray, List.set_cons_succ, List.set_cons_zero]
      clear iB
      refine wpAnyH_pure (i := 12) (v := .string (num10 n ++ nulN10 m)) (at_nth rfl) (by kernel_rfl) (by kernel_rfl) (by kernel_rfl) (fun _ _ _ h => absurd h (HQN _ _ _)) (by kernel_rfl) (fun w hSw => by (have q1 := HQ.out; go_simp)) hB ?_
      simp only [Act.put, List.setIfInBounds_toArray, List.set_cons_succ, List.set_cons_zero]
      refine wpAnyH_pure (i := 13) (v := .agg #[.string (num10 n ++ nulN10 m), .int .i64 0]) (at_nth rfl) (by kernel_rfl) (by kernel_rfl) (by kernel_rfl) (fun _ _ _ h => absurd h (HQN _ _ _)) (by kernel_rfl) (fun w hSw => by go_simp) hB ?_
      simp only [Act.put, List.setIfInBounds_toArray, List.set_cons_succ, List.set_cons_zero]
      exact ST6_7_10_11 _ _ _ hB
    · have iD := Is.new W 24 #[.string ⟨#[]⟩, .int .i64 0]
      have hDD : W0.heap.size ≤ W.heap.size := hB.size
      replace iB := iB.alloc (.cells #[.string ⟨#[]⟩, .int .i64 0] 24)
      replace hB := hB.alloc hB.size (.cells #[.string ⟨#[]⟩, .int .i64 0] 24)
      refine arm10_value (by kernel_rfl) (run_allocC10 _ (by kernel_rfl)) hB ?_
      simp only [Act.put, List.setIfInBounds_toArray, List.set_cons_succ, List.set_cons_zero]
      exact ST6_10_11_19 _ _ _ _ hB hDD iB iD
  have ST6_10_19 : ∀ (W : World) (DB : Nat) (DN : Nat) (DD : Nat), Below W0.heap.size W0 W → W0.heap.size ≤ DD → Is W DB 5 #[.int .u8 0, .int .u8 0, .int .u8 (n / 256), .int .u8 (n % 256)] → Is W DN 5 (nulC10 m) → Is W DD 24 #[.string ⟨#[]⟩, .int .i64 0] → wpAnyH Try.prog .any (opsOf Try.f6 7) Q (fun W => Below W0.heap.size W0 W) 12 #[true, true, true, true, true, true, true, false, true, true, true, false, false, false, false, false, false, false, false, true, false, false, false] { tmps := #[x0, x1, x2, x3, x4, x5, .int .i64 n, x7, x8, x9, x10, x11, x12, x13, x14, .pointer (some ⟨DD, 0, none⟩), x16, x17, x18, x19, x20, x21, x22, x23, x24, x25, x26, x27, x28, x29, x30, x31, x32, x33, x34, x35, x36, x37, x38, x39, x40, x41, x42, x43, x44, x45, x46, x47, x48, .int .i64 n, .int .i64 (n / 256), .int .u8 (n / 256), .int .i64 n, .int .i64 (n % 256), .int .u8 (n % 256), .slice (some ⟨DB, 0, none⟩) 4 4, x56, .int .i64 n, .int .i64 (m : Int), .slice (some ⟨DN, 0, none⟩) m m, x60, x61, x62, x63, x64, x65, x66, x67, x68, x69, x70, x71, x72, x73, x74, x75, x76, x77, x78, x79, x80, x81, x82, x83, x84, x85, x86, x87, x88, x89, x90, x91, x92, x93, x94, x95, x96, x97, x98, x99, x100, x101, x102, x103, x104, x105, x106, x107, x108, x109, x110, x111, x112, x113, x114, x115, x116, x117, x118, x119, x120, x121, x122, x123, x124, x125, x126, x127, x128, x129, x130, x131, x132, x133, x134, x135, x136, x137, x138, x139, x140, x141, x142, x143, x144, x145, x146, x147, x148, x149, x150, x151, x152, x153, x154, x155, x156, x157, x158, x159, x160], defers := [] } W := by
    intro W DB DN DD hB hDD iB iN iD
    refine wpAnyH_ready (by kernel_rfl) (by simp) (AllReadyH.cons (i := 7) (at_nth rfl) ?_ (AllReadyH.cons (i := 11) (at_nth rfl) ?_ (AllReadyH.nil)))
    · refine arm10_value (v := .string (num10 n)) (w' := W) (by kernel_rfl) (exec_conv10 (x := .tmp 55) (t := 47) (t2 := 9) (by kernel_rfl) (by kernel_rfl) (conv_four10 hn.1 hn.2 iB)) hB ?_
      simp only [Act.put, List.setIfInBounds_toArray, List.set_cons_succ, List.set_cons_zero]
      clear iB
      exact ST6_7_10_19 _ _ _ _ hB hDD iN iD
    · refine arm10_value (v := .string (nulN10 m)) (w' := W) (by kernel_rfl) (exec_conv10 (x := .tmp 59) (t := 47) (t2 := 9) (by kernel_rfl) (by kernel_rfl) (run_convN10 iN)) hB ?_
      simp only [Act.put, List.setIfInBounds_toArray, List.set_cons_succ, List.set_cons_zero]
      clear iN
      exact ST6_10_11_19 _ _ _ _ hB hDD iB iD
  have ST6_10 : ∀ (W : World) (DB : Nat) (DN : Nat), Below W0.heap.size W0 W → Is W DB 5 #[.int .u8 0, .int .u8 0, .int .u8 (n / 256), .int .u8 (n % 256)] → Is W DN 5 (nulC10 m) → wpAnyH Try.prog .any (opsOf Try.f6 7) Q (fun W => Below W0.heap.size W0 W) 13 #[true, true, true, true, true, true, true, false, true, true, true, false, false, false, false, false, false, false, false, false, false, false, false] { tmps := #[x0, x1, x2, x3, x4, x5, .int .i64 n, x7, x8, x9, x10, x11, x12, x13, x14, x15, x16, x17, x18, x19, x20, x21, x22, x23, x24, x25, x26, x27, x28, x29, x30, x31, x32, x33, x34, x35, x36, x37, x38, x39, x40, x41, x42, x43, x44, x45, x46, x47, x48, .int .i64 n, .int .i64 (n / 256), .int .u8 (n / 256), .int .i64 n, .int .i64 (n % 256), .int .u8 (n % 256), .slice (some ⟨DB, 0, none⟩) 4 4, x56, .int .i64 n, .int .i64 (m : Int), .slice (some ⟨DN, 0, none⟩) m m, x60, x61, x62, x63, x64, x65, x66, x67, x68, x69, x70, x71, x72, x73, x74, x75, x76, x77, x78, x79, x80, x81, x82, x83, x84, x85, x86, x87, x88, x89, x90, x91, x92, x93, x94, x95, x96, x97, x98, x99, x100, x101, x102, x103, x104, x105, x106, x107, x108, x109, x110, x111, x112, x113, x114, x115, x116, x117, x118, x119, x120, x121, x122, x123, x124, x125, x126, x127, x128, x129, x130, x131, x132, x133, x134, x135, x136, x137, x138, x139, x140, x141, x142, x143, x144, x145, x146, x147, x148, x149, x150, x151, x152, x153, x154, x155, x156, x157, x158, x159, x160], defers := [] } W := by
    intro W DB DN hB iB iN
    refine wpAnyH_ready (by kernel_rfl) (by simp) (AllReadyH.cons (i := 7) (at_nth rfl) ?_ (AllReadyH.cons (i := 11) (at_nth rfl) ?_ (AllReadyH.cons (i := 19) (at_nth rfl) ?_ (AllReadyH.nil))))
    · refine arm10_value (v := .string (num10 n)) (w' := W) (by kernel_rfl) (exec_conv10 (x := .tmp 55) (t := 47) (t2 := 9) (by kernel_rfl) (by kernel_rfl) (conv_four10 hn.1 hn.2 iB)) hB ?_
      simp only [Act.put, List.setIfInBounds_toArray, List.set_cons_succ, List.set_cons_zero]
      clear iB
      exact ST6_7_10 _ _ _ hB iN
    · refine arm10_value (v := .string (nulN10 m)) (w' := W) (by kernel_rfl) (exec_conv10 (x := .tmp 59) (t := 47) (t2 := 9) (by kernel_rfl) (by kernel_rfl) (run_convN10 iN)) hB ?_
      simp only [Act.put, List.setIfInBounds_toArray, List.set_cons_succ, List.set_cons_zero]
      clear iN
      exact ST6_10_11 _ _ _ hB iB
    · have iD := Is.new W 24 #[.string ⟨#[]⟩, .int .i64 0]
      have hDD : W0.heap.size ≤ W.heap.size := hB.size
      replace iB := iB.alloc (.cells #[.string ⟨#[]⟩, .int .i64 0] 24)
      replace iN := iN.alloc (.cells #[.string ⟨#[]⟩, .int .i64 0] 24)
      replace hB := hB.alloc hB.size (.cells #[.string ⟨#[]⟩, .int .i64 0] 24)
      refine arm10_value (by kernel_rfl) (run_allocC10 _ (by kernel_rfl)) hB ?_
      simp only [Act.put, List.setIfInBounds_toArray, List.set_cons_succ, List.set_cons_zero]
      exact ST6_10_19 _ _ _ _ hB hDD iB iN iD
  have ST6_19 : ∀ (W : World) (DB : Nat) (DD : Nat), Below W0.heap.size W0 W → W0.heap.size ≤ DD → Is W DB 5 #[.int .u8 0, .int .u8 0, .int .u8 (n / 256), .int .u8 (n % 256)] → Is W DD 24 #[.string ⟨#[]⟩, .int .i64 0] → wpAnyH Try.prog .any (opsOf Try.f6 7) Q (fun W => Below W0.heap.size W0 W) 13 #[true, true, true, true, true, true, true, false, true, true, false, false, false, false, false, false, false, false, false, true, false, false, false] { tmps := #[x0, x1, x2, x3, x4, x5, .int .i64 n, x7, x8, x9, x10, x11, x12, x13, x14, .pointer (some ⟨DD, 0, none⟩), x16, x17, x18, x19, x20, x21, x22, x23, x24, x25, x26, x27, x28, x29, x30, x31, x32, x33, x34, x35, x36, x37, x38, x39, x40, x41, x42, x43, x44, x45, x46, x47, x48, .int .i64 n, .int .i64 (n / 256), .int .u8 (n / 256), .int .i64 n, .int .i64 (n % 256), .int .u8 (n % 256), .slice (some ⟨DB, 0, none⟩) 4 4, x56, .int .i64 n, .int .i64 (m : Int), x59, x60, x61, x62, x63, x64, x65, x66, x67, x68, x69, x70, x71, x72, x73, x74, x75, x76, x77, x78, x79, x80, x81, x82, x83, x84, x85, x86, x87, x88, x89, x90, x91, x92, x93, x94, x95, x96, x97, x98, x99, x100, x101, x102, x103, x104, x105, x106, x107, x108, x109, x110, x111, x112, x113, x114, x115, x116, x117, x118, x119, x120, x121, x122, x123, x124, x125, x126, x127, x128, x129, x130, x131, x132, x133, x134, x135, x136, x137, x138, x139, x140, x141, x142, x143, x144, x145, x146, x147, x148, x149, x150, x151, x152, x153, x154, x155, x156, x157, x158, x159, x160], defers := [] } W := by
    intro W DB DD hB hDD iB iD
    refine wpAnyH_ready (by kernel_rfl) (by simp) (AllReadyH.cons (i := 7) (at_nth rfl) ?_ (AllReadyH.cons (i := 10) (at_nth rfl) ?_ (AllReadyH.nil)))
    · refine arm10_value (v := .string (num10 n)) (w' := W) (by kernel_rfl) (exec_conv10 (x := .tmp 55) (t := 47) (t2 := 9) (by kernel_rfl) (by kernel_rfl) (conv_four10 hn.1 hn.2 iB)) hB ?_
      simp only [Act.put, List.setIfInBounds_toArray, List.set_cons_succ, List.set_cons_zero]
      clear iB
      exact ST6_7_19 _ _ _ hB hDD iD
    · have iN := Is.new W 5 (nulC10 m)
      replace iB := iB.alloc (.cells (nulC10 m) 5)
      replace iD := iD.alloc (.cells (nulC10 m) 5)
      replace hB := hB.alloc hB.size (.cells (nulC10 m) 5)
      refine arm10_value (v := .slice (some ⟨W.heap.size, 0, none⟩) m m) (w' := W.alloc (.cells (nulC10 m) 5)) (by kernel_rfl) (exec_make10 (x := .tmp 58) (t := 47) (by kernel_rfl) (by kernel_rfl) (run_makeN10 W m hm)) hB ?_
      simp only [Act.put, List.setIfInBounds_toArray, List.set_cons_succ, List.set_cons_zero]
      exact ST6_10_19 _ _ _ _ hB hDD iB iN iD
  have ST6 : ∀ (W : World) (DB : Nat), Below W0.heap.size W0 W → Is W DB 5 #[.int .u8 0, .int .u8 0, .int .u8 (n / 256), .int .u8 (n % 256)] → wpAnyH Try.prog .any (opsOf Try.f6 7) Q (fun W => Below W0.heap.size W0 W) 14 #[true, true, true, true, true, true, true, false, true, true, false, false, false, false, false, false, false, false, false, false, false, false, false] { tmps := #[x0, x1, x2, x3, x4, x5, .int .i64 n, x7, x8, x9, x10, x11, x12, x13, x14, x15, x16, x17, x18, x19, x20, x21, x22, x23, x24, x25, x26, x27, x28, x29, x30, x31, x32, x33, x34, x35, x36, x37, x38, x39, x40, x41, x42, x43, x44, x45, x46, x47, x48, .int .i64 n, .int .i64 (n / 256), .int .u8 (n / 256), .int .i64 n, .int .i64 (n % 256), .int .u8 (n % 256), .slice (some ⟨DB, 0, none⟩) 4 4, x56, .int .i64 n, .int .i64 (m : Int), x59, x60, x61, x62, x63, x64, x65, x66, x67, x68, x69, x70, x71, x72, x73, x74, x75, x76, x77, x78, x79, x80, x81, x82, x83, x84, x85, x86, x87, x88, x89, x90, x91, x92, x93, x94, x95, x96, x97, x98, x99, x100, x101, x102, x103, x104, x105, x106, x107, x108, x109, x110, x111, x112, x113, x114, x115, x116, x117, x118, x119, x120, x121, x122, x123, x124, x125, x126, x127, x128, x129, x130, x131, x132, x133, x134, x135, x136, x137, x138, x139, x140, x141, x142, x143, x144, x145, x146, x147, x148, x149, x150, x151, x152, x153, x154, x155, x156, x157, x158, x159, x160], defers := [] } W := by
    intro W DB hB iB
    refine wpAnyH_ready (by kernel_rfl) (by simp) (AllReadyH.cons (i := 7) (at_nth rfl) ?_ (AllReadyH.cons (i := 10) (at_nth rfl) ?_ (AllReadyH.cons (i := 19) (at_nth rfl) ?_ (AllReadyH.nil))))
    · refine arm10_value (v := .string (num10 n)) (w' := W) (by kernel_rfl) (exec_conv10 (x := .tmp 55) (t := 47) (t2 := 9) (by kernel_rfl) (by kernel_rfl) (conv_four10 hn.1 hn.2 iB)) hB ?_
      simp only [Act.put, List.setIfInBounds_toArray, List.set_cons_succ, List.set_cons_zero]
      clear iB
      exact ST6_7 _ _ hB
    · have iN := Is.new W 5 (nulC10 m)
      replace iB := iB.alloc (.cells (nulC10 m) 5)
      replace hB := hB.alloc hB.size (.cells (nulC10 m) 5)
      refine arm10_value (v := .slice (some ⟨W.heap.size, 0, none⟩) m m) (w' := W.alloc (.cells (nulC10 m) 5)) (by kernel_rfl) (exec_make10 (x := .tmp 58) (t := 47) (by kernel_rfl) (by kernel_rfl) (run_makeN10 W m hm)) hB ?_
      simp only [Act.put, List.setIfInBounds_toArray, List.set_cons_succ, List.set_cons_zero]
      exact ST6_10 _ _ _ hB iB iN
    · have iD := Is.new W 24 #[.string ⟨#[]⟩, .int .i64 0]
      have hDD : W0.heap.size ≤ W.heap.size := hB.size
      replace iB := iB.alloc (.cells #[.string ⟨#[]⟩, .int .i64 0] 24)
      replace hB := hB.alloc hB.size (.cells #[.string ⟨#[]⟩, .int .i64 0] 24)
      refine arm10_value (by kernel_rfl) (run_allocC10 _ (by kernel_rfl)) hB ?_
      simp only [Act.put, List.setIfInBounds_toArray, List.set_cons_succ, List.set_cons_zero]
      exact ST6_19 _ _ _ hB hDD iB iD
  have ST10_11_19 : ∀ (W : World) (DN : Nat) (DD : Nat), Below W0.heap.size W0 W → W0.heap.size ≤ DD → Is W DD 24 #[.string ⟨#[]⟩, .int .i64 0] → wpAnyH Try.prog .any (opsOf Try.f6 7) Q (fun W => Below W0.heap.size W0 W) 12 #[true, true, true, true, true, true, false, false, true, true, true, true, false, false, false, false, false, false, false, true, false, false, false] { tmps := #[x0, x1, x2, x3, x4, x5, .int .i64 n, x7, x8, x9, x10, x11, x12, x13, x14, .pointer (some ⟨DD, 0, none⟩), x16, x17, x18, x19, x20, x21, x22, x23, x24, x25, x26, x27, x28, x29, x30, x31, x32, x33, x34, x35, x36, x37, x38, x39, x40, x41, x42, x43, x44, x45, x46, x47, x48, .int .i64 n, .int .i64 (n / 256), .int .u8 (n / 256), .int .i64 n, .int .i64 (n % 256), .int .u8 (n % 256), x55, x56, .int .i64 n, .int .i64 (m : Int), .slice (some ⟨DN, 0, none⟩) m m, .string (nulN10 m), x61, x62, x63, x64, x65, x66, x67, x68, x69, x70, x71, x72, x73, x74, x75, x76, x77, x78, x79, x80, x81, x82, x83, x84, x85, x86, x87, x88, x89, x90, x91, x92, x93, x94, x95, x96, x97, x98, x99, x100, x101, x102, x103, x104, x105, x106, x107, x108, x109, x110, x111, x112, x113, x114, x115, x116, x117, x118, x119, x120, x121, x122, x123, x124, x125, x126, x127, x128, x129, x130, x131, x132, x133, x134, x135, x136, x137, x138, x139, x140, x141, x142, x143, x144, x145, x146, x147, x148, x149, x150, x151, x152, x153, x154, x155, x156, x157, x158, x159, x160], defers := [] } W := by
    intro W DN DD hB hDD iD
    refine wpAnyH_ready (by kernel_rfl) (by simp) (AllReadyH.cons (i := 6) (at_nth rfl) ?_ (AllReadyH.nil))
    · have iB := Is.new W 5 #[.int .u8 0, .int .u8 0, .int .u8 (n / 256), .int .u8 (n % 256)]
      replace iD := iD.alloc (.cells #[.int .u8 0, .int .u8 0, .int .u8 (n / 256), .int .u8 (n % 256)] 5)
      replace hB := hB.alloc hB.size (.cells #[.int .u8 0, .int .u8 0, .int .u8 (n / 256), .int .u8 (n % 256)] 5)
      refine arm10_value (v := .slice (some ⟨W.heap.size, 0, none⟩) 4 4) (w' := W.alloc (.cells #[.int .u8 0, .int .u8 0, .int .u8 (n / 256), .int .u8 (n % 256)] 5)) (by kernel_rfl) (by go_simp) hB ?_
      simp only [Act.put, List.setIfInBounds_toArray, List.set_cons_succ, List.set_cons_zero]
      exact ST6_10_11_19 _ _ _ _ hB hDD iB iD
  have ST10_11 : ∀ (W : World) (DN : Nat), Below W0.heap.size W0 W → wpAnyH Try.prog .any (opsOf Try.f6 7) Q (fun W => Below W0.heap.size W0 W) 13 #[true, true, true, true, true, true, false, false, true, true, true, true, false, false, false, false, false, false, false, false, false, false, false] { tmps := #[x0, x1, x2, x3, x4, x5, .int .i64 n, x7, x8, x9, x10, x11, x12, x13, x14, x15, x16, x17, x18, x19, x20, x21, x22, x23, x24, x25, x26, x27, x28, x29, x30, x31, x32, x33, x34, x35, x36, x37, x38, x39, x40, x41, x42, x43, x44, x45, x46, x47, x48, .int .i64 n, .int .i64 (n / 256), .int .u8 (n / 256), .int .i64 n, .int .i64 (n % 256), .int .u8 (n % 256), x55, x56, .int .i64 n, .int .i64 (m : Int), .slice (some ⟨DN, 0, none⟩) m m, .string (nulN10 m), x61, x62, x63, x64, x65, x66, x67, x68, x69, x70, x71, x72, x73, x74, x75, x76, x77, x78, x79, x80, x81, x82, x83, x84, x85, x86, x87, x88, x89, x90, x91, x92, x93, x94, x95, x96, x97, x98, x99, x100, x101, x102, x103, x104, x105, x106, x107, x108, x109, x110, x111, x112, x113, x114, x115, x116, x117, x118, x119, x120, x121, x122, x123, x124, x125, x126, x127, x128, x129, x130, x131, x132, x133, x134, x135, x136, x137, x138, x139, x140, x141, x142, x143, x144, x145, x146, x147, x148, x149, x150, x151, x152, x153, x154, x155, x156, x157, x158, x159, x160], defers := [] } W := by
    intro W DN hB
    refine wpAnyH_ready (by kernel_rfl) (by simp) (AllReadyH.cons (i := 6) (at_nth rfl) ?_ (AllReadyH.cons (i := 19) (at_nth rfl) ?_ (AllReadyH.nil)))
    · have iB := Is.new W 5 #[.int .u8 0, .int .u8 0, .int .u8 (n / 256), .int .u8 (n % 256)]
      replace hB := hB.alloc hB.size (.cells #[.int .u8 0, .int .u8 0, .int .u8 (n / 256), .int .u8 (n % 256)] 5)
      refine arm10_value (v := .slice (some ⟨W.heap.size, 0, none⟩) 4 4) (w' := W.alloc (.cells #[.int .u8 0, .int .u8 0, .int .u8 (n / 256), .int .u8 (n % 256)] 5)) (by kernel_rfl) (by go_simp) hB ?_
      simp only [Act.put, List.setIfInBounds_toArray, List.set_cons_succ, List.set_cons_zero]
      exact ST6_10_11 _ _ _ hB iB
    · have iD := Is.new W 24 #[.string ⟨#[]⟩, .int .i64 0]
      have hDD : W0.heap.size ≤ W.heap.size := hB.size
      replace hB := hB.alloc hB.size (.cells #[.string ⟨#[]⟩, .int .i64 0] 24)
      refine arm10_value (by kernel_rfl) (run_allocC10 _ (by kernel_rfl)) hB ?_
      simp only [Act.put, List.setIfInBounds_toArray, List.set_cons_succ, List.set_cons_zero]
      exact ST10_11_19 _ _ _ hB hDD iD
  have ST10_19 : ∀ (W : World) (DN : Nat) (DD : Nat), Below W0.heap.size W0 W → W0.heap.size ≤ DD → Is W DN 5 (nulC10 m) → Is W DD 24 #[.string ⟨#[]⟩, .int .i64 0] → wpAnyH Try.prog .any (opsOf Try.f6 7) Q (fun W => Below W0.heap.size W0 W) 13 #[true, true, true, true, true, true, false, false, true, true, true, false, false, false, false, false, false, false, false, true, false, false, false] { tmps := #[x0, x1, x2, x3, x4, x5, .int .i64 n, x7, x8, x9, x10, x11, x12, x13, x14, .pointer (some ⟨DD, 0, none⟩), x16, x17, x18, x19, x20, x21, x22, x23, x24, x25, x26, x27, x28, x29, x30, x31, x32, x33, x34, x35, x36, x37, x38, x39, x40, x41, x42, x43, x44, x45, x46, x47, x48, .int .i64 n, .int .i64 (n / 256), .int .u8 (n / 256), .int .i64 n, .int .i64 (n % 256), .int .u8 (n % 256), x55, x56, .int .i64 n, .int .i64 (m : Int), .slice (some ⟨DN, 0, none⟩) m m, x60, x61, x62, x63, x64, x65, x66, x67, x68, x69, x70, x71, x72, x73, x74, x75, x76, x77, x78, x79, x80, x81, x82, x83, x84, x85, x86, x87, x88, x89, x90, x91, x92, x93, x94, x95, x96, x97, x98, x99, x100, x101, x102, x103, x104, x105, x106, x107, x108, x109, x110, x111, x112, x113, x114, x115, x116, x117, x118, x119, x120, x121, x122, x123, x124, x125, x126, x127, x128, x129, x130, x131, x132, x133, x134, x135, x136, x137, x138, x139, x140, x141, x142, x143, x144, x145, x146, x147, x148, x149, x150, x151, x152, x153, x154, x155, x156, x157, x158, x159, x160], defers := [] } W := by
    intro W DN DD hB hDD iN iD
    refine wpAnyH_ready (by kernel_rfl) (by simp) (AllReadyH.cons (i := 6) (at_nth rfl) ?_ (AllReadyH.cons (i := 11) (at_nth rfl) ?_ (AllReadyH.nil)))
    · have iB := Is.new W 5 #[.int .u8 0, .int .u8 0, .int .u8 (n / 256), .int .u8 (n % 256)]
      replace iN := iN.alloc (.cells #[.int .u8 0, .int .u8 0, .int .u8 (n / 256), .int .u8 (n % 256)] 5)
      replace iD := iD.alloc (.cells #[.int .u8 0, .int .u8 0, .int .u8 (n / 256), .int .u8 (n % 256)] 5)
      replace hB := hB.alloc hB.size (.cells #[.int .u8 0, .int .u8 0, .int .u8 (n / 256), .int .u8 (n % 256)] 5)
      refine arm10_value (v := .slice (some ⟨W.heap.size, 0, none⟩) 4 4) (w' := W.alloc (.cells #[.int .u8 0, .int .u8 0, .int .u8 (n / 256), .int .u8 (n % 256)] 5)) (by kernel_rfl) (by go_simp) hB ?_
      simp only [Act.put, List.setIfInBounds_toArray, List.set_cons_succ, List.set_cons_zero]
      exact ST6_10_19 _ _ _ _ hB hDD iB iN iD
    · refine arm10_value (v := .string (nulN10 m)) (w' := W) (by kernel_rfl) (exec_conv10 (x := .tmp 59) (t := 47) (t2 := 9) (by kernel_rfl) (by kernel_rfl) (run_convN10 iN)) hB ?_
      simp only [Act.put, List.setIfInBounds_toArray, List.set_cons_succ, List.set_cons_zero]
      clear iN
      exact ST10_11_19 _ _ _ hB hDD iD
  have ST10 : ∀ (W : World) (DN : Nat), Below W0.heap.size W0 W → Is W DN 5 (nulC10 m) → wpAnyH Try.prog .any (opsOf Try.f6 7) Q (fun W => Below W0.heap.size W0 W) 14 #[true, true, true, true, true, true, false, false, true, true, true, false, false, false, false, false, false, false, false, false, false, false, false] { tmps := #[x0, x1, x2, x3, x4, x5, .int .i64 n, x7, x8, x9, x10, x11, x12, x13, x14, x15, x16, x17, x18, x19, x20, x21, x22, x23, x24, x25, x26, x27, x28, x29, x30, x31, x32, x33, x34, x35, x36, x37, x38, x39, x40, x41, x42, x43, x44, x45, x46, x47, x48, .int .i64 n, .int .i64 (n / 256), .int .u8 (n / 256), .int .i64 n, .int .i64 (n % 256), .int .u8 (n % 256), x55, x56, .int .i64 n, .int .i64 (m : Int), .slice (some ⟨DN, 0, none⟩) m m, x60, x61, x62, x63, x64, x65, x66, x67, x68, x69, x70, x71, x72, x73, x74, x75, x76, x77, x78, x79, x80, x81, x82, x83, x84, x85, x86, x87, x88, x89, x90, x91, x92, x93, x94, x95, x96, x97, x98, x99, x100, x101, x102, x103, x104, x105, x106, x107, x108, x109, x110, x111, x112, x113, x114, x115, x116, x117, x118, x119, x120, x121, x122, x123, x124, x125, x126, x127, x128, x129, x130, x131, x132, x133, x134, x135, x136, x137, x138, x139, x140, x141, x142, x143, x144, x145, x146, x147, x148, x149, x150, x151, x152, x153, x154, x155, x156, x157, x158, x159, x160], defers := [] } W := by
    intro W DN hB iN
    refine wpAnyH_ready (by kernel_rfl) (by simp) (AllReadyH.cons (i := 6) (at_nth rfl) ?_ (AllReadyH.cons (i := 11) (at_nth rfl) ?_ (AllReadyH.cons (i := 19) (at_nth rfl) ?_ (AllReadyH.nil))))
    · have iB := Is.new W 5 #[.int .u8 0, .int .u8 0, .int .u8 (n / 256), .int .u8 (n % 256)]
      replace iN := iN.alloc (.cells #[.int .u8 0, .int .u8 0, .int .u8 (n / 256), .int .u8 (n % 256)] 5)
      replace hB := hB.alloc hB.size (.cells #[.int .u8 0, .int .u8 0, .int .u8 (n / 256), .int .u8 (n % 256)] 5)
      refine arm10_value (v := .slice (some ⟨W.heap.size, 0, none⟩) 4 4) (w' := W.alloc (.cells #[.int .u8 0, .int .u8 0, .int .u8 (n / 256), .int .u8 (n % 256)] 5)) (by kernel_rfl) (by go_simp) hB ?_
      simp only [Act.put, List.setIfInBounds_toArray, List.set_cons_succ, List.set_cons_zero]
      exact ST6_10 _ _ _ hB iB iN
    · refine arm10_value (v := .string (nulN10 m)) (w' := W) (by kernel_rfl) (exec_conv10 (x := .tmp 59) (t := 47) (t2 := 9) (by kernel_rfl) (by kernel_rfl) (run_convN10 iN)) hB ?_
      simp only [Act.put, List.setIfInBounds_toArray, List.set_cons_succ, List.set_cons_zero]
      clear iN
      exact ST10_11 _ _ hB
    · have iD := Is.new W 24 #[.string ⟨#[]⟩, .int .i64 0]
      have hDD : W0.heap.size ≤ W.heap.size := hB.size
      replace iN := iN.alloc (.cells #[.string ⟨#[]⟩, .int .i64 0] 24)
      replace hB := hB.alloc hB.size (.cells #[.string ⟨#[]⟩, .int .i64 0] 24)
      refine arm10_value (by kernel_rfl) (run_allocC10 _ (by kernel_rfl)) hB ?_
      simp only [Act.put, List.setIfInBounds_toArray, List.set_cons_succ, List.set_cons_zero]
      exact ST10_19 _ _ _ hB hDD iN iD
  have ST19 : ∀ (W : World) (DD : Nat), Below W0.heap.size W0 W → W0.heap.size ≤ DD → Is W DD 24 #[.string ⟨#[]⟩, .int .i64 0] → wpAnyH Try.prog .any (opsOf Try.f6 7) Q (fun W => Below W0.heap.size W0 W) 14 #[true, true, true, true, true, true, false, false, true, true, false, false, false, false, false, false, false, false, false, true, false, false, false] { tmps := #[x0, x1, x2, x3, x4, x5, .int .i64 n, x7, x8, x9, x10, x11, x12, x13, x14, .pointer (some ⟨DD, 0, none⟩), x16, x17, x18, x19, x20, x21, x22, x23, x24, x25, x26, x27, x28, x29, x30, x31, x32, x33, x34, x35, x36, x37, x38, x39, x40, x41, x42, x43, x44, x45, x46, x47, x48, .int .i64 n, .int .i64 (n / 256), .int .u8 (n / 256), .int .i64 n, .int .i64 (n % 256), .int .u8 (n % 256), x55, x56, .int .i64 n, .int .i64 (m : Int), x59, x60, x61, x62, x63, x64, x65, x66, x67, x68, x69, x70, x71, x72, x73, x74, x75, x76, x77, x78, x79, x80, x81, x82, x83, x84, x85, x86, x87, x88, x89, x90, x91, x92, x93, x94, x95, x96, x97, x98, x99, x100, x101, x102, x103, x104, x105, x106, x107, x108, x109, x110, x111, x112, x113, x114, x115, x116, x117, x118, x119, x120, x121, x122, x123, x124, x125, x126, x127, x128, x129, x130, x131, x132, x133, x134, x135, x136, x137, x138, x139, x140, x141, x142, x143, x144, x145, x146, x147, x148, x149, x150, x151, x152, x153, x154, x155, x156, x157, x158, x159, x160], defers := [] } W := by
    intro W DD hB hDD iD
    refine wpAnyH_ready (by kernel_rfl) (by simp) (AllReadyH.cons (i := 6) (at_nth rfl) ?_ (AllReadyH.cons (i := 10) (at_nth rfl) ?_ (AllReadyH.nil)))
    · have iB := Is.new W 5 #[.int .u8 0, .int .u8 0, .int .u8 (n / 256), .int .u8 (n % 256)]
      replace iD := iD.alloc (.cells #[.int .u8 0, .int .u8 0, .int .u8 (n / 256), .int .u8 (n % 256)] 5)
      replace hB := hB.alloc hB.size (.cells #[.int .u8 0, .int .u8 0, .int .u8 (n / 256), .int .u8 (n % 256)] 5)
      refine arm10_value (v := .slice (some ⟨W.heap.size, 0, none⟩) 4 4) (w' := W.alloc (.cells #[.int .u8 0, .int .u8 0, .int .u8 (n / 256), .int .u8 (n % 256)] 5)) (by kernel_rfl) (by go_simp) hB ?_
      simp only [Act.put, List.setIfInBounds_toArray, List.set_cons_succ, List.set_cons_zero]
      exact ST6_19 _ _ _ hB hDD iB iD
    · have iN := Is.new W 5 (nulC10 m)
      replace iD := iD.alloc (.cells (nulC10 m) 5)
      replace hB := hB.alloc hB.size (.cells (nulC10 m) 5)
      refine arm10_value (v := .slice (some ⟨W.heap.size, 0, none⟩) m m) (w' := W.alloc (.cells (nulC10 m) 5)) (by kernel_rfl) (exec_make10 (x := .tmp 58) (t := 47) (by kernel_rfl) (by kernel_rfl) (run_makeN10 W m hm)) hB ?_
      simp only [Act.put, List.setIfInBounds_toArray, List.set_cons_succ, List.set_cons_zero]
      exact ST10_19 _ _ _ hB hDD iN iD
  have ST : ∀ (W : World), Below W0.heap.size W0 W → wpAnyH Try.prog .any (opsOf Try.f6 7) Q (fun W => Below W0.heap.size W0 W) 15 #[true, true, true, true, true, true, false, false, true, true, false, false, false, false, false, false, false, false, false, false, false, false, false] { tmps := #[x0, x1, x2, x3, x4, x5, .int .i64 n, x7, x8, x9, x10, x11, x12, x13, x14, x15, x16, x17, x18, x19, x20, x21, x22, x23, x24, x25, x26, x27, x28, x29, x30, x31, x32, x33, x34, x35, x36, x37, x38, x39, x40, x41, x42, x43, x44, x45, x46, x47, x48, .int .i64 n, .int .i64 (n / 256), .int .u8 (n / 256), .int .i64 n, .int .i64 (n % 256), .int .u8 (n % 256), x55, x56, .int .i64 n, .int .i64 (m : Int), x59, x60, x61, x62, x63, x64, x65, x66, x67, x68, x69, x70, x71, x72, x73, x74, x75, x76, x77, x78, x79, x80, x81, x82, x83, x84, x85, x86, x87, x88, x89, x90, x91, x92, x93, x94, x95, x96, x97, x98, x99, x100, x101, x102, x103, x104, x105, x106, x107, x108, x109, x110, x111, x112, x113, x114, x115, x116, x117, x118, x119, x120, x121, x122, x123, x124, x125, x126, x127, x128, x129, x130, x131, x132, x133, x134, x135, x136, x137, x138, x139, x140, x141, x142, x143, x144, x145, x146, x147, x148, x149, x150, x151, x152, x153, x154, x155, x156, x157, x158, x159, x160], defers := [] } W := by
    intro W hB
    refine wpAnyH_ready (by kernel_rfl) (by simp) (AllReadyH.cons (i := 6) (at_nth rfl) ?_ (AllReadyH.cons (i := 10) (at_nth rfl) ?_ (AllReadyH.cons (i := 19) (at_nth rfl) ?_ (AllReadyH.nil))))
    · have iB := Is.new W 5 #[.int .u8 0, .int .u8 0, .int .u8 (n / 256), .int .u8 (n % 256)]
      replace hB := hB.alloc hB.size (.cells #[.int .u8 0, .int .u8 0, .int .u8 (n / 256), .int .u8 (n % 256)] 5)
      refine arm10_value (v := .slice (some ⟨W.heap.size, 0, none⟩) 4 4) (w' := W.alloc (.cells #[.int .u8 0, .int .u8 0, .int .u8 (n / 256), .int .u8 (n % 256)] 5)) (by kernel_rfl) (by go_simp) hB ?_
      simp only [Act.put, List.setIfInBounds_toArray, List.set_cons_succ, List.set_cons_zero]
      exact ST6 _ _ hB iB
    · have iN := Is.new W 5 (nulC10 m)
      replace hB := hB.alloc hB.size (.cells (nulC10 m) 5)
      refine arm10_value (v := .slice (some ⟨W.heap.size, 0, none⟩) m m) (w' := W.alloc (.cells (nulC10 m) 5)) (by kernel_rfl) (exec_make10 (x := .tmp 58) (t := 47) (by kernel_rfl) (by kernel_rfl) (run_makeN10 W m hm)) hB ?_
      simp only [Act.put, List.setIfInBounds_toArray, List.set_cons_succ, List.set_cons_zero]
      exact ST10 _ _ hB iN
    · have iD := Is.new W 24 #[.string ⟨#[]⟩, .int .i64 0]
      have hDD : W0.heap.size ≤ W.heap.size := hB.size
      replace hB := hB.alloc hB.size (.cells #[.string ⟨#[]⟩, .int .i64 0] 24)
      refine arm10_value (by kernel_rfl) (run_allocC10 _ (by kernel_rfl)) hB ?_
      simp only [Act.put, List.setIfInBounds_toArray, List.set_cons_succ, List.set_cons_zero]
      exact ST19 _ _ hB hDD iD
  refine wp_region_held_drew (S := fun W => Below W0.heap.size W0 W) (by kernel_rfl) hB (fun hS => ?_)
  change wpAnyH _ _ (opsOf Try.f6 7) _ _ 23 (Array.replicate 23 false) _ (W0.drewN 1)
  clear hS
  replace hB : Below W0.heap.size W0 (W0.drewN 1) := belowN (Below.refl _ _) 1
  refine wpAnyH_pure (i := 0) (v := .int .i64 n) (at_nth rfl) (by kernel_rfl) (by kernel_rfl) (by kernel_rfl) (fun _ _ _ h => absurd h (HQN _ _ _)) (by kernel_rfl) (fun w hSw => by kernel_rfl) hB ?_
  simp only [Act.put, List.setIfInBounds_toArray, List.set_cons_succ, List.set_cons_zero]
  refine wpAnyH_pure (i := 1) (v := .int .i64 (n / 256)) (at_nth rfl) (by kernel_rfl) (by kernel_rfl) (by kernel_rfl) (fun _ _ _ h => absurd h (HQN _ _ _)) (by kernel_rfl) (fun w hSw => by exact exec_bin10 rfl rfl rfl (quo10 hn.1 hn.2 _) (by go_simp)) hB ?_
  simp only [Act.put, List.setIfInBounds_toArray, List.set_cons_succ, List.set_cons_zero]
  refine wpAnyH_pure (i := 2) (v := .int .u8 (n / 256)) (at_nth rfl) (by kernel_rfl) (by kernel_rfl) (by kernel_rfl) (fun _ _ _ h => absurd h (HQN _ _ _)) (by kernel_rfl) (fun w hSw => by (have q1 := HU1.out; go_simp)) hB ?_
  simp only [Act.put, List.setIfInBounds_toArray, List.set_cons_succ, List.set_cons_zero]
  refine wpAnyH_pure (i := 3) (v := .int .i64 n) (at_nth rfl) (by kernel_rfl) (by kernel_rfl) (by kernel_rfl) (fun _ _ _ h => absurd h (HQN _ _ _)) (by kernel_rfl) (fun w hSw => by kernel_rfl) hB ?_
  simp only [Act.put, List.setIfInBounds_toArray, List.set_cons_succ, List.set_cons_zero]
  refine wpAnyH_pure (i := 4) (v := .int .i64 (n % 256)) (at_nth rfl) (by kernel_rfl) (by kernel_rfl) (by kernel_rfl) (fun _ _ _ h => absurd h (HQN _ _ _)) (by kernel_rfl) (fun w hSw => by exact exec_bin10 rfl rfl rfl (rem10 hn.1 hn.2 _) (by go_simp)) hB ?_
  simp only [Act.put, List.setIfInBounds_toArray, List.set_cons_succ, List.set_cons_zero]
  refine wpAnyH_pure (i := 5) (v := .int .u8 (n % 256)) (at_nth rfl) (by kernel_rfl) (by kernel_rfl) (by kernel_rfl) (fun _ _ _ h => absurd h (HQN _ _ _)) (by kernel_rfl) (fun w hSw => by (have q1 := HU2.out; go_simp)) hB ?_
  simp only [Act.put, List.setIfInBounds_toArray, List.set_cons_succ, List.set_cons_zero]
  refine wpAnyH_pure (i := 8) (v := .int .i64 n) (at_nth rfl) (by kernel_rfl) (by kernel_rfl) (by kernel_rfl) (fun _ _ _ h => absurd h (HQN _ _ _)) (by kernel_rfl) (fun w hSw => by kernel_rfl) hB ?_
  simp only [Act.put, List.setIfInBounds_toArray, List.set_cons_succ, List.set_cons_zero]
  refine wpAnyH_pure (i := 9) (v := .int .i64 (m : Int)) (at_nth rfl) (by kernel_rfl) (by kernel_rfl) (by kernel_rfl) (fun _ _ _ h => absurd h (HQN _ _ _)) (by kernel_rfl) (fun w hSw => by (rw [← HM.out]; exact exec_bin10 rfl rfl rfl (mulI10 (by omega) _) (by go_simp))) hB ?_
  simp only [Act.put, List.setIfInBounds_toArray, List.set_cons_succ, List.set_cons_zero]
  exact ST _ hB
end Go.Proofs.Ytploljgamimlpaa
