/-
  OracleDraws's regions that draw their order: oracles are asked.
-/
import Derived.Test.YtfgdcpolfekgjaaGreatGOr2
namespace Go.Proofs.YtfgdcpolfekgjaaGreat
open Go.RowKit Go.Shelf

set_option maxRecDepth 100000 in
set_option maxHeartbeats 8000000 in
theorem draws9_lab (W0 : World) (o o' : Ora) (A1 : Option Addr) (c1 : Nat) (A2 : Option Addr) (c2 : Nat) (DO : Nat) (iO : Is W0 DO 31 (oraL o A1 c1 A2 c2)) (hA : ∀ p, A1 = some p → p.block < W0.heap.size) (hA' : ∀ p, A2 = some p → p.block < W0.heap.size)
    (n1 n2 n3 : Int) (DN : Nat) (hn1 : DN < W0.heap.size ∧ W0.cell? ⟨DN, 1, none⟩ = some (.int .i64 n1)) (hn2 : DN < W0.heap.size ∧ W0.cell? ⟨DN, 2, none⟩ = some (.int .i64 n2)) (hn3 : DN < W0.heap.size ∧ W0.cell? ⟨DN, 3, none⟩ = some (.int .i64 n3))
    (wd : ByteArray) (ep ct : Int) (WD : Hid (∀ W, Calls Tryz.prog 15 #[.int .i64 n1] W fun e w' => e = .returned (.string wd) ∧ Below W.heap.size W w')) (PE : Hid (∀ W, Calls Tryz.prog 11 #[.int .i64 n2, .int .i64 3] W fun e w' => e = .returned (.int .i64 ep) ∧ W = w')) (PC : Hid (∀ W, Calls Tryz.prog 11 #[.int .i64 n3, .int .i64 4] W fun e w' => e = .returned (.int .i64 ct) ∧ W = w'))
    (r : ByteArray) (CL : Hid (∀ W, Below W0.heap.size W0 W → Calls Tryz.prog 18 #[oraV o A1 c1 A2 c2, .string wd, .int .i64 ep, .int .i64 ct] W fun e w' => ∃ F1 f1 F2 f2, e = .returned (.tuple #[.string r, oraV o' F1 f1 F2 f2, .int .i64 0]) ∧ InI w' o'.d F1 f1 F2 f2 ∧ Below W.heap.size W w' ∧ Own8 W w' A1 F1 ∧ Own8 W w' A2 F2)) (x0 x1 x2 x3 x4 x5 x6 x7 x8 x9 x11 x13 x14 x15 x16 x17 x18 x19 x20 x21 x22 x23 x24 x25 x26 x27 x28 x29 x30 x31 x32 x33 x34 x35 x36 x37 x38 x39 x40 x41 x42 x43 x44 x45 x46 x47 x48 x49 x50 x51 x52 x53 x54 x55 x56 x57 x58 x59 x60 x61 x62 x63 x64 x65 x66 x67 x68 x69 x70 x71 x72 x73 x74 x75 x76 x77 x78 x79 x80 x81 x82 x83 x84 x85 x86 x87 x88 x89 x90 x91 x92 x93 x94 x95 x96 x97 x98 x99 x100 x101 x102 x103 x104 x105 x106 x107 x108 x109 x110 x111 x112 x113 x114 x115 x116 x117 x118 x119 x120 x121 x122 x123 x124 x125 x126 x127 x128 x129 x130 x131 x132 x133 x134 x135 x136 x137 x138 x139 x140 x141 x142 x143 x144 x145 x146 x147 x148 x149 x150 : Value) :
    (Code.region 7 (opsOf Tryz.f7 7) true).wp Tryz.prog (fun ex YY W => ex = .normal ∧ YY.defers = [] ∧ ∃ (F1 : Option Addr) (f1 : Nat) (F2 : Option Addr) (f2 : Nat) (DD : Nat), YY.tmps = #[x0, x1, x2, x3, x4, x5, x6, x7, x8, x9, .pointer (some ⟨DO, 0, none⟩), x11, .pointer (some ⟨DN, 0, none⟩), .string r, .pointer (some ⟨DD, 0, none⟩), .int .i64 0, x16, x17, x18, x19, x20, x21, x22, x23, x24, x25, x26, x27, x28, x29, x30, x31, x32, x33, x34, x35, x36, x37, x38, x39, x40, x41, .tuple #[.string r, (oraV o' F1 f1 F2 f2), .int .i64 0], .agg (oraL o A1 c1 A2 c2), .pointer (some ⟨DN, 1, none⟩), .int .i64 n1, .string wd, .pointer (some ⟨DN, 2, none⟩), .int .i64 n2, .int .i64 ep, .pointer (some ⟨DN, 3, none⟩), .int .i64 n3, .int .i64 ct, .tuple #[.string r, (oraV o' F1 f1 F2 f2), .int .i64 0], .string r, (oraV o' F1 f1 F2 f2), .int .i64 0, x57, x58, x59, x60, x61, x62, x63, x64, x65, x66, x67, x68, x69, x70, x71, x72, x73, x74, x75, x76, x77, x78, x79, x80, x81, x82, x83, x84, x85, x86, x87, x88, x89, x90, x91, x92, x93, x94, x95, x96, x97, x98, x99, x100, x101, x102, x103, x104, x105, x106, x107, x108, x109, x110, x111, x112, x113, x114, x115, x116, x117, x118, x119, x120, x121, x122, x123, x124, x125, x126, x127, x128, x129, x130, x131, x132, x133, x134, x135, x136, x137, x138, x139, x140, x141, x142, x143, x144, x145, x146, x147, x148, x149, x150] ∧ Below W0.heap.size W0 W ∧ W0.heap.size ≤ DD ∧ Is W DD 31 (oraL o' F1 f1 F2 f2) ∧ InI W o'.d F1 f1 F2 f2 ∧ Own8 W0 W A1 F1 ∧ Own8 W0 W A2 F2 ∧ (∀ p, F1 = some p → p.block < W.heap.size) ∧ (∀ p, F2 = some p → p.block < W.heap.size) ∧ (∀ p, F1 = some p → (some DD : Option Nat) ≠ some p.block) ∧ (∀ p, F2 = some p → (some DD : Option Nat) ≠ some p.block)) { tmps := #[x0, x1, x2, x3, x4, x5, x6, x7, x8, x9, .pointer (some ⟨DO, 0, none⟩), x11, .pointer (some ⟨DN, 0, none⟩), x13, x14, x15, x16, x17, x18, x19, x20, x21, x22, x23, x24, x25, x26, x27, x28, x29, x30, x31, x32, x33, x34, x35, x36, x37, x38, x39, x40, x41, x42, x43, x44, x45, x46, x47, x48, x49, x50, x51, x52, x53, x54, x55, x56, x57, x58, x59, x60, x61, x62, x63, x64, x65, x66, x67, x68, x69, x70, x71, x72, x73, x74, x75, x76, x77, x78, x79, x80, x81, x82, x83, x84, x85, x86, x87, x88, x89, x90, x91, x92, x93, x94, x95, x96, x97, x98, x99, x100, x101, x102, x103, x104, x105, x106, x107, x108, x109, x110, x111, x112, x113, x114, x115, x116, x117, x118, x119, x120, x121, x122, x123, x124, x125, x126, x127, x128, x129, x130, x131, x132, x133, x134, x135, x136, x137, x138, x139, x140, x141, x142, x143, x144, x145, x146, x147, x148, x149, x150], defers := [] } W0 := by
  have HO := Lib.hid (fun (W : World) (hb : Below W0.heap.size W0 W) => iO.below hb iO.lt)
  have HN1 := Lib.hid (fun (W : World) (hb : Below W0.heap.size W0 W) => (hb.cell (p := ⟨DN, 1, none⟩) hn1.1).trans hn1.2)
  have HN2 := Lib.hid (fun (W : World) (hb : Below W0.heap.size W0 W) => (hb.cell (p := ⟨DN, 2, none⟩) hn2.1).trans hn2.2)
  have HN3 := Lib.hid (fun (W : World) (hb : Below W0.heap.size W0 W) => (hb.cell (p := ⟨DN, 3, none⟩) hn3.1).trans hn3.2)
  have hB : Below W0.heap.size W0 (W0.drewN 1) := belowN (Below.refl _ _) 1
  generalize hQ : (fun (ex : Exit) (YY : Act) (W : World) => ex = .normal ∧ YY.defers = [] ∧ ∃ (F1 : Option Addr) (f1 : Nat) (F2 : Option Addr) (f2 : Nat) (DD : Nat), YY.tmps = #[x0, x1, x2, x3, x4, x5, x6, x7, x8, x9, .pointer (some ⟨DO, 0, none⟩), x11, .pointer (some ⟨DN, 0, none⟩), .string r, .pointer (some ⟨DD, 0, none⟩), .int .i64 0, x16, x17, x18, x19, x20, x21, x22, x23, x24, x25, x26, x27, x28, x29, x30, x31, x32, x33, x34, x35, x36, x37, x38, x39, x40, x41, .tuple #[.string r, (oraV o' F1 f1 F2 f2), .int .i64 0], .agg (oraL o A1 c1 A2 c2), .pointer (some ⟨DN, 1, none⟩), .int .i64 n1, .string wd, .pointer (some ⟨DN, 2, none⟩), .int .i64 n2, .int .i64 ep, .pointer (some ⟨DN, 3, none⟩), .int .i64 n3, .int .i64 ct, .tuple #[.string r, (oraV o' F1 f1 F2 f2), .int .i64 0], .string r, (oraV o' F1 f1 F2 f2), .int .i64 0, x57, x58, x59, x60, x61, x62, x63, x64, x65, x66, x67, x68, x69, x70, x71, x72, x73, x74, x75, x76, x77, x78, x79, x80, x81, x82, x83, x84, x85, x86, x87, x88, x89, x90, x91, x92, x93, x94, x95, x96, x97, x98, x99, x100, x101, x102, x103, x104, x105, x106, x107, x108, x109, x110, x111, x112, x113, x114, x115, x116, x117, x118, x119, x120, x121, x122, x123, x124, x125, x126, x127, x128, x129, x130, x131, x132, x133, x134, x135, x136, x137, x138, x139, x140, x141, x142, x143, x144, x145, x146, x147, x148, x149, x150] ∧ Below W0.heap.size W0 W ∧ W0.heap.size ≤ DD ∧ Is W DD 31 (oraL o' F1 f1 F2 f2) ∧ InI W o'.d F1 f1 F2 f2 ∧ Own8 W0 W A1 F1 ∧ Own8 W0 W A2 F2 ∧ (∀ p, F1 = some p → p.block < W.heap.size) ∧ (∀ p, F2 = some p → p.block < W.heap.size) ∧ (∀ p, F1 = some p → (some DD : Option Nat) ≠ some p.block) ∧ (∀ p, F2 = some p → (some DD : Option Nat) ≠ some p.block)) = Q
  have HQN : ∀ c a W, ¬ Q (.panic c) a W := fun c a W h => by subst hQ; exact nomatch h.1
  have ST3_6_9_10_15_17 : ∀ (W : World) (F1 : Option Addr) (f1 : Nat) (F2 : Option Addr) (f2 : Nat) (DD : Nat), Below W0.heap.size W0 W → W0.heap.size ≤ DD → Is W DD 31 (oraL o' F1 f1 F2 f2) → InI W o'.d F1 f1 F2 f2 → Own8 W0 W A1 F1 → Own8 W0 W A2 F2 → (∀ p, F1 = some p → p.block < W.heap.size) → (∀ p, F2 = some p → p.block < W.heap.size) → (∀ p, F1 = some p → (some DD : Option Nat) ≠ some p.block) → (∀ p, F2 = some p → (some DD : Option Nat) ≠ some p.block) → wpAnyH Tryz.prog .any (opsOf Tryz.f7 7) Q (fun W => Below W0.heap.size W0 W) 0 #[true, true, true, true, true, true, true, true, true, true, true, true, true, true, true, true, true, true, true] { tmps := #[x0, x1, x2, x3, x4, x5, x6, x7, x8, x9, .pointer (some ⟨DO, 0, none⟩), x11, .pointer (some ⟨DN, 0, none⟩), .string r, .pointer (some ⟨DD, 0, none⟩), .int .i64 0, x16, x17, x18, x19, x20, x21, x22, x23, x24, x25, x26, x27, x28, x29, x30, x31, x32, x33, x34, x35, x36, x37, x38, x39, x40, x41, .tuple #[.string r, (oraV o' F1 f1 F2 f2), .int .i64 0], .agg (oraL o A1 c1 A2 c2), .pointer (some ⟨DN, 1, none⟩), .int .i64 n1, .string wd, .pointer (some ⟨DN, 2, none⟩), .int .i64 n2, .int .i64 ep, .pointer (some ⟨DN, 3, none⟩), .int .i64 n3, .int .i64 ct, .tuple #[.string r, (oraV o' F1 f1 F2 f2), .int .i64 0], .string r, (oraV o' F1 f1 F2 f2), .int .i64 0, x57, x58, x59, x60, x61, x62, x63, x64, x65, x66, x67, x68, x69, x70, x71, x72, x73, x74, x75, x76, x77, x78, x79, x80, x81, x82, x83, x84, x85, x86, x87, x88, x89, x90, x91, x92, x93, x94, x95, x96, x97, x98, x99, x100, x101, x102, x103, x104, x105, x106, x107, x108, x109, x110, x111, x112, x113, x114, x115, x116, x117, x118, x119, x120, x121, x122, x123, x124, x125, x126, x127, x128, x129, x130, x131, x132, x133, x134, x135, x136, x137, x138, x139, x140, x141, x142, x143, x144, x145, x146, x147, x148, x149, x150], defers := [] } W := by
    intro W F1 f1 F2 f2 DD hB hDD iE nI o1 o2 l1 l2 d1 d2
    refine wpAnyH_done (by kernel_rfl) ?_ _
    subst hQ
    exact ⟨rfl, rfl, F1, f1, F2, f2, DD, rfl, hB, hDD, iE, nI, o1, o2, l1, l2, d1, d2⟩
  have ST3_6_9_10_15 : ∀ (W : World) (F1 : Option Addr) (f1 : Nat) (F2 : Option Addr) (f2 : Nat) (DD : Nat), Below W0.heap.size W0 W → W0.heap.size ≤ DD → Is W DD 31 zer9 → InI W o'.d F1 f1 F2 f2 → Own8 W0 W A1 F1 → Own8 W0 W A2 F2 → (∀ p, F1 = some p → p.block < W.heap.size) → (∀ p, F2 = some p → p.block < W.heap.size) → (∀ p, F1 = some p → (some DD : Option Nat) ≠ some p.block) → (∀ p, F2 = some p → (some DD : Option Nat) ≠ some p.block) → wpAnyH Tryz.prog .any (opsOf Tryz.f7 7) Q (fun W => Below W0.heap.size W0 W) 2 #[true, true, true, true, true, true, true, true, true, true, true, true, true, true, true, true, true, false, false] { tmps := #[x0, x1, x2, x3, x4, x5, x6, x7, x8, x9, .pointer (some ⟨DO, 0, none⟩), x11, .pointer (some ⟨DN, 0, none⟩), .string r, .pointer (some ⟨DD, 0, none⟩), x15, x16, x17, x18, x19, x20, x21, x22, x23, x24, x25, x26, x27, x28, x29, x30, x31, x32, x33, x34, x35, x36, x37, x38, x39, x40, x41, .tuple #[.string r, (oraV o' F1 f1 F2 f2), .int .i64 0], .agg (oraL o A1 c1 A2 c2), .pointer (some ⟨DN, 1, none⟩), .int .i64 n1, .string wd, .pointer (some ⟨DN, 2, none⟩), .int .i64 n2, .int .i64 ep, .pointer (some ⟨DN, 3, none⟩), .int .i64 n3, .int .i64 ct, .tuple #[.string r, (oraV o' F1 f1 F2 f2), .int .i64 0], .string r, (oraV o' F1 f1 F2 f2), .int .i64 0, x57, x58, x59, x60, x61, x62, x63, x64, x65, x66, x67, x68, x69, x70, x71, x72, x73, x74, x75, x76, x77, x78, x79, x80, x81, x82, x83, x84, x85, x86, x87, x88, x89, x90, x91, x92, x93, x94, x95, x96, x97, x98, x99, x100, x101, x102, x103, x104, x105, x106, x107, x108, x109, x110, x111, x112, x113, x114, x115, x116, x117, x118, x119, x120, x121, x122, x123, x124, x125, x126, x127, x128, x129, x130, x131, x132, x133, x134, x135, x136, x137, x138, x139, x140, x141, x142, x143, x144, x145, x146, x147, x148, x149, x150], defers := [] } W := by
    intro W F1 f1 F2 f2 DD hB hDD iD nI o1 o2 l1 l2 d1 d2
    refine wpAnyH_ready (by kernel_rfl) (by simp) (AllReadyH.cons (i := 17) (at_nth rfl) ?_ (AllReadyH.nil))
    · have kB := belowRow hB hDD (oraL o' F1 f1 F2 f2)
      refine arm9_skip (by kernel_rfl) (run_row9 (ty := 31) (x := .tmp 14) (y := .tmp 55) (cs := (oraL o' F1 f1 F2 f2)) (by kernel_rfl) (by kernel_rfl) (by kernel_rfl) iD infoOra rfl (oraL_one9 _ _ _ _ _)) kB ?_
      try simp only [Act.put]
      have iE := iD.row (oraL o' F1 f1 F2 f2)
      have hsz : (W.setRow DD (oraL o' F1 f1 F2 f2)).heap.size = W.heap.size := by simp
      replace nI := nI.apart (grownRowG _ _ (oraL o' F1 f1 F2 f2)) d1 d2
      replace o1 := o1.wide9 (Nat.le_refl _) (Nat.le_of_eq hsz.symm)
      replace o2 := o2.wide9 (Nat.le_refl _) (Nat.le_of_eq hsz.symm)
      replace l1 : ∀ p, F1 = some p → p.block < (W.setRow DD (oraL o' F1 f1 F2 f2)).heap.size := fun p hp => by rw [hsz]; exact l1 p hp
      replace l2 : ∀ p, F2 = some p → p.block < (W.setRow DD (oraL o' F1 f1 F2 f2)).heap.size := fun p hp => by rw [hsz]; exact l2 p hp
      replace hB := kB
      refine wpAnyH_pure (i := 18) (v := .int .i64 0) (at_nth rfl) (by kernel_rfl) (by kernel_rfl) (by kernel_rfl) (fun _ _ _ h => absurd h (HQN _ _ _)) (by kernel_rfl) (fun w hSw => by kernel_rfl) hB ?_
      simp only [Act.put, List.setIfInBounds_toArray, List.set_cons_succ, List.set_cons_zero]
      exact ST3_6_9_10_15_17 _ _ _ _ _ _ hB hDD iE nI o1 o2 l1 l2 d1 d2
  have ST3_6_9_10 : ∀ (W : World) (F1 : Option Addr) (f1 : Nat) (F2 : Option Addr) (f2 : Nat), Below W0.heap.size W0 W → InI W o'.d F1 f1 F2 f2 → Own8 W0 W A1 F1 → Own8 W0 W A2 F2 → (∀ p, F1 = some p → p.block < W.heap.size) → (∀ p, F2 = some p → p.block < W.heap.size) → wpAnyH Tryz.prog .any (opsOf Tryz.f7 7) Q (fun W => Below W0.heap.size W0 W) 4 #[true, true, true, true, true, true, true, true, true, true, true, true, true, true, true, false, false, false, false] { tmps := #[x0, x1, x2, x3, x4, x5, x6, x7, x8, x9, .pointer (some ⟨DO, 0, none⟩), x11, .pointer (some ⟨DN, 0, none⟩), x13, x14, x15, x16, x17, x18, x19, x20, x21, x22, x23, x24, x25, x26, x27, x28, x29, x30, x31, x32, x33, x34, x35, x36, x37, x38, x39, x40, x41, .tuple #[.string r, (oraV o' F1 f1 F2 f2), .int .i64 0], .agg (oraL o A1 c1 A2 c2), .pointer (some ⟨DN, 1, none⟩), .int .i64 n1, .string wd, .pointer (some ⟨DN, 2, none⟩), .int .i64 n2, .int .i64 ep, .pointer (some ⟨DN, 3, none⟩), .int .i64 n3, .int .i64 ct, .tuple #[.string r, (oraV o' F1 f1 F2 f2), .int .i64 0], .string r, (oraV o' F1 f1 F2 f2), .int .i64 0, x57, x58, x59, x60, x61, x62, x63, x64, x65, x66, x67, x68, x69, x70, x71, x72, x73, x74, x75, x76, x77, x78, x79, x80, x81, x82, x83, x84, x85, x86, x87, x88, x89, x90, x91, x92, x93, x94, x95, x96, x97, x98, x99, x100, x101, x102, x103, x104, x105, x106, x107, x108, x109, x110, x111, x112, x113, x114, x115, x116, x117, x118, x119, x120, x121, x122, x123, x124, x125, x126, x127, x128, x129, x130, x131, x132, x133, x134, x135, x136, x137, x138, x139, x140, x141, x142, x143, x144, x145, x146, x147, x148, x149, x150], defers := [] } W := by
    intro W F1 f1 F2 f2 hB nI o1 o2 l1 l2
    refine wpAnyH_ready (by kernel_rfl) (by simp) (AllReadyH.cons (i := 15) (at_nth rfl) ?_ (AllReadyH.nil))
    · have hb := (Below.refl W.heap.size W).alloc (Nat.le_refl _) (.cells zer9 31)
      have iD := Is.new W 31 zer9
      have hDD : W0.heap.size ≤ W.heap.size := hB.size
      replace hB := hB.alloc hB.size (.cells zer9 31)
      refine arm9_value (by kernel_rfl) (run_allocO9 _ (by kernel_rfl)) hB ?_
      simp only [Act.put, List.setIfInBounds_toArray, List.set_cons_succ, List.set_cons_zero]
      have d1 : ∀ p, F1 = some p → (some W.heap.size : Option Nat) ≠ some p.block := fun p hp e => by have := l1 p hp; have := Option.some.inj e; omega
      have d2 : ∀ p, F2 = some p → (some W.heap.size : Option Nat) ≠ some p.block := fun p hp e => by have := l2 p hp; have := Option.some.inj e; omega
      have hsz := hb.size
      replace nI := nI.keep hb
      replace o1 := o1.wide9 (Nat.le_refl _) hsz
      replace o2 := o2.wide9 (Nat.le_refl _) hsz
      replace l1 : ∀ p, F1 = some p → p.block < (W.alloc (.cells zer9 31)).heap.size := fun p hp => Nat.lt_of_lt_of_le (l1 p hp) hsz
      replace l2 : ∀ p, F2 = some p → p.block < (W.alloc (.cells zer9 31)).heap.size := fun p hp => Nat.lt_of_lt_of_le (l2 p hp) hsz
      refine wpAnyH_pure (i := 16) (v := .string r) (at_nth rfl) (by kernel_rfl) (by kernel_rfl) (by kernel_rfl) (fun _ _ _ h => absurd h (HQN _ _ _)) (by kernel_rfl) (fun w hSw => by kernel_rfl) hB ?_
      simp only [Act.put, List.setIfInBounds_toArray, List.set_cons_succ, List.set_cons_zero]
      exact ST3_6_9_10_15 _ _ _ _ _ _ hB hDD iD nI o1 o2 l1 l2 d1 d2
  have ST3_6_9_15 : ∀ (W : World) (DD : Nat), Below W0.heap.size W0 W → W0.heap.size ≤ DD → Is W DD 31 zer9 → wpAnyH Tryz.prog .any (opsOf Tryz.f7 7) Q (fun W => Below W0.heap.size W0 W) 8 #[true, true, true, true, true, true, true, true, true, true, false, false, false, false, false, true, false, false, false] { tmps := #[x0, x1, x2, x3, x4, x5, x6, x7, x8, x9, .pointer (some ⟨DO, 0, none⟩), x11, .pointer (some ⟨DN, 0, none⟩), x13, .pointer (some ⟨DD, 0, none⟩), x15, x16, x17, x18, x19, x20, x21, x22, x23, x24, x25, x26, x27, x28, x29, x30, x31, x32, x33, x34, x35, x36, x37, x38, x39, x40, x41, x42, .agg (oraL o A1 c1 A2 c2), .pointer (some ⟨DN, 1, none⟩), .int .i64 n1, .string wd, .pointer (some ⟨DN, 2, none⟩), .int .i64 n2, .int .i64 ep, .pointer (some ⟨DN, 3, none⟩), .int .i64 n3, .int .i64 ct, x53, x54, x55, x56, x57, x58, x59, x60, x61, x62, x63, x64, x65, x66, x67, x68, x69, x70, x71, x72, x73, x74, x75, x76, x77, x78, x79, x80, x81, x82, x83, x84, x85, x86, x87, x88, x89, x90, x91, x92, x93, x94, x95, x96, x97, x98, x99, x100, x101, x102, x103, x104, x105, x106, x107, x108, x109, x110, x111, x112, x113, x114, x115, x116, x117, x118, x119, x120, x121, x122, x123, x124, x125, x126, x127, x128, x129, x130, x131, x132, x133, x134, x135, x136, x137, x138, x139, x140, x141, x142, x143, x144, x145, x146, x147, x148, x149, x150], defers := [] } W := by
    intro W DD hB hDD iD
    refine wpAnyH_ready (by kernel_rfl) (by simp) (AllReadyH.cons (i := 10) (at_nth rfl) ?_ (AllReadyH.nil))
    · have h4 := hB.size
      have hlD := iD.lt
      refine arm9_call (by kernel_rfl) (fun wy => by kernel_rfl) ((CL.out _ hB).mono ?_)
      rintro e Wn ⟨F1, f1, F2, f2, rfl, nI, hb, p1, p2⟩
      replace hB := hB.trans (hb.mono hB.size)
      replace iD := iD.below hb iD.lt
      have l1 := p1.lt9 (fun p hp => Nat.lt_of_lt_of_le (hA p hp) h4) hb.size
      have l2 := p2.lt9 (fun p hp => Nat.lt_of_lt_of_le (hA' p hp) h4) hb.size
      have d1 := p1.apart9 hA hDD hlD
      have d2 := p2.apart9 hA' hDD hlD
      have o1 := p1.wide9 h4 (Nat.le_refl Wn.heap.size)
      have o2 := p2.wide9 h4 (Nat.le_refl Wn.heap.size)
      refine ⟨_, rfl, hB, ?_⟩
      simp only [Act.put, List.setIfInBounds_toArray, List.set_cons_succ, List.set_cons_zero]
      refine wpAnyH_pure (i := 11) (v := .tuple #[.string r, (oraV o' F1 f1 F2 f2), .int .i64 0]) (at_nth rfl) (by kernel_rfl) (by kernel_rfl) (by kernel_rfl) (fun _ _ _ h => absurd h (HQN _ _ _)) (by kernel_rfl) (fun w hSw => by kernel_rfl) hB ?_
      simp only [Act.put, List.setIfInBounds_toArray, List.set_cons_succ, List.set_cons_zero]
      refine wpAnyH_pure (i := 12) (v := .string r) (at_nth rfl) (by kernel_rfl) (by kernel_rfl) (by kernel_rfl) (fun _ _ _ h => absurd h (HQN _ _ _)) (by kernel_rfl) (fun w hSw => by kernel_rfl) hB ?_
      simp only [Act.put, List.setIfInBounds_toArray, List.set_cons_succ, List.set_cons_zero]
      refine wpAnyH_pure (i := 13) (v := (oraV o' F1 f1 F2 f2)) (at_nth rfl) (by kernel_rfl) (by kernel_rfl) (by kernel_rfl) (fun _ _ _ h => absurd h (HQN _ _ _)) (by kernel_rfl) (fun w hSw => by kernel_rfl) hB ?_
      simp only [Act.put, List.setIfInBounds_toArray, List.set_cons_succ, List.set_cons_zero]
      refine wpAnyH_pure (i := 14) (v := .int .i64 0) (at_nth rfl) (by kernel_rfl) (by kernel_rfl) (by kernel_rfl) (fun _ _ _ h => absurd h (HQN _ _ _)) (by kernel_rfl) (fun w hSw => by kernel_rfl) hB ?_
      simp only [Act.put, List.setIfInBounds_toArray, List.set_cons_succ, List.set_cons_zero]
      refine wpAnyH_pure (i := 16) (v := .string r) (at_nth rfl) (by kernel_rfl) (by kernel_rfl) (by kernel_rfl) (fun _ _ _ h => absurd h (HQN _ _ _)) (by kernel_rfl) (fun w hSw => by kernel_rfl) hB ?_
      simp only [Act.put, List.setIfInBounds_toArray, List.set_cons_succ, List.set_cons_zero]
      exact ST3_6_9_10_15 _ _ _ _ _ _ hB hDD iD nI o1 o2 l1 l2 d1 d2
  have ST3_6_9 : ∀ (W : World), Below W0.heap.size W0 W → wpAnyH Tryz.prog .any (opsOf Tryz.f7 7) Q (fun W => Below W0.heap.size W0 W) 9 #[true, true, true, true, true, true, true, true, true, true, false, false, false, false, false, false, false, false, false] { tmps := #[x0, x1, x2, x3, x4, x5, x6, x7, x8, x9, .pointer (some ⟨DO, 0, none⟩), x11, .pointer (some ⟨DN, 0, none⟩), x13, x14, x15, x16, x17, x18, x19, x20, x21, x22, x23, x24, x25, x26, x27, x28, x29, x30, x31, x32, x33, x34, x35, x36, x37, x38, x39, x40, x41, x42, .agg (oraL o A1 c1 A2 c2), .pointer (some ⟨DN, 1, none⟩), .int .i64 n1, .string wd, .pointer (some ⟨DN, 2, none⟩), .int .i64 n2, .int .i64 ep, .pointer (some ⟨DN, 3, none⟩), .int .i64 n3, .int .i64 ct, x53, x54, x55, x56, x57, x58, x59, x60, x61, x62, x63, x64, x65, x66, x67, x68, x69, x70, x71, x72, x73, x74, x75, x76, x77, x78, x79, x80, x81, x82, x83, x84, x85, x86, x87, x88, x89, x90, x91, x92, x93, x94, x95, x96, x97, x98, x99, x100, x101, x102, x103, x104, x105, x106, x107, x108, x109, x110, x111, x112, x113, x114, x115, x116, x117, x118, x119, x120, x121, x122, x123, x124, x125, x126, x127, x128, x129, x130, x131, x132, x133, x134, x135, x136, x137, x138, x139, x140, x141, x142, x143, x144, x145, x146, x147, x148, x149, x150], defers := [] } W := by
    intro W hB
    refine wpAnyH_ready (by kernel_rfl) (by simp) (AllReadyH.cons (i := 10) (at_nth rfl) ?_ (AllReadyH.cons (i := 15) (at_nth rfl) ?_ (AllReadyH.nil)))
    · have h4 := hB.size
      refine arm9_call (by kernel_rfl) (fun wy => by kernel_rfl) ((CL.out _ hB).mono ?_)
      rintro e Wn ⟨F1, f1, F2, f2, rfl, nI, hb, p1, p2⟩
      replace hB := hB.trans (hb.mono hB.size)
      have l1 := p1.lt9 (fun p hp => Nat.lt_of_lt_of_le (hA p hp) h4) hb.size
      have l2 := p2.lt9 (fun p hp => Nat.lt_of_lt_of_le (hA' p hp) h4) hb.size
      have o1 := p1.wide9 h4 (Nat.le_refl Wn.heap.size)
      have o2 := p2.wide9 h4 (Nat.le_refl Wn.heap.size)
      refine ⟨_, rfl, hB, ?_⟩
      simp only [Act.put, List.setIfInBounds_toArray, List.set_cons_succ, List.set_cons_zero]
      refine wpAnyH_pure (i := 11) (v := .tuple #[.string r, (oraV o' F1 f1 F2 f2), .int .i64 0]) (at_nth rfl) (by kernel_rfl) (by kernel_rfl) (by kernel_rfl) (fun _ _ _ h => absurd h (HQN _ _ _)) (by kernel_rfl) (fun w hSw => by kernel_rfl) hB ?_
      simp only [Act.put, List.setIfInBounds_toArray, List.set_cons_succ, List.set_cons_zero]
      refine wpAnyH_pure (i := 12) (v := .string r) (at_nth rfl) (by kernel_rfl) (by kernel_rfl) (by kernel_rfl) (fun _ _ _ h => absurd h (HQN _ _ _)) (by kernel_rfl) (fun w hSw => by kernel_rfl) hB ?_
      simp only [Act.put, List.setIfInBounds_toArray, List.set_cons_succ, List.set_cons_zero]
      refine wpAnyH_pure (i := 13) (v := (oraV o' F1 f1 F2 f2)) (at_nth rfl) (by kernel_rfl) (by kernel_rfl) (by kernel_rfl) (fun _ _ _ h => absurd h (HQN _ _ _)) (by kernel_rfl) (fun w hSw => by kernel_rfl) hB ?_
      simp only [Act.put, List.setIfInBounds_toArray, List.set_cons_succ, List.set_cons_zero]
      refine wpAnyH_pure (i := 14) (v := .int .i64 0) (at_nth rfl) (by kernel_rfl) (by kernel_rfl) (by kernel_rfl) (fun _ _ _ h => absurd h (HQN _ _ _)) (by kernel_rfl) (fun w hSw => by kernel_rfl) hB ?_
      simp only [Act.put, List.setIfInBounds_toArray, List.set_cons_succ, List.set_cons_zero]
      exact ST3_6_9_10 _ _ _ _ _ hB nI o1 o2 l1 l2
    · have hb := (Below.refl W.heap.size W).alloc (Nat.le_refl _) (.cells zer9 31)
      have iD := Is.new W 31 zer9
      have hDD : W0.heap.size ≤ W.heap.size := hB.size
      replace hB := hB.alloc hB.size (.cells zer9 31)
      refine arm9_value (by kernel_rfl) (run_allocO9 _ (by kernel_rfl)) hB ?_
      simp only [Act.put, List.setIfInBounds_toArray, List.set_cons_succ, List.set_cons_zero]
      exact ST3_6_9_15 _ _ hB hDD iD
  have ST3_6_15 : ∀ (W : World) (DD : Nat), Below W0.heap.size W0 W → W0.heap.size ≤ DD → Is W DD 31 zer9 → wpAnyH Tryz.prog .any (opsOf Tryz.f7 7) Q (fun W => Below W0.heap.size W0 W) 9 #[true, true, true, true, true, true, true, true, true, false, false, false, false, false, false, true, false, false, false] { tmps := #[x0, x1, x2, x3, x4, x5, x6, x7, x8, x9, .pointer (some ⟨DO, 0, none⟩), x11, .pointer (some ⟨DN, 0, none⟩), x13, .pointer (some ⟨DD, 0, none⟩), x15, x16, x17, x18, x19, x20, x21, x22, x23, x24, x25, x26, x27, x28, x29, x30, x31, x32, x33, x34, x35, x36, x37, x38, x39, x40, x41, x42, .agg (oraL o A1 c1 A2 c2), .pointer (some ⟨DN, 1, none⟩), .int .i64 n1, .string wd, .pointer (some ⟨DN, 2, none⟩), .int .i64 n2, .int .i64 ep, .pointer (some ⟨DN, 3, none⟩), .int .i64 n3, x52, x53, x54, x55, x56, x57, x58, x59, x60, x61, x62, x63, x64, x65, x66, x67, x68, x69, x70, x71, x72, x73, x74, x75, x76, x77, x78, x79, x80, x81, x82, x83, x84, x85, x86, x87, x88, x89, x90, x91, x92, x93, x94, x95, x96, x97, x98, x99, x100, x101, x102, x103, x104, x105, x106, x107, x108, x109, x110, x111, x112, x113, x114, x115, x116, x117, x118, x119, x120, x121, x122, x123, x124, x125, x126, x127, x128, x129, x130, x131, x132, x133, x134, x135, x136, x137, x138, x139, x140, x141, x142, x143, x144, x145, x146, x147, x148, x149, x150], defers := [] } W := by
    intro W DD hB hDD iD
    refine wpAnyH_ready (by kernel_rfl) (by simp) (AllReadyH.cons (i := 9) (at_nth rfl) ?_ (AllReadyH.nil))
    · refine arm9_call (by kernel_rfl) (fun wy => by kernel_rfl) ((PC.out _).mono ?_)
      rintro e Wn ⟨rfl, rfl⟩
      refine ⟨_, rfl, hB, ?_⟩
      simp only [Act.put, List.setIfInBounds_toArray, List.set_cons_succ, List.set_cons_zero]
      exact ST3_6_9_15 _ _ hB hDD iD
  have ST3_6 : ∀ (W : World), Below W0.heap.size W0 W → wpAnyH Tryz.prog .any (opsOf Tryz.f7 7) Q (fun W => Below W0.heap.size W0 W) 10 #[true, true, true, true, true, true, true, true, true, false, false, false, false, false, false, false, false, false, false] { tmps := #[x0, x1, x2, x3, x4, x5, x6, x7, x8, x9, .pointer (some ⟨DO, 0, none⟩), x11, .pointer (some ⟨DN, 0, none⟩), x13, x14, x15, x16, x17, x18, x19, x20, x21, x22, x23, x24, x25, x26, x27, x28, x29, x30, x31, x32, x33, x34, x35, x36, x37, x38, x39, x40, x41, x42, .agg (oraL o A1 c1 A2 c2), .pointer (some ⟨DN, 1, none⟩), .int .i64 n1, .string wd, .pointer (some ⟨DN, 2, none⟩), .int .i64 n2, .int .i64 ep, .pointer (some ⟨DN, 3, none⟩), .int .i64 n3, x52, x53, x54, x55, x56, x57, x58, x59, x60, x61, x62, x63, x64, x65, x66, x67, x68, x69, x70, x71, x72, x73, x74, x75, x76, x77, x78, x79, x80, x81, x82, x83, x84, x85, x86, x87, x88, x89, x90, x91, x92, x93, x94, x95, x96, x97, x98, x99, x100, x101, x102, x103, x104, x105, x106, x107, x108, x109, x110, x111, x112, x113, x114, x115, x116, x117, x118, x119, x120, x121, x122, x123, x124, x125, x126, x127, x128, x129, x130, x131, x132, x133, x134, x135, x136, x137, x138, x139, x140, x141, x142, x143, x144, x145, x146, x147, x148, x149, x150], defers := [] } W := by
    intro W hB
    refine wpAnyH_ready (by kernel_rfl) (by simp) (AllReadyH.cons (i := 9) (at_nth rfl) ?_ (AllReadyH.cons (i := 15) (at_nth rfl) ?_ (AllReadyH.nil)))
    · refine arm9_call (by kernel_rfl) (fun wy => by kernel_rfl) ((PC.out _).mono ?_)
      rintro e Wn ⟨rfl, rfl⟩
      refine ⟨_, rfl, hB, ?_⟩
      simp only [Act.put, List.setIfInBounds_toArray, List.set_cons_succ, List.set_cons_zero]
      exact ST3_6_9 _ hB
    · have hb := (Below.refl W.heap.size W).alloc (Nat.le_refl _) (.cells zer9 31)
      have iD := Is.new W 31 zer9
      have hDD : W0.heap.size ≤ W.heap.size := hB.size
      replace hB := hB.alloc hB.size (.cells zer9 31)
      refine arm9_value (by kernel_rfl) (run_allocO9 _ (by kernel_rfl)) hB ?_
      simp only [Act.put, List.setIfInBounds_toArray, List.set_cons_succ, List.set_cons_zero]
      exact ST3_6_15 _ _ hB hDD iD
  have ST3_15 : ∀ (W : World) (DD : Nat), Below W0.heap.size W0 W → W0.heap.size ≤ DD → Is W DD 31 zer9 → wpAnyH Tryz.prog .any (opsOf Tryz.f7 7) Q (fun W => Below W0.heap.size W0 W) 10 #[true, true, true, true, true, true, false, true, true, false, false, false, false, false, false, true, false, false, false] { tmps := #[x0, x1, x2, x3, x4, x5, x6, x7, x8, x9, .pointer (some ⟨DO, 0, none⟩), x11, .pointer (some ⟨DN, 0, none⟩), x13, .pointer (some ⟨DD, 0, none⟩), x15, x16, x17, x18, x19, x20, x21, x22, x23, x24, x25, x26, x27, x28, x29, x30, x31, x32, x33, x34, x35, x36, x37, x38, x39, x40, x41, x42, .agg (oraL o A1 c1 A2 c2), .pointer (some ⟨DN, 1, none⟩), .int .i64 n1, .string wd, .pointer (some ⟨DN, 2, none⟩), .int .i64 n2, x49, .pointer (some ⟨DN, 3, none⟩), .int .i64 n3, x52, x53, x54, x55, x56, x57, x58, x59, x60, x61, x62, x63, x64, x65, x66, x67, x68, x69, x70, x71, x72, x73, x74, x75, x76, x77, x78, x79, x80, x81, x82, x83, x84, x85, x86, x87, x88, x89, x90, x91, x92, x93, x94, x95, x96, x97, x98, x99, x100, x101, x102, x103, x104, x105, x106, x107, x108, x109, x110, x111, x112, x113, x114, x115, x116, x117, x118, x119, x120, x121, x122, x123, x124, x125, x126, x127, x128, x129, x130, x131, x132, x133, x134, x135, x136, x137, x138, x139, x140, x141, x142, x143, x144, x145, x146, x147, x148, x149, x150], defers := [] } W := by
    intro W DD hB hDD iD
    refine wpAnyH_ready (by kernel_rfl) (by simp) (AllReadyH.cons (i := 6) (at_nth rfl) ?_ (AllReadyH.nil))
    · refine arm9_call (by kernel_rfl) (fun wy => by kernel_rfl) ((PE.out _).mono ?_)
      rintro e Wn ⟨rfl, rfl⟩
      refine ⟨_, rfl, hB, ?_⟩
      simp only [Act.put, List.setIfInBounds_toArray, List.set_cons_succ, List.set_cons_zero]
      exact ST3_6_15 _ _ hB hDD iD
  have ST3 : ∀ (W : World), Below W0.heap.size W0 W → wpAnyH Tryz.prog .any (opsOf Tryz.f7 7) Q (fun W => Below W0.heap.size W0 W) 11 #[true, true, true, true, true, true, false, true, true, false, false, false, false, false, false, false, false, false, false] { tmps := #[x0, x1, x2, x3, x4, x5, x6, x7, x8, x9, .pointer (some ⟨DO, 0, none⟩), x11, .pointer (some ⟨DN, 0, none⟩), x13, x14, x15, x16, x17, x18, x19, x20, x21, x22, x23, x24, x25, x26, x27, x28, x29, x30, x31, x32, x33, x34, x35, x36, x37, x38, x39, x40, x41, x42, .agg (oraL o A1 c1 A2 c2), .pointer (some ⟨DN, 1, none⟩), .int .i64 n1, .string wd, .pointer (some ⟨DN, 2, none⟩), .int .i64 n2, x49, .pointer (some ⟨DN, 3, none⟩), .int .i64 n3, x52, x53, x54, x55, x56, x57, x58, x59, x60, x61, x62, x63, x64, x65, x66, x67, x68, x69, x70, x71, x72, x73, x74, x75, x76, x77, x78, x79, x80, x81, x82, x83, x84, x85, x86, x87, x88, x89, x90, x91, x92, x93, x94, x95, x96, x97, x98, x99, x100, x101, x102, x103, x104, x105, x106, x107, x108, x109, x110, x111, x112, x113, x114, x115, x116, x117, x118, x119, x120, x121, x122, x123, x124, x125, x126, x127, x128, x129, x130, x131, x132, x133, x134, x135, x136, x137, x138, x139, x140, x141, x142, x143, x144, x145, x146, x147, x148, x149, x150], defers := [] } W := by
    intro W hB
    refine wpAnyH_ready (by kernel_rfl) (by simp) (AllReadyH.cons (i := 6) (at_nth rfl) ?_ (AllReadyH.cons (i := 15) (at_nth rfl) ?_ (AllReadyH.nil)))
    · refine arm9_call (by kernel_rfl) (fun wy => by kernel_rfl) ((PE.out _).mono ?_)
      rintro e Wn ⟨rfl, rfl⟩
      refine ⟨_, rfl, hB, ?_⟩
      simp only [Act.put, List.setIfInBounds_toArray, List.set_cons_succ, List.set_cons_zero]
      exact ST3_6 _ hB
    · have hb := (Below.refl W.heap.size W).alloc (Nat.le_refl _) (.cells zer9 31)
      have iD := Is.new W 31 zer9
      have hDD : W0.heap.size ≤ W.heap.size := hB.size
      replace hB := hB.alloc hB.size (.cells zer9 31)
      refine arm9_value (by kernel_rfl) (run_allocO9 _ (by kernel_rfl)) hB ?_
      simp only [Act.put, List.setIfInBounds_toArray, List.set_cons_succ, List.set_cons_zero]
      exact ST3_15 _ _ hB hDD iD
  have ST15 : ∀ (W : World) (DD : Nat), Below W0.heap.size W0 W → W0.heap.size ≤ DD → Is W DD 31 zer9 → wpAnyH Tryz.prog .any (opsOf Tryz.f7 7) Q (fun W => Below W0.heap.size W0 W) 11 #[true, true, true, false, true, true, false, true, true, false, false, false, false, false, false, true, false, false, false] { tmps := #[x0, x1, x2, x3, x4, x5, x6, x7, x8, x9, .pointer (some ⟨DO, 0, none⟩), x11, .pointer (some ⟨DN, 0, none⟩), x13, .pointer (some ⟨DD, 0, none⟩), x15, x16, x17, x18, x19, x20, x21, x22, x23, x24, x25, x26, x27, x28, x29, x30, x31, x32, x33, x34, x35, x36, x37, x38, x39, x40, x41, x42, .agg (oraL o A1 c1 A2 c2), .pointer (some ⟨DN, 1, none⟩), .int .i64 n1, x46, .pointer (some ⟨DN, 2, none⟩), .int .i64 n2, x49, .pointer (some ⟨DN, 3, none⟩), .int .i64 n3, x52, x53, x54, x55, x56, x57, x58, x59, x60, x61, x62, x63, x64, x65, x66, x67, x68, x69, x70, x71, x72, x73, x74, x75, x76, x77, x78, x79, x80, x81, x82, x83, x84, x85, x86, x87, x88, x89, x90, x91, x92, x93, x94, x95, x96, x97, x98, x99, x100, x101, x102, x103, x104, x105, x106, x107, x108, x109, x110, x111, x112, x113, x114, x115, x116, x117, x118, x119, x120, x121, x122, x123, x124, x125, x126, x127, x128, x129, x130, x131, x132, x133, x134, x135, x136, x137, x138, x139, x140, x141, x142, x143, x144, x145, x146, x147, x148, x149, x150], defers := [] } W := by
    intro W DD hB hDD iD
    refine wpAnyH_ready (by kernel_rfl) (by simp) (AllReadyH.cons (i := 3) (at_nth rfl) ?_ (AllReadyH.nil))
    · refine arm9_call (by kernel_rfl) (fun wy => by kernel_rfl) ((WD.out _).mono ?_)
      rintro e Wn ⟨rfl, hb⟩
      replace hB := hB.trans (hb.mono hB.size)
      replace iD := iD.below hb iD.lt
      refine ⟨_, rfl, hB, ?_⟩
      simp only [Act.put, List.setIfInBounds_toArray, List.set_cons_succ, List.set_cons_zero]
      exact ST3_15 _ _ hB hDD iD
  have ST : ∀ (W : World), Below W0.heap.size W0 W → wpAnyH Tryz.prog .any (opsOf Tryz.f7 7) Q (fun W => Below W0.heap.size W0 W) 12 #[true, true, true, false, true, true, false, true, true, false, false, false, false, false, false, false, false, false, false] { tmps := #[x0, x1, x2, x3, x4, x5, x6, x7, x8, x9, .pointer (some ⟨DO, 0, none⟩), x11, .pointer (some ⟨DN, 0, none⟩), x13, x14, x15, x16, x17, x18, x19, x20, x21, x22, x23, x24, x25, x26, x27, x28, x29, x30, x31, x32, x33, x34, x35, x36, x37, x38, x39, x40, x41, x42, .agg (oraL o A1 c1 A2 c2), .pointer (some ⟨DN, 1, none⟩), .int .i64 n1, x46, .pointer (some ⟨DN, 2, none⟩), .int .i64 n2, x49, .pointer (some ⟨DN, 3, none⟩), .int .i64 n3, x52, x53, x54, x55, x56, x57, x58, x59, x60, x61, x62, x63, x64, x65, x66, x67, x68, x69, x70, x71, x72, x73, x74, x75, x76, x77, x78, x79, x80, x81, x82, x83, x84, x85, x86, x87, x88, x89, x90, x91, x92, x93, x94, x95, x96, x97, x98, x99, x100, x101, x102, x103, x104, x105, x106, x107, x108, x109, x110, x111, x112, x113, x114, x115, x116, x117, x118, x119, x120, x121, x122, x123, x124, x125, x126, x127, x128, x129, x130, x131, x132, x133, x134, x135, x136, x137, x138, x139, x140, x141, x142, x143, x144, x145, x146, x147, x148, x149, x150], defers := [] } W := by
    intro W hB
    refine wpAnyH_ready (by kernel_rfl) (by simp) (AllReadyH.cons (i := 3) (at_nth rfl) ?_ (AllReadyH.cons (i := 15) (at_nth rfl) ?_ (AllReadyH.nil)))
    · refine arm9_call (by kernel_rfl) (fun wy => by kernel_rfl) ((WD.out _).mono ?_)
      rintro e Wn ⟨rfl, hb⟩
      replace hB := hB.trans (hb.mono hB.size)
      refine ⟨_, rfl, hB, ?_⟩
      simp only [Act.put, List.setIfInBounds_toArray, List.set_cons_succ, List.set_cons_zero]
      exact ST3 _ hB
    · have hb := (Below.refl W.heap.size W).alloc (Nat.le_refl _) (.cells zer9 31)
      have iD := Is.new W 31 zer9
      have hDD : W0.heap.size ≤ W.heap.size := hB.size
      replace hB := hB.alloc hB.size (.cells zer9 31)
      refine arm9_value (by kernel_rfl) (run_allocO9 _ (by kernel_rfl)) hB ?_
      simp only [Act.put, List.setIfInBounds_toArray, List.set_cons_succ, List.set_cons_zero]
      exact ST15 _ _ hB hDD iD
  refine wp_region_held_drew (S := fun W => Below W0.heap.size W0 W) (by kernel_rfl) hB (fun hS => ?_)
  change wpAnyH _ _ (opsOf Tryz.f7 7) _ _ 19 (Array.replicate 19 false) _ (W0.drewN 1)
  clear hS
  replace hB : Below W0.heap.size W0 (W0.drewN 1) := belowN (Below.refl _ _) 1
  refine wpAnyH_pure (i := 0) (v := .agg (oraL o A1 c1 A2 c2)) (at_nth rfl) (by kernel_rfl) (by kernel_rfl) (by kernel_rfl) (fun _ _ _ h => absurd h (HQN _ _ _)) (by kernel_rfl) (fun w hSw => by exact exec_load (x := .tmp 10) (by kernel_rfl) (by kernel_rfl) (run_loadVar_row _ _ 31 31 _ (0, 0) _ (HO.out _ hSw) Tryz.underlying31 rfl infoOra)) hB ?_
  simp only [Act.put, List.setIfInBounds_toArray, List.set_cons_succ, List.set_cons_zero]
  refine wpAnyH_pure (i := 1) (v := .pointer (some ⟨DN, 1, none⟩)) (at_nth rfl) (by kernel_rfl) (by kernel_rfl) (by kernel_rfl) (fun _ _ _ h => absurd h (HQN _ _ _)) (by kernel_rfl) (fun w hSw => by go_simp) hB ?_
  simp only [Act.put, List.setIfInBounds_toArray, List.set_cons_succ, List.set_cons_zero]
  refine wpAnyH_pure (i := 2) (v := .int .i64 n1) (at_nth rfl) (by kernel_rfl) (by kernel_rfl) (by kernel_rfl) (fun _ _ _ h => absurd h (HQN _ _ _)) (by kernel_rfl) (fun w hSw => by (have hc := HN1.out _ hSw; go_simp)) hB ?_
  simp only [Act.put, List.setIfInBounds_toArray, List.set_cons_succ, List.set_cons_zero]
  refine wpAnyH_pure (i := 4) (v := .pointer (some ⟨DN, 2, none⟩)) (at_nth rfl) (by kernel_rfl) (by kernel_rfl) (by kernel_rfl) (fun _ _ _ h => absurd h (HQN _ _ _)) (by kernel_rfl) (fun w hSw => by go_simp) hB ?_
  simp only [Act.put, List.setIfInBounds_toArray, List.set_cons_succ, List.set_cons_zero]
  refine wpAnyH_pure (i := 5) (v := .int .i64 n2) (at_nth rfl) (by kernel_rfl) (by kernel_rfl) (by kernel_rfl) (fun _ _ _ h => absurd h (HQN _ _ _)) (by kernel_rfl) (fun w hSw => by (have hc := HN2.out _ hSw; go_simp)) hB ?_
  simp only [Act.put, List.setIfInBounds_toArray, List.set_cons_succ, List.set_cons_zero]
  refine wpAnyH_pure (i := 7) (v := .pointer (some ⟨DN, 3, none⟩)) (at_nth rfl) (by kernel_rfl) (by kernel_rfl) (by kernel_rfl) (fun _ _ _ h => absurd h (HQN _ _ _)) (by kernel_rfl) (fun w hSw => by go_simp) hB ?_
  simp only [Act.put, List.setIfInBounds_toArray, List.set_cons_succ, List.set_cons_zero]
  refine wpAnyH_pure (i := 8) (v := .int .i64 n3) (at_nth rfl) (by kernel_rfl) (by kernel_rfl) (by kernel_rfl) (fun _ _ _ h => absurd h (HQN _ _ _)) (by kernel_rfl) (fun w hSw => by (have hc := HN3.out _ hSw; go_simp)) hB ?_
  simp only [Act.put, List.setIfInBounds_toArray, List.set_cons_succ, List.set_cons_zero]
  exact ST _ hB
set_option maxRecDepth 100000 in
set_option maxHeartbeats 8000000 in
theorem draws9_cel (W0 : World) (o o' : Ora) (A1 : Option Addr) (c1 : Nat) (A2 : Option Addr) (c2 : Nat) (DO : Nat) (iO : Is W0 DO 31 (oraL o A1 c1 A2 c2)) (hA : ∀ p, A1 = some p → p.block < W0.heap.size) (hA' : ∀ p, A2 = some p → p.block < W0.heap.size)
    (n0 : Int) (DN : Nat) (hn0 : DN < W0.heap.size ∧ W0.cell? ⟨DN, 0, none⟩ = some (.int .i64 n0))
    (s tx r : ByteArray) (TX : Hid (∀ W, Calls Tryz.prog 22 #[.int .i64 n0] W fun e w' => e = .returned (.string tx) ∧ Below W.heap.size W w')) (CL : Hid (∀ W, Below W0.heap.size W0 W → Calls Tryz.prog 23 #[oraV o A1 c1 A2 c2, .string s, .string tx] W fun e w' => ∃ F1 f1 F2 f2, e = .returned (.tuple #[.string r, oraV o' F1 f1 F2 f2, .int .i64 0]) ∧ InI w' o'.d F1 f1 F2 f2 ∧ Below W.heap.size W w' ∧ Own8 W w' A1 F1 ∧ Own8 W w' A2 F2)) (x0 x1 x2 x3 x4 x5 x6 x7 x8 x9 x10 x11 x15 x16 x17 x18 x19 x20 x21 x22 x23 x24 x25 x26 x27 x28 x29 x30 x31 x32 x33 x34 x35 x36 x37 x38 x39 x40 x41 x42 x43 x44 x45 x46 x47 x48 x49 x50 x51 x52 x53 x54 x55 x56 x57 x58 x59 x60 x61 x62 x63 x64 x65 x66 x67 x68 x69 x70 x71 x72 x73 x74 x75 x76 x77 x78 x79 x80 x81 x82 x83 x84 x85 x86 x87 x88 x89 x90 x91 x92 x93 x94 x95 x96 x97 x98 x99 x100 x101 x102 x103 x104 x105 x106 x107 x108 x109 x110 x111 x112 x113 x114 x115 x116 x117 x118 x119 x120 x121 x122 x123 x124 x125 x126 x127 x128 x129 x130 x131 x132 x133 x134 x135 x136 x137 x138 x139 x140 x141 x142 x143 x144 x145 x146 x147 x148 x149 x150 : Value) :
    (Code.region 8 (opsOf Tryz.f7 8) true).wp Tryz.prog (fun ex YY W => ex = .normal ∧ YY.defers = [] ∧ ∃ (F1 : Option Addr) (f1 : Nat) (F2 : Option Addr) (f2 : Nat) (DD : Nat), YY.tmps = #[x0, x1, x2, x3, x4, x5, x6, x7, x8, x9, x10, x11, .pointer (some ⟨DN, 0, none⟩), .string s, .pointer (some ⟨DO, 0, none⟩), x15, .string r, .pointer (some ⟨DD, 0, none⟩), .int .i64 0, x19, x20, x21, x22, x23, x24, x25, x26, x27, x28, x29, x30, x31, x32, x33, x34, x35, x36, x37, x38, x39, x40, x41, x42, x43, x44, x45, x46, x47, x48, x49, x50, x51, x52, x53, x54, x55, x56, .tuple #[.string r, (oraV o' F1 f1 F2 f2), .int .i64 0], .agg (oraL o A1 c1 A2 c2), .string s, .pointer (some ⟨DN, 0, none⟩), .int .i64 n0, .string tx, .tuple #[.string r, (oraV o' F1 f1 F2 f2), .int .i64 0], .string r, (oraV o' F1 f1 F2 f2), .int .i64 0, x67, x68, x69, x70, x71, x72, x73, x74, x75, x76, x77, x78, x79, x80, x81, x82, x83, x84, x85, x86, x87, x88, x89, x90, x91, x92, x93, x94, x95, x96, x97, x98, x99, x100, x101, x102, x103, x104, x105, x106, x107, x108, x109, x110, x111, x112, x113, x114, x115, x116, x117, x118, x119, x120, x121, x122, x123, x124, x125, x126, x127, x128, x129, x130, x131, x132, x133, x134, x135, x136, x137, x138, x139, x140, x141, x142, x143, x144, x145, x146, x147, x148, x149, x150] ∧ Below W0.heap.size W0 W ∧ W0.heap.size ≤ DD ∧ Is W DD 31 (oraL o' F1 f1 F2 f2) ∧ InI W o'.d F1 f1 F2 f2 ∧ Own8 W0 W A1 F1 ∧ Own8 W0 W A2 F2 ∧ (∀ p, F1 = some p → p.block < W.heap.size) ∧ (∀ p, F2 = some p → p.block < W.heap.size) ∧ (∀ p, F1 = some p → (some DD : Option Nat) ≠ some p.block) ∧ (∀ p, F2 = some p → (some DD : Option Nat) ≠ some p.block)) { tmps := #[x0, x1, x2, x3, x4, x5, x6, x7, x8, x9, x10, x11, .pointer (some ⟨DN, 0, none⟩), .string s, .pointer (some ⟨DO, 0, none⟩), x15, x16, x17, x18, x19, x20, x21, x22, x23, x24, x25, x26, x27, x28, x29, x30, x31, x32, x33, x34, x35, x36, x37, x38, x39, x40, x41, x42, x43, x44, x45, x46, x47, x48, x49, x50, x51, x52, x53, x54, x55, x56, x57, x58, x59, x60, x61, x62, x63, x64, x65, x66, x67, x68, x69, x70, x71, x72, x73, x74, x75, x76, x77, x78, x79, x80, x81, x82, x83, x84, x85, x86, x87, x88, x89, x90, x91, x92, x93, x94, x95, x96, x97, x98, x99, x100, x101, x102, x103, x104, x105, x106, x107, x108, x109, x110, x111, x112, x113, x114, x115, x116, x117, x118, x119, x120, x121, x122, x123, x124, x125, x126, x127, x128, x129, x130, x131, x132, x133, x134, x135, x136, x137, x138, x139, x140, x141, x142, x143, x144, x145, x146, x147, x148, x149, x150], defers := [] } W0 := by
  have HO := Lib.hid (fun (W : World) (hb : Below W0.heap.size W0 W) => iO.below hb iO.lt)
  have HN0 := Lib.hid (fun (W : World) (hb : Below W0.heap.size W0 W) => (hb.cell (p := ⟨DN, 0, none⟩) hn0.1).trans hn0.2)
  have hB : Below W0.heap.size W0 (W0.drewN 1) := belowN (Below.refl _ _) 1
  generalize hQ : (fun (ex : Exit) (YY : Act) (W : World) => ex = .normal ∧ YY.defers = [] ∧ ∃ (F1 : Option Addr) (f1 : Nat) (F2 : Option Addr) (f2 : Nat) (DD : Nat), YY.tmps = #[x0, x1, x2, x3, x4, x5, x6, x7, x8, x9, x10, x11, .pointer (some ⟨DN, 0, none⟩), .string s, .pointer (some ⟨DO, 0, none⟩), x15, .string r, .pointer (some ⟨DD, 0, none⟩), .int .i64 0, x19, x20, x21, x22, x23, x24, x25, x26, x27, x28, x29, x30, x31, x32, x33, x34, x35, x36, x37, x38, x39, x40, x41, x42, x43, x44, x45, x46, x47, x48, x49, x50, x51, x52, x53, x54, x55, x56, .tuple #[.string r, (oraV o' F1 f1 F2 f2), .int .i64 0], .agg (oraL o A1 c1 A2 c2), .string s, .pointer (some ⟨DN, 0, none⟩), .int .i64 n0, .string tx, .tuple #[.string r, (oraV o' F1 f1 F2 f2), .int .i64 0], .string r, (oraV o' F1 f1 F2 f2), .int .i64 0, x67, x68, x69, x70, x71, x72, x73, x74, x75, x76, x77, x78, x79, x80, x81, x82, x83, x84, x85, x86, x87, x88, x89, x90, x91, x92, x93, x94, x95, x96, x97, x98, x99, x100, x101, x102, x103, x104, x105, x106, x107, x108, x109, x110, x111, x112, x113, x114, x115, x116, x117, x118, x119, x120, x121, x122, x123, x124, x125, x126, x127, x128, x129, x130, x131, x132, x133, x134, x135, x136, x137, x138, x139, x140, x141, x142, x143, x144, x145, x146, x147, x148, x149, x150] ∧ Below W0.heap.size W0 W ∧ W0.heap.size ≤ DD ∧ Is W DD 31 (oraL o' F1 f1 F2 f2) ∧ InI W o'.d F1 f1 F2 f2 ∧ Own8 W0 W A1 F1 ∧ Own8 W0 W A2 F2 ∧ (∀ p, F1 = some p → p.block < W.heap.size) ∧ (∀ p, F2 = some p → p.block < W.heap.size) ∧ (∀ p, F1 = some p → (some DD : Option Nat) ≠ some p.block) ∧ (∀ p, F2 = some p → (some DD : Option Nat) ≠ some p.block)) = Q
  have HQN : ∀ c a W, ¬ Q (.panic c) a W := fun c a W h => by subst hQ; exact nomatch h.1
  have ST4_5_10_12 : ∀ (W : World) (F1 : Option Addr) (f1 : Nat) (F2 : Option Addr) (f2 : Nat) (DD : Nat), Below W0.heap.size W0 W → W0.heap.size ≤ DD → Is W DD 31 (oraL o' F1 f1 F2 f2) → InI W o'.d F1 f1 F2 f2 → Own8 W0 W A1 F1 → Own8 W0 W A2 F2 → (∀ p, F1 = some p → p.block < W.heap.size) → (∀ p, F2 = some p → p.block < W.heap.size) → (∀ p, F1 = some p → (some DD : Option Nat) ≠ some p.block) → (∀ p, F2 = some p → (some DD : Option Nat) ≠ some p.block) → wpAnyH Tryz.prog .any (opsOf Tryz.f7 8) Q (fun W => Below W0.heap.size W0 W) 0 #[true, true, true, true, true, true, true, true, true, true, true, true, true, true] { tmps := #[x0, x1, x2, x3, x4, x5, x6, x7, x8, x9, x10, x11, .pointer (some ⟨DN, 0, none⟩), .string s, .pointer (some ⟨DO, 0, none⟩), x15, .string r, .pointer (some ⟨DD, 0, none⟩), .int .i64 0, x19, x20, x21, x22, x23, x24, x25, x26, x27, x28, x29, x30, x31, x32, x33, x34, x35, x36, x37, x38, x39, x40, x41, x42, x43, x44, x45, x46, x47, x48, x49, x50, x51, x52, x53, x54, x55, x56, .tuple #[.string r, (oraV o' F1 f1 F2 f2), .int .i64 0], .agg (oraL o A1 c1 A2 c2), .string s, .pointer (some ⟨DN, 0, none⟩), .int .i64 n0, .string tx, .tuple #[.string r, (oraV o' F1 f1 F2 f2), .int .i64 0], .string r, (oraV o' F1 f1 F2 f2), .int .i64 0, x67, x68, x69, x70, x71, x72, x73, x74, x75, x76, x77, x78, x79, x80, x81, x82, x83, x84, x85, x86, x87, x88, x89, x90, x91, x92, x93, x94, x95, x96, x97, x98, x99, x100, x101, x102, x103, x104, x105, x106, x107, x108, x109, x110, x111, x112, x113, x114, x115, x116, x117, x118, x119, x120, x121, x122, x123, x124, x125, x126, x127, x128, x129, x130, x131, x132, x133, x134, x135, x136, x137, x138, x139, x140, x141, x142, x143, x144, x145, x146, x147, x148, x149, x150], defers := [] } W := by
    intro W F1 f1 F2 f2 DD hB hDD iE nI o1 o2 l1 l2 d1 d2
    refine wpAnyH_done (by kernel_rfl) ?_ _
    subst hQ
    exact ⟨rfl, rfl, F1, f1, F2, f2, DD, rfl, hB, hDD, iE, nI, o1, o2, l1, l2, d1, d2⟩
  have ST4_5_10 : ∀ (W : World) (F1 : Option Addr) (f1 : Nat) (F2 : Option Addr) (f2 : Nat) (DD : Nat), Below W0.heap.size W0 W → W0.heap.size ≤ DD → Is W DD 31 zer9 → InI W o'.d F1 f1 F2 f2 → Own8 W0 W A1 F1 → Own8 W0 W A2 F2 → (∀ p, F1 = some p → p.block < W.heap.size) → (∀ p, F2 = some p → p.block < W.heap.size) → (∀ p, F1 = some p → (some DD : Option Nat) ≠ some p.block) → (∀ p, F2 = some p → (some DD : Option Nat) ≠ some p.block) → wpAnyH Tryz.prog .any (opsOf Tryz.f7 8) Q (fun W => Below W0.heap.size W0 W) 2 #[true, true, true, true, true, true, true, true, true, true, true, true, false, false] { tmps := #[x0, x1, x2, x3, x4, x5, x6, x7, x8, x9, x10, x11, .pointer (some ⟨DN, 0, none⟩), .string s, .pointer (some ⟨DO, 0, none⟩), x15, .string r, .pointer (some ⟨DD, 0, none⟩), x18, x19, x20, x21, x22, x23, x24, x25, x26, x27, x28, x29, x30, x31, x32, x33, x34, x35, x36, x37, x38, x39, x40, x41, x42, x43, x44, x45, x46, x47, x48, x49, x50, x51, x52, x53, x54, x55, x56, .tuple #[.string r, (oraV o' F1 f1 F2 f2), .int .i64 0], .agg (oraL o A1 c1 A2 c2), .string s, .pointer (some ⟨DN, 0, none⟩), .int .i64 n0, .string tx, .tuple #[.string r, (oraV o' F1 f1 F2 f2), .int .i64 0], .string r, (oraV o' F1 f1 F2 f2), .int .i64 0, x67, x68, x69, x70, x71, x72, x73, x74, x75, x76, x77, x78, x79, x80, x81, x82, x83, x84, x85, x86, x87, x88, x89, x90, x91, x92, x93, x94, x95, x96, x97, x98, x99, x100, x101, x102, x103, x104, x105, x106, x107, x108, x109, x110, x111, x112, x113, x114, x115, x116, x117, x118, x119, x120, x121, x122, x123, x124, x125, x126, x127, x128, x129, x130, x131, x132, x133, x134, x135, x136, x137, x138, x139, x140, x141, x142, x143, x144, x145, x146, x147, x148, x149, x150], defers := [] } W := by
    intro W F1 f1 F2 f2 DD hB hDD iD nI o1 o2 l1 l2 d1 d2
    refine wpAnyH_ready (by kernel_rfl) (by simp) (AllReadyH.cons (i := 12) (at_nth rfl) ?_ (AllReadyH.nil))
    · have kB := belowRow hB hDD (oraL o' F1 f1 F2 f2)
      refine arm9_skip (by kernel_rfl) (run_row9 (ty := 31) (x := .tmp 17) (y := .tmp 65) (cs := (oraL o' F1 f1 F2 f2)) (by kernel_rfl) (by kernel_rfl) (by kernel_rfl) iD infoOra rfl (oraL_one9 _ _ _ _ _)) kB ?_
      try simp only [Act.put]
      have iE := iD.row (oraL o' F1 f1 F2 f2)
      have hsz : (W.setRow DD (oraL o' F1 f1 F2 f2)).heap.size = W.heap.size := by simp
      replace nI := nI.apart (grownRowG _ _ (oraL o' F1 f1 F2 f2)) d1 d2
      replace o1 := o1.wide9 (Nat.le_refl _) (Nat.le_of_eq hsz.symm)
      replace o2 := o2.wide9 (Nat.le_refl _) (Nat.le_of_eq hsz.symm)
      replace l1 : ∀ p, F1 = some p → p.block < (W.setRow DD (oraL o' F1 f1 F2 f2)).heap.size := fun p hp => by rw [hsz]; exact l1 p hp
      replace l2 : ∀ p, F2 = some p → p.block < (W.setRow DD (oraL o' F1 f1 F2 f2)).heap.size := fun p hp => by rw [hsz]; exact l2 p hp
      replace hB := kB
      refine wpAnyH_pure (i := 13) (v := .int .i64 0) (at_nth rfl) (by kernel_rfl) (by kernel_rfl) (by kernel_rfl) (fun _ _ _ h => absurd h (HQN _ _ _)) (by kernel_rfl) (fun w hSw => by kernel_rfl) hB ?_
      simp only [Act.put, List.setIfInBounds_toArray, List.set_cons_succ, List.set_cons_zero]
      exact ST4_5_10_12 _ _ _ _ _ _ hB hDD iE nI o1 o2 l1 l2 d1 d2
  have ST4_5 : ∀ (W : World) (F1 : Option Addr) (f1 : Nat) (F2 : Option Addr) (f2 : Nat), Below W0.heap.size W0 W → InI W o'.d F1 f1 F2 f2 → Own8 W0 W A1 F1 → Own8 W0 W A2 F2 → (∀ p, F1 = some p → p.block < W.heap.size) → (∀ p, F2 = some p → p.block < W.heap.size) → wpAnyH Tryz.prog .any (opsOf Tryz.f7 8) Q (fun W => Below W0.heap.size W0 W) 4 #[true, true, true, true, true, true, true, true, true, true, false, false, false, false] { tmps := #[x0, x1, x2, x3, x4, x5, x6, x7, x8, x9, x10, x11, .pointer (some ⟨DN, 0, none⟩), .string s, .pointer (some ⟨DO, 0, none⟩), x15, x16, x17, x18, x19, x20, x21, x22, x23, x24, x25, x26, x27, x28, x29, x30, x31, x32, x33, x34, x35, x36, x37, x38, x39, x40, x41, x42, x43, x44, x45, x46, x47, x48, x49, x50, x51, x52, x53, x54, x55, x56, .tuple #[.string r, (oraV o' F1 f1 F2 f2), .int .i64 0], .agg (oraL o A1 c1 A2 c2), .string s, .pointer (some ⟨DN, 0, none⟩), .int .i64 n0, .string tx, .tuple #[.string r, (oraV o' F1 f1 F2 f2), .int .i64 0], .string r, (oraV o' F1 f1 F2 f2), .int .i64 0, x67, x68, x69, x70, x71, x72, x73, x74, x75, x76, x77, x78, x79, x80, x81, x82, x83, x84, x85, x86, x87, x88, x89, x90, x91, x92, x93, x94, x95, x96, x97, x98, x99, x100, x101, x102, x103, x104, x105, x106, x107, x108, x109, x110, x111, x112, x113, x114, x115, x116, x117, x118, x119, x120, x121, x122, x123, x124, x125, x126, x127, x128, x129, x130, x131, x132, x133, x134, x135, x136, x137, x138, x139, x140, x141, x142, x143, x144, x145, x146, x147, x148, x149, x150], defers := [] } W := by
    intro W F1 f1 F2 f2 hB nI o1 o2 l1 l2
    refine wpAnyH_ready (by kernel_rfl) (by simp) (AllReadyH.cons (i := 10) (at_nth rfl) ?_ (AllReadyH.nil))
    · have hb := (Below.refl W.heap.size W).alloc (Nat.le_refl _) (.cells zer9 31)
      have iD := Is.new W 31 zer9
      have hDD : W0.heap.size ≤ W.heap.size := hB.size
      replace hB := hB.alloc hB.size (.cells zer9 31)
      refine arm9_value (by kernel_rfl) (run_allocO9 _ (by kernel_rfl)) hB ?_
      simp only [Act.put, List.setIfInBounds_toArray, List.set_cons_succ, List.set_cons_zero]
      have d1 : ∀ p, F1 = some p → (some W.heap.size : Option Nat) ≠ some p.block := fun p hp e => by have := l1 p hp; have := Option.some.inj e; omega
      have d2 : ∀ p, F2 = some p → (some W.heap.size : Option Nat) ≠ some p.block := fun p hp e => by have := l2 p hp; have := Option.some.inj e; omega
      have hsz := hb.size
      replace nI := nI.keep hb
      replace o1 := o1.wide9 (Nat.le_refl _) hsz
      replace o2 := o2.wide9 (Nat.le_refl _) hsz
      replace l1 : ∀ p, F1 = some p → p.block < (W.alloc (.cells zer9 31)).heap.size := fun p hp => Nat.lt_of_lt_of_le (l1 p hp) hsz
      replace l2 : ∀ p, F2 = some p → p.block < (W.alloc (.cells zer9 31)).heap.size := fun p hp => Nat.lt_of_lt_of_le (l2 p hp) hsz
      refine wpAnyH_pure (i := 11) (v := .string r) (at_nth rfl) (by kernel_rfl) (by kernel_rfl) (by kernel_rfl) (fun _ _ _ h => absurd h (HQN _ _ _)) (by kernel_rfl) (fun w hSw => by kernel_rfl) hB ?_
      simp only [Act.put, List.setIfInBounds_toArray, List.set_cons_succ, List.set_cons_zero]
      exact ST4_5_10 _ _ _ _ _ _ hB hDD iD nI o1 o2 l1 l2 d1 d2
  have ST4_10 : ∀ (W : World) (DD : Nat), Below W0.heap.size W0 W → W0.heap.size ≤ DD → Is W DD 31 zer9 → wpAnyH Tryz.prog .any (opsOf Tryz.f7 8) Q (fun W => Below W0.heap.size W0 W) 8 #[true, true, true, true, true, false, false, false, false, false, true, false, false, false] { tmps := #[x0, x1, x2, x3, x4, x5, x6, x7, x8, x9, x10, x11, .pointer (some ⟨DN, 0, none⟩), .string s, .pointer (some ⟨DO, 0, none⟩), x15, x16, .pointer (some ⟨DD, 0, none⟩), x18, x19, x20, x21, x22, x23, x24, x25, x26, x27, x28, x29, x30, x31, x32, x33, x34, x35, x36, x37, x38, x39, x40, x41, x42, x43, x44, x45, x46, x47, x48, x49, x50, x51, x52, x53, x54, x55, x56, x57, .agg (oraL o A1 c1 A2 c2), .string s, .pointer (some ⟨DN, 0, none⟩), .int .i64 n0, .string tx, x63, x64, x65, x66, x67, x68, x69, x70, x71, x72, x73, x74, x75, x76, x77, x78, x79, x80, x81, x82, x83, x84, x85, x86, x87, x88, x89, x90, x91, x92, x93, x94, x95, x96, x97, x98, x99, x100, x101, x102, x103, x104, x105, x106, x107, x108, x109, x110, x111, x112, x113, x114, x115, x116, x117, x118, x119, x120, x121, x122, x123, x124, x125, x126, x127, x128, x129, x130, x131, x132, x133, x134, x135, x136, x137, x138, x139, x140, x141, x142, x143, x144, x145, x146, x147, x148, x149, x150], defers := [] } W := by
    intro W DD hB hDD iD
    refine wpAnyH_ready (by kernel_rfl) (by simp) (AllReadyH.cons (i := 5) (at_nth rfl) ?_ (AllReadyH.nil))
    · have h4 := hB.size
      have hlD := iD.lt
      refine arm9_call (by kernel_rfl) (fun wy => by kernel_rfl) ((CL.out _ hB).mono ?_)
      rintro e Wn ⟨F1, f1, F2, f2, rfl, nI, hb, p1, p2⟩
      replace hB := hB.trans (hb.mono hB.size)
      replace iD := iD.below hb iD.lt
      have l1 := p1.lt9 (fun p hp => Nat.lt_of_lt_of_le (hA p hp) h4) hb.size
      have l2 := p2.lt9 (fun p hp => Nat.lt_of_lt_of_le (hA' p hp) h4) hb.size
      have d1 := p1.apart9 hA hDD hlD
      have d2 := p2.apart9 hA' hDD hlD
      have o1 := p1.wide9 h4 (Nat.le_refl Wn.heap.size)
      have o2 := p2.wide9 h4 (Nat.le_refl Wn.heap.size)
      refine ⟨_, rfl, hB, ?_⟩
      simp only [Act.put, List.setIfInBounds_toArray, List.set_cons_succ, List.set_cons_zero]
      refine wpAnyH_pure (i := 6) (v := .tuple #[.string r, (oraV o' F1 f1 F2 f2), .int .i64 0]) (at_nth rfl) (by kernel_rfl) (by kernel_rfl) (by kernel_rfl) (fun _ _ _ h => absurd h (HQN _ _ _)) (by kernel_rfl) (fun w hSw => by kernel_rfl) hB ?_
      simp only [Act.put, List.setIfInBounds_toArray, List.set_cons_succ, List.set_cons_zero]
      refine wpAnyH_pure (i := 7) (v := .string r) (at_nth rfl) (by kernel_rfl) (by kernel_rfl) (by kernel_rfl) (fun _ _ _ h => absurd h (HQN _ _ _)) (by kernel_rfl) (fun w hSw => by kernel_rfl) hB ?_
      simp only [Act.put, List.setIfInBounds_toArray, List.set_cons_succ, List.set_cons_zero]
      refine wpAnyH_pure (i := 8) (v := (oraV o' F1 f1 F2 f2)) (at_nth rfl) (by kernel_rfl) (by kernel_rfl) (by kernel_rfl) (fun _ _ _ h => absurd h (HQN _ _ _)) (by kernel_rfl) (fun w hSw => by kernel_rfl) hB ?_
      simp only [Act.put, List.setIfInBounds_toArray, List.set_cons_succ, List.set_cons_zero]
      refine wpAnyH_pure (i := 9) (v := .int .i64 0) (at_nth rfl) (by kernel_rfl) (by kernel_rfl) (by kernel_rfl) (fun _ _ _ h => absurd h (HQN _ _ _)) (by kernel_rfl) (fun w hSw => by kernel_rfl) hB ?_
      simp only [Act.put, List.setIfInBounds_toArray, List.set_cons_succ, List.set_cons_zero]
      refine wpAnyH_pure (i := 11) (v := .string r) (at_nth rfl) (by kernel_rfl) (by kernel_rfl) (by kernel_rfl) (fun _ _ _ h => absurd h (HQN _ _ _)) (by kernel_rfl) (fun w hSw => by kernel_rfl) hB ?_
      simp only [Act.put, List.setIfInBounds_toArray, List.set_cons_succ, List.set_cons_zero]
      exact ST4_5_10 _ _ _ _ _ _ hB hDD iD nI o1 o2 l1 l2 d1 d2
  have ST4 : ∀ (W : World), Below W0.heap.size W0 W → wpAnyH Tryz.prog .any (opsOf Tryz.f7 8) Q (fun W => Below W0.heap.size W0 W) 9 #[true, true, true, true, true, false, false, false, false, false, false, false, false, false] { tmps := #[x0, x1, x2, x3, x4, x5, x6, x7, x8, x9, x10, x11, .pointer (some ⟨DN, 0, none⟩), .string s, .pointer (some ⟨DO, 0, none⟩), x15, x16, x17, x18, x19, x20, x21, x22, x23, x24, x25, x26, x27, x28, x29, x30, x31, x32, x33, x34, x35, x36, x37, x38, x39, x40, x41, x42, x43, x44, x45, x46, x47, x48, x49, x50, x51, x52, x53, x54, x55, x56, x57, .agg (oraL o A1 c1 A2 c2), .string s, .pointer (some ⟨DN, 0, none⟩), .int .i64 n0, .string tx, x63, x64, x65, x66, x67, x68, x69, x70, x71, x72, x73, x74, x75, x76, x77, x78, x79, x80, x81, x82, x83, x84, x85, x86, x87, x88, x89, x90, x91, x92, x93, x94, x95, x96, x97, x98, x99, x100, x101, x102, x103, x104, x105, x106, x107, x108, x109, x110, x111, x112, x113, x114, x115, x116, x117, x118, x119, x120, x121, x122, x123, x124, x125, x126, x127, x128, x129, x130, x131, x132, x133, x134, x135, x136, x137, x138, x139, x140, x141, x142, x143, x144, x145, x146, x147, x148, x149, x150], defers := [] } W := by
    intro W hB
    refine wpAnyH_ready (by kernel_rfl) (by simp) (AllReadyH.cons (i := 5) (at_nth rfl) ?_ (AllReadyH.cons (i := 10) (at_nth rfl) ?_ (AllReadyH.nil)))
    · have h4 := hB.size
      refine arm9_call (by kernel_rfl) (fun wy => by kernel_rfl) ((CL.out _ hB).mono ?_)
      rintro e Wn ⟨F1, f1, F2, f2, rfl, nI, hb, p1, p2⟩
      replace hB := hB.trans (hb.mono hB.size)
      have l1 := p1.lt9 (fun p hp => Nat.lt_of_lt_of_le (hA p hp) h4) hb.size
      have l2 := p2.lt9 (fun p hp => Nat.lt_of_lt_of_le (hA' p hp) h4) hb.size
      have o1 := p1.wide9 h4 (Nat.le_refl Wn.heap.size)
      have o2 := p2.wide9 h4 (Nat.le_refl Wn.heap.size)
      refine ⟨_, rfl, hB, ?_⟩
      simp only [Act.put, List.setIfInBounds_toArray, List.set_cons_succ, List.set_cons_zero]
      refine wpAnyH_pure (i := 6) (v := .tuple #[.string r, (oraV o' F1 f1 F2 f2), .int .i64 0]) (at_nth rfl) (by kernel_rfl) (by kernel_rfl) (by kernel_rfl) (fun _ _ _ h => absurd h (HQN _ _ _)) (by kernel_rfl) (fun w hSw => by kernel_rfl) hB ?_
      simp only [Act.put, List.setIfInBounds_toArray, List.set_cons_succ, List.set_cons_zero]
      refine wpAnyH_pure (i := 7) (v := .string r) (at_nth rfl) (by kernel_rfl) (by kernel_rfl) (by kernel_rfl) (fun _ _ _ h => absurd h (HQN _ _ _)) (by kernel_rfl) (fun w hSw => by kernel_rfl) hB ?_
      simp only [Act.put, List.setIfInBounds_toArray, List.set_cons_succ, List.set_cons_zero]
      refine wpAnyH_pure (i := 8) (v := (oraV o' F1 f1 F2 f2)) (at_nth rfl) (by kernel_rfl) (by kernel_rfl) (by kernel_rfl) (fun _ _ _ h => absurd h (HQN _ _ _)) (by kernel_rfl) (fun w hSw => by kernel_rfl) hB ?_
      simp only [Act.put, List.setIfInBounds_toArray, List.set_cons_succ, List.set_cons_zero]
      refine wpAnyH_pure (i := 9) (v := .int .i64 0) (at_nth rfl) (by kernel_rfl) (by kernel_rfl) (by kernel_rfl) (fun _ _ _ h => absurd h (HQN _ _ _)) (by kernel_rfl) (fun w hSw => by kernel_rfl) hB ?_
      simp only [Act.put, List.setIfInBounds_toArray, List.set_cons_succ, List.set_cons_zero]
      exact ST4_5 _ _ _ _ _ hB nI o1 o2 l1 l2
    · have hb := (Below.refl W.heap.size W).alloc (Nat.le_refl _) (.cells zer9 31)
      have iD := Is.new W 31 zer9
      have hDD : W0.heap.size ≤ W.heap.size := hB.size
      replace hB := hB.alloc hB.size (.cells zer9 31)
      refine arm9_value (by kernel_rfl) (run_allocO9 _ (by kernel_rfl)) hB ?_
      simp only [Act.put, List.setIfInBounds_toArray, List.set_cons_succ, List.set_cons_zero]
      exact ST4_10 _ _ hB hDD iD
  have ST10 : ∀ (W : World) (DD : Nat), Below W0.heap.size W0 W → W0.heap.size ≤ DD → Is W DD 31 zer9 → wpAnyH Tryz.prog .any (opsOf Tryz.f7 8) Q (fun W => Below W0.heap.size W0 W) 9 #[true, true, true, true, false, false, false, false, false, false, true, false, false, false] { tmps := #[x0, x1, x2, x3, x4, x5, x6, x7, x8, x9, x10, x11, .pointer (some ⟨DN, 0, none⟩), .string s, .pointer (some ⟨DO, 0, none⟩), x15, x16, .pointer (some ⟨DD, 0, none⟩), x18, x19, x20, x21, x22, x23, x24, x25, x26, x27, x28, x29, x30, x31, x32, x33, x34, x35, x36, x37, x38, x39, x40, x41, x42, x43, x44, x45, x46, x47, x48, x49, x50, x51, x52, x53, x54, x55, x56, x57, .agg (oraL o A1 c1 A2 c2), .string s, .pointer (some ⟨DN, 0, none⟩), .int .i64 n0, x62, x63, x64, x65, x66, x67, x68, x69, x70, x71, x72, x73, x74, x75, x76, x77, x78, x79, x80, x81, x82, x83, x84, x85, x86, x87, x88, x89, x90, x91, x92, x93, x94, x95, x96, x97, x98, x99, x100, x101, x102, x103, x104, x105, x106, x107, x108, x109, x110, x111, x112, x113, x114, x115, x116, x117, x118, x119, x120, x121, x122, x123, x124, x125, x126, x127, x128, x129, x130, x131, x132, x133, x134, x135, x136, x137, x138, x139, x140, x141, x142, x143, x144, x145, x146, x147, x148, x149, x150], defers := [] } W := by
    intro W DD hB hDD iD
    refine wpAnyH_ready (by kernel_rfl) (by simp) (AllReadyH.cons (i := 4) (at_nth rfl) ?_ (AllReadyH.nil))
    · refine arm9_call (by kernel_rfl) (fun wy => by kernel_rfl) ((TX.out _).mono ?_)
      rintro e Wn ⟨rfl, hb⟩
      replace hB := hB.trans (hb.mono hB.size)
      replace iD := iD.below hb iD.lt
      refine ⟨_, rfl, hB, ?_⟩
      simp only [Act.put, List.setIfInBounds_toArray, List.set_cons_succ, List.set_cons_zero]
      exact ST4_10 _ _ hB hDD iD
  have ST : ∀ (W : World), Below W0.heap.size W0 W → wpAnyH Tryz.prog .any (opsOf Tryz.f7 8) Q (fun W => Below W0.heap.size W0 W) 10 #[true, true, true, true, false, false, false, false, false, false, false, false, false, false] { tmps := #[x0, x1, x2, x3, x4, x5, x6, x7, x8, x9, x10, x11, .pointer (some ⟨DN, 0, none⟩), .string s, .pointer (some ⟨DO, 0, none⟩), x15, x16, x17, x18, x19, x20, x21, x22, x23, x24, x25, x26, x27, x28, x29, x30, x31, x32, x33, x34, x35, x36, x37, x38, x39, x40, x41, x42, x43, x44, x45, x46, x47, x48, x49, x50, x51, x52, x53, x54, x55, x56, x57, .agg (oraL o A1 c1 A2 c2), .string s, .pointer (some ⟨DN, 0, none⟩), .int .i64 n0, x62, x63, x64, x65, x66, x67, x68, x69, x70, x71, x72, x73, x74, x75, x76, x77, x78, x79, x80, x81, x82, x83, x84, x85, x86, x87, x88, x89, x90, x91, x92, x93, x94, x95, x96, x97, x98, x99, x100, x101, x102, x103, x104, x105, x106, x107, x108, x109, x110, x111, x112, x113, x114, x115, x116, x117, x118, x119, x120, x121, x122, x123, x124, x125, x126, x127, x128, x129, x130, x131, x132, x133, x134, x135, x136, x137, x138, x139, x140, x141, x142, x143, x144, x145, x146, x147, x148, x149, x150], defers := [] } W := by
    intro W hB
    refine wpAnyH_ready (by kernel_rfl) (by simp) (AllReadyH.cons (i := 4) (at_nth rfl) ?_ (AllReadyH.cons (i := 10) (at_nth rfl) ?_ (AllReadyH.nil)))
    · refine arm9_call (by kernel_rfl) (fun wy => by kernel_rfl) ((TX.out _).mono ?_)
      rintro e Wn ⟨rfl, hb⟩
      replace hB := hB.trans (hb.mono hB.size)
      refine ⟨_, rfl, hB, ?_⟩
      simp only [Act.put, List.setIfInBounds_toArray, List.set_cons_succ, List.set_cons_zero]
      exact ST4 _ hB
    · have hb := (Below.refl W.heap.size W).alloc (Nat.le_refl _) (.cells zer9 31)
      have iD := Is.new W 31 zer9
      have hDD : W0.heap.size ≤ W.heap.size := hB.size
      replace hB := hB.alloc hB.size (.cells zer9 31)
      refine arm9_value (by kernel_rfl) (run_allocO9 _ (by kernel_rfl)) hB ?_
      simp only [Act.put, List.setIfInBounds_toArray, List.set_cons_succ, List.set_cons_zero]
      exact ST10 _ _ hB hDD iD
  refine wp_region_held_drew (S := fun W => Below W0.heap.size W0 W) (by kernel_rfl) hB (fun hS => ?_)
  change wpAnyH _ _ (opsOf Tryz.f7 8) _ _ 14 (Array.replicate 14 false) _ (W0.drewN 1)
  clear hS
  replace hB : Below W0.heap.size W0 (W0.drewN 1) := belowN (Below.refl _ _) 1
  refine wpAnyH_pure (i := 0) (v := .agg (oraL o A1 c1 A2 c2)) (at_nth rfl) (by kernel_rfl) (by kernel_rfl) (by kernel_rfl) (fun _ _ _ h => absurd h (HQN _ _ _)) (by kernel_rfl) (fun w hSw => by exact exec_load (x := .tmp 14) (by kernel_rfl) (by kernel_rfl) (run_loadVar_row _ _ 31 31 _ (0, 0) _ (HO.out _ hSw) Tryz.underlying31 rfl infoOra)) hB ?_
  simp only [Act.put, List.setIfInBounds_toArray, List.set_cons_succ, List.set_cons_zero]
  refine wpAnyH_pure (i := 1) (v := .string s) (at_nth rfl) (by kernel_rfl) (by kernel_rfl) (by kernel_rfl) (fun _ _ _ h => absurd h (HQN _ _ _)) (by kernel_rfl) (fun w hSw => by kernel_rfl) hB ?_
  simp only [Act.put, List.setIfInBounds_toArray, List.set_cons_succ, List.set_cons_zero]
  refine wpAnyH_pure (i := 2) (v := .pointer (some ⟨DN, 0, none⟩)) (at_nth rfl) (by kernel_rfl) (by kernel_rfl) (by kernel_rfl) (fun _ _ _ h => absurd h (HQN _ _ _)) (by kernel_rfl) (fun w hSw => by go_simp) hB ?_
  simp only [Act.put, List.setIfInBounds_toArray, List.set_cons_succ, List.set_cons_zero]
  refine wpAnyH_pure (i := 3) (v := .int .i64 n0) (at_nth rfl) (by kernel_rfl) (by kernel_rfl) (by kernel_rfl) (fun _ _ _ h => absurd h (HQN _ _ _)) (by kernel_rfl) (fun w hSw => by (have hc := HN0.out _ hSw; go_simp)) hB ?_
  simp only [Act.put, List.setIfInBounds_toArray, List.set_cons_succ, List.set_cons_zero]
  exact ST _ hB
end Go.Proofs.YtfgdcpolfekgjaaGreat

