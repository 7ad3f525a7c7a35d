/-
  WireKinds: the statement's drawn regions.
-/
import Derived.Test.YtapfbcpbiagogaaWirW
namespace Go.Proofs.Ytapfbcpbiagogaa
open Go.RowKit Go.Shelf

theorem run_low11 (s : ByteArray) (k : Int) (h0 : 0 ≤ k) (h1 : k ≤ (s.size : Int)) (wx : World) : (Instr.slice 9 (.string s) (some (.int .i64 k)) none none).run Try.prog wx = .ok (.string (s.extract k.toNat s.size)) wx := by
  have h := run_slice_string (P := Try.prog) wx 9 s .i64 .i64 k (s.size : Int) Try.underlying9 h0 h1 (Int.le_refl _)
  have q : ¬ k < 0 := by omega
  have q2 : k.toNat ≤ s.size := by omega
  go_simp
theorem run_high11 (s : ByteArray) (k : Int) (h0 : 0 ≤ k) (h1 : k ≤ (s.size : Int)) (wx : World) : (Instr.slice 9 (.string s) none (some (.int .i64 k)) none).run Try.prog wx = .ok (.string (s.extract 0 k.toNat)) wx :=
  run_slice_string_h (P := Try.prog) (w := wx) (t := 9) (s := s) Try.underlying9 .i64 k h0 h1
theorem exec_conv11 {P : Program} {w : World} {o : Oper} {ev : Operand → Value} {t t2 : TypeId} {x : Operand} {u v : Value} {w' : World} (ho : o.op = .convert t t2 x) (hx : ev x = u) (hv : (convert t t2 u).run P w = .ok v w') : (execOp ev o).run P w = .ok (.value v) w' := by
  simp only [execOp, ho, hx, Sem.run_bind, hv, Result.andThen_ok, Sem.run_pure]
theorem run_allocQ11 (W : World) {o : Oper} {a : Act} (ho : o.op = .alloc 26) : (execOp a.eval o).run Try.prog W = .ok (.value (.pointer (some ⟨W.heap.size, 0, none⟩))) (W.alloc (.cells #[.int .i64 0, .slice none 0 0, .slice none 0 0] 26)) := by
  simp only [execOp, ho]
  go_simp
theorem run_allocR11 (W : World) {o : Oper} {a : Act} (ho : o.op = .alloc 28) : (execOp a.eval o).run Try.prog W = .ok (.value (.pointer (some ⟨W.heap.size, 0, none⟩))) (W.alloc (.cells #[.int .i64 0, .int .i64 0, .slice none 0 0, .int .i64 0, .int .i64 0] 28)) := by
  simp only [execOp, ho]
  go_simp
set_option maxRecDepth 100000 in
set_option maxHeartbeats 4000000 in
theorem kinds11_dec (w W0 : World) (k : Int) (s K1 s4 : ByteArray) (D : Req11 × Int) (gq : Nat) (xiq : Array Value) (HK1 : Hid (IntKind.u8.wrap k = k)) (HSL : Hid (∀ wx : World, (Instr.slice 9 (.string s) (some (.int .i64 4)) none none).run Try.prog wx = .ok (.string s4) wx)) (HQ1 : Hid (¬ 9223372036854775807 < 3 + K1.size)) (HQ2 : Hid (¬ 9223372036854775807 < (⟨#[0, 0, 0]⟩ ++ K1).size + s4.size)) (HQ3 : Hid (¬ 9223372036854775807 < 3 + K1.size + s4.size))
    (HCV : Hid (∀ {W : World} {g : Nat}, Is W g 5 #[.int .u8 k] → (convert 45 9 (.slice (some ⟨g, 0, none⟩) 1 1)).run Try.prog W = .ok (.string K1) W))
    (N1 : Hid (∀ W, Calls Try.prog 16 #[.string (⟨#[0, 0, 0]⟩ ++ K1 ++ s4)] W fun r w' => DecPost11 D W r w'))
    (hw0 : w.heap.size ≤ W0.heap.size) (hB : Below w.heap.size w W0) (iq : Is W0 gq 26 xiq) (hiq : gq < W0.heap.size) (x0 x1 x2 x3 x4 x5 x6 x7 x8 x9 x10 x11 x13 x14 x15 x17 x18 x19 x20 x21 x22 x23 x24 x25 x26 x27 x28 x29 x30 x31 x32 x33 x34 x35 x36 x37 x38 x39 x40 x41 x42 x43 x44 x45 x46 x47 x48 x49 x50 x51 x52 x53 x54 x55 x56 x57 x58 x59 x60 x61 x62 x63 x64 x65 x66 x67 x68 x69 x70 x71 x72 x73 x74 x75 x76 x77 x78 x79 x80 x81 x82 x83 x84 x85 x86 x87 x88 x89 x90 x91 x92 x93 x94 x95 x96 x97 x98 x99 x100 x101 x102 x103 x104 x105 x106 x107 x108 x109 x110 x111 x112 x113 x114 x115 x116 x117 x118 x119 x120 x121 x122 x123 x124 x125 x126 x127 x128 x129 x130 x131 x132 x133 x134 x135 x136 x137 x138 x139 x140 x141 x142 x143 x144 x145 x146 x147 x148 x149 x150 x151 x152 : Value) :
    (Code.region 9 (opsOf Try.f6 9) true).wp Try.prog (fun ex YY W => ex = .normal ∧ YY.defers = [] ∧ ∃ (DB : Nat) (DD : Nat) (B1 : Option Addr) (d1 : Nat) (B2 : Option Addr) (d2 : Nat), YY.tmps = #[x0, x1, x2, x3, x4, x5, x6, x7, x8, x9, x10, x11, .string s, x13, x14, x15, .int .i64 k, .pointer (some ⟨DD, 0, none⟩), .int .i64 D.2, x19, x20, x21, x22, x23, x24, x25, x26, x27, x28, x29, x30, x31, x32, x33, x34, x35, x36, x37, x38, x39, x40, x41, x42, x43, x44, x45, x46, x47, x48, x49, x50, x51, x52, x53, x54, x55, x56, x57, x58, .tuple #[.agg #[.int .i64 D.1.k, .slice B1 D.1.L.length d1, .slice B2 D.1.C.length d2], .int .i64 D.2], .int .i64 k, .int .u8 k, .slice (some ⟨DB, 0, none⟩) 1 1, .string K1, .string (⟨#[0, 0, 0]⟩ ++ K1), .string s, .string s4, .string (⟨#[0, 0, 0]⟩ ++ K1 ++ s4), .tuple #[.agg #[.int .i64 D.1.k, .slice B1 D.1.L.length d1, .slice B2 D.1.C.length d2], .int .i64 D.2], .agg #[.int .i64 D.1.k, .slice B1 D.1.L.length d1, .slice B2 D.1.C.length d2], .int .i64 D.2, x71, x72, x73, x74, x75, x76, x77, x78, x79, x80, x81, x82, x83, x84, x85, x86, x87, x88, x89, x90, x91, x92, x93, x94, x95, x96, x97, x98, x99, x100, x101, x102, x103, x104, x105, x106, x107, x108, x109, x110, x111, x112, x113, x114, x115, x116, x117, x118, x119, x120, x121, x122, x123, x124, x125, x126, x127, x128, x129, x130, x131, x132, x133, x134, x135, x136, x137, x138, x139, x140, x141, x142, x143, x144, x145, x146, x147, x148, x149, x150, x151, x152] ∧ Below w.heap.size w W ∧ W0.heap.size ≤ W.heap.size ∧ Is W gq 26 xiq ∧ Is W DD 26 #[.int .i64 D.1.k, .slice B1 D.1.L.length d1, .slice B2 D.1.C.length d2] ∧ W0.heap.size ≤ DD) { tmps := #[x0, x1, x2, x3, x4, x5, x6, x7, x8, x9, x10, x11, .string s, x13, x14, x15, .int .i64 k, x17, x18, x19, x20, x21, x22, x23, x24, x25, x26, x27, x28, x29, x30, x31, x32, x33, x34, x35, x36, x37, x38, x39, x40, x41, x42, x43, x44, x45, x46, x47, x48, x49, x50, x51, x52, x53, x54, x55, x56, x57, x58, x59, x60, x61, x62, x63, x64, x65, x66, x67, x68, x69, x70, x71, x72, x73, x74, x75, x76, x77, x78, x79, x80, x81, x82, x83, x84, x85, x86, x87, x88, x89, x90, x91, x92, x93, x94, x95, x96, x97, x98, x99, x100, x101, x102, x103, x104, x105, x106, x107, x108, x109, x110, x111, x112, x113, x114, x115, x116, x117, x118, x119, x120, x121, x122, x123, x124, x125, x126, x127, x128, x129, x130, x131, x132, x133, x134, x135, x136, x137, x138, x139, x140, x141, x142, x143, x144, x145, x146, x147, x148, x149, x150, x151, x152], defers := [] } W0 := by
  replace hB : Below w.heap.size w (W0.drewN 1) := belowN hB 1
  have hN : W0.heap.size ≤ (W0.drewN 1).heap.size := Nat.le_refl _
  replace iq := iq.drewN 1
  generalize hQ : (fun (ex : Exit) (YY : Act) (W : World) => ex = .normal ∧ YY.defers = [] ∧ ∃ (DB : Nat) (DD : Nat) (B1 : Option Addr) (d1 : Nat) (B2 : Option Addr) (d2 : Nat), YY.tmps = #[x0, x1, x2, x3, x4, x5, x6, x7, x8, x9, x10, x11, .string s, x13, x14, x15, .int .i64 k, .pointer (some ⟨DD, 0, none⟩), .int .i64 D.2, x19, x20, x21, x22, x23, x24, x25, x26, x27, x28, x29, x30, x31, x32, x33, x34, x35, x36, x37, x38, x39, x40, x41, x42, x43, x44, x45, x46, x47, x48, x49, x50, x51, x52, x53, x54, x55, x56, x57, x58, .tuple #[.agg #[.int .i64 D.1.k, .slice B1 D.1.L.length d1, .slice B2 D.1.C.length d2], .int .i64 D.2], .int .i64 k, .int .u8 k, .slice (some ⟨DB, 0, none⟩) 1 1, .string K1, .string (⟨#[0, 0, 0]⟩ ++ K1), .string s, .string s4, .string (⟨#[0, 0, 0]⟩ ++ K1 ++ s4), .tuple #[.agg #[.int .i64 D.1.k, .slice B1 D.1.L.length d1, .slice B2 D.1.C.length d2], .int .i64 D.2], .agg #[.int .i64 D.1.k, .slice B1 D.1.L.length d1, .slice B2 D.1.C.length d2], .int .i64 D.2, x71, x72, x73, x74, x75, x76, x77, x78, x79, x80, x81, x82, x83, x84, x85, x86, x87, x88, x89, x90, x91, x92, x93, x94, x95, x96, x97, x98, x99, x100, x101, x102, x103, x104, x105, x106, x107, x108, x109, x110, x111, x112, x113, x114, x115, x116, x117, x118, x119, x120, x121, x122, x123, x124, x125, x126, x127, x128, x129, x130, x131, x132, x133, x134, x135, x136, x137, x138, x139, x140, x141, x142, x143, x144, x145, x146, x147, x148, x149, x150, x151, x152] ∧ Below w.heap.size w W ∧ W0.heap.size ≤ W.heap.size ∧ Is W gq 26 xiq ∧ Is W DD 26 #[.int .i64 D.1.k, .slice B1 D.1.L.length d1, .slice B2 D.1.C.length d2] ∧ W0.heap.size ≤ DD) = Q
  have HQN : ∀ c a W, ¬ Q (.panic c) a W := fun c a W h => by subst hQ; exact nomatch h.1
  have ST2_3_8_12_13 : ∀ (W : World) (DB : Nat) (DD : Nat) (B1 : Option Addr) (d1 : Nat) (B2 : Option Addr) (d2 : Nat), Below w.heap.size w W → W0.heap.size ≤ W.heap.size → Is W gq 26 xiq → Is W DD 26 #[.int .i64 D.1.k, .slice B1 D.1.L.length d1, .slice B2 D.1.C.length d2] → W0.heap.size ≤ DD → wpAnyH Try.prog .any (opsOf Try.f6 9) Q (fun W => Below w.heap.size w W) 0 #[true, true, true, true, true, true, true, true, true, true, true, true, true, true, true] { tmps := #[x0, x1, x2, x3, x4, x5, x6, x7, x8, x9, x10, x11, .string s, x13, x14, x15, .int .i64 k, .pointer (some ⟨DD, 0, none⟩), .int .i64 D.2, x19, x20, x21, x22, x23, x24, x25, x26, x27, x28, x29, x30, x31, x32, x33, x34, x35, x36, x37, x38, x39, x40, x41, x42, x43, x44, x45, x46, x47, x48, x49, x50, x51, x52, x53, x54, x55, x56, x57, x58, .tuple #[.agg #[.int .i64 D.1.k, .slice B1 D.1.L.length d1, .slice B2 D.1.C.length d2], .int .i64 D.2], .int .i64 k, .int .u8 k, .slice (some ⟨DB, 0, none⟩) 1 1, .string K1, .string (⟨#[0, 0, 0]⟩ ++ K1), .string s, .string s4, .string (⟨#[0, 0, 0]⟩ ++ K1 ++ s4), .tuple #[.agg #[.int .i64 D.1.k, .slice B1 D.1.L.length d1, .slice B2 D.1.C.length d2], .int .i64 D.2], .agg #[.int .i64 D.1.k, .slice B1 D.1.L.length d1, .slice B2 D.1.C.length d2], .int .i64 D.2, x71, x72, x73, x74, x75, x76, x77, x78, x79, x80, x81, x82, x83, x84, x85, x86, x87, x88, x89, x90, x91, x92, x93, x94, x95, x96, x97, x98, x99, x100, x101, x102, x103, x104, x105, x106, x107, x108, x109, x110, x111, x112, x113, x114, x115, x116, x117, x118, x119, x120, x121, x122, x123, x124, x125, x126, x127, x128, x129, x130, x131, x132, x133, x134, x135, x136, x137, x138, x139, x140, x141, x142, x143, x144, x145, x146, x147, x148, x149, x150, x151, x152], defers := [] } W := by
    intro W DB DD B1 d1 B2 d2 hB hN iq iD2 hDD
    refine wpAnyH_done (by kernel_rfl) ?_ _
    subst hQ
    exact ⟨rfl, rfl, DB, DD, B1, d1, B2, d2, rfl, hB, hN, iq, iD2, hDD⟩
  have ST2_3_8_12 : ∀ (W : World) (DB : Nat) (DD : Nat) (B1 : Option Addr) (d1 : Nat) (B2 : Option Addr) (d2 : Nat), Below w.heap.size w W → W0.heap.size ≤ W.heap.size → Is W gq 26 xiq → Is W DD 26 #[.int .i64 0, .slice none 0 0, .slice none 0 0] → W0.heap.size ≤ DD → wpAnyH Try.prog .any (opsOf Try.f6 9) Q (fun W => Below w.heap.size w W) 2 #[true, true, true, true, true, true, true, true, true, true, true, true, true, false, false] { tmps := #[x0, x1, x2, x3, x4, x5, x6, x7, x8, x9, x10, x11, .string s, x13, x14, x15, .int .i64 k, .pointer (some ⟨DD, 0, none⟩), x18, x19, x20, x21, x22, x23, x24, x25, x26, x27, x28, x29, x30, x31, x32, x33, x34, x35, x36, x37, x38, x39, x40, x41, x42, x43, x44, x45, x46, x47, x48, x49, x50, x51, x52, x53, x54, x55, x56, x57, x58, .tuple #[.agg #[.int .i64 D.1.k, .slice B1 D.1.L.length d1, .slice B2 D.1.C.length d2], .int .i64 D.2], .int .i64 k, .int .u8 k, .slice (some ⟨DB, 0, none⟩) 1 1, .string K1, .string (⟨#[0, 0, 0]⟩ ++ K1), .string s, .string s4, .string (⟨#[0, 0, 0]⟩ ++ K1 ++ s4), .tuple #[.agg #[.int .i64 D.1.k, .slice B1 D.1.L.length d1, .slice B2 D.1.C.length d2], .int .i64 D.2], .agg #[.int .i64 D.1.k, .slice B1 D.1.L.length d1, .slice B2 D.1.C.length d2], .int .i64 D.2, x71, x72, x73, x74, x75, x76, x77, x78, x79, x80, x81, x82, x83, x84, x85, x86, x87, x88, x89, x90, x91, x92, x93, x94, x95, x96, x97, x98, x99, x100, x101, x102, x103, x104, x105, x106, x107, x108, x109, x110, x111, x112, x113, x114, x115, x116, x117, x118, x119, x120, x121, x122, x123, x124, x125, x126, x127, x128, x129, x130, x131, x132, x133, x134, x135, x136, x137, x138, x139, x140, x141, x142, x143, x144, x145, x146, x147, x148, x149, x150, x151, x152], defers := [] } W := by
    intro W DB DD B1 d1 B2 d2 hB hN iq iD hDD
    refine wpAnyH_ready (by kernel_rfl) (by simp) (AllReadyH.cons (i := 13) (at_nth rfl) ?_ (AllReadyH.nil))
    · have iD2 := iD.row #[.int .i64 D.1.k, .slice B1 D.1.L.length d1, .slice B2 D.1.C.length d2]
      replace iq := iq.rowFar (k := DD) (by have := hiq; omega) #[.int .i64 D.1.k, .slice B1 D.1.L.length d1, .slice B2 D.1.C.length d2]
      have kB := belowRow hB (Nat.le_trans hw0 hDD) #[.int .i64 D.1.k, .slice B1 D.1.L.length d1, .slice B2 D.1.C.length d2]
      refine arm10_skip (by kernel_rfl) (run_row10 (ty := 26) (x := .tmp 17) (y := .tmp 69) (cs := #[.int .i64 D.1.k, .slice B1 D.1.L.length d1, .slice B2 D.1.C.length d2]) (by kernel_rfl) (by kernel_rfl) (by kernel_rfl) iD infoReq11 rfl (by rw [← Array.all_toList]; rfl)) kB ?_
      try simp only [Act.put]
      replace hB := kB
      replace hN : W0.heap.size ≤ (W.setRow DD #[.int .i64 D.1.k, .slice B1 D.1.L.length d1, .slice B2 D.1.C.length d2]).heap.size := by simpa using hN
      refine wpAnyH_pure (i := 14) (v := .int .i64 D.2) (at_nth rfl) (by kernel_rfl) (by kernel_rfl) (by kernel_rfl) (fun _ _ _ h => absurd h (HQN _ _ _)) (by kernel_rfl) (fun w hSw => by kernel_rfl) hB ?_
      simp only [Act.put, List.setIfInBounds_toArray, List.set_cons_succ, List.set_cons_zero]
      exact ST2_3_8_12_13 _ _ _ _ _ _ _ hB hN iq iD2 hDD
  have ST2_3_8 : ∀ (W : World) (DB : Nat) (B1 : Option Addr) (d1 : Nat) (B2 : Option Addr) (d2 : Nat), Below w.heap.size w W → W0.heap.size ≤ W.heap.size → Is W gq 26 xiq → wpAnyH Try.prog .any (opsOf Try.f6 9) Q (fun W => Below w.heap.size w W) 3 #[true, true, true, true, true, true, true, true, true, true, true, true, false, false, false] { tmps := #[x0, x1, x2, x3, x4, x5, x6, x7, x8, x9, x10, x11, .string s, x13, x14, x15, .int .i64 k, x17, x18, x19, x20, x21, x22, x23, x24, x25, x26, x27, x28, x29, x30, x31, x32, x33, x34, x35, x36, x37, x38, x39, x40, x41, x42, x43, x44, x45, x46, x47, x48, x49, x50, x51, x52, x53, x54, x55, x56, x57, x58, .tuple #[.agg #[.int .i64 D.1.k, .slice B1 D.1.L.length d1, .slice B2 D.1.C.length d2], .int .i64 D.2], .int .i64 k, .int .u8 k, .slice (some ⟨DB, 0, none⟩) 1 1, .string K1, .string (⟨#[0, 0, 0]⟩ ++ K1), .string s, .string s4, .string (⟨#[0, 0, 0]⟩ ++ K1 ++ s4), .tuple #[.agg #[.int .i64 D.1.k, .slice B1 D.1.L.length d1, .slice B2 D.1.C.length d2], .int .i64 D.2], .agg #[.int .i64 D.1.k, .slice B1 D.1.L.length d1, .slice B2 D.1.C.length d2], .int .i64 D.2, x71, x72, x73, x74, x75, x76, x77, x78, x79, x80, x81, x82, x83, x84, x85, x86, x87, x88, x89, x90, x91, x92, x93, x94, x95, x96, x97, x98, x99, x100, x101, x102, x103, x104, x105, x106, x107, x108, x109, x110, x111, x112, x113, x114, x115, x116, x117, x118, x119, x120, x121, x122, x123, x124, x125, x126, x127, x128, x129, x130, x131, x132, x133, x134, x135, x136, x137, x138, x139, x140, x141, x142, x143, x144, x145, x146, x147, x148, x149, x150, x151, x152], defers := [] } W := by
    intro W DB B1 d1 B2 d2 hB hN iq
    refine wpAnyH_ready (by kernel_rfl) (by simp) (AllReadyH.cons (i := 12) (at_nth rfl) ?_ (AllReadyH.nil))
    · have iDn := Is.new W 26 #[.int .i64 0, .slice none 0 0, .slice none 0 0]
      have hDD : W0.heap.size ≤ W.heap.size := hN
      replace iq := iq.alloc (.cells #[.int .i64 0, .slice none 0 0, .slice none 0 0] 26)
      have hN2 : W0.heap.size ≤ (W.alloc (.cells #[.int .i64 0, .slice none 0 0, .slice none 0 0] 26)).heap.size := by simp; omega
      replace hN := hN2
      replace hB := hB.alloc hB.size (.cells #[.int .i64 0, .slice none 0 0, .slice none 0 0] 26)
      have iD := iDn
      clear iDn hN2
      refine arm10_value (by kernel_rfl) (run_allocQ11 _ (by kernel_rfl)) hB ?_
      simp only [Act.put, List.setIfInBounds_toArray, List.set_cons_succ, List.set_cons_zero]
      exact ST2_3_8_12 _ _ _ _ _ _ _ hB hN iq iD hDD
  have ST2_3_12 : ∀ (W : World) (DB : Nat) (DD : Nat), Below w.heap.size w W → W0.heap.size ≤ W.heap.size → Is W gq 26 xiq → Is W DD 26 #[.int .i64 0, .slice none 0 0, .slice none 0 0] → W0.heap.size ≤ DD → wpAnyH Try.prog .any (opsOf Try.f6 9) Q (fun W => Below w.heap.size w W) 6 #[true, true, true, true, true, true, true, true, false, false, false, false, true, false, false] { tmps := #[x0, x1, x2, x3, x4, x5, x6, x7, x8, x9, x10, x11, .string s, x13, x14, x15, .int .i64 k, .pointer (some ⟨DD, 0, none⟩), x18, x19, x20, x21, x22, x23, x24, x25, x26, x27, x28, x29, x30, x31, x32, x33, x34, x35, x36, x37, x38, x39, x40, x41, x42, x43, x44, x45, x46, x47, x48, x49, x50, x51, x52, x53, x54, x55, x56, x57, x58, x59, .int .i64 k, .int .u8 k, .slice (some ⟨DB, 0, none⟩) 1 1, .string K1, .string (⟨#[0, 0, 0]⟩ ++ K1), .string s, .string s4, .string (⟨#[0, 0, 0]⟩ ++ K1 ++ s4), x68, x69, x70, x71, x72, x73, x74, x75, x76, x77, x78, x79, x80, x81, x82, x83, x84, x85, x86, x87, x88, x89, x90, x91, x92, x93, x94, x95, x96, x97, x98, x99, x100, x101, x102, x103, x104, x105, x106, x107, x108, x109, x110, x111, x112, x113, x114, x115, x116, x117, x118, x119, x120, x121, x122, x123, x124, x125, x126, x127, x128, x129, x130, x131, x132, x133, x134, x135, x136, x137, x138, x139, x140, x141, x142, x143, x144, x145, x146, x147, x148, x149, x150, x151, x152], defers := [] } W := by
    intro W DB DD hB hN iq iD hDD
    refine wpAnyH_ready (by kernel_rfl) (by simp) (AllReadyH.cons (i := 8) (at_nth rfl) ?_ (AllReadyH.nil))
    · refine arm10_call (by kernel_rfl) (fun wy => by kernel_rfl) ((N1.out _).mono ?_)
      rintro e Wn ⟨B1, d1, B2, d2, rfl, _, _, hb⟩
      replace iq := iq.below hb iq.lt
      replace iD := iD.below hb iD.lt
      replace hB := hB.trans (hb.mono hB.size)
      replace hN := Nat.le_trans hN hb.size
      clear hb
      refine ⟨_, rfl, hB, ?_⟩
      simp only [Act.put, List.setIfInBounds_toArray, List.set_cons_succ, List.set_cons_zero]
      refine wpAnyH_pure (i := 9) (v := .tuple #[.agg #[.int .i64 D.1.k, .slice B1 D.1.L.length d1, .slice B2 D.1.C.length d2], .int .i64 D.2]) (at_nth rfl) (by kernel_rfl) (by kernel_rfl) (by kernel_rfl) (fun _ _ _ h => absurd h (HQN _ _ _)) (by kernel_rfl) (fun w hSw => by kernel_rfl) hB ?_
      simp only [Act.put, List.setIfInBounds_toArray, List.set_cons_succ, List.set_cons_zero]
      refine wpAnyH_pure (i := 10) (v := .agg #[.int .i64 D.1.k, .slice B1 D.1.L.length d1, .slice B2 D.1.C.length d2]) (at_nth rfl) (by kernel_rfl) (by kernel_rfl) (by kernel_rfl) (fun _ _ _ h => absurd h (HQN _ _ _)) (by kernel_rfl) (fun w hSw => by kernel_rfl) hB ?_
      simp only [Act.put, List.setIfInBounds_toArray, List.set_cons_succ, List.set_cons_zero]
      refine wpAnyH_pure (i := 11) (v := .int .i64 D.2) (at_nth rfl) (by kernel_rfl) (by kernel_rfl) (by kernel_rfl) (fun _ _ _ h => absurd h (HQN _ _ _)) (by kernel_rfl) (fun w hSw => by kernel_rfl) hB ?_
      simp only [Act.put, List.setIfInBounds_toArray, List.set_cons_succ, List.set_cons_zero]
      exact ST2_3_8_12 _ _ _ _ _ _ _ hB hN iq iD hDD
  have ST2_3 : ∀ (W : World) (DB : Nat), Below w.heap.size w W → W0.heap.size ≤ W.heap.size → Is W gq 26 xiq → wpAnyH Try.prog .any (opsOf Try.f6 9) Q (fun W => Below w.heap.size w W) 7 #[true, true, true, true, true, true, true, true, false, false, false, false, false, false, false] { tmps := #[x0, x1, x2, x3, x4, x5, x6, x7, x8, x9, x10, x11, .string s, x13, x14, x15, .int .i64 k, x17, x18, x19, x20, x21, x22, x23, x24, x25, x26, x27, x28, x29, x30, x31, x32, x33, x34, x35, x36, x37, x38, x39, x40, x41, x42, x43, x44, x45, x46, x47, x48, x49, x50, x51, x52, x53, x54, x55, x56, x57, x58, x59, .int .i64 k, .int .u8 k, .slice (some ⟨DB, 0, none⟩) 1 1, .string K1, .string (⟨#[0, 0, 0]⟩ ++ K1), .string s, .string s4, .string (⟨#[0, 0, 0]⟩ ++ K1 ++ s4), x68, x69, x70, x71, x72, x73, x74, x75, x76, x77, x78, x79, x80, x81, x82, x83, x84, x85, x86, x87, x88, x89, x90, x91, x92, x93, x94, x95, x96, x97, x98, x99, x100, x101, x102, x103, x104, x105, x106, x107, x108, x109, x110, x111, x112, x113, x114, x115, x116, x117, x118, x119, x120, x121, x122, x123, x124, x125, x126, x127, x128, x129, x130, x131, x132, x133, x134, x135, x136, x137, x138, x139, x140, x141, x142, x143, x144, x145, x146, x147, x148, x149, x150, x151, x152], defers := [] } W := by
    intro W DB hB hN iq
    refine wpAnyH_ready (by kernel_rfl) (by simp) (AllReadyH.cons (i := 8) (at_nth rfl) ?_ (AllReadyH.cons (i := 12) (at_nth rfl) ?_ (AllReadyH.nil)))
    · refine arm10_call (by kernel_rfl) (fun wy => by kernel_rfl) ((N1.out _).mono ?_)
      rintro e Wn ⟨B1, d1, B2, d2, rfl, _, _, hb⟩
      replace iq := iq.below hb iq.lt
      replace hB := hB.trans (hb.mono hB.size)
      replace hN := Nat.le_trans hN hb.size
      clear hb
      refine ⟨_, rfl, hB, ?_⟩
      simp only [Act.put, List.setIfInBounds_toArray, List.set_cons_succ, List.set_cons_zero]
      refine wpAnyH_pure (i := 9) (v := .tuple #[.agg #[.int .i64 D.1.k, .slice B1 D.1.L.length d1, .slice B2 D.1.C.length d2], .int .i64 D.2]) (at_nth rfl) (by kernel_rfl) (by kernel_rfl) (by kernel_rfl) (fun _ _ _ h => absurd h (HQN _ _ _)) (by kernel_rfl) (fun w hSw => by kernel_rfl) hB ?_
      simp only [Act.put, List.setIfInBounds_toArray, List.set_cons_succ, List.set_cons_zero]
      refine wpAnyH_pure (i := 10) (v := .agg #[.int .i64 D.1.k, .slice B1 D.1.L.length d1, .slice B2 D.1.C.length d2]) (at_nth rfl) (by kernel_rfl) (by kernel_rfl) (by kernel_rfl) (fun _ _ _ h => absurd h (HQN _ _ _)) (by kernel_rfl) (fun w hSw => by kernel_rfl) hB ?_
      simp only [Act.put, List.setIfInBounds_toArray, List.set_cons_succ, List.set_cons_zero]
      refine wpAnyH_pure (i := 11) (v := .int .i64 D.2) (at_nth rfl) (by kernel_rfl) (by kernel_rfl) (by kernel_rfl) (fun _ _ _ h => absurd h (HQN _ _ _)) (by kernel_rfl) (fun w hSw => by kernel_rfl) hB ?_
      simp only [Act.put, List.setIfInBounds_toArray, List.set_cons_succ, List.set_cons_zero]
      exact ST2_3_8 _ _ _ _ _ _ hB hN iq
    · have iDn := Is.new W 26 #[.int .i64 0, .slice none 0 0, .slice none 0 0]
      have hDD : W0.heap.size ≤ W.heap.size := hN
      replace iq := iq.alloc (.cells #[.int .i64 0, .slice none 0 0, .slice none 0 0] 26)
      have hN2 : W0.heap.size ≤ (W.alloc (.cells #[.int .i64 0, .slice none 0 0, .slice none 0 0] 26)).heap.size := by simp; omega
      replace hN := hN2
      replace hB := hB.alloc hB.size (.cells #[.int .i64 0, .slice none 0 0, .slice none 0 0] 26)
      have iD := iDn
      clear iDn hN2
      refine arm10_value (by kernel_rfl) (run_allocQ11 _ (by kernel_rfl)) hB ?_
      simp only [Act.put, List.setIfInBounds_toArray, List.set_cons_succ, List.set_cons_zero]
      exact ST2_3_12 _ _ _ hB hN iq iD hDD
  have ST2_12 : ∀ (W : World) (DB : Nat) (DD : Nat), Below w.heap.size w W → W0.heap.size ≤ W.heap.size → Is W gq 26 xiq → Is W DB 5 #[.int .u8 k] → Is W DD 26 #[.int .i64 0, .slice none 0 0, .slice none 0 0] → W0.heap.size ≤ DD → wpAnyH Try.prog .any (opsOf Try.f6 9) Q (fun W => Below w.heap.size w W) 9 #[true, true, true, false, false, true, true, false, false, false, false, false, true, false, false] { tmps := #[x0, x1, x2, x3, x4, x5, x6, x7, x8, x9, x10, x11, .string s, x13, x14, x15, .int .i64 k, .pointer (some ⟨DD, 0, none⟩), x18, x19, x20, x21, x22, x23, x24, x25, x26, x27, x28, x29, x30, x31, x32, x33, x34, x35, x36, x37, x38, x39, x40, x41, x42, x43, x44, x45, x46, x47, x48, x49, x50, x51, x52, x53, x54, x55, x56, x57, x58, x59, .int .i64 k, .int .u8 k, .slice (some ⟨DB, 0, none⟩) 1 1, x63, x64, .string s, .string s4, x67, x68, x69, x70, x71, x72, x73, x74, x75, x76, x77, x78, x79, x80, x81, x82, x83, x84, x85, x86, x87, x88, x89, x90, x91, x92, x93, x94, x95, x96, x97, x98, x99, x100, x101, x102, x103, x104, x105, x106, x107, x108, x109, x110, x111, x112, x113, x114, x115, x116, x117, x118, x119, x120, x121, x122, x123, x124, x125, x126, x127, x128, x129, x130, x131, x132, x133, x134, x135, x136, x137, x138, x139, x140, x141, x142, x143, x144, x145, x146, x147, x148, x149, x150, x151, x152], defers := [] } W := by
    intro W DB DD hB hN iq iP iD hDD
    refine wpAnyH_ready (by kernel_rfl) (by simp) (AllReadyH.cons (i := 3) (at_nth rfl) ?_ (AllReadyH.nil))
    · refine arm10_value (v := .string K1) (w' := W) (by kernel_rfl) (exec_conv11 (x := .tmp 62) (t := 45) (t2 := 9) (by kernel_rfl) (by kernel_rfl) (HCV.out iP)) hB ?_
      simp only [Act.put, List.setIfInBounds_toArray, List.set_cons_succ, List.set_cons_zero]
      clear iP
      refine wpAnyH_pure (i := 4) (v := .string (⟨#[0, 0, 0]⟩ ++ K1)) (at_nth rfl) (by kernel_rfl) (by kernel_rfl) (by kernel_rfl) (fun _ _ _ h => absurd h (HQN _ _ _)) (by kernel_rfl) (fun w hSw => by (have q1 := HQ1.out; go_simp)) hB ?_
      simp only [Act.put, List.setIfInBounds_toArray, List.set_cons_succ, List.set_cons_zero]
      refine wpAnyH_pure (i := 7) (v := .string (⟨#[0, 0, 0]⟩ ++ K1 ++ s4)) (at_nth rfl) (by kernel_rfl) (by kernel_rfl) (by kernel_rfl) (fun _ _ _ h => absurd h (HQN _ _ _)) (by kernel_rfl) (fun w hSw => by (have q2 := HQ2.out; have q3 := HQ3.out; go_simp)) hB ?_
      simp only [Act.put, List.setIfInBounds_toArray, List.set_cons_succ, List.set_cons_zero]
      exact ST2_3_12 _ _ _ hB hN iq iD hDD
  have ST2 : ∀ (W : World) (DB : Nat), Below w.heap.size w W → W0.heap.size ≤ W.heap.size → Is W gq 26 xiq → Is W DB 5 #[.int .u8 k] → wpAnyH Try.prog .any (opsOf Try.f6 9) Q (fun W => Below w.heap.size w W) 10 #[true, true, true, false, false, true, true, false, false, false, false, false, false, false, false] { tmps := #[x0, x1, x2, x3, x4, x5, x6, x7, x8, x9, x10, x11, .string s, x13, x14, x15, .int .i64 k, x17, x18, x19, x20, x21, x22, x23, x24, x25, x26, x27, x28, x29, x30, x31, x32, x33, x34, x35, x36, x37, x38, x39, x40, x41, x42, x43, x44, x45, x46, x47, x48, x49, x50, x51, x52, x53, x54, x55, x56, x57, x58, x59, .int .i64 k, .int .u8 k, .slice (some ⟨DB, 0, none⟩) 1 1, x63, x64, .string s, .string s4, x67, x68, x69, x70, x71, x72, x73, x74, x75, x76, x77, x78, x79, x80, x81, x82, x83, x84, x85, x86, x87, x88, x89, x90, x91, x92, x93, x94, x95, x96, x97, x98, x99, x100, x101, x102, x103, x104, x105, x106, x107, x108, x109, x110, x111, x112, x113, x114, x115, x116, x117, x118, x119, x120, x121, x122, x123, x124, x125, x126, x127, x128, x129, x130, x131, x132, x133, x134, x135, x136, x137, x138, x139, x140, x141, x142, x143, x144, x145, x146, x147, x148, x149, x150, x151, x152], defers := [] } W := by
    intro W DB hB hN iq iP
    refine wpAnyH_ready (by kernel_rfl) (by simp) (AllReadyH.cons (i := 3) (at_nth rfl) ?_ (AllReadyH.cons (i := 12) (at_nth rfl) ?_ (AllReadyH.nil)))
    · refine arm10_value (v := .string K1) (w' := W) (by kernel_rfl) (exec_conv11 (x := .tmp 62) (t := 45) (t2 := 9) (by kernel_rfl) (by kernel_rfl) (HCV.out iP)) hB ?_
      simp only [Act.put, List.setIfInBounds_toArray, List.set_cons_succ, List.set_cons_zero]
      clear iP
      refine wpAnyH_pure (i := 4) (v := .string (⟨#[0, 0, 0]⟩ ++ K1)) (at_nth rfl) (by kernel_rfl) (by kernel_rfl) (by kernel_rfl) (fun _ _ _ h => absurd h (HQN _ _ _)) (by kernel_rfl) (fun w hSw => by (have q1 := HQ1.out; go_simp)) hB ?_
      simp only [Act.put, List.setIfInBounds_toArray, List.set_cons_succ, List.set_cons_zero]
      refine wpAnyH_pure (i := 7) (v := .string (⟨#[0, 0, 0]⟩ ++ K1 ++ s4)) (at_nth rfl) (by kernel_rfl) (by kernel_rfl) (by kernel_rfl) (fun _ _ _ h => absurd h (HQN _ _ _)) (by kernel_rfl) (fun w hSw => by (have q2 := HQ2.out; have q3 := HQ3.out; go_simp)) hB ?_
      simp only [Act.put, List.setIfInBounds_toArray, List.set_cons_succ, List.set_cons_zero]
      exact ST2_3 _ _ hB hN iq
    · have iDn := Is.new W 26 #[.int .i64 0, .slice none 0 0, .slice none 0 0]
      have hDD : W0.heap.size ≤ W.heap.size := hN
      replace iq := iq.alloc (.cells #[.int .i64 0, .slice none 0 0, .slice none 0 0] 26)
      replace iP := iP.alloc (.cells #[.int .i64 0, .slice none 0 0, .slice none 0 0] 26)
      have hN2 : W0.heap.size ≤ (W.alloc (.cells #[.int .i64 0, .slice none 0 0, .slice none 0 0] 26)).heap.size := by simp; omega
      replace hN := hN2
      replace hB := hB.alloc hB.size (.cells #[.int .i64 0, .slice none 0 0, .slice none 0 0] 26)
      have iD := iDn
      clear iDn hN2
      refine arm10_value (by kernel_rfl) (run_allocQ11 _ (by kernel_rfl)) hB ?_
      simp only [Act.put, List.setIfInBounds_toArray, List.set_cons_succ, List.set_cons_zero]
      exact ST2_12 _ _ _ hB hN iq iP iD hDD
  have ST12 : ∀ (W : World) (DD : Nat), Below w.heap.size w W → W0.heap.size ≤ W.heap.size → Is W gq 26 xiq → Is W DD 26 #[.int .i64 0, .slice none 0 0, .slice none 0 0] → W0.heap.size ≤ DD → wpAnyH Try.prog .any (opsOf Try.f6 9) Q (fun W => Below w.heap.size w W) 10 #[true, true, false, false, false, true, true, false, false, false, false, false, true, false, false] { tmps := #[x0, x1, x2, x3, x4, x5, x6, x7, x8, x9, x10, x11, .string s, x13, x14, x15, .int .i64 k, .pointer (some ⟨DD, 0, none⟩), x18, x19, x20, x21, x22, x23, x24, x25, x26, x27, x28, x29, x30, x31, x32, x33, x34, x35, x36, x37, x38, x39, x40, x41, x42, x43, x44, x45, x46, x47, x48, x49, x50, x51, x52, x53, x54, x55, x56, x57, x58, x59, .int .i64 k, .int .u8 k, x62, x63, x64, .string s, .string s4, x67, x68, x69, x70, x71, x72, x73, x74, x75, x76, x77, x78, x79, x80, x81, x82, x83, x84, x85, x86, x87, x88, x89, x90, x91, x92, x93, x94, x95, x96, x97, x98, x99, x100, x101, x102, x103, x104, x105, x106, x107, x108, x109, x110, x111, x112, x113, x114, x115, x116, x117, x118, x119, x120, x121, x122, x123, x124, x125, x126, x127, x128, x129, x130, x131, x132, x133, x134, x135, x136, x137, x138, x139, x140, x141, x142, x143, x144, x145, x146, x147, x148, x149, x150, x151, x152], defers := [] } W := by
    intro W DD hB hN iq iD hDD
    refine wpAnyH_ready (by kernel_rfl) (by simp) (AllReadyH.cons (i := 2) (at_nth rfl) ?_ (AllReadyH.nil))
    · have hN2 : W0.heap.size ≤ (W.alloc (.cells #[.int .u8 k] 5)).heap.size := by simp; omega
      have iPn := Is.new W 5 #[.int .u8 k]
      replace iq := iq.alloc (.cells #[.int .u8 k] 5)
      replace iD := iD.alloc (.cells #[.int .u8 k] 5)
      replace hB := hB.alloc hB.size (.cells #[.int .u8 k] 5)
      have iP := iPn
      clear iPn
      replace hN := hN2
      clear hN2
      refine arm10_value (v := .slice (some ⟨W.heap.size, 0, none⟩) 1 1) (w' := W.alloc (.cells #[.int .u8 k] 5)) (by kernel_rfl) (by (have h1 := HK1.out; go_simp)) hB ?_
      simp only [Act.put, List.setIfInBounds_toArray, List.set_cons_succ, List.set_cons_zero]
      exact ST2_12 _ _ _ hB hN iq iP iD hDD
  have ST : ∀ (W : World), Below w.heap.size w W → W0.heap.size ≤ W.heap.size → Is W gq 26 xiq → wpAnyH Try.prog .any (opsOf Try.f6 9) Q (fun W => Below w.heap.size w W) 11 #[true, true, false, false, false, true, true, false, false, false, false, false, false, false, false] { tmps := #[x0, x1, x2, x3, x4, x5, x6, x7, x8, x9, x10, x11, .string s, x13, x14, x15, .int .i64 k, x17, x18, x19, x20, x21, x22, x23, x24, x25, x26, x27, x28, x29, x30, x31, x32, x33, x34, x35, x36, x37, x38, x39, x40, x41, x42, x43, x44, x45, x46, x47, x48, x49, x50, x51, x52, x53, x54, x55, x56, x57, x58, x59, .int .i64 k, .int .u8 k, x62, x63, x64, .string s, .string s4, x67, x68, x69, x70, x71, x72, x73, x74, x75, x76, x77, x78, x79, x80, x81, x82, x83, x84, x85, x86, x87, x88, x89, x90, x91, x92, x93, x94, x95, x96, x97, x98, x99, x100, x101, x102, x103, x104, x105, x106, x107, x108, x109, x110, x111, x112, x113, x114, x115, x116, x117, x118, x119, x120, x121, x122, x123, x124, x125, x126, x127, x128, x129, x130, x131, x132, x133, x134, x135, x136, x137, x138, x139, x140, x141, x142, x143, x144, x145, x146, x147, x148, x149, x150, x151, x152], defers := [] } W := by
    intro W hB hN iq
    refine wpAnyH_ready (by kernel_rfl) (by simp) (AllReadyH.cons (i := 2) (at_nth rfl) ?_ (AllReadyH.cons (i := 12) (at_nth rfl) ?_ (AllReadyH.nil)))
    · have hN2 : W0.heap.size ≤ (W.alloc (.cells #[.int .u8 k] 5)).heap.size := by simp; omega
      have iPn := Is.new W 5 #[.int .u8 k]
      replace iq := iq.alloc (.cells #[.int .u8 k] 5)
      replace hB := hB.alloc hB.size (.cells #[.int .u8 k] 5)
      have iP := iPn
      clear iPn
      replace hN := hN2
      clear hN2
      refine arm10_value (v := .slice (some ⟨W.heap.size, 0, none⟩) 1 1) (w' := W.alloc (.cells #[.int .u8 k] 5)) (by kernel_rfl) (by (have h1 := HK1.out; go_simp)) hB ?_
      simp only [Act.put, List.setIfInBounds_toArray, List.set_cons_succ, List.set_cons_zero]
      exact ST2 _ _ hB hN iq iP
    · have iDn := Is.new W 26 #[.int .i64 0, .slice none 0 0, .slice none 0 0]
      have hDD : W0.heap.size ≤ W.heap.size := hN
      replace iq := iq.alloc (.cells #[.int .i64 0, .slice none 0 0, .slice none 0 0] 26)
      have hN2 : W0.heap.size ≤ (W.alloc (.cells #[.int .i64 0, .slice none 0 0, .slice none 0 0] 26)).heap.size := by simp; omega
      replace hN := hN2
      replace hB := hB.alloc hB.size (.cells #[.int .i64 0, .slice none 0 0, .slice none 0 0] 26)
      have iD := iDn
      clear iDn hN2
      refine arm10_value (by kernel_rfl) (run_allocQ11 _ (by kernel_rfl)) hB ?_
      simp only [Act.put, List.setIfInBounds_toArray, List.set_cons_succ, List.set_cons_zero]
      exact ST12 _ _ hB hN iq iD hDD
  refine wp_region_held_drew (S := fun W => Below w.heap.size w W) (by kernel_rfl) hB (fun hS => ?_)
  change wpAnyH _ _ (opsOf Try.f6 9) _ _ 15 (Array.replicate 15 false) _ (W0.drewN 1)
  clear hS
  refine wpAnyH_pure (i := 0) (v := .int .i64 k) (at_nth rfl) (by kernel_rfl) (by kernel_rfl) (by kernel_rfl) (fun _ _ _ h => absurd h (HQN _ _ _)) (by kernel_rfl) (fun w hSw => by kernel_rfl) hB ?_
  simp only [Act.put, List.setIfInBounds_toArray, List.set_cons_succ, List.set_cons_zero]
  refine wpAnyH_pure (i := 1) (v := .int .u8 k) (at_nth rfl) (by kernel_rfl) (by kernel_rfl) (by kernel_rfl) (fun _ _ _ h => absurd h (HQN _ _ _)) (by kernel_rfl) (fun w hSw => by (have h1 := HK1.out; go_simp)) hB ?_
  simp only [Act.put, List.setIfInBounds_toArray, List.set_cons_succ, List.set_cons_zero]
  refine wpAnyH_pure (i := 5) (v := .string s) (at_nth rfl) (by kernel_rfl) (by kernel_rfl) (by kernel_rfl) (fun _ _ _ h => absurd h (HQN _ _ _)) (by kernel_rfl) (fun w hSw => by kernel_rfl) hB ?_
  simp only [Act.put, List.setIfInBounds_toArray, List.set_cons_succ, List.set_cons_zero]
  refine wpAnyH_pure (i := 6) (v := .string s4) (at_nth rfl) (by kernel_rfl) (by kernel_rfl) (by kernel_rfl) (fun _ _ _ h => absurd h (HQN _ _ _)) (by kernel_rfl) (fun w hSw => by (have hs1 := HSL.out; go_simp)) hB ?_
  simp only [Act.put, List.setIfInBounds_toArray, List.set_cons_succ, List.set_cons_zero]
  exact ST _ hB hN iq

set_option maxRecDepth 100000 in
set_option maxHeartbeats 4000000 in
theorem kinds11_read (w W0 : World) (k : Int) (s K1 s4 : ByteArray) (D : Rsp11 × Int) (gq : Nat) (xiq : Array Value) (gb : Nat) (xib : Array Value) (HK1 : Hid (IntKind.u8.wrap k = k)) (HSL : Hid (∀ wx : World, (Instr.slice 9 (.string s) (some (.int .i64 4)) none none).run Try.prog wx = .ok (.string s4) wx)) (HQ1 : Hid (¬ 9223372036854775807 < 3 + K1.size)) (HQ2 : Hid (¬ 9223372036854775807 < (⟨#[0, 0, 0]⟩ ++ K1).size + s4.size)) (HQ3 : Hid (¬ 9223372036854775807 < 3 + K1.size + s4.size))
    (HCV : Hid (∀ {W : World} {g : Nat}, Is W g 5 #[.int .u8 k] → (convert 45 9 (.slice (some ⟨g, 0, none⟩) 1 1)).run Try.prog W = .ok (.string K1) W))
    (N1 : Hid (∀ W, Calls Try.prog 18 #[.string (⟨#[0, 0, 0]⟩ ++ K1 ++ s4)] W fun r w' => ReadPost11 D W r w'))
    (hw0 : w.heap.size ≤ W0.heap.size) (hB : Below w.heap.size w W0) (iq : Is W0 gq 26 xiq) (hiq : gq < W0.heap.size) (ib : Is W0 gb 26 xib) (hib : gb < W0.heap.size) (x0 x1 x2 x3 x4 x5 x6 x7 x8 x9 x10 x11 x12 x13 x15 x17 x18 x19 x20 x21 x22 x23 x24 x25 x26 x27 x28 x29 x30 x31 x32 x33 x34 x35 x36 x37 x38 x39 x40 x41 x42 x43 x44 x45 x46 x47 x48 x49 x50 x51 x52 x53 x54 x55 x56 x57 x58 x59 x60 x61 x62 x63 x64 x65 x66 x67 x68 x69 x70 x71 x72 x73 x74 x75 x76 x77 x78 x79 x80 x81 x82 x83 x84 x85 x86 x87 x88 x89 x90 x91 x92 x93 x94 x95 x96 x97 x98 x99 x100 x101 x102 x103 x104 x105 x106 x107 x108 x109 x110 x111 x112 x113 x114 x115 x116 x117 x118 x119 x120 x121 x122 x123 x124 x125 x126 x127 x128 x129 x130 x131 x132 x133 x134 x135 x136 x137 x138 x139 x140 x141 x142 x143 x144 x145 x146 x147 x148 x149 x150 x151 x152 : Value) :
    (Code.region 10 (opsOf Try.f6 10) true).wp Try.prog (fun ex YY W => ex = .normal ∧ YY.defers = [] ∧ ∃ (DB : Nat) (DD : Nat) (B2 : Option Addr) (d2 : Nat), YY.tmps = #[x0, x1, x2, x3, x4, x5, x6, x7, x8, x9, x10, x11, x12, x13, .string s, x15, .int .i64 k, x17, x18, .pointer (some ⟨DD, 0, none⟩), .int .i64 D.2, x21, x22, x23, x24, x25, x26, x27, x28, x29, x30, x31, x32, x33, x34, x35, x36, x37, x38, x39, x40, x41, x42, x43, x44, x45, x46, x47, x48, x49, x50, x51, x52, x53, x54, x55, x56, x57, x58, x59, x60, x61, x62, x63, x64, x65, x66, x67, x68, x69, x70, .tuple #[.agg #[.int .i64 D.1.k, .int .i64 D.1.st, .slice B2 D.1.C.length d2, .int .i64 D.1.many, .int .i64 D.1.room], .int .i64 D.2], .int .i64 k, .int .u8 k, .slice (some ⟨DB, 0, none⟩) 1 1, .string K1, .string (⟨#[0, 0, 0]⟩ ++ K1), .string s, .string s4, .string (⟨#[0, 0, 0]⟩ ++ K1 ++ s4), .tuple #[.agg #[.int .i64 D.1.k, .int .i64 D.1.st, .slice B2 D.1.C.length d2, .int .i64 D.1.many, .int .i64 D.1.room], .int .i64 D.2], .agg #[.int .i64 D.1.k, .int .i64 D.1.st, .slice B2 D.1.C.length d2, .int .i64 D.1.many, .int .i64 D.1.room], .int .i64 D.2, x83, x84, x85, x86, x87, x88, x89, x90, x91, x92, x93, x94, x95, x96, x97, x98, x99, x100, x101, x102, x103, x104, x105, x106, x107, x108, x109, x110, x111, x112, x113, x114, x115, x116, x117, x118, x119, x120, x121, x122, x123, x124, x125, x126, x127, x128, x129, x130, x131, x132, x133, x134, x135, x136, x137, x138, x139, x140, x141, x142, x143, x144, x145, x146, x147, x148, x149, x150, x151, x152] ∧ Below w.heap.size w W ∧ W0.heap.size ≤ W.heap.size ∧ Is W gq 26 xiq ∧ Is W gb 26 xib ∧ Is W DD 28 #[.int .i64 D.1.k, .int .i64 D.1.st, .slice B2 D.1.C.length d2, .int .i64 D.1.many, .int .i64 D.1.room] ∧ W0.heap.size ≤ DD) { tmps := #[x0, x1, x2, x3, x4, x5, x6, x7, x8, x9, x10, x11, x12, x13, .string s, x15, .int .i64 k, x17, x18, x19, x20, x21, x22, x23, x24, x25, x26, x27, x28, x29, x30, x31, x32, x33, x34, x35, x36, x37, x38, x39, x40, x41, x42, x43, x44, x45, x46, x47, x48, x49, x50, x51, x52, x53, x54, x55, x56, x57, x58, x59, x60, x61, x62, x63, x64, x65, x66, x67, x68, x69, x70, x71, x72, x73, x74, x75, x76, x77, x78, x79, x80, x81, x82, x83, x84, x85, x86, x87, x88, x89, x90, x91, x92, x93, x94, x95, x96, x97, x98, x99, x100, x101, x102, x103, x104, x105, x106, x107, x108, x109, x110, x111, x112, x113, x114, x115, x116, x117, x118, x119, x120, x121, x122, x123, x124, x125, x126, x127, x128, x129, x130, x131, x132, x133, x134, x135, x136, x137, x138, x139, x140, x141, x142, x143, x144, x145, x146, x147, x148, x149, x150, x151, x152], defers := [] } W0 := by
  replace hB : Below w.heap.size w (W0.drewN 1) := belowN hB 1
  have hN : W0.heap.size ≤ (W0.drewN 1).heap.size := Nat.le_refl _
  replace iq := iq.drewN 1
  replace ib := ib.drewN 1
  generalize hQ : (fun (ex : Exit) (YY : Act) (W : World) => ex = .normal ∧ YY.defers = [] ∧ ∃ (DB : Nat) (DD : Nat) (B2 : Option Addr) (d2 : Nat), YY.tmps = #[x0, x1, x2, x3, x4, x5, x6, x7, x8, x9, x10, x11, x12, x13, .string s, x15, .int .i64 k, x17, x18, .pointer (some ⟨DD, 0, none⟩), .int .i64 D.2, x21, x22, x23, x24, x25, x26, x27, x28, x29, x30, x31, x32, x33, x34, x35, x36, x37, x38, x39, x40, x41, x42, x43, x44, x45, x46, x47, x48, x49, x50, x51, x52, x53, x54, x55, x56, x57, x58, x59, x60, x61, x62, x63, x64, x65, x66, x67, x68, x69, x70, .tuple #[.agg #[.int .i64 D.1.k, .int .i64 D.1.st, .slice B2 D.1.C.length d2, .int .i64 D.1.many, .int .i64 D.1.room], .int .i64 D.2], .int .i64 k, .int .u8 k, .slice (some ⟨DB, 0, none⟩) 1 1, .string K1, .string (⟨#[0, 0, 0]⟩ ++ K1), .string s, .string s4, .string (⟨#[0, 0, 0]⟩ ++ K1 ++ s4), .tuple #[.agg #[.int .i64 D.1.k, .int .i64 D.1.st, .slice B2 D.1.C.length d2, .int .i64 D.1.many, .int .i64 D.1.room], .int .i64 D.2], .agg #[.int .i64 D.1.k, .int .i64 D.1.st, .slice B2 D.1.C.length d2, .int .i64 D.1.many, .int .i64 D.1.room], .int .i64 D.2, x83, x84, x85, x86, x87, x88, x89, x90, x91, x92, x93, x94, x95, x96, x97, x98, x99, x100, x101, x102, x103, x104, x105, x106, x107, x108, x109, x110, x111, x112, x113, x114, x115, x116, x117, x118, x119, x120, x121, x122, x123, x124, x125, x126, x127, x128, x129, x130, x131, x132, x133, x134, x135, x136, x137, x138, x139, x140, x141, x142, x143, x144, x145, x146, x147, x148, x149, x150, x151, x152] ∧ Below w.heap.size w W ∧ W0.heap.size ≤ W.heap.size ∧ Is W gq 26 xiq ∧ Is W gb 26 xib ∧ Is W DD 28 #[.int .i64 D.1.k, .int .i64 D.1.st, .slice B2 D.1.C.length d2, .int .i64 D.1.many, .int .i64 D.1.room] ∧ W0.heap.size ≤ DD) = Q
  have HQN : ∀ c a W, ¬ Q (.panic c) a W := fun c a W h => by subst hQ; exact nomatch h.1
  have ST2_3_8_12_13 : ∀ (W : World) (DB : Nat) (DD : Nat) (B2 : Option Addr) (d2 : Nat), Below w.heap.size w W → W0.heap.size ≤ W.heap.size → Is W gq 26 xiq → Is W gb 26 xib → Is W DD 28 #[.int .i64 D.1.k, .int .i64 D.1.st, .slice B2 D.1.C.length d2, .int .i64 D.1.many, .int .i64 D.1.room] → W0.heap.size ≤ DD → wpAnyH Try.prog .any (opsOf Try.f6 10) Q (fun W => Below w.heap.size w W) 0 #[true, true, true, true, true, true, true, true, true, true, true, true, true, true, true] { tmps := #[x0, x1, x2, x3, x4, x5, x6, x7, x8, x9, x10, x11, x12, x13, .string s, x15, .int .i64 k, x17, x18, .pointer (some ⟨DD, 0, none⟩), .int .i64 D.2, x21, x22, x23, x24, x25, x26, x27, x28, x29, x30, x31, x32, x33, x34, x35, x36, x37, x38, x39, x40, x41, x42, x43, x44, x45, x46, x47, x48, x49, x50, x51, x52, x53, x54, x55, x56, x57, x58, x59, x60, x61, x62, x63, x64, x65, x66, x67, x68, x69, x70, .tuple #[.agg #[.int .i64 D.1.k, .int .i64 D.1.st, .slice B2 D.1.C.length d2, .int .i64 D.1.many, .int .i64 D.1.room], .int .i64 D.2], .int .i64 k, .int .u8 k, .slice (some ⟨DB, 0, none⟩) 1 1, .string K1, .string (⟨#[0, 0, 0]⟩ ++ K1), .string s, .string s4, .string (⟨#[0, 0, 0]⟩ ++ K1 ++ s4), .tuple #[.agg #[.int .i64 D.1.k, .int .i64 D.1.st, .slice B2 D.1.C.length d2, .int .i64 D.1.many, .int .i64 D.1.room], .int .i64 D.2], .agg #[.int .i64 D.1.k, .int .i64 D.1.st, .slice B2 D.1.C.length d2, .int .i64 D.1.many, .int .i64 D.1.room], .int .i64 D.2, x83, x84, x85, x86, x87, x88, x89, x90, x91, x92, x93, x94, x95, x96, x97, x98, x99, x100, x101, x102, x103, x104, x105, x106, x107, x108, x109, x110, x111, x112, x113, x114, x115, x116, x117, x118, x119, x120, x121, x122, x123, x124, x125, x126, x127, x128, x129, x130, x131, x132, x133, x134, x135, x136, x137, x138, x139, x140, x141, x142, x143, x144, x145, x146, x147, x148, x149, x150, x151, x152], defers := [] } W := by
    intro W DB DD B2 d2 hB hN iq ib iD2 hDD
    refine wpAnyH_done (by kernel_rfl) ?_ _
    subst hQ
    exact ⟨rfl, rfl, DB, DD, B2, d2, rfl, hB, hN, iq, ib, iD2, hDD⟩
  have ST2_3_8_12 : ∀ (W : World) (DB : Nat) (DD : Nat) (B2 : Option Addr) (d2 : Nat), Below w.heap.size w W → W0.heap.size ≤ W.heap.size → Is W gq 26 xiq → Is W gb 26 xib → Is W DD 28 #[.int .i64 0, .int .i64 0, .slice none 0 0, .int .i64 0, .int .i64 0] → W0.heap.size ≤ DD → wpAnyH Try.prog .any (opsOf Try.f6 10) Q (fun W => Below w.heap.size w W) 2 #[true, true, true, true, true, true, true, true, true, true, true, true, true, false, false] { tmps := #[x0, x1, x2, x3, x4, x5, x6, x7, x8, x9, x10, x11, x12, x13, .string s, x15, .int .i64 k, x17, x18, .pointer (some ⟨DD, 0, none⟩), x20, x21, x22, x23, x24, x25, x26, x27, x28, x29, x30, x31, x32, x33, x34, x35, x36, x37, x38, x39, x40, x41, x42, x43, x44, x45, x46, x47, x48, x49, x50, x51, x52, x53, x54, x55, x56, x57, x58, x59, x60, x61, x62, x63, x64, x65, x66, x67, x68, x69, x70, .tuple #[.agg #[.int .i64 D.1.k, .int .i64 D.1.st, .slice B2 D.1.C.length d2, .int .i64 D.1.many, .int .i64 D.1.room], .int .i64 D.2], .int .i64 k, .int .u8 k, .slice (some ⟨DB, 0, none⟩) 1 1, .string K1, .string (⟨#[0, 0, 0]⟩ ++ K1), .string s, .string s4, .string (⟨#[0, 0, 0]⟩ ++ K1 ++ s4), .tuple #[.agg #[.int .i64 D.1.k, .int .i64 D.1.st, .slice B2 D.1.C.length d2, .int .i64 D.1.many, .int .i64 D.1.room], .int .i64 D.2], .agg #[.int .i64 D.1.k, .int .i64 D.1.st, .slice B2 D.1.C.length d2, .int .i64 D.1.many, .int .i64 D.1.room], .int .i64 D.2, x83, x84, x85, x86, x87, x88, x89, x90, x91, x92, x93, x94, x95, x96, x97, x98, x99, x100, x101, x102, x103, x104, x105, x106, x107, x108, x109, x110, x111, x112, x113, x114, x115, x116, x117, x118, x119, x120, x121, x122, x123, x124, x125, x126, x127, x128, x129, x130, x131, x132, x133, x134, x135, x136, x137, x138, x139, x140, x141, x142, x143, x144, x145, x146, x147, x148, x149, x150, x151, x152], defers := [] } W := by
    intro W DB DD B2 d2 hB hN iq ib iD hDD
    refine wpAnyH_ready (by kernel_rfl) (by simp) (AllReadyH.cons (i := 13) (at_nth rfl) ?_ (AllReadyH.nil))
    · have iD2 := iD.row #[.int .i64 D.1.k, .int .i64 D.1.st, .slice B2 D.1.C.length d2, .int .i64 D.1.many, .int .i64 D.1.room]
      replace iq := iq.rowFar (k := DD) (by have := hiq; omega) #[.int .i64 D.1.k, .int .i64 D.1.st, .slice B2 D.1.C.length d2, .int .i64 D.1.many, .int .i64 D.1.room]
      replace ib := ib.rowFar (k := DD) (by have := hib; omega) #[.int .i64 D.1.k, .int .i64 D.1.st, .slice B2 D.1.C.length d2, .int .i64 D.1.many, .int .i64 D.1.room]
      have kB := belowRow hB (Nat.le_trans hw0 hDD) #[.int .i64 D.1.k, .int .i64 D.1.st, .slice B2 D.1.C.length d2, .int .i64 D.1.many, .int .i64 D.1.room]
      refine arm10_skip (by kernel_rfl) (run_row10 (ty := 28) (x := .tmp 19) (y := .tmp 81) (cs := #[.int .i64 D.1.k, .int .i64 D.1.st, .slice B2 D.1.C.length d2, .int .i64 D.1.many, .int .i64 D.1.room]) (by kernel_rfl) (by kernel_rfl) (by kernel_rfl) iD infoRsp11 rfl (by rw [← Array.all_toList]; rfl)) kB ?_
      try simp only [Act.put]
      replace hB := kB
      replace hN : W0.heap.size ≤ (W.setRow DD #[.int .i64 D.1.k, .int .i64 D.1.st, .slice B2 D.1.C.length d2, .int .i64 D.1.many, .int .i64 D.1.room]).heap.size := by simpa using hN
      refine wpAnyH_pure (i := 14) (v := .int .i64 D.2) (at_nth rfl) (by kernel_rfl) (by kernel_rfl) (by kernel_rfl) (fun _ _ _ h => absurd h (HQN _ _ _)) (by kernel_rfl) (fun w hSw => by kernel_rfl) hB ?_
      simp only [Act.put, List.setIfInBounds_toArray, List.set_cons_succ, List.set_cons_zero]
      exact ST2_3_8_12_13 _ _ _ _ _ hB hN iq ib iD2 hDD
  have ST2_3_8 : ∀ (W : World) (DB : Nat) (B2 : Option Addr) (d2 : Nat), Below w.heap.size w W → W0.heap.size ≤ W.heap.size → Is W gq 26 xiq → Is W gb 26 xib → wpAnyH Try.prog .any (opsOf Try.f6 10) Q (fun W => Below w.heap.size w W) 3 #[true, true, true, true, true, true, true, true, true, true, true, true, false, false, false] { tmps := #[x0, x1, x2, x3, x4, x5, x6, x7, x8, x9, x10, x11, x12, x13, .string s, x15, .int .i64 k, x17, x18, x19, x20, x21, x22, x23, x24, x25, x26, x27, x28, x29, x30, x31, x32, x33, x34, x35, x36, x37, x38, x39, x40, x41, x42, x43, x44, x45, x46, x47, x48, x49, x50, x51, x52, x53, x54, x55, x56, x57, x58, x59, x60, x61, x62, x63, x64, x65, x66, x67, x68, x69, x70, .tuple #[.agg #[.int .i64 D.1.k, .int .i64 D.1.st, .slice B2 D.1.C.length d2, .int .i64 D.1.many, .int .i64 D.1.room], .int .i64 D.2], .int .i64 k, .int .u8 k, .slice (some ⟨DB, 0, none⟩) 1 1, .string K1, .string (⟨#[0, 0, 0]⟩ ++ K1), .string s, .string s4, .string (⟨#[0, 0, 0]⟩ ++ K1 ++ s4), .tuple #[.agg #[.int .i64 D.1.k, .int .i64 D.1.st, .slice B2 D.1.C.length d2, .int .i64 D.1.many, .int .i64 D.1.room], .int .i64 D.2], .agg #[.int .i64 D.1.k, .int .i64 D.1.st, .slice B2 D.1.C.length d2, .int .i64 D.1.many, .int .i64 D.1.room], .int .i64 D.2, x83, x84, x85, x86, x87, x88, x89, x90, x91, x92, x93, x94, x95, x96, x97, x98, x99, x100, x101, x102, x103, x104, x105, x106, x107, x108, x109, x110, x111, x112, x113, x114, x115, x116, x117, x118, x119, x120, x121, x122, x123, x124, x125, x126, x127, x128, x129, x130, x131, x132, x133, x134, x135, x136, x137, x138, x139, x140, x141, x142, x143, x144, x145, x146, x147, x148, x149, x150, x151, x152], defers := [] } W := by
    intro W DB B2 d2 hB hN iq ib
    refine wpAnyH_ready (by kernel_rfl) (by simp) (AllReadyH.cons (i := 12) (at_nth rfl) ?_ (AllReadyH.nil))
    · have iDn := Is.new W 28 #[.int .i64 0, .int .i64 0, .slice none 0 0, .int .i64 0, .int .i64 0]
      have hDD : W0.heap.size ≤ W.heap.size := hN
      replace iq := iq.alloc (.cells #[.int .i64 0, .int .i64 0, .slice none 0 0, .int .i64 0, .int .i64 0] 28)
      replace ib := ib.alloc (.cells #[.int .i64 0, .int .i64 0, .slice none 0 0, .int .i64 0, .int .i64 0] 28)
      have hN2 : W0.heap.size ≤ (W.alloc (.cells #[.int .i64 0, .int .i64 0, .slice none 0 0, .int .i64 0, .int .i64 0] 28)).heap.size := by simp; omega
      replace hN := hN2
      replace hB := hB.alloc hB.size (.cells #[.int .i64 0, .int .i64 0, .slice none 0 0, .int .i64 0, .int .i64 0] 28)
      have iD := iDn
      clear iDn hN2
      refine arm10_value (by kernel_rfl) (run_allocR11 _ (by kernel_rfl)) hB ?_
      simp only [Act.put, List.setIfInBounds_toArray, List.set_cons_succ, List.set_cons_zero]
      exact ST2_3_8_12 _ _ _ _ _ hB hN iq ib iD hDD
  have ST2_3_12 : ∀ (W : World) (DB : Nat) (DD : Nat), Below w.heap.size w W → W0.heap.size ≤ W.heap.size → Is W gq 26 xiq → Is W gb 26 xib → Is W DD 28 #[.int .i64 0, .int .i64 0, .slice none 0 0, .int .i64 0, .int .i64 0] → W0.heap.size ≤ DD → wpAnyH Try.prog .any (opsOf Try.f6 10) Q (fun W => Below w.heap.size w W) 6 #[true, true, true, true, true, true, true, true, false, false, false, false, true, false, false] { tmps := #[x0, x1, x2, x3, x4, x5, x6, x7, x8, x9, x10, x11, x12, x13, .string s, x15, .int .i64 k, x17, x18, .pointer (some ⟨DD, 0, none⟩), x20, x21, x22, x23, x24, x25, x26, x27, x28, x29, x30, x31, x32, x33, x34, x35, x36, x37, x38, x39, x40, x41, x42, x43, x44, x45, x46, x47, x48, x49, x50, x51, x52, x53, x54, x55, x56, x57, x58, x59, x60, x61, x62, x63, x64, x65, x66, x67, x68, x69, x70, x71, .int .i64 k, .int .u8 k, .slice (some ⟨DB, 0, none⟩) 1 1, .string K1, .string (⟨#[0, 0, 0]⟩ ++ K1), .string s, .string s4, .string (⟨#[0, 0, 0]⟩ ++ K1 ++ s4), x80, x81, x82, x83, x84, x85, x86, x87, x88, x89, x90, x91, x92, x93, x94, x95, x96, x97, x98, x99, x100, x101, x102, x103, x104, x105, x106, x107, x108, x109, x110, x111, x112, x113, x114, x115, x116, x117, x118, x119, x120, x121, x122, x123, x124, x125, x126, x127, x128, x129, x130, x131, x132, x133, x134, x135, x136, x137, x138, x139, x140, x141, x142, x143, x144, x145, x146, x147, x148, x149, x150, x151, x152], defers := [] } W := by
    intro W DB DD hB hN iq ib iD hDD
    refine wpAnyH_ready (by kernel_rfl) (by simp) (AllReadyH.cons (i := 8) (at_nth rfl) ?_ (AllReadyH.nil))
    · refine arm10_call (by kernel_rfl) (fun wy => by kernel_rfl) ((N1.out _).mono ?_)
      rintro e Wn ⟨B2, d2, rfl, _, hb⟩
      replace iq := iq.below hb iq.lt
      replace ib := ib.below hb ib.lt
      replace iD := iD.below hb iD.lt
      replace hB := hB.trans (hb.mono hB.size)
      replace hN := Nat.le_trans hN hb.size
      clear hb
      refine ⟨_, rfl, hB, ?_⟩
      simp only [Act.put, List.setIfInBounds_toArray, List.set_cons_succ, List.set_cons_zero]
      refine wpAnyH_pure (i := 9) (v := .tuple #[.agg #[.int .i64 D.1.k, .int .i64 D.1.st, .slice B2 D.1.C.length d2, .int .i64 D.1.many, .int .i64 D.1.room], .int .i64 D.2]) (at_nth rfl) (by kernel_rfl) (by kernel_rfl) (by kernel_rfl) (fun _ _ _ h => absurd h (HQN _ _ _)) (by kernel_rfl) (fun w hSw => by kernel_rfl) hB ?_
      simp only [Act.put, List.setIfInBounds_toArray, List.set_cons_succ, List.set_cons_zero]
      refine wpAnyH_pure (i := 10) (v := .agg #[.int .i64 D.1.k, .int .i64 D.1.st, .slice B2 D.1.C.length d2, .int .i64 D.1.many, .int .i64 D.1.room]) (at_nth rfl) (by kernel_rfl) (by kernel_rfl) (by kernel_rfl) (fun _ _ _ h => absurd h (HQN _ _ _)) (by kernel_rfl) (fun w hSw => by kernel_rfl) hB ?_
      simp only [Act.put, List.setIfInBounds_toArray, List.set_cons_succ, List.set_cons_zero]
      refine wpAnyH_pure (i := 11) (v := .int .i64 D.2) (at_nth rfl) (by kernel_rfl) (by kernel_rfl) (by kernel_rfl) (fun _ _ _ h => absurd h (HQN _ _ _)) (by kernel_rfl) (fun w hSw => by kernel_rfl) hB ?_
      simp only [Act.put, List.setIfInBounds_toArray, List.set_cons_succ, List.set_cons_zero]
      exact ST2_3_8_12 _ _ _ _ _ hB hN iq ib iD hDD
  have ST2_3 : ∀ (W : World) (DB : Nat), Below w.heap.size w W → W0.heap.size ≤ W.heap.size → Is W gq 26 xiq → Is W gb 26 xib → wpAnyH Try.prog .any (opsOf Try.f6 10) Q (fun W => Below w.heap.size w W) 7 #[true, true, true, true, true, true, true, true, false, false, false, false, false, false, false] { tmps := #[x0, x1, x2, x3, x4, x5, x6, x7, x8, x9, x10, x11, x12, x13, .string s, x15, .int .i64 k, x17, x18, x19, x20, x21, x22, x23, x24, x25, x26, x27, x28, x29, x30, x31, x32, x33, x34, x35, x36, x37, x38, x39, x40, x41, x42, x43, x44, x45, x46, x47, x48, x49, x50, x51, x52, x53, x54, x55, x56, x57, x58, x59, x60, x61, x62, x63, x64, x65, x66, x67, x68, x69, x70, x71, .int .i64 k, .int .u8 k, .slice (some ⟨DB, 0, none⟩) 1 1, .string K1, .string (⟨#[0, 0, 0]⟩ ++ K1), .string s, .string s4, .string (⟨#[0, 0, 0]⟩ ++ K1 ++ s4), x80, x81, x82, x83, x84, x85, x86, x87, x88, x89, x90, x91, x92, x93, x94, x95, x96, x97, x98, x99, x100, x101, x102, x103, x104, x105, x106, x107, x108, x109, x110, x111, x112, x113, x114, x115, x116, x117, x118, x119, x120, x121, x122, x123, x124, x125, x126, x127, x128, x129, x130, x131, x132, x133, x134, x135, x136, x137, x138, x139, x140, x141, x142, x143, x144, x145, x146, x147, x148, x149, x150, x151, x152], defers := [] } W := by
    intro W DB hB hN iq ib
    refine wpAnyH_ready (by kernel_rfl) (by simp) (AllReadyH.cons (i := 8) (at_nth rfl) ?_ (AllReadyH.cons (i := 12) (at_nth rfl) ?_ (AllReadyH.nil)))
    · refine arm10_call (by kernel_rfl) (fun wy => by kernel_rfl) ((N1.out _).mono ?_)
      rintro e Wn ⟨B2, d2, rfl, _, hb⟩
      replace iq := iq.below hb iq.lt
      replace ib := ib.below hb ib.lt
      replace hB := hB.trans (hb.mono hB.size)
      replace hN := Nat.le_trans hN hb.size
      clear hb
      refine ⟨_, rfl, hB, ?_⟩
      simp only [Act.put, List.setIfInBounds_toArray, List.set_cons_succ, List.set_cons_zero]
      refine wpAnyH_pure (i := 9) (v := .tuple #[.agg #[.int .i64 D.1.k, .int .i64 D.1.st, .slice B2 D.1.C.length d2, .int .i64 D.1.many, .int .i64 D.1.room], .int .i64 D.2]) (at_nth rfl) (by kernel_rfl) (by kernel_rfl) (by kernel_rfl) (fun _ _ _ h => absurd h (HQN _ _ _)) (by kernel_rfl) (fun w hSw => by kernel_rfl) hB ?_
      simp only [Act.put, List.setIfInBounds_toArray, List.set_cons_succ, List.set_cons_zero]
      refine wpAnyH_pure (i := 10) (v := .agg #[.int .i64 D.1.k, .int .i64 D.1.st, .slice B2 D.1.C.length d2, .int .i64 D.1.many, .int .i64 D.1.room]) (at_nth rfl) (by kernel_rfl) (by kernel_rfl) (by kernel_rfl) (fun _ _ _ h => absurd h (HQN _ _ _)) (by kernel_rfl) (fun w hSw => by kernel_rfl) hB ?_
      simp only [Act.put, List.setIfInBounds_toArray, List.set_cons_succ, List.set_cons_zero]
      refine wpAnyH_pure (i := 11) (v := .int .i64 D.2) (at_nth rfl) (by kernel_rfl) (by kernel_rfl) (by kernel_rfl) (fun _ _ _ h => absurd h (HQN _ _ _)) (by kernel_rfl) (fun w hSw => by kernel_rfl) hB ?_
      simp only [Act.put, List.setIfInBounds_toArray, List.set_cons_succ, List.set_cons_zero]
      exact ST2_3_8 _ _ _ _ hB hN iq ib
    · have iDn := Is.new W 28 #[.int .i64 0, .int .i64 0, .slice none 0 0, .int .i64 0, .int .i64 0]
      have hDD : W0.heap.size ≤ W.heap.size := hN
      replace iq := iq.alloc (.cells #[.int .i64 0, .int .i64 0, .slice none 0 0, .int .i64 0, .int .i64 0] 28)
      replace ib := ib.alloc (.cells #[.int .i64 0, .int .i64 0, .slice none 0 0, .int .i64 0, .int .i64 0] 28)
      have hN2 : W0.heap.size ≤ (W.alloc (.cells #[.int .i64 0, .int .i64 0, .slice none 0 0, .int .i64 0, .int .i64 0] 28)).heap.size := by simp; omega
      replace hN := hN2
      replace hB := hB.alloc hB.size (.cells #[.int .i64 0, .int .i64 0, .slice none 0 0, .int .i64 0, .int .i64 0] 28)
      have iD := iDn
      clear iDn hN2
      refine arm10_value (by kernel_rfl) (run_allocR11 _ (by kernel_rfl)) hB ?_
      simp only [Act.put, List.setIfInBounds_toArray, List.set_cons_succ, List.set_cons_zero]
      exact ST2_3_12 _ _ _ hB hN iq ib iD hDD
  have ST2_12 : ∀ (W : World) (DB : Nat) (DD : Nat), Below w.heap.size w W → W0.heap.size ≤ W.heap.size → Is W gq 26 xiq → Is W gb 26 xib → Is W DB 5 #[.int .u8 k] → Is W DD 28 #[.int .i64 0, .int .i64 0, .slice none 0 0, .int .i64 0, .int .i64 0] → W0.heap.size ≤ DD → wpAnyH Try.prog .any (opsOf Try.f6 10) Q (fun W => Below w.heap.size w W) 9 #[true, true, true, false, false, true, true, false, false, false, false, false, true, false, false] { tmps := #[x0, x1, x2, x3, x4, x5, x6, x7, x8, x9, x10, x11, x12, x13, .string s, x15, .int .i64 k, x17, x18, .pointer (some ⟨DD, 0, none⟩), x20, x21, x22, x23, x24, x25, x26, x27, x28, x29, x30, x31, x32, x33, x34, x35, x36, x37, x38, x39, x40, x41, x42, x43, x44, x45, x46, x47, x48, x49, x50, x51, x52, x53, x54, x55, x56, x57, x58, x59, x60, x61, x62, x63, x64, x65, x66, x67, x68, x69, x70, x71, .int .i64 k, .int .u8 k, .slice (some ⟨DB, 0, none⟩) 1 1, x75, x76, .string s, .string s4, x79, x80, x81, x82, x83, x84, x85, x86, x87, x88, x89, x90, x91, x92, x93, x94, x95, x96, x97, x98, x99, x100, x101, x102, x103, x104, x105, x106, x107, x108, x109, x110, x111, x112, x113, x114, x115, x116, x117, x118, x119, x120, x121, x122, x123, x124, x125, x126, x127, x128, x129, x130, x131, x132, x133, x134, x135, x136, x137, x138, x139, x140, x141, x142, x143, x144, x145, x146, x147, x148, x149, x150, x151, x152], defers := [] } W := by
    intro W DB DD hB hN iq ib iP iD hDD
    refine wpAnyH_ready (by kernel_rfl) (by simp) (AllReadyH.cons (i := 3) (at_nth rfl) ?_ (AllReadyH.nil))
    · refine arm10_value (v := .string K1) (w' := W) (by kernel_rfl) (exec_conv11 (x := .tmp 74) (t := 45) (t2 := 9) (by kernel_rfl) (by kernel_rfl) (HCV.out iP)) hB ?_
      simp only [Act.put, List.setIfInBounds_toArray, List.set_cons_succ, List.set_cons_zero]
      clear iP
      refine wpAnyH_pure (i := 4) (v := .string (⟨#[0, 0, 0]⟩ ++ K1)) (at_nth rfl) (by kernel_rfl) (by kernel_rfl) (by kernel_rfl) (fun _ _ _ h => absurd h (HQN _ _ _)) (by kernel_rfl) (fun w hSw => by (have q1 := HQ1.out; go_simp)) hB ?_
      simp only [Act.put, List.setIfInBounds_toArray, List.set_cons_succ, List.set_cons_zero]
      refine wpAnyH_pure (i := 7) (v := .string (⟨#[0, 0, 0]⟩ ++ K1 ++ s4)) (at_nth rfl) (by kernel_rfl) (by kernel_rfl) (by kernel_rfl) (fun _ _ _ h => absurd h (HQN _ _ _)) (by kernel_rfl) (fun w hSw => by (have q2 := HQ2.out; have q3 := HQ3.out; go_simp)) hB ?_
      simp only [Act.put, List.setIfInBounds_toArray, List.set_cons_succ, List.set_cons_zero]
      exact ST2_3_12 _ _ _ hB hN iq ib iD hDD
  have ST2 : ∀ (W : World) (DB : Nat), Below w.heap.size w W → W0.heap.size ≤ W.heap.size → Is W gq 26 xiq → Is W gb 26 xib → Is W DB 5 #[.int .u8 k] → wpAnyH Try.prog .any (opsOf Try.f6 10) Q (fun W => Below w.heap.size w W) 10 #[true, true, true, false, false, true, true, false, false, false, false, false, false, false, false] { tmps := #[x0, x1, x2, x3, x4, x5, x6, x7, x8, x9, x10, x11, x12, x13, .string s, x15, .int .i64 k, x17, x18, x19, x20, x21, x22, x23, x24, x25, x26, x27, x28, x29, x30, x31, x32, x33, x34, x35, x36, x37, x38, x39, x40, x41, x42, x43, x44, x45, x46, x47, x48, x49, x50, x51, x52, x53, x54, x55, x56, x57, x58, x59, x60, x61, x62, x63, x64, x65, x66, x67, x68, x69, x70, x71, .int .i64 k, .int .u8 k, .slice (some ⟨DB, 0, none⟩) 1 1, x75, x76, .string s, .string s4, x79, x80, x81, x82, x83, x84, x85, x86, x87, x88, x89, x90, x91, x92, x93, x94, x95, x96, x97, x98, x99, x100, x101, x102, x103, x104, x105, x106, x107, x108, x109, x110, x111, x112, x113, x114, x115, x116, x117, x118, x119, x120, x121, x122, x123, x124, x125, x126, x127, x128, x129, x130, x131, x132, x133, x134, x135, x136, x137, x138, x139, x140, x141, x142, x143, x144, x145, x146, x147, x148, x149, x150, x151, x152], defers := [] } W := by
    intro W DB hB hN iq ib iP
    refine wpAnyH_ready (by kernel_rfl) (by simp) (AllReadyH.cons (i := 3) (at_nth rfl) ?_ (AllReadyH.cons (i := 12) (at_nth rfl) ?_ (AllReadyH.nil)))
    · refine arm10_value (v := .string K1) (w' := W) (by kernel_rfl) (exec_conv11 (x := .tmp 74) (t := 45) (t2 := 9) (by kernel_rfl) (by kernel_rfl) (HCV.out iP)) hB ?_
      simp only [Act.put, List.setIfInBounds_toArray, List.set_cons_succ, List.set_cons_zero]
      clear iP
      refine wpAnyH_pure (i := 4) (v := .string (⟨#[0, 0, 0]⟩ ++ K1)) (at_nth rfl) (by kernel_rfl) (by kernel_rfl) (by kernel_rfl) (fun _ _ _ h => absurd h (HQN _ _ _)) (by kernel_rfl) (fun w hSw => by (have q1 := HQ1.out; go_simp)) hB ?_
      simp only [Act.put, List.setIfInBounds_toArray, List.set_cons_succ, List.set_cons_zero]
      refine wpAnyH_pure (i := 7) (v := .string (⟨#[0, 0, 0]⟩ ++ K1 ++ s4)) (at_nth rfl) (by kernel_rfl) (by kernel_rfl) (by kernel_rfl) (fun _ _ _ h => absurd h (HQN _ _ _)) (by kernel_rfl) (fun w hSw => by (have q2 := HQ2.out; have q3 := HQ3.out; go_simp)) hB ?_
      simp only [Act.put, List.setIfInBounds_toArray, List.set_cons_succ, List.set_cons_zero]
      exact ST2_3 _ _ hB hN iq ib
    · have iDn := Is.new W 28 #[.int .i64 0, .int .i64 0, .slice none 0 0, .int .i64 0, .int .i64 0]
      have hDD : W0.heap.size ≤ W.heap.size := hN
      replace iq := iq.alloc (.cells #[.int .i64 0, .int .i64 0, .slice none 0 0, .int .i64 0, .int .i64 0] 28)
      replace ib := ib.alloc (.cells #[.int .i64 0, .int .i64 0, .slice none 0 0, .int .i64 0, .int .i64 0] 28)
      replace iP := iP.alloc (.cells #[.int .i64 0, .int .i64 0, .slice none 0 0, .int .i64 0, .int .i64 0] 28)
      have hN2 : W0.heap.size ≤ (W.alloc (.cells #[.int .i64 0, .int .i64 0, .slice none 0 0, .int .i64 0, .int .i64 0] 28)).heap.size := by simp; omega
      replace hN := hN2
      replace hB := hB.alloc hB.size (.cells #[.int .i64 0, .int .i64 0, .slice none 0 0, .int .i64 0, .int .i64 0] 28)
      have iD := iDn
      clear iDn hN2
      refine arm10_value (by kernel_rfl) (run_allocR11 _ (by kernel_rfl)) hB ?_
      simp only [Act.put, List.setIfInBounds_toArray, List.set_cons_succ, List.set_cons_zero]
      exact ST2_12 _ _ _ hB hN iq ib iP iD hDD
  have ST12 : ∀ (W : World) (DD : Nat), Below w.heap.size w W → W0.heap.size ≤ W.heap.size → Is W gq 26 xiq → Is W gb 26 xib → Is W DD 28 #[.int .i64 0, .int .i64 0, .slice none 0 0, .int .i64 0, .int .i64 0] → W0.heap.size ≤ DD → wpAnyH Try.prog .any (opsOf Try.f6 10) Q (fun W => Below w.heap.size w W) 10 #[true, true, false, false, false, true, true, false, false, false, false, false, true, false, false] { tmps := #[x0, x1, x2, x3, x4, x5, x6, x7, x8, x9, x10, x11, x12, x13, .string s, x15, .int .i64 k, x17, x18, .pointer (some ⟨DD, 0, none⟩), x20, x21, x22, x23, x24, x25, x26, x27, x28, x29, x30, x31, x32, x33, x34, x35, x36, x37, x38, x39, x40, x41, x42, x43, x44, x45, x46, x47, x48, x49, x50, x51, x52, x53, x54, x55, x56, x57, x58, x59, x60, x61, x62, x63, x64, x65, x66, x67, x68, x69, x70, x71, .int .i64 k, .int .u8 k, x74, x75, x76, .string s, .string s4, x79, x80, x81, x82, x83, x84, x85, x86, x87, x88, x89, x90, x91, x92, x93, x94, x95, x96, x97, x98, x99, x100, x101, x102, x103, x104, x105, x106, x107, x108, x109, x110, x111, x112, x113, x114, x115, x116, x117, x118, x119, x120, x121, x122, x123, x124, x125, x126, x127, x128, x129, x130, x131, x132, x133, x134, x135, x136, x137, x138, x139, x140, x141, x142, x143, x144, x145, x146, x147, x148, x149, x150, x151, x152], defers := [] } W := by
    intro W DD hB hN iq ib iD hDD
    refine wpAnyH_ready (by kernel_rfl) (by simp) (AllReadyH.cons (i := 2) (at_nth rfl) ?_ (AllReadyH.nil))
    · have hN2 : W0.heap.size ≤ (W.alloc (.cells #[.int .u8 k] 5)).heap.size := by simp; omega
      have iPn := Is.new W 5 #[.int .u8 k]
      replace iq := iq.alloc (.cells #[.int .u8 k] 5)
      replace ib := ib.alloc (.cells #[.int .u8 k] 5)
      replace iD := iD.alloc (.cells #[.int .u8 k] 5)
      replace hB := hB.alloc hB.size (.cells #[.int .u8 k] 5)
      have iP := iPn
      clear iPn
      replace hN := hN2
      clear hN2
      refine arm10_value (v := .slice (some ⟨W.heap.size, 0, none⟩) 1 1) (w' := W.alloc (.cells #[.int .u8 k] 5)) (by kernel_rfl) (by (have h1 := HK1.out; go_simp)) hB ?_
      simp only [Act.put, List.setIfInBounds_toArray, List.set_cons_succ, List.set_cons_zero]
      exact ST2_12 _ _ _ hB hN iq ib iP iD hDD
  have ST : ∀ (W : World), Below w.heap.size w W → W0.heap.size ≤ W.heap.size → Is W gq 26 xiq → Is W gb 26 xib → wpAnyH Try.prog .any (opsOf Try.f6 10) Q (fun W => Below w.heap.size w W) 11 #[true, true, false, false, false, true, true, false, false, false, false, false, false, false, false] { tmps := #[x0, x1, x2, x3, x4, x5, x6, x7, x8, x9, x10, x11, x12, x13, .string s, x15, .int .i64 k, x17, x18, x19, x20, x21, x22, x23, x24, x25, x26, x27, x28, x29, x30, x31, x32, x33, x34, x35, x36, x37, x38, x39, x40, x41, x42, x43, x44, x45, x46, x47, x48, x49, x50, x51, x52, x53, x54, x55, x56, x57, x58, x59, x60, x61, x62, x63, x64, x65, x66, x67, x68, x69, x70, x71, .int .i64 k, .int .u8 k, x74, x75, x76, .string s, .string s4, x79, x80, x81, x82, x83, x84, x85, x86, x87, x88, x89, x90, x91, x92, x93, x94, x95, x96, x97, x98, x99, x100, x101, x102, x103, x104, x105, x106, x107, x108, x109, x110, x111, x112, x113, x114, x115, x116, x117, x118, x119, x120, x121, x122, x123, x124, x125, x126, x127, x128, x129, x130, x131, x132, x133, x134, x135, x136, x137, x138, x139, x140, x141, x142, x143, x144, x145, x146, x147, x148, x149, x150, x151, x152], defers := [] } W := by
    intro W hB hN iq ib
    refine wpAnyH_ready (by kernel_rfl) (by simp) (AllReadyH.cons (i := 2) (at_nth rfl) ?_ (AllReadyH.cons (i := 12) (at_nth rfl) ?_ (AllReadyH.nil)))
    · have hN2 : W0.heap.size ≤ (W.alloc (.cells #[.int .u8 k] 5)).heap.size := by simp; omega
      have iPn := Is.new W 5 #[.int .u8 k]
      replace iq := iq.alloc (.cells #[.int .u8 k] 5)
      replace ib := ib.alloc (.cells #[.int .u8 k] 5)
      replace hB := hB.alloc hB.size (.cells #[.int .u8 k] 5)
      have iP := iPn
      clear iPn
      replace hN := hN2
      clear hN2
      refine arm10_value (v := .slice (some ⟨W.heap.size, 0, none⟩) 1 1) (w' := W.alloc (.cells #[.int .u8 k] 5)) (by kernel_rfl) (by (have h1 := HK1.out; go_simp)) hB ?_
      simp only [Act.put, List.setIfInBounds_toArray, List.set_cons_succ, List.set_cons_zero]
      exact ST2 _ _ hB hN iq ib iP
    · have iDn := Is.new W 28 #[.int .i64 0, .int .i64 0, .slice none 0 0, .int .i64 0, .int .i64 0]
      have hDD : W0.heap.size ≤ W.heap.size := hN
      replace iq := iq.alloc (.cells #[.int .i64 0, .int .i64 0, .slice none 0 0, .int .i64 0, .int .i64 0] 28)
      replace ib := ib.alloc (.cells #[.int .i64 0, .int .i64 0, .slice none 0 0, .int .i64 0, .int .i64 0] 28)
      have hN2 : W0.heap.size ≤ (W.alloc (.cells #[.int .i64 0, .int .i64 0, .slice none 0 0, .int .i64 0, .int .i64 0] 28)).heap.size := by simp; omega
      replace hN := hN2
      replace hB := hB.alloc hB.size (.cells #[.int .i64 0, .int .i64 0, .slice none 0 0, .int .i64 0, .int .i64 0] 28)
      have iD := iDn
      clear iDn hN2
      refine arm10_value (by kernel_rfl) (run_allocR11 _ (by kernel_rfl)) hB ?_
      simp only [Act.put, List.setIfInBounds_toArray, List.set_cons_succ, List.set_cons_zero]
      exact ST12 _ _ hB hN iq ib iD hDD
  refine wp_region_held_drew (S := fun W => Below w.heap.size w W) (by kernel_rfl) hB (fun hS => ?_)
  change wpAnyH _ _ (opsOf Try.f6 10) _ _ 15 (Array.replicate 15 false) _ (W0.drewN 1)
  clear hS
  refine wpAnyH_pure (i := 0) (v := .int .i64 k) (at_nth rfl) (by kernel_rfl) (by kernel_rfl) (by kernel_rfl) (fun _ _ _ h => absurd h (HQN _ _ _)) (by kernel_rfl) (fun w hSw => by kernel_rfl) hB ?_
  simp only [Act.put, List.setIfInBounds_toArray, List.set_cons_succ, List.set_cons_zero]
  refine wpAnyH_pure (i := 1) (v := .int .u8 k) (at_nth rfl) (by kernel_rfl) (by kernel_rfl) (by kernel_rfl) (fun _ _ _ h => absurd h (HQN _ _ _)) (by kernel_rfl) (fun w hSw => by (have h1 := HK1.out; go_simp)) hB ?_
  simp only [Act.put, List.setIfInBounds_toArray, List.set_cons_succ, List.set_cons_zero]
  refine wpAnyH_pure (i := 5) (v := .string s) (at_nth rfl) (by kernel_rfl) (by kernel_rfl) (by kernel_rfl) (fun _ _ _ h => absurd h (HQN _ _ _)) (by kernel_rfl) (fun w hSw => by kernel_rfl) hB ?_
  simp only [Act.put, List.setIfInBounds_toArray, List.set_cons_succ, List.set_cons_zero]
  refine wpAnyH_pure (i := 6) (v := .string s4) (at_nth rfl) (by kernel_rfl) (by kernel_rfl) (by kernel_rfl) (fun _ _ _ h => absurd h (HQN _ _ _)) (by kernel_rfl) (fun w hSw => by (have hs1 := HSL.out; go_simp)) hB ?_
  simp only [Act.put, List.setIfInBounds_toArray, List.set_cons_succ, List.set_cons_zero]
  exact ST _ hB hN iq ib
end Go.Proofs.Ytapfbcpbiagogaa
