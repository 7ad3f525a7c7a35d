/-
  CodecOne: the walk of the statement's function.
-/
import Derived.Test.YtploljgamimlpaaCoeE
import Derived.Test.YtploljgamimlpaaLawCOrders
namespace Go.Proofs.Ytploljgamimlpaa
open Go.RowKit Go.Shelf

theorem run_low10 (s : ByteArray) (k : Int) (h0 : 0 ≤ k) (h1 : k ≤ (s.size : Int)) (wx : World) : (Instr.slice 9 (.string s) (some (.int .i64 k)) none none).run Try.prog wx = .ok (.string (s.extract k.toNat s.size)) wx := by
  have h := run_slice_string (P := Try.prog) wx 9 s .i64 .i64 k (s.size : Int) Try.underlying9 h0 h1 (Int.le_refl _)
  have q : ¬ k < 0 := by omega
  have q2 : k.toNat ≤ s.size := by omega
  go_simp
theorem run_high10 (s : ByteArray) (k : Int) (h0 : 0 ≤ k) (h1 : k ≤ (s.size : Int)) (wx : World) : (Instr.slice 9 (.string s) none (some (.int .i64 k)) none).run Try.prog wx = .ok (.string (s.extract 0 k.toNat)) wx :=
  run_slice_string_h (P := Try.prog) (w := wx) (t := 9) (s := s) Try.underlying9 .i64 k h0 h1

set_option maxRecDepth 100000 in
set_option maxHeartbeats 8000000 in
theorem one10_list (W0 : World) (s t more a0 t1 t2 m : ByteArray) (k : Int) (H0 : Hid (∀ wx : World, (Instr.slice 9 (.string s) none (some (.int .i64 (min (s.size : Int) 500))) none).run Try.prog wx = .ok (.string a0) wx)) (H1 : Hid (∀ wx : World, (Instr.slice 9 (.string t) none (some (.int .i64 k)) none).run Try.prog wx = .ok (.string t1) wx)) (HM : Hid (∀ wx : World, (Instr.slice 9 (.string more) none (some (.int .i64 (min (more.size : Int) 20))) none).run Try.prog wx = .ok (.string m) wx)) (H2 : Hid (∀ wx : World, (Instr.slice 9 (.string t) (some (.int .i64 k)) none none).run Try.prog wx = .ok (.string t2) wx)) (HQ1 : Hid (¬ 9223372036854775807 < t1.size + m.size)) (HQ2 : Hid (¬ 9223372036854775807 < (t1 ++ m).size + t2.size)) (HQ3 : Hid (¬ 9223372036854775807 < t1.size + m.size + t2.size)) (x1 x2 x4 x5 x6 x7 x8 x9 x11 x13 x14 x15 x16 x17 x18 x19 x20 x21 x22 x23 x24 x25 x26 x27 x28 x29 x30 x31 x32 x33 x34 x35 x36 x37 x38 x39 x40 x41 x42 x43 x44 x45 x46 x47 x48 x49 x50 x51 x52 x53 x54 x55 x56 x57 x58 x59 x60 x61 x62 x63 x64 x65 x66 x67 x68 x69 x70 x71 x72 x73 x74 x75 x76 x77 x78 x79 x80 x81 x82 x83 x84 x85 x86 x87 x88 x89 x90 x91 x92 x93 x94 x95 x96 x97 x98 x99 x100 x101 x102 x103 x104 x105 x106 x107 x108 x109 x110 x111 x112 x113 x114 x115 x116 x117 x118 x119 x120 x121 x122 x123 x124 x125 x126 x127 x128 x129 x130 x131 x132 x133 x134 x135 x136 x137 x138 x139 x140 x141 x142 x143 x144 x145 x146 x147 x148 x149 x150 x151 : Value) :
    (Code.region 6 (opsOf Try.f5 6) true).wp Try.prog (fun ex YY W => ex = .normal ∧ YY.defers = [] ∧ ∃ (DD : Nat), YY.tmps = #[.string s, x1, x2, .string more, x4, x5, x6, x7, x8, x9, .string t, x11, .int .i64 k, x13, x14, x15, x16, x17, x18, x19, x20, x21, x22, x23, x24, x25, x26, x27, x28, x29, x30, x31, x32, x33, x34, x35, x36, x37, x38, x39, .string s, .string s, .int .i64 (s.size : Int), .int .i64 (min (s.size : Int) 500), .string a0, .string t, .string t, .int .i64 k, .string t1, .string more, .string more, .int .i64 (more.size : Int), .int .i64 (min (more.size : Int) 20), .string m, .string (t1 ++ m), .string t, .int .i64 k, .string t2, .string (t1 ++ m ++ t2), .slice (some ⟨DD, 0, none⟩) 3 3, .int .i64 3, .int .i64 0, x62, x63, x64, x65, x66, x67, x68, x69, x70, x71, x72, x73, x74, x75, x76, x77, x78, x79, x80, x81, x82, x83, x84, x85, x86, x87, x88, x89, x90, x91, x92, x93, x94, x95, x96, x97, x98, x99, x100, x101, x102, x103, x104, x105, x106, x107, x108, x109, x110, x111, x112, x113, x114, x115, x116, x117, x118, x119, x120, x121, x122, x123, x124, x125, x126, x127, x128, x129, x130, x131, x132, x133, x134, x135, x136, x137, x138, x139, x140, x141, x142, x143, x144, x145, x146, x147, x148, x149, x150, x151] ∧ Below W0.heap.size W0 W ∧ W0.heap.size ≤ DD ∧ Is W DD 9 #[.string a0, .string t, .string (t1 ++ m ++ t2)]) { tmps := #[.string s, x1, x2, .string more, x4, x5, x6, x7, x8, x9, .string t, x11, .int .i64 k, x13, x14, x15, x16, x17, x18, x19, x20, x21, x22, x23, x24, x25, x26, x27, x28, x29, x30, x31, x32, x33, x34, x35, x36, x37, x38, x39, x40, x41, x42, x43, x44, x45, x46, x47, x48, x49, x50, x51, x52, x53, x54, x55, x56, x57, x58, x59, x60, x61, x62, x63, x64, x65, x66, x67, x68, x69, x70, x71, x72, x73, x74, x75, x76, x77, x78, x79, x80, x81, x82, x83, x84, x85, x86, x87, x88, x89, x90, x91, x92, x93, x94, x95, x96, x97, x98, x99, x100, x101, x102, x103, x104, x105, x106, x107, x108, x109, x110, x111, x112, x113, x114, x115, x116, x117, x118, x119, x120, x121, x122, x123, x124, x125, x126, x127, x128, x129, x130, x131, x132, x133, x134, x135, x136, x137, x138, x139, x140, x141, x142, x143, x144, x145, x146, x147, x148, x149, x150, x151], defers := [] } W0 := by
  have hB : Below W0.heap.size W0 (W0.drewN 1) := belowN (Below.refl _ _) 1
  generalize hQ : (fun (ex : Exit) (YY : Act) (W : World) => ex = .normal ∧ YY.defers = [] ∧ ∃ (DD : Nat), YY.tmps = #[.string s, x1, x2, .string more, x4, x5, x6, x7, x8, x9, .string t, x11, .int .i64 k, x13, x14, x15, x16, x17, x18, x19, x20, x21, x22, x23, x24, x25, x26, x27, x28, x29, x30, x31, x32, x33, x34, x35, x36, x37, x38, x39, .string s, .string s, .int .i64 (s.size : Int), .int .i64 (min (s.size : Int) 500), .string a0, .string t, .string t, .int .i64 k, .string t1, .string more, .string more, .int .i64 (more.size : Int), .int .i64 (min (more.size : Int) 20), .string m, .string (t1 ++ m), .string t, .int .i64 k, .string t2, .string (t1 ++ m ++ t2), .slice (some ⟨DD, 0, none⟩) 3 3, .int .i64 3, .int .i64 0, x62, x63, x64, x65, x66, x67, x68, x69, x70, x71, x72, x73, x74, x75, x76, x77, x78, x79, x80, x81, x82, x83, x84, x85, x86, x87, x88, x89, x90, x91, x92, x93, x94, x95, x96, x97, x98, x99, x100, x101, x102, x103, x104, x105, x106, x107, x108, x109, x110, x111, x112, x113, x114, x115, x116, x117, x118, x119, x120, x121, x122, x123, x124, x125, x126, x127, x128, x129, x130, x131, x132, x133, x134, x135, x136, x137, x138, x139, x140, x141, x142, x143, x144, x145, x146, x147, x148, x149, x150, x151] ∧ Below W0.heap.size W0 W ∧ W0.heap.size ≤ DD ∧ Is W DD 9 #[.string a0, .string t, .string (t1 ++ m ++ t2)]) = Q
  have HQN : ∀ c a W, ¬ Q (.panic c) a W := fun c a W h => by subst hQ; exact nomatch h.1
  have ST19 : ∀ (W : World) (DD : Nat), Below W0.heap.size W0 W → W0.heap.size ≤ DD → Is W DD 9 #[.string a0, .string t, .string (t1 ++ m ++ t2)] → wpAnyH Try.prog .any (opsOf Try.f5 6) Q (fun W => Below W0.heap.size W0 W) 0 #[true, true, true, true, true, true, true, true, true, true, true, true, true, true, true, true, true, true, true, true, true, true] { tmps := #[.string s, x1, x2, .string more, x4, x5, x6, x7, x8, x9, .string t, x11, .int .i64 k, x13, x14, x15, x16, x17, x18, x19, x20, x21, x22, x23, x24, x25, x26, x27, x28, x29, x30, x31, x32, x33, x34, x35, x36, x37, x38, x39, .string s, .string s, .int .i64 (s.size : Int), .int .i64 (min (s.size : Int) 500), .string a0, .string t, .string t, .int .i64 k, .string t1, .string more, .string more, .int .i64 (more.size : Int), .int .i64 (min (more.size : Int) 20), .string m, .string (t1 ++ m), .string t, .int .i64 k, .string t2, .string (t1 ++ m ++ t2), .slice (some ⟨DD, 0, none⟩) 3 3, .int .i64 3, .int .i64 0, x62, x63, x64, x65, x66, x67, x68, x69, x70, x71, x72, x73, x74, x75, x76, x77, x78, x79, x80, x81, x82, x83, x84, x85, x86, x87, x88, x89, x90, x91, x92, x93, x94, x95, x96, x97, x98, x99, x100, x101, x102, x103, x104, x105, x106, x107, x108, x109, x110, x111, x112, x113, x114, x115, x116, x117, x118, x119, x120, x121, x122, x123, x124, x125, x126, x127, x128, x129, x130, x131, x132, x133, x134, x135, x136, x137, x138, x139, x140, x141, x142, x143, x144, x145, x146, x147, x148, x149, x150, x151], defers := [] } W := by
    intro W DD hB hDD iD
    refine wpAnyH_done (by kernel_rfl) ?_ _
    subst hQ
    exact ⟨rfl, rfl, DD, rfl, hB, hDD, iD⟩
  have ST : ∀ (W : World), Below W0.heap.size W0 W → wpAnyH Try.prog .any (opsOf Try.f5 6) Q (fun W => Below W0.heap.size W0 W) 2 #[true, true, true, true, true, true, true, true, true, true, true, true, true, true, true, true, true, true, true, false, false, true] { tmps := #[.string s, x1, x2, .string more, x4, x5, x6, x7, x8, x9, .string t, x11, .int .i64 k, x13, x14, x15, x16, x17, x18, x19, x20, x21, x22, x23, x24, x25, x26, x27, x28, x29, x30, x31, x32, x33, x34, x35, x36, x37, x38, x39, .string s, .string s, .int .i64 (s.size : Int), .int .i64 (min (s.size : Int) 500), .string a0, .string t, .string t, .int .i64 k, .string t1, .string more, .string more, .int .i64 (more.size : Int), .int .i64 (min (more.size : Int) 20), .string m, .string (t1 ++ m), .string t, .int .i64 k, .string t2, .string (t1 ++ m ++ t2), x59, x60, .int .i64 0, x62, x63, x64, x65, x66, x67, x68, x69, x70, x71, x72, x73, x74, x75, x76, x77, x78, x79, x80, x81, x82, x83, x84, x85, x86, x87, x88, x89, x90, x91, x92, x93, x94, x95, x96, x97, x98, x99, x100, x101, x102, x103, x104, x105, x106, x107, x108, x109, x110, x111, x112, x113, x114, x115, x116, x117, x118, x119, x120, x121, x122, x123, x124, x125, x126, x127, x128, x129, x130, x131, x132, x133, x134, x135, x136, x137, x138, x139, x140, x141, x142, x143, x144, x145, x146, x147, x148, x149, x150, x151], defers := [] } W := by
    intro W hB
    refine wpAnyH_ready (by kernel_rfl) (by simp) (AllReadyH.cons (i := 19) (at_nth rfl) ?_ (AllReadyH.nil))
    · have iD := Is.new W 9 #[.string a0, .string t, .string (t1 ++ m ++ t2)]
      have hDD : W0.heap.size ≤ W.heap.size := hB.size
      replace hB := hB.alloc hB.size (.cells #[.string a0, .string t, .string (t1 ++ m ++ t2)] 9)
      refine arm10_value (v := .slice (some ⟨W.heap.size, 0, none⟩) 3 3) (w' := W.alloc (.cells #[.string a0, .string t, .string (t1 ++ m ++ t2)] 9)) (by kernel_rfl) (by go_simp) hB ?_
      simp only [Act.put, List.setIfInBounds_toArray, List.set_cons_succ, List.set_cons_zero]
      refine wpAnyH_pure (i := 20) (v := .int .i64 3) (at_nth rfl) (by kernel_rfl) (by kernel_rfl) (by kernel_rfl) (fun _ _ _ h => absurd h (HQN _ _ _)) (by kernel_rfl) (fun w hSw => by go_simp) hB ?_
      simp only [Act.put, List.setIfInBounds_toArray, List.set_cons_succ, List.set_cons_zero]
      exact ST19 _ _ hB hDD iD
  refine wp_region_held_drew (S := fun W => Below W0.heap.size W0 W) (by kernel_rfl) hB (fun hS => ?_)
  change wpAnyH _ _ (opsOf Try.f5 6) _ _ 22 (Array.replicate 22 false) _ (W0.drewN 1)
  clear hS
  replace hB : Below W0.heap.size W0 (W0.drewN 1) := belowN (Below.refl _ _) 1
  refine wpAnyH_pure (i := 0) (v := .string s) (at_nth rfl) (by kernel_rfl) (by kernel_rfl) (by kernel_rfl) (fun _ _ _ h => absurd h (HQN _ _ _)) (by kernel_rfl) (fun w hSw => by kernel_rfl) hB ?_
  simp only [Act.put, List.setIfInBounds_toArray, List.set_cons_succ, List.set_cons_zero]
  refine wpAnyH_pure (i := 1) (v := .string s) (at_nth rfl) (by kernel_rfl) (by kernel_rfl) (by kernel_rfl) (fun _ _ _ h => absurd h (HQN _ _ _)) (by kernel_rfl) (fun w hSw => by kernel_rfl) hB ?_
  simp only [Act.put, List.setIfInBounds_toArray, List.set_cons_succ, List.set_cons_zero]
  refine wpAnyH_pure (i := 2) (v := .int .i64 (s.size : Int)) (at_nth rfl) (by kernel_rfl) (by kernel_rfl) (by kernel_rfl) (fun _ _ _ h => absurd h (HQN _ _ _)) (by kernel_rfl) (fun w hSw => by go_simp) hB ?_
  simp only [Act.put, List.setIfInBounds_toArray, List.set_cons_succ, List.set_cons_zero]
  refine wpAnyH_pure (i := 3) (v := .int .i64 (min (s.size : Int) 500)) (at_nth rfl) (by kernel_rfl) (by kernel_rfl) (by kernel_rfl) (fun _ _ _ h => absurd h (HQN _ _ _)) (by kernel_rfl) (fun w hSw => by go_simp) hB ?_
  simp only [Act.put, List.setIfInBounds_toArray, List.set_cons_succ, List.set_cons_zero]
  refine wpAnyH_pure (i := 4) (v := .string a0) (at_nth rfl) (by kernel_rfl) (by kernel_rfl) (by kernel_rfl) (fun _ _ _ h => absurd h (HQN _ _ _)) (by kernel_rfl) (fun w hSw => by (have hs1 := H0.out; go_simp)) hB ?_
  simp only [Act.put, List.setIfInBounds_toArray, List.set_cons_succ, List.set_cons_zero]
  refine wpAnyH_pure (i := 5) (v := .string t) (at_nth rfl) (by kernel_rfl) (by kernel_rfl) (by kernel_rfl) (fun _ _ _ h => absurd h (HQN _ _ _)) (by kernel_rfl) (fun w hSw => by kernel_rfl) hB ?_
  simp only [Act.put, List.setIfInBounds_toArray, List.set_cons_succ, List.set_cons_zero]
  refine wpAnyH_pure (i := 6) (v := .string t) (at_nth rfl) (by kernel_rfl) (by kernel_rfl) (by kernel_rfl) (fun _ _ _ h => absurd h (HQN _ _ _)) (by kernel_rfl) (fun w hSw => by kernel_rfl) hB ?_
  simp only [Act.put, List.setIfInBounds_toArray, List.set_cons_succ, List.set_cons_zero]
  refine wpAnyH_pure (i := 7) (v := .int .i64 k) (at_nth rfl) (by kernel_rfl) (by kernel_rfl) (by kernel_rfl) (fun _ _ _ h => absurd h (HQN _ _ _)) (by kernel_rfl) (fun w hSw => by kernel_rfl) hB ?_
  simp only [Act.put, List.setIfInBounds_toArray, List.set_cons_succ, List.set_cons_zero]
  refine wpAnyH_pure (i := 8) (v := .string t1) (at_nth rfl) (by kernel_rfl) (by kernel_rfl) (by kernel_rfl) (fun _ _ _ h => absurd h (HQN _ _ _)) (by kernel_rfl) (fun w hSw => by (have hs1 := H1.out; go_simp)) hB ?_
  simp only [Act.put, List.setIfInBounds_toArray, List.set_cons_succ, List.set_cons_zero]
  refine wpAnyH_pure (i := 9) (v := .string more) (at_nth rfl) (by kernel_rfl) (by kernel_rfl) (by kernel_rfl) (fun _ _ _ h => absurd h (HQN _ _ _)) (by kernel_rfl) (fun w hSw => by kernel_rfl) hB ?_
  simp only [Act.put, List.setIfInBounds_toArray, List.set_cons_succ, List.set_cons_zero]
  refine wpAnyH_pure (i := 10) (v := .string more) (at_nth rfl) (by kernel_rfl) (by kernel_rfl) (by kernel_rfl) (fun _ _ _ h => absurd h (HQN _ _ _)) (by kernel_rfl) (fun w hSw => by kernel_rfl) hB ?_
  simp only [Act.put, List.setIfInBounds_toArray, List.set_cons_succ, List.set_cons_zero]
  refine wpAnyH_pure (i := 11) (v := .int .i64 (more.size : Int)) (at_nth rfl) (by kernel_rfl) (by kernel_rfl) (by kernel_rfl) (fun _ _ _ h => absurd h (HQN _ _ _)) (by kernel_rfl) (fun w hSw => by go_simp) hB ?_
  simp only [Act.put, List.setIfInBounds_toArray, List.set_cons_succ, List.set_cons_zero]
  refine wpAnyH_pure (i := 12) (v := .int .i64 (min (more.size : Int) 20)) (at_nth rfl) (by kernel_rfl) (by kernel_rfl) (by kernel_rfl) (fun _ _ _ h => absurd h (HQN _ _ _)) (by kernel_rfl) (fun w hSw => by go_simp) hB ?_
  simp only [Act.put, List.setIfInBounds_toArray, List.set_cons_succ, List.set_cons_zero]
  refine wpAnyH_pure (i := 13) (v := .string m) (at_nth rfl) (by kernel_rfl) (by kernel_rfl) (by kernel_rfl) (fun _ _ _ h => absurd h (HQN _ _ _)) (by kernel_rfl) (fun w hSw => by (have hs1 := HM.out; go_simp)) hB ?_
  simp only [Act.put, List.setIfInBounds_toArray, List.set_cons_succ, List.set_cons_zero]
  refine wpAnyH_pure (i := 14) (v := .string (t1 ++ m)) (at_nth rfl) (by kernel_rfl) (by kernel_rfl) (by kernel_rfl) (fun _ _ _ h => absurd h (HQN _ _ _)) (by kernel_rfl) (fun w hSw => by (have q1 := HQ1.out; go_simp)) hB ?_
  simp only [Act.put, List.setIfInBounds_toArray, List.set_cons_succ, List.set_cons_zero]
  refine wpAnyH_pure (i := 15) (v := .string t) (at_nth rfl) (by kernel_rfl) (by kernel_rfl) (by kernel_rfl) (fun _ _ _ h => absurd h (HQN _ _ _)) (by kernel_rfl) (fun w hSw => by kernel_rfl) hB ?_
  simp only [Act.put, List.setIfInBounds_toArray, List.set_cons_succ, List.set_cons_zero]
  refine wpAnyH_pure (i := 16) (v := .int .i64 k) (at_nth rfl) (by kernel_rfl) (by kernel_rfl) (by kernel_rfl) (fun _ _ _ h => absurd h (HQN _ _ _)) (by kernel_rfl) (fun w hSw => by kernel_rfl) hB ?_
  simp only [Act.put, List.setIfInBounds_toArray, List.set_cons_succ, List.set_cons_zero]
  refine wpAnyH_pure (i := 17) (v := .string t2) (at_nth rfl) (by kernel_rfl) (by kernel_rfl) (by kernel_rfl) (fun _ _ _ h => absurd h (HQN _ _ _)) (by kernel_rfl) (fun w hSw => by (have hs1 := H2.out; go_simp)) hB ?_
  simp only [Act.put, List.setIfInBounds_toArray, List.set_cons_succ, List.set_cons_zero]
  refine wpAnyH_pure (i := 18) (v := .string (t1 ++ m ++ t2)) (at_nth rfl) (by kernel_rfl) (by kernel_rfl) (by kernel_rfl) (fun _ _ _ h => absurd h (HQN _ _ _)) (by kernel_rfl) (fun w hSw => by (have q2 := HQ2.out; have q3 := HQ3.out; go_simp)) hB ?_
  simp only [Act.put, List.setIfInBounds_toArray, List.set_cons_succ, List.set_cons_zero]
  refine wpAnyH_pure (i := 21) (v := .int .i64 0) (at_nth rfl) (by kernel_rfl) (by kernel_rfl) (by kernel_rfl) (fun _ _ _ h => absurd h (HQN _ _ _)) (by kernel_rfl) (fun w hSw => by kernel_rfl) hB ?_
  simp only [Act.put, List.setIfInBounds_toArray, List.set_cons_succ, List.set_cons_zero]
  exact ST _ hB

set_option maxRecDepth 100000 in
set_option maxHeartbeats 8000000 in
theorem cone_walk (s : ByteArray) (A : Option Addr) (cap : Nat) (l : List ByteArray) (at_ : Int) (more : ByteArray) (w : World) (_hs : s.size ≤ maxLen) (hl : l.length ≤ maxLen) (hc : InV w A (tL10 l)) (ha : -9223372036854775808 ≤ at_ ∧ at_ ≤ 9223372036854775807) (_hm : more.size ≤ maxLen) :
    Calls Try.prog 5 #[.string s, .slice A l.length cap, .int .i64 at_, .string more] w fun e w' => e = .returned (.bool true) ∧ Below w.heap.size w w' := by
  have HC := Lib.hid hc
  have AW := Lib.hid awake10_any
  have FW := Lib.hid (fun W h => few_any10 A cap l W (by unfold maxLen at hl; omega) h)
  have FL := Lib.hid (fun A c n W h => few_list10 A c l n W h)
  have hfl := few_len10 l
  have hls := cat_few10 hfl (few_sz10 l)
  generalize fewL10 l = f at *
  generalize lst10 f = t at *
  have PK := Lib.hid (fun W => pick10_any at_ ((t.size : Int) + 1) W ha.1 ha.2 (by omega) (by omega))
  have hk := pickN_bd at_ ((t.size : Int) + 1) (by omega)
  generalize pickN at_ ((t.size : Int) + 1) = k at *
  have w1i := IntWalk.i64_in ((t.size : Int) + 1) (by omega)
  have H0 := Lib.hid (show ∀ wx : World, (Instr.slice 9 (.string s) none (some (.int .i64 (min (s.size : Int) 500))) none).run Try.prog wx = .ok (.string (cut10 500 s)) wx from fun wx => run_cut10 500 s wx)
  have HM := Lib.hid (show ∀ wx : World, (Instr.slice 9 (.string more) none (some (.int .i64 (min (more.size : Int) 20))) none).run Try.prog wx = .ok (.string (cut10 20 more)) wx from fun wx => run_cut10 20 more wx)
  have H1 := Lib.hid (run_high10 t k (by omega) (by omega))
  have H2 := Lib.hid (run_low10 t k (by omega) (by omega))
  have z0 := cut_size10 500 s
  have zm := cut_size10 20 more
  have z1 := ex_size10 (s := t) (a := 0) (b := k.toNat) (by omega)
  have z2 := ex_size10 (s := t) (a := k.toNat) (b := t.size) (Nat.le_refl _)
  generalize cut10 500 s = a0 at *
  generalize cut10 20 more = m at *
  generalize t.extract 0 k.toNat = t1 at *
  generalize t.extract k.toNat t.size = t2 at *
  have z3 := ByteArray.size_append (a := t1) (b := m)
  have z4 := ByteArray.size_append (a := t1 ++ m) (b := t2)
  have HQ1 := Lib.hid (show ¬ 9223372036854775807 < t1.size + m.size by omega)
  have HQ2 := Lib.hid (show ¬ 9223372036854775807 < (t1 ++ m).size + t2.size by omega)
  have HQ3 := Lib.hid (show ¬ 9223372036854775807 < t1.size + m.size + t2.size by omega)
  have HX := Lib.hid (show ∀ j, j < 3 → ∃ x : ByteArray, (#[.string a0, .string t, .string (t1 ++ m ++ t2)] : Array Value)[j]? = some (.string x) ∧ x.size ≤ 2000 from fun j hj => by
    match j, hj with
    | 0, _ => exact ⟨a0, rfl, by omega⟩
    | 1, _ => exact ⟨t, rfl, by omega⟩
    | 2, _ => exact ⟨t1 ++ m ++ t2, rfl, by omega⟩)
  clear hc hl ha hfl hls hk z0 zm z1 z2 z3 z4
  go_enter Try.func5, Try.ntmps5
  go_wp2_with fail
  refine (AW.out _).mono ?_
  rintro e W1 ⟨rfl, hB1⟩
  go_wp2_with fail
  refine (FW.out _ (HC.out.keep hB1)).mono ?_
  rintro e W2 ⟨A4, c4, rfl, hL2, hb⟩
  have hB2 := hB1.trans (hb.mono hB1.size)
  clear hb hB1
  go_wp2_with fail
  refine (FL.out _ _ _ _ hL2).mono ?_
  rintro e W3 ⟨rfl, hb⟩
  have hB3 := hB2.trans (hb.mono hB2.size)
  clear hb hB2 hL2
  go_wp2_with fail
  refine (PK.out _).mono ?_
  rintro e w' ⟨rfl, rfl⟩
  go_wp2
  refine Code.wp_mono ?_ (one10_list _ s t more a0 t1 t2 m k H0 H1 HM H2 HQ1 HQ2 HQ3 _ _ _ _ _ _ _ _ _ _ _ _ _ _ _ _ _ _ _ _ _ _ _ _ _ _ _ _ _ _ _ _ _ _ _ _ _ _ _ _ _ _ _ _ _ _ _ _ _ _ _ _ _ _ _ _ _ _ _ _ _ _ _ _ _ _ _ _ _ _ _ _ _ _ _ _ _ _ _ _ _ _ _ _ _ _ _ _ _ _ _ _ _ _ _ _ _ _ _ _ _ _ _ _ _ _ _ _ _ _ _ _ _ _ _ _ _ _ _ _ _ _ _ _ _ _ _ _ _ _ _ _ _ _ _ _ _ _ _ _ _ _ _ _ _ _ _ _)
  rintro e YY W4 ⟨rfl, hd, DD, hT0, hb, hDD, iD⟩
  obtain ⟨T0, Dd⟩ := YY
  subst hT0
  obtain rfl : Dd = [] := hd
  have hB4 := hB3.trans (hb.mono hB3.size)
  have hDw : w.heap.size ≤ DD := by have := hB3.size; omega
  clear hb hDD hB3 PK H0 H1 HM H2 HQ1 HQ2 HQ3 w1i
  go_wp2
  go_loopw [61] (fun i wr => ∃ j : Nat, j ≤ 3 ∧ i = .int .i64 (j : Int) ∧ Is wr DD 9 #[.string a0, .string t, .string (t1 ++ m ++ t2)] ∧ Below w.heap.size w wr)
    (fun i _ => 3 - (intOf i).toNat)
  case atStart => exact ⟨0, by omega, rfl, iD, hB4⟩
  case round =>
    clear iD hB4
    obtain ⟨j, hj, rfl, iD, hB⟩ := hrel
    by_cases hlt : j < 3
    · have q1 : (j : Int) < 3 := by omega
      obtain ⟨x, hx, hxs⟩ := HX.out j hlt
      have cX : wr.cell? ⟨DD, j, none⟩ = some (.string x) := by rw [iD.cell j]; exact hx
      have CL := Lib.hid (fun W => cl_any10 x 0 W)
      have CT := Lib.hid (fun W => ct_any10 x 0 W)
      have hlc : ((tlV10 x 0).2.2 = 0 ∧ Tl10 x 0 (tlV10 x 0).1 (tlV10 x 0).2.1) ∨ (tlV10 x 0).2.2 ≠ 0 := by
        by_cases h : (tlV10 x 0).2.2 = 0
        · exact .inl ⟨h, tl_ok10 h⟩
        · exact .inr h
      have htc : ((ttV10 x 0).2.2 = 0 ∧ Tt10 x 0 (ttV10 x 0).1 (ttV10 x 0).2.1) ∨ (ttV10 x 0).2.2 ≠ 0 := by
        by_cases h : (ttV10 x 0).2.2 = 0
        · exact .inl ⟨h, tt_ok10 h⟩
        · exact .inr h
      simp only [tlR10] at CL
      rw [ttR10] at CT
      obtain ⟨lv, lp, le, hlv⟩ : ∃ a b c, tlV10 x 0 = (a, b, c) := ⟨_, _, _, rfl⟩
      obtain ⟨tv, tp, te, htv⟩ : ∃ a b c, ttV10 x 0 = (a, b, c) := ⟨_, _, _, rfl⟩
      rw [hlv] at hlc
      rw [htv] at htc CT
      simp only [hlv] at CL
      have HLC := Lib.hid hlc
      have HTC := Lib.hid htc
      clear hlc htc hlv htv hx
      go_wp2_with fail
      refine (CL.out _).mono ?_
      rintro e W5 ⟨A5, c5, rfl, hL5, hb⟩
      have iD5 := (iD.below hb iD.lt).alloc (.cells #[.string x, .int .i64 lp] 24)
      have iC5 := Is.new W5 24 #[.string x, .int .i64 lp]
      have hB5a := hB.trans (hb.mono hB.size)
      have hB5 := hB5a.alloc hB5a.size (.cells #[.string x, .int .i64 lp] 24)
      have hL5b := hL5.alloc (.cells #[.string x, .int .i64 lp] 24)
      have HCw := Lib.hid hB5a.size
      clear hb iD hB hB5a hL5 cX
      rcases HLC.out with ⟨hle, hT⟩ | hle
      · obtain rfl : le = 0 := hle
        have hr := hT.right.2.2
        have ha4 := hT.ahead
        have hag := hT.again
        have hcut := tl_cut10 hT
        have hby := congrArg ByteArray.size hT.bytes
        rw [show (0 : Int).toNat = 0 from rfl] at hag hby
        rw [ex_size10 (by omega), lst_size10] at hby
        have hsm : ∀ s ∈ lv, s.size ≤ 140737488355328 := fun s hs => by have := (cat_size10 lv).2 s hs; omega
        have LL := fun W (h : InV W A5 (tL10 lv)) => list_any10 A5 c5 lv W hsm h
        rw [lstR10, hag] at LL
        have LL := Lib.hid LL
        have C2 := fun W => cl_any10 (x.extract 0 (lp - 1).toNat) 0 W
        simp only [tlR10, hcut] at C2
        have C2 := Lib.hid C2
        have HS0 := Lib.hid (run_high10 x lp (by omega) hr)
        have HS1 := Lib.hid (run_high10 x (lp - 1) (by omega) (by omega))
        have w2i := IntWalk.i64_in (lp - 1) (by omega)
        generalize x.extract 0 lp.toNat = X0 at *
        generalize x.extract 0 (lp - 1).toNat = X1 at *
        have g1 : ¬ lp < 4 := by omega
        have g2 : ¬ (x.size : Int) < lp := by omega
        clear hag hcut hby hsm HLC hT
        go_wp2_with fail
        generalize W5.alloc (.cells #[.string x, .int .i64 lp] 24) = W6 at *
        generalize W5.heap.size = bC at *
        refine (LL.out _ hL5b.at').mono ?_
        rintro e V1 ⟨rfl, hb⟩
        have iDv := iD5.below hb iD5.lt
        have iCv := iC5.below hb iC5.lt
        have hBv := hB5.trans (hb.mono hB5.size)
        have d1 : V1.cell? ⟨bC, 1, none⟩ = some (.int .i64 lp) := iCv.cell 1
        have hs1 := HS1.out
        clear hb iD5 iC5 hB5 hL5b
        go_wp2_with fail
        clear d1 hs1
        refine (C2.out _).mono ?_
        rintro e V2 ⟨A8, c8, rfl, _, hb⟩
        have iD6 := (iDv.below hb iDv.lt).alloc (.cells #[.string X1, .int .i64 0] 24)
        have iC6 := (iCv.below hb iCv.lt).alloc (.cells #[.string X1, .int .i64 0] 24)
        have hB6a := hBv.trans (hb.mono hBv.size)
        have hB6 := hB6a.alloc hB6a.size (.cells #[.string X1, .int .i64 0] 24)
        have d1 : (V2.alloc (.cells #[.string X1, .int .i64 0] 24)).cell? ⟨bC, 1, none⟩ = some (.int .i64 lp) := iC6.cell 1
        have hs0 := HS0.out
        clear hb iDv iCv hBv hB6a
        go_wp2_with fail
        clear d1 hs0
        generalize V2.alloc (.cells #[.string X1, .int .i64 0] 24) = V3 at *
        clear g1 g2
        refine (CT.out _).mono ?_
        rintro e W7 ⟨rfl, hb⟩
        have iD7 := iD6.below hb iD6.lt
        have iC7 := iC6.below hb iC6.lt
        have hB7 := hB6.trans (hb.mono hB6.size)
        have d0 : W7.cell? ⟨bC, 0, none⟩ = some (.string x) := iC7.cell 0
        have d1 : W7.cell? ⟨bC, 1, none⟩ = some (.int .i64 lp) := iC7.cell 1
        have f0 := iC7.frozen 0
        have f1 := iC7.frozen 1
        have hne : DD ≠ bC := is_neG iD6 iC6 (by decide)
        have iD8 : Is ((W7.setCell ⟨bC, 0, none⟩ (.string x)).setCell ⟨bC, 1, none⟩ (.int .i64 tp)) DD 9 #[.string a0, .string t, .string (t1 ++ m ++ t2)] := (iD7.far (p := ⟨bC, 0, none⟩) hne _).far (p := ⟨bC, 1, none⟩) hne _
        have iC8 : Is ((W7.setCell ⟨bC, 0, none⟩ (.string x)).setCell ⟨bC, 1, none⟩ (.int .i64 tp)) bC 24 #[.string x, .int .i64 tp] := (iC7.set 0 _).set 1 _
        have hB8 : Below w.heap.size w ((W7.setCell ⟨bC, 0, none⟩ (.string x)).setCell ⟨bC, 1, none⟩ (.int .i64 tp)) := (hB7.setCell (p := ⟨bC, 0, none⟩) HCw.out _).setCell (p := ⟨bC, 1, none⟩) HCw.out _
        clear hb iD6 iC6 hB6 iD7 iC7 hB7
        rcases HTC.out with ⟨hte, hT⟩ | hte
        · obtain rfl : te = 0 := hte
          have hr := hT.right.2.2
          have ht4 := hT.to
          have hag := hT.again
          rw [show (0 : Int).toNat = 0 from rfl] at hag
          have TX := fun W => txt_any10 tv W
          rw [txtR10, hag] at TX
          have TX := Lib.hid TX
          have hsl := run_high10 x tp (by omega) hr
          have HSL := Lib.hid hsl
          generalize x.extract 0 tp.toNat = X at *
          have hp0 : 0 ≤ tp := by omega
          clear hag hT HTC hsl ht4
          go_wp2_with fail
          clear d0 d1 f0 f1
          generalize ((W7.setCell ⟨bC, 0, none⟩ (.string x)).setCell ⟨bC, 1, none⟩ (.int .i64 tp)) = W9 at *
          refine (TX.out _).mono ?_
          rintro e WA ⟨rfl, hb⟩
          have iDA := iD8.below hb iD8.lt
          have iCA := iC8.below hb iC8.lt
          have hBA := hB8.trans (hb.mono hB8.size)
          have d1 : WA.cell? ⟨bC, 1, none⟩ = some (.int .i64 tp) := iCA.cell 1
          have hsl := HSL.out
          have hno : ¬ (x.size : Int) < tp := by omega
          clear hb iD8 iC8 hB8
          go_wp2
          go_roundw
          case rel => exact ⟨j + 1, by omega, by go_num, iDA, hBA⟩
          case measure => simp [intOf]; omega
        · have h1 : ¬ te = 0 := hte
          clear HTC
          go_wp2
          go_roundw
          case rel => exact ⟨j + 1, by omega, by go_num, iD8, hB8⟩
          case measure => simp [intOf]; omega
      · clear HLC
        go_wp2_with fail
        generalize W5.alloc (.cells #[.string x, .int .i64 lp] 24) = W6 at *
        generalize W5.heap.size = bC at *
        clear hL5b
        have iD6 := iD5
        have iC6 := iC5
        have hB6 := hB5
        clear iD5 iC5 hB5
        refine (CT.out _).mono ?_
        rintro e W7 ⟨rfl, hb⟩
        have iD7 := iD6.below hb iD6.lt
        have iC7 := iC6.below hb iC6.lt
        have hB7 := hB6.trans (hb.mono hB6.size)
        have d0 : W7.cell? ⟨bC, 0, none⟩ = some (.string x) := iC7.cell 0
        have d1 : W7.cell? ⟨bC, 1, none⟩ = some (.int .i64 lp) := iC7.cell 1
        have f0 := iC7.frozen 0
        have f1 := iC7.frozen 1
        have hne : DD ≠ bC := is_neG iD6 iC6 (by decide)
        have iD8 : Is ((W7.setCell ⟨bC, 0, none⟩ (.string x)).setCell ⟨bC, 1, none⟩ (.int .i64 tp)) DD 9 #[.string a0, .string t, .string (t1 ++ m ++ t2)] := (iD7.far (p := ⟨bC, 0, none⟩) hne _).far (p := ⟨bC, 1, none⟩) hne _
        have iC8 : Is ((W7.setCell ⟨bC, 0, none⟩ (.string x)).setCell ⟨bC, 1, none⟩ (.int .i64 tp)) bC 24 #[.string x, .int .i64 tp] := (iC7.set 0 _).set 1 _
        have hB8 : Below w.heap.size w ((W7.setCell ⟨bC, 0, none⟩ (.string x)).setCell ⟨bC, 1, none⟩ (.int .i64 tp)) := (hB7.setCell (p := ⟨bC, 0, none⟩) HCw.out _).setCell (p := ⟨bC, 1, none⟩) HCw.out _
        clear hb iD6 iC6 hB6 iD7 iC7 hB7
        rcases HTC.out with ⟨hte, hT⟩ | hte
        · obtain rfl : te = 0 := hte
          have hr := hT.right.2.2
          have ht4 := hT.to
          have hag := hT.again
          rw [show (0 : Int).toNat = 0 from rfl] at hag
          have TX := fun W => txt_any10 tv W
          rw [txtR10, hag] at TX
          have TX := Lib.hid TX
          have hsl := run_high10 x tp (by omega) hr
          have HSL := Lib.hid hsl
          generalize x.extract 0 tp.toNat = X at *
          have hp0 : 0 ≤ tp := by omega
          clear hag hT HTC hsl ht4
          go_wp2_with fail
          clear d0 d1 f0 f1
          generalize ((W7.setCell ⟨bC, 0, none⟩ (.string x)).setCell ⟨bC, 1, none⟩ (.int .i64 tp)) = W9 at *
          refine (TX.out _).mono ?_
          rintro e WA ⟨rfl, hb⟩
          have iDA := iD8.below hb iD8.lt
          have iCA := iC8.below hb iC8.lt
          have hBA := hB8.trans (hb.mono hB8.size)
          have d1 : WA.cell? ⟨bC, 1, none⟩ = some (.int .i64 tp) := iCA.cell 1
          have hsl := HSL.out
          have hno : ¬ (x.size : Int) < tp := by omega
          clear hb iD8 iC8 hB8
          go_wp2
          go_roundw
          case rel => exact ⟨j + 1, by omega, by go_num, iDA, hBA⟩
          case measure => simp [intOf]; omega
        · have h1 : ¬ te = 0 := hte
          clear HTC
          go_wp2
          go_roundw
          case rel => exact ⟨j + 1, by omega, by go_num, iD8, hB8⟩
          case measure => simp [intOf]; omega
    · have q1 : ¬ (j : Int) < 3 := by omega
      go_wp2
      go_ret
      exact ⟨rfl, hB⟩
end Go.Proofs.Ytploljgamimlpaa
