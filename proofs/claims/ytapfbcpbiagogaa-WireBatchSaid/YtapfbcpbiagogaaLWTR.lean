/-
  WireBatch: the statement's drawn regions; two rows of texts side by side.
-/
import Derived.Test.YtapfbcpbiagogaaLWKR
import Derived.Maps.AppendAt
namespace Go.Proofs.Ytapfbcpbiagogaa
open Go.RowKit Go.Shelf

theorem own_ne11 {A B : Option Addr} {k c : Nat} (h : ∀ p q, A = some p → B = some q → p.block ≠ q.block) : ∀ q, B = some q → (Value.slice A k c).ownBlock ≠ some q.block := fun q hq => by
  cases A with
  | none => exact fun e => by cases e
  | some p => exact fun e => h p q rfl hq (Option.some.inj e)
theorem RowV.apart11 {W W' : World} {base n size c : Nat} {e : TypeId} {A : Option Addr} {xs : List Value} {row : Option Nat} (h : RowV W base e size A c n xs) (hg : W.grownBy W' row) (hr : ∀ p, A = some p → row ≠ some p.block) : RowV W' base e size A c n xs := by
  refine h.kept hg ?_
  cases A with
  | none => exact .inl rfl
  | some p => exact .inr fun e2 => hr p rfl e2.symm
theorem at_ne11 {A A3 AO : Option Addr} {n m c c3 N : Nat} (hat : (Value.slice A3 m c3).ownBlock = (Value.slice A n c).ownBlock ∨ (Value.slice A3 m c3).ownBlock = some N) (hne : ∀ p q, A = some p → AO = some q → p.block ≠ q.block) (hlt : ∀ q, AO = some q → q.block < N) : ∀ p q, A3 = some p → AO = some q → p.block ≠ q.block := fun p q hp hq => by
  subst hp
  rcases hat with e | e
  · cases A with
    | none => cases e
    | some p2 => have e2 := Option.some.inj e; rw [e2]; exact hne p2 q rfl hq
  · have e2 := Option.some.inj e
    have := hlt q hq
    rw [e2]; omega
set_option maxRecDepth 100000 in
set_option maxHeartbeats 4000000 in
theorem batch11_lab (w W0 : World) (DQ i nO c' cO : Nat) (A' AO : Option Addr) (k : Int) (s : ByteArray) (xs ys : List Value) (t0 : TypeInfo) (hi : Try.prog.info? 9 = some t0) (hz0 : t0.zero = some (.string ⟨#[]⟩)) (hz1 : t0.size = 1) (hz2 : t0.bytes = 16)
    (hwq : w.heap.size ≤ DQ) (hi9 : i < 1000) (QC : Hid (∀ W, Calls Try.prog 22 #[.int .i64 (i : Int)] W fun e w' => e = .returned (.string s) ∧ Below W.heap.size W w'))
    (hB : Below w.heap.size w W0) (iq : Is W0 DQ 26 #[.int .i64 k, .slice A' (i : Nat) c', .slice AO (nO : Nat) cO]) (hrow : RowV W0 w.heap.size 9 1 A' c' i xs) (hoth : RowV W0 w.heap.size 9 1 AO cO nO ys) (hne : ∀ p q, A' = some p → AO = some q → p.block ≠ q.block) (x0 x1 x2 x3 x4 x5 x6 x7 x8 x11 x12 x13 x14 x15 x16 x17 x18 x19 x20 x21 x22 x23 x24 x25 x26 x27 x28 x29 x30 x31 x32 x33 x34 x35 x36 x37 x38 x39 x40 x41 x42 x43 x44 x45 x46 x47 x48 x49 x50 x51 x52 x53 x54 x55 x56 x57 x58 x59 x60 x61 x62 x63 x64 x65 x66 x67 x68 x69 x70 x71 x72 x73 x74 x75 x76 x77 x78 x79 x80 x81 x82 x83 x84 x85 x86 x87 x88 x89 x90 x91 x92 x93 x94 x95 x96 x97 x98 x99 x100 x101 x102 x103 x104 x105 x106 x107 x108 x109 x110 x111 x112 x113 x114 x115 x116 x117 x118 x119 x120 x121 x122 : Value) :
    (Code.region 7 (opsOf Try.f5 7) true).wp Try.prog (fun ex YY W => ex = .normal ∧ YY.defers = [] ∧ ∃ (DP : Nat) (A3 : Option Addr) (c3 : Nat), YY.tmps = #[x0, x1, x2, x3, x4, x5, x6, x7, x8, .pointer (some ⟨DQ, 0, none⟩), .int .i64 (i : Int), x11, x12, x13, x14, x15, x16, x17, x18, x19, x20, x21, x22, x23, x24, x25, x26, x27, x28, .pointer (some ⟨DQ, 1, none⟩), .slice A' (i : Nat) c', .int .i64 (i : Int), .string s, .slice (some ⟨DP, 0, none⟩) 1 1, .slice A3 (i + 1) c3, .pointer (some ⟨DQ, 1, none⟩), x36, x37, x38, x39, x40, x41, x42, x43, x44, x45, x46, x47, x48, x49, x50, x51, x52, x53, x54, x55, x56, x57, x58, x59, x60, x61, x62, x63, x64, x65, x66, x67, x68, x69, x70, x71, x72, x73, x74, x75, x76, x77, x78, x79, x80, x81, x82, x83, x84, x85, x86, x87, x88, x89, x90, x91, x92, x93, x94, x95, x96, x97, x98, x99, x100, x101, x102, x103, x104, x105, x106, x107, x108, x109, x110, x111, x112, x113, x114, x115, x116, x117, x118, x119, x120, x121, x122] ∧ Below w.heap.size w W ∧ Is W DQ 26 #[.int .i64 k, .slice A3 (i + 1) c3, .slice AO (nO : Nat) cO] ∧ RowV W w.heap.size 9 1 A3 c3 (i + 1) (xs ++ [.string s]) ∧ RowV W w.heap.size 9 1 AO cO nO ys ∧ (∀ p q, A3 = some p → AO = some q → p.block ≠ q.block)) { tmps := #[x0, x1, x2, x3, x4, x5, x6, x7, x8, .pointer (some ⟨DQ, 0, none⟩), .int .i64 (i : Int), x11, x12, x13, x14, x15, x16, x17, x18, x19, x20, x21, x22, x23, x24, x25, x26, x27, x28, x29, x30, x31, x32, x33, x34, x35, x36, x37, x38, x39, x40, x41, x42, x43, x44, x45, x46, x47, x48, x49, x50, x51, x52, x53, x54, x55, x56, x57, x58, x59, x60, x61, x62, x63, x64, x65, x66, x67, x68, x69, x70, x71, x72, x73, x74, x75, x76, x77, x78, x79, x80, x81, x82, x83, x84, x85, x86, x87, x88, x89, x90, x91, x92, x93, x94, x95, x96, x97, x98, x99, x100, x101, x102, x103, x104, x105, x106, x107, x108, x109, x110, x111, x112, x113, x114, x115, x116, x117, x118, x119, x120, x121, x122], defers := [] } W0 := by
  replace hB : Below w.heap.size w (W0.drewN 1) := belowN hB 1
  replace iq := iq.drewN 1
  replace hrow := hrow.drewN 1
  replace hoth := hoth.drewN 1
  generalize hQ : (fun (ex : Exit) (YY : Act) (W : World) => ex = .normal ∧ YY.defers = [] ∧ ∃ (DP : Nat) (A3 : Option Addr) (c3 : Nat), YY.tmps = #[x0, x1, x2, x3, x4, x5, x6, x7, x8, .pointer (some ⟨DQ, 0, none⟩), .int .i64 (i : Int), x11, x12, x13, x14, x15, x16, x17, x18, x19, x20, x21, x22, x23, x24, x25, x26, x27, x28, .pointer (some ⟨DQ, 1, none⟩), .slice A' (i : Nat) c', .int .i64 (i : Int), .string s, .slice (some ⟨DP, 0, none⟩) 1 1, .slice A3 (i + 1) c3, .pointer (some ⟨DQ, 1, none⟩), x36, x37, x38, x39, x40, x41, x42, x43, x44, x45, x46, x47, x48, x49, x50, x51, x52, x53, x54, x55, x56, x57, x58, x59, x60, x61, x62, x63, x64, x65, x66, x67, x68, x69, x70, x71, x72, x73, x74, x75, x76, x77, x78, x79, x80, x81, x82, x83, x84, x85, x86, x87, x88, x89, x90, x91, x92, x93, x94, x95, x96, x97, x98, x99, x100, x101, x102, x103, x104, x105, x106, x107, x108, x109, x110, x111, x112, x113, x114, x115, x116, x117, x118, x119, x120, x121, x122] ∧ Below w.heap.size w W ∧ Is W DQ 26 #[.int .i64 k, .slice A3 (i + 1) c3, .slice AO (nO : Nat) cO] ∧ RowV W w.heap.size 9 1 A3 c3 (i + 1) (xs ++ [.string s]) ∧ RowV W w.heap.size 9 1 AO cO nO ys ∧ (∀ p q, A3 = some p → AO = some q → p.block ≠ q.block)) = Q
  have HQN : ∀ c a W, ¬ Q (.panic c) a W := fun c a W h => by subst hQ; exact nomatch h.1
  have ST1_3_4_5_7 : ∀ (W : World) (DP : Nat) (A3 : Option Addr) (c3 : Nat), Below w.heap.size w W → Is W DQ 26 #[.int .i64 k, .slice A3 (i + 1) c3, .slice AO (nO : Nat) cO] → RowV W w.heap.size 9 1 A3 c3 (i + 1) (xs ++ [.string s]) → RowV W w.heap.size 9 1 AO cO nO ys → (∀ p q, A3 = some p → AO = some q → p.block ≠ q.block) → wpAnyH Try.prog .any (opsOf Try.f5 7) Q (fun W => Below w.heap.size w W) 0 #[true, true, true, true, true, true, true, true] { tmps := #[x0, x1, x2, x3, x4, x5, x6, x7, x8, .pointer (some ⟨DQ, 0, none⟩), .int .i64 (i : Int), x11, x12, x13, x14, x15, x16, x17, x18, x19, x20, x21, x22, x23, x24, x25, x26, x27, x28, .pointer (some ⟨DQ, 1, none⟩), .slice A' (i : Nat) c', .int .i64 (i : Int), .string s, .slice (some ⟨DP, 0, none⟩) 1 1, .slice A3 (i + 1) c3, .pointer (some ⟨DQ, 1, none⟩), x36, x37, x38, x39, x40, x41, x42, x43, x44, x45, x46, x47, x48, x49, x50, x51, x52, x53, x54, x55, x56, x57, x58, x59, x60, x61, x62, x63, x64, x65, x66, x67, x68, x69, x70, x71, x72, x73, x74, x75, x76, x77, x78, x79, x80, x81, x82, x83, x84, x85, x86, x87, x88, x89, x90, x91, x92, x93, x94, x95, x96, x97, x98, x99, x100, x101, x102, x103, x104, x105, x106, x107, x108, x109, x110, x111, x112, x113, x114, x115, x116, x117, x118, x119, x120, x121, x122], defers := [] } W := by
    intro W DP A3 c3 hB iq2 hrow3 hoth hne3
    refine wpAnyH_done (by kernel_rfl) ?_ _
    subst hQ
    exact ⟨rfl, rfl, DP, A3, c3, rfl, hB, iq2, hrow3, hoth, hne3⟩
  have ST1_3_4_5 : ∀ (W : World) (DP : Nat) (A3 : Option Addr) (c3 : Nat), Below w.heap.size w W → Is W DQ 26 #[.int .i64 k, .slice A' (i : Nat) c', .slice AO (nO : Nat) cO] → RowV W w.heap.size 9 1 A3 c3 (i + 1) (xs ++ [.string s]) → RowV W w.heap.size 9 1 AO cO nO ys → (∀ p q, A3 = some p → AO = some q → p.block ≠ q.block) → wpAnyH Try.prog .any (opsOf Try.f5 7) Q (fun W => Below w.heap.size w W) 1 #[true, true, true, true, true, true, true, false] { tmps := #[x0, x1, x2, x3, x4, x5, x6, x7, x8, .pointer (some ⟨DQ, 0, none⟩), .int .i64 (i : Int), x11, x12, x13, x14, x15, x16, x17, x18, x19, x20, x21, x22, x23, x24, x25, x26, x27, x28, .pointer (some ⟨DQ, 1, none⟩), .slice A' (i : Nat) c', .int .i64 (i : Int), .string s, .slice (some ⟨DP, 0, none⟩) 1 1, .slice A3 (i + 1) c3, .pointer (some ⟨DQ, 1, none⟩), x36, x37, x38, x39, x40, x41, x42, x43, x44, x45, x46, x47, x48, x49, x50, x51, x52, x53, x54, x55, x56, x57, x58, x59, x60, x61, x62, x63, x64, x65, x66, x67, x68, x69, x70, x71, x72, x73, x74, x75, x76, x77, x78, x79, x80, x81, x82, x83, x84, x85, x86, x87, x88, x89, x90, x91, x92, x93, x94, x95, x96, x97, x98, x99, x100, x101, x102, x103, x104, x105, x106, x107, x108, x109, x110, x111, x112, x113, x114, x115, x116, x117, x118, x119, x120, x121, x122], defers := [] } W := by
    intro W DP A3 c3 hB iq hrow3 hoth hne3
    refine wpAnyH_ready (by kernel_rfl) (by simp) (AllReadyH.cons (i := 7) (at_nth rfl) ?_ (AllReadyH.nil))
    · have iq2 := iq.set 1 (.slice A3 (i + 1) c3)
      try simp only [List.setIfInBounds_toArray, List.set_cons_succ, List.set_cons_zero] at iq2
      have fz := iq.frozen 1
      have cz : W.cell? ⟨DQ, 1, none⟩ = some (.slice A' (i : Nat) c') := iq.cell 1
      replace hrow3 := hrow3.far (p := ⟨DQ, 1, none⟩) iq ne_rq11 (.slice A3 (i + 1) c3)
      replace hoth := hoth.far (p := ⟨DQ, 1, none⟩) iq ne_rq11 (.slice A3 (i + 1) c3)
      have hB2 := hB.setCell (p := ⟨DQ, 1, none⟩) hwq (.slice A3 (i + 1) c3)
      refine arm10_skip (w' := W.setCell ⟨DQ, 1, none⟩ (.slice A3 (i + 1) c3)) (by kernel_rfl) (by go_simp) hB2 ?_
      try simp only [Act.put]
      replace hB := hB2
      clear iq fz cz
      exact ST1_3_4_5_7 _ _ _ _ hB iq2 hrow3 hoth hne3
  have ST1_3_4 : ∀ (W : World) (DP : Nat), Below w.heap.size w W → Is W DQ 26 #[.int .i64 k, .slice A' (i : Nat) c', .slice AO (nO : Nat) cO] → RowV W w.heap.size 9 1 A' c' i xs → RowV W w.heap.size 9 1 AO cO nO ys → (∀ p q, A' = some p → AO = some q → p.block ≠ q.block) → Is W DP 9 #[.string s] → wpAnyH Try.prog .any (opsOf Try.f5 7) Q (fun W => Below w.heap.size w W) 3 #[true, true, true, true, true, false, false, false] { tmps := #[x0, x1, x2, x3, x4, x5, x6, x7, x8, .pointer (some ⟨DQ, 0, none⟩), .int .i64 (i : Int), x11, x12, x13, x14, x15, x16, x17, x18, x19, x20, x21, x22, x23, x24, x25, x26, x27, x28, .pointer (some ⟨DQ, 1, none⟩), .slice A' (i : Nat) c', .int .i64 (i : Int), .string s, .slice (some ⟨DP, 0, none⟩) 1 1, x34, x35, x36, x37, x38, x39, x40, x41, x42, x43, x44, x45, x46, x47, x48, x49, x50, x51, x52, x53, x54, x55, x56, x57, x58, x59, x60, x61, x62, x63, x64, x65, x66, x67, x68, x69, x70, x71, x72, x73, x74, x75, x76, x77, x78, x79, x80, x81, x82, x83, x84, x85, x86, x87, x88, x89, x90, x91, x92, x93, x94, x95, x96, x97, x98, x99, x100, x101, x102, x103, x104, x105, x106, x107, x108, x109, x110, x111, x112, x113, x114, x115, x116, x117, x118, x119, x120, x121, x122], defers := [] } W := by
    intro W DP hB iq hrow hoth hne iP
    refine wpAnyH_ready (by kernel_rfl) (by simp) (AllReadyH.cons (i := 5) (at_nth rfl) ?_ (AllReadyH.nil))
    · obtain ⟨v', W3, hrun, hown, hgr, _, hat⟩ := run_append_own_at (P := Try.prog) W w.heap.size 24 24 9 t0 (.string ⟨#[]⟩) 1 16 Try.underlying24 hi hz0 hz1 hz2 rfl (by decide) (.slice A' i c') i _ hrow ⟨DP, 0, none⟩ 1 1 [.string s] rfl (fun j u hj => by (cases j with | zero => (cases hj; rw [Addr.add_lit]; exact iP.cell 0) | succ j => cases hj)) (fun u hu => by rw [List.mem_singleton] at hu; subst hu; rfl) (by unfold maxLen; omega) (by omega) hB.size
      obtain ⟨A3, c3, rfl⟩ := owns_sliceG hown
      replace iq := hrow.isFar hgr iq ne_rq11
      have hne3 : ∀ p q, A3 = some p → AO = some q → p.block ≠ q.block := at_ne11 hat hne (fun q e => (World.ownsRow.lt hoth q.block (by rw [e]; rfl)).2)
      replace hoth := hoth.apart11 hgr (fun q e => own_ne11 hne q e)
      replace hB := hrow.belowG hB hgr
      have hrow3 : RowV W3 w.heap.size 9 1 A3 c3 (i + 1) (xs ++ [.string s]) := hown
      have HRUN := Lib.hid hrun
      clear hrun hown hgr iP hrow hne hat
      refine arm10_value (v := .slice A3 (i + 1) c3) (w' := W3) (by kernel_rfl) (exec_append10 rfl rfl rfl HRUN.out) hB ?_
      simp only [Act.put, List.setIfInBounds_toArray, List.set_cons_succ, List.set_cons_zero]
      refine wpAnyH_pure (i := 6) (v := .pointer (some ⟨DQ, 1, none⟩)) (at_nth rfl) (by kernel_rfl) (by kernel_rfl) (by kernel_rfl) (fun _ _ _ h => absurd h (HQN _ _ _)) (by kernel_rfl) (fun w hSw => by go_simp) hB ?_
      simp only [Act.put, List.setIfInBounds_toArray, List.set_cons_succ, List.set_cons_zero]
      exact ST1_3_4_5 _ _ _ _ hB iq hrow3 hoth hne3
  have ST1_3 : ∀ (W : World), Below w.heap.size w W → Is W DQ 26 #[.int .i64 k, .slice A' (i : Nat) c', .slice AO (nO : Nat) cO] → RowV W w.heap.size 9 1 A' c' i xs → RowV W w.heap.size 9 1 AO cO nO ys → (∀ p q, A' = some p → AO = some q → p.block ≠ q.block) → wpAnyH Try.prog .any (opsOf Try.f5 7) Q (fun W => Below w.heap.size w W) 4 #[true, true, true, true, false, false, false, false] { tmps := #[x0, x1, x2, x3, x4, x5, x6, x7, x8, .pointer (some ⟨DQ, 0, none⟩), .int .i64 (i : Int), x11, x12, x13, x14, x15, x16, x17, x18, x19, x20, x21, x22, x23, x24, x25, x26, x27, x28, .pointer (some ⟨DQ, 1, none⟩), .slice A' (i : Nat) c', .int .i64 (i : Int), .string s, x33, x34, x35, x36, x37, x38, x39, x40, x41, x42, x43, x44, x45, x46, x47, x48, x49, x50, x51, x52, x53, x54, x55, x56, x57, x58, x59, x60, x61, x62, x63, x64, x65, x66, x67, x68, x69, x70, x71, x72, x73, x74, x75, x76, x77, x78, x79, x80, x81, x82, x83, x84, x85, x86, x87, x88, x89, x90, x91, x92, x93, x94, x95, x96, x97, x98, x99, x100, x101, x102, x103, x104, x105, x106, x107, x108, x109, x110, x111, x112, x113, x114, x115, x116, x117, x118, x119, x120, x121, x122], defers := [] } W := by
    intro W hB iq hrow hoth hne
    refine wpAnyH_ready (by kernel_rfl) (by simp) (AllReadyH.cons (i := 4) (at_nth rfl) ?_ (AllReadyH.nil))
    · have iP := Is.new W 9 #[.string s]
      replace iq := iq.alloc (.cells #[.string s] 9)
      replace hrow := hrow.alloc (.cells #[.string s] 9)
      replace hoth := hoth.alloc (.cells #[.string s] 9)
      replace hB := hB.alloc hB.size (.cells #[.string s] 9)
      refine arm10_value (v := .slice (some ⟨W.heap.size, 0, none⟩) 1 1) (w' := W.alloc (.cells #[.string s] 9)) (by kernel_rfl) (by go_simp) hB ?_
      simp only [Act.put, List.setIfInBounds_toArray, List.set_cons_succ, List.set_cons_zero]
      exact ST1_3_4 _ _ hB iq hrow hoth hne iP
  have ST1 : ∀ (W : World), Below w.heap.size w W → Is W DQ 26 #[.int .i64 k, .slice A' (i : Nat) c', .slice AO (nO : Nat) cO] → RowV W w.heap.size 9 1 A' c' i xs → RowV W w.heap.size 9 1 AO cO nO ys → (∀ p q, A' = some p → AO = some q → p.block ≠ q.block) → wpAnyH Try.prog .any (opsOf Try.f5 7) Q (fun W => Below w.heap.size w W) 5 #[true, true, true, false, false, false, false, false] { tmps := #[x0, x1, x2, x3, x4, x5, x6, x7, x8, .pointer (some ⟨DQ, 0, none⟩), .int .i64 (i : Int), x11, x12, x13, x14, x15, x16, x17, x18, x19, x20, x21, x22, x23, x24, x25, x26, x27, x28, .pointer (some ⟨DQ, 1, none⟩), .slice A' (i : Nat) c', .int .i64 (i : Int), x32, x33, x34, x35, x36, x37, x38, x39, x40, x41, x42, x43, x44, x45, x46, x47, x48, x49, x50, x51, x52, x53, x54, x55, x56, x57, x58, x59, x60, x61, x62, x63, x64, x65, x66, x67, x68, x69, x70, x71, x72, x73, x74, x75, x76, x77, x78, x79, x80, x81, x82, x83, x84, x85, x86, x87, x88, x89, x90, x91, x92, x93, x94, x95, x96, x97, x98, x99, x100, x101, x102, x103, x104, x105, x106, x107, x108, x109, x110, x111, x112, x113, x114, x115, x116, x117, x118, x119, x120, x121, x122], defers := [] } W := by
    intro W hB iq hrow hoth hne
    refine wpAnyH_ready (by kernel_rfl) (by simp) (AllReadyH.cons (i := 3) (at_nth rfl) ?_ (AllReadyH.nil))
    · refine arm10_call (by kernel_rfl) (fun wy => by kernel_rfl) ((QC.out _).mono ?_)
      rintro e Wn ⟨rfl, hb⟩
      replace iq := iq.below hb iq.lt
      replace hrow := hrow.below hb
      replace hoth := hoth.below hb
      replace hB := hB.trans (hb.mono hB.size)
      clear hb
      refine ⟨_, rfl, hB, ?_⟩
      simp only [Act.put, List.setIfInBounds_toArray, List.set_cons_succ, List.set_cons_zero]
      exact ST1_3 _ hB iq hrow hoth hne
  have ST3_4 : ∀ (W : World) (DP : Nat), Below w.heap.size w W → Is W DQ 26 #[.int .i64 k, .slice A' (i : Nat) c', .slice AO (nO : Nat) cO] → RowV W w.heap.size 9 1 A' c' i xs → RowV W w.heap.size 9 1 AO cO nO ys → (∀ p q, A' = some p → AO = some q → p.block ≠ q.block) → Is W DP 9 #[.string s] → wpAnyH Try.prog .any (opsOf Try.f5 7) Q (fun W => Below w.heap.size w W) 4 #[true, false, true, true, true, false, false, false] { tmps := #[x0, x1, x2, x3, x4, x5, x6, x7, x8, .pointer (some ⟨DQ, 0, none⟩), .int .i64 (i : Int), x11, x12, x13, x14, x15, x16, x17, x18, x19, x20, x21, x22, x23, x24, x25, x26, x27, x28, .pointer (some ⟨DQ, 1, none⟩), x30, .int .i64 (i : Int), .string s, .slice (some ⟨DP, 0, none⟩) 1 1, x34, x35, x36, x37, x38, x39, x40, x41, x42, x43, x44, x45, x46, x47, x48, x49, x50, x51, x52, x53, x54, x55, x56, x57, x58, x59, x60, x61, x62, x63, x64, x65, x66, x67, x68, x69, x70, x71, x72, x73, x74, x75, x76, x77, x78, x79, x80, x81, x82, x83, x84, x85, x86, x87, x88, x89, x90, x91, x92, x93, x94, x95, x96, x97, x98, x99, x100, x101, x102, x103, x104, x105, x106, x107, x108, x109, x110, x111, x112, x113, x114, x115, x116, x117, x118, x119, x120, x121, x122], defers := [] } W := by
    intro W DP hB iq hrow hoth hne iP
    refine wpAnyH_ready (by kernel_rfl) (by simp) (AllReadyH.cons (i := 1) (at_nth rfl) ?_ (AllReadyH.nil))
    · have c2 : W.cell? ⟨DQ, 1, none⟩ = some (.slice A' (i : Nat) c') := iq.cell 1
      refine arm10_value (v := .slice A' (i : Nat) c') (w' := W) (by kernel_rfl) (by go_simp) hB ?_
      simp only [Act.put, List.setIfInBounds_toArray, List.set_cons_succ, List.set_cons_zero]
      clear c2
      exact ST1_3_4 _ _ hB iq hrow hoth hne iP
  have ST3 : ∀ (W : World), Below w.heap.size w W → Is W DQ 26 #[.int .i64 k, .slice A' (i : Nat) c', .slice AO (nO : Nat) cO] → RowV W w.heap.size 9 1 A' c' i xs → RowV W w.heap.size 9 1 AO cO nO ys → (∀ p q, A' = some p → AO = some q → p.block ≠ q.block) → wpAnyH Try.prog .any (opsOf Try.f5 7) Q (fun W => Below w.heap.size w W) 5 #[true, false, true, true, false, false, false, false] { tmps := #[x0, x1, x2, x3, x4, x5, x6, x7, x8, .pointer (some ⟨DQ, 0, none⟩), .int .i64 (i : Int), x11, x12, x13, x14, x15, x16, x17, x18, x19, x20, x21, x22, x23, x24, x25, x26, x27, x28, .pointer (some ⟨DQ, 1, none⟩), x30, .int .i64 (i : Int), .string s, x33, x34, x35, x36, x37, x38, x39, x40, x41, x42, x43, x44, x45, x46, x47, x48, x49, x50, x51, x52, x53, x54, x55, x56, x57, x58, x59, x60, x61, x62, x63, x64, x65, x66, x67, x68, x69, x70, x71, x72, x73, x74, x75, x76, x77, x78, x79, x80, x81, x82, x83, x84, x85, x86, x87, x88, x89, x90, x91, x92, x93, x94, x95, x96, x97, x98, x99, x100, x101, x102, x103, x104, x105, x106, x107, x108, x109, x110, x111, x112, x113, x114, x115, x116, x117, x118, x119, x120, x121, x122], defers := [] } W := by
    intro W hB iq hrow hoth hne
    refine wpAnyH_ready (by kernel_rfl) (by simp) (AllReadyH.cons (i := 1) (at_nth rfl) ?_ (AllReadyH.cons (i := 4) (at_nth rfl) ?_ (AllReadyH.nil)))
    · have c2 : W.cell? ⟨DQ, 1, none⟩ = some (.slice A' (i : Nat) c') := iq.cell 1
      refine arm10_value (v := .slice A' (i : Nat) c') (w' := W) (by kernel_rfl) (by go_simp) hB ?_
      simp only [Act.put, List.setIfInBounds_toArray, List.set_cons_succ, List.set_cons_zero]
      clear c2
      exact ST1_3 _ hB iq hrow hoth hne
    · have iP := Is.new W 9 #[.string s]
      replace iq := iq.alloc (.cells #[.string s] 9)
      replace hrow := hrow.alloc (.cells #[.string s] 9)
      replace hoth := hoth.alloc (.cells #[.string s] 9)
      replace hB := hB.alloc hB.size (.cells #[.string s] 9)
      refine arm10_value (v := .slice (some ⟨W.heap.size, 0, none⟩) 1 1) (w' := W.alloc (.cells #[.string s] 9)) (by kernel_rfl) (by go_simp) hB ?_
      simp only [Act.put, List.setIfInBounds_toArray, List.set_cons_succ, List.set_cons_zero]
      exact ST3_4 _ _ hB iq hrow hoth hne iP
  have ST : ∀ (W : World), Below w.heap.size w W → Is W DQ 26 #[.int .i64 k, .slice A' (i : Nat) c', .slice AO (nO : Nat) cO] → RowV W w.heap.size 9 1 A' c' i xs → RowV W w.heap.size 9 1 AO cO nO ys → (∀ p q, A' = some p → AO = some q → p.block ≠ q.block) → wpAnyH Try.prog .any (opsOf Try.f5 7) Q (fun W => Below w.heap.size w W) 6 #[true, false, true, false, false, false, false, false] { tmps := #[x0, x1, x2, x3, x4, x5, x6, x7, x8, .pointer (some ⟨DQ, 0, none⟩), .int .i64 (i : Int), x11, x12, x13, x14, x15, x16, x17, x18, x19, x20, x21, x22, x23, x24, x25, x26, x27, x28, .pointer (some ⟨DQ, 1, none⟩), x30, .int .i64 (i : Int), x32, x33, x34, x35, x36, x37, x38, x39, x40, x41, x42, x43, x44, x45, x46, x47, x48, x49, x50, x51, x52, x53, x54, x55, x56, x57, x58, x59, x60, x61, x62, x63, x64, x65, x66, x67, x68, x69, x70, x71, x72, x73, x74, x75, x76, x77, x78, x79, x80, x81, x82, x83, x84, x85, x86, x87, x88, x89, x90, x91, x92, x93, x94, x95, x96, x97, x98, x99, x100, x101, x102, x103, x104, x105, x106, x107, x108, x109, x110, x111, x112, x113, x114, x115, x116, x117, x118, x119, x120, x121, x122], defers := [] } W := by
    intro W hB iq hrow hoth hne
    refine wpAnyH_ready (by kernel_rfl) (by simp) (AllReadyH.cons (i := 1) (at_nth rfl) ?_ (AllReadyH.cons (i := 3) (at_nth rfl) ?_ (AllReadyH.nil)))
    · have c2 : W.cell? ⟨DQ, 1, none⟩ = some (.slice A' (i : Nat) c') := iq.cell 1
      refine arm10_value (v := .slice A' (i : Nat) c') (w' := W) (by kernel_rfl) (by go_simp) hB ?_
      simp only [Act.put, List.setIfInBounds_toArray, List.set_cons_succ, List.set_cons_zero]
      clear c2
      exact ST1 _ hB iq hrow hoth hne
    · refine arm10_call (by kernel_rfl) (fun wy => by kernel_rfl) ((QC.out _).mono ?_)
      rintro e Wn ⟨rfl, hb⟩
      replace iq := iq.below hb iq.lt
      replace hrow := hrow.below hb
      replace hoth := hoth.below hb
      replace hB := hB.trans (hb.mono hB.size)
      clear hb
      refine ⟨_, rfl, hB, ?_⟩
      simp only [Act.put, List.setIfInBounds_toArray, List.set_cons_succ, List.set_cons_zero]
      exact ST3 _ hB iq hrow hoth hne
  refine wp_region_held_drew (S := fun W => Below w.heap.size w W) (by kernel_rfl) hB (fun hS => ?_)
  change wpAnyH _ _ (opsOf Try.f5 7) _ _ 8 (Array.replicate 8 false) _ (W0.drewN 1)
  clear hS
  refine wpAnyH_pure (i := 0) (v := .pointer (some ⟨DQ, 1, none⟩)) (at_nth rfl) (by kernel_rfl) (by kernel_rfl) (by kernel_rfl) (fun _ _ _ h => absurd h (HQN _ _ _)) (by kernel_rfl) (fun w hSw => by go_simp) hB ?_
  simp only [Act.put, List.setIfInBounds_toArray, List.set_cons_succ, List.set_cons_zero]
  refine wpAnyH_pure (i := 2) (v := .int .i64 (i : Int)) (at_nth rfl) (by kernel_rfl) (by kernel_rfl) (by kernel_rfl) (fun _ _ _ h => absurd h (HQN _ _ _)) (by kernel_rfl) (fun w hSw => by kernel_rfl) hB ?_
  simp only [Act.put, List.setIfInBounds_toArray, List.set_cons_succ, List.set_cons_zero]
  exact ST _ hB iq hrow hoth hne

set_option maxRecDepth 100000 in
set_option maxHeartbeats 4000000 in
theorem batch11_cel (w W0 : World) (DQ i nO c' cO : Nat) (A' AO : Option Addr) (k : Int) (s : ByteArray) (xs ys : List Value) (t0 : TypeInfo) (hi : Try.prog.info? 9 = some t0) (hz0 : t0.zero = some (.string ⟨#[]⟩)) (hz1 : t0.size = 1) (hz2 : t0.bytes = 16)
    (hwq : w.heap.size ≤ DQ) (hi9 : i < 1000) (QC : Hid (∀ W, Calls Try.prog 23 #[.int .i64 (i : Int)] W fun e w' => e = .returned (.string s) ∧ Below W.heap.size W w'))
    (hB : Below w.heap.size w W0) (iq : Is W0 DQ 26 #[.int .i64 k, .slice AO (nO : Nat) cO, .slice A' (i : Nat) c']) (hrow : RowV W0 w.heap.size 9 1 A' c' i xs) (hoth : RowV W0 w.heap.size 9 1 AO cO nO ys) (hne : ∀ p q, A' = some p → AO = some q → p.block ≠ q.block) (x0 x1 x2 x3 x4 x5 x6 x7 x8 x11 x12 x13 x14 x15 x16 x17 x18 x19 x20 x21 x22 x23 x24 x25 x26 x27 x28 x29 x30 x31 x32 x33 x34 x35 x36 x37 x38 x39 x40 x41 x42 x43 x44 x45 x46 x47 x48 x49 x50 x51 x52 x53 x54 x55 x56 x57 x58 x59 x60 x61 x62 x63 x64 x65 x66 x67 x68 x69 x70 x71 x72 x73 x74 x75 x76 x77 x78 x79 x80 x81 x82 x83 x84 x85 x86 x87 x88 x89 x90 x91 x92 x93 x94 x95 x96 x97 x98 x99 x100 x101 x102 x103 x104 x105 x106 x107 x108 x109 x110 x111 x112 x113 x114 x115 x116 x117 x118 x119 x120 x121 x122 : Value) :
    (Code.region 9 (opsOf Try.f5 9) true).wp Try.prog (fun ex YY W => ex = .normal ∧ YY.defers = [] ∧ ∃ (DP : Nat) (A3 : Option Addr) (c3 : Nat), YY.tmps = #[x0, x1, x2, x3, x4, x5, x6, x7, x8, .pointer (some ⟨DQ, 0, none⟩), .int .i64 (i : Int), x11, x12, x13, x14, x15, x16, x17, x18, x19, x20, x21, x22, x23, x24, x25, x26, x27, x28, x29, x30, x31, x32, x33, x34, x35, x36, x37, x38, .pointer (some ⟨DQ, 2, none⟩), .slice A' (i : Nat) c', .int .i64 (i : Int), .string s, .slice (some ⟨DP, 0, none⟩) 1 1, .slice A3 (i + 1) c3, .pointer (some ⟨DQ, 2, none⟩), x46, x47, x48, x49, x50, x51, x52, x53, x54, x55, x56, x57, x58, x59, x60, x61, x62, x63, x64, x65, x66, x67, x68, x69, x70, x71, x72, x73, x74, x75, x76, x77, x78, x79, x80, x81, x82, x83, x84, x85, x86, x87, x88, x89, x90, x91, x92, x93, x94, x95, x96, x97, x98, x99, x100, x101, x102, x103, x104, x105, x106, x107, x108, x109, x110, x111, x112, x113, x114, x115, x116, x117, x118, x119, x120, x121, x122] ∧ Below w.heap.size w W ∧ Is W DQ 26 #[.int .i64 k, .slice AO (nO : Nat) cO, .slice A3 (i + 1) c3] ∧ RowV W w.heap.size 9 1 A3 c3 (i + 1) (xs ++ [.string s]) ∧ RowV W w.heap.size 9 1 AO cO nO ys ∧ (∀ p q, A3 = some p → AO = some q → p.block ≠ q.block)) { tmps := #[x0, x1, x2, x3, x4, x5, x6, x7, x8, .pointer (some ⟨DQ, 0, none⟩), .int .i64 (i : Int), x11, x12, x13, x14, x15, x16, x17, x18, x19, x20, x21, x22, x23, x24, x25, x26, x27, x28, x29, x30, x31, x32, x33, x34, x35, x36, x37, x38, x39, x40, x41, x42, x43, x44, x45, x46, x47, x48, x49, x50, x51, x52, x53, x54, x55, x56, x57, x58, x59, x60, x61, x62, x63, x64, x65, x66, x67, x68, x69, x70, x71, x72, x73, x74, x75, x76, x77, x78, x79, x80, x81, x82, x83, x84, x85, x86, x87, x88, x89, x90, x91, x92, x93, x94, x95, x96, x97, x98, x99, x100, x101, x102, x103, x104, x105, x106, x107, x108, x109, x110, x111, x112, x113, x114, x115, x116, x117, x118, x119, x120, x121, x122], defers := [] } W0 := by
  replace hB : Below w.heap.size w (W0.drewN 1) := belowN hB 1
  replace iq := iq.drewN 1
  replace hrow := hrow.drewN 1
  replace hoth := hoth.drewN 1
  generalize hQ : (fun (ex : Exit) (YY : Act) (W : World) => ex = .normal ∧ YY.defers = [] ∧ ∃ (DP : Nat) (A3 : Option Addr) (c3 : Nat), YY.tmps = #[x0, x1, x2, x3, x4, x5, x6, x7, x8, .pointer (some ⟨DQ, 0, none⟩), .int .i64 (i : Int), x11, x12, x13, x14, x15, x16, x17, x18, x19, x20, x21, x22, x23, x24, x25, x26, x27, x28, x29, x30, x31, x32, x33, x34, x35, x36, x37, x38, .pointer (some ⟨DQ, 2, none⟩), .slice A' (i : Nat) c', .int .i64 (i : Int), .string s, .slice (some ⟨DP, 0, none⟩) 1 1, .slice A3 (i + 1) c3, .pointer (some ⟨DQ, 2, none⟩), x46, x47, x48, x49, x50, x51, x52, x53, x54, x55, x56, x57, x58, x59, x60, x61, x62, x63, x64, x65, x66, x67, x68, x69, x70, x71, x72, x73, x74, x75, x76, x77, x78, x79, x80, x81, x82, x83, x84, x85, x86, x87, x88, x89, x90, x91, x92, x93, x94, x95, x96, x97, x98, x99, x100, x101, x102, x103, x104, x105, x106, x107, x108, x109, x110, x111, x112, x113, x114, x115, x116, x117, x118, x119, x120, x121, x122] ∧ Below w.heap.size w W ∧ Is W DQ 26 #[.int .i64 k, .slice AO (nO : Nat) cO, .slice A3 (i + 1) c3] ∧ RowV W w.heap.size 9 1 A3 c3 (i + 1) (xs ++ [.string s]) ∧ RowV W w.heap.size 9 1 AO cO nO ys ∧ (∀ p q, A3 = some p → AO = some q → p.block ≠ q.block)) = Q
  have HQN : ∀ c a W, ¬ Q (.panic c) a W := fun c a W h => by subst hQ; exact nomatch h.1
  have ST1_3_4_5_7 : ∀ (W : World) (DP : Nat) (A3 : Option Addr) (c3 : Nat), Below w.heap.size w W → Is W DQ 26 #[.int .i64 k, .slice AO (nO : Nat) cO, .slice A3 (i + 1) c3] → RowV W w.heap.size 9 1 A3 c3 (i + 1) (xs ++ [.string s]) → RowV W w.heap.size 9 1 AO cO nO ys → (∀ p q, A3 = some p → AO = some q → p.block ≠ q.block) → wpAnyH Try.prog .any (opsOf Try.f5 9) Q (fun W => Below w.heap.size w W) 0 #[true, true, true, true, true, true, true, true] { tmps := #[x0, x1, x2, x3, x4, x5, x6, x7, x8, .pointer (some ⟨DQ, 0, none⟩), .int .i64 (i : Int), x11, x12, x13, x14, x15, x16, x17, x18, x19, x20, x21, x22, x23, x24, x25, x26, x27, x28, x29, x30, x31, x32, x33, x34, x35, x36, x37, x38, .pointer (some ⟨DQ, 2, none⟩), .slice A' (i : Nat) c', .int .i64 (i : Int), .string s, .slice (some ⟨DP, 0, none⟩) 1 1, .slice A3 (i + 1) c3, .pointer (some ⟨DQ, 2, none⟩), x46, x47, x48, x49, x50, x51, x52, x53, x54, x55, x56, x57, x58, x59, x60, x61, x62, x63, x64, x65, x66, x67, x68, x69, x70, x71, x72, x73, x74, x75, x76, x77, x78, x79, x80, x81, x82, x83, x84, x85, x86, x87, x88, x89, x90, x91, x92, x93, x94, x95, x96, x97, x98, x99, x100, x101, x102, x103, x104, x105, x106, x107, x108, x109, x110, x111, x112, x113, x114, x115, x116, x117, x118, x119, x120, x121, x122], defers := [] } W := by
    intro W DP A3 c3 hB iq2 hrow3 hoth hne3
    refine wpAnyH_done (by kernel_rfl) ?_ _
    subst hQ
    exact ⟨rfl, rfl, DP, A3, c3, rfl, hB, iq2, hrow3, hoth, hne3⟩
  have ST1_3_4_5 : ∀ (W : World) (DP : Nat) (A3 : Option Addr) (c3 : Nat), Below w.heap.size w W → Is W DQ 26 #[.int .i64 k, .slice AO (nO : Nat) cO, .slice A' (i : Nat) c'] → RowV W w.heap.size 9 1 A3 c3 (i + 1) (xs ++ [.string s]) → RowV W w.heap.size 9 1 AO cO nO ys → (∀ p q, A3 = some p → AO = some q → p.block ≠ q.block) → wpAnyH Try.prog .any (opsOf Try.f5 9) Q (fun W => Below w.heap.size w W) 1 #[true, true, true, true, true, true, true, false] { tmps := #[x0, x1, x2, x3, x4, x5, x6, x7, x8, .pointer (some ⟨DQ, 0, none⟩), .int .i64 (i : Int), x11, x12, x13, x14, x15, x16, x17, x18, x19, x20, x21, x22, x23, x24, x25, x26, x27, x28, x29, x30, x31, x32, x33, x34, x35, x36, x37, x38, .pointer (some ⟨DQ, 2, none⟩), .slice A' (i : Nat) c', .int .i64 (i : Int), .string s, .slice (some ⟨DP, 0, none⟩) 1 1, .slice A3 (i + 1) c3, .pointer (some ⟨DQ, 2, none⟩), x46, x47, x48, x49, x50, x51, x52, x53, x54, x55, x56, x57, x58, x59, x60, x61, x62, x63, x64, x65, x66, x67, x68, x69, x70, x71, x72, x73, x74, x75, x76, x77, x78, x79, x80, x81, x82, x83, x84, x85, x86, x87, x88, x89, x90, x91, x92, x93, x94, x95, x96, x97, x98, x99, x100, x101, x102, x103, x104, x105, x106, x107, x108, x109, x110, x111, x112, x113, x114, x115, x116, x117, x118, x119, x120, x121, x122], defers := [] } W := by
    intro W DP A3 c3 hB iq hrow3 hoth hne3
    refine wpAnyH_ready (by kernel_rfl) (by simp) (AllReadyH.cons (i := 7) (at_nth rfl) ?_ (AllReadyH.nil))
    · have iq2 := iq.set 2 (.slice A3 (i + 1) c3)
      try simp only [List.setIfInBounds_toArray, List.set_cons_succ, List.set_cons_zero] at iq2
      have fz := iq.frozen 2
      have cz : W.cell? ⟨DQ, 2, none⟩ = some (.slice A' (i : Nat) c') := iq.cell 2
      replace hrow3 := hrow3.far (p := ⟨DQ, 2, none⟩) iq ne_rq11 (.slice A3 (i + 1) c3)
      replace hoth := hoth.far (p := ⟨DQ, 2, none⟩) iq ne_rq11 (.slice A3 (i + 1) c3)
      have hB2 := hB.setCell (p := ⟨DQ, 2, none⟩) hwq (.slice A3 (i + 1) c3)
      refine arm10_skip (w' := W.setCell ⟨DQ, 2, none⟩ (.slice A3 (i + 1) c3)) (by kernel_rfl) (by go_simp) hB2 ?_
      try simp only [Act.put]
      replace hB := hB2
      clear iq fz cz
      exact ST1_3_4_5_7 _ _ _ _ hB iq2 hrow3 hoth hne3
  have ST1_3_4 : ∀ (W : World) (DP : Nat), Below w.heap.size w W → Is W DQ 26 #[.int .i64 k, .slice AO (nO : Nat) cO, .slice A' (i : Nat) c'] → RowV W w.heap.size 9 1 A' c' i xs → RowV W w.heap.size 9 1 AO cO nO ys → (∀ p q, A' = some p → AO = some q → p.block ≠ q.block) → Is W DP 9 #[.string s] → wpAnyH Try.prog .any (opsOf Try.f5 9) Q (fun W => Below w.heap.size w W) 3 #[true, true, true, true, true, false, false, false] { tmps := #[x0, x1, x2, x3, x4, x5, x6, x7, x8, .pointer (some ⟨DQ, 0, none⟩), .int .i64 (i : Int), x11, x12, x13, x14, x15, x16, x17, x18, x19, x20, x21, x22, x23, x24, x25, x26, x27, x28, x29, x30, x31, x32, x33, x34, x35, x36, x37, x38, .pointer (some ⟨DQ, 2, none⟩), .slice A' (i : Nat) c', .int .i64 (i : Int), .string s, .slice (some ⟨DP, 0, none⟩) 1 1, x44, x45, x46, x47, x48, x49, x50, x51, x52, x53, x54, x55, x56, x57, x58, x59, x60, x61, x62, x63, x64, x65, x66, x67, x68, x69, x70, x71, x72, x73, x74, x75, x76, x77, x78, x79, x80, x81, x82, x83, x84, x85, x86, x87, x88, x89, x90, x91, x92, x93, x94, x95, x96, x97, x98, x99, x100, x101, x102, x103, x104, x105, x106, x107, x108, x109, x110, x111, x112, x113, x114, x115, x116, x117, x118, x119, x120, x121, x122], defers := [] } W := by
    intro W DP hB iq hrow hoth hne iP
    refine wpAnyH_ready (by kernel_rfl) (by simp) (AllReadyH.cons (i := 5) (at_nth rfl) ?_ (AllReadyH.nil))
    · obtain ⟨v', W3, hrun, hown, hgr, _, hat⟩ := run_append_own_at (P := Try.prog) W w.heap.size 24 24 9 t0 (.string ⟨#[]⟩) 1 16 Try.underlying24 hi hz0 hz1 hz2 rfl (by decide) (.slice A' i c') i _ hrow ⟨DP, 0, none⟩ 1 1 [.string s] rfl (fun j u hj => by (cases j with | zero => (cases hj; rw [Addr.add_lit]; exact iP.cell 0) | succ j => cases hj)) (fun u hu => by rw [List.mem_singleton] at hu; subst hu; rfl) (by unfold maxLen; omega) (by omega) hB.size
      obtain ⟨A3, c3, rfl⟩ := owns_sliceG hown
      replace iq := hrow.isFar hgr iq ne_rq11
      have hne3 : ∀ p q, A3 = some p → AO = some q → p.block ≠ q.block := at_ne11 hat hne (fun q e => (World.ownsRow.lt hoth q.block (by rw [e]; rfl)).2)
      replace hoth := hoth.apart11 hgr (fun q e => own_ne11 hne q e)
      replace hB := hrow.belowG hB hgr
      have hrow3 : RowV W3 w.heap.size 9 1 A3 c3 (i + 1) (xs ++ [.string s]) := hown
      have HRUN := Lib.hid hrun
      clear hrun hown hgr iP hrow hne hat
      refine arm10_value (v := .slice A3 (i + 1) c3) (w' := W3) (by kernel_rfl) (exec_append10 rfl rfl rfl HRUN.out) hB ?_
      simp only [Act.put, List.setIfInBounds_toArray, List.set_cons_succ, List.set_cons_zero]
      refine wpAnyH_pure (i := 6) (v := .pointer (some ⟨DQ, 2, none⟩)) (at_nth rfl) (by kernel_rfl) (by kernel_rfl) (by kernel_rfl) (fun _ _ _ h => absurd h (HQN _ _ _)) (by kernel_rfl) (fun w hSw => by go_simp) hB ?_
      simp only [Act.put, List.setIfInBounds_toArray, List.set_cons_succ, List.set_cons_zero]
      exact ST1_3_4_5 _ _ _ _ hB iq hrow3 hoth hne3
  have ST1_3 : ∀ (W : World), Below w.heap.size w W → Is W DQ 26 #[.int .i64 k, .slice AO (nO : Nat) cO, .slice A' (i : Nat) c'] → RowV W w.heap.size 9 1 A' c' i xs → RowV W w.heap.size 9 1 AO cO nO ys → (∀ p q, A' = some p → AO = some q → p.block ≠ q.block) → wpAnyH Try.prog .any (opsOf Try.f5 9) Q (fun W => Below w.heap.size w W) 4 #[true, true, true, true, false, false, false, false] { tmps := #[x0, x1, x2, x3, x4, x5, x6, x7, x8, .pointer (some ⟨DQ, 0, none⟩), .int .i64 (i : Int), x11, x12, x13, x14, x15, x16, x17, x18, x19, x20, x21, x22, x23, x24, x25, x26, x27, x28, x29, x30, x31, x32, x33, x34, x35, x36, x37, x38, .pointer (some ⟨DQ, 2, none⟩), .slice A' (i : Nat) c', .int .i64 (i : Int), .string s, x43, x44, x45, x46, x47, x48, x49, x50, x51, x52, x53, x54, x55, x56, x57, x58, x59, x60, x61, x62, x63, x64, x65, x66, x67, x68, x69, x70, x71, x72, x73, x74, x75, x76, x77, x78, x79, x80, x81, x82, x83, x84, x85, x86, x87, x88, x89, x90, x91, x92, x93, x94, x95, x96, x97, x98, x99, x100, x101, x102, x103, x104, x105, x106, x107, x108, x109, x110, x111, x112, x113, x114, x115, x116, x117, x118, x119, x120, x121, x122], defers := [] } W := by
    intro W hB iq hrow hoth hne
    refine wpAnyH_ready (by kernel_rfl) (by simp) (AllReadyH.cons (i := 4) (at_nth rfl) ?_ (AllReadyH.nil))
    · have iP := Is.new W 9 #[.string s]
      replace iq := iq.alloc (.cells #[.string s] 9)
      replace hrow := hrow.alloc (.cells #[.string s] 9)
      replace hoth := hoth.alloc (.cells #[.string s] 9)
      replace hB := hB.alloc hB.size (.cells #[.string s] 9)
      refine arm10_value (v := .slice (some ⟨W.heap.size, 0, none⟩) 1 1) (w' := W.alloc (.cells #[.string s] 9)) (by kernel_rfl) (by go_simp) hB ?_
      simp only [Act.put, List.setIfInBounds_toArray, List.set_cons_succ, List.set_cons_zero]
      exact ST1_3_4 _ _ hB iq hrow hoth hne iP
  have ST1 : ∀ (W : World), Below w.heap.size w W → Is W DQ 26 #[.int .i64 k, .slice AO (nO : Nat) cO, .slice A' (i : Nat) c'] → RowV W w.heap.size 9 1 A' c' i xs → RowV W w.heap.size 9 1 AO cO nO ys → (∀ p q, A' = some p → AO = some q → p.block ≠ q.block) → wpAnyH Try.prog .any (opsOf Try.f5 9) Q (fun W => Below w.heap.size w W) 5 #[true, true, true, false, false, false, false, false] { tmps := #[x0, x1, x2, x3, x4, x5, x6, x7, x8, .pointer (some ⟨DQ, 0, none⟩), .int .i64 (i : Int), x11, x12, x13, x14, x15, x16, x17, x18, x19, x20, x21, x22, x23, x24, x25, x26, x27, x28, x29, x30, x31, x32, x33, x34, x35, x36, x37, x38, .pointer (some ⟨DQ, 2, none⟩), .slice A' (i : Nat) c', .int .i64 (i : Int), x42, x43, x44, x45, x46, x47, x48, x49, x50, x51, x52, x53, x54, x55, x56, x57, x58, x59, x60, x61, x62, x63, x64, x65, x66, x67, x68, x69, x70, x71, x72, x73, x74, x75, x76, x77, x78, x79, x80, x81, x82, x83, x84, x85, x86, x87, x88, x89, x90, x91, x92, x93, x94, x95, x96, x97, x98, x99, x100, x101, x102, x103, x104, x105, x106, x107, x108, x109, x110, x111, x112, x113, x114, x115, x116, x117, x118, x119, x120, x121, x122], defers := [] } W := by
    intro W hB iq hrow hoth hne
    refine wpAnyH_ready (by kernel_rfl) (by simp) (AllReadyH.cons (i := 3) (at_nth rfl) ?_ (AllReadyH.nil))
    · refine arm10_call (by kernel_rfl) (fun wy => by kernel_rfl) ((QC.out _).mono ?_)
      rintro e Wn ⟨rfl, hb⟩
      replace iq := iq.below hb iq.lt
      replace hrow := hrow.below hb
      replace hoth := hoth.below hb
      replace hB := hB.trans (hb.mono hB.size)
      clear hb
      refine ⟨_, rfl, hB, ?_⟩
      simp only [Act.put, List.setIfInBounds_toArray, List.set_cons_succ, List.set_cons_zero]
      exact ST1_3 _ hB iq hrow hoth hne
  have ST3_4 : ∀ (W : World) (DP : Nat), Below w.heap.size w W → Is W DQ 26 #[.int .i64 k, .slice AO (nO : Nat) cO, .slice A' (i : Nat) c'] → RowV W w.heap.size 9 1 A' c' i xs → RowV W w.heap.size 9 1 AO cO nO ys → (∀ p q, A' = some p → AO = some q → p.block ≠ q.block) → Is W DP 9 #[.string s] → wpAnyH Try.prog .any (opsOf Try.f5 9) Q (fun W => Below w.heap.size w W) 4 #[true, false, true, true, true, false, false, false] { tmps := #[x0, x1, x2, x3, x4, x5, x6, x7, x8, .pointer (some ⟨DQ, 0, none⟩), .int .i64 (i : Int), x11, x12, x13, x14, x15, x16, x17, x18, x19, x20, x21, x22, x23, x24, x25, x26, x27, x28, x29, x30, x31, x32, x33, x34, x35, x36, x37, x38, .pointer (some ⟨DQ, 2, none⟩), x40, .int .i64 (i : Int), .string s, .slice (some ⟨DP, 0, none⟩) 1 1, x44, x45, x46, x47, x48, x49, x50, x51, x52, x53, x54, x55, x56, x57, x58, x59, x60, x61, x62, x63, x64, x65, x66, x67, x68, x69, x70, x71, x72, x73, x74, x75, x76, x77, x78, x79, x80, x81, x82, x83, x84, x85, x86, x87, x88, x89, x90, x91, x92, x93, x94, x95, x96, x97, x98, x99, x100, x101, x102, x103, x104, x105, x106, x107, x108, x109, x110, x111, x112, x113, x114, x115, x116, x117, x118, x119, x120, x121, x122], defers := [] } W := by
    intro W DP hB iq hrow hoth hne iP
    refine wpAnyH_ready (by kernel_rfl) (by simp) (AllReadyH.cons (i := 1) (at_nth rfl) ?_ (AllReadyH.nil))
    · have c2 : W.cell? ⟨DQ, 2, none⟩ = some (.slice A' (i : Nat) c') := iq.cell 2
      refine arm10_value (v := .slice A' (i : Nat) c') (w' := W) (by kernel_rfl) (by go_simp) hB ?_
      simp only [Act.put, List.setIfInBounds_toArray, List.set_cons_succ, List.set_cons_zero]
      clear c2
      exact ST1_3_4 _ _ hB iq hrow hoth hne iP
  have ST3 : ∀ (W : World), Below w.heap.size w W → Is W DQ 26 #[.int .i64 k, .slice AO (nO : Nat) cO, .slice A' (i : Nat) c'] → RowV W w.heap.size 9 1 A' c' i xs → RowV W w.heap.size 9 1 AO cO nO ys → (∀ p q, A' = some p → AO = some q → p.block ≠ q.block) → wpAnyH Try.prog .any (opsOf Try.f5 9) Q (fun W => Below w.heap.size w W) 5 #[true, false, true, true, false, false, false, false] { tmps := #[x0, x1, x2, x3, x4, x5, x6, x7, x8, .pointer (some ⟨DQ, 0, none⟩), .int .i64 (i : Int), x11, x12, x13, x14, x15, x16, x17, x18, x19, x20, x21, x22, x23, x24, x25, x26, x27, x28, x29, x30, x31, x32, x33, x34, x35, x36, x37, x38, .pointer (some ⟨DQ, 2, none⟩), x40, .int .i64 (i : Int), .string s, x43, x44, x45, x46, x47, x48, x49, x50, x51, x52, x53, x54, x55, x56, x57, x58, x59, x60, x61, x62, x63, x64, x65, x66, x67, x68, x69, x70, x71, x72, x73, x74, x75, x76, x77, x78, x79, x80, x81, x82, x83, x84, x85, x86, x87, x88, x89, x90, x91, x92, x93, x94, x95, x96, x97, x98, x99, x100, x101, x102, x103, x104, x105, x106, x107, x108, x109, x110, x111, x112, x113, x114, x115, x116, x117, x118, x119, x120, x121, x122], defers := [] } W := by
    intro W hB iq hrow hoth hne
    refine wpAnyH_ready (by kernel_rfl) (by simp) (AllReadyH.cons (i := 1) (at_nth rfl) ?_ (AllReadyH.cons (i := 4) (at_nth rfl) ?_ (AllReadyH.nil)))
    · have c2 : W.cell? ⟨DQ, 2, none⟩ = some (.slice A' (i : Nat) c') := iq.cell 2
      refine arm10_value (v := .slice A' (i : Nat) c') (w' := W) (by kernel_rfl) (by go_simp) hB ?_
      simp only [Act.put, List.setIfInBounds_toArray, List.set_cons_succ, List.set_cons_zero]
      clear c2
      exact ST1_3 _ hB iq hrow hoth hne
    · have iP := Is.new W 9 #[.string s]
      replace iq := iq.alloc (.cells #[.string s] 9)
      replace hrow := hrow.alloc (.cells #[.string s] 9)
      replace hoth := hoth.alloc (.cells #[.string s] 9)
      replace hB := hB.alloc hB.size (.cells #[.string s] 9)
      refine arm10_value (v := .slice (some ⟨W.heap.size, 0, none⟩) 1 1) (w' := W.alloc (.cells #[.string s] 9)) (by kernel_rfl) (by go_simp) hB ?_
      simp only [Act.put, List.setIfInBounds_toArray, List.set_cons_succ, List.set_cons_zero]
      exact ST3_4 _ _ hB iq hrow hoth hne iP
  have ST : ∀ (W : World), Below w.heap.size w W → Is W DQ 26 #[.int .i64 k, .slice AO (nO : Nat) cO, .slice A' (i : Nat) c'] → RowV W w.heap.size 9 1 A' c' i xs → RowV W w.heap.size 9 1 AO cO nO ys → (∀ p q, A' = some p → AO = some q → p.block ≠ q.block) → wpAnyH Try.prog .any (opsOf Try.f5 9) Q (fun W => Below w.heap.size w W) 6 #[true, false, true, false, false, false, false, false] { tmps := #[x0, x1, x2, x3, x4, x5, x6, x7, x8, .pointer (some ⟨DQ, 0, none⟩), .int .i64 (i : Int), x11, x12, x13, x14, x15, x16, x17, x18, x19, x20, x21, x22, x23, x24, x25, x26, x27, x28, x29, x30, x31, x32, x33, x34, x35, x36, x37, x38, .pointer (some ⟨DQ, 2, none⟩), x40, .int .i64 (i : Int), x42, x43, x44, x45, x46, x47, x48, x49, x50, x51, x52, x53, x54, x55, x56, x57, x58, x59, x60, x61, x62, x63, x64, x65, x66, x67, x68, x69, x70, x71, x72, x73, x74, x75, x76, x77, x78, x79, x80, x81, x82, x83, x84, x85, x86, x87, x88, x89, x90, x91, x92, x93, x94, x95, x96, x97, x98, x99, x100, x101, x102, x103, x104, x105, x106, x107, x108, x109, x110, x111, x112, x113, x114, x115, x116, x117, x118, x119, x120, x121, x122], defers := [] } W := by
    intro W hB iq hrow hoth hne
    refine wpAnyH_ready (by kernel_rfl) (by simp) (AllReadyH.cons (i := 1) (at_nth rfl) ?_ (AllReadyH.cons (i := 3) (at_nth rfl) ?_ (AllReadyH.nil)))
    · have c2 : W.cell? ⟨DQ, 2, none⟩ = some (.slice A' (i : Nat) c') := iq.cell 2
      refine arm10_value (v := .slice A' (i : Nat) c') (w' := W) (by kernel_rfl) (by go_simp) hB ?_
      simp only [Act.put, List.setIfInBounds_toArray, List.set_cons_succ, List.set_cons_zero]
      clear c2
      exact ST1 _ hB iq hrow hoth hne
    · refine arm10_call (by kernel_rfl) (fun wy => by kernel_rfl) ((QC.out _).mono ?_)
      rintro e Wn ⟨rfl, hb⟩
      replace iq := iq.below hb iq.lt
      replace hrow := hrow.below hb
      replace hoth := hoth.below hb
      replace hB := hB.trans (hb.mono hB.size)
      clear hb
      refine ⟨_, rfl, hB, ?_⟩
      simp only [Act.put, List.setIfInBounds_toArray, List.set_cons_succ, List.set_cons_zero]
      exact ST3 _ hB iq hrow hoth hne
  refine wp_region_held_drew (S := fun W => Below w.heap.size w W) (by kernel_rfl) hB (fun hS => ?_)
  change wpAnyH _ _ (opsOf Try.f5 9) _ _ 8 (Array.replicate 8 false) _ (W0.drewN 1)
  clear hS
  refine wpAnyH_pure (i := 0) (v := .pointer (some ⟨DQ, 2, none⟩)) (at_nth rfl) (by kernel_rfl) (by kernel_rfl) (by kernel_rfl) (fun _ _ _ h => absurd h (HQN _ _ _)) (by kernel_rfl) (fun w hSw => by go_simp) hB ?_
  simp only [Act.put, List.setIfInBounds_toArray, List.set_cons_succ, List.set_cons_zero]
  refine wpAnyH_pure (i := 2) (v := .int .i64 (i : Int)) (at_nth rfl) (by kernel_rfl) (by kernel_rfl) (by kernel_rfl) (fun _ _ _ h => absurd h (HQN _ _ _)) (by kernel_rfl) (fun w hSw => by kernel_rfl) hB ?_
  simp only [Act.put, List.setIfInBounds_toArray, List.set_cons_succ, List.set_cons_zero]
  exact ST _ hB iq hrow hoth hne

set_option maxRecDepth 100000 in
set_option maxHeartbeats 4000000 in
theorem batch11_set (W0 : World) (DQ bL m m1 n cL cC nC : Nat) (AC : Option Addr) (k : Int) (x y : ByteArray) (hm1 : m < n) (hm2 : m1 < n) (hDb : DQ ≠ bL) (HW : Hid (IntKind.i64.wrap ((m : Int) + 1) = (m1 : Int))) (iq : Is W0 DQ 26 #[.int .i64 k, .slice (some ⟨bL, 0, none⟩) n cL, .slice AC nC cC]) (hx1 : W0.cell? ⟨bL, m1, none⟩ = some (.string x)) (hx0 : W0.cell? ⟨bL, m, none⟩ = some (.string y)) (hf : W0.frozen? ⟨bL, m, none⟩ = false) (HC2 : Hid ((W0.drew.setCell ⟨bL, m, none⟩ (.string x)).cell? ⟨bL, m1, none⟩ = some (.string x))) (x0 x1 x2 x3 x4 x5 x6 x7 x8 x10 x11 x12 x13 x14 x16 x17 x18 x19 x20 x21 x22 x23 x24 x25 x26 x27 x28 x29 x30 x31 x32 x33 x34 x35 x36 x37 x38 x39 x40 x41 x42 x43 x44 x45 x46 x47 x48 x49 x50 x51 x52 x53 x54 x55 x56 x57 x58 x59 x60 x61 x62 x63 x64 x65 x66 x67 x68 x69 x70 x71 x72 x73 x74 x75 x76 x77 x78 x79 x80 x81 x82 x83 x84 x85 x86 x87 x88 x89 x90 x91 x92 x93 x94 x95 x96 x97 x98 x99 x100 x101 x102 x103 x104 x105 x106 x107 x108 x109 x110 x111 x112 x113 x114 x115 x116 x117 x118 x119 x120 x121 x122 : Value) :
    (Code.region 15 (opsOf Try.f5 15) true).wp Try.prog (fun ex YY W => ex = .normal ∧ YY.defers = [] ∧ ∃ (_ : Unit), YY.tmps = #[x0, x1, x2, x3, x4, x5, x6, x7, x8, .pointer (some ⟨DQ, 0, none⟩), x10, x11, x12, x13, x14, .int .i64 (m : Int), x16, x17, x18, x19, x20, x21, x22, x23, x24, x25, x26, x27, x28, x29, x30, x31, x32, x33, x34, x35, x36, x37, x38, x39, x40, x41, x42, x43, x44, x45, x46, x47, x48, x49, x50, x51, x52, x53, x54, x55, x56, x57, x58, x59, x60, x61, x62, x63, x64, x65, x66, x67, x68, x69, x70, x71, x72, x73, x74, x75, x76, x77, x78, x79, x80, x81, x82, x83, .pointer (some ⟨DQ, 1, none⟩), .slice (some ⟨bL, 0, none⟩) n cL, .int .i64 (m : Int), .pointer (some ⟨DQ, 1, none⟩), .slice (some ⟨bL, 0, none⟩) n cL, .int .i64 (m : Int), .int .i64 (m1 : Int), .pointer (some ⟨bL, m1, none⟩), .string x, .pointer (some ⟨bL, m, none⟩), x94, x95, x96, x97, x98, x99, x100, x101, x102, x103, x104, x105, x106, x107, x108, x109, x110, x111, x112, x113, x114, x115, x116, x117, x118, x119, x120, x121, x122] ∧ W = W0.drew.setCell ⟨bL, m, none⟩ (.string x)) { tmps := #[x0, x1, x2, x3, x4, x5, x6, x7, x8, .pointer (some ⟨DQ, 0, none⟩), x10, x11, x12, x13, x14, .int .i64 (m : Int), x16, x17, x18, x19, x20, x21, x22, x23, x24, x25, x26, x27, x28, x29, x30, x31, x32, x33, x34, x35, x36, x37, x38, x39, x40, x41, x42, x43, x44, x45, x46, x47, x48, x49, x50, x51, x52, x53, x54, x55, x56, x57, x58, x59, x60, x61, x62, x63, x64, x65, x66, x67, x68, x69, x70, x71, x72, x73, x74, x75, x76, x77, x78, x79, x80, x81, x82, x83, x84, x85, x86, x87, x88, x89, x90, x91, x92, x93, x94, x95, x96, x97, x98, x99, x100, x101, x102, x103, x104, x105, x106, x107, x108, x109, x110, x111, x112, x113, x114, x115, x116, x117, x118, x119, x120, x121, x122], defers := [] } W0 := by
  have hS1 : Is (W0.drewN 1) DQ 26 #[.int .i64 k, .slice (some ⟨bL, 0, none⟩) n cL, .slice AC nC cC] := iq.drewN 1
  have hS2 : (W0.drewN 1).cell? ⟨bL, m1, none⟩ = some (.string x) := hx1
  generalize hQ : (fun (ex : Exit) (YY : Act) (W : World) => ex = .normal ∧ YY.defers = [] ∧ ∃ (_ : Unit), YY.tmps = #[x0, x1, x2, x3, x4, x5, x6, x7, x8, .pointer (some ⟨DQ, 0, none⟩), x10, x11, x12, x13, x14, .int .i64 (m : Int), x16, x17, x18, x19, x20, x21, x22, x23, x24, x25, x26, x27, x28, x29, x30, x31, x32, x33, x34, x35, x36, x37, x38, x39, x40, x41, x42, x43, x44, x45, x46, x47, x48, x49, x50, x51, x52, x53, x54, x55, x56, x57, x58, x59, x60, x61, x62, x63, x64, x65, x66, x67, x68, x69, x70, x71, x72, x73, x74, x75, x76, x77, x78, x79, x80, x81, x82, x83, .pointer (some ⟨DQ, 1, none⟩), .slice (some ⟨bL, 0, none⟩) n cL, .int .i64 (m : Int), .pointer (some ⟨DQ, 1, none⟩), .slice (some ⟨bL, 0, none⟩) n cL, .int .i64 (m : Int), .int .i64 (m1 : Int), .pointer (some ⟨bL, m1, none⟩), .string x, .pointer (some ⟨bL, m, none⟩), x94, x95, x96, x97, x98, x99, x100, x101, x102, x103, x104, x105, x106, x107, x108, x109, x110, x111, x112, x113, x114, x115, x116, x117, x118, x119, x120, x121, x122] ∧ W = W0.drew.setCell ⟨bL, m, none⟩ (.string x)) = Q
  have HQN : ∀ c a W, ¬ Q (.panic c) a W := fun c a W h => by subst hQ; exact nomatch h.1
  have ST10 : ∀ (W : World), W = W0.drew.setCell ⟨bL, m, none⟩ (.string x) → wpAnyH Try.prog .any (opsOf Try.f5 15) Q (fun W => Is W DQ 26 #[.int .i64 k, .slice (some ⟨bL, 0, none⟩) n cL, .slice AC nC cC] ∧ W.cell? ⟨bL, m1, none⟩ = some (.string x)) 0 #[true, true, true, true, true, true, true, true, true, true, true] { tmps := #[x0, x1, x2, x3, x4, x5, x6, x7, x8, .pointer (some ⟨DQ, 0, none⟩), x10, x11, x12, x13, x14, .int .i64 (m : Int), x16, x17, x18, x19, x20, x21, x22, x23, x24, x25, x26, x27, x28, x29, x30, x31, x32, x33, x34, x35, x36, x37, x38, x39, x40, x41, x42, x43, x44, x45, x46, x47, x48, x49, x50, x51, x52, x53, x54, x55, x56, x57, x58, x59, x60, x61, x62, x63, x64, x65, x66, x67, x68, x69, x70, x71, x72, x73, x74, x75, x76, x77, x78, x79, x80, x81, x82, x83, .pointer (some ⟨DQ, 1, none⟩), .slice (some ⟨bL, 0, none⟩) n cL, .int .i64 (m : Int), .pointer (some ⟨DQ, 1, none⟩), .slice (some ⟨bL, 0, none⟩) n cL, .int .i64 (m : Int), .int .i64 (m1 : Int), .pointer (some ⟨bL, m1, none⟩), .string x, .pointer (some ⟨bL, m, none⟩), x94, x95, x96, x97, x98, x99, x100, x101, x102, x103, x104, x105, x106, x107, x108, x109, x110, x111, x112, x113, x114, x115, x116, x117, x118, x119, x120, x121, x122], defers := [] } W := by
    intro W hw2
    refine wpAnyH_done (by kernel_rfl) ?_ _
    subst hQ
    exact ⟨rfl, rfl, (), rfl, hw2⟩
  have ST : ∀ (W : World), W = W0.drew → wpAnyH Try.prog .any (opsOf Try.f5 15) Q (fun W => Is W DQ 26 #[.int .i64 k, .slice (some ⟨bL, 0, none⟩) n cL, .slice AC nC cC] ∧ W.cell? ⟨bL, m1, none⟩ = some (.string x)) 1 #[true, true, true, true, true, true, true, true, true, true, false] { tmps := #[x0, x1, x2, x3, x4, x5, x6, x7, x8, .pointer (some ⟨DQ, 0, none⟩), x10, x11, x12, x13, x14, .int .i64 (m : Int), x16, x17, x18, x19, x20, x21, x22, x23, x24, x25, x26, x27, x28, x29, x30, x31, x32, x33, x34, x35, x36, x37, x38, x39, x40, x41, x42, x43, x44, x45, x46, x47, x48, x49, x50, x51, x52, x53, x54, x55, x56, x57, x58, x59, x60, x61, x62, x63, x64, x65, x66, x67, x68, x69, x70, x71, x72, x73, x74, x75, x76, x77, x78, x79, x80, x81, x82, x83, .pointer (some ⟨DQ, 1, none⟩), .slice (some ⟨bL, 0, none⟩) n cL, .int .i64 (m : Int), .pointer (some ⟨DQ, 1, none⟩), .slice (some ⟨bL, 0, none⟩) n cL, .int .i64 (m : Int), .int .i64 (m1 : Int), .pointer (some ⟨bL, m1, none⟩), .string x, .pointer (some ⟨bL, m, none⟩), x94, x95, x96, x97, x98, x99, x100, x101, x102, x103, x104, x105, x106, x107, x108, x109, x110, x111, x112, x113, x114, x115, x116, x117, x118, x119, x120, x121, x122], defers := [] } W := by
    intro W hw
    have hS1 : Is W DQ 26 #[.int .i64 k, .slice (some ⟨bL, 0, none⟩) n cL, .slice AC nC cC] := by rw [hw]; exact iq.drewN 1
    have hS2 : W.cell? ⟨bL, m1, none⟩ = some (.string x) := by rw [hw]; exact hx1
    refine wpAnyH_ready (by kernel_rfl) (by simp) (AllReadyH.cons (i := 10) (at_nth rfl) ?_ (AllReadyH.nil))
    · subst hw
      have cz : W0.drew.cell? ⟨bL, m, none⟩ = some (.string y) := hx0
      have fz : W0.drew.frozen? ⟨bL, m, none⟩ = false := hf
      refine arm10_skip (w' := W0.drew.setCell ⟨bL, m, none⟩ (.string x)) (by kernel_rfl) (by go_simp) ⟨(iq.drewN 1).far (p := ⟨bL, m, none⟩) hDb _, HC2.out⟩ ?_
      try simp only [Act.put]
      have hw2 : W0.drew.setCell ⟨bL, m, none⟩ (.string x) = W0.drew.setCell ⟨bL, m, none⟩ (.string x) := rfl
      exact ST10 _ hw2
  refine wp_region_held_drew (S := fun W => Is W DQ 26 #[.int .i64 k, .slice (some ⟨bL, 0, none⟩) n cL, .slice AC nC cC] ∧ W.cell? ⟨bL, m1, none⟩ = some (.string x)) (by kernel_rfl) ⟨hS1, hS2⟩ (fun hS => ?_)
  change wpAnyH _ _ (opsOf Try.f5 15) _ _ 11 (Array.replicate 11 false) _ (W0.drewN 1)
  clear hS
  have hw : W0.drewN 1 = W0.drew := rfl
  refine wpAnyH_pure (i := 0) (v := .pointer (some ⟨DQ, 1, none⟩)) (at_nth rfl) (by kernel_rfl) (by kernel_rfl) (by kernel_rfl) (fun _ _ _ h => absurd h (HQN _ _ _)) (by kernel_rfl) (fun w hSw => by go_simp) ⟨hS1, hS2⟩ ?_
  simp only [Act.put, List.setIfInBounds_toArray, List.set_cons_succ, List.set_cons_zero]
  refine wpAnyH_pure (i := 1) (v := .slice (some ⟨bL, 0, none⟩) n cL) (at_nth rfl) (by kernel_rfl) (by kernel_rfl) (by kernel_rfl) (fun _ _ _ h => absurd h (HQN _ _ _)) (by kernel_rfl) (fun w hSw => by (have hc := hSw.1.cell 1; go_simp)) ⟨hS1, hS2⟩ ?_
  simp only [Act.put, List.setIfInBounds_toArray, List.set_cons_succ, List.set_cons_zero]
  refine wpAnyH_pure (i := 2) (v := .int .i64 (m : Int)) (at_nth rfl) (by kernel_rfl) (by kernel_rfl) (by kernel_rfl) (fun _ _ _ h => absurd h (HQN _ _ _)) (by kernel_rfl) (fun w hSw => by kernel_rfl) ⟨hS1, hS2⟩ ?_
  simp only [Act.put, List.setIfInBounds_toArray, List.set_cons_succ, List.set_cons_zero]
  refine wpAnyH_pure (i := 3) (v := .pointer (some ⟨DQ, 1, none⟩)) (at_nth rfl) (by kernel_rfl) (by kernel_rfl) (by kernel_rfl) (fun _ _ _ h => absurd h (HQN _ _ _)) (by kernel_rfl) (fun w hSw => by go_simp) ⟨hS1, hS2⟩ ?_
  simp only [Act.put, List.setIfInBounds_toArray, List.set_cons_succ, List.set_cons_zero]
  refine wpAnyH_pure (i := 4) (v := .slice (some ⟨bL, 0, none⟩) n cL) (at_nth rfl) (by kernel_rfl) (by kernel_rfl) (by kernel_rfl) (fun _ _ _ h => absurd h (HQN _ _ _)) (by kernel_rfl) (fun w hSw => by (have hc := hSw.1.cell 1; go_simp)) ⟨hS1, hS2⟩ ?_
  simp only [Act.put, List.setIfInBounds_toArray, List.set_cons_succ, List.set_cons_zero]
  refine wpAnyH_pure (i := 5) (v := .int .i64 (m : Int)) (at_nth rfl) (by kernel_rfl) (by kernel_rfl) (by kernel_rfl) (fun _ _ _ h => absurd h (HQN _ _ _)) (by kernel_rfl) (fun w hSw => by kernel_rfl) ⟨hS1, hS2⟩ ?_
  simp only [Act.put, List.setIfInBounds_toArray, List.set_cons_succ, List.set_cons_zero]
  refine wpAnyH_pure (i := 6) (v := .int .i64 (m1 : Int)) (at_nth rfl) (by kernel_rfl) (by kernel_rfl) (by kernel_rfl) (fun _ _ _ h => absurd h (HQN _ _ _)) (by kernel_rfl) (fun w hSw => by (have h1 := HW.out; go_simp)) ⟨hS1, hS2⟩ ?_
  simp only [Act.put, List.setIfInBounds_toArray, List.set_cons_succ, List.set_cons_zero]
  refine wpAnyH_pure (i := 7) (v := .pointer (some ⟨bL, m1, none⟩)) (at_nth rfl) (by kernel_rfl) (by kernel_rfl) (by kernel_rfl) (fun _ _ _ h => absurd h (HQN _ _ _)) (by kernel_rfl) (fun w hSw => by go_simp) ⟨hS1, hS2⟩ ?_
  simp only [Act.put, List.setIfInBounds_toArray, List.set_cons_succ, List.set_cons_zero]
  refine wpAnyH_pure (i := 8) (v := .string x) (at_nth rfl) (by kernel_rfl) (by kernel_rfl) (by kernel_rfl) (fun _ _ _ h => absurd h (HQN _ _ _)) (by kernel_rfl) (fun w hSw => by (have hc := hSw.2; go_simp)) ⟨hS1, hS2⟩ ?_
  simp only [Act.put, List.setIfInBounds_toArray, List.set_cons_succ, List.set_cons_zero]
  refine wpAnyH_pure (i := 9) (v := .pointer (some ⟨bL, m, none⟩)) (at_nth rfl) (by kernel_rfl) (by kernel_rfl) (by kernel_rfl) (fun _ _ _ h => absurd h (HQN _ _ _)) (by kernel_rfl) (fun w hSw => by go_simp) ⟨hS1, hS2⟩ ?_
  simp only [Act.put, List.setIfInBounds_toArray, List.set_cons_succ, List.set_cons_zero]
  exact ST _ hw

set_option maxRecDepth 100000 in
set_option maxHeartbeats 4000000 in
theorem batch11_dec (W0 : World) (DQ : Nat) (k : Int) (AL AC : Option Addr) (cL cC nL nC : Nat) (s1 s2 s3 : ByteArray) (e9 : Int) (Q1 : Hid (¬ 9223372036854775807 < s1.size + s2.size)) (Q2 : Hid (¬ 9223372036854775807 < (s1 ++ s2).size + s3.size)) (Q3 : Hid (¬ 9223372036854775807 < s1.size + s2.size + s3.size)) (N1 : Hid (∀ W, Calls Try.prog 24 #[.int .i64 k] W fun e w' => e = .returned (.string s1) ∧ Below W.heap.size W w'))
    (N2 : Hid (∀ W, Below W0.heap.size W0 W → Calls Try.prog 25 #[.slice AL nL cL] W fun e w' => e = .returned (.string s2) ∧ Below W.heap.size W w')) (N3 : Hid (∀ W, Below W0.heap.size W0 W → Calls Try.prog 25 #[.slice AC nC cC] W fun e w' => e = .returned (.string s3) ∧ Below W.heap.size W w')) (N4 : Hid (∀ W, Calls Try.prog 16 #[.string (s1 ++ s2 ++ s3)] W fun e w' => ∃ V, e = .returned (.tuple #[V, .int .i64 e9]) ∧ Below W.heap.size W w')) (iq : Is W0 DQ 26 #[.int .i64 k, .slice AL nL cL, .slice AC nC cC]) (x0 x1 x2 x3 x4 x5 x6 x7 x8 x10 x11 x12 x13 x14 x15 x16 x17 x18 x19 x20 x21 x22 x23 x24 x25 x26 x27 x28 x29 x30 x31 x32 x33 x34 x35 x36 x37 x38 x39 x40 x41 x42 x43 x44 x45 x46 x47 x48 x49 x50 x51 x52 x53 x54 x55 x56 x57 x58 x59 x60 x61 x62 x63 x64 x65 x66 x67 x68 x69 x70 x71 x72 x73 x74 x75 x76 x77 x78 x79 x80 x81 x82 x83 x84 x85 x86 x87 x88 x89 x90 x91 x92 x93 x94 x95 x96 x97 x98 x99 x100 x101 x102 x103 x104 x105 x106 x107 x108 x109 x110 x111 x112 x113 x114 x115 x116 x117 x118 x119 x120 x121 x122 : Value) :
    (Code.region 17 (opsOf Try.f5 17) true).wp Try.prog (fun ex YY W => ex = .normal ∧ YY.defers = [] ∧ ∃ (VQ : Value), YY.tmps = #[x0, x1, x2, x3, x4, x5, x6, x7, x8, .pointer (some ⟨DQ, 0, none⟩), x10, x11, x12, x13, .int .i64 e9, x15, x16, x17, x18, x19, x20, x21, x22, x23, x24, x25, x26, x27, x28, x29, x30, x31, x32, x33, x34, x35, x36, x37, x38, x39, x40, x41, x42, x43, x44, x45, x46, x47, x48, x49, x50, x51, x52, x53, x54, x55, x56, x57, x58, x59, x60, x61, x62, x63, x64, x65, x66, x67, x68, x69, x70, x71, x72, x73, x74, x75, x76, x77, x78, x79, x80, x81, x82, x83, x84, x85, x86, x87, x88, x89, x90, x91, x92, x93, x94, x95, x96, x97, x98, .tuple #[VQ, .int .i64 e9], .pointer (some ⟨DQ, 0, none⟩), .int .i64 k, .string s1, .pointer (some ⟨DQ, 1, none⟩), .slice AL nL cL, .string s2, .string (s1 ++ s2), .pointer (some ⟨DQ, 2, none⟩), .slice AC nC cC, .string s3, .string (s1 ++ s2 ++ s3), .tuple #[VQ, .int .i64 e9], VQ, .int .i64 e9, x114, x115, x116, x117, x118, x119, x120, x121, x122] ∧ Below W0.heap.size W0 W) { tmps := #[x0, x1, x2, x3, x4, x5, x6, x7, x8, .pointer (some ⟨DQ, 0, none⟩), x10, x11, x12, x13, x14, x15, x16, x17, x18, x19, x20, x21, x22, x23, x24, x25, x26, x27, x28, x29, x30, x31, x32, x33, x34, x35, x36, x37, x38, x39, x40, x41, x42, x43, x44, x45, x46, x47, x48, x49, x50, x51, x52, x53, x54, x55, x56, x57, x58, x59, x60, x61, x62, x63, x64, x65, x66, x67, x68, x69, x70, x71, x72, x73, x74, x75, x76, x77, x78, x79, x80, x81, x82, x83, x84, x85, x86, x87, x88, x89, x90, x91, x92, x93, x94, x95, x96, x97, x98, x99, x100, x101, x102, x103, x104, x105, x106, x107, x108, x109, x110, x111, x112, x113, x114, x115, x116, x117, x118, x119, x120, x121, x122], defers := [] } W0 := by
  have hB : Below W0.heap.size W0 (W0.drewN 1) := belowN (Below.refl _ _) 1
  generalize hQ : (fun (ex : Exit) (YY : Act) (W : World) => ex = .normal ∧ YY.defers = [] ∧ ∃ (VQ : Value), YY.tmps = #[x0, x1, x2, x3, x4, x5, x6, x7, x8, .pointer (some ⟨DQ, 0, none⟩), x10, x11, x12, x13, .int .i64 e9, x15, x16, x17, x18, x19, x20, x21, x22, x23, x24, x25, x26, x27, x28, x29, x30, x31, x32, x33, x34, x35, x36, x37, x38, x39, x40, x41, x42, x43, x44, x45, x46, x47, x48, x49, x50, x51, x52, x53, x54, x55, x56, x57, x58, x59, x60, x61, x62, x63, x64, x65, x66, x67, x68, x69, x70, x71, x72, x73, x74, x75, x76, x77, x78, x79, x80, x81, x82, x83, x84, x85, x86, x87, x88, x89, x90, x91, x92, x93, x94, x95, x96, x97, x98, .tuple #[VQ, .int .i64 e9], .pointer (some ⟨DQ, 0, none⟩), .int .i64 k, .string s1, .pointer (some ⟨DQ, 1, none⟩), .slice AL nL cL, .string s2, .string (s1 ++ s2), .pointer (some ⟨DQ, 2, none⟩), .slice AC nC cC, .string s3, .string (s1 ++ s2 ++ s3), .tuple #[VQ, .int .i64 e9], VQ, .int .i64 e9, x114, x115, x116, x117, x118, x119, x120, x121, x122] ∧ Below W0.heap.size W0 W) = Q
  have HQN : ∀ c a W, ¬ Q (.panic c) a W := fun c a W h => by subst hQ; exact nomatch h.1
  have ST2_5_9_11 : ∀ (W : World) (VQ : Value), Below W0.heap.size W0 W → wpAnyH Try.prog .any (opsOf Try.f5 17) Q (fun W => Below W0.heap.size W0 W) 0 #[true, true, true, true, true, true, true, true, true, true, true, true, true, true, true, true] { tmps := #[x0, x1, x2, x3, x4, x5, x6, x7, x8, .pointer (some ⟨DQ, 0, none⟩), x10, x11, x12, x13, .int .i64 e9, x15, x16, x17, x18, x19, x20, x21, x22, x23, x24, x25, x26, x27, x28, x29, x30, x31, x32, x33, x34, x35, x36, x37, x38, x39, x40, x41, x42, x43, x44, x45, x46, x47, x48, x49, x50, x51, x52, x53, x54, x55, x56, x57, x58, x59, x60, x61, x62, x63, x64, x65, x66, x67, x68, x69, x70, x71, x72, x73, x74, x75, x76, x77, x78, x79, x80, x81, x82, x83, x84, x85, x86, x87, x88, x89, x90, x91, x92, x93, x94, x95, x96, x97, x98, .tuple #[VQ, .int .i64 e9], .pointer (some ⟨DQ, 0, none⟩), .int .i64 k, .string s1, .pointer (some ⟨DQ, 1, none⟩), .slice AL nL cL, .string s2, .string (s1 ++ s2), .pointer (some ⟨DQ, 2, none⟩), .slice AC nC cC, .string s3, .string (s1 ++ s2 ++ s3), .tuple #[VQ, .int .i64 e9], VQ, .int .i64 e9, x114, x115, x116, x117, x118, x119, x120, x121, x122], defers := [] } W := by
    intro W VQ hB
    refine wpAnyH_done (by kernel_rfl) ?_ _
    subst hQ
    exact ⟨rfl, rfl, VQ, rfl, hB⟩
  have ST2_5_9 : ∀ (W : World), Below W0.heap.size W0 W → wpAnyH Try.prog .any (opsOf Try.f5 17) Q (fun W => Below W0.heap.size W0 W) 5 #[true, true, true, true, true, true, true, true, true, true, true, false, false, false, false, false] { tmps := #[x0, x1, x2, x3, x4, x5, x6, x7, x8, .pointer (some ⟨DQ, 0, none⟩), x10, x11, x12, x13, x14, x15, x16, x17, x18, x19, x20, x21, x22, x23, x24, x25, x26, x27, x28, x29, x30, x31, x32, x33, x34, x35, x36, x37, x38, x39, x40, x41, x42, x43, x44, x45, x46, x47, x48, x49, x50, x51, x52, x53, x54, x55, x56, x57, x58, x59, x60, x61, x62, x63, x64, x65, x66, x67, x68, x69, x70, x71, x72, x73, x74, x75, x76, x77, x78, x79, x80, x81, x82, x83, x84, x85, x86, x87, x88, x89, x90, x91, x92, x93, x94, x95, x96, x97, x98, x99, .pointer (some ⟨DQ, 0, none⟩), .int .i64 k, .string s1, .pointer (some ⟨DQ, 1, none⟩), .slice AL nL cL, .string s2, .string (s1 ++ s2), .pointer (some ⟨DQ, 2, none⟩), .slice AC nC cC, .string s3, .string (s1 ++ s2 ++ s3), x111, x112, x113, x114, x115, x116, x117, x118, x119, x120, x121, x122], defers := [] } W := by
    intro W hB
    refine wpAnyH_ready (by kernel_rfl) (by simp) (AllReadyH.cons (i := 11) (at_nth rfl) ?_ (AllReadyH.nil))
    · refine arm10_call (by kernel_rfl) (fun wy => by kernel_rfl) ((N4.out _).mono ?_)
      rintro e Wn ⟨VQ, rfl, hb⟩
      replace hB := hB.trans (hb.mono hB.size)
      clear hb
      refine ⟨_, rfl, hB, ?_⟩
      simp only [Act.put, List.setIfInBounds_toArray, List.set_cons_succ, List.set_cons_zero]
      refine wpAnyH_pure (i := 12) (v := .tuple #[VQ, .int .i64 e9]) (at_nth rfl) (by kernel_rfl) (by kernel_rfl) (by kernel_rfl) (fun _ _ _ h => absurd h (HQN _ _ _)) (by kernel_rfl) (fun w hSw => by kernel_rfl) hB ?_
      simp only [Act.put, List.setIfInBounds_toArray, List.set_cons_succ, List.set_cons_zero]
      refine wpAnyH_pure (i := 13) (v := VQ) (at_nth rfl) (by kernel_rfl) (by kernel_rfl) (by kernel_rfl) (fun _ _ _ h => absurd h (HQN _ _ _)) (by kernel_rfl) (fun w hSw => by kernel_rfl) hB ?_
      simp only [Act.put, List.setIfInBounds_toArray, List.set_cons_succ, List.set_cons_zero]
      refine wpAnyH_pure (i := 14) (v := .int .i64 e9) (at_nth rfl) (by kernel_rfl) (by kernel_rfl) (by kernel_rfl) (fun _ _ _ h => absurd h (HQN _ _ _)) (by kernel_rfl) (fun w hSw => by kernel_rfl) hB ?_
      simp only [Act.put, List.setIfInBounds_toArray, List.set_cons_succ, List.set_cons_zero]
      refine wpAnyH_pure (i := 15) (v := .int .i64 e9) (at_nth rfl) (by kernel_rfl) (by kernel_rfl) (by kernel_rfl) (fun _ _ _ h => absurd h (HQN _ _ _)) (by kernel_rfl) (fun w hSw => by kernel_rfl) hB ?_
      simp only [Act.put, List.setIfInBounds_toArray, List.set_cons_succ, List.set_cons_zero]
      exact ST2_5_9_11 _ _ hB
  have ST2_5 : ∀ (W : World), Below W0.heap.size W0 W → wpAnyH Try.prog .any (opsOf Try.f5 17) Q (fun W => Below W0.heap.size W0 W) 7 #[true, true, true, true, true, true, true, true, true, false, false, false, false, false, false, false] { tmps := #[x0, x1, x2, x3, x4, x5, x6, x7, x8, .pointer (some ⟨DQ, 0, none⟩), x10, x11, x12, x13, x14, x15, x16, x17, x18, x19, x20, x21, x22, x23, x24, x25, x26, x27, x28, x29, x30, x31, x32, x33, x34, x35, x36, x37, x38, x39, x40, x41, x42, x43, x44, x45, x46, x47, x48, x49, x50, x51, x52, x53, x54, x55, x56, x57, x58, x59, x60, x61, x62, x63, x64, x65, x66, x67, x68, x69, x70, x71, x72, x73, x74, x75, x76, x77, x78, x79, x80, x81, x82, x83, x84, x85, x86, x87, x88, x89, x90, x91, x92, x93, x94, x95, x96, x97, x98, x99, .pointer (some ⟨DQ, 0, none⟩), .int .i64 k, .string s1, .pointer (some ⟨DQ, 1, none⟩), .slice AL nL cL, .string s2, .string (s1 ++ s2), .pointer (some ⟨DQ, 2, none⟩), .slice AC nC cC, x109, x110, x111, x112, x113, x114, x115, x116, x117, x118, x119, x120, x121, x122], defers := [] } W := by
    intro W hB
    refine wpAnyH_ready (by kernel_rfl) (by simp) (AllReadyH.cons (i := 9) (at_nth rfl) ?_ (AllReadyH.nil))
    · refine arm10_call (by kernel_rfl) (fun wy => by kernel_rfl) ((N3.out _ hB).mono ?_)
      rintro e Wn ⟨rfl, hb⟩
      replace hB := hB.trans (hb.mono hB.size)
      clear hb
      refine ⟨_, rfl, hB, ?_⟩
      simp only [Act.put, List.setIfInBounds_toArray, List.set_cons_succ, List.set_cons_zero]
      refine wpAnyH_pure (i := 10) (v := .string (s1 ++ s2 ++ s3)) (at_nth rfl) (by kernel_rfl) (by kernel_rfl) (by kernel_rfl) (fun _ _ _ h => absurd h (HQN _ _ _)) (by kernel_rfl) (fun w hSw => by (have q2 := Q2.out; have q3 := Q3.out; go_simp)) hB ?_
      simp only [Act.put, List.setIfInBounds_toArray, List.set_cons_succ, List.set_cons_zero]
      exact ST2_5_9 _ hB
  have ST2 : ∀ (W : World), Below W0.heap.size W0 W → wpAnyH Try.prog .any (opsOf Try.f5 17) Q (fun W => Below W0.heap.size W0 W) 9 #[true, true, true, true, true, false, false, true, true, false, false, false, false, false, false, false] { tmps := #[x0, x1, x2, x3, x4, x5, x6, x7, x8, .pointer (some ⟨DQ, 0, none⟩), x10, x11, x12, x13, x14, x15, x16, x17, x18, x19, x20, x21, x22, x23, x24, x25, x26, x27, x28, x29, x30, x31, x32, x33, x34, x35, x36, x37, x38, x39, x40, x41, x42, x43, x44, x45, x46, x47, x48, x49, x50, x51, x52, x53, x54, x55, x56, x57, x58, x59, x60, x61, x62, x63, x64, x65, x66, x67, x68, x69, x70, x71, x72, x73, x74, x75, x76, x77, x78, x79, x80, x81, x82, x83, x84, x85, x86, x87, x88, x89, x90, x91, x92, x93, x94, x95, x96, x97, x98, x99, .pointer (some ⟨DQ, 0, none⟩), .int .i64 k, .string s1, .pointer (some ⟨DQ, 1, none⟩), .slice AL nL cL, x105, x106, .pointer (some ⟨DQ, 2, none⟩), .slice AC nC cC, x109, x110, x111, x112, x113, x114, x115, x116, x117, x118, x119, x120, x121, x122], defers := [] } W := by
    intro W hB
    refine wpAnyH_ready (by kernel_rfl) (by simp) (AllReadyH.cons (i := 5) (at_nth rfl) ?_ (AllReadyH.nil))
    · refine arm10_call (by kernel_rfl) (fun wy => by kernel_rfl) ((N2.out _ hB).mono ?_)
      rintro e Wn ⟨rfl, hb⟩
      replace hB := hB.trans (hb.mono hB.size)
      clear hb
      refine ⟨_, rfl, hB, ?_⟩
      simp only [Act.put, List.setIfInBounds_toArray, List.set_cons_succ, List.set_cons_zero]
      refine wpAnyH_pure (i := 6) (v := .string (s1 ++ s2)) (at_nth rfl) (by kernel_rfl) (by kernel_rfl) (by kernel_rfl) (fun _ _ _ h => absurd h (HQN _ _ _)) (by kernel_rfl) (fun w hSw => by (have q1 := Q1.out; go_simp)) hB ?_
      simp only [Act.put, List.setIfInBounds_toArray, List.set_cons_succ, List.set_cons_zero]
      exact ST2_5 _ hB
  have ST : ∀ (W : World), Below W0.heap.size W0 W → wpAnyH Try.prog .any (opsOf Try.f5 17) Q (fun W => Below W0.heap.size W0 W) 10 #[true, true, false, true, true, false, false, true, true, false, false, false, false, false, false, false] { tmps := #[x0, x1, x2, x3, x4, x5, x6, x7, x8, .pointer (some ⟨DQ, 0, none⟩), x10, x11, x12, x13, x14, x15, x16, x17, x18, x19, x20, x21, x22, x23, x24, x25, x26, x27, x28, x29, x30, x31, x32, x33, x34, x35, x36, x37, x38, x39, x40, x41, x42, x43, x44, x45, x46, x47, x48, x49, x50, x51, x52, x53, x54, x55, x56, x57, x58, x59, x60, x61, x62, x63, x64, x65, x66, x67, x68, x69, x70, x71, x72, x73, x74, x75, x76, x77, x78, x79, x80, x81, x82, x83, x84, x85, x86, x87, x88, x89, x90, x91, x92, x93, x94, x95, x96, x97, x98, x99, .pointer (some ⟨DQ, 0, none⟩), .int .i64 k, x102, .pointer (some ⟨DQ, 1, none⟩), .slice AL nL cL, x105, x106, .pointer (some ⟨DQ, 2, none⟩), .slice AC nC cC, x109, x110, x111, x112, x113, x114, x115, x116, x117, x118, x119, x120, x121, x122], defers := [] } W := by
    intro W hB
    refine wpAnyH_ready (by kernel_rfl) (by simp) (AllReadyH.cons (i := 2) (at_nth rfl) ?_ (AllReadyH.nil))
    · refine arm10_call (by kernel_rfl) (fun wy => by kernel_rfl) ((N1.out _).mono ?_)
      rintro e Wn ⟨rfl, hb⟩
      replace hB := hB.trans (hb.mono hB.size)
      clear hb
      refine ⟨_, rfl, hB, ?_⟩
      simp only [Act.put, List.setIfInBounds_toArray, List.set_cons_succ, List.set_cons_zero]
      exact ST2 _ hB
  refine wp_region_held_drew (S := fun W => Below W0.heap.size W0 W) (by kernel_rfl) hB (fun hS => ?_)
  change wpAnyH _ _ (opsOf Try.f5 17) _ _ 16 (Array.replicate 16 false) _ (W0.drewN 1)
  clear hS
  replace hB : Below W0.heap.size W0 (W0.drewN 1) := belowN (Below.refl _ _) 1
  refine wpAnyH_pure (i := 0) (v := .pointer (some ⟨DQ, 0, none⟩)) (at_nth rfl) (by kernel_rfl) (by kernel_rfl) (by kernel_rfl) (fun _ _ _ h => absurd h (HQN _ _ _)) (by kernel_rfl) (fun w hSw => by go_simp) hB ?_
  simp only [Act.put, List.setIfInBounds_toArray, List.set_cons_succ, List.set_cons_zero]
  refine wpAnyH_pure (i := 1) (v := .int .i64 k) (at_nth rfl) (by kernel_rfl) (by kernel_rfl) (by kernel_rfl) (fun _ _ _ h => absurd h (HQN _ _ _)) (by kernel_rfl) (fun w hSw => by (have hc := (iq.below hSw iq.lt).cell 0; go_simp)) hB ?_
  simp only [Act.put, List.setIfInBounds_toArray, List.set_cons_succ, List.set_cons_zero]
  refine wpAnyH_pure (i := 3) (v := .pointer (some ⟨DQ, 1, none⟩)) (at_nth rfl) (by kernel_rfl) (by kernel_rfl) (by kernel_rfl) (fun _ _ _ h => absurd h (HQN _ _ _)) (by kernel_rfl) (fun w hSw => by go_simp) hB ?_
  simp only [Act.put, List.setIfInBounds_toArray, List.set_cons_succ, List.set_cons_zero]
  refine wpAnyH_pure (i := 4) (v := .slice AL nL cL) (at_nth rfl) (by kernel_rfl) (by kernel_rfl) (by kernel_rfl) (fun _ _ _ h => absurd h (HQN _ _ _)) (by kernel_rfl) (fun w hSw => by (have hc := (iq.below hSw iq.lt).cell 1; go_simp)) hB ?_
  simp only [Act.put, List.setIfInBounds_toArray, List.set_cons_succ, List.set_cons_zero]
  refine wpAnyH_pure (i := 7) (v := .pointer (some ⟨DQ, 2, none⟩)) (at_nth rfl) (by kernel_rfl) (by kernel_rfl) (by kernel_rfl) (fun _ _ _ h => absurd h (HQN _ _ _)) (by kernel_rfl) (fun w hSw => by go_simp) hB ?_
  simp only [Act.put, List.setIfInBounds_toArray, List.set_cons_succ, List.set_cons_zero]
  refine wpAnyH_pure (i := 8) (v := .slice AC nC cC) (at_nth rfl) (by kernel_rfl) (by kernel_rfl) (by kernel_rfl) (fun _ _ _ h => absurd h (HQN _ _ _)) (by kernel_rfl) (fun w hSw => by (have hc := (iq.below hSw iq.lt).cell 2; go_simp)) hB ?_
  simp only [Act.put, List.setIfInBounds_toArray, List.set_cons_succ, List.set_cons_zero]
  exact ST _ hB
end Go.Proofs.Ytapfbcpbiagogaa
