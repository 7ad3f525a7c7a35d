/-
  Layer 12: contracts of slices.IndexFunc at buckets, asked for a Free one, and of what asks it. Condition: the store lies where its slice points to.
-/
import Derived.Test.YtglcckpkbnppoaaBuxC
namespace Go.Proofs.Ytglcckpkbnppoaa
open Go.RowKit Go.Shelf
attribute [local go_sem] Oper.semAt_some

set_option maxRecDepth 100000 in
set_option maxHeartbeats 1000000 in
theorem isFree_any12 (st : Int) (xl xc : ByteArray) (w : World) :
    Calls Try.prog 49 #[.agg #[.int .i64 st, .string xl, .string xc]] w fun e w' => e = .returned (.bool (decide (st = 0))) ∧ Below w.heap.size w w' := by
  have i1 := Is.new w 25 #[.int .i64 st, .string xl, .string xc]
  have c0 : (w.alloc (.cells #[.int .i64 st, .string xl, .string xc] 25)).cell? ⟨w.heap.size, 0, none⟩ = some (.int .i64 st) := i1.cell 0
  have hB : Below w.heap.size w (w.alloc (.cells #[.int .i64 st, .string xl, .string xc] 25)) := (Below.refl _ _).alloc (Nat.le_refl _) _
  clear i1
  by_cases h : st = 0
  · subst h
    go_enter Try.func49, Try.ntmps49
    go_wp2
    go_ret
    exact ⟨rfl, hB⟩
  · have hd := Lib.hid (decide_eq_false h)
    have hbe : (st == 0) = false := by simpa using h
    go_enter Try.func49, Try.ntmps49
    go_wp2
    go_ret
    exact ⟨by rw [hd.out]; rfl, hB⟩
def some12 (b : Bkt12) : Bool := decide (b.st ≠ 0)
theorem fre1st_of12 {B : List Bkt12} {k : Nat} {x : Bkt12} (hx : B[k]? = some x) (h : (B.take k).all some12 = true) (h0 : x.st = 0) : fre1st12 B = k := by
  have hi : k < B.length := (List.getElem?_eq_some_iff.1 hx).1
  rw [fre1st12, List.findIdx_eq hi]
  rw [List.getElem?_eq_getElem hi] at hx
  refine ⟨by rw [Option.some.inj hx]; simpa using h0, fun j hj => ?_⟩
  have := List.all_eq_true.1 h B[j] (by rw [List.mem_iff_getElem?]; exact ⟨j, by rw [List.getElem?_take_of_lt hj, List.getElem?_eq_getElem (by omega)]⟩)
  simpa [some12] using this

set_option maxRecDepth 100000 in
set_option maxHeartbeats 4000000 in
theorem index_any12 (s : Sto12) (A : Option Addr) (c : Nat) (w : World) (h : InS w s A c) (hf : s.B.length ≤ 4096) (h0 : 0 < cnt12 s.B 0) :
    Calls Try.prog 51 #[.slice A s.B.length c, .func (.func 49) #[] #[]] w fun e w' => e = .returned (.int .i64 (fre1st12 s.B : Int)) ∧ Below w.heap.size w w' := by
  have HI := Lib.hid h
  have HF := Lib.hid hf
  have H0 := Lib.hid (fre1st_lt12 h0)
  clear h hf h0
  go_enter Try.func51, Try.ntmps51
  go_wp2
  go_loopw [8] (fun i wr => ∃ k : Nat, k ≤ s.B.length ∧ i = .int .i64 (k : Int) ∧ All12 some12 (s.B.take k) ∧ Below w.heap.size w wr) (fun i _ => s.B.length - (intOf i).toNat)
  case atStart => exact ⟨0, by omega, rfl, ⟨rfl⟩, Below.refl _ _⟩
  case round =>
    obtain ⟨k, hk, rfl, hal, hB⟩ := hrel
    by_cases hlt : k < s.B.length
    · have hkx : s.B[k]? = some s.B[k] := List.getElem?_eq_getElem hlt
      generalize s.B[k] = x at hkx
      obtain ⟨b, off, rfl, hb, hr⟩ := (HI.out.keep hB).b.bkt hkx
      have hk1 : (k : Int) < (s.B.length : Int) := by omega
      have w1i := IntWalk.i64_in ((k : Int) + 1) (by have := HF.out; omega)
      obtain ⟨st, xl, xc⟩ := x
      have HA := Lib.hid hal
      have HK := Lib.hid hkx
      clear hal hkx
      by_cases h1 : st = 0
      · subst h1
        have HE := Lib.hid (fre1st_of12 HK.out HA.out.out rfl)
        go_wp2_with (first | (refine wpList_load_mid rfl 25 _ rfl b (off + k * 3) rfl _ _ hr Try.underlying25 rfl infoBkt12 ?_) | (go_at_call 49; refine (isFree_any12 _ _ _ _).mono ?_; rintro e w1 ⟨rfl, hb1⟩))
        go_ret
        exact ⟨by rw [HE.out]; rfl, hB.trans (hb1.mono hB.size)⟩
      · have ho : All12 some12 (s.B.take (k + 1)) := ⟨all_take12 HK.out HA.out.out (by simp [some12, h1])⟩
        have hd := decide_eq_false h1
        go_wp2_with (first | (refine wpList_load_mid rfl 25 _ rfl b (off + k * 3) rfl _ _ hr Try.underlying25 rfl infoBkt12 ?_) | (go_at_call 49; refine (isFree_any12 _ _ _ _).mono ?_; rintro e w1 ⟨rfl, hb1⟩))
        go_roundw
        case rel => exact ⟨k + 1, by omega, by go_num, ho, hB.trans (hb1.mono hB.size)⟩
        case measure => simp [intOf]; omega
    · obtain rfl : k = s.B.length := by omega
      exfalso
      have h2 := hal.out
      rw [List.take_length] at h2
      obtain ⟨f1, f2⟩ := H0.out
      have := List.all_eq_true.1 h2 (at12 s.B (fre1st12 s.B)) (by rw [at_get12 f1]; exact List.getElem_mem f1)
      simp [some12, f2] at this

set_option maxRecDepth 100000 in
set_option maxHeartbeats 4000000 in
theorem onw_reg12 (W0 : World) (D1 D4 nb : Nat) (A : Option Addr) (c : Nat) (c1 c2 : Value) (h : Int) (iq : Is W0 D1 31 #[.slice A nb c, c1, c2]) (i4 : Is W0 D4 77 #[.func (.func 49) #[] #[]]) (HX : Hid (∀ W, Below W0.heap.size W0 W → Calls Try.prog 51 #[.slice A nb c, .func (.func 49) #[] #[]] W fun e W' => e = .returned (.int .i64 h) ∧ Below W.heap.size W W')) (x0 x2 x3 x5 x6 x7 x8 x9 x10 x11 x12 x13 x14 x15 x16 x17 x18 x19 x20 x21 x22 x23 x24 x25 x26 x27 x28 x29 x30 x31 x32 x33 x34 x35 x36 x37 x38 x39 x40 : Value) :
    (Code.region 4 (opsOf Try.f38 4) true).wp Try.prog (fun ex YY W => ex = .normal ∧ YY.defers = [] ∧ ∃ (DR : Nat), YY.tmps = #[x0, .pointer (some ⟨D1, 0, none⟩), x2, x3, .pointer (some ⟨D4, 0, none⟩), x5, x6, x7, x8, x9, x10, .agg #[.slice A nb c, c1, c2], .pointer (some ⟨D1, 0, none⟩), .slice A nb c, .func (.func 49) #[] #[], .int .i64 h, .func (.func 59) #[] #[.pointer (some ⟨DR, 0, none⟩), .pointer (some ⟨DR + 1, 0, none⟩)], x17, x18, x19, x20, x21, x22, x23, x24, x25, x26, x27, x28, x29, x30, x31, x32, x33, x34, x35, x36, x37, x38, x39, x40] ∧ Below W0.heap.size W0 W ∧ Is W DR 31 #[.slice A nb c, c1, c2] ∧ Is W (DR + 1) 3 #[.int .i64 h] ∧ W0.heap.size ≤ DR) { tmps := #[x0, .pointer (some ⟨D1, 0, none⟩), x2, x3, .pointer (some ⟨D4, 0, none⟩), x5, x6, x7, x8, x9, x10, x11, x12, x13, x14, x15, x16, x17, x18, x19, x20, x21, x22, x23, x24, x25, x26, x27, x28, x29, x30, x31, x32, x33, x34, x35, x36, x37, x38, x39, x40], defers := [] } W0 := by
  have hB : Below W0.heap.size W0 (W0.drewN 1) := belowN (Below.refl _ _) 1
  generalize hQ : (fun (ex : Exit) (YY : Act) (W : World) => ex = .normal ∧ YY.defers = [] ∧ ∃ (DR : Nat), YY.tmps = #[x0, .pointer (some ⟨D1, 0, none⟩), x2, x3, .pointer (some ⟨D4, 0, none⟩), x5, x6, x7, x8, x9, x10, .agg #[.slice A nb c, c1, c2], .pointer (some ⟨D1, 0, none⟩), .slice A nb c, .func (.func 49) #[] #[], .int .i64 h, .func (.func 59) #[] #[.pointer (some ⟨DR, 0, none⟩), .pointer (some ⟨DR + 1, 0, none⟩)], x17, x18, x19, x20, x21, x22, x23, x24, x25, x26, x27, x28, x29, x30, x31, x32, x33, x34, x35, x36, x37, x38, x39, x40] ∧ Below W0.heap.size W0 W ∧ Is W DR 31 #[.slice A nb c, c1, c2] ∧ Is W (DR + 1) 3 #[.int .i64 h] ∧ W0.heap.size ≤ DR) = Q
  have HQN : ∀ c a W, ¬ Q (.panic c) a W := fun c a W h => by subst hQ; exact nomatch h.1
  have ST4_5 : ∀ (W : World) (DR : Nat), Below W0.heap.size W0 W → Is W DR 31 #[.slice A nb c, c1, c2] → Is W (DR + 1) 3 #[.int .i64 h] → W0.heap.size ≤ DR → wpAnyH Try.prog .any (opsOf Try.f38 4) Q (fun W => Below W0.heap.size W0 W) 0 #[true, true, true, true, true, true] { tmps := #[x0, .pointer (some ⟨D1, 0, none⟩), x2, x3, .pointer (some ⟨D4, 0, none⟩), x5, x6, x7, x8, x9, x10, .agg #[.slice A nb c, c1, c2], .pointer (some ⟨D1, 0, none⟩), .slice A nb c, .func (.func 49) #[] #[], .int .i64 h, .func (.func 59) #[] #[.pointer (some ⟨DR, 0, none⟩), .pointer (some ⟨DR + 1, 0, none⟩)], x17, x18, x19, x20, x21, x22, x23, x24, x25, x26, x27, x28, x29, x30, x31, x32, x33, x34, x35, x36, x37, x38, x39, x40], defers := [] } W := by
    intro W DR hB iR iF hD
    refine wpAnyH_done (by kernel_rfl) ?_ _
    subst hQ
    exact ⟨rfl, rfl, DR, rfl, hB, iR, iF, hD⟩
  have ST4 : ∀ (W : World), Below W0.heap.size W0 W → wpAnyH Try.prog .any (opsOf Try.f38 4) Q (fun W => Below W0.heap.size W0 W) 1 #[true, true, true, true, true, false] { tmps := #[x0, .pointer (some ⟨D1, 0, none⟩), x2, x3, .pointer (some ⟨D4, 0, none⟩), x5, x6, x7, x8, x9, x10, .agg #[.slice A nb c, c1, c2], .pointer (some ⟨D1, 0, none⟩), .slice A nb c, .func (.func 49) #[] #[], .int .i64 h, x16, x17, x18, x19, x20, x21, x22, x23, x24, x25, x26, x27, x28, x29, x30, x31, x32, x33, x34, x35, x36, x37, x38, x39, x40], defers := [] } W := by
    intro W hB
    refine wpAnyH_ready (by kernel_rfl) (by simp) (AllReadyH.cons (i := 5) (at_nth rfl) ?_ (AllReadyH.nil))
    · refine arm10_call (by kernel_rfl) (fun wy => by kernel_rfl) ((round_any12 (.slice A nb c) c1 c2 h W).mono ?_)
      rintro e Wn ⟨rfl, rfl⟩
      have iR : Is ((W.alloc (.cells #[.slice A nb c, c1, c2] 31)).alloc (.cells #[.int .i64 h] 3)) W.heap.size 31 #[.slice A nb c, c1, c2] := heap_alloc2_old W _ _
      have iF : Is ((W.alloc (.cells #[.slice A nb c, c1, c2] 31)).alloc (.cells #[.int .i64 h] 3)) (W.heap.size + 1) 3 #[.int .i64 h] := heap_alloc2_new W _ _
      have hD := hB.size
      replace hB := (hB.alloc hB.size (.cells #[.slice A nb c, c1, c2] 31)).alloc (by simp; omega) (.cells #[.int .i64 h] 3)
      refine ⟨_, rfl, hB, ?_⟩
      simp only [Act.put, List.setIfInBounds_toArray, List.set_cons_succ, List.set_cons_zero]
      exact ST4_5 _ _ hB iR iF hD
  have ST : ∀ (W : World), Below W0.heap.size W0 W → wpAnyH Try.prog .any (opsOf Try.f38 4) Q (fun W => Below W0.heap.size W0 W) 2 #[true, true, true, true, false, false] { tmps := #[x0, .pointer (some ⟨D1, 0, none⟩), x2, x3, .pointer (some ⟨D4, 0, none⟩), x5, x6, x7, x8, x9, x10, .agg #[.slice A nb c, c1, c2], .pointer (some ⟨D1, 0, none⟩), .slice A nb c, .func (.func 49) #[] #[], x15, x16, x17, x18, x19, x20, x21, x22, x23, x24, x25, x26, x27, x28, x29, x30, x31, x32, x33, x34, x35, x36, x37, x38, x39, x40], defers := [] } W := by
    intro W hB
    refine wpAnyH_ready (by kernel_rfl) (by simp) (AllReadyH.cons (i := 4) (at_nth rfl) ?_ (AllReadyH.nil))
    · refine arm10_call (by kernel_rfl) (fun wy => by kernel_rfl) ((HX.out _ hB).mono ?_)
      rintro e Wn ⟨rfl, hb⟩
      replace hB := hB.trans (hb.mono hB.size)
      clear hb
      refine ⟨_, rfl, hB, ?_⟩
      simp only [Act.put, List.setIfInBounds_toArray, List.set_cons_succ, List.set_cons_zero]
      exact ST4 _ hB
  refine wp_region_held_drew (S := fun W => Below W0.heap.size W0 W) (by kernel_rfl) hB (fun hS => ?_)
  change wpAnyH _ _ (opsOf Try.f38 4) _ _ 6 (Array.replicate 6 false) _ (W0.drewN 1)
  clear hS
  replace hB : Below W0.heap.size W0 (W0.drewN 1) := belowN (Below.refl _ _) 1
  refine wpAnyH_pure (i := 0) (v := .agg #[.slice A nb c, c1, c2]) (at_nth rfl) (by kernel_rfl) (by kernel_rfl) (by kernel_rfl) (fun _ _ _ h => absurd h (HQN _ _ _)) (by kernel_rfl) (fun w hSw => by exact run_load_rowO (x := .tmp 1) (by kernel_rfl) (by kernel_rfl) (iq.below hSw iq.lt) Try.underlying31 rfl infoSto12) hB ?_
  simp only [Act.put, List.setIfInBounds_toArray, List.set_cons_succ, List.set_cons_zero]
  refine wpAnyH_pure (i := 1) (v := .pointer (some ⟨D1, 0, none⟩)) (at_nth rfl) (by kernel_rfl) (by kernel_rfl) (by kernel_rfl) (fun _ _ _ h => absurd h (HQN _ _ _)) (by kernel_rfl) (fun w hSw => by go_simp) hB ?_
  simp only [Act.put, List.setIfInBounds_toArray, List.set_cons_succ, List.set_cons_zero]
  refine wpAnyH_pure (i := 2) (v := .slice A nb c) (at_nth rfl) (by kernel_rfl) (by kernel_rfl) (by kernel_rfl) (fun _ _ _ h => absurd h (HQN _ _ _)) (by kernel_rfl) (fun w hSw => by (have hc := (iq.below hSw iq.lt).cell 0; go_simp)) hB ?_
  simp only [Act.put, List.setIfInBounds_toArray, List.set_cons_succ, List.set_cons_zero]
  refine wpAnyH_pure (i := 3) (v := .func (.func 49) #[] #[]) (at_nth rfl) (by kernel_rfl) (by kernel_rfl) (by kernel_rfl) (fun _ _ _ h => absurd h (HQN _ _ _)) (by kernel_rfl) (fun w hSw => by (have hc := (i4.below hSw i4.lt).cell 0; go_simp)) hB ?_
  simp only [Act.put, List.setIfInBounds_toArray, List.set_cons_succ, List.set_cons_zero]
  exact ST _ hB

set_option maxRecDepth 100000 in
set_option maxHeartbeats 4000000 in
theorem onw_on12 (lR nR : Nat) (W0 : World) (DX D3 D5 : Nat) (st p h n d r : Int) (g : Bool) (xl xc : ByteArray) (ix : Is W0 DX 25 #[.int .i64 st, .string xl, .string xc]) (i3 : Is W0 D3 3 #[.int .i64 n]) (i5 : Is W0 D5 3 #[.int .i64 r]) (HE : Hid (∀ W, (binOp .eql 3 (.int .i64 st) (.int .i64 1)).run Try.prog W = .ok (.bool true) W)) (HS : Hid (∀ W, (binOp .sub 3 (.int .i64 p) (.int .i64 h)).run Try.prog W = .ok (.int .i64 (p - h)) W)) (HA : Hid (∀ W, (binOp .add 3 (.int .i64 (p - h)) (.int .i64 n)).run Try.prog W = .ok (.int .i64 (p - h + n)) W)) (HR : Hid (∀ W, (binOp .rem 3 (.int .i64 (p - h + n)) (.int .i64 n)).run Try.prog W = .ok (.int .i64 d) W)) (HG : Hid (∀ W, (binOp .geq 3 (.int .i64 d) (.int .i64 r)).run Try.prog W = .ok (.bool g) W)) (HH : Hid (∀ W, Calls Try.prog 14 #[.string xl, .int .i64 n] W fun e W' => e = .returned (.int .i64 h) ∧ W = W')) (x0 x1 x2 x4 x8 x9 x10 x11 x12 x13 x14 x15 x16 x17 x18 x19 x20 x21 x22 x23 x24 x25 x26 x27 x28 x29 x30 x31 x32 x33 x34 x35 x36 x37 x38 x39 x40 : Value) :
    (Code.region 10 (opsOf Try.f38 10) true).wpIn (Fence.wide.inRound lR) nR Try.prog (fun ex YY W => ex = .normal ∧ YY.defers = [] ∧ ∃ (_ : Unit), YY.tmps = #[x0, x1, x2, .pointer (some ⟨D3, 0, none⟩), x4, .pointer (some ⟨D5, 0, none⟩), .int .i64 p, .pointer (some ⟨DX, 0, none⟩), x8, x9, x10, x11, x12, x13, x14, x15, x16, x17, x18, x19, x20, x21, x22, x23, .pointer (some ⟨DX, 0, none⟩), .int .i64 st, .bool true, .bool true, .int .i64 p, .pointer (some ⟨DX, 1, none⟩), .string xl, .int .i64 n, .int .i64 h, .int .i64 (p - h), .int .i64 n, .int .i64 (p - h + n), .int .i64 n, .int .i64 d, .int .i64 r, .bool g, .bool g] ∧ Below W0.heap.size W0 W) { tmps := #[x0, x1, x2, .pointer (some ⟨D3, 0, none⟩), x4, .pointer (some ⟨D5, 0, none⟩), .int .i64 p, .pointer (some ⟨DX, 0, none⟩), x8, x9, x10, x11, x12, x13, x14, x15, x16, x17, x18, x19, x20, x21, x22, x23, x24, x25, x26, x27, x28, x29, x30, x31, x32, x33, x34, x35, x36, x37, x38, x39, x40], defers := [] } W0 := by
  have hB : Below W0.heap.size W0 (W0.drewN 1) := belowN (Below.refl _ _) 1
  generalize hQ : (fun (ex : Exit) (YY : Act) (W : World) => ex = .normal ∧ YY.defers = [] ∧ ∃ (_ : Unit), YY.tmps = #[x0, x1, x2, .pointer (some ⟨D3, 0, none⟩), x4, .pointer (some ⟨D5, 0, none⟩), .int .i64 p, .pointer (some ⟨DX, 0, none⟩), x8, x9, x10, x11, x12, x13, x14, x15, x16, x17, x18, x19, x20, x21, x22, x23, .pointer (some ⟨DX, 0, none⟩), .int .i64 st, .bool true, .bool true, .int .i64 p, .pointer (some ⟨DX, 1, none⟩), .string xl, .int .i64 n, .int .i64 h, .int .i64 (p - h), .int .i64 n, .int .i64 (p - h + n), .int .i64 n, .int .i64 d, .int .i64 r, .bool g, .bool g] ∧ Below W0.heap.size W0 W) = Q
  have HQN : ∀ c a W, ¬ Q (.panic c) a W := fun c a W h => by subst hQ; exact nomatch h.1
  have ST8 : ∀ (W : World), Below W0.heap.size W0 W → wpAnyH Try.prog .any (opsOf Try.f38 10) Q (fun W => Below W0.heap.size W0 W) 0 #[true, true, true, true, true, true, true, true, true, true, true, true, true, true, true, true, true] { tmps := #[x0, x1, x2, .pointer (some ⟨D3, 0, none⟩), x4, .pointer (some ⟨D5, 0, none⟩), .int .i64 p, .pointer (some ⟨DX, 0, none⟩), x8, x9, x10, x11, x12, x13, x14, x15, x16, x17, x18, x19, x20, x21, x22, x23, .pointer (some ⟨DX, 0, none⟩), .int .i64 st, .bool true, .bool true, .int .i64 p, .pointer (some ⟨DX, 1, none⟩), .string xl, .int .i64 n, .int .i64 h, .int .i64 (p - h), .int .i64 n, .int .i64 (p - h + n), .int .i64 n, .int .i64 d, .int .i64 r, .bool g, .bool g], defers := [] } W := by
    intro W hB
    refine wpAnyH_done (by kernel_rfl) ?_ _
    subst hQ
    exact ⟨rfl, rfl, (), rfl, hB⟩
  have ST : ∀ (W : World), Below W0.heap.size W0 W → wpAnyH Try.prog .any (opsOf Try.f38 10) Q (fun W => Below W0.heap.size W0 W) 6 #[true, true, true, true, true, true, true, true, false, false, true, false, true, false, true, false, false] { tmps := #[x0, x1, x2, .pointer (some ⟨D3, 0, none⟩), x4, .pointer (some ⟨D5, 0, none⟩), .int .i64 p, .pointer (some ⟨DX, 0, none⟩), x8, x9, x10, x11, x12, x13, x14, x15, x16, x17, x18, x19, x20, x21, x22, x23, .pointer (some ⟨DX, 0, none⟩), .int .i64 st, .bool true, .bool true, .int .i64 p, .pointer (some ⟨DX, 1, none⟩), .string xl, .int .i64 n, x32, x33, .int .i64 n, x35, .int .i64 n, x37, .int .i64 r, x39, x40], defers := [] } W := by
    intro W hB
    refine wpAnyH_ready (by kernel_rfl) (by simp) (AllReadyH.cons (i := 8) (at_nth rfl) ?_ (AllReadyH.nil))
    · refine arm10_call (by kernel_rfl) (fun wy => by kernel_rfl) ((HH.out _).mono ?_)
      rintro e Wn ⟨rfl, rfl⟩
      refine ⟨_, rfl, hB, ?_⟩
      simp only [Act.put, List.setIfInBounds_toArray, List.set_cons_succ, List.set_cons_zero]
      refine wpAnyH_pure (i := 9) (v := .int .i64 (p - h)) (at_nth rfl) (by kernel_rfl) (by kernel_rfl) (by kernel_rfl) (fun _ _ _ h => absurd h (HQN _ _ _)) (by kernel_rfl) (fun w hSw => by exact exec_bin10 rfl rfl rfl (HS.out _) (by go_simp)) hB ?_
      simp only [Act.put, List.setIfInBounds_toArray, List.set_cons_succ, List.set_cons_zero]
      refine wpAnyH_pure (i := 11) (v := .int .i64 (p - h + n)) (at_nth rfl) (by kernel_rfl) (by kernel_rfl) (by kernel_rfl) (fun _ _ _ h => absurd h (HQN _ _ _)) (by kernel_rfl) (fun w hSw => by exact exec_bin10 rfl rfl rfl (HA.out _) (by go_simp)) hB ?_
      simp only [Act.put, List.setIfInBounds_toArray, List.set_cons_succ, List.set_cons_zero]
      refine wpAnyH_pure (i := 13) (v := .int .i64 d) (at_nth rfl) (by kernel_rfl) (by kernel_rfl) (by kernel_rfl) (fun _ _ _ h => absurd h (HQN _ _ _)) (by kernel_rfl) (fun w hSw => by exact exec_bin10 rfl rfl rfl (HR.out _) (by go_simp)) hB ?_
      simp only [Act.put, List.setIfInBounds_toArray, List.set_cons_succ, List.set_cons_zero]
      refine wpAnyH_pure (i := 15) (v := .bool g) (at_nth rfl) (by kernel_rfl) (by kernel_rfl) (by kernel_rfl) (fun _ _ _ h => absurd h (HQN _ _ _)) (by kernel_rfl) (fun w hSw => by exact exec_bin10 rfl rfl rfl (HG.out _) (by go_simp)) hB ?_
      simp only [Act.put, List.setIfInBounds_toArray, List.set_cons_succ, List.set_cons_zero]
      refine wpAnyH_pure (i := 16) (v := .bool g) (at_nth rfl) (by kernel_rfl) (by kernel_rfl) (by kernel_rfl) (fun _ _ _ h => absurd h (HQN _ _ _)) (by kernel_rfl) (fun w hSw => by kernel_rfl) hB ?_
      simp only [Act.put, List.setIfInBounds_toArray, List.set_cons_succ, List.set_cons_zero]
      exact ST8 _ hB
  refine regIn_of12 (S := fun W => Below W0.heap.size W0 W) (by kernel_rfl) (by kernel_rfl) (fun h => by obtain ⟨_, _, h⟩ := h; subst hQ; exact nomatch h.1) ?_
  change wpAnyH _ _ (opsOf Try.f38 10) _ _ 17 (Array.replicate 17 false) _ (W0.drewN 1)
  replace hB : Below W0.heap.size W0 (W0.drewN 1) := belowN (Below.refl _ _) 1
  refine wpAnyH_pure (i := 0) (v := .pointer (some ⟨DX, 0, none⟩)) (at_nth rfl) (by kernel_rfl) (by kernel_rfl) (by kernel_rfl) (fun _ _ _ h => absurd h (HQN _ _ _)) (by kernel_rfl) (fun w hSw => by go_simp) hB ?_
  simp only [Act.put, List.setIfInBounds_toArray, List.set_cons_succ, List.set_cons_zero]
  refine wpAnyH_pure (i := 1) (v := .int .i64 st) (at_nth rfl) (by kernel_rfl) (by kernel_rfl) (by kernel_rfl) (fun _ _ _ h => absurd h (HQN _ _ _)) (by kernel_rfl) (fun w hSw => by (have hc := (ix.below hSw ix.lt).cell 0; go_simp)) hB ?_
  simp only [Act.put, List.setIfInBounds_toArray, List.set_cons_succ, List.set_cons_zero]
  refine wpAnyH_pure (i := 2) (v := .bool true) (at_nth rfl) (by kernel_rfl) (by kernel_rfl) (by kernel_rfl) (fun _ _ _ h => absurd h (HQN _ _ _)) (by kernel_rfl) (fun w hSw => by exact exec_bin10 rfl rfl rfl (HE.out _) (by go_simp)) hB ?_
  simp only [Act.put, List.setIfInBounds_toArray, List.set_cons_succ, List.set_cons_zero]
  refine wpAnyH_pure (i := 3) (v := .bool true) (at_nth rfl) (by kernel_rfl) (by kernel_rfl) (by kernel_rfl) (fun _ _ _ h => absurd h (HQN _ _ _)) (by kernel_rfl) (fun w hSw => by kernel_rfl) hB ?_
  simp only [Act.put, List.setIfInBounds_toArray, List.set_cons_succ, List.set_cons_zero]
  refine wpAnyH_pure (i := 4) (v := .int .i64 p) (at_nth rfl) (by kernel_rfl) (by kernel_rfl) (by kernel_rfl) (fun _ _ _ h => absurd h (HQN _ _ _)) (by kernel_rfl) (fun w hSw => by kernel_rfl) hB ?_
  simp only [Act.put, List.setIfInBounds_toArray, List.set_cons_succ, List.set_cons_zero]
  refine wpAnyH_pure (i := 5) (v := .pointer (some ⟨DX, 1, none⟩)) (at_nth rfl) (by kernel_rfl) (by kernel_rfl) (by kernel_rfl) (fun _ _ _ h => absurd h (HQN _ _ _)) (by kernel_rfl) (fun w hSw => by go_simp) hB ?_
  simp only [Act.put, List.setIfInBounds_toArray, List.set_cons_succ, List.set_cons_zero]
  refine wpAnyH_pure (i := 6) (v := .string xl) (at_nth rfl) (by kernel_rfl) (by kernel_rfl) (by kernel_rfl) (fun _ _ _ h => absurd h (HQN _ _ _)) (by kernel_rfl) (fun w hSw => by (have hc := (ix.below hSw ix.lt).cell 1; go_simp)) hB ?_
  simp only [Act.put, List.setIfInBounds_toArray, List.set_cons_succ, List.set_cons_zero]
  refine wpAnyH_pure (i := 7) (v := .int .i64 n) (at_nth rfl) (by kernel_rfl) (by kernel_rfl) (by kernel_rfl) (fun _ _ _ h => absurd h (HQN _ _ _)) (by kernel_rfl) (fun w hSw => by (have hc := (i3.below hSw i3.lt).cell 0; go_simp)) hB ?_
  simp only [Act.put, List.setIfInBounds_toArray, List.set_cons_succ, List.set_cons_zero]
  refine wpAnyH_pure (i := 10) (v := .int .i64 n) (at_nth rfl) (by kernel_rfl) (by kernel_rfl) (by kernel_rfl) (fun _ _ _ h => absurd h (HQN _ _ _)) (by kernel_rfl) (fun w hSw => by (have hc := (i3.below hSw i3.lt).cell 0; go_simp)) hB ?_
  simp only [Act.put, List.setIfInBounds_toArray, List.set_cons_succ, List.set_cons_zero]
  refine wpAnyH_pure (i := 12) (v := .int .i64 n) (at_nth rfl) (by kernel_rfl) (by kernel_rfl) (by kernel_rfl) (fun _ _ _ h => absurd h (HQN _ _ _)) (by kernel_rfl) (fun w hSw => by (have hc := (i3.below hSw i3.lt).cell 0; go_simp)) hB ?_
  simp only [Act.put, List.setIfInBounds_toArray, List.set_cons_succ, List.set_cons_zero]
  refine wpAnyH_pure (i := 14) (v := .int .i64 r) (at_nth rfl) (by kernel_rfl) (by kernel_rfl) (by kernel_rfl) (fun _ _ _ h => absurd h (HQN _ _ _)) (by kernel_rfl) (fun w hSw => by (have hc := (i5.below hSw i5.lt).cell 0; go_simp)) hB ?_
  simp only [Act.put, List.setIfInBounds_toArray, List.set_cons_succ, List.set_cons_zero]
  exact ST _ hB

set_option maxRecDepth 100000 in
set_option maxHeartbeats 4000000 in
theorem onw_off12 (lR nR : Nat) (W0 : World) (DX : Nat) (st : Int) (xl xc : ByteArray) (ix : Is W0 DX 25 #[.int .i64 st, .string xl, .string xc]) (HE : Hid (∀ W, (binOp .eql 3 (.int .i64 st) (.int .i64 1)).run Try.prog W = .ok (.bool false) W)) (x0 x1 x2 x3 x4 x5 x6 x8 x9 x10 x11 x12 x13 x14 x15 x16 x17 x18 x19 x20 x21 x22 x23 x24 x25 x26 x27 x28 x29 x30 x31 x32 x33 x34 x35 x36 x37 x38 x39 x40 : Value) :
    (Code.region 10 (opsOf Try.f38 10) true).wpIn (Fence.wide.inRound lR) nR Try.prog (fun ex YY W => ex = .normal ∧ YY.defers = [] ∧ ∃ (_ : Unit), YY.tmps = #[x0, x1, x2, x3, x4, x5, x6, .pointer (some ⟨DX, 0, none⟩), x8, x9, x10, x11, x12, x13, x14, x15, x16, x17, x18, x19, x20, x21, x22, x23, .pointer (some ⟨DX, 0, none⟩), .int .i64 st, .bool false, .bool false, undef, undef, undef, undef, undef, undef, undef, undef, undef, undef, undef, undef, .bool false] ∧ Below W0.heap.size W0 W) { tmps := #[x0, x1, x2, x3, x4, x5, x6, .pointer (some ⟨DX, 0, none⟩), x8, x9, x10, x11, x12, x13, x14, x15, x16, x17, x18, x19, x20, x21, x22, x23, x24, x25, x26, x27, x28, x29, x30, x31, x32, x33, x34, x35, x36, x37, x38, x39, x40], defers := [] } W0 := by
  have hB : Below W0.heap.size W0 (W0.drewN 1) := belowN (Below.refl _ _) 1
  generalize hQ : (fun (ex : Exit) (YY : Act) (W : World) => ex = .normal ∧ YY.defers = [] ∧ ∃ (_ : Unit), YY.tmps = #[x0, x1, x2, x3, x4, x5, x6, .pointer (some ⟨DX, 0, none⟩), x8, x9, x10, x11, x12, x13, x14, x15, x16, x17, x18, x19, x20, x21, x22, x23, .pointer (some ⟨DX, 0, none⟩), .int .i64 st, .bool false, .bool false, undef, undef, undef, undef, undef, undef, undef, undef, undef, undef, undef, undef, .bool false] ∧ Below W0.heap.size W0 W) = Q
  have HQN : ∀ c a W, ¬ Q (.panic c) a W := fun c a W h => by subst hQ; exact nomatch h.1
  have ST : ∀ (W : World), Below W0.heap.size W0 W → wpAnyH Try.prog .any (opsOf Try.f38 10) Q (fun W => Below W0.heap.size W0 W) 0 #[true, true, true, true, true, true, true, true, true, true, true, true, true, true, true, true, true] { tmps := #[x0, x1, x2, x3, x4, x5, x6, .pointer (some ⟨DX, 0, none⟩), x8, x9, x10, x11, x12, x13, x14, x15, x16, x17, x18, x19, x20, x21, x22, x23, .pointer (some ⟨DX, 0, none⟩), .int .i64 st, .bool false, .bool false, undef, undef, undef, undef, undef, undef, undef, undef, undef, undef, undef, undef, .bool false], defers := [] } W := by
    intro W hB
    refine wpAnyH_done (by kernel_rfl) ?_ _
    subst hQ
    exact ⟨rfl, rfl, (), rfl, hB⟩
  refine regIn_of12 (S := fun W => Below W0.heap.size W0 W) (by kernel_rfl) (by kernel_rfl) (fun h => by obtain ⟨_, _, h⟩ := h; subst hQ; exact nomatch h.1) ?_
  change wpAnyH _ _ (opsOf Try.f38 10) _ _ 17 (Array.replicate 17 false) _ (W0.drewN 1)
  replace hB : Below W0.heap.size W0 (W0.drewN 1) := belowN (Below.refl _ _) 1
  refine wpAnyH_pure (i := 0) (v := .pointer (some ⟨DX, 0, none⟩)) (at_nth rfl) (by kernel_rfl) (by kernel_rfl) (by kernel_rfl) (fun _ _ _ h => absurd h (HQN _ _ _)) (by kernel_rfl) (fun w hSw => by go_simp) hB ?_
  simp only [Act.put, List.setIfInBounds_toArray, List.set_cons_succ, List.set_cons_zero]
  refine wpAnyH_pure (i := 1) (v := .int .i64 st) (at_nth rfl) (by kernel_rfl) (by kernel_rfl) (by kernel_rfl) (fun _ _ _ h => absurd h (HQN _ _ _)) (by kernel_rfl) (fun w hSw => by (have hc := (ix.below hSw ix.lt).cell 0; go_simp)) hB ?_
  simp only [Act.put, List.setIfInBounds_toArray, List.set_cons_succ, List.set_cons_zero]
  refine wpAnyH_pure (i := 2) (v := .bool false) (at_nth rfl) (by kernel_rfl) (by kernel_rfl) (by kernel_rfl) (fun _ _ _ h => absurd h (HQN _ _ _)) (by kernel_rfl) (fun w hSw => by exact exec_bin10 rfl rfl rfl (HE.out _) (by go_simp)) hB ?_
  simp only [Act.put, List.setIfInBounds_toArray, List.set_cons_succ, List.set_cons_zero]
  refine wpAnyH_pure (i := 3) (v := .bool false) (at_nth rfl) (by kernel_rfl) (by kernel_rfl) (by kernel_rfl) (fun _ _ _ h => absurd h (HQN _ _ _)) (by kernel_rfl) (fun w hSw => by kernel_rfl) hB ?_
  simp only [Act.put, List.setIfInBounds_toArray, List.set_cons_succ, List.set_cons_zero]
  refine wpAnyH_take (i := 4) (v := undef) (at_nth rfl) (by kernel_rfl) (by kernel_rfl) (by kernel_rfl) (fun _ _ _ h => absurd h (HQN _ _ _)) (Or.inr ⟨by kernel_rfl, rfl⟩) hB ?_
  simp only [Act.put, List.setIfInBounds_toArray, List.set_cons_succ, List.set_cons_zero]
  refine wpAnyH_take (i := 5) (v := undef) (at_nth rfl) (by kernel_rfl) (by kernel_rfl) (by kernel_rfl) (fun _ _ _ h => absurd h (HQN _ _ _)) (Or.inr ⟨by kernel_rfl, rfl⟩) hB ?_
  simp only [Act.put, List.setIfInBounds_toArray, List.set_cons_succ, List.set_cons_zero]
  refine wpAnyH_take (i := 6) (v := undef) (at_nth rfl) (by kernel_rfl) (by kernel_rfl) (by kernel_rfl) (fun _ _ _ h => absurd h (HQN _ _ _)) (Or.inr ⟨by kernel_rfl, rfl⟩) hB ?_
  simp only [Act.put, List.setIfInBounds_toArray, List.set_cons_succ, List.set_cons_zero]
  refine wpAnyH_take (i := 7) (v := undef) (at_nth rfl) (by kernel_rfl) (by kernel_rfl) (by kernel_rfl) (fun _ _ _ h => absurd h (HQN _ _ _)) (Or.inr ⟨by kernel_rfl, rfl⟩) hB ?_
  simp only [Act.put, List.setIfInBounds_toArray, List.set_cons_succ, List.set_cons_zero]
  refine wpAnyH_take (i := 8) (v := undef) (at_nth rfl) (by kernel_rfl) (by kernel_rfl) (by kernel_rfl) (fun _ _ _ h => absurd h (HQN _ _ _)) (Or.inr ⟨by kernel_rfl, rfl⟩) hB ?_
  simp only [Act.put, List.setIfInBounds_toArray, List.set_cons_succ, List.set_cons_zero]
  refine wpAnyH_take (i := 9) (v := undef) (at_nth rfl) (by kernel_rfl) (by kernel_rfl) (by kernel_rfl) (fun _ _ _ h => absurd h (HQN _ _ _)) (Or.inr ⟨by kernel_rfl, rfl⟩) hB ?_
  simp only [Act.put, List.setIfInBounds_toArray, List.set_cons_succ, List.set_cons_zero]
  refine wpAnyH_take (i := 10) (v := undef) (at_nth rfl) (by kernel_rfl) (by kernel_rfl) (by kernel_rfl) (fun _ _ _ h => absurd h (HQN _ _ _)) (Or.inr ⟨by kernel_rfl, rfl⟩) hB ?_
  simp only [Act.put, List.setIfInBounds_toArray, List.set_cons_succ, List.set_cons_zero]
  refine wpAnyH_take (i := 11) (v := undef) (at_nth rfl) (by kernel_rfl) (by kernel_rfl) (by kernel_rfl) (fun _ _ _ h => absurd h (HQN _ _ _)) (Or.inr ⟨by kernel_rfl, rfl⟩) hB ?_
  simp only [Act.put, List.setIfInBounds_toArray, List.set_cons_succ, List.set_cons_zero]
  refine wpAnyH_take (i := 12) (v := undef) (at_nth rfl) (by kernel_rfl) (by kernel_rfl) (by kernel_rfl) (fun _ _ _ h => absurd h (HQN _ _ _)) (Or.inr ⟨by kernel_rfl, rfl⟩) hB ?_
  simp only [Act.put, List.setIfInBounds_toArray, List.set_cons_succ, List.set_cons_zero]
  refine wpAnyH_take (i := 13) (v := undef) (at_nth rfl) (by kernel_rfl) (by kernel_rfl) (by kernel_rfl) (fun _ _ _ h => absurd h (HQN _ _ _)) (Or.inr ⟨by kernel_rfl, rfl⟩) hB ?_
  simp only [Act.put, List.setIfInBounds_toArray, List.set_cons_succ, List.set_cons_zero]
  refine wpAnyH_take (i := 14) (v := undef) (at_nth rfl) (by kernel_rfl) (by kernel_rfl) (by kernel_rfl) (fun _ _ _ h => absurd h (HQN _ _ _)) (Or.inr ⟨by kernel_rfl, rfl⟩) hB ?_
  simp only [Act.put, List.setIfInBounds_toArray, List.set_cons_succ, List.set_cons_zero]
  refine wpAnyH_take (i := 15) (v := undef) (at_nth rfl) (by kernel_rfl) (by kernel_rfl) (by kernel_rfl) (fun _ _ _ h => absurd h (HQN _ _ _)) (Or.inr ⟨by kernel_rfl, rfl⟩) hB ?_
  simp only [Act.put, List.setIfInBounds_toArray, List.set_cons_succ, List.set_cons_zero]
  refine wpAnyH_pure (i := 16) (v := .bool false) (at_nth rfl) (by kernel_rfl) (by kernel_rfl) (by kernel_rfl) (fun _ _ _ h => absurd h (HQN _ _ _)) (by kernel_rfl) (fun w hSw => by kernel_rfl) hB ?_
  simp only [Act.put, List.setIfInBounds_toArray, List.set_cons_succ, List.set_cons_zero]
  exact ST _ hB
end Go.Proofs.Ytglcckpkbnppoaa
