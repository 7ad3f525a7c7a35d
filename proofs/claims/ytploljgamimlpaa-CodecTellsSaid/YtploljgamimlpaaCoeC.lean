/-
  Contracts of the statements' own pick and Few, and of the document's own Texts, where both lists are one.
-/
import Derived.Test.YtploljgamimlpaaCoeB
import Derived.Test.YtploljgamimlpaaPick
import Derived.Test.YtploljgamimlpaaOps
import Derived.Lib.MinMax
namespace Go.Proofs.Ytploljgamimlpaa
open Go.RowKit Go.Shelf

set_option maxHeartbeats 1000000 in
theorem pick10_any (c n : Int) (w : World) (h0 : -9223372036854775808 ≤ c) (h1 : c ≤ 9223372036854775807) (hn : 0 < n) (hn2 : n ≤ 9223372036854775807) :
    Calls Try.prog 10 #[.int .i64 c, .int .i64 n] w fun e w' => e = .returned (.int .i64 (pickN c n)) ∧ w = w' := by
  by_cases hc : c < 0
  · have hd : pickN c n = (-(c + 1)) % n := by simp [pickN, hc]
    rw [hd]
    clear hd
    go_enter Try.func10, Try.ntmps10
    go_wp2
    go_ret
    refine ⟨?_, rfl⟩
    have e : -((c + 1).tmod n) = (-(c + 1)) % n := by rw [← Int.neg_tmod, Int.tmod_eq_emod_of_nonneg (by omega)]
    rw [← e]
    rfl
  · have hd : pickN c n = c % n := by simp [pickN, hc]
    rw [hd]
    clear hd
    go_enter Try.func10, Try.ntmps10
    go_wp2
    go_ret
    exact ⟨rfl, rfl⟩

/-- at most so many bytes of a text. -/
def cut10 (n : Nat) (s : ByteArray) : ByteArray := s.extract 0 (min s.size n)
theorem cut_size10 (n : Nat) (s : ByteArray) : (cut10 n s).size = min s.size n := by simp [cut10]
theorem run_cut10 (n : Nat) (s : ByteArray) (wx : World) : (Instr.slice 9 (.string s) none (some (.int .i64 (min (s.size : Int) (n : Int)))) none).run Try.prog wx = .ok (.string (cut10 n s)) wx := by
  obtain ⟨m, hm⟩ : ∃ m : Nat, m = min s.size n := ⟨_, rfl⟩
  have := run_slice_string_h (P := Try.prog) (w := wx) (t := 9) (s := s) Try.underlying9 .i64 (m : Int) (by omega) (by omega)
  rw [Int.toNat_natCast] at this
  rw [show min (s.size : Int) (n : Int) = (m : Int) by omega, cut10, ← hm]
  exact this
theorem exec_append10 {P : Program} {o : Oper} {a : Act} {s x : Operand} {t : TypeId} {v u r : Value} {w w' : World} (ho : o.op = .call { callee := .builtin .append, args := #[s, x], argTypes := #[t, t] }) (hs : a.eval s = v) (hx : a.eval x = u)
    (hr : (Builtin.append_ #[t, t] o.type #[v, u]).run P w = .ok r w') : (execOp a.eval o).run P w = .ok (.value r) w' := by
  simp [execOp, ho, resolve, invoke, builtin, hs, hx, hr, Result.andThen]
def fewK10 (l : List ByteArray) (k : Nat) : List ByteArray := (l.take k).map (cut10 50)
def fewL10 (l : List ByteArray) : List ByteArray := fewK10 l 12
theorem few_len10 (l : List ByteArray) : (fewL10 l).length ≤ 12 := by simp [fewL10, fewK10]; omega
theorem few_sz10 (l : List ByteArray) : ∀ s ∈ fewL10 l, s.size ≤ 50 := fun s hs => by
  obtain ⟨x, _, rfl⟩ := List.mem_map.1 hs
  rw [cut_size10]; omega
theorem few_step10 {l : List ByteArray} {k : Nat} {x : ByteArray} (h : l[k]? = some x) : fewK10 l (k + 1) = fewK10 l k ++ [cut10 50 x] := by
  rw [fewK10, take_snoc10 h, List.map_append]; rfl
theorem few_end10 {l : List ByteArray} {k : Nat} (hk : k ≤ l.length) (h12 : k ≤ 12) (h : ¬ (k < l.length ∧ k < 12)) : fewK10 l k = fewL10 l ∧ k = (fewL10 l).length := by
  have e : fewK10 l k = fewL10 l := by
    by_cases h1 : k < 12
    · have : k = l.length := by omega
      rw [fewL10, fewK10, fewK10, List.take_of_length_le (by omega), List.take_of_length_le (by omega)]
    · have : k = 12 := by omega
      rw [this]; rfl
  refine ⟨e, ?_⟩
  rw [← e, fewK10, List.length_map, List.length_take]; omega
/-- a short list's bytes. -/
theorem cat_few10 {l : List ByteArray} (hl : l.length ≤ 12) (hs : ∀ s ∈ l, s.size ≤ 50) : (lst10 l).size ≤ 652 := by
  have h := cat_bd10 hs l.length
  rw [List.take_length] at h
  have h2 := Nat.mul_le_mul_right (50 + 4) hl
  rw [lst_size10]; omega

set_option maxRecDepth 100000 in
set_option maxHeartbeats 4000000 in
theorem few_any10 (A : Option Addr) (cap : Nat) (l : List ByteArray) (w : World) (hm : l.length ≤ 9223372036854775807) (hc : InV w A (tL10 l)) :
    Calls Try.prog 13 #[.slice A l.length cap] w fun e w' => ∃ A' c', e = .returned (.slice A' (fewL10 l).length c') ∧ Lst10 w.heap.size w' A' (fewL10 l) ∧ Below w.heap.size w w' := by
  obtain ⟨i0, hi, hz0, hz1, hz2⟩ := info_parts infoTxt10
  have HC := Lib.hid hc
  clear hc
  go_enter Try.func13, Try.ntmps13
  go_wp2
  go_loopw [3, 4] (fun v i wr => ∃ k A' c', k ≤ l.length ∧ k ≤ 12 ∧ i = .int .i64 (k : Int) ∧ v = .slice A' k c' ∧ RowV wr w.heap.size 9 1 A' c' k (tL10 (fewK10 l k)) ∧ Below w.heap.size w wr)
    (fun _ i _ => 12 - (intOf i).toNat)
  case atStart => exact ⟨0, none, 0, by omega, by omega, rfl, rfl, RowV.nil _ _ _ _, Below.refl _ _⟩
  case round =>
    obtain ⟨k, A', c', hk, hk12, rfl, rfl, hrow, hB⟩ := hrel
    by_cases hlt : k < l.length ∧ k < 12
    · obtain ⟨hl1, hl2⟩ := hlt
      have q1 : (k : Int) < (l.length : Int) := by omega
      have q2 : (k : Int) < 12 := by omega
      obtain ⟨x, hx⟩ : ∃ x, l[k]? = some x := ⟨_, List.getElem?_eq_getElem hl1⟩
      have HX := Lib.hid hx
      obtain ⟨b, off, rfl, _, _⟩ := (HC.out.keep hB).txt hx
      have HSL := Lib.hid (show ∀ wx : World, (Instr.slice 9 (.string x) none (some (.int .i64 (min (x.size : Int) 50))) none).run Try.prog wx = .ok (.string (cut10 50 x)) wx from fun wx => run_cut10 50 x wx)
      have HST := Lib.hid (few_step10 hx)
      clear hx
      go_wp2
      refine wp_region_held_drew (S := fun W => Below w.heap.size w W) (by kernel_rfl) (belowN hB 1) (fun hS => ?_)
      change wpAnyH _ _ (opsOf Try.f13 5) _ _ 15 (Array.replicate 15 false) _ _
      clear hS
      change wpAnyH _ _ _ _ _ _ _ _ wr.drew
      have hB1 : Below w.heap.size w wr.drew := belowN hB 1
      have hrow1 : RowV wr.drew w.heap.size 9 1 A' c' k (tL10 (fewK10 l k)) := hrow
      refine wpAnyH_pure (i := 0) (o := { dst := some 15, op := Op.move (Operand.tmp 3), type := 22, pos := "law.go:22", after := #[], guard := none }) (v := .slice A' k c') (by kernel_rfl) (by kernel_rfl) (by kernel_rfl) (by kernel_rfl) (fun _ _ _ h => h) (by kernel_rfl) (fun w hSw => by kernel_rfl) hB1 ?_
      simp only [Act.put, List.setIfInBounds_toArray, List.set_cons_succ, List.set_cons_zero]
      refine wpAnyH_pure (i := 1) (o := { dst := some 16, op := Op.move (Operand.tmp 0), type := 22, pos := "law.go:22", after := #[], guard := none }) (v := .slice (some ⟨b, off, none⟩) l.length cap) (by kernel_rfl) (by kernel_rfl) (by kernel_rfl) (by kernel_rfl) (fun _ _ _ h => h) (by kernel_rfl) (fun w hSw => by kernel_rfl) hB1 ?_
      simp only [Act.put, List.setIfInBounds_toArray, List.set_cons_succ, List.set_cons_zero]
      refine wpAnyH_pure (i := 2) (o := { dst := some 17, op := Op.move (Operand.tmp 4), type := 3, pos := "law.go:22", after := #[], guard := none }) (v := .int .i64 (k : Int)) (by kernel_rfl) (by kernel_rfl) (by kernel_rfl) (by kernel_rfl) (fun _ _ _ h => h) (by kernel_rfl) (fun w hSw => by kernel_rfl) hB1 ?_
      simp only [Act.put, List.setIfInBounds_toArray, List.set_cons_succ, List.set_cons_zero]
      refine wpAnyH_pure (i := 3) (o := { dst := some 18, op := Op.indexAddr 22 (Operand.tmp 16) (Operand.tmp 17), type := 0, pos := "law.go:22", after := #[{ on := 1, ground := Ground.data }, { on := 2, ground := Ground.data }], guard := none }) (v := .pointer (some ⟨b, off + k, none⟩)) (by kernel_rfl) (by kernel_rfl) (by kernel_rfl) (by kernel_rfl) (fun _ _ _ h => h) (by kernel_rfl) (fun w hSw => by go_simp) hB1 ?_
      simp only [Act.put, List.setIfInBounds_toArray, List.set_cons_succ, List.set_cons_zero]
      refine wpAnyH_pure (i := 4) (o := { dst := some 19, op := Op.load 9 (Operand.tmp 18), type := 9, pos := "law.go:22", after := #[{ on := 3, ground := Ground.data }], guard := none }) (v := .string x) (by kernel_rfl) (by kernel_rfl) (by kernel_rfl) (by kernel_rfl) (fun _ _ _ h => h) (by kernel_rfl) (fun w hSw => by (obtain ⟨b1, off1, e1, _, hc⟩ := (HC.out.keep hSw).txt HX.out; cases e1; go_simp)) hB1 ?_
      simp only [Act.put, List.setIfInBounds_toArray, List.set_cons_succ, List.set_cons_zero]
      refine wpAnyH_pure (i := 5) (o := { dst := some 20, op := Op.move (Operand.tmp 0), type := 22, pos := "law.go:22", after := #[], guard := none }) (v := .slice (some ⟨b, off, none⟩) l.length cap) (by kernel_rfl) (by kernel_rfl) (by kernel_rfl) (by kernel_rfl) (fun _ _ _ h => h) (by kernel_rfl) (fun w hSw => by kernel_rfl) hB1 ?_
      simp only [Act.put, List.setIfInBounds_toArray, List.set_cons_succ, List.set_cons_zero]
      refine wpAnyH_pure (i := 6) (o := { dst := some 21, op := Op.move (Operand.tmp 4), type := 3, pos := "law.go:22", after := #[], guard := none }) (v := .int .i64 (k : Int)) (by kernel_rfl) (by kernel_rfl) (by kernel_rfl) (by kernel_rfl) (fun _ _ _ h => h) (by kernel_rfl) (fun w hSw => by kernel_rfl) hB1 ?_
      simp only [Act.put, List.setIfInBounds_toArray, List.set_cons_succ, List.set_cons_zero]
      refine wpAnyH_pure (i := 7) (o := { dst := some 22, op := Op.indexAddr 22 (Operand.tmp 20) (Operand.tmp 21), type := 0, pos := "law.go:22", after := #[{ on := 5, ground := Ground.data }, { on := 6, ground := Ground.data }], guard := none }) (v := .pointer (some ⟨b, off + k, none⟩)) (by kernel_rfl) (by kernel_rfl) (by kernel_rfl) (by kernel_rfl) (fun _ _ _ h => h) (by kernel_rfl) (fun w hSw => by go_simp) hB1 ?_
      simp only [Act.put, List.setIfInBounds_toArray, List.set_cons_succ, List.set_cons_zero]
      refine wpAnyH_pure (i := 8) (o := { dst := some 23, op := Op.load 9 (Operand.tmp 22), type := 9, pos := "law.go:22", after := #[{ on := 7, ground := Ground.data }], guard := none }) (v := .string x) (by kernel_rfl) (by kernel_rfl) (by kernel_rfl) (by kernel_rfl) (fun _ _ _ h => h) (by kernel_rfl) (fun w hSw => by (obtain ⟨b1, off1, e1, _, hc⟩ := (HC.out.keep hSw).txt HX.out; cases e1; go_simp)) hB1 ?_
      simp only [Act.put, List.setIfInBounds_toArray, List.set_cons_succ, List.set_cons_zero]
      refine wpAnyH_pure (i := 9) (o := { dst := some 24, op := Op.call { callee := Callee.builtin Builtin.len, args := #[Operand.tmp 23], argTypes := #[9] }, type := 3, pos := "law.go:22", after := #[{ on := 8, ground := Ground.data }], guard := none }) (v := .int .i64 (x.size : Int)) (by kernel_rfl) (by kernel_rfl) (by kernel_rfl) (by kernel_rfl) (fun _ _ _ h => h) (by kernel_rfl) (fun w hSw => by go_simp) hB1 ?_
      simp only [Act.put, List.setIfInBounds_toArray, List.set_cons_succ, List.set_cons_zero]
      refine wpAnyH_pure (i := 10) (o := { dst := some 25, op := Op.call { callee := Callee.builtin Builtin.min, args := #[Operand.tmp 24, Operand.const (Value.int IntKind.i64 50)], argTypes := #[3, 3] }, type := 3, pos := "law.go:22", after := #[{ on := 9, ground := Ground.data }], guard := none }) (v := .int .i64 (min (x.size : Int) 50)) (by kernel_rfl) (by kernel_rfl) (by kernel_rfl) (by kernel_rfl) (fun _ _ _ h => h) (by kernel_rfl) (fun w hSw => by go_simp) hB1 ?_
      simp only [Act.put, List.setIfInBounds_toArray, List.set_cons_succ, List.set_cons_zero]
      refine wpAnyH_pure (i := 11) (o := { dst := some 26, op := Op.slice 9 (Operand.tmp 19) none (some (Operand.tmp 25)) none, type := 9, pos := "law.go:22", after := #[{ on := 4, ground := Ground.data }, { on := 10, ground := Ground.data }], guard := none }) (v := .string (cut10 50 x)) (by kernel_rfl) (by kernel_rfl) (by kernel_rfl) (by kernel_rfl) (fun _ _ _ h => h) (by kernel_rfl) (fun w hSw => by (have hs1 := HSL.out; go_simp)) hB1 ?_
      simp only [Act.put, List.setIfInBounds_toArray, List.set_cons_succ, List.set_cons_zero]
      refine wpAnyH_run (i := 12) (o := { dst := some 27, op := Op.buildSlice 22 1 #[(0, Operand.tmp 26)], type := 22, pos := "law.go:22", after := #[{ on := 11, ground := Ground.data }], guard := none }) (v := .slice (some ⟨wr.heap.size, 0, none⟩) 1 1) (w' := wr.drew.alloc (.cells #[.string (cut10 50 x)] 9)) (by kernel_rfl) (by kernel_rfl) (by kernel_rfl) (by go_simp) (hB1.alloc hB1.size _) ?_
      simp only [Act.put, List.setIfInBounds_toArray, List.set_cons_succ, List.set_cons_zero]
      have hrow2 := hrow1.alloc (.cells #[.string (cut10 50 x)] 9)
      have hB2 := hB1.alloc hB1.size (.cells #[.string (cut10 50 x)] 9)
      have iX2 := Is.new wr.drew 9 #[.string (cut10 50 x)]
      generalize hW2 : wr.drew.alloc (.cells #[.string (cut10 50 x)] 9) = W2 at *
      obtain ⟨v', W3, hrun, hown, hgr, _⟩ := run_append_own (P := Try.prog) W2 w.heap.size 22 22 9 i0 (.string ⟨#[]⟩) 1 16 Try.underlying22 hi hz0 hz1 hz2 rfl (by decide) (.slice A' k c') k _ hrow2 ⟨wr.heap.size, 0, none⟩ 1 1 [.string (cut10 50 x)] rfl (fun j u hj => by (cases j with | zero => (cases hj; rw [Addr.add_lit]; exact iX2.cell 0) | succ j => cases hj)) (fun u hu => by rw [List.mem_singleton] at hu; subst hu; rfl) (by unfold maxLen; omega) (by omega) hB2.size
      obtain ⟨A3, c3, rfl⟩ := owns_sliceG hown
      have hB3 := RowV.belowG hrow2 hB2 hgr
      have HRUN := Lib.hid hrun
      clear hrun
      refine wpAnyH_run (i := 13) (o := { dst := some 28, op := Op.call { callee := Callee.builtin Builtin.append, args := #[Operand.tmp 15, Operand.tmp 27], argTypes := #[22, 22] }, type := 22, pos := "law.go:22", after := #[{ on := 0, ground := Ground.data }, { on := 12, ground := Ground.data }], guard := none }) (v := .slice A3 (k + 1) c3) (w' := W3) (by kernel_rfl) (by kernel_rfl) (by kernel_rfl) (exec_append10 rfl rfl rfl HRUN.out) hB3 ?_
      simp only [Act.put, List.setIfInBounds_toArray, List.set_cons_succ, List.set_cons_zero]
      refine wpAnyH_pure (i := 14) (o := { dst := some 3, op := Op.assign (Operand.tmp 28), type := 22, pos := "law.go:22", after := #[{ on := 13, ground := Ground.data }, { on := 13, ground := Ground.chain }, { on := 0, ground := Ground.phase }, { on := 1, ground := Ground.phase }, { on := 2, ground := Ground.phase }, { on := 3, ground := Ground.phase }, { on := 4, ground := Ground.phase }, { on := 5, ground := Ground.phase }, { on := 6, ground := Ground.phase }, { on := 7, ground := Ground.phase }, { on := 8, ground := Ground.phase }, { on := 9, ground := Ground.phase }, { on := 10, ground := Ground.phase }, { on := 11, ground := Ground.phase }, { on := 12, ground := Ground.phase }, { on := 13, ground := Ground.phase }], guard := none }) (v := .slice A3 (k + 1) c3) (by kernel_rfl) (by kernel_rfl) (by kernel_rfl) (by kernel_rfl) (fun _ _ _ h => h) (by kernel_rfl) (fun w hSw => by kernel_rfl) hB3 ?_
      simp only [Act.put, List.setIfInBounds_toArray, List.set_cons_succ, List.set_cons_zero]
      refine wpAnyH_done (by kernel_rfl) ?_ _
      go_wp2
      have hr4 : RowV W3 w.heap.size 9 1 A3 c3 (k + 1) (tL10 (fewK10 l (k + 1))) := by
        rw [HST.out]
        unfold tL10
        rw [List.map_append]
        exact hown
      go_roundw
      case rel => exact ⟨k + 1, A3, c3, by omega, by omega, by go_num, by first | rfl | exact ⟨rfl, rfl, rfl⟩, hr4, hB3⟩
      case measure => simp [intOf]; omega
    · have hd : (decide ((k : Int) < (l.length : Int)) && decide ((k : Int) < 12)) = false := by simp only [Bool.and_eq_false_iff, decide_eq_false_iff_not]; omega
      obtain ⟨e1, e2⟩ := few_end10 hk hk12 hlt
      have hrow4 := hrow.lst10
      rw [e1] at hrow4
      have HE := Lib.hid e2
      have HR4 := Lib.hid hrow4
      clear hlt e1 e2 hrow4 hrow
      by_cases hl1 : k < l.length
      · have q1 : (k : Int) < (l.length : Int) := by omega
        have q2 : ¬ (k : Int) < 12 := by simp only [Bool.and_eq_false_iff, decide_eq_false_iff_not] at hd; omega
        clear hd
        go_wp2
        go_ret
        exact ⟨A', ⟨c', by rw [← HE.out]; rfl⟩, HR4.out, hB⟩
      · have q1 : ¬ (k : Int) < (l.length : Int) := by omega
        clear hd
        go_wp2
        go_ret
        exact ⟨A', ⟨c', by rw [← HE.out]; rfl⟩, HR4.out, hB⟩

set_option maxRecDepth 100000 in
set_option maxHeartbeats 2000000 in
theorem texts_same10 (A A2 : Option Addr) (c c2 : Nat) (l : List ByteArray) (w : World) (hL : l.length ≤ 1000) (h1 : InV w A (tL10 l)) (h2 : InV w A2 (tL10 l)) :
    Calls Try.prog 26 #[.slice A l.length c, .slice A2 l.length c2] w fun e w' => e = .returned (.bool true) ∧ Below w.heap.size w w' := by
  have H1 := Lib.hid h1
  have H2 := Lib.hid h2
  clear h1 h2
  go_enter Try.func26, Try.ntmps26
  go_wp2
  go_loopw [5] (fun i wr => ∃ k m : Nat, k ≤ l.length ∧ i = .int .i64 (k : Int) ∧ wr = w.drewN m) (fun i _ => l.length - (intOf i).toNat)
  case atStart => exact ⟨0, 0, by omega, rfl, rfl⟩
  case round =>
    obtain ⟨k, m, hk, rfl, rfl⟩ := hrel
    by_cases hlt : k < l.length
    · obtain ⟨x, hx⟩ : ∃ x, l[k]? = some x := ⟨_, List.getElem?_eq_getElem hlt⟩
      obtain ⟨b, off, rfl, _, e1⟩ := H1.out.txt hx
      obtain ⟨b2, off2, rfl, _, e2⟩ := H2.out.txt hx
      have hl1 : (k : Int) < (l.length : Int) := by omega
      clear hx
      go_wp2
      go_region
      go_wp2
      go_roundw
      case rel => exact ⟨k + 1, m + 1, by omega, by go_num, rfl⟩
      case measure => simp [intOf]; omega
    · have hl1 : ¬ (k : Int) < (l.length : Int) := by omega
      go_wp2
      go_ret
      exact ⟨rfl, belowN (Below.refl _ _) m⟩
end Go.Proofs.Ytploljgamimlpaa
