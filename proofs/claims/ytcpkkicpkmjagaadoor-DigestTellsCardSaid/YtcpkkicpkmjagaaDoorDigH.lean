/-
  Contracts of digest.Right, digest.New, strings.Clone, digest.wordBytes, digest.padding. Conditions: texts of at most a million and some bytes.
-/
import Derived.Test.YtcpkkicpkmjagaaDoorDigI
import Derived.Lib.Strings
import Derived.Lib.Walk
import Derived.Lib.BufferWrite
import Derived.Lib.UnsafeStr
import Derived.Laws.MakeOwn
namespace Go.Proofs.YtcpkkicpkmjagaaDoor
open Go.RowKit

/-- a sum on its way. -/
structure Hs where
  h : S8
  r : ByteArray
  m : Int
abbrev Hs.arr (x : Hs) : Array Value := #[.int .u32 x.h.a, .int .u32 x.h.b, .int .u32 x.h.c, .int .u32 x.h.d, .int .u32 x.h.e, .int .u32 x.h.f, .int .u32 x.h.g, .int .u32 x.h.h, .string x.r, .int .i64 x.m]
/-- a sum on its way stored cell by cell. -/
abbrev setH (w : World) (g : Nat) (x : Hs) : World := ((set8 w g x.h).setCell ⟨g, 8, none⟩ (.string x.r)).setCell ⟨g, 9, none⟩ (.int .i64 x.m)
theorem Is.setH {w : World} {g : Nat} {t : TypeId} {x : Hs} (h : Is w g t x.arr) (y : Hs) : Is (setH w g y) g t y.arr := by
  have := (((((((((h.set 0 (.int .u32 y.h.a)).set 1 (.int .u32 y.h.b)).set 2 (.int .u32 y.h.c)).set 3 (.int .u32 y.h.d)).set 4 (.int .u32 y.h.e)).set 5 (.int .u32 y.h.f)).set 6 (.int .u32 y.h.g)).set 7 (.int .u32 y.h.h)).set 8 (.string y.r)).set 9 (.int .i64 y.m)
  simpa using this
theorem belowH {B : Nat} {a w : World} (h : Below B a w) {g : Nat} (hg : B ≤ g) (x : Hs) : Below B a (setH w g x) := ((below8 h hg x.h).setCell hg _).setCell hg _
/-- may it be? -/
def rightB (x : Hs) : Bool := decide (0 ≤ x.m) && decide (x.m ≤ 1048576) && ((x.r.size : Int) == x.m % 64)

set_option maxRecDepth 100000 in
set_option maxHeartbeats 1000000 in
theorem right_any (x : Hs) (w : World) :
    Calls Tryd.prog 21 #[.agg x.arr] w fun e w' => e = .returned (.bool (rightB x)) ∧ Below w.heap.size w w' := by
  by_cases h0 : 0 ≤ x.m
  · by_cases h1 : x.m ≤ 1048576
    · have hb : rightB x = ((x.r.size : Int) == x.m % 64) := by simp [rightB, h0, h1]
      rw [hb]
      clear hb
      go_enter Tryd.func21, Tryd.ntmps21
      go_wp2
      go_ret
      exact ⟨rfl, (Below.refl _ _).alloc (Nat.le_refl _) _⟩
    · have hb : rightB x = false := by simp [rightB, h1]
      rw [hb]
      clear hb
      have hd : decide (x.m ≤ 1048576) = false := by simpa using h1
      go_enter Tryd.func21, Tryd.ntmps21
      go_wp2
      go_ret
      exact ⟨rfl, (Below.refl _ _).alloc (Nat.le_refl _) _⟩
  · have hb : rightB x = false := by simp [rightB, h0]
    rw [hb]
    clear hb
    have hd : decide (0 ≤ x.m) = false := by simpa using h0
    go_enter Tryd.func21, Tryd.ntmps21
    go_wp2
    go_ret
    exact ⟨rfl, (Below.refl _ _).alloc (Nat.le_refl _) _⟩

/-- the sum of nothing yet. -/
def Hs0 : Hs := ⟨H0, ⟨#[]⟩, 0⟩
set_option maxRecDepth 100000 in
set_option maxHeartbeats 1000000 in
theorem new_any (w : World) (hT : Tab w) :
    Calls Tryd.prog 14 #[] w fun e w' => e = .returned (.agg Hs0.arr) ∧ Below w.heap.size w w' := by
  have c0 : w.cell? ⟨0, 0, none⟩ = some (.int .u32 H0.a) := hT.h 0 (by omega)
  have c1 : w.cell? ⟨0, 1, none⟩ = some (.int .u32 H0.b) := hT.h 1 (by omega)
  have c2 : w.cell? ⟨0, 2, none⟩ = some (.int .u32 H0.c) := hT.h 2 (by omega)
  have c3 : w.cell? ⟨0, 3, none⟩ = some (.int .u32 H0.d) := hT.h 3 (by omega)
  have c4 : w.cell? ⟨0, 4, none⟩ = some (.int .u32 H0.e) := hT.h 4 (by omega)
  have c5 : w.cell? ⟨0, 5, none⟩ = some (.int .u32 H0.f) := hT.h 5 (by omega)
  have c6 : w.cell? ⟨0, 6, none⟩ = some (.int .u32 H0.g) := hT.h 6 (by omega)
  have c7 : w.cell? ⟨0, 7, none⟩ = some (.int .u32 H0.h) := hT.h 7 (by omega)
  have h2 : 0 < w.heap.size := by have := hT.two; omega
  go_enter Tryd.func14, Tryd.ntmps14
  go_wp2
  refine bodyPost_ret (results_cell_row Tryd.results14 _ _ w.heap.size 25 Hs0.arr (0, 0) _ rfl (heap_alloc_new w _) Tryd.underlying25 rfl (by kernel_rfl)) rfl ⟨rfl, ?_⟩
  exact (Below.refl _ _).alloc (Nat.le_refl _) _

theorem infoByte : (Tryd.prog.info? 5).map (fun i => (i.zero, i.size, i.bytes)) = some (some (.int .u8 0), 1, 1) := by kernel_rfl
set_option maxHeartbeats 4000000 in
set_option maxRecDepth 100000 in
theorem clone_lite (s : ByteArray) (w : World) (hlim : s.size ≤ 281474976710656) :
    Calls Tryd.prog 54 #[.string s] w fun e w' => e = .returned (.string s) ∧ Below w.heap.size w w' := by
  by_cases h0 : s.size = 0
  · have hs : s = ⟨#[]⟩ := by
      apply ByteArray.ext
      exact Array.eq_empty_of_size_eq_zero h0
    subst hs
    go_enter Tryd.func54, Tryd.ntmps54
    go_wp2
    go_ret
    exact ⟨rfl, Below.refl _ _⟩
  · obtain ⟨i0, hi, hz0, hz1, hz2⟩ := info_parts infoByte
    have hinfo : (Tryd.prog.info? 5).map (·.size) = some 1 := by rw [hi]; simp [hz1]
    have hco : Tryd.prog.cellsOf 5 = 1 := by kernel_rfl
    obtain ⟨M, hM⟩ : ∃ M, M = madeCells (Value.int .u8 0).cells (((s.size : Nat) : Int).toNat * i0.size) := ⟨_, rfl⟩
    have hMs : M.size = s.size := by rw [hM, size_madeCells, hz1]; simp
    have hmk : ∀ W : World, (Instr.makeSlice 42 (.int .i64 (s.size : Int)) (.int .i64 (s.size : Int))).run Tryd.prog W = .ok (.slice (some ⟨W.heap.size, 0, none⟩) s.size s.size) (W.alloc (.cells M 5)) := fun W => by
      have h := run_make (P := Tryd.prog) W 42 5 i0 (.int .u8 0) Tryd.underlying42 hi hz0 .i64 .i64 (s.size : Int) (s.size : Int) (by omega) (by omega) (by rw [hz2]; omega) (by omega)
      rw [← hM] at h
      simpa using h
    clear hM
    have hcp := Lib.run_copy_row_string (P := Tryd.prog) (w.alloc (.cells M 5)) 42 9 3 5 w.heap.size 0 s.size s.size s M 5 Tryd.underlying42 hinfo (heap_alloc_new w _) (Nat.le_refl _) (by omega)
    obtain ⟨Y, hY⟩ : ∃ Y, Y = (M.toList.take 0 ++ Lib.byteCells s.data.toList ++ M.toList.drop (0 + s.size)).toArray := ⟨_, rfl⟩
    rw [← hY] at hcp
    have hYl : Y.toList = Lib.byteCells s.data.toList := by
      rw [hY, List.toList_toArray, List.take_zero, List.nil_append, List.drop_of_length_le (by rw [Array.length_toList]; omega), List.append_nil]
    have hYs : Y.size = s.size := by rw [← Array.length_toList, hYl, Lib.byteCells_length, ← Lib.size_eq]
    have hgY : ((w.alloc (.cells M 5)).setRow w.heap.size Y).heap[w.heap.size]? = some (.cells Y 5 (0, 0)) := setRow_heap _ _ M _ 5 (0, 0) (heap_alloc_new w _)
    have hne : s.data.toList ≠ [] := fun e => h0 (by rw [Lib.size_eq, e]; rfl)
    have hUS := Lib.run_unsafeString_row (P := Tryd.prog) ((w.alloc (.cells M 5)).setRow w.heap.size Y) 92 3 9 5 Tryd.underlying92 hco w.heap.size Y.size (by unfold World.shape?; rw [hgY]) s.data.toList hne (by rw [← Lib.size_eq]; omega) (by rw [← Lib.size_eq]; omega)
      (fun j x hx => Lib.cells_of_row hgY Y.size j _ (by rw [List.take_of_length_le (by rw [Array.length_toList]; exact Nat.le_refl _), hYl]; simp [Lib.byteCells, hx]))
    rw [← Lib.size_eq] at hUS
    clear hY
    go_enter Tryd.func54, Tryd.ntmps54
    go_wp2
    go_ret
    have hb1 : Below w.heap.size w (w.alloc (.cells M 5)) := (Below.refl _ w).alloc (Nat.le_refl _) _
    exact ⟨rfl, Lib.below_freeze (belowRow hb1 (Nat.le_refl _) Y) (p := ⟨w.heap.size, 0, none⟩) (Nat.le_refl _) _⟩

set_option maxHeartbeats 400000 in
theorem clone_any (s : ByteArray) (w : World) (hlim : s.size ≤ 281474976710656) :
    Calls Tryd.prog 40 #[.string s] w fun e w' => e = .returned (.string s) ∧ Below w.heap.size w w' := by
  go_enter Tryd.func40, Tryd.ntmps40
  go_wp2_with fail
  refine (clone_lite _ _ hlim).mono ?_
  rintro e w1 ⟨rfl, hb⟩
  go_wp2
  go_ret
  exact ⟨rfl, hb⟩
end Go.Proofs.YtcpkkicpkmjagaaDoor
