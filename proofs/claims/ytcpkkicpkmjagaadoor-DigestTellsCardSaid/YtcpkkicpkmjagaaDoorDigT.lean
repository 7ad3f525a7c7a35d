/-
  Contracts of digest.wordBytes and digest.padding: the 32 bytes of eight words; what stands behind a text of so many bytes. Conditions: at most 1048576 bytes.
-/
import Derived.Test.YtcpkkicpkmjagaaDoorDigH
import Derived.Laws.BytesArg
import Derived.Laws.OwnMore
import Derived.OwnWalk
namespace Go.Proofs.YtcpkkicpkmjagaaDoor
open Go.RowKit

/-- a word's four bytes, the highest one first. -/
def b4 (x : Int) : List Int := [x / 16777216 % 256, x / 65536 % 256, x / 256 % 256, x % 256]
def wbTo (h : S8) (k : Nat) : List Int := (List.range k).flatMap fun j => b4 (h.get j)
theorem wbTo_succ (h : S8) (k : Nat) : wbTo h (k + 1) = wbTo h k ++ b4 (h.get k) := by simp [wbTo, List.range_succ]
theorem wbTo_length (h : S8) (k : Nat) : (wbTo h k).length = 4 * k := by
  induction k with
  | zero => rfl
  | succ k ih => rw [wbTo_succ, List.length_append, ih]; simp [b4]; omega
theorem index8 (h : S8) (k : Nat) (hk : k < 8) (w : World) : (Instr.index 23 (.agg h.arr) (.int .i64 (k : Int))).run Tryd.prog w = .ok (.int .u32 (h.get k)) w := by
  rcases (by omega : k = 0 ∨ k = 1 ∨ k = 2 ∨ k = 3 ∨ k = 4 ∨ k = 5 ∨ k = 6 ∨ k = 7) with rfl | rfl | rfl | rfl | rfl | rfl | rfl | rfl
  all_goals kernel_rfl
theorem cells4 (w : World) (t : TypeId) (a b c d : Value) : ∀ j u, [a, b, c, d][j]? = some u → (w.alloc (.cells #[a, b, c, d] t)).cell? ((⟨w.heap.size, 0, none⟩ : Addr).add j) = some u := by
  intro j u hj
  have hadd : (⟨w.heap.size, 0, none⟩ : Addr).add j = ⟨w.heap.size, j, none⟩ := by unfold Addr.add; split <;> simp_all
  rw [hadd, World.cell?_alloc_at _ _ _ _ rfl]
  simpa using hj

set_option maxRecDepth 100000 in
set_option maxHeartbeats 1000000 in
theorem wordBytes_any (h : S8) (w : World) :
    Calls Tryd.prog 42 #[.agg h.arr] w fun e w' => e = .returned (.string (strOfNums (wbTo h 8))) ∧ Below w.heap.size w w' := by
  obtain ⟨i0, hi, hz0, hz1, hz2⟩ := info_parts infoByte
  obtain ⟨wm, hmk, hown0, hg0⟩ := run_make_own (P := Tryd.prog) (w.alloc (.cells h.arr 23)) w.heap.size 42 5 i0 (.int .u8 0) 1 Tryd.underlying42 hi hz0 hz1 .i64 .i64 32 (by rw [hz2]; omega) (by unfold maxLen; omega) (by simp)
  simp only [World.size_alloc] at hmk hown0
  rw [show (((32 : Nat) : Int)) = 32 from rfl] at hmk
  have hB0 : Below w.heap.size w wm := ((Below.refl _ _).alloc (Nat.le_refl _) _).grown hg0 (by simp) (fun k e => by cases e)
  have iA : Is wm w.heap.size 23 h.arr := (hg0.block _ (by simp) (by simp)).trans (Is.new w _ _)
  have c0 := iA.cell 0
  have c1 := iA.cell 1
  have c2 := iA.cell 2
  have c3 := iA.cell 3
  have c4 := iA.cell 4
  have c5 := iA.cell 5
  have c6 := iA.cell 6
  have c7 := iA.cell 7
  go_enter Tryd.func42, Tryd.ntmps42
  go_wp2
  clear hmk c0 c1 c2 c3 c4 c5 c6 c7
  go_loopw [3, 8] (fun v i wr => ∃ k : Nat, k ≤ 8 ∧ i = .int .i64 k ∧ wr.ownsRow w.heap.size 5 1 v (4 * k) ((wbTo h k).map (Value.int .u8)) ∧ Below w.heap.size w wr)
    (fun _ i _ => 8 - (intOf i).toNat)
  case atStart => exact ⟨0, by omega, rfl, hown0, hB0⟩
  case round =>
    obtain ⟨k, hk, rfl, hown, hB⟩ := hrel
    by_cases hlt : k < 8
    · have hix := index8 h k hlt
      go_wp2_with (at_builtin; refine wpList_append_own _ rfl _ _ 42 rfl w.heap.size 5 i0 (.int .u8 0) 1 1 Tryd.underlying42 hi hz0 hz1 hz2 rfl (by decide) _ _ _ rfl (hown.alloc _) ⟨wr.heap.size, 0, none⟩ 4 4 [.int .u8 (h.get k / 16777216 % 256), .int .u8 (h.get k / 65536 % 256), .int .u8 (h.get k / 256 % 256), .int .u8 (h.get k % 256)] rfl rfl ?c1 ?c2 ?c3 ?c4 ?c5 ?_)
      case c1 => exact cells4 wr _ _ _ _ _
      case c2 => intro u hu; simp only [List.mem_cons, List.not_mem_nil, or_false] at hu; rcases hu with rfl | rfl | rfl | rfl <;> rfl
      case c3 => unfold maxLen; omega
      case c4 => omega
      case c5 => have := hB.size; simp; omega
      intro v' w1 hown' hgrow _
      have hB1 : Below w.heap.size w w1 := (hB.alloc hB.size _).grown hgrow (by have := hB.size; simp; omega) (fun g e => (hown.lt g e).1)
      have hown1 : w1.ownsRow w.heap.size 5 1 v' (4 * (k + 1)) ((wbTo h (k + 1)).map (Value.int .u8)) := by
        rw [wbTo_succ, List.map_append]
        exact hown'
      clear hown' hgrow hown hB hix
      go_wp2
      go_roundw
      case rel => exact ⟨k + 1, by omega, by go_num, hown1, hB1⟩
      case measure => simp [intOf]; omega
    · have hown8 : wr.ownsRow w.heap.size 5 1 u3 32 ((wbTo h 8).map (Value.int .u8)) := by
        have e : k = 8 := by omega
        rw [e] at hown
        exact hown
      obtain ⟨g, cap, rfl⟩ := ownsRow_succ hown8
      have hcv := run_convert_bytes_arg (P := Tryd.prog) wr 42 5 Tryd.underlying42 Tryd.underlying5 g 0 32 cap (wbTo h 8) (wbTo_length h 8) (fun i hi => by
        rw [Nat.zero_add, hown8.cellAt i (by omega)]
        have hl := wbTo_length h 8
        rw [List.getElem?_map, List.getElem?_eq_getElem (by omega), List.getD_eq_getElem?_getD, List.getElem?_eq_getElem (by omega)]
        rfl) 9 Tryd.underlying9
      generalize hst : strOfNums (wbTo h 8) = st at hcv
      have HST := Lib.hid hst
      clear hst hown hown8
      go_wp2
      go_ret
      exact ⟨by rw [HST.out]; rfl, hB⟩

/-- the eight bytes that tell 8 times m, the highest one first. -/
def lenTo (m : Int) (k : Nat) : List Int := (List.range k).map fun j => m * 8 / 2 ^ (56 - 8 * j) % 256
theorem lenTo_succ (m : Int) (k : Nat) : lenTo m (k + 1) = lenTo m k ++ [m * 8 / 2 ^ (56 - 8 * k) % 256] := by simp [lenTo, List.range_succ]
theorem lenTo_length (m : Int) (k : Nat) : (lenTo m k).length = k := by simp [lenTo]
def noughts (m : Int) : Nat := ((119 - m % 64) % 64).toNat
def padTo (m : Int) (k : Nat) : List Int := 128 :: (List.replicate (noughts m) 0 ++ lenTo m k)
theorem padTo_length (m : Int) (k : Nat) : (padTo m k).length = 1 + noughts m + k := by simp [padTo, lenTo_length]; omega
theorem padTo_succ (m : Int) (k : Nat) : padTo m (k + 1) = padTo m k ++ [m * 8 / 2 ^ (56 - 8 * k) % 256] := by simp [padTo, lenTo_succ]
theorem noughts_lt (m : Int) : noughts m < 64 := by unfold noughts; omega

set_option maxRecDepth 100000 in
set_option maxHeartbeats 1000000 in
theorem padding_any (m : Int) (w : World) (h0 : 0 ≤ m) (h1 : m ≤ 1048576) :
    Calls Tryd.prog 43 #[.int .i64 m] w fun e w' => e = .returned (.string (strOfNums (padTo m 8))) ∧ Below w.heap.size w w' := by
  obtain ⟨i0, hi, hz0, hz1, hz2⟩ := info_parts infoByte
  have hzl := noughts_lt m
  have hz : (119 - m % 64) % 64 = (noughts m : Int) := by unfold noughts; omega
  have hpl := padTo_length m 8
  obtain ⟨z, ez⟩ : ∃ z, z = noughts m := ⟨_, rfl⟩
  rw [← ez] at hzl hz hpl
  have hmk0 := run_make (P := Tryd.prog) w 42 5 i0 (.int .u8 0) Tryd.underlying42 hi hz0 .i64 .i64 (1 + (z : Int)) (1 + (z : Int) + 8) (by omega) (by omega) (by rw [hz2]; omega) (by omega)
  have hown0 : (w.alloc (.cells (madeCells (Value.int .u8 0).cells ((1 + (z : Int) + 8).toNat * i0.size)) 5)).ownsRow w.heap.size 5 1 (.slice (some ⟨w.heap.size, 0, none⟩) (1 + z) (1 + z + 8)) (1 + z) (List.replicate (1 + z) (.int .u8 0)) := by
    refine ⟨by simp, .inr ⟨w.heap.size, 1 + z + 8, _, rfl, Nat.le_refl _, heap_alloc_new w _, by omega, by unfold maxLen; omega, ?_, ?_⟩⟩
    · rw [size_madeCells, hz1]; omega
    · show List.take _ (madeCells #[.int .u8 0] _).toList = _
      rw [toList_madeCells_one, List.take_replicate, hz1]
      congr 1; omega
  rw [show (1 + (z : Int)).toNat = 1 + z by omega, show (1 + (z : Int) + 8).toNat = 1 + z + 8 by omega] at hmk0
  rw [show (1 + (z : Int) + 8).toNat = 1 + z + 8 by omega] at hown0
  have hBm : Below w.heap.size w (w.alloc (.cells (madeCells (Value.int .u8 0).cells ((1 + z + 8) * i0.size)) 5)) := (Below.refl _ _).alloc (Nat.le_refl _) _
  generalize w.alloc (.cells (madeCells (Value.int .u8 0).cells ((1 + z + 8) * i0.size)) 5) = wm at *
  have hc0 : wm.cell? ⟨w.heap.size, 0, none⟩ = some (.int .u8 0) := by rw [hown0.cellAt 0 (by omega), List.getElem?_replicate, if_pos (by omega)]
  have hf0 : wm.frozen? ⟨w.heap.size, 0, none⟩ = false := hown0.frozenAt 0
  have hst := (hown0.stored 0 (.int .u8 128)).1
  have hl0 : (List.replicate (1 + z) (Value.int .u8 0)).set 0 (.int .u8 128) = (padTo m 0).map (Value.int .u8) := by
    rw [Nat.add_comm, List.replicate_succ]
    simp [padTo, lenTo, ← ez]
  rw [hl0] at hst
  clear hl0 hown0
  have HST := Lib.hid hst
  have HPL := Lib.hid hpl
  have HEZ := Lib.hid ez
  clear hst hpl ez
  go_enter Tryd.func43, Tryd.ntmps43
  go_wp2
  clear hz hmk0 hc0 hf0
  generalize (119 - m % 64) % 64 = q
  go_loopw [4, 6] (fun v i wr => ∃ k : Nat, k ≤ 8 ∧ i = .int .i64 (56 - 8 * (k : Int)) ∧ wr.ownsRow w.heap.size 5 1 v (1 + z + k) ((padTo m k).map (Value.int .u8)) ∧ Below w.heap.size w wr)
    (fun _ i _ => (intOf i + 8).toNat)
  case atStart => exact ⟨0, by omega, rfl, HST.out, hBm.setCell (Nat.le_refl _) _⟩
  case round =>
    clear HST hBm
    obtain ⟨k, hk, rfl, hown, hB⟩ := hrel
    by_cases hlt : k < 8
    · have ht : (56 - 8 * (k : Int)).toNat = 56 - 8 * k := by omega
      have hd : decide (0 ≤ 56 - 8 * (k : Int)) = true := by simp; omega
      have hn : (0 : Int) ≤ 56 - 8 * (k : Int) := by omega
      have hn2 : 56 - 8 * (k : Int) ≤ 56 := by omega
      go_wp2_with (at_builtin; refine wpList_append_own _ rfl _ _ 42 rfl w.heap.size 5 i0 (.int .u8 0) 1 1 Tryd.underlying42 hi hz0 hz1 hz2 rfl (by decide) _ _ _ rfl (hown.alloc _) ⟨wr.heap.size, 0, none⟩ 1 1 [.int .u8 (m * 8 / 2 ^ (56 - 8 * k) % 256)] rfl rfl ?c1 ?c2 ?c3 ?c4 ?c5 ?_)
      case c1 =>
        intro j u hj
        match j, hj with
        | 0, hj => simp at hj; subst hj; simp [Addr.add]
      case c2 => intro u hu; simp only [List.mem_cons, List.not_mem_nil, or_false] at hu; subst hu; rfl
      case c3 => unfold maxLen; omega
      case c4 => omega
      case c5 => have := hB.size; simp; omega
      intro v' w1 hown' hgrow _
      have hB1 : Below w.heap.size w w1 := (hB.alloc hB.size _).grown hgrow (by have := hB.size; simp; omega) (fun g e => (hown.lt g e).1)
      have hown1 : w1.ownsRow w.heap.size 5 1 v' (1 + z + (k + 1)) ((padTo m (k + 1)).map (Value.int .u8)) := by
        rw [padTo_succ, List.map_append]
        exact hown'
      clear hown' hgrow hown hB ht hd
      go_wp2
      go_roundw
      case rel => exact ⟨k + 1, by omega, by go_num, hown1, hB1⟩
      case measure => simp [intOf]; omega
    · have hown8 : wr.ownsRow w.heap.size 5 1 u4 (1 + z + 8) ((padTo m 8).map (Value.int .u8)) := by
        have e : k = 8 := by omega
        rw [e] at hown
        exact hown
      obtain ⟨g, cap, rfl⟩ := ownsRow_succ hown8
      have hcv := run_convert_bytes_arg (P := Tryd.prog) wr 42 5 Tryd.underlying42 Tryd.underlying5 g 0 (1 + z + 8) cap (padTo m 8) HPL.out (fun i hi => by
        rw [Nat.zero_add, hown8.cellAt i (by omega)]
        have hl := HPL.out
        rw [List.getElem?_map, List.getElem?_eq_getElem (by omega), List.getD_eq_getElem?_getD, List.getElem?_eq_getElem (by omega)]
        rfl) 9 Tryd.underlying9
      generalize hst : strOfNums (padTo m 8) = st at hcv
      have HST := Lib.hid hst
      have hd : decide (0 ≤ 56 - 8 * (k : Int)) = false := by simp; omega
      have hn : ¬ (0 : Int) ≤ 56 - 8 * (k : Int) := by omega
      clear hst hown hown8
      go_wp2
      go_ret
      exact ⟨by rw [HST.out]; rfl, hB⟩
end Go.Proofs.YtcpkkicpkmjagaaDoor
