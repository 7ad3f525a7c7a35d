/-
  Texts of noughts: string(make([]byte, n)), as the statements make them.
-/
import Derived.Test.YtcpkkicpkmjagaaDoorMacB
import Derived.OwnWalk
namespace Go.Proofs.YtcpkkicpkmjagaaDoor
open Go.RowKit

/-- n noughts. -/
def zerosB (n : Nat) : ByteArray := strOfNums (List.replicate n 0)
theorem zerosB_size (n : Nat) : (zerosB n).size = n := by rw [zerosB, str_size, List.length_replicate]
theorem zerosB_all (n : Nat) : ∀ b ∈ (zerosB n).data.toList, b = 0 := by
  intro b hb
  simp only [zerosB, strOfNums, List.map_replicate] at hb
  exact (List.mem_replicate.1 hb).2
/-- the cells of n noughts. -/
def zcells (n : Nat) : Array Value := (List.replicate n (Value.int .u8 0)).toArray
theorem run_make0 (W : World) (n : Nat) (h : n ≤ 2000000) :
    (Instr.makeSlice 42 (.int .i64 (n : Int)) (.int .i64 (n : Int))).run Tryd.prog W = .ok (.slice (some ⟨W.heap.size, 0, none⟩) n n) (W.alloc (.cells (zcells n) 5)) := by
  obtain ⟨i0, hi, hz0, hz1, hz2⟩ := info_parts infoByte
  have h1 := run_make (P := Tryd.prog) W 42 5 i0 (.int .u8 0) Tryd.underlying42 hi hz0 .i64 .i64 (n : Int) (n : Int) (by omega) (by omega) (by rw [hz2]; omega) (by omega)
  rw [hz1, Int.toNat_natCast, Nat.mul_one] at h1
  have e : madeCells (Value.int .u8 0).cells n = zcells n := by
    apply Array.toList_inj.1
    show (madeCells #[.int .u8 0] n).toList = _
    rw [toList_madeCells_one]
    simp [zcells]
  rw [e] at h1
  exact h1
theorem run_conv0 {W : World} {g n : Nat} (h : Is W g 5 (zcells n)) :
    (convert 42 9 (.slice (some ⟨g, 0, none⟩) n n)).run Tryd.prog W = .ok (.string (zerosB n)) W :=
  run_convert_bytes_arg (P := Tryd.prog) W 42 5 Tryd.underlying42 Tryd.underlying5 g 0 n n (List.replicate n 0) (by simp) (fun i hi => by
    rw [Nat.zero_add, h.cell, zcells]
    simp [hi]) 9 Tryd.underlying9
end Go.Proofs.YtcpkkicpkmjagaaDoor
