/-
  Layer 12: contracts of the statements' own pick, Label and Cell.
-/
import Derived.Test.YtglcckpkbnppoaaBuxR
import Derived.Test.YtglcckpkbnppoaaGCo1
import Derived.Test.YtglcckpkbnppoaaGCo3
namespace Go.Proofs.Ytglcckpkbnppoaa
open Go.RowKit Go.Shelf

def label12 (c : Int) : ByteArray := strOfNums [0, 0, pickN c 40 / 20, pickN c 40 % 5 * 8, pickN c 40] ++ nul11 11
def cell12 (c : Int) : ByteArray := strOfNums [99, pickN c 256] ++ nul11 38
theorem cell_size12 (c : Int) : (cell12 c).size = 40 := by rw [cell12, ByteArray.size_append, strOfNums_size, nul_size11]; rfl
theorem strs_app12 (A B : List Int) : strOfNums (A ++ B) = strOfNums A ++ strOfNums B := by
  apply ByteArray.ext
  simp [strOfNums, ByteArray.data_append]
theorem label_lab12 (c : Int) : label12 c = lab12 (pickN c 40).toNat := by
  have hp := pickN_bd c 40 (by omega)
  rw [label12, nul11, ← strs_app12, lab12]
  have e1 : (((pickN c 40).toNat / 20 : Nat) : Int) = pickN c 40 / 20 := by omega
  have e2 : (((pickN c 40).toNat % 5 * 8 : Nat) : Int) = pickN c 40 % 5 * 8 := by omega
  have e3 : (((pickN c 40).toNat : Nat) : Int) = pickN c 40 := by omega
  rw [e1, e2, e3]
  rfl

set_option maxHeartbeats 1000000 in
theorem pick12_any (c n : Int) (w : World) (h0 : -9223372036854775808 ≤ c) (h1 : c ≤ 9223372036854775807) (hn : 0 < n) (hn2 : n ≤ 9223372036854775807) :
    Calls Try.prog 10 #[.int .i64 c, .int .i64 n] w fun e w' => e = .returned (.int .i64 (pickN c n)) ∧ w = w' := by
  by_cases hc : c < 0
  · have hd : pickN c n = (-(c + 1)) % n := by simp [pickN, hc]
    rw [hd]
    clear hd
    go_enter Try.func10, Try.ntmps10
    go_wp2
    go_ret
    refine ⟨?_, rfl⟩
    have e : -((c + 1).tmod n) = (-(c + 1)) % n := by rw [← Int.neg_tmod, Int.tmod_eq_emod_of_nonneg (by omega)]
    rw [← e]
    rfl
  · have hd : pickN c n = c % n := by simp [pickN, hc]
    rw [hd]
    clear hd
    go_enter Try.func10, Try.ntmps10
    go_wp2
    go_ret
    exact ⟨rfl, rfl⟩

theorem convL12 (L : List Int) {n : Nat} (hn : L.length = n) {W : World} {g : Nat} {cs : Array Value} (h : Is W g 5 cs) (hc : cs = (L.map (Value.int .u8)).toArray := by rfl) :
    (convert 58 9 (.slice (some ⟨g, 0, none⟩) n n)).run Try.prog W = .ok (.string (strOfNums L)) W :=
  run_convert_bytes_arg (P := Try.prog) W 58 5 Try.underlying58 Try.underlying5 g 0 n n L hn (fun i hi => by
    rw [Nat.zero_add, h.cell, hc]
    rw [← hn] at hi
    simp [hi]) 9 Try.underlying9
set_option maxRecDepth 100000 in
set_option maxHeartbeats 4000000 in
theorem qlabel_any12 (c : Int) (w : World) (h0 : -9223372036854775808 ≤ c ∧ c ≤ 9223372036854775807) :
    Calls Try.prog 23 #[.int .i64 c] w fun e w' => e = .returned (.string (label12 c)) ∧ Below w.heap.size w w' := by
  have PK := Lib.hid (fun w => pick12_any c 40 w h0.1 h0.2 (by omega) (by omega))
  have hp := pickN_bd c 40 (by omega)
  have hv : label12 c = strOfNums [0, 0, pickN c 40 / 20, pickN c 40 % 5 * 8, pickN c 40] ++ nul11 11 := rfl
  rw [hv]
  clear hv
  generalize pickN c 40 = p at *
  have w1 : IntKind.u8.wrap (p / 20) = p / 20 := by rw [show IntKind.u8.wrap (p / 20) = (p / 20) % 256 from rfl]; omega
  have w2 : IntKind.u8.wrap (p % 5 * 8) = p % 5 * 8 := by rw [show IntKind.u8.wrap (p % 5 * 8) = (p % 5 * 8) % 256 from rfl]; omega
  have w3 : IntKind.u8.wrap (p) = p := by rw [show IntKind.u8.wrap (p) = (p) % 256 from rfl]; omega
  have w4 := IntWalk.i64_in (p % 5 * 8) (by omega)
  obtain ⟨Z, hZ⟩ : ∃ Z, Z = nul11 11 := ⟨_, rfl⟩
  have hn : ¬ (9223372036854775807 < (strOfNums [0, 0, p / 20, p % 5 * 8, p]).size + Z.size) := by rw [hZ, nul_size11, strOfNums_size]; simp
  have mk : ∀ W : World, (Instr.makeSlice 58 (.int .i64 11) (.int .i64 11)).run Try.prog W = .ok (.slice (some ⟨W.heap.size, 0, none⟩) 11 11) (W.alloc (.cells (nulC10 11) 5)) := fun W => run_makeN10 W 11 (by omega)
  have a1 : (convert 58 9 (.slice (some ⟨w.heap.size, 0, none⟩) 5 5)).run Try.prog ((w.alloc (.cells #[.int .u8 0, .int .u8 0, .int .u8 (p / 20), .int .u8 (p % 5 * 8), .int .u8 p] 5)).drew) = .ok (.string (strOfNums [0, 0, p / 20, p % 5 * 8, p])) ((w.alloc (.cells #[.int .u8 0, .int .u8 0, .int .u8 (p / 20), .int .u8 (p % 5 * 8), .int .u8 p] 5)).drew) := convL12 ([0, 0, p / 20, p % 5 * 8, p]) (by rfl) (show Is ((w.alloc (.cells #[.int .u8 0, .int .u8 0, .int .u8 (p / 20), .int .u8 (p % 5 * 8), .int .u8 p] 5)).drew) (w.heap.size) 5 #[.int .u8 0, .int .u8 0, .int .u8 (p / 20), .int .u8 (p % 5 * 8), .int .u8 p] from Is.new w _ _)
  have a2 : (convert 58 9 (.slice (some ⟨w.heap.size + 1, 0, none⟩) 5 5)).run Try.prog (((w.alloc (.cells (nulC10 11) 5)).alloc (.cells #[.int .u8 0, .int .u8 0, .int .u8 (p / 20), .int .u8 (p % 5 * 8), .int .u8 p] 5)).drew) = .ok (.string (strOfNums [0, 0, p / 20, p % 5 * 8, p])) (((w.alloc (.cells (nulC10 11) 5)).alloc (.cells #[.int .u8 0, .int .u8 0, .int .u8 (p / 20), .int .u8 (p % 5 * 8), .int .u8 p] 5)).drew) := convL12 ([0, 0, p / 20, p % 5 * 8, p]) (by rfl) (show Is (((w.alloc (.cells (nulC10 11) 5)).alloc (.cells #[.int .u8 0, .int .u8 0, .int .u8 (p / 20), .int .u8 (p % 5 * 8), .int .u8 p] 5)).drew) (w.heap.size + 1) 5 #[.int .u8 0, .int .u8 0, .int .u8 (p / 20), .int .u8 (p % 5 * 8), .int .u8 p] from heap_alloc2_new w _ _)
  have a3 : (convert 58 9 (.slice (some ⟨w.heap.size, 0, none⟩) 5 5)).run Try.prog (((w.alloc (.cells #[.int .u8 0, .int .u8 0, .int .u8 (p / 20), .int .u8 (p % 5 * 8), .int .u8 p] 5)).alloc (.cells (nulC10 11) 5)).drew) = .ok (.string (strOfNums [0, 0, p / 20, p % 5 * 8, p])) (((w.alloc (.cells #[.int .u8 0, .int .u8 0, .int .u8 (p / 20), .int .u8 (p % 5 * 8), .int .u8 p] 5)).alloc (.cells (nulC10 11) 5)).drew) := convL12 ([0, 0, p / 20, p % 5 * 8, p]) (by rfl) (show Is (((w.alloc (.cells #[.int .u8 0, .int .u8 0, .int .u8 (p / 20), .int .u8 (p % 5 * 8), .int .u8 p] 5)).alloc (.cells (nulC10 11) 5)).drew) (w.heap.size) 5 #[.int .u8 0, .int .u8 0, .int .u8 (p / 20), .int .u8 (p % 5 * 8), .int .u8 p] from heap_alloc2_old w _ _)
  have n1 : (convert 58 9 (.slice (some ⟨w.heap.size, 0, none⟩) 11 11)).run Try.prog ((w.alloc (.cells (nulC10 11) 5)).drew) = .ok (.string Z) ((w.alloc (.cells (nulC10 11) 5)).drew) := by rw [hZ]; exact run_convN10 (show Is ((w.alloc (.cells (nulC10 11) 5)).drew) (w.heap.size) 5 (nulC10 11) from Is.new w _ _)
  have n2 : (convert 58 9 (.slice (some ⟨w.heap.size + 1, 0, none⟩) 11 11)).run Try.prog (((w.alloc (.cells #[.int .u8 0, .int .u8 0, .int .u8 (p / 20), .int .u8 (p % 5 * 8), .int .u8 p] 5)).alloc (.cells (nulC10 11) 5)).drew) = .ok (.string Z) (((w.alloc (.cells #[.int .u8 0, .int .u8 0, .int .u8 (p / 20), .int .u8 (p % 5 * 8), .int .u8 p] 5)).alloc (.cells (nulC10 11) 5)).drew) := by rw [hZ]; exact run_convN10 (show Is (((w.alloc (.cells #[.int .u8 0, .int .u8 0, .int .u8 (p / 20), .int .u8 (p % 5 * 8), .int .u8 p] 5)).alloc (.cells (nulC10 11) 5)).drew) (w.heap.size + 1) 5 (nulC10 11) from heap_alloc2_new w _ _)
  have n3 : (convert 58 9 (.slice (some ⟨w.heap.size, 0, none⟩) 11 11)).run Try.prog (((w.alloc (.cells (nulC10 11) 5)).alloc (.cells #[.int .u8 0, .int .u8 0, .int .u8 (p / 20), .int .u8 (p % 5 * 8), .int .u8 p] 5)).drew) = .ok (.string Z) (((w.alloc (.cells (nulC10 11) 5)).alloc (.cells #[.int .u8 0, .int .u8 0, .int .u8 (p / 20), .int .u8 (p % 5 * 8), .int .u8 p] 5)).drew) := by rw [hZ]; exact run_convN10 (show Is (((w.alloc (.cells (nulC10 11) 5)).alloc (.cells #[.int .u8 0, .int .u8 0, .int .u8 (p / 20), .int .u8 (p % 5 * 8), .int .u8 p] 5)).drew) (w.heap.size) 5 (nulC10 11) from heap_alloc2_old w _ _)
  rw [← hZ]
  clear hZ
  go_enter Try.func23, Try.ntmps23
  go_wp2_with (go_at_call 10; refine (PK.out _).mono ?_; rintro e wp ⟨rfl, rfl⟩)
  go_region
  all_goals
    (go_wp2
     go_ret
     exact ⟨rfl, belowN (((Below.refl _ _).alloc (Nat.le_refl _) _).alloc (by simp) _) 1⟩)
set_option maxRecDepth 100000 in
set_option maxHeartbeats 4000000 in
theorem qcell_any12 (c : Int) (w : World) (h0 : -9223372036854775808 ≤ c ∧ c ≤ 9223372036854775807) :
    Calls Try.prog 24 #[.int .i64 c] w fun e w' => e = .returned (.string (cell12 c)) ∧ Below w.heap.size w w' := by
  have PK := Lib.hid (fun w => pick12_any c 256 w h0.1 h0.2 (by omega) (by omega))
  have hp := pickN_bd c 256 (by omega)
  have hv : cell12 c = strOfNums [99, pickN c 256] ++ nul11 38 := rfl
  rw [hv]
  clear hv
  generalize pickN c 256 = p at *
  have w1 : IntKind.u8.wrap (p) = p := by rw [show IntKind.u8.wrap (p) = (p) % 256 from rfl]; omega
  obtain ⟨Z, hZ⟩ : ∃ Z, Z = nul11 38 := ⟨_, rfl⟩
  have hn : ¬ (9223372036854775807 < (strOfNums [99, p]).size + Z.size) := by rw [hZ, nul_size11, strOfNums_size]; simp
  have mk : ∀ W : World, (Instr.makeSlice 58 (.int .i64 38) (.int .i64 38)).run Try.prog W = .ok (.slice (some ⟨W.heap.size, 0, none⟩) 38 38) (W.alloc (.cells (nulC10 38) 5)) := fun W => run_makeN10 W 38 (by omega)
  have a1 : (convert 58 9 (.slice (some ⟨w.heap.size, 0, none⟩) 2 2)).run Try.prog ((w.alloc (.cells #[.int .u8 99, .int .u8 p] 5)).drew) = .ok (.string (strOfNums [99, p])) ((w.alloc (.cells #[.int .u8 99, .int .u8 p] 5)).drew) := convL12 ([99, p]) (by rfl) (show Is ((w.alloc (.cells #[.int .u8 99, .int .u8 p] 5)).drew) (w.heap.size) 5 #[.int .u8 99, .int .u8 p] from Is.new w _ _)
  have a2 : (convert 58 9 (.slice (some ⟨w.heap.size + 1, 0, none⟩) 2 2)).run Try.prog (((w.alloc (.cells (nulC10 38) 5)).alloc (.cells #[.int .u8 99, .int .u8 p] 5)).drew) = .ok (.string (strOfNums [99, p])) (((w.alloc (.cells (nulC10 38) 5)).alloc (.cells #[.int .u8 99, .int .u8 p] 5)).drew) := convL12 ([99, p]) (by rfl) (show Is (((w.alloc (.cells (nulC10 38) 5)).alloc (.cells #[.int .u8 99, .int .u8 p] 5)).drew) (w.heap.size + 1) 5 #[.int .u8 99, .int .u8 p] from heap_alloc2_new w _ _)
  have a3 : (convert 58 9 (.slice (some ⟨w.heap.size, 0, none⟩) 2 2)).run Try.prog (((w.alloc (.cells #[.int .u8 99, .int .u8 p] 5)).alloc (.cells (nulC10 38) 5)).drew) = .ok (.string (strOfNums [99, p])) (((w.alloc (.cells #[.int .u8 99, .int .u8 p] 5)).alloc (.cells (nulC10 38) 5)).drew) := convL12 ([99, p]) (by rfl) (show Is (((w.alloc (.cells #[.int .u8 99, .int .u8 p] 5)).alloc (.cells (nulC10 38) 5)).drew) (w.heap.size) 5 #[.int .u8 99, .int .u8 p] from heap_alloc2_old w _ _)
  have n1 : (convert 58 9 (.slice (some ⟨w.heap.size, 0, none⟩) 38 38)).run Try.prog ((w.alloc (.cells (nulC10 38) 5)).drew) = .ok (.string Z) ((w.alloc (.cells (nulC10 38) 5)).drew) := by rw [hZ]; exact run_convN10 (show Is ((w.alloc (.cells (nulC10 38) 5)).drew) (w.heap.size) 5 (nulC10 38) from Is.new w _ _)
  have n2 : (convert 58 9 (.slice (some ⟨w.heap.size + 1, 0, none⟩) 38 38)).run Try.prog (((w.alloc (.cells #[.int .u8 99, .int .u8 p] 5)).alloc (.cells (nulC10 38) 5)).drew) = .ok (.string Z) (((w.alloc (.cells #[.int .u8 99, .int .u8 p] 5)).alloc (.cells (nulC10 38) 5)).drew) := by rw [hZ]; exact run_convN10 (show Is (((w.alloc (.cells #[.int .u8 99, .int .u8 p] 5)).alloc (.cells (nulC10 38) 5)).drew) (w.heap.size + 1) 5 (nulC10 38) from heap_alloc2_new w _ _)
  have n3 : (convert 58 9 (.slice (some ⟨w.heap.size, 0, none⟩) 38 38)).run Try.prog (((w.alloc (.cells (nulC10 38) 5)).alloc (.cells #[.int .u8 99, .int .u8 p] 5)).drew) = .ok (.string Z) (((w.alloc (.cells (nulC10 38) 5)).alloc (.cells #[.int .u8 99, .int .u8 p] 5)).drew) := by rw [hZ]; exact run_convN10 (show Is (((w.alloc (.cells (nulC10 38) 5)).alloc (.cells #[.int .u8 99, .int .u8 p] 5)).drew) (w.heap.size) 5 (nulC10 38) from heap_alloc2_old w _ _)
  rw [← hZ]
  clear hZ
  go_enter Try.func24, Try.ntmps24
  go_wp2
  go_region_with (go_at_call 10; refine (PK.out _).mono ?_; rintro e wp ⟨rfl, rfl⟩)
  all_goals
    (go_wp2
     go_ret
     exact ⟨rfl, belowN (((Below.refl _ _).alloc (Nat.le_refl _) _).alloc (by simp) _) 1⟩)
end Go.Proofs.Ytglcckpkbnppoaa
