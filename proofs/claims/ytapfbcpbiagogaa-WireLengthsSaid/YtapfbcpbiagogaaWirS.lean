/-
  Contracts of the statements' own pick, Label and Cell.
-/
import Derived.Test.YtapfbcpbiagogaaWirQ
import Derived.Test.YtapfbcpbiagogaaCLgP
namespace Go.Proofs.Ytapfbcpbiagogaa
open Go.RowKit Go.Shelf

set_option maxHeartbeats 1000000 in
theorem pick11_any (c n : Int) (w : World) (h0 : -9223372036854775808 ≤ c) (h1 : c ≤ 9223372036854775807) (hn : 0 < n) (hn2 : n ≤ 9223372036854775807) :
    Calls Try.prog 15 #[.int .i64 c, .int .i64 n] w fun e w' => e = .returned (.int .i64 (pickN c n)) ∧ w = w' := by
  by_cases hc : c < 0
  · have hd : pickN c n = (-(c + 1)) % n := by simp [pickN, hc]
    rw [hd]
    clear hd
    go_enter Try.func15, Try.ntmps15
    go_wp2
    go_ret
    refine ⟨?_, rfl⟩
    have e : -((c + 1).tmod n) = (-(c + 1)) % n := by rw [← Int.neg_tmod, Int.tmod_eq_emod_of_nonneg (by omega)]
    rw [← e]
    rfl
  · have hd : pickN c n = c % n := by simp [pickN, hc]
    rw [hd]
    clear hd
    go_enter Try.func15, Try.ntmps15
    go_wp2
    go_ret
    exact ⟨rfl, rfl⟩

theorem convL11 (L : List Int) {n : Nat} (hn : L.length = n) {W : World} {g : Nat} {cs : Array Value} (h : Is W g 5 cs) (hc : cs = (L.map (Value.int .u8)).toArray := by rfl) :
    (convert 45 9 (.slice (some ⟨g, 0, none⟩) n n)).run Try.prog W = .ok (.string (strOfNums L)) W :=
  run_convert_bytes_arg (P := Try.prog) W 45 5 Try.underlying45 Try.underlying5 g 0 n n L hn (fun i hi => by
    rw [Nat.zero_add, h.cell, hc]
    rw [← hn] at hi
    simp [hi]) 9 Try.underlying9
set_option maxRecDepth 100000 in
set_option maxHeartbeats 4000000 in
theorem qlabel_any11 (c : Int) (w : World) (h0 : -9223372036854775808 ≤ c ∧ c ≤ 9223372036854775807) :
    Calls Try.prog 22 #[.int .i64 c] w fun e w' => e = .returned (.string (label11 c)) ∧ Below w.heap.size w w' := by
  have PK := Lib.hid (fun w => pick11_any c 300 w h0.1 h0.2 (by omega) (by omega))
  have hp := pickN_bd c 300 (by omega)
  have hv : label11 c = strOfNums [pickN c 300 / 256, pickN c 300 % 256, 7 * pickN c 300 % 256] ++ nul11 13 := rfl
  rw [hv]
  clear hv
  generalize pickN c 300 = p at *
  have w1 : IntKind.u8.wrap (p / 256) = p / 256 := by rw [show IntKind.u8.wrap (p / 256) = (p / 256) % 256 from rfl]; omega
  have w2 : IntKind.u8.wrap (p % 256) = p % 256 := by rw [show IntKind.u8.wrap (p % 256) = (p % 256) % 256 from rfl]; omega
  have w3 : IntKind.u8.wrap (7 * p % 256) = 7 * p % 256 := by rw [show IntKind.u8.wrap (7 * p % 256) = (7 * p % 256) % 256 from rfl]; omega
  have w4 := IntWalk.i64_in (7 * p) (by omega)
  obtain ⟨Z, hZ⟩ : ∃ Z, Z = nul11 13 := ⟨_, rfl⟩
  have hn : ¬ (9223372036854775807 < (strOfNums [p / 256, p % 256, 7 * p % 256]).size + Z.size) := by rw [hZ, nul_size11, strOfNums_size]; simp
  have mk : ∀ W : World, (Instr.makeSlice 45 (.int .i64 13) (.int .i64 13)).run Try.prog W = .ok (.slice (some ⟨W.heap.size, 0, none⟩) 13 13) (W.alloc (.cells (nulC10 13) 5)) := fun W => run_makeN10 W 13 (by omega)
  have a1 : (convert 45 9 (.slice (some ⟨w.heap.size, 0, none⟩) 3 3)).run Try.prog ((w.alloc (.cells #[.int .u8 (p / 256), .int .u8 (p % 256), .int .u8 (7 * p % 256)] 5)).drew) = .ok (.string (strOfNums [p / 256, p % 256, 7 * p % 256])) ((w.alloc (.cells #[.int .u8 (p / 256), .int .u8 (p % 256), .int .u8 (7 * p % 256)] 5)).drew) := convL11 ([p / 256, p % 256, 7 * p % 256]) (by rfl) (show Is ((w.alloc (.cells #[.int .u8 (p / 256), .int .u8 (p % 256), .int .u8 (7 * p % 256)] 5)).drew) (w.heap.size) 5 #[.int .u8 (p / 256), .int .u8 (p % 256), .int .u8 (7 * p % 256)] from Is.new w _ _)
  have a2 : (convert 45 9 (.slice (some ⟨w.heap.size + 1, 0, none⟩) 3 3)).run Try.prog (((w.alloc (.cells (nulC10 13) 5)).alloc (.cells #[.int .u8 (p / 256), .int .u8 (p % 256), .int .u8 (7 * p % 256)] 5)).drew) = .ok (.string (strOfNums [p / 256, p % 256, 7 * p % 256])) (((w.alloc (.cells (nulC10 13) 5)).alloc (.cells #[.int .u8 (p / 256), .int .u8 (p % 256), .int .u8 (7 * p % 256)] 5)).drew) := convL11 ([p / 256, p % 256, 7 * p % 256]) (by rfl) (show Is (((w.alloc (.cells (nulC10 13) 5)).alloc (.cells #[.int .u8 (p / 256), .int .u8 (p % 256), .int .u8 (7 * p % 256)] 5)).drew) (w.heap.size + 1) 5 #[.int .u8 (p / 256), .int .u8 (p % 256), .int .u8 (7 * p % 256)] from heap_alloc2_new w _ _)
  have a3 : (convert 45 9 (.slice (some ⟨w.heap.size, 0, none⟩) 3 3)).run Try.prog (((w.alloc (.cells #[.int .u8 (p / 256), .int .u8 (p % 256), .int .u8 (7 * p % 256)] 5)).alloc (.cells (nulC10 13) 5)).drew) = .ok (.string (strOfNums [p / 256, p % 256, 7 * p % 256])) (((w.alloc (.cells #[.int .u8 (p / 256), .int .u8 (p % 256), .int .u8 (7 * p % 256)] 5)).alloc (.cells (nulC10 13) 5)).drew) := convL11 ([p / 256, p % 256, 7 * p % 256]) (by rfl) (show Is (((w.alloc (.cells #[.int .u8 (p / 256), .int .u8 (p % 256), .int .u8 (7 * p % 256)] 5)).alloc (.cells (nulC10 13) 5)).drew) (w.heap.size) 5 #[.int .u8 (p / 256), .int .u8 (p % 256), .int .u8 (7 * p % 256)] from heap_alloc2_old w _ _)
  have n1 : (convert 45 9 (.slice (some ⟨w.heap.size, 0, none⟩) 13 13)).run Try.prog ((w.alloc (.cells (nulC10 13) 5)).drew) = .ok (.string Z) ((w.alloc (.cells (nulC10 13) 5)).drew) := by rw [hZ]; exact run_convN10 (show Is ((w.alloc (.cells (nulC10 13) 5)).drew) (w.heap.size) 5 (nulC10 13) from Is.new w _ _)
  have n2 : (convert 45 9 (.slice (some ⟨w.heap.size + 1, 0, none⟩) 13 13)).run Try.prog (((w.alloc (.cells #[.int .u8 (p / 256), .int .u8 (p % 256), .int .u8 (7 * p % 256)] 5)).alloc (.cells (nulC10 13) 5)).drew) = .ok (.string Z) (((w.alloc (.cells #[.int .u8 (p / 256), .int .u8 (p % 256), .int .u8 (7 * p % 256)] 5)).alloc (.cells (nulC10 13) 5)).drew) := by rw [hZ]; exact run_convN10 (show Is (((w.alloc (.cells #[.int .u8 (p / 256), .int .u8 (p % 256), .int .u8 (7 * p % 256)] 5)).alloc (.cells (nulC10 13) 5)).drew) (w.heap.size + 1) 5 (nulC10 13) from heap_alloc2_new w _ _)
  have n3 : (convert 45 9 (.slice (some ⟨w.heap.size, 0, none⟩) 13 13)).run Try.prog (((w.alloc (.cells (nulC10 13) 5)).alloc (.cells #[.int .u8 (p / 256), .int .u8 (p % 256), .int .u8 (7 * p % 256)] 5)).drew) = .ok (.string Z) (((w.alloc (.cells (nulC10 13) 5)).alloc (.cells #[.int .u8 (p / 256), .int .u8 (p % 256), .int .u8 (7 * p % 256)] 5)).drew) := by rw [hZ]; exact run_convN10 (show Is (((w.alloc (.cells (nulC10 13) 5)).alloc (.cells #[.int .u8 (p / 256), .int .u8 (p % 256), .int .u8 (7 * p % 256)] 5)).drew) (w.heap.size) 5 (nulC10 13) from heap_alloc2_old w _ _)
  rw [← hZ]
  clear hZ
  go_enter Try.func22, Try.ntmps22
  go_wp2_with (go_at_call 15; refine (PK.out _).mono ?_; rintro e wp ⟨rfl, rfl⟩)
  go_region
  all_goals
    (go_wp2
     go_ret
     exact ⟨rfl, belowN (((Below.refl _ _).alloc (Nat.le_refl _) _).alloc (by simp) _) 1⟩)
set_option maxRecDepth 100000 in
set_option maxHeartbeats 4000000 in
theorem qcell_any11 (c : Int) (w : World) (h0 : -9223372036854775808 ≤ c ∧ c ≤ 9223372036854775807) :
    Calls Try.prog 23 #[.int .i64 c] w fun e w' => e = .returned (.string (cell11 c)) ∧ Below w.heap.size w w' := by
  have PK := Lib.hid (fun w => pick11_any c 256 w h0.1 h0.2 (by omega) (by omega))
  have hp := pickN_bd c 256 (by omega)
  have hv : cell11 c = strOfNums [pickN c 256] ++ nul11 39 := rfl
  rw [hv]
  clear hv
  generalize pickN c 256 = p at *
  have w1 : IntKind.u8.wrap p = p := by rw [show IntKind.u8.wrap p = p % 256 from rfl]; omega
  obtain ⟨Z, hZ⟩ : ∃ Z, Z = nul11 39 := ⟨_, rfl⟩
  have hn : ¬ (9223372036854775807 < (strOfNums [p]).size + Z.size) := by rw [hZ, nul_size11, strOfNums_size]; simp
  have mk : ∀ W : World, (Instr.makeSlice 45 (.int .i64 39) (.int .i64 39)).run Try.prog W = .ok (.slice (some ⟨W.heap.size, 0, none⟩) 39 39) (W.alloc (.cells (nulC10 39) 5)) := fun W => run_makeN10 W 39 (by omega)
  have a1 : (convert 45 9 (.slice (some ⟨w.heap.size, 0, none⟩) 1 1)).run Try.prog ((w.alloc (.cells #[.int .u8 p] 5)).drew) = .ok (.string (strOfNums [p])) ((w.alloc (.cells #[.int .u8 p] 5)).drew) := convL11 ([p]) (by rfl) (show Is ((w.alloc (.cells #[.int .u8 p] 5)).drew) (w.heap.size) 5 #[.int .u8 p] from Is.new w _ _)
  have a2 : (convert 45 9 (.slice (some ⟨w.heap.size + 1, 0, none⟩) 1 1)).run Try.prog (((w.alloc (.cells (nulC10 39) 5)).alloc (.cells #[.int .u8 p] 5)).drew) = .ok (.string (strOfNums [p])) (((w.alloc (.cells (nulC10 39) 5)).alloc (.cells #[.int .u8 p] 5)).drew) := convL11 ([p]) (by rfl) (show Is (((w.alloc (.cells (nulC10 39) 5)).alloc (.cells #[.int .u8 p] 5)).drew) (w.heap.size + 1) 5 #[.int .u8 p] from heap_alloc2_new w _ _)
  have a3 : (convert 45 9 (.slice (some ⟨w.heap.size, 0, none⟩) 1 1)).run Try.prog (((w.alloc (.cells #[.int .u8 p] 5)).alloc (.cells (nulC10 39) 5)).drew) = .ok (.string (strOfNums [p])) (((w.alloc (.cells #[.int .u8 p] 5)).alloc (.cells (nulC10 39) 5)).drew) := convL11 ([p]) (by rfl) (show Is (((w.alloc (.cells #[.int .u8 p] 5)).alloc (.cells (nulC10 39) 5)).drew) (w.heap.size) 5 #[.int .u8 p] from heap_alloc2_old w _ _)
  have n1 : (convert 45 9 (.slice (some ⟨w.heap.size, 0, none⟩) 39 39)).run Try.prog ((w.alloc (.cells (nulC10 39) 5)).drew) = .ok (.string Z) ((w.alloc (.cells (nulC10 39) 5)).drew) := by rw [hZ]; exact run_convN10 (show Is ((w.alloc (.cells (nulC10 39) 5)).drew) (w.heap.size) 5 (nulC10 39) from Is.new w _ _)
  have n2 : (convert 45 9 (.slice (some ⟨w.heap.size + 1, 0, none⟩) 39 39)).run Try.prog (((w.alloc (.cells #[.int .u8 p] 5)).alloc (.cells (nulC10 39) 5)).drew) = .ok (.string Z) (((w.alloc (.cells #[.int .u8 p] 5)).alloc (.cells (nulC10 39) 5)).drew) := by rw [hZ]; exact run_convN10 (show Is (((w.alloc (.cells #[.int .u8 p] 5)).alloc (.cells (nulC10 39) 5)).drew) (w.heap.size + 1) 5 (nulC10 39) from heap_alloc2_new w _ _)
  have n3 : (convert 45 9 (.slice (some ⟨w.heap.size, 0, none⟩) 39 39)).run Try.prog (((w.alloc (.cells (nulC10 39) 5)).alloc (.cells #[.int .u8 p] 5)).drew) = .ok (.string Z) (((w.alloc (.cells (nulC10 39) 5)).alloc (.cells #[.int .u8 p] 5)).drew) := by rw [hZ]; exact run_convN10 (show Is (((w.alloc (.cells (nulC10 39) 5)).alloc (.cells #[.int .u8 p] 5)).drew) (w.heap.size) 5 (nulC10 39) from heap_alloc2_old w _ _)
  rw [← hZ]
  clear hZ
  go_enter Try.func23, Try.ntmps23
  go_wp2
  go_region_with (go_at_call 15; refine (PK.out _).mono ?_; rintro e wp ⟨rfl, rfl⟩)
  all_goals
    (go_wp2
     go_ret
     exact ⟨rfl, belowN (((Below.refl _ _).alloc (Nat.le_refl _) _).alloc (by simp) _) 1⟩)
end Go.Proofs.Ytapfbcpbiagogaa
