/-
  Layer 8: contracts of the statements' own pick, Text and Label.
-/
import Derived.Test.YtdbdoammbnogaaaIdx8
import Derived.Test.YtdbdoammbnogaaaGPl
import Derived.OwnWalk
import Derived.SizedLaws
namespace Go.Proofs.Ytdbdoammbnogaaa
open Go.RowKit Go.Shelf

theorem infoByte8 : (Try.prog.info? 5).map (fun i => (i.zero, i.size, i.bytes)) = some (some (.int .u8 0), 1, 1) := by kernel_rfl
theorem infoThree8 {P : Program} {t : TypeId} {z : Option Value} {s b : Nat} (h : (P.info? t).map (fun i => (i.zero, i.size, i.bytes)) = some (z, s, b)) : ∃ i, P.info? t = some i ∧ i.zero = z ∧ i.size = s ∧ i.bytes = b := by
  cases hi : P.info? t with
  | none => rw [hi] at h; cases h
  | some i =>
    rw [hi] at h
    cases h
    exact ⟨i, rfl, rfl, rfl, rfl⟩
/-- n noughts. -/
def nul8 (n : Nat) : ByteArray := strOfNums (List.replicate n 0)
theorem nul8_size (n : Nat) : (nul8 n).size = n := by rw [nul8, strOfNums_size, List.length_replicate]
/-- the cells of n noughts. -/
def nulC8 (n : Nat) : Array Value := (List.replicate n (Value.int .u8 0)).toArray
theorem run_make8 (W : World) (n : Nat) (h : n ≤ 2000000) :
    (Instr.makeSlice 40 (.int .i64 (n : Int)) (.int .i64 (n : Int))).run Try.prog W = .ok (.slice (some ⟨W.heap.size, 0, none⟩) n n) (W.alloc (.cells (nulC8 n) 5)) := by
  obtain ⟨i0, hi, hz0, hz1, hz2⟩ := infoThree8 infoByte8
  have h1 := run_make (P := Try.prog) W 40 5 i0 (.int .u8 0) Try.underlying40 hi hz0 .i64 .i64 (n : Int) (n : Int) (by omega) (by omega) (by rw [hz2]; omega) (by omega)
  rw [hz1, Int.toNat_natCast, Nat.mul_one] at h1
  have e : madeCells (Value.int .u8 0).cells n = nulC8 n := by
    apply Array.toList_inj.1
    show (madeCells #[.int .u8 0] n).toList = _
    rw [toList_madeCells_one]
    simp [nulC8]
  rw [e] at h1
  exact h1
theorem run_conv8 {W : World} {g n : Nat} (h : Is W g 5 (nulC8 n)) :
    (convert 40 9 (.slice (some ⟨g, 0, none⟩) n n)).run Try.prog W = .ok (.string (nul8 n)) W :=
  run_convert_bytes_arg (P := Try.prog) W 40 5 Try.underlying40 Try.underlying5 g 0 n n (List.replicate n 0) (by simp) (fun i hi => by
    rw [Nat.zero_add, h.cell, nulC8]
    simp [hi]) 9 Try.underlying9

set_option maxHeartbeats 1000000 in
theorem pick8_any (c n : Int) (w : World) (h0 : -9223372036854775808 ≤ c) (h1 : c ≤ 9223372036854775807) (hn : 0 < n) (hn2 : n ≤ 9223372036854775807) :
    Calls Try.prog 14 #[.int .i64 c, .int .i64 n] w fun e w' => e = .returned (.int .i64 (pickN c n)) ∧ w = w' := by
  by_cases hc : c < 0
  · have hd : pickN c n = (-(c + 1)) % n := by simp [pickN, hc]
    rw [hd]
    clear hd
    go_enter Try.func14, Try.ntmps14
    go_wp2
    go_ret
    refine ⟨?_, rfl⟩
    have e : -((c + 1).tmod n) = (-(c + 1)) % n := by rw [← Int.neg_tmod, Int.tmod_eq_emod_of_nonneg (by omega)]
    rw [← e]
    rfl
  · have hd : pickN c n = c % n := by simp [pickN, hc]
    rw [hd]
    clear hd
    go_enter Try.func14, Try.ntmps14
    go_wp2
    go_ret
    exact ⟨rfl, rfl⟩

theorem convL8 (L : List Int) {n : Nat} (hn : L.length = n) {W : World} {g : Nat} {cs : Array Value} (h : Is W g 5 cs) (hc : cs = (L.map (Value.int .u8)).toArray := by rfl) :
    (convert 40 9 (.slice (some ⟨g, 0, none⟩) n n)).run Try.prog W = .ok (.string (strOfNums L)) W :=
  run_convert_bytes_arg (P := Try.prog) W 40 5 Try.underlying40 Try.underlying5 g 0 n n L hn (fun i hi => by
    rw [Nat.zero_add, h.cell, hc]
    rw [← hn] at hi
    simp [hi]) 9 Try.underlying9
/-- what is in a cell, of a raw number; a label. -/
def text8 (c : Int) : ByteArray := strOfNums [pickN c 5] ++ nul8 23
def label8 (c : Int) : ByteArray := strOfNums [108, pickN c 4] ++ nul8 14
theorem text8_size (c : Int) : (text8 c).size = 24 := by rw [text8, ByteArray.size_append, strOfNums_size, nul8_size]; rfl
theorem label8_size (c : Int) : (label8 c).size = 16 := by rw [label8, ByteArray.size_append, strOfNums_size, nul8_size]; rfl

set_option maxRecDepth 100000 in
set_option maxHeartbeats 4000000 in
theorem qtext_any (c : Int) (w : World) (h0 : -9223372036854775808 ≤ c ∧ c ≤ 9223372036854775807) :
    Calls Try.prog 20 #[.int .i64 c] w fun e w' => e = .returned (.string (text8 c)) ∧ Below w.heap.size w w' := by
  have PK := Lib.hid (fun w => pick8_any c 5 w h0.1 h0.2 (by omega) (by omega))
  have hp := pickN_bd c 5 (by omega)
  have hv : text8 c = strOfNums [pickN c 5] ++ nul8 23 := by rw [text8]
  rw [hv]
  clear hv
  generalize pickN c 5 = p at *
  have hpu : IntKind.u8.wrap p = p := by rw [show IntKind.u8.wrap p = p % 256 from rfl]; omega
  obtain ⟨Z, hZ⟩ : ∃ Z, Z = nul8 23 := ⟨_, rfl⟩
  have hn : ¬ (9223372036854775807 < (strOfNums [p]).size + Z.size) := by rw [hZ, nul8_size, strOfNums_size]; simp
  have mk : ∀ W : World, (Instr.makeSlice 40 (.int .i64 23) (.int .i64 23)).run Try.prog W = .ok (.slice (some ⟨W.heap.size, 0, none⟩) 23 23) (W.alloc (.cells (nulC8 23) 5)) := fun W => run_make8 W 23 (by omega)
  have a1 : (convert 40 9 (.slice (some ⟨w.heap.size, 0, none⟩) 1 1)).run Try.prog ((w.alloc (.cells #[.int .u8 p] 5)).drew) = .ok (.string (strOfNums [p])) ((w.alloc (.cells #[.int .u8 p] 5)).drew) := convL8 ([p]) (by rfl) (show Is ((w.alloc (.cells #[.int .u8 p] 5)).drew) (w.heap.size) 5 #[.int .u8 p] from Is.new w _ _)
  have a2 : (convert 40 9 (.slice (some ⟨w.heap.size + 1, 0, none⟩) 1 1)).run Try.prog (((w.alloc (.cells (nulC8 23) 5)).alloc (.cells #[.int .u8 p] 5)).drew) = .ok (.string (strOfNums [p])) (((w.alloc (.cells (nulC8 23) 5)).alloc (.cells #[.int .u8 p] 5)).drew) := convL8 ([p]) (by rfl) (show Is (((w.alloc (.cells (nulC8 23) 5)).alloc (.cells #[.int .u8 p] 5)).drew) (w.heap.size + 1) 5 #[.int .u8 p] from heap_alloc2_new w _ _)
  have a3 : (convert 40 9 (.slice (some ⟨w.heap.size, 0, none⟩) 1 1)).run Try.prog (((w.alloc (.cells #[.int .u8 p] 5)).alloc (.cells (nulC8 23) 5)).drew) = .ok (.string (strOfNums [p])) (((w.alloc (.cells #[.int .u8 p] 5)).alloc (.cells (nulC8 23) 5)).drew) := convL8 ([p]) (by rfl) (show Is (((w.alloc (.cells #[.int .u8 p] 5)).alloc (.cells (nulC8 23) 5)).drew) (w.heap.size) 5 #[.int .u8 p] from heap_alloc2_old w _ _)
  have n1 : (convert 40 9 (.slice (some ⟨w.heap.size, 0, none⟩) 23 23)).run Try.prog ((w.alloc (.cells (nulC8 23) 5)).drew) = .ok (.string Z) ((w.alloc (.cells (nulC8 23) 5)).drew) := by rw [hZ]; exact run_conv8 (show Is ((w.alloc (.cells (nulC8 23) 5)).drew) (w.heap.size) 5 (nulC8 23) from Is.new w _ _)
  have n2 : (convert 40 9 (.slice (some ⟨w.heap.size + 1, 0, none⟩) 23 23)).run Try.prog (((w.alloc (.cells #[.int .u8 p] 5)).alloc (.cells (nulC8 23) 5)).drew) = .ok (.string Z) (((w.alloc (.cells #[.int .u8 p] 5)).alloc (.cells (nulC8 23) 5)).drew) := by rw [hZ]; exact run_conv8 (show Is (((w.alloc (.cells #[.int .u8 p] 5)).alloc (.cells (nulC8 23) 5)).drew) (w.heap.size + 1) 5 (nulC8 23) from heap_alloc2_new w _ _)
  have n3 : (convert 40 9 (.slice (some ⟨w.heap.size, 0, none⟩) 23 23)).run Try.prog (((w.alloc (.cells (nulC8 23) 5)).alloc (.cells #[.int .u8 p] 5)).drew) = .ok (.string Z) (((w.alloc (.cells (nulC8 23) 5)).alloc (.cells #[.int .u8 p] 5)).drew) := by rw [hZ]; exact run_conv8 (show Is (((w.alloc (.cells (nulC8 23) 5)).alloc (.cells #[.int .u8 p] 5)).drew) (w.heap.size) 5 (nulC8 23) from heap_alloc2_old w _ _)
  rw [← hZ]
  clear hZ
  go_enter Try.func20, Try.ntmps20
  go_wp2
  go_region_with (go_at_call 14; refine (PK.out _).mono ?_; rintro e wp ⟨rfl, rfl⟩)
  all_goals
    (go_wp2
     go_ret
     exact ⟨rfl, belowN (((Below.refl _ _).alloc (Nat.le_refl _) _).alloc (by simp) _) 1⟩)

set_option maxRecDepth 100000 in
set_option maxHeartbeats 4000000 in
theorem qlabel_any (c : Int) (w : World) (h0 : -9223372036854775808 ≤ c ∧ c ≤ 9223372036854775807) :
    Calls Try.prog 19 #[.int .i64 c] w fun e w' => e = .returned (.string (label8 c)) ∧ Below w.heap.size w w' := by
  have PK := Lib.hid (fun w => pick8_any c 4 w h0.1 h0.2 (by omega) (by omega))
  have hp := pickN_bd c 4 (by omega)
  have hv : label8 c = strOfNums [108, pickN c 4] ++ nul8 14 := by rw [label8]
  rw [hv]
  clear hv
  generalize pickN c 4 = p at *
  have hpu : IntKind.u8.wrap p = p := by rw [show IntKind.u8.wrap p = p % 256 from rfl]; omega
  obtain ⟨Z, hZ⟩ : ∃ Z, Z = nul8 14 := ⟨_, rfl⟩
  have hn : ¬ (9223372036854775807 < (strOfNums [108, p]).size + Z.size) := by rw [hZ, nul8_size, strOfNums_size]; simp
  have mk : ∀ W : World, (Instr.makeSlice 40 (.int .i64 14) (.int .i64 14)).run Try.prog W = .ok (.slice (some ⟨W.heap.size, 0, none⟩) 14 14) (W.alloc (.cells (nulC8 14) 5)) := fun W => run_make8 W 14 (by omega)
  have a1 : (convert 40 9 (.slice (some ⟨w.heap.size, 0, none⟩) 2 2)).run Try.prog ((w.alloc (.cells #[.int .u8 108, .int .u8 p] 5)).drew) = .ok (.string (strOfNums [108, p])) ((w.alloc (.cells #[.int .u8 108, .int .u8 p] 5)).drew) := convL8 ([108, p]) (by rfl) (show Is ((w.alloc (.cells #[.int .u8 108, .int .u8 p] 5)).drew) (w.heap.size) 5 #[.int .u8 108, .int .u8 p] from Is.new w _ _)
  have a2 : (convert 40 9 (.slice (some ⟨w.heap.size + 1, 0, none⟩) 2 2)).run Try.prog (((w.alloc (.cells (nulC8 14) 5)).alloc (.cells #[.int .u8 108, .int .u8 p] 5)).drew) = .ok (.string (strOfNums [108, p])) (((w.alloc (.cells (nulC8 14) 5)).alloc (.cells #[.int .u8 108, .int .u8 p] 5)).drew) := convL8 ([108, p]) (by rfl) (show Is (((w.alloc (.cells (nulC8 14) 5)).alloc (.cells #[.int .u8 108, .int .u8 p] 5)).drew) (w.heap.size + 1) 5 #[.int .u8 108, .int .u8 p] from heap_alloc2_new w _ _)
  have a3 : (convert 40 9 (.slice (some ⟨w.heap.size, 0, none⟩) 2 2)).run Try.prog (((w.alloc (.cells #[.int .u8 108, .int .u8 p] 5)).alloc (.cells (nulC8 14) 5)).drew) = .ok (.string (strOfNums [108, p])) (((w.alloc (.cells #[.int .u8 108, .int .u8 p] 5)).alloc (.cells (nulC8 14) 5)).drew) := convL8 ([108, p]) (by rfl) (show Is (((w.alloc (.cells #[.int .u8 108, .int .u8 p] 5)).alloc (.cells (nulC8 14) 5)).drew) (w.heap.size) 5 #[.int .u8 108, .int .u8 p] from heap_alloc2_old w _ _)
  have n1 : (convert 40 9 (.slice (some ⟨w.heap.size, 0, none⟩) 14 14)).run Try.prog ((w.alloc (.cells (nulC8 14) 5)).drew) = .ok (.string Z) ((w.alloc (.cells (nulC8 14) 5)).drew) := by rw [hZ]; exact run_conv8 (show Is ((w.alloc (.cells (nulC8 14) 5)).drew) (w.heap.size) 5 (nulC8 14) from Is.new w _ _)
  have n2 : (convert 40 9 (.slice (some ⟨w.heap.size + 1, 0, none⟩) 14 14)).run Try.prog (((w.alloc (.cells #[.int .u8 108, .int .u8 p] 5)).alloc (.cells (nulC8 14) 5)).drew) = .ok (.string Z) (((w.alloc (.cells #[.int .u8 108, .int .u8 p] 5)).alloc (.cells (nulC8 14) 5)).drew) := by rw [hZ]; exact run_conv8 (show Is (((w.alloc (.cells #[.int .u8 108, .int .u8 p] 5)).alloc (.cells (nulC8 14) 5)).drew) (w.heap.size + 1) 5 (nulC8 14) from heap_alloc2_new w _ _)
  have n3 : (convert 40 9 (.slice (some ⟨w.heap.size, 0, none⟩) 14 14)).run Try.prog (((w.alloc (.cells (nulC8 14) 5)).alloc (.cells #[.int .u8 108, .int .u8 p] 5)).drew) = .ok (.string Z) (((w.alloc (.cells (nulC8 14) 5)).alloc (.cells #[.int .u8 108, .int .u8 p] 5)).drew) := by rw [hZ]; exact run_conv8 (show Is (((w.alloc (.cells (nulC8 14) 5)).alloc (.cells #[.int .u8 108, .int .u8 p] 5)).drew) (w.heap.size) 5 (nulC8 14) from heap_alloc2_old w _ _)
  rw [← hZ]
  clear hZ
  go_enter Try.func19, Try.ntmps19
  go_wp2
  go_region_with (go_at_call 14; refine (PK.out _).mono ?_; rintro e wp ⟨rfl, rfl⟩)
  all_goals
    (go_wp2
     go_ret
     exact ⟨rfl, belowN (((Below.refl _ _).alloc (Nat.le_refl _) _).alloc (by simp) _) 1⟩)
end Go.Proofs.Ytdbdoammbnogaaa
