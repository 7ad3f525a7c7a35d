/-
  MacParts: the walk of the statement's function.
-/
import Derived.Test.YtcpkkicpkmjagaaDoorRefN
namespace Go.Proofs.YtcpkkicpkmjagaaDoor
open Go.RowKit

theorem flat_at (X : List Int) (name : ByteArray) (K : Nat) (i : Nat) (h : i < K) : ∃ a b, flatL (prts X name K) = a ++ bytesL (tgs X name (i + 1)) ++ b ∧ a.length = 32 * i := by
  obtain ⟨r, hr⟩ := prts_add X name (i + 1) (K - (i + 1))
  rw [show i + 1 + (K - (i + 1)) = K by omega] at hr
  refine ⟨flatL (prts X name i), flatL r, ?_, by rw [flatL_length, prts_length]⟩
  rw [hr, prts_succ, flatL, List.flatMap_append, List.flatMap_append]
  simp only [List.flatMap_cons, List.flatMap_nil, List.append_nil]
  rfl
theorem drv_part (X : List Int) (name : ByteArray) (N i : Nat) (h : 32 * (i + 1) ≤ N) : (drv X name N).extract (32 * i) (32 * i + 32) = tgs X name (i + 1) := by
  obtain ⟨a, b, he, ha⟩ := flat_at X name ((N + 31) / 32) i (by omega)
  have hts : (tgs X name (i + 1)).size = 32 := tagB_size _ _
  have hl : (bytesL (tgs X name (i + 1))).length = 32 := by rw [bytesL_length, hts]
  apply ByteArray.ext
  rw [ByteArray.data_extract]
  apply Array.toList_inj.1
  rw [drv, he, Array.toList_extract, List.extract_eq_take_drop, strOfNums_data, List.map_take, List.drop_take, List.take_take, ← List.map_drop]
  rw [show 32 * i + 32 - 32 * i = 32 by omega, Nat.min_eq_left (by omega), List.append_assoc, List.drop_append_of_le_length (by omega), List.drop_of_length_le (by omega), List.nil_append, ← List.map_take, List.take_append_of_le_length (by omega), List.take_of_length_le (by omega), ← strOfNums_data, str_bytesL]

set_option maxRecDepth 100000 in
set_option maxHeartbeats 1000000 in
theorem mparts_walk (key name : ByteArray) (n : Int) (w : World) (hT : Tab w) (hk : key.size ≤ maxLen) (hname : name.size ≤ maxLen) (hn : -9223372036854775808 ≤ n ∧ n ≤ 9223372036854775807) :
    Calls Tryd.prog 8 #[.string key, .string name, .int .i64 n] w fun e w' => e = .returned (.bool true) ∧ Below w.heap.size w w' := by
  unfold maxLen at hk hname
  go_enter Tryd.func8, Tryd.ntmps8
  go_wp2_with fail
  refine (awake2_any _ hT).mono ?_
  rintro e w1 ⟨rfl, hB1⟩
  go_wp2_with fail
  have hK : (key.extract 0 (min (key.size : Int) 100).toNat).size ≤ 100 := by simp; omega
  have hS : (name.extract 0 (min (name.size : Int) 100).toNat).size ≤ 100 := by simp; omega
  generalize key.extract 0 (min (key.size : Int) 100).toNat = K at *
  generalize name.extract 0 (min (name.size : Int) 100).toNat = S at *
  refine (pick2_any n 200 _ hn.1 hn.2 (by decide) (by decide)).mono ?_
  rintro e w' ⟨rfl, rfl⟩
  have hp := pickN_bd n 200 (by decide)
  obtain ⟨N, hNe⟩ : ∃ N : Nat, pickN n 200 = (N : Int) := ⟨(pickN n 200).toNat, by omega⟩
  rw [hNe] at hp ⊢
  have hN : N < 200 := by omega
  clear hp hNe hk hname
  go_wp2_with fail
  have kt : ∀ s w, s.size ≤ 1048512 → Calls Tryd.prog 34 #[.string K, .string s] w fun e w' => e = .returned (.string (tagB (keyL K) s)) ∧ Below w.heap.size w w' := fun s w hs => rtag_ok K s w (by omega) hs
  refine (derive_ok K S N _ (hT.below hB1 hT.two) (by omega) (by omega) (by omega)).mono ?_
  rintro e w2 ⟨rfl, hb2⟩
  have hB2 : Below w.heap.size w w2 := hB1.trans (hb2.mono hB1.size)
  clear hb2 hB1
  generalize keyL K = X at *
  have hds := drv_size X S N
  have hdp := fun i h => drv_part X S N i h
  generalize drv X S N = D at *
  have hne : ((D.size : Int) != (N : Int)) = false := by rw [hds]; simp
  have KT := Lib.hid kt
  have HDP := Lib.hid hdp
  have HDS := Lib.hid hds
  clear kt hdp hds
  go_wp2
  clear hne
  go_loopw [13, 14] (fun l i wr => ∃ k : Nat, 32 * k ≤ N ∧ l = .string (tgs X S k) ∧ i = .int .i64 ((k : Int) + 1) ∧ Below w.heap.size w wr)
    (fun _ i _ => 4200 - (intOf i).toNat)
  case atStart => exact ⟨0, by omega, rfl, rfl, hB2⟩
  case round =>
    clear hB2
    obtain ⟨k, hk, rfl, rfl, hB⟩ := hrel
    have hts := tgs_size X S k
    by_cases hlt : 32 * (k + 1) ≤ N
    · have hst : tgs X S (k + 1) = tagB X (tgs X S k ++ S ++ one8 ((k : Int) + 1)) := rfl
      have hpt := HDP.out k hlt
      generalize tgs X S k = ah at *
      generalize hte : tgs X S (k + 1) = t1 at hst hpt
      have HTE := Lib.hid hte
      have HST := Lib.hid hst
      clear hte hst
      have h32 : 32 * ((k : Int) + 1) ≤ (N : Int) := by omega
      have n1 : ¬ (9223372036854775807 < ah.size + S.size) := by omega
      have n2 : ¬ (9223372036854775807 < (ah ++ S).size + (one8 ((k : Int) + 1)).size) := by rw [ByteArray.size_append, one8_size]; omega
      have n2' : ¬ (9223372036854775807 < ah.size + S.size + (one8 ((k : Int) + 1)).size) := by rw [one8_size]; omega
      have n3 : (ah ++ S ++ one8 ((k : Int) + 1)).size ≤ 1048512 := by rw [ByteArray.size_append, ByteArray.size_append, one8_size]; omega
      have hcv := run_convert_bytes_arg (P := Tryd.prog) (wr.alloc (.cells #[.int .u8 ((k : Int) + 1)] 5)) 42 5 Tryd.underlying42 Tryd.underlying5 wr.heap.size 0 1 1 [(k : Int) + 1] rfl (fun i hi => by
        obtain rfl : i = 0 := by omega
        exact (Is.new wr 5 #[.int .u8 ((k : Int) + 1)]).cell 0) 9 Tryd.underlying9
      change _ = Result.ok (Value.string (one8 ((k : Int) + 1))) _ at hcv
      have hsl : ∀ wx : World, (Instr.slice 9 (.string D) (some (.int .i64 (32 * ((k : Int) + 1) - 32))) (some (.int .i64 (32 * ((k : Int) + 1)))) none).run Tryd.prog wx = .ok (.string t1) wx := fun wx => by
        have h := run_slice_string (P := Tryd.prog) (w := wx) 9 D .i64 .i64 (32 * ((k : Int) + 1) - 32) (32 * ((k : Int) + 1)) Tryd.underlying9 (by omega) (by omega) (by rw [HDS.out]; omega)
        rw [show (32 * ((k : Int) + 1) - 32).toNat = 32 * k by omega, show (32 * ((k : Int) + 1)).toNat = 32 * k + 32 by omega, hpt] at h
        exact h
      have N3 := Lib.hid n3
      clear n3 hpt
      go_wp2_with fail
      refine (KT.out _ _ N3.out).mono ?_
      rintro e w3 ⟨rfl, hb3⟩
      rw [← HST.out]
      have hB3 : Below w.heap.size w w3 := (hB.alloc hB.size _).trans (hb3.mono (by have := hB.size; simp; omega))
      clear hb3 hB hcv n1 n2 n2'
      go_wp2
      go_roundw
      case rel => exact ⟨k + 1, by omega, by rw [HTE.out], by go_num, hB3⟩
      case measure => simp [intOf]; omega
    · have h32 : ¬ (32 * ((k : Int) + 1) ≤ (N : Int)) := by omega
      go_wp2
      go_ret
      exact ⟨rfl, hB⟩
end Go.Proofs.YtcpkkicpkmjagaaDoor
