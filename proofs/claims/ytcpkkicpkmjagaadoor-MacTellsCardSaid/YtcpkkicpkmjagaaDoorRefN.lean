/-
  Contracts of the document's own answer for layer 2: refusals of Mac; Tag, Derive, Same. Conditions: keys and names of at most 1000 bytes, at most 4096 bytes asked for.
-/
import Derived.Test.YtcpkkicpkmjagaaDoorRefM
import Derived.Test.YtcpkkicpkmjagaaDoorMacK
namespace Go.Proofs.YtcpkkicpkmjagaaDoor
open Go.RowKit

theorem rmac_arg (key s : ByteArray) (w : World) (hk : 1000 < key.size) :
    Calls Tryd.prog 28 #[.string key, .string s] w fun e w' => e = .returned (.tuple #[.string ⟨#[]⟩, .int .i64 1]) ∧ w = w' := by
  go_enter Tryd.func28, Tryd.ntmps28
  go_wp2
  go_ret2
  exact ⟨rfl, rfl⟩

set_option maxRecDepth 100000 in
set_option maxHeartbeats 1000000 in
theorem rtag_ok (key s : ByteArray) (w : World) (hk : key.size ≤ 1000) (hs : s.size ≤ 1048512) :
    Calls Tryd.prog 34 #[.string key, .string s] w fun e w' => e = .returned (.string (tagB (keyL key) s)) ∧ Below w.heap.size w w' := by
  go_enter Tryd.func34, Tryd.ntmps34
  go_wp2_with fail
  refine (rmac_ok key s _ hk hs).mono ?_
  rintro e w1 ⟨rfl, hB1⟩
  generalize ht : tagB (keyL key) s = t
  have HT := Lib.hid ht
  clear ht
  go_wp2
  go_ret
  exact ⟨by rw [HT.out]; rfl, hB1⟩

set_option maxHeartbeats 1000000 in
theorem rderive_arg (key name : ByteArray) (n : Int) (w : World) (h : drvB key name n = false) :
    Calls Tryd.prog 30 #[.string key, .string name, .int .i64 n] w fun e w' => e = .returned (.tuple #[.string ⟨#[]⟩, .int .i64 1]) ∧ w = w' := by
  have h' : 1000 < key.size ∨ 1000 < name.size ∨ n < 0 ∨ 4096 < n := by
    simp only [drvB, Bool.and_eq_false_iff, decide_eq_false_iff_not] at h
    omega
  have hx : (decide (1000 < (key.size : Int)) || decide (1000 < (name.size : Int)) || decide (n < 0) || decide (4096 < n)) = true := by
    simp only [Bool.or_eq_true, decide_eq_true_eq]
    omega
  clear h h'
  by_cases h1 : 1000 < (key.size : Int)
  · have d1 : decide (1000 < (key.size : Int)) = true := by simpa using h1
    clear hx
    go_enter Tryd.func30, Tryd.ntmps30
    go_wp2
    go_ret2
    exact ⟨rfl, rfl⟩
  · have d1 : decide (1000 < (key.size : Int)) = false := by simpa using h1
    by_cases h2 : 1000 < (name.size : Int)
    · have d2 : decide (1000 < (name.size : Int)) = true := by simpa using h2
      clear hx
      go_enter Tryd.func30, Tryd.ntmps30
      go_wp2
      go_ret2
      exact ⟨rfl, rfl⟩
    · have d2 : decide (1000 < (name.size : Int)) = false := by simpa using h2
      by_cases h3 : n < 0
      · have d3 : decide (n < 0) = true := by simpa using h3
        clear hx
        go_enter Tryd.func30, Tryd.ntmps30
        go_wp2
        go_ret2
        exact ⟨rfl, rfl⟩
      · have d3 : decide (n < 0) = false := by simpa using h3
        have d4 : decide (4096 < n) = true := by simpa [d1, d2, d3] using hx
        have h4 : 4096 < n := by simpa using d4
        clear hx
        go_enter Tryd.func30, Tryd.ntmps30
        go_wp2
        go_ret2
        exact ⟨rfl, rfl⟩

set_option maxRecDepth 100000 in
set_option maxHeartbeats 1000000 in
theorem rderive_ok (key name : ByteArray) (N : Nat) (w : World) (hk : key.size ≤ 1000) (hname : name.size ≤ 1000) (hN : N ≤ 4096) :
    Calls Tryd.prog 30 #[.string key, .string name, .int .i64 (N : Int)] w fun e w' => e = .returned (.tuple #[.string (drv (keyL key) name N), .int .i64 0]) ∧ Below w.heap.size w w' := by
  have kt : ∀ s w, s.size ≤ 1048512 → Calls Tryd.prog 34 #[.string key, .string s] w fun e w' => e = .returned (.string (tagB (keyL key) s)) ∧ Below w.heap.size w w' := fun s w hs => rtag_ok key s w hk hs
  generalize keyL key = X at *
  have KT := Lib.hid kt
  clear kt
  have hN0 : (0 : Int) ≤ (N : Int) := by omega
  have hN1 : (N : Int) ≤ 4096 := by omega
  have d1 : decide (1000 < (key.size : Int)) = false := by simp; omega
  have d2 : decide (1000 < (name.size : Int)) = false := by simp; omega
  have d3 : decide ((N : Int) < 0) = false := by simp
  have d4 : decide (4096 < (N : Int)) = false := by simp; omega
  go_enter Tryd.func30, Tryd.ntmps30
  go_wp2
  clear d1 d2 d3 d4
  go_loopw [8, 9, 10] (fun o l i wr => ∃ k : Nat, k ≤ (N + 31) / 32 ∧ o = .string (strOfNums (flatL (prts X name k))) ∧ l = .string (tgs X name k) ∧ i = .int .i64 ((k : Int) + 1) ∧ Below w.heap.size w wr)
    (fun _ _ i _ => 4200 - (intOf i).toNat)
  case atStart => exact ⟨0, by omega, rfl, rfl, rfl, Below.refl _ _⟩
  case round =>
    obtain ⟨k, hk2, rfl, rfl, rfl, hB⟩ := hrel
    have hos : (strOfNums (flatL (prts X name k))).size = 32 * k := by rw [str_size, flatL_length, prts_length]
    have hts := tgs_size X name k
    by_cases hlt : 32 * k < N
    · have hst : tgs X name (k + 1) = tagB X (tgs X name k ++ name ++ one8 ((k : Int) + 1)) := rfl
      have hts1 : (tgs X name (k + 1)).size = 32 := tagB_size _ _
      have hnx : strOfNums (flatL (prts X name (k + 1))) = strOfNums (flatL (prts X name k)) ++ tgs X name (k + 1) := by
        rw [prts_succ, flatL_snoc, str_append]
        show _ ++ strOfNums (bytesL (tgs X name (k + 1))) = _
        rw [str_bytesL]
      generalize strOfNums (flatL (prts X name k)) = o at *
      generalize tgs X name k = ah at *
      generalize hte : tgs X name (k + 1) = t1 at hst hts1 hnx
      have HTE := Lib.hid hte
      clear hte
      have HST := Lib.hid hst
      have HNX := Lib.hid hnx
      have hd : decide ((o.size : Int) < (N : Int)) = true := by rw [hos]; simp; omega
      have hd' : decide (o.size < N) = true := by rw [hos]; simp; omega
      have hd2 : o.size < N := by omega
      have n1 : ¬ (9223372036854775807 < ah.size + name.size) := by omega
      have n2 : ¬ (9223372036854775807 < (ah ++ name).size + (one8 ((k : Int) + 1)).size) := by rw [ByteArray.size_append, one8_size]; omega
      have n2' : ¬ (9223372036854775807 < ah.size + name.size + (one8 ((k : Int) + 1)).size) := by rw [one8_size]; omega
      have n3 : (ah ++ name ++ one8 ((k : Int) + 1)).size ≤ 1048512 := by rw [ByteArray.size_append, ByteArray.size_append, one8_size]; omega
      have n4 : ¬ (9223372036854775807 < o.size + t1.size) := by omega
      have hcv := run_convert_bytes_arg (P := Tryd.prog) (wr.alloc (.cells #[.int .u8 ((k : Int) + 1)] 5)) 42 5 Tryd.underlying42 Tryd.underlying5 wr.heap.size 0 1 1 [(k : Int) + 1] rfl (fun i hi => by
        obtain rfl : i = 0 := by omega
        exact (Is.new wr 5 #[.int .u8 ((k : Int) + 1)]).cell 0) 9 Tryd.underlying9
      change _ = Result.ok (Value.string (one8 ((k : Int) + 1))) _ at hcv
      have hmod : ((k : Int) + 1) % 256 = (k : Int) + 1 := by omega
      have N3 := Lib.hid n3
      clear n3 hst hnx hos hts1
      go_wp2_with fail
      refine (KT.out _ _ N3.out).mono ?_
      rintro e w1 ⟨rfl, hb1⟩
      rw [← HST.out]
      have hB1 : Below w.heap.size w w1 := (hB.alloc hB.size _).trans (hb1.mono (by have := hB.size; simp; omega))
      clear hb1 hB hcv
      go_wp2
      go_roundw
      case rel => exact ⟨k + 1, by omega, by rw [HNX.out], by rw [HTE.out], by go_num, hB1⟩
      case measure => simp [intOf]; omega
    · have hd : decide ((((strOfNums (flatL (prts X name k))).size : Nat) : Int) < (N : Int)) = false := by rw [hos]; simp; omega
      have hfin : (strOfNums (flatL (prts X name k))).extract 0 N = drv X name N := by
        rw [str_take, drv, show (N + 31) / 32 = k by omega]
      have hd' : decide ((strOfNums (flatL (prts X name k))).size < N) = false := by rw [hos]; simp; omega
      have hle : (N : Int) ≤ (((strOfNums (flatL (prts X name k))).size : Nat) : Int) := by rw [hos]; omega
      generalize strOfNums (flatL (prts X name k)) = o at *
      have hsl : ∀ wx : World, (Instr.slice 9 (.string o) none (some (.int .i64 (N : Int))) none).run Tryd.prog wx = .ok (.string (o.extract 0 N)) wx := fun wx => by
        have := run_slice_string_h (P := Tryd.prog) (w := wx) (t := 9) (s := o) Tryd.underlying9 .i64 (N : Int) (by omega) hle
        rw [Int.toNat_natCast] at this
        exact this
      have HF := Lib.hid hfin
      clear hfin hos
      generalize o.extract 0 N = f at *
      go_wp2
      go_ret2
      exact ⟨by rw [← HF.out]; rfl, hB⟩

set_option maxHeartbeats 1000000 in
theorem rsame_no (a b : ByteArray) (w : World) (h : ((a.size : Int) != (b.size : Int)) = true) :
    Calls Tryd.prog 32 #[.string a, .string b] w fun e w' => e = .returned (.tuple #[.bool false, .int .i64 0]) ∧ w = w' := by
  go_enter Tryd.func32, Tryd.ntmps32
  go_wp2
  go_ret2
  exact ⟨rfl, rfl⟩
set_option maxHeartbeats 1000000 in
theorem rsame_yes (a b : ByteArray) (w : World) (h : ((a.size : Int) != (b.size : Int)) = false) :
    Calls Tryd.prog 32 #[.string a, .string b] w fun e w' => e = .returned (.tuple #[.bool (a.toList == b.toList), .int .i64 (a.size : Int)]) ∧ w = w' := by
  go_enter Tryd.func32, Tryd.ntmps32
  go_wp2
  go_ret2
  exact ⟨rfl, rfl⟩
end Go.Proofs.YtcpkkicpkmjagaaDoor
