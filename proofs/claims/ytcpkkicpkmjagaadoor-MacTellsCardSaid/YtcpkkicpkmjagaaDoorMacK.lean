/-
  mac.Derive refused; the chapter's example reckoned by the kernel; the statements' own helpers: awake answers true, pick the remainder. Conditions: the tables of layer 1 hold what their initialisers lay.
-/
import Derived.Test.YtcpkkicpkmjagaaDoorMacD
import Derived.Test.YtcpkkicpkmjagaaDoorMacS
import Derived.Test.YtcpkkicpkmjagaaDoorPick
import Derived.KernelRfl
namespace Go.Proofs.YtcpkkicpkmjagaaDoor
open Go.RowKit

/-- may Derive be asked this? -/
def drvB (key name : ByteArray) (n : Int) : Bool := decide (key.size ≤ 1000) && decide (name.size ≤ 1000) && decide (0 ≤ n) && decide (n ≤ 4096)
set_option maxHeartbeats 1000000 in
theorem derive_arg (key name : ByteArray) (n : Int) (w : World) (h : drvB key name n = false) :
    Calls Tryd.prog 29 #[.string key, .string name, .int .i64 n] w fun e w' => e = .returned (.tuple #[.string ⟨#[]⟩, .int .i64 1]) ∧ w = w' := by
  have h' : 1000 < key.size ∨ 1000 < name.size ∨ n < 0 ∨ 4096 < n := by
    simp only [drvB, Bool.and_eq_false_iff, decide_eq_false_iff_not] at h
    omega
  have hx : (decide (1000 < (key.size : Int)) || decide (1000 < (name.size : Int)) || decide (n < 0) || decide (4096 < n)) = true := by
    simp only [Bool.or_eq_true, decide_eq_true_eq]
    omega
  clear h h'
  by_cases h1 : 1000 < (key.size : Int)
  · have d1 : decide (1000 < (key.size : Int)) = true := by simpa using h1
    clear hx
    go_enter Tryd.func29, Tryd.ntmps29
    go_wp2
    go_ret2
    exact ⟨rfl, rfl⟩
  · have d1 : decide (1000 < (key.size : Int)) = false := by simpa using h1
    by_cases h2 : 1000 < (name.size : Int)
    · have d2 : decide (1000 < (name.size : Int)) = true := by simpa using h2
      clear hx
      go_enter Tryd.func29, Tryd.ntmps29
      go_wp2
      go_ret2
      exact ⟨rfl, rfl⟩
    · have d2 : decide (1000 < (name.size : Int)) = false := by simpa using h2
      by_cases h3 : n < 0
      · have d3 : decide (n < 0) = true := by simpa using h3
        clear hx
        go_enter Tryd.func29, Tryd.ntmps29
        go_wp2
        go_ret2
        exact ⟨rfl, rfl⟩
      · have d3 : decide (n < 0) = false := by simpa using h3
        have d4 : decide (4096 < n) = true := by simpa [d1, d2, d3] using hx
        have h4 : 4096 < n := by simpa using d4
        clear hx
        go_enter Tryd.func29, Tryd.ntmps29
        go_wp2
        go_ret2
        exact ⟨rfl, rfl⟩

theorem drv_size (X : List Int) (name : ByteArray) (N : Nat) : (drv X name N).size = N := by
  rw [drv, str_size, List.length_take, flatL_length, prts_length]; omega
abbrev exKey : ByteArray := ⟨#[11, 11, 11, 11, 11, 11, 11, 11, 11, 11, 11, 11, 11, 11, 11, 11, 11, 11, 11, 11]⟩
abbrev exText : ByteArray := ⟨#[72, 105, 32, 84, 104, 101, 114, 101]⟩
theorem ex_mac : (tagB (keyL exKey) exText).data.toList.take 4 = [176, 52, 76, 97] := by kernel_rfl
theorem firsts (s : ByteArray) (n : Nat) (l : List UInt8) (h : s.data.toList.take n = l) : s.extract 0 n = ⟨l.toArray⟩ := by
  apply ByteArray.ext
  rw [ByteArray.data_extract]
  apply Array.toList_inj.1
  simp [← h, Array.toList_extract]

set_option maxRecDepth 100000 in
set_option maxHeartbeats 1000000 in
theorem awake2_any (w : World) (hT : Tab w) :
    Calls Tryd.prog 25 #[] w fun e w' => e = .returned (.bool true) ∧ Below w.heap.size w w' := by
  go_enter Tryd.func25, Tryd.ntmps25
  go_wp2_with fail
  refine (mac_ok exKey exText _ hT (by decide) (by decide)).mono ?_
  rintro e w1 ⟨rfl, hB1⟩
  have hA := firsts _ _ _ ex_mac
  have hAs := tagB_size (keyL exKey) exText
  generalize tagB (keyL exKey) exText = a at *
  have HA := Lib.hid hA
  have HAs := Lib.hid hAs
  clear hA hAs
  go_wp2_with fail
  refine (derive_ok exKey ⟨#[110, 97, 109, 101]⟩ 40 _ (hT.below hB1 hT.two) (by decide) (by decide) (by decide)).mono ?_
  rintro e w2 ⟨rfl, hb2⟩
  have hBs := drv_size (keyL exKey) ⟨#[110, 97, 109, 101]⟩ 40
  generalize drv (keyL exKey) ⟨#[110, 97, 109, 101]⟩ 40 = b at *
  have HBs := Lib.hid hBs
  clear hBs
  have hB2 : Below w.heap.size w w2 := hB1.trans (hb2.mono hB1.size)
  clear hb2 hB1
  go_wp2_with fail
  refine (derive_arg exKey ⟨#[110, 97, 109, 101]⟩ (-1) _ (by decide)).mono ?_
  rintro e w' ⟨rfl, rfl⟩
  go_wp2_with fail
  refine (msame_yes ⟨#[97, 98, 99]⟩ ⟨#[97, 98, 99]⟩ _ rfl (by decide)).mono ?_
  rintro e w3 ⟨rfl, hb3⟩
  rw [eqB_true]
  have hB3 : Below w.heap.size w w3 := hB2.trans (hb3.mono hB2.size)
  clear hb3 hB2
  go_wp2_with fail
  refine (msame_yes ⟨#[97, 98, 99]⟩ ⟨#[97, 98, 100]⟩ _ rfl (by decide)).mono ?_
  rintro e w4 ⟨rfl, hb4⟩
  rw [eqB_false (a := ⟨#[97, 98, 99]⟩) (b := ⟨#[97, 98, 100]⟩) rfl (by decide)]
  have hB4 : Below w.heap.size w w4 := hB3.trans (hb4.mono hB3.size)
  clear hb4 hB3
  go_wp2_with fail
  refine (msame_no ⟨#[97, 98, 99]⟩ ⟨#[97, 98]⟩ _ (by decide)).mono ?_
  rintro e w' ⟨rfl, rfl⟩
  have q1 : ((a.size : Int) == 32) = true := by rw [HAs.out]; rfl
  have q2 : ((b.size : Int) == 40) = true := by rw [HBs.out]; rfl
  have q3 : (4 : Int) ≤ (a.size : Int) := by rw [HAs.out]; decide
  have hA := HA.out
  go_wp2
  go_ret
  exact ⟨rfl, hB4⟩

set_option maxHeartbeats 1000000 in
theorem pick2_any (c n : Int) (w : World) (h0 : -9223372036854775808 ≤ c) (h1 : c ≤ 9223372036854775807) (hn : 0 < n) (hn2 : n ≤ 9223372036854775807) :
    Calls Tryd.prog 26 #[.int .i64 c, .int .i64 n] w fun e w' => e = .returned (.int .i64 (pickN c n)) ∧ w = w' := by
  by_cases hc : c < 0
  · have hd : pickN c n = (-(c + 1)) % n := by simp [pickN, hc]
    rw [hd]
    clear hd
    go_enter Tryd.func26, Tryd.ntmps26
    go_wp2
    go_ret
    refine ⟨?_, rfl⟩
    have e : -((c + 1).tmod n) = (-(c + 1)) % n := by rw [← Int.neg_tmod, Int.tmod_eq_emod_of_nonneg (by omega)]
    rw [← e]
    rfl
  · have hd : pickN c n = c % n := by simp [pickN, hc]
    rw [hd]
    clear hd
    go_enter Tryd.func26, Tryd.ntmps26
    go_wp2
    go_ret
    exact ⟨rfl, rfl⟩
end Go.Proofs.YtcpkkicpkmjagaaDoor
