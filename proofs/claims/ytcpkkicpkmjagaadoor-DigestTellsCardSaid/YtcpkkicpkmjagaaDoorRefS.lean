/-
  Contracts of the document's own answer for layer 1: Sum and Whole. Conditions: at most 2^20 bytes.
-/
import Derived.Test.YtcpkkicpkmjagaaDoorRefE
namespace Go.Proofs.YtcpkkicpkmjagaaDoor
open Go.RowKit

theorem H0_ok : H0.Ok := ⟨by unfold okW; decide, by unfold okW; decide, by unfold okW; decide, by unfold okW; decide, by unfold okW; decide, by unfold okW; decide, by unfold okW; decide, by unfold okW; decide⟩
theorem addH_ok {x : Hs} (h : x.h.Ok) (s : ByteArray) : (addH x s).h.Ok := mixL_ok h _

set_option maxRecDepth 100000 in
set_option maxHeartbeats 1000000 in
theorem rsum_ok (s : ByteArray) (w : World) (hs : s.size ≤ 1048576) :
    Calls Tryd.prog 24 #[.string s] w fun e w' => e = .returned (.tuple #[.string (endS (addH Hs0 s)), .int .i64 0]) ∧ Below w.heap.size w w' := by
  have hle : (s.size : Int) ≤ 1048576 - Hs0.m := by show (s.size : Int) ≤ 1048576 - 0; omega
  have hr := right_add right_new hle
  have hok : (addH Hs0 s).h.Ok := addH_ok H0_ok s
  have HLE := Lib.hid hle
  have HR := Lib.hid hr
  have HOK := Lib.hid hok
  clear hle hr hok
  go_enter Tryd.func24, Tryd.ntmps24
  go_wp2_with fail
  refine (rnew_any _).mono ?_
  rintro e w1 ⟨rfl, hb1⟩
  go_wp2_with fail
  refine (radd_ok Hs0 s _ H0_ok right_new HLE.out).mono ?_
  rintro e w2 ⟨rfl, hb2⟩
  generalize hy : addH Hs0 s = y at HR HOK ⊢
  have HY := Lib.hid hy
  clear hy
  have hB2 : Below w.heap.size w w2 := hb1.trans (hb2.mono hb1.size)
  clear hb1 hb2
  go_wp2_with fail
  have hB3 := hB2.alloc hB2.size (.cells y.arr 25)
  refine (rend_ok y _ HOK.out HR.out).mono ?_
  rintro e w3 ⟨rfl, hb3⟩
  have hB4 : Below w.heap.size w w3 := hB3.trans (hb3.mono hB3.size)
  clear hb3 hB3 hB2
  generalize hes : endS y = es
  have HES := Lib.hid hes
  clear hes
  go_wp2
  go_ret2
  exact ⟨by rw [HY.out, HES.out]; rfl, hB4⟩

set_option maxRecDepth 100000 in
set_option maxHeartbeats 1000000 in
theorem rwhole_any (s : ByteArray) (w : World) (hs : s.size ≤ 1048576) :
    Calls Tryd.prog 33 #[.string s] w fun e w' => e = .returned (.string (endS (addH Hs0 s))) ∧ Below w.heap.size w w' := by
  go_enter Tryd.func33, Tryd.ntmps33
  go_wp2_with fail
  refine (rsum_ok s _ hs).mono ?_
  rintro e w1 ⟨rfl, hb1⟩
  generalize hes : endS (addH Hs0 s) = es
  have HES := Lib.hid hes
  clear hes
  go_wp2
  go_ret
  exact ⟨by rw [HES.out]; rfl, hb1⟩
end Go.Proofs.YtcpkkicpkmjagaaDoor
