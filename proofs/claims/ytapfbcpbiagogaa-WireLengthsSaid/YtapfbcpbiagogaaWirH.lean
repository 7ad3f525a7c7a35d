/-
  Contracts of wire.whole at requests and responses.
-/
import Derived.Test.YtapfbcpbiagogaaWirG
import Derived.Deep.DeepCutAuto
namespace Go.Proofs.Ytapfbcpbiagogaa
open Go.RowKit Go.Shelf

def whl11 (e : Int) (ok : Bool) (q z : Value) : Value := if e ≠ 0 then .tuple #[z, .int .i64 e] else if ok = true then .tuple #[q, .int .i64 0] else .tuple #[z, .int .i64 13]
set_option maxRecDepth 100000 in
set_option maxHeartbeats 4000000 in
theorem wholeQ_any11 (k : Int) (A A2 : Option Addr) (c c2 : Nat) (L C : List ByteArray) (e : Int) (w : World) (hl : L.length ≤ 9223372036854775807) (hl2 : C.length ≤ 9223372036854775807) (hc : InV w A (tL10 L)) (hc2 : InV w A2 (tL10 C)) :
    Calls Try.prog 37 #[.agg #[.int .i64 k, .slice A L.length c, .slice A2 C.length c2], .int .i64 e, .func (.func 27) #[] #[]] w fun r w' => r = .returned (whl11 e (right11 ⟨k, L, C⟩) (.agg #[.int .i64 k, .slice A L.length c, .slice A2 C.length c2]) (.agg #[.int .i64 0, .slice none 0 0, .slice none 0 0])) ∧ Below w.heap.size w w' := by
  obtain ⟨W3, hW3⟩ : ∃ W3, W3 = ((w.alloc (.cells #[.int .i64 k, .slice A L.length c, .slice A2 C.length c2] 26)).alloc (.cells #[.int .i64 0, .slice none 0 0, .slice none 0 0] 26)).alloc (.cells #[.int .i64 0, .slice none 0 0, .slice none 0 0] 26) := ⟨_, rfl⟩
  have i0 : Is W3 w.heap.size 26 #[.int .i64 k, .slice A L.length c, .slice A2 C.length c2] := by rw [hW3]; exact ((Is.new _ _ _).alloc _).alloc _
  have i1 : Is W3 (w.heap.size + 1) 26 #[.int .i64 0, .slice none 0 0, .slice none 0 0] := by rw [hW3]; exact Is.alloc (heap_alloc2_new w _ _) _
  have i2 : Is W3 (w.heap.size + 1 + 1) 26 #[.int .i64 0, .slice none 0 0, .slice none 0 0] := by
    rw [hW3]
    have := Is.new ((w.alloc (.cells #[.int .i64 k, .slice A L.length c, .slice A2 C.length c2] 26)).alloc (.cells #[.int .i64 0, .slice none 0 0, .slice none 0 0] 26)) 26 #[.int .i64 0, .slice none 0 0, .slice none 0 0]
    simpa using this
  have hB : Below w.heap.size w W3 := by rw [hW3]; exact (((Below.refl _ _).alloc (Nat.le_refl _) _).alloc (by simp) _).alloc (by simp; omega) _
  have M := Lib.hid (reqMay_any11 k A A2 c c2 L C W3 hl hl2 (hc.keep hB) (hc2.keep hB))
  have I0 := Lib.hid i0
  have I1 := Lib.hid i1
  have I2 := Lib.hid i2
  have HW := Lib.hid hW3
  clear i0 i1 i2 hW3 hc hc2
  by_cases he : e = 0
  · subst he
    generalize right11 ⟨k, L, C⟩ = R at *
    cases R with
    | true =>
      go_enter Try.func37, Try.ntmps37
      go_wp2_with fail
      rw [← HW.out]
      clear HW
      go_wp2_with (refine wpList_load_row rfl 26 _ rfl w.heap.size rfl _ _ _ _ I0.out Try.underlying26 rfl infoReq11 ?_)
      refine M.out.mono ?_
      rintro r w4 ⟨rfl, hb⟩
      have j0 := I0.out.below hb I0.out.lt
      have j1 := I1.out.below hb I1.out.lt
      have hB4 := hB.trans (hb.mono hB.size)
      have hB5 := belowRow hB4 (show w.heap.size ≤ w.heap.size + 1 by omega) #[.int .i64 k, .slice A L.length c, .slice A2 C.length c2]
      have j5 := j1.row #[.int .i64 k, .slice A L.length c, .slice A2 C.length c2]
      clear hb
      go_upto_region 6 with (fail)
      refine wp_region_list ?_
      refine wpList_load_row rfl 26 _ rfl w.heap.size rfl _ _ _ _ j0 Try.underlying26 rfl infoReq11 ?_
      go_wp2_with (first
        | (refine wpList_store_row rfl 26 _ _ rfl (w.heap.size + 1) #[.int .i64 k, .slice A L.length c, .slice A2 C.length c2] rfl rfl _ _ j1 infoReq11 rfl (by rw [← Array.all_toList]; rfl) ?_))
      exact bodyPost_ret (results_row_tmp Try.results37 _ _ (w.heap.size + 1) 26 #[.int .i64 k, .slice A L.length c, .slice A2 C.length c2] (0, 0) _ rfl j5 Try.underlying26 rfl infoReq11) rfl ⟨rfl, hB5⟩
    | false =>
      go_enter Try.func37, Try.ntmps37
      go_wp2_with fail
      rw [← HW.out]
      clear HW
      go_wp2_with (refine wpList_load_row rfl 26 _ rfl w.heap.size rfl _ _ _ _ I0.out Try.underlying26 rfl infoReq11 ?_)
      refine M.out.mono ?_
      rintro r w4 ⟨rfl, hb⟩
      have j2 := I2.out.below hb I2.out.lt
      have j1 := I1.out.below hb I1.out.lt
      have hB4 := hB.trans (hb.mono hB.size)
      have hB5 := belowRow hB4 (show w.heap.size ≤ w.heap.size + 1 by omega) #[.int .i64 0, .slice none 0 0, .slice none 0 0]
      have j5 := j1.row #[.int .i64 0, .slice none 0 0, .slice none 0 0]
      clear hb
      go_upto_region 5 with (fail)
      refine wp_region_list ?_
      refine wpList_load_row rfl 26 _ rfl (w.heap.size + 1 + 1) rfl _ _ _ _ j2 Try.underlying26 rfl infoReq11 ?_
      go_wp2_with (first
        | (refine wpList_store_row rfl 26 _ _ rfl (w.heap.size + 1) #[.int .i64 0, .slice none 0 0, .slice none 0 0] rfl rfl _ _ j1 infoReq11 rfl (by rw [← Array.all_toList]; rfl) ?_))
      exact bodyPost_ret (results_row_tmp Try.results37 _ _ (w.heap.size + 1) 26 #[.int .i64 0, .slice none 0 0, .slice none 0 0] (0, 0) _ rfl j5 Try.underlying26 rfl infoReq11) rfl ⟨rfl, hB5⟩
  · have HE := Lib.hid (show whl11 e (right11 ⟨k, L, C⟩) (.agg #[.int .i64 k, .slice A L.length c, .slice A2 C.length c2]) (.agg #[.int .i64 0, .slice none 0 0, .slice none 0 0]) = .tuple #[.agg #[.int .i64 0, .slice none 0 0, .slice none 0 0], .int .i64 e] from if_pos he)
    generalize whl11 e (right11 ⟨k, L, C⟩) (.agg #[.int .i64 k, .slice A L.length c, .slice A2 C.length c2]) (.agg #[.int .i64 0, .slice none 0 0, .slice none 0 0]) = V at *
    have hB5 := hB
    have j5 := I1.out
    go_enter Try.func37, Try.ntmps37
    go_wp2_with fail
    rw [← HW.out]
    clear HW
    go_wp2_with (first
      | (refine wpList_load_row rfl 26 _ rfl (w.heap.size + 1 + 1) rfl _ _ _ _ I2.out Try.underlying26 rfl infoReq11 ?_)
      | (refine wpList_store_row rfl 26 _ _ rfl (w.heap.size + 1) #[.int .i64 0, .slice none 0 0, .slice none 0 0] rfl rfl _ _ I1.out infoReq11 rfl (by rw [← Array.all_toList]; rfl) ?_))
    exact bodyPost_ret (results_row_tmp Try.results37 _ _ (w.heap.size + 1) 26 #[.int .i64 0, .slice none 0 0, .slice none 0 0] (0, 0) _ rfl j5 Try.underlying26 rfl infoReq11) rfl ⟨by rw [HE.out]; rfl, hB5⟩
set_option maxRecDepth 100000 in
set_option maxHeartbeats 4000000 in
theorem wholeR_any11 (k st m r : Int) (A : Option Addr) (c : Nat) (C : List ByteArray) (e : Int) (w : World) (hl : C.length ≤ 9223372036854775807) (hc : InV w A (tL10 C)) :
    Calls Try.prog 42 #[.agg #[.int .i64 k, .int .i64 st, .slice A C.length c, .int .i64 m, .int .i64 r], .int .i64 e, .func (.func 32) #[] #[]] w fun rr w' => rr = .returned (whl11 e (may11 ⟨k, st, C, m, r⟩) (.agg #[.int .i64 k, .int .i64 st, .slice A C.length c, .int .i64 m, .int .i64 r]) (.agg #[.int .i64 0, .int .i64 0, .slice none 0 0, .int .i64 0, .int .i64 0])) ∧ Below w.heap.size w w' := by
  obtain ⟨W3, hW3⟩ : ∃ W3, W3 = ((w.alloc (.cells #[.int .i64 k, .int .i64 st, .slice A C.length c, .int .i64 m, .int .i64 r] 28)).alloc (.cells #[.int .i64 0, .int .i64 0, .slice none 0 0, .int .i64 0, .int .i64 0] 28)).alloc (.cells #[.int .i64 0, .int .i64 0, .slice none 0 0, .int .i64 0, .int .i64 0] 28) := ⟨_, rfl⟩
  have i0 : Is W3 w.heap.size 28 #[.int .i64 k, .int .i64 st, .slice A C.length c, .int .i64 m, .int .i64 r] := by rw [hW3]; exact ((Is.new _ _ _).alloc _).alloc _
  have i1 : Is W3 (w.heap.size + 1) 28 #[.int .i64 0, .int .i64 0, .slice none 0 0, .int .i64 0, .int .i64 0] := by rw [hW3]; exact Is.alloc (heap_alloc2_new w _ _) _
  have i2 : Is W3 (w.heap.size + 1 + 1) 28 #[.int .i64 0, .int .i64 0, .slice none 0 0, .int .i64 0, .int .i64 0] := by
    rw [hW3]
    have := Is.new ((w.alloc (.cells #[.int .i64 k, .int .i64 st, .slice A C.length c, .int .i64 m, .int .i64 r] 28)).alloc (.cells #[.int .i64 0, .int .i64 0, .slice none 0 0, .int .i64 0, .int .i64 0] 28)) 28 #[.int .i64 0, .int .i64 0, .slice none 0 0, .int .i64 0, .int .i64 0]
    simpa using this
  have hB : Below w.heap.size w W3 := by rw [hW3]; exact (((Below.refl _ _).alloc (Nat.le_refl _) _).alloc (by simp) _).alloc (by simp; omega) _
  have M := Lib.hid (rspMay_any11 k st m r A c C W3 hl (hc.keep hB))
  have I0 := Lib.hid i0
  have I1 := Lib.hid i1
  have I2 := Lib.hid i2
  have HW := Lib.hid hW3
  clear i0 i1 i2 hW3 hc
  by_cases he : e = 0
  · subst he
    generalize may11 ⟨k, st, C, m, r⟩ = R at *
    cases R with
    | true =>
      go_enter Try.func42, Try.ntmps42
      go_wp2_with fail
      rw [← HW.out]
      clear HW
      go_wp2_with (refine wpList_load_row rfl 28 _ rfl w.heap.size rfl _ _ _ _ I0.out Try.underlying28 rfl infoRsp11 ?_)
      refine M.out.mono ?_
      rintro r w4 ⟨rfl, hb⟩
      have j0 := I0.out.below hb I0.out.lt
      have j1 := I1.out.below hb I1.out.lt
      have hB4 := hB.trans (hb.mono hB.size)
      have hB5 := belowRow hB4 (show w.heap.size ≤ w.heap.size + 1 by omega) #[.int .i64 k, .int .i64 st, .slice A C.length c, .int .i64 m, .int .i64 r]
      have j5 := j1.row #[.int .i64 k, .int .i64 st, .slice A C.length c, .int .i64 m, .int .i64 r]
      clear hb
      go_upto_region 6 with (fail)
      refine wp_region_list ?_
      refine wpList_load_row rfl 28 _ rfl w.heap.size rfl _ _ _ _ j0 Try.underlying28 rfl infoRsp11 ?_
      go_wp2_with (first
        | (refine wpList_store_row rfl 28 _ _ rfl (w.heap.size + 1) #[.int .i64 k, .int .i64 st, .slice A C.length c, .int .i64 m, .int .i64 r] rfl rfl _ _ j1 infoRsp11 rfl (by rw [← Array.all_toList]; rfl) ?_))
      exact bodyPost_ret (results_row_tmp Try.results42 _ _ (w.heap.size + 1) 28 #[.int .i64 k, .int .i64 st, .slice A C.length c, .int .i64 m, .int .i64 r] (0, 0) _ rfl j5 Try.underlying28 rfl infoRsp11) rfl ⟨rfl, hB5⟩
    | false =>
      go_enter Try.func42, Try.ntmps42
      go_wp2_with fail
      rw [← HW.out]
      clear HW
      go_wp2_with (refine wpList_load_row rfl 28 _ rfl w.heap.size rfl _ _ _ _ I0.out Try.underlying28 rfl infoRsp11 ?_)
      refine M.out.mono ?_
      rintro r w4 ⟨rfl, hb⟩
      have j2 := I2.out.below hb I2.out.lt
      have j1 := I1.out.below hb I1.out.lt
      have hB4 := hB.trans (hb.mono hB.size)
      have hB5 := belowRow hB4 (show w.heap.size ≤ w.heap.size + 1 by omega) #[.int .i64 0, .int .i64 0, .slice none 0 0, .int .i64 0, .int .i64 0]
      have j5 := j1.row #[.int .i64 0, .int .i64 0, .slice none 0 0, .int .i64 0, .int .i64 0]
      clear hb
      go_upto_region 5 with (fail)
      refine wp_region_list ?_
      refine wpList_load_row rfl 28 _ rfl (w.heap.size + 1 + 1) rfl _ _ _ _ j2 Try.underlying28 rfl infoRsp11 ?_
      go_wp2_with (first
        | (refine wpList_store_row rfl 28 _ _ rfl (w.heap.size + 1) #[.int .i64 0, .int .i64 0, .slice none 0 0, .int .i64 0, .int .i64 0] rfl rfl _ _ j1 infoRsp11 rfl (by rw [← Array.all_toList]; rfl) ?_))
      exact bodyPost_ret (results_row_tmp Try.results42 _ _ (w.heap.size + 1) 28 #[.int .i64 0, .int .i64 0, .slice none 0 0, .int .i64 0, .int .i64 0] (0, 0) _ rfl j5 Try.underlying28 rfl infoRsp11) rfl ⟨rfl, hB5⟩
  · have HE := Lib.hid (show whl11 e (may11 ⟨k, st, C, m, r⟩) (.agg #[.int .i64 k, .int .i64 st, .slice A C.length c, .int .i64 m, .int .i64 r]) (.agg #[.int .i64 0, .int .i64 0, .slice none 0 0, .int .i64 0, .int .i64 0]) = .tuple #[.agg #[.int .i64 0, .int .i64 0, .slice none 0 0, .int .i64 0, .int .i64 0], .int .i64 e] from if_pos he)
    generalize whl11 e (may11 ⟨k, st, C, m, r⟩) (.agg #[.int .i64 k, .int .i64 st, .slice A C.length c, .int .i64 m, .int .i64 r]) (.agg #[.int .i64 0, .int .i64 0, .slice none 0 0, .int .i64 0, .int .i64 0]) = V at *
    have hB5 := hB
    have j5 := I1.out
    go_enter Try.func42, Try.ntmps42
    go_wp2_with fail
    rw [← HW.out]
    clear HW
    go_wp2_with (first
      | (refine wpList_load_row rfl 28 _ rfl (w.heap.size + 1 + 1) rfl _ _ _ _ I2.out Try.underlying28 rfl infoRsp11 ?_)
      | (refine wpList_store_row rfl 28 _ _ rfl (w.heap.size + 1) #[.int .i64 0, .int .i64 0, .slice none 0 0, .int .i64 0, .int .i64 0] rfl rfl _ _ I1.out infoRsp11 rfl (by rw [← Array.all_toList]; rfl) ?_))
    exact bodyPost_ret (results_row_tmp Try.results42 _ _ (w.heap.size + 1) 28 #[.int .i64 0, .int .i64 0, .slice none 0 0, .int .i64 0, .int .i64 0] (0, 0) _ rfl j5 Try.underlying28 rfl infoRsp11) rfl ⟨by rw [HE.out]; rfl, hB5⟩
end Go.Proofs.Ytapfbcpbiagogaa
