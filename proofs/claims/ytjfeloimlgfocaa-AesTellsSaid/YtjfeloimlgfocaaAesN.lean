/-
  Contract of aes.Expand, without error. Conditions: a key of 16 or 32 bytes.
-/
import Derived.Test.YtjfeloimlgfocaaAesL
import Derived.Test.YtjfeloimlgfocaaKitInR
namespace Go.Proofs.Ytjfeloimlgfocaa
open Go.RowKit Go.Shelf
attribute [local go_sem] Oper.semAt_some

/-- where a round of Expand stands: the schedule, what is told so far, the round key; what was there stays. -/
structure StX (V0 w : World) (s Bb B9 n h : Nat) (key S : ByteArray) (K : List Nat) (V : World) : Prop where
  iS : Is V s 54 (sch key 1 0 (.slice (some ⟨h, 0, none⟩) (n + 7) (n + 7)))
  iB : Is V Bb 9 #[.string S]
  iK : Is V B9 60 (nA K)
  ko : KeepsOthers V0 V
  kp : Keep Bb V0 V
  bl : Below w.heap.size w V
section
variable {V0 w V V' : World} {s Bb B9 n h : Nat} {key S : ByteArray} {K : List Nat}
theorem StX.below (st : StX V0 w s Bb B9 n h key S K V) (hb : Below V.heap.size V V') : StX V0 w s Bb B9 n h key S K V' :=
  ⟨st.iS.below hb st.iS.lt, st.iB.below hb st.iB.lt, st.iK.below hb st.iK.lt, st.ko.trans (koBelow hb), st.kp.trans (Keep.below hb), st.bl.trans (hb.mono st.bl.size)⟩
theorem StX.store (st : StX V0 w s Bb B9 n h key S K V) (hw : w.heap.size ≤ Bb) (hs : s ≠ Bb) (h9 : B9 ≠ Bb) (S' : ByteArray) : StX V0 w s Bb B9 n h key S' K (V.setRow Bb #[.string S']) :=
  ⟨st.iS.rowFar hs _, st.iB.row _, st.iK.rowFar h9 _, st.ko.trans (koRow st.iB), st.kp.trans (keepRow _ _ _), belowRow st.bl hw _⟩
end
/-- one round key more. -/
theorem take_key (key : List Nat) (i : Nat) : (expB key).take (16 * (i + 1)) = (expB key).take (16 * i) ++ keyK key i := by
  unfold keyK
  rw [show 16 * (i + 1) = 16 * i + 16 by omega, List.take_add]

theorem strN_app (a b : List Nat) : strN (a ++ b) = strN a ++ strN b := by
  refine ByteArray.ext ?_
  refine Array.toList_inj.1 ?_
  rw [ByteArray.data_append, Array.toList_append]
  simp [strN, strOfNums_data]

set_option maxRecDepth 100000 in
set_option maxHeartbeats 1000000 in
theorem expand_ok (key : ByteArray) (n : Nat) (w : World) (hk : KeyN (natL key) n) :
    Calls Try.prog 11 #[.string key] w fun e w' => e = .returned (.tuple #[.string (strN (expB (natL key))), .int .i64 0]) ∧ Below w.heap.size w w' := by
  have hrk : ∀ w, Calls Try.prog 19 #[.string key] w fun e w' => e = .returned (.bool true) ∧ w = w' := fun w => by
    have := rightKey_any key w
    rwa [show (decide (key.size = 16) || decide (key.size = 32)) = true by have := hk.or; rw [natL_len] at this; simpa using this] at this
  have HRK := Lib.hid hrk
  have HK := Lib.hid hk
  clear hk hrk
  refine (callsIn_wide (n := 5)).1 ?_
  refine callsIn_of_wp_marks Try.func11 rfl trivial ?_ rfl
  simp only [Try.ntmps11, List.size_toArray, List.length_cons, List.length_nil, Nat.reduceAdd, Nat.reduceSub, Array.replicate_succ, Array.replicate_zero, List.push_toArray, List.append_toArray, List.nil_append, List.cons_append]
  gi_wp2_with (first
    | (refine ⟨trivial, ?_⟩; gi_at_call 19; refine (callsIn_wide.2 (HRK.out _)).mono ?_; rintro e w' ⟨rfl, rfl⟩)
    | (refine ⟨trivial, ?_⟩; gi_at_call 20; refine (inOrder_in _ _ _).mono ?_; rintro e w' ⟨rfl, rfl⟩))
  have iS0 : Is (w.alloc (.cells (sch key 0 0 (.slice none 0 0)) 54)) w.heap.size 54 (sch key 0 0 (.slice none 0 0)) := Is.new w _ _
  have iS := (iS0.alloc (.cells #[.string ⟨#[]⟩] 9)).alloc (.cells #[.pointer (some ⟨w.heap.size, 0, none⟩)] 75)
  have iB : Is (((w.alloc (.cells (sch key 0 0 (.slice none 0 0)) 54)).alloc (.cells #[.string ⟨#[]⟩] 9)).alloc (.cells #[.pointer (some ⟨w.heap.size, 0, none⟩)] 75)) (w.heap.size + 1) 9 #[.string ⟨#[]⟩] := Is.alloc (by have := Is.new (w.alloc (.cells (sch key 0 0 (.slice none 0 0)) 54)) 9 #[.string ⟨#[]⟩]; rwa [show (w.alloc (.cells (sch key 0 0 (.slice none 0 0)) 54)).heap.size = w.heap.size + 1 by simp] at this) _
  have iP : Is (((w.alloc (.cells (sch key 0 0 (.slice none 0 0)) 54)).alloc (.cells #[.string ⟨#[]⟩] 9)).alloc (.cells #[.pointer (some ⟨w.heap.size, 0, none⟩)] 75)) (w.heap.size + 1 + 1) 75 #[.pointer (some ⟨w.heap.size, 0, none⟩)] := by
    have := Is.new ((w.alloc (.cells (sch key 0 0 (.slice none 0 0)) 54)).alloc (.cells #[.string ⟨#[]⟩] 9)) 75 #[.pointer (some ⟨w.heap.size, 0, none⟩)]
    rwa [show ((w.alloc (.cells (sch key 0 0 (.slice none 0 0)) 54)).alloc (.cells #[.string ⟨#[]⟩] 9)).heap.size = w.heap.size + 1 + 1 by simp] at this
  have hB0 : Below w.heap.size w (((w.alloc (.cells (sch key 0 0 (.slice none 0 0)) 54)).alloc (.cells #[.string ⟨#[]⟩] 9)).alloc (.cells #[.pointer (some ⟨w.heap.size, 0, none⟩)] 75)) := (((Below.refl _ _).alloc (Nat.le_refl _) _).alloc (by simp) _).alloc (by simp; omega) _
  clear iS0
  change Code.wpIn _ _ _ _ _ _ (((w.alloc (.cells (sch key 0 0 (.slice none 0 0)) 54)).alloc (.cells #[.string ⟨#[]⟩] 9)).alloc (.cells #[.pointer (some ⟨w.heap.size, 0, none⟩)] 75))
  generalize (((w.alloc (.cells (sch key 0 0 (.slice none 0 0)) 54)).alloc (.cells #[.string ⟨#[]⟩] 9)).alloc (.cells #[.pointer (some ⟨w.heap.size, 0, none⟩)] 75)) = W0 at *
  obtain ⟨s, hs⟩ : ∃ s, s = w.heap.size := ⟨_, rfl⟩
  obtain ⟨Bb, hBb⟩ : ∃ Bb, Bb = w.heap.size + 1 := ⟨_, rfl⟩
  obtain ⟨Bp, hBp⟩ : ∃ Bp, Bp = w.heap.size + 1 + 1 := ⟨_, rfl⟩
  have q1 : s ≠ Bb := by omega
  have hsw : w.heap.size ≤ s := by omega
  have HWB := Lib.hid (show w.heap.size ≤ Bb by omega)
  rw [← hBp, ← hBb]
  rw [← hs]
  rw [← hBp] at iP
  rw [← hBb] at iB
  rw [← hs] at iS iP
  clear hs hBb hBp
  have HKK := Lib.hid (fun i (hi : i ≤ n + 6) => keyK_blk HK.out.or (natL_lt key) (r := i) (by unfold rndsN; rw [HK.out.div]; exact hi))
  have hn8 : n ≤ 8 := by have := HK.out.two; omega
  have HBL := Lib.hid iB.lt
  have HSL := Lib.hid iS.lt
  have HWL := Lib.hid hB0.size
  refine wpIn_rangeMade rfl (by omega) (gf := 44) (lb := #[.pointer (some ⟨Bp, 0, none⟩)]) rfl trivial (enters_of Try.func44 (by kernel_rfl) rfl)
    (inOrder_made _ (by omega) s Bp Bb n key (.slice none 0 0) W0 HK.out iS iP q1 iB.lt) (fun _ => rfl) iS.lt
    (fun i W => ∃ h, Is W s 54 (sch key 1 0 (.slice (some ⟨h, 0, none⟩) (n + 7) (n + 7))) ∧ Is W Bb 9 #[.string (strN ((expB (natL key)).take (16 * i)))] ∧ Below w.heap.size w W)
    (fun i A B hI hb => by
      obtain ⟨h, g1, g2, g3⟩ := hI
      exact ⟨h, g1.below hb g1.lt, g2.below hb g2.lt, g3.trans (hb.mono g3.size)⟩)
    (fun i A l o o' hl hlo ho hI => by
      obtain ⟨h, g1, g2, g3⟩ := hI
      exact ⟨h, g1.putObj hlo ho, g2.putObj hlo ho, belowPut g3 (by have := hB0.size; omega)⟩)
    (fun W W' hW hgr hmk => by
      obtain ⟨h, g1, g2, g3, g4⟩ := hmk
      have jB := iB.below hW iB.lt
      exact ⟨h, g1, (hgr.block Bb jB.lt (by intro e; cases e; exact q1 rfl)).trans jB, (hB0.trans (hW.mono hB0.size)).grown hgr (by have := hB0.size; have := hW.size; omega) (fun k e => by cases e; exact hsw)⟩) ?round ?done
  case round =>
    rintro l i x W hl hlW hx ⟨h, iS, iB, hB⟩
    obtain ⟨hi, rfl⟩ : i < n + 7 ∧ i = x := by
      have hlt := (List.getElem?_eq_some_iff.1 hx).1
      rw [List.length_range] at hlt
      rw [List.getElem?_range hlt] at hx
      exact ⟨hlt, Option.some.inj hx⟩
    have bK : Blk (keyK (natL key) i) := HKK.out i (by omega)
    have HQ9 := Lib.hid (show W.heap.size ≠ Bb by have := iB.lt; omega)
    have HQL := Lib.hid (show l ≠ W.heap.size by omega)
    have iK : Is (W.alloc (.cells (nA (keyK (natL key) i)) 60)) W.heap.size 60 (nA (keyK (natL key) i)) := Is.new W _ _
    have hb2 : Below W.heap.size W (W.alloc (.cells (nA (keyK (natL key) i)) 60)) := (Below.refl _ _).alloc (Nat.le_refl _) _
    have hlB : Bb ≠ l := by have := HBL.out; omega
    have hlS : s ≠ l := by have := HSL.out; omega
    have hlK : W.heap.size ≠ l := by omega
    have hlw : w.heap.size ≤ l := by have := HWL.out; omega
    clear hx
    simp only [encK]
    gi_wp2_with (refine wpListIn_store_rowI rfl 60 (.tmp 7) (.tmp 15) rfl W.heap.size (nA (keyK (natL key) i)) rfl rfl (heap_alloc_new W _) (sz16 bK) (sz0 bK) (nA_one _) ?_; rw [World.setRow_alloc_new])
    refine ⟨koBelow hb2, Keep.below hb2, fun o' => ?_⟩
    have st : StX ((W.alloc (.cells (nA (keyK (natL key) i)) 60)).putObj l (.loop o')) w s Bb W.heap.size n h key (strN ((expB (natL key)).take (16 * i))) (keyK (natL key) i) ((W.alloc (.cells (nA (keyK (natL key) i)) 60)).putObj l (.loop o')) :=
      ⟨(iS.below hb2 iS.lt).putFar hlS, (iB.below hb2 iB.lt).putFar hlB, iK.putFar hlK, KeepsOthers.refl _, Keep.refl _ _, belowPut (hB.trans (hb2.mono hB.size)) hlw⟩
    generalize (W.alloc (.cells (nA (keyK (natL key) i)) 60)).putObj l (.loop o') = V0 at *
    have hW9 : W.heap.size ≠ Bb := HQ9.out
    generalize W.heap.size = B9 at *
    clear iS iB iK hb2 hB hlB hlS hlK hlw
    gi_wp2
    have HX := Lib.hid (show strN ((expB (natL key)).take (16 * (i + 1))) = strN ((expB (natL key)).take (16 * i)) ++ strN (keyK (natL key) i) by rw [take_key, strN_app])
    have HL := Lib.hid (show ¬ (9223372036854775807 < (strN ((expB (natL key)).take (16 * i))).size + (strN (keyK (natL key) i)).size) by rw [strN_size, strN_size, bK.len, List.length_take]; omega)
    refine wpIn_region_any (by kernel_rfl) ?_
    have hb0 : Below V0.heap.size V0 V0.drew := belowN (Below.refl _ _) 1
    change wpAnyIn _ _ _ _ _ _ _ _ _ V0.drew
    replace st := st.below hb0
    clear hb0
    have HT := Lib.hid (fun w => text_any (keyK (natL key) i) w bK.len)
    have hsz := sz16 bK
    generalize keyK (natL key) i = K at *
    generalize strN ((expB (natL key)).take (16 * i)) = S at *
    generalize V0.drew = V at *
    refine wpAnyIn_two (i := 0) (j := 1) (by kernel_rfl) ?_ ?_
    · refine wpOpIn_value (v := .string S) rfl rfl (fun c h => by cases h) rfl (run_load_one rfl rfl st.iB (by go_simp)) ?_
      refine wpAnyIn_one (i := 1) (by kernel_rfl) (wpOpIn_value (v := .agg (nA K)) rfl rfl (fun c h => by cases h) rfl (run_load_rowO rfl rfl st.iK Try.underlying60 rfl hsz) ?_)
      refine wpAnyIn_one (i := 2) (by kernel_rfl) ?_
      refine wpOpIn_call rfl rfl (fun c h => by cases h) (fun _ => trivial) (by omega) (f := 21) (args := #[.agg (nA K)]) (by go_simp) ?_
      refine (callsIn_wide.2 (HT.out _)).mono ?_
      rintro e v ⟨rfl, hb⟩
      refine ⟨_, rfl, ?_⟩
      replace st := st.below hb
      clear hb
      refine wpAnyIn_one (i := 3) (by kernel_rfl) (wpOpIn_value (v := .string (S ++ strN K)) rfl rfl (fun c h => by cases h) rfl (by go_simp; exact if_neg HL.out) ?_)
      refine wpAnyIn_one (i := 4) (by kernel_rfl) (wpOpIn_skip rfl rfl (fun c h => by cases h) rfl (run_store_oneO rfl rfl rfl st.iB (by kernel_rfl) rfl) ?_)
      replace st := st.store HWB.out q1 hW9 (S ++ strN K)
      refine wpAnyIn_done (by kernel_rfl) ?_ _
      exact ⟨rfl, st.ko, st.kp, h, st.iS, by rw [HX.out]; exact st.iB, st.bl⟩
    · refine wpOpIn_value (v := .agg (nA K)) rfl rfl (fun c h => by cases h) rfl (run_load_rowO rfl rfl st.iK Try.underlying60 rfl hsz) ?_
      refine wpAnyIn_two (i := 0) (j := 2) (by kernel_rfl) ?_ ?_
      · refine wpOpIn_value (v := .string S) rfl rfl (fun c h => by cases h) rfl (run_load_one rfl rfl st.iB (by go_simp)) ?_
        refine wpAnyIn_one (i := 2) (by kernel_rfl) ?_
        refine wpOpIn_call rfl rfl (fun c h => by cases h) (fun _ => trivial) (by omega) (f := 21) (args := #[.agg (nA K)]) (by go_simp) ?_
        refine (callsIn_wide.2 (HT.out _)).mono ?_
        rintro e v ⟨rfl, hb⟩
        refine ⟨_, rfl, ?_⟩
        replace st := st.below hb
        clear hb
        refine wpAnyIn_one (i := 3) (by kernel_rfl) (wpOpIn_value (v := .string (S ++ strN K)) rfl rfl (fun c h => by cases h) rfl (by go_simp; exact if_neg HL.out) ?_)
        refine wpAnyIn_one (i := 4) (by kernel_rfl) (wpOpIn_skip rfl rfl (fun c h => by cases h) rfl (run_store_oneO rfl rfl rfl st.iB (by kernel_rfl) rfl) ?_)
        replace st := st.store HWB.out q1 hW9 (S ++ strN K)
        refine wpAnyIn_done (by kernel_rfl) ?_ _
        exact ⟨rfl, st.ko, st.kp, h, st.iS, by rw [HX.out]; exact st.iB, st.bl⟩
      · skip
        refine wpOpIn_call rfl rfl (fun c h => by cases h) (fun _ => trivial) (by omega) (f := 21) (args := #[.agg (nA K)]) (by go_simp) ?_
        refine (callsIn_wide.2 (HT.out _)).mono ?_
        rintro e v ⟨rfl, hb⟩
        refine ⟨_, rfl, ?_⟩
        replace st := st.below hb
        clear hb
        refine wpAnyIn_one (i := 0) (by kernel_rfl) (wpOpIn_value (v := .string S) rfl rfl (fun c h => by cases h) rfl (run_load_one rfl rfl st.iB (by go_simp)) ?_)
        refine wpAnyIn_one (i := 3) (by kernel_rfl) (wpOpIn_value (v := .string (S ++ strN K)) rfl rfl (fun c h => by cases h) rfl (by go_simp; exact if_neg HL.out) ?_)
        refine wpAnyIn_one (i := 4) (by kernel_rfl) (wpOpIn_skip rfl rfl (fun c h => by cases h) rfl (run_store_oneO rfl rfl rfl st.iB (by kernel_rfl) rfl) ?_)
        replace st := st.store HWB.out q1 hW9 (S ++ strN K)
        refine wpAnyIn_done (by kernel_rfl) ?_ _
        exact ⟨rfl, st.ko, st.kp, h, st.iS, by rw [HX.out]; exact st.iB, st.bl⟩
  case done =>
    rintro D W hD ⟨h, iS, iB, hB⟩ hK
    rw [List.length_range] at iB
    have hfin : (expB (natL key)).take (16 * (n + 7)) = expB (natL key) := by
      refine List.take_of_length_le ?_
      rw [expB_len HK.out.or]
      have := HK.out.len
      omega
    rw [hfin] at iB
    generalize hE : strN (expB (natL key)) = E at *
    have HE := Lib.hid hE
    clear hE hfin
    have hc := iB.cell 0
    simp only [List.getElem?_toArray, List.getElem?_cons_zero] at hc
    gi_wp2
    refine ⟨by simp, .inl ⟨_, _, rfl, run_takeDeferred hK, ?_⟩⟩
    refine ⟨.tuple #[.string E, .int .i64 0], by simp [results, Try.results11, go_sem], by rw [HE.out], ?_⟩
    exact belowPut hB (by have := HWL.out; omega)
end Go.Proofs.Ytjfeloimlgfocaa
