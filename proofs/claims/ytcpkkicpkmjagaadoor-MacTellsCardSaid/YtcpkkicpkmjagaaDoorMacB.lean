/-
  Contracts of mac.tag and mac.Mac. Conditions: the tables of layer 1 hold what their initialisers lay; the text is at most 2^20 - 64 bytes.
-/
import Derived.Test.YtcpkkicpkmjagaaDoorMacA
import Derived.Test.YtcpkkicpkmjagaaDoorKitR
namespace Go.Proofs.YtcpkkicpkmjagaaDoor
open Go.RowKit

/-- a text's tag, by a key's 64 bytes. -/
def tagB (X : List Int) (s : ByteArray) : ByteArray := sumB (strOfNums (maskL X 92) ++ sumB (strOfNums (maskL X 54) ++ s))
theorem tagB_size (X : List Int) (s : ByteArray) : (tagB X s).size = 32 := sumB_size _
theorem maskS_size (X : List Int) (m : Int) (h : X.length = 64) : (strOfNums (maskL X m)).size = 64 := by rw [str_size, maskL_length, h]

theorem rangeB {W W' : World} {b : Nat} {cs : List Value} {B : Nat} (h : W.rangeAt b 0 cs) (hb : Below B W W') (hB : b < B) : W'.rangeAt b 0 cs := fun j v hv =>
  (hb.cell (p := ⟨b, 0 + j, none⟩) hB).trans (h j v hv)
theorem range_is {W : World} {b : Nat} {t : TypeId} {X : List Int} (h : Is W b t (byA X)) : W.rangeAt b 0 (X.map (Value.int .u8)) := fun j v hv => by
  rw [Nat.zero_add, h.cell]
  simpa [byA] using hv

set_option maxRecDepth 100000 in
set_option maxHeartbeats 1000000 in
theorem tag_any (X : List Int) (s : ByteArray) (w : World) (hT : Tab w) (hX : X.length = 64) (hs : s.size ≤ 1048512) :
    Calls Tryd.prog 44 #[.agg (byA X), .string s] w fun e w' => e = .returned (.string (tagB X s)) ∧ Below w.heap.size w w' := by
  have m92 : ∀ w, Calls Tryd.prog 56 #[.agg (byA X), .int .u8 92] w fun e w' => e = .returned (.string (strOfNums (maskL X 92))) ∧ Below w.heap.size w w' := fun w => masked_any X 92 w hX
  have m54 : ∀ w, Calls Tryd.prog 56 #[.agg (byA X), .int .u8 54] w fun e w' => e = .returned (.string (strOfNums (maskL X 54))) ∧ Below w.heap.size w w' := fun w => masked_any X 54 w hX
  have z92 := maskS_size X 92 hX
  have z54 := maskS_size X 54 hX
  have hi : (Tryd.prog.info? 68).map (·.size) = some (X.map (Value.int .u8)).length := by rw [List.length_map, hX]; kernel_rfl
  have hu := Tryd.underlying68
  have hR0 := range_is (Is.new w 68 (byA X))
  have ht : tagB X s = sumB (strOfNums (maskL X 92) ++ sumB (strOfNums (maskL X 54) ++ s)) := rfl
  unfold byA at m92 m54 hR0 ⊢
  generalize strOfNums (maskL X 92) = p at *
  generalize strOfNums (maskL X 54) = q at *
  generalize X.map (Value.int .u8) = cs at *
  generalize tagB X s = r at *
  have zq : (q ++ s).size ≤ 1048576 := by rw [ByteArray.size_append, z54]; omega
  have zr : (p ++ sumB (q ++ s)).size ≤ 1048576 := by rw [ByteArray.size_append, z92, sumB_size]; omega
  have n1 : ¬ (9223372036854775807 < q.size + s.size) := by omega
  have n2 : ¬ (9223372036854775807 < p.size + (sumB (q ++ s)).size) := by rw [z92, sumB_size]; omega
  have M1 := Lib.hid m92
  have M2 := Lib.hid m54
  have HT := Lib.hid ht
  clear m92 m54 z92 z54 ht hX
  have hB0 : Below w.heap.size w (w.alloc (.cells cs.toArray 68)) := (Below.refl _ _).alloc (Nat.le_refl _) _
  have hz0 : w.heap.size < (w.alloc (.cells cs.toArray 68)).heap.size := by simp
  go_enter Tryd.func44, Tryd.ntmps44
  go_wp2
  generalize w.alloc (.cells cs.toArray 68) = W at *
  refine wp_region_held_drew (S := fun w' => w'.rangeAt w.heap.size 0 cs) (by kernel_rfl) hR0 (fun hS0 => ?_)
  refine wpAnyH_take (i := 0) rfl (by kernel_rfl) (by kernel_rfl) (by kernel_rfl) (fun _ _ _ h => h) (yieldsIf_load_mid (by rfl) _ _ rfl _ _ rfl cs _ (fun w h => h) hu rfl hi) hS0 ?_
  simp only [Act.put]
  refine wpAnyH_take (i := 2) rfl (by kernel_rfl) (by kernel_rfl) (by kernel_rfl) (fun _ _ _ h => h) (yieldsIf_load_mid (by rfl) _ _ rfl _ _ rfl cs _ (fun w h => h) hu rfl hi) hS0 ?_
  simp only [Act.put]
  refine wpAnyH_take (i := 4) (v := .string s) rfl (by kernel_rfl) (by kernel_rfl) (by kernel_rfl) (fun _ _ _ h => h) (Or.inl ⟨by rfl, fun w _ => by go_simp⟩) hS0 ?_
  simp only [Act.put]
  refine wpAnyH_next (i := 1) (by kernel_rfl) rfl (fun K hK => ?_)
  go_simp
  go_at_call 56
  refine (M1.out _).mono ?_
  rintro e w1 ⟨rfl, hb⟩
  have hR1 : w1.rangeAt w.heap.size 0 cs := rangeB (W := W.drewN 1) hR0 hb hz0
  have hB1 : Below w.heap.size w w1 := (belowN hB0 1).trans (hb.mono hB0.size)
  have hz1 : w.heap.size < w1.heap.size := Nat.lt_of_lt_of_le hz0 hb.size
  clear hb
  refine hK.out _ _ hR1 (fun _ => ?_)
  clear hK K
  try simp only [Act.put]
  refine wpAnyH_next (i := 3) (by kernel_rfl) rfl (fun K hK => ?_)
  go_simp
  go_at_call 56
  refine (M2.out _).mono ?_
  rintro e w2 ⟨rfl, hb⟩
  have hR2 : w2.rangeAt w.heap.size 0 cs := rangeB hR1 hb hz1
  have hB2 : Below w.heap.size w w2 := hB1.trans (hb.mono hB1.size)
  have hz2 : w.heap.size < w2.heap.size := Nat.lt_of_lt_of_le hz1 hb.size
  clear hb
  refine hK.out _ _ hR2 (fun _ => ?_)
  clear hK K
  try simp only [Act.put]
  refine wpAnyH_next (i := 5) (by kernel_rfl) rfl (fun K hK => ?_)
  go_simp
  refine hK.out _ _ hR2 (fun _ => ?_)
  clear hK K
  try simp only [Act.put]
  refine wpAnyH_next (i := 6) (by kernel_rfl) rfl (fun K hK => ?_)
  go_simp
  go_at_call 55
  refine (msum_ok (q ++ s) _ (hT.below hB2 hT.two) zq).mono ?_
  rintro e w3 ⟨rfl, hb⟩
  have hR3 : w3.rangeAt w.heap.size 0 cs := rangeB hR2 hb hz2
  have hB3 : Below w.heap.size w w3 := hB2.trans (hb.mono hB2.size)
  have hz3 : w.heap.size < w3.heap.size := Nat.lt_of_lt_of_le hz2 hb.size
  clear hb
  generalize hv : sumB (q ++ s) = v at *
  have HV := Lib.hid hv
  clear hv
  refine hK.out _ _ hR3 (fun _ => ?_)
  clear hK K
  try simp only [Act.put]
  refine wpAnyH_next (i := 7) (by kernel_rfl) rfl (fun K hK => ?_)
  go_simp
  refine hK.out _ _ hR3 (fun _ => ?_)
  clear hK K
  try simp only [Act.put]
  refine wpAnyH_next (i := 8) (by kernel_rfl) rfl (fun K hK => ?_)
  go_simp
  go_at_call 55
  refine (msum_ok (p ++ v) _ (hT.below hB3 hT.two) zr).mono ?_
  rintro e w4 ⟨rfl, hb⟩
  have hR4 : w4.rangeAt w.heap.size 0 cs := rangeB hR3 hb hz3
  have hB4 : Below w.heap.size w w4 := hB3.trans (hb.mono hB3.size)
  clear hb
  generalize hv : sumB (p ++ v) = v4 at *
  have HV4 := Lib.hid hv
  clear hv
  refine hK.out _ _ hR4 (fun _ => ?_)
  clear hK K
  try simp only [Act.put]
  refine wpAnyH_next (i := 9) (by kernel_rfl) rfl (fun K hK => ?_)
  go_simp
  refine hK.out _ _ hR4 (fun _ => ?_)
  clear hK K
  refine wpAnyH_done (by kernel_rfl) ?_ _
  go_wp2
  go_ret
  exact ⟨by rw [HT.out, ← HV4.out]; rfl, hB4⟩

set_option maxRecDepth 100000 in
set_option maxHeartbeats 1000000 in
theorem mac_ok (key s : ByteArray) (w : World) (hT : Tab w) (hk : key.size ≤ 1000) (hs : s.size ≤ 1048512) :
    Calls Tryd.prog 27 #[.string key, .string s] w fun e w' => e = .returned (.tuple #[.string (tagB (keyL key) s), .int .i64 0]) ∧ Below w.heap.size w w' := by
  go_enter Tryd.func27, Tryd.ntmps27
  go_wp2_with fail
  refine (keyBlock_any key _ hT hk).mono ?_
  rintro e w1 ⟨rfl, hb1⟩
  go_wp2_with fail
  refine (tag_any (keyL key) s _ (hT.below hb1 hT.two) (keyL_length key) hs).mono ?_
  rintro e w2 ⟨rfl, hb2⟩
  have hB2 : Below w.heap.size w w2 := hb1.trans (hb2.mono hb1.size)
  generalize byA (keyL key) = X
  generalize ht : tagB (keyL key) s = t
  have HT := Lib.hid ht
  clear hb1 hb2 ht
  go_wp2
  go_ret2
  exact ⟨by rw [HT.out]; rfl, hB2⟩
theorem mac_arg (key s : ByteArray) (w : World) (hk : 1000 < key.size) :
    Calls Tryd.prog 27 #[.string key, .string s] w fun e w' => e = .returned (.tuple #[.string ⟨#[]⟩, .int .i64 1]) ∧ w = w' := by
  go_enter Tryd.func27, Tryd.ntmps27
  go_wp2
  go_ret2
  exact ⟨rfl, rfl⟩
theorem mac_long (key s : ByteArray) (w : World) (hk : key.size ≤ 1000) (hs : 1048512 < s.size) :
    Calls Tryd.prog 27 #[.string key, .string s] w fun e w' => e = .returned (.tuple #[.string ⟨#[]⟩, .int .i64 2]) ∧ w = w' := by
  go_enter Tryd.func27, Tryd.ntmps27
  go_wp2
  go_ret2
  exact ⟨rfl, rfl⟩
end Go.Proofs.YtcpkkicpkmjagaaDoor
