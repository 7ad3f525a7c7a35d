/-
  MacSame: the walk of the statement's function.
-/
import Derived.Test.YtcpkkicpkmjagaaDoorMacK
namespace Go.Proofs.YtcpkkicpkmjagaaDoor
open Go.RowKit

/-- a text of which one byte is another one. -/
def flipB (X : ByteArray) (K : Nat) (z : Int) : ByteArray := X.extract 0 K ++ one8 z ++ X.extract (K + 1) X.size
theorem flipB_size (X : ByteArray) (K : Nat) (z : Int) (h : K < X.size) : (flipB X K z).size = X.size := by
  simp only [flipB, ByteArray.size_append, ByteArray.size_extract, one8_size]; omega
theorem flipB_at (X : ByteArray) (K : Nat) (z : Int) (h : K < X.size) (h0 : 0 ≤ z) (h1 : z < 256) : bt (flipB X K z) K = z := by
  have e : (flipB X K z).data.toList = X.data.toList.take K ++ (strOfNums [z]).data.toList ++ X.data.toList.drop (K + 1) := by
    rw [flipB, one8]
    simp only [ByteArray.data_append, ByteArray.data_extract, Array.toList_append, Array.toList_extract]
    simp only [List.extract_eq_take_drop, List.drop_zero, Nat.sub_zero]
    congr 1
    rw [List.take_of_length_le]
    rw [List.length_drop, Array.length_toList]
    exact Nat.le_refl _
  have hl : (X.data.toList.take K).length = K := by
    rw [List.length_take, Array.length_toList]
    have : X.data.size = X.size := rfl
    omega
  rw [bt, e, List.append_assoc, List.getD_eq_getElem?_getD, List.getElem?_append_right (by omega), hl, Nat.sub_self]
  simp [strOfNums]
  omega
theorem flipB_ne (X : ByteArray) (K : Nat) (z : Int) (h : K < X.size) (h0 : 0 ≤ z) (h1 : z < 256) (hz : z ≠ bt X K) : X ≠ flipB X K z := by
  intro e
  have := flipB_at X K z h h0 h1
  rw [← e] at this
  exact hz this.symm

set_option maxRecDepth 100000 in
set_option maxHeartbeats 1000000 in
theorem same_walk (s : ByteArray) (at_ by_ : Int) (w : World) (hT : Tab w) (hs : s.size ≤ maxLen) (ha : -9223372036854775808 ≤ at_ ∧ at_ ≤ 9223372036854775807) (hb : -9223372036854775808 ≤ by_ ∧ by_ ≤ 9223372036854775807) :
    Calls Tryd.prog 7 #[.string s, .int .i64 at_, .int .i64 by_] w fun e w' => e = .returned (.bool true) ∧ Below w.heap.size w w' := by
  unfold maxLen at hs
  go_enter Tryd.func7, Tryd.ntmps7
  go_wp2_with fail
  refine (awake2_any _ hT).mono ?_
  rintro e w1 ⟨rfl, hB1⟩
  go_wp2_with fail
  have hX : (s.extract 0 (min (s.size : Int) 300).toNat).size ≤ 300 := by simp; omega
  generalize s.extract 0 (min (s.size : Int) 300).toNat = X at *
  refine (msame_yes X X _ rfl (by unfold maxLen; omega)).mono ?_
  rintro e w2 ⟨rfl, hb2⟩
  rw [eqB_true]
  have hB2 : Below w.heap.size w w2 := hB1.trans (hb2.mono hB1.size)
  clear hb2 hB1 hs
  by_cases h0 : X.size = 0
  · have d0 : ((X.size : Int) == 0) = true := by rw [h0]; rfl
    clear h0
    go_wp2
    go_ret
    exact ⟨rfl, hB2⟩
  · have d0 : ((X.size : Int) == 0) = false := by simpa using h0
    have hpos : (0 : Int) < (X.size : Int) := by omega
    clear h0
    go_wp2_with fail
    refine (pick2_any at_ (X.size : Int) _ ha.1 ha.2 hpos (by omega)).mono ?_
    rintro e w' ⟨rfl, rfl⟩
    have hkb := pickN_bd at_ (X.size : Int) hpos
    obtain ⟨K, hK⟩ : ∃ K : Nat, pickN at_ (X.size : Int) = (K : Int) := ⟨(pickN at_ (X.size : Int)).toNat, by omega⟩
    rw [hK] at hkb ⊢
    clear hK
    obtain ⟨hk1, hk2⟩ := hkb
    have hkn : K < X.size := by omega
    have hq := pickN_bd by_ 255 (by decide)
    have pk : ∀ w, Calls Tryd.prog 26 #[.int .i64 by_, .int .i64 255] w fun e w' => e = .returned (.int .i64 (pickN by_ 255)) ∧ w = w' := fun w => pick2_any by_ 255 w hb.1 hb.2 (by decide) (by decide)
    generalize pickN by_ 255 = q at *
    obtain ⟨hq0, hq1⟩ := hq
    have PK := Lib.hid pk
    clear pk
    have hxb := xor_bd (bt_bd X K) (show 0 ≤ 1 + q ∧ 1 + q < 256 by omega)
    have hzne : bits BinOp.xor IntKind.u8 (bt X K) (1 + q) ≠ bt X K := by
      have h1 := bt_bd X K
      rw [u8_xor _ _ h1.1 h1.2 (by omega) (by omega)]
      intro e
      have e' : (bt X K).toNat ^^^ (1 + q).toNat = (bt X K).toNat := by omega
      have e2 : (bt X K).toNat ^^^ ((bt X K).toNat ^^^ (1 + q).toNat) = (bt X K).toNat ^^^ (bt X K).toNat := by rw [e']
      rw [← Nat.xor_assoc, Nat.xor_self, Nat.zero_xor] at e2
      omega
    have ga := bt_get hkn
    have hfs := fun z => flipB_size X K z hkn
    have hfe := flipB_ne X K (bits BinOp.xor IntKind.u8 (bt X K) (1 + q)) hkn hxb.1.1 hxb.1.2 hzne
    have hfd : flipB X K (bits BinOp.xor IntKind.u8 (bt X K) (1 + q)) = X.extract 0 K ++ one8 (bits BinOp.xor IntKind.u8 (bt X K) (1 + q)) ++ X.extract (K + 1) X.size := rfl
    have hfs := hfs (bits BinOp.xor IntKind.u8 (bt X K) (1 + q))
    have HFS := Lib.hid hfs
    have HFE := Lib.hid hfe
    clear hfs hfe hxb hzne
    have s1 : ∀ wx : World, (Instr.slice 9 (.string X) none (some (.int .i64 (K : Int))) none).run Tryd.prog wx = .ok (.string (X.extract 0 K)) wx := fun wx => by
      have := run_slice_string_h (P := Tryd.prog) (w := wx) (t := 9) (s := X) Tryd.underlying9 .i64 (K : Int) (by omega) (by omega)
      rw [Int.toNat_natCast] at this
      exact this
    have s2 : ∀ wx : World, (Instr.slice 9 (.string X) (some (.int .i64 ((K : Int) + 1))) none none).run Tryd.prog wx = .ok (.string (X.extract (K + 1) X.size)) wx := fun wx => by
      have := run_slice_string_l (P := Tryd.prog) (w := wx) (t := 9) (s := X) Tryd.underlying9 .i64 ((K : Int) + 1) (by omega) (by omega)
      rw [show ((K : Int) + 1).toNat = K + 1 by omega] at this
      exact this
    have e1 : (X.extract 0 K).size = K := by simp; omega
    have e2 : (X.extract (K + 1) X.size).size = X.size - (K + 1) := by simp
    have n1 : ∀ z, ¬ (9223372036854775807 < (X.extract 0 K).size + (one8 z).size) := fun z => by rw [e1, one8_size]; omega
    have n2 : ∀ z, ¬ (9223372036854775807 < (X.extract 0 K ++ one8 z).size + (X.extract (K + 1) X.size).size) := fun z => by rw [ByteArray.size_append, e1, e2, one8_size]; omega
    have N1 := Lib.hid n1
    have N2 := Lib.hid n2
    clear n1 n2 e1 e2
    generalize hR0 : X.extract 0 K = A0 at *
    generalize hR1 : X.extract (K + 1) X.size = A1 at *
    have HR0 := Lib.hid hR0
    clear hR0 hR1
    have w1i := IntWalk.i64_in ((K : Int) + 1) (by omega)
    have w2i := IntWalk.i64_in (1 + q) (by omega)
    have w3i : IntKind.u8.wrap (1 + q) = 1 + q := by rw [IntKind.wrap_u8]; omega
    obtain ⟨z, hz⟩ : ∃ z, z = bits BinOp.xor IntKind.u8 (bt X K) (1 + q) := ⟨_, rfl⟩
    rw [← hz] at hfd HFS HFE
    have hcv := run_convert_bytes_arg (P := Tryd.prog) (w2.alloc (.cells #[.int .u8 z] 5)).drew 42 5 Tryd.underlying42 Tryd.underlying5 w2.heap.size 0 1 1 [z] rfl (fun i hi => by
      obtain rfl : i = 0 := by omega
      exact (Is.new w2 5 #[.int .u8 z]).cell 0) 9 Tryd.underlying9
    change _ = Result.ok (Value.string (one8 z)) _ at hcv
    have HZ := Lib.hid hz
    have HFD := Lib.hid hfd
    clear hz hfd
    have n1 := N1.out z
    have n2 := N2.out z
    rw [ByteArray.size_append] at n2
    go_wp2_with fail
    refine wp_region_held_drew (S := fun _ => True) (by kernel_rfl) trivial (fun hS => ?_)
    refine wpAnyH_take (i := 0) (v := .string X) rfl (by kernel_rfl) (by kernel_rfl) (by kernel_rfl) (fun _ _ _ h => h) (Or.inl ⟨by rfl, fun w _ => by go_simp⟩) hS ?_
    simp only [Act.put]
    refine wpAnyH_take (i := 1) (v := .int .i64 (K : Int)) rfl (by kernel_rfl) (by kernel_rfl) (by kernel_rfl) (fun _ _ _ h => h) (Or.inl ⟨by rfl, fun w _ => by go_simp⟩) hS ?_
    simp only [Act.put]
    refine wpAnyH_take (i := 2) (v := .string A0) rfl (by kernel_rfl) (by kernel_rfl) (by kernel_rfl) (fun _ _ _ h => h) (Or.inl ⟨by rfl, fun w _ => by go_simp⟩) hS ?_
    simp only [Act.put]
    refine wpAnyH_take (i := 3) (v := .string X) rfl (by kernel_rfl) (by kernel_rfl) (by kernel_rfl) (fun _ _ _ h => h) (Or.inl ⟨by rfl, fun w _ => by go_simp⟩) hS ?_
    simp only [Act.put]
    refine wpAnyH_take (i := 4) (v := .int .i64 (K : Int)) rfl (by kernel_rfl) (by kernel_rfl) (by kernel_rfl) (fun _ _ _ h => h) (Or.inl ⟨by rfl, fun w _ => by go_simp⟩) hS ?_
    simp only [Act.put]
    refine wpAnyH_take (i := 5) (v := .int .u8 (bt X K)) rfl (by kernel_rfl) (by kernel_rfl) (by kernel_rfl) (fun _ _ _ h => h) (Or.inl ⟨by rfl, fun w _ => by go_simp⟩) hS ?_
    simp only [Act.put]
    refine wpAnyH_take (i := 6) (v := .int .i64 by_) rfl (by kernel_rfl) (by kernel_rfl) (by kernel_rfl) (fun _ _ _ h => h) (Or.inl ⟨by rfl, fun w _ => by go_simp⟩) hS ?_
    simp only [Act.put]
    refine wpAnyH_take (i := 14) (v := .string X) rfl (by kernel_rfl) (by kernel_rfl) (by kernel_rfl) (fun _ _ _ h => h) (Or.inl ⟨by rfl, fun w _ => by go_simp⟩) hS ?_
    simp only [Act.put]
    refine wpAnyH_take (i := 15) (v := .int .i64 (K : Int)) rfl (by kernel_rfl) (by kernel_rfl) (by kernel_rfl) (fun _ _ _ h => h) (Or.inl ⟨by rfl, fun w _ => by go_simp⟩) hS ?_
    simp only [Act.put]
    refine wpAnyH_take (i := 16) (v := .int .i64 ((K : Int) + 1)) rfl (by kernel_rfl) (by kernel_rfl) (by kernel_rfl) (fun _ _ _ h => h) (Or.inl ⟨by rfl, fun w _ => by go_simp⟩) hS ?_
    simp only [Act.put]
    refine wpAnyH_take (i := 17) (v := .string A1) rfl (by kernel_rfl) (by kernel_rfl) (by kernel_rfl) (fun _ _ _ h => h) (Or.inl ⟨by rfl, fun w _ => by go_simp⟩) hS ?_
    simp only [Act.put]
    refine wpAnyH_next (i := 7) (by kernel_rfl) rfl (fun Kc hKc => ?_)
    go_simp
    go_at_call 26
    refine (PK.out _).mono ?_
    rintro e w' ⟨rfl, rfl⟩
    refine hKc.out _ _ trivial (fun _ => ?_)
    clear hKc Kc
    try simp only [Act.put]
    refine wpAnyH_next (i := 8) (by kernel_rfl) rfl (fun Kc hKc => ?_)
    go_simp
    refine hKc.out _ _ trivial (fun _ => ?_)
    clear hKc Kc
    try simp only [Act.put]
    refine wpAnyH_next (i := 9) (by kernel_rfl) rfl (fun Kc hKc => ?_)
    go_simp
    refine hKc.out _ _ trivial (fun _ => ?_)
    clear hKc Kc
    try simp only [Act.put]
    refine wpAnyH_next (i := 10) (by kernel_rfl) rfl (fun Kc hKc => ?_)
    go_simp
    rw [← HZ.out]
    refine hKc.out _ _ trivial (fun _ => ?_)
    clear hKc Kc
    try simp only [Act.put]
    refine wpAnyH_next (i := 11) (by kernel_rfl) rfl (fun Kc hKc => ?_)
    go_simp
    refine hKc.out _ _ trivial (fun _ => ?_)
    clear hKc Kc
    try simp only [Act.put]
    refine wpAnyH_next (i := 12) (by kernel_rfl) rfl (fun Kc hKc => ?_)
    go_simp
    refine hKc.out _ _ trivial (fun _ => ?_)
    clear hKc Kc
    try simp only [Act.put]
    refine wpAnyH_next (i := 13) (by kernel_rfl) rfl (fun Kc hKc => ?_)
    go_simp
    refine hKc.out _ _ trivial (fun _ => ?_)
    clear hKc Kc
    try simp only [Act.put]
    refine wpAnyH_next (i := 18) (by kernel_rfl) rfl (fun Kc hKc => ?_)
    go_simp
    refine hKc.out _ _ trivial (fun _ => ?_)
    clear hKc Kc
    try simp only [Act.put]
    refine wpAnyH_next (i := 19) (by kernel_rfl) rfl (fun Kc hKc => ?_)
    go_simp
    refine hKc.out _ _ trivial (fun _ => ?_)
    clear hKc Kc
    try simp only [Act.put]
    refine wpAnyH_done (by kernel_rfl) ?_ _
    rw [← HFD.out]
    have hB3 : Below w.heap.size w (w2.alloc (.cells #[.int .u8 z] 5)).drew := belowN (hB2.alloc hB2.size _) 1
    generalize (w2.alloc (.cells #[.int .u8 z] 5)).drew = w3 at *
    generalize flipB X K z = Y at *
    clear hcv n1 n2
    go_wp2_with fail
    refine (msame_yes X Y _ HFS.out.symm (by unfold maxLen; omega)).mono ?_
    rintro e w4 ⟨rfl, hb4⟩
    rw [eqB_false HFS.out.symm HFE.out]
    have hB4 : Below w.heap.size w w4 := hB3.trans (hb4.mono hB3.size)
    clear hb4 hB3
    go_wp2_with fail
    refine (msame_yes Y X _ HFS.out (by rw [HFS.out]; unfold maxLen; omega)).mono ?_
    rintro e w5 ⟨rfl, hb5⟩
    rw [eqB_false HFS.out (Ne.symm HFE.out), HFS.out]
    have hB5 : Below w.heap.size w w5 := hB4.trans (hb5.mono hB4.size)
    clear hb5 hB4
    go_wp2_with fail
    refine (msame_no X A0 _ (by rw [← HR0.out]; simp; omega)).mono ?_
    rintro e w' ⟨rfl, rfl⟩
    go_wp2
    go_ret
    exact ⟨rfl, hB5⟩
end Go.Proofs.YtcpkkicpkmjagaaDoor
