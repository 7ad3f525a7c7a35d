/-
  AesBack: the walk of the statement's function.
-/
import Derived.Test.YtjfeloimlgfocaaAesW
import Derived.Test.YtjfeloimlgfocaaFlip
import Derived.Deep.RegionHeld3
namespace Go.Proofs.Ytjfeloimlgfocaa
open Go.RowKit

set_option maxRecDepth 100000 in
set_option maxHeartbeats 4000000 in
theorem aback_walk (key block : ByteArray) (l : Bool) (at_ by_ : Int) (w : World) (hk : key.size ≤ reachBytes) (hb : block.size ≤ reachBytes) (ha : -9223372036854775808 ≤ at_ ∧ at_ ≤ 9223372036854775807) (hby : -9223372036854775808 ≤ by_ ∧ by_ ≤ 9223372036854775807) :
    Calls Try.prog 4 #[.string key, .string block, .bool l, .int .i64 at_, .int .i64 by_] w fun e w' => e = .returned (.bool true) ∧ Below w.heap.size w w' := by
  have hX16 := chunkB_size block
  have hkm := keyB_may key l
  have CK := Lib.hid (fun w => key_any key l w hk)
  have CC := Lib.hid (fun w => chunk_any block w hb)
  generalize keyB key l = k at *
  generalize chunkB block = X at *
  clear hk hb
  have hpk := pickN_bd at_ 16 (by decide)
  obtain ⟨K, hK⟩ : ∃ K : Nat, pickN at_ 16 = (K : Int) := ⟨(pickN at_ 16).toNat, by omega⟩
  have hpq := pickN_bd by_ 255 (by decide)
  obtain ⟨q, hq⟩ : ∃ q : Nat, pickN by_ 255 = (q : Int) := ⟨(pickN by_ 255).toNat, by omega⟩
  have PA := Lib.hid (show ∀ w, Calls Try.prog 17 #[.int .i64 at_, .int .i64 16] w fun e w' => e = .returned (.int .i64 (K : Int)) ∧ w = w' from fun w => by rw [← hK]; exact pick4_any at_ 16 w ha.1 ha.2 (by decide) (by decide))
  have PK := Lib.hid (show ∀ w, Calls Try.prog 17 #[.int .i64 by_, .int .i64 255] w fun e w' => e = .returned (.int .i64 (q : Int)) ∧ w = w' from fun w => by rw [← hq]; exact pick4_any by_ 255 w hby.1 hby.2 (by decide) (by decide))
  have hK16 : K < 16 := by omega
  have hq255 : q < 255 := by omega
  clear hpk hK hpq hq ha hby
  have hkn : K < X.size := by omega
  obtain ⟨Z, hZ⟩ : ∃ Z : Nat, Z = btN X K := ⟨_, rfl⟩
  have ga : (X[K].toNat : Int) = (Z : Int) := by rw [hZ]; exact btN_get hkn
  have hZl : Z < 256 := by rw [hZ]; exact btN_lt X K
  have hxz : bits BinOp.xor IntKind.u8 (Z : Int) (1 + (q : Int)) = ((Z ^^^ (1 + q) : Nat) : Int) := by
    have := u8_xor_nat Z (1 + q) hZl (by omega)
    rwa [show ((1 + q : Nat) : Int) = 1 + (q : Int) by omega] at this
  have hzl : Z ^^^ (1 + q) < 256 := Nat.xor_lt_two_pow (n := 8) hZl (by omega)
  have hne : X ≠ flipN X K (Z ^^^ (1 + q)) := flipN_ne X K _ hkn hzl (by rw [← hZ]; exact xorN_ne (by omega))
  have hfs : (flipN X K (Z ^^^ (1 + q))).size = 16 := by rw [flipN_size X K _ hkn, hX16]
  have hfd : flipN X K (Z ^^^ (1 + q)) = X.extract 0 K ++ strN [Z ^^^ (1 + q)] ++ X.extract (K + 1) X.size := rfl
  clear hZ
  have m1 : ∀ w, Calls Try.prog 13 #[.string k, .string X] w fun e w' => e = .returned (.tuple #[.string (encV k X), .int .i64 0]) ∧ Below w.heap.size w w' := fun w => by
    have := encrypt_any k X w; rwa [may2_of hkm hX16, show errV true = 0 from rfl] at this
  have m2 : ∀ w, Calls Try.prog 15 #[.string k, .string (encV k X)] w fun e w' => e = .returned (.tuple #[.string X, .int .i64 0]) ∧ Below w.heap.size w w' := fun w => by
    have := decrypt_any k (encV k X) w; rwa [may2_of hkm (encV_size hkm hX16), show errV true = 0 from rfl, decV_encV hkm hX16] at this
  have m3 : ∀ w, Calls Try.prog 15 #[.string k, .string X] w fun e w' => e = .returned (.tuple #[.string (decV k X), .int .i64 0]) ∧ Below w.heap.size w w' := fun w => by
    have := decrypt_any k X w; rwa [may2_of hkm hX16, show errV true = 0 from rfl] at this
  have m4 : ∀ w, Calls Try.prog 13 #[.string k, .string (decV k X)] w fun e w' => e = .returned (.tuple #[.string X, .int .i64 0]) ∧ Below w.heap.size w w' := fun w => by
    have := encrypt_any k (decV k X) w; rwa [may2_of hkm (decV_size hkm hX16), show errV true = 0 from rfl, encV_decV hkm hX16] at this
  have m5 : ∀ w, Calls Try.prog 13 #[.string k, .string (flipN X K (Z ^^^ (1 + q)))] w fun e w' => e = .returned (.tuple #[.string (encV k (flipN X K (Z ^^^ (1 + q)))), .int .i64 0]) ∧ Below w.heap.size w w' := fun w => by
    have := encrypt_any k (flipN X K (Z ^^^ (1 + q))) w; rwa [may2_of hkm hfs, show errV true = 0 from rfl] at this
  have une : encV k (flipN X K (Z ^^^ (1 + q))) ≠ encV k X := fun h => hne (encV_inj hkm hfs hX16 h).symm
  have es : ((encV k X).size : Int) = 16 := by rw [encV_size hkm hX16]; rfl
  have M1 := Lib.hid m1
  have M2 := Lib.hid m2
  have M3 := Lib.hid m3
  have M4 := Lib.hid m4
  have M5 := Lib.hid m5
  have UNE := Lib.hid une
  have ES := Lib.hid es
  clear m1 m2 m3 m4 m5 une es hne hfs hkm
  generalize encV k X = E at *
  generalize decV k X = D at *
  generalize encV k (flipN X K (Z ^^^ (1 + q))) = U at *
  have s1 : ∀ wx : World, (Instr.slice 9 (.string X) none (some (.int .i64 (K : Int))) none).run Try.prog wx = .ok (.string (X.extract 0 K)) wx := fun wx => by
    have := run_slice_string_h (P := Try.prog) (w := wx) (t := 9) (s := X) Try.underlying9 .i64 (K : Int) (by omega) (by omega)
    rw [Int.toNat_natCast] at this
    exact this
  have s2 : ∀ wx : World, (Instr.slice 9 (.string X) (some (.int .i64 ((K : Int) + 1))) none none).run Try.prog wx = .ok (.string (X.extract (K + 1) X.size)) wx := fun wx => by
    have := run_slice_string_l (P := Try.prog) (w := wx) (t := 9) (s := X) Try.underlying9 .i64 ((K : Int) + 1) (by omega) (by omega)
    rw [show ((K : Int) + 1).toNat = K + 1 by omega] at this
    exact this
  have e1 : (X.extract 0 K).size = K := by simp; omega
  have e2 : (X.extract (K + 1) X.size).size = X.size - (K + 1) := by simp
  have n1 : ¬ (9223372036854775807 < (X.extract 0 K).size + (strN [Z ^^^ (1 + q)]).size) := by rw [e1, strN_size, List.length_singleton]; omega
  have n2 : ¬ (9223372036854775807 < (X.extract 0 K).size + (strN [Z ^^^ (1 + q)]).size + (X.extract (K + 1) X.size).size) := by rw [e1, e2, strN_size, List.length_singleton]; omega
  clear e1 e2
  generalize X.extract 0 K = A0 at *
  generalize X.extract (K + 1) X.size = A1 at *
  have w1i := IntWalk.i64_in ((K : Int) + 1) (by omega)
  have w2i := IntWalk.i64_in (1 + (q : Int)) (by omega)
  have w3i : IntKind.u8.wrap (1 + (q : Int)) = 1 + (q : Int) := by rw [IntKind.wrap_u8]; omega
  have HZ := Lib.hid hxz
  have HFD := Lib.hid hfd
  clear hxz hfd
  generalize flipN X K (Z ^^^ (1 + q)) = Y at *
  generalize Z ^^^ (1 + q) = z at *
  have hk1 : (0 : Int) ≤ (K : Int) := by omega
  have hk2 : (K : Int) < (X.size : Int) := by omega
  clear hX16 hK16
  go_enter Try.func4, Try.ntmps4
  go_wp2_with fail
  refine (awake4_any _).mono ?_
  rintro e w1 ⟨rfl, hB1⟩
  go_wp2_with fail
  refine (CK.out _).mono ?_
  rintro e w2 ⟨rfl, hb2⟩
  have hB2 : Below w.heap.size w w2 := hB1.trans (hb2.mono hB1.size)
  clear hb2 hB1
  go_wp2_with fail
  refine (CC.out _).mono ?_
  rintro e w3 ⟨rfl, hb3⟩
  have hB3 : Below w.heap.size w w3 := hB2.trans (hb3.mono hB2.size)
  clear hb3 hB2
  go_wp2_with fail
  refine (PA.out _).mono ?_
  rintro e w' ⟨rfl, rfl⟩
  have hcv := run_convert_bytes_arg (P := Try.prog) (w3.alloc (.cells #[.int .u8 (z : Int)] 5)).drew 33 5 Try.underlying33 Try.underlying5 w3.heap.size 0 1 1 [(z : Int)] rfl (fun i hi => by
    obtain rfl : i = 0 := by omega
    exact (Is.new w3 5 #[.int .u8 (z : Int)]).cell 0) 9 Try.underlying9
  change _ = Result.ok (Value.string (strN [z])) _ at hcv
  go_wp2_with fail
  refine wp_region_held_drew (S := fun _ => True) (by kernel_rfl) trivial (fun hS => ?_)
  refine wpAnyH_take (i := 0) (v := .string X) rfl (by kernel_rfl) (by kernel_rfl) (by kernel_rfl) (fun _ _ _ h => h) (Or.inl ⟨by rfl, fun w _ => by go_simp⟩) hS ?_
  simp only [Act.put]
  refine wpAnyH_take (i := 1) (v := .int .i64 (K : Int)) rfl (by kernel_rfl) (by kernel_rfl) (by kernel_rfl) (fun _ _ _ h => h) (Or.inl ⟨by rfl, fun w _ => by go_simp⟩) hS ?_
  simp only [Act.put]
  refine wpAnyH_take (i := 2) (v := .string A0) rfl (by kernel_rfl) (by kernel_rfl) (by kernel_rfl) (fun _ _ _ h => h) (Or.inl ⟨by rfl, fun w _ => by go_simp⟩) hS ?_
  simp only [Act.put]
  refine wpAnyH_take (i := 3) (v := .string X) rfl (by kernel_rfl) (by kernel_rfl) (by kernel_rfl) (fun _ _ _ h => h) (Or.inl ⟨by rfl, fun w _ => by go_simp⟩) hS ?_
  simp only [Act.put]
  refine wpAnyH_take (i := 4) (v := .int .i64 (K : Int)) rfl (by kernel_rfl) (by kernel_rfl) (by kernel_rfl) (fun _ _ _ h => h) (Or.inl ⟨by rfl, fun w _ => by go_simp⟩) hS ?_
  simp only [Act.put]
  refine wpAnyH_take (i := 5) (v := .int .u8 (Z : Int)) rfl (by kernel_rfl) (by kernel_rfl) (by kernel_rfl) (fun _ _ _ h => h) (Or.inl ⟨by rfl, fun w _ => by go_simp⟩) hS ?_
  simp only [Act.put]
  refine wpAnyH_take (i := 6) (v := .int .i64 by_) rfl (by kernel_rfl) (by kernel_rfl) (by kernel_rfl) (fun _ _ _ h => h) (Or.inl ⟨by rfl, fun w _ => by go_simp⟩) hS ?_
  simp only [Act.put]
  refine wpAnyH_take (i := 14) (v := .string X) rfl (by kernel_rfl) (by kernel_rfl) (by kernel_rfl) (fun _ _ _ h => h) (Or.inl ⟨by rfl, fun w _ => by go_simp⟩) hS ?_
  simp only [Act.put]
  refine wpAnyH_take (i := 15) (v := .int .i64 (K : Int)) rfl (by kernel_rfl) (by kernel_rfl) (by kernel_rfl) (fun _ _ _ h => h) (Or.inl ⟨by rfl, fun w _ => by go_simp⟩) hS ?_
  simp only [Act.put]
  refine wpAnyH_take (i := 16) (v := .int .i64 ((K : Int) + 1)) rfl (by kernel_rfl) (by kernel_rfl) (by kernel_rfl) (fun _ _ _ h => h) (Or.inl ⟨by rfl, fun w _ => by go_simp⟩) hS ?_
  simp only [Act.put]
  refine wpAnyH_take (i := 17) (v := .string A1) rfl (by kernel_rfl) (by kernel_rfl) (by kernel_rfl) (fun _ _ _ h => h) (Or.inl ⟨by rfl, fun w _ => by go_simp⟩) hS ?_
  simp only [Act.put]
  refine wpAnyH_next (i := 7) (by kernel_rfl) rfl (fun Kc hKc => ?_)
  go_simp
  go_at_call 17
  refine (PK.out _).mono ?_
  rintro e w' ⟨rfl, rfl⟩
  refine hKc.out _ _ trivial (fun _ => ?_)
  clear hKc Kc
  try simp only [Act.put]
  refine wpAnyH_next (i := 8) (by kernel_rfl) rfl (fun Kc hKc => ?_)
  go_simp
  refine hKc.out _ _ trivial (fun _ => ?_)
  clear hKc Kc
  try simp only [Act.put]
  refine wpAnyH_next (i := 9) (by kernel_rfl) rfl (fun Kc hKc => ?_)
  go_simp
  refine hKc.out _ _ trivial (fun _ => ?_)
  clear hKc Kc
  try simp only [Act.put]
  refine wpAnyH_next (i := 10) (by kernel_rfl) rfl (fun Kc hKc => ?_)
  go_simp
  rw [HZ.out]
  refine hKc.out _ _ trivial (fun _ => ?_)
  clear hKc Kc
  try simp only [Act.put]
  refine wpAnyH_next (i := 11) (by kernel_rfl) rfl (fun Kc hKc => ?_)
  go_simp
  refine hKc.out _ _ trivial (fun _ => ?_)
  clear hKc Kc
  try simp only [Act.put]
  refine wpAnyH_next (i := 12) (by kernel_rfl) rfl (fun Kc hKc => ?_)
  go_simp
  refine hKc.out _ _ trivial (fun _ => ?_)
  clear hKc Kc
  try simp only [Act.put]
  refine wpAnyH_next (i := 13) (by kernel_rfl) rfl (fun Kc hKc => ?_)
  go_simp
  refine hKc.out _ _ trivial (fun _ => ?_)
  clear hKc Kc
  try simp only [Act.put]
  refine wpAnyH_next (i := 18) (by kernel_rfl) rfl (fun Kc hKc => ?_)
  go_simp
  refine hKc.out _ _ trivial (fun _ => ?_)
  clear hKc Kc
  try simp only [Act.put]
  refine wpAnyH_next (i := 19) (by kernel_rfl) rfl (fun Kc hKc => ?_)
  go_simp
  refine hKc.out _ _ trivial (fun _ => ?_)
  clear hKc Kc
  try simp only [Act.put]
  refine wpAnyH_done (by kernel_rfl) ?_ _
  rw [← HFD.out]
  have hB4 : Below w.heap.size w (w3.alloc (.cells #[.int .u8 (z : Int)] 5)).drew := belowN (hB3.alloc hB3.size _) 1
  generalize (w3.alloc (.cells #[.int .u8 (z : Int)] 5)).drew = w4 at *
  clear hcv n1 n2
  go_wp2_with fail
  refine (M1.out _).mono ?_
  rintro e w5 ⟨rfl, hb5⟩
  have hB5 : Below w.heap.size w w5 := hB4.trans (hb5.mono hB4.size)
  clear hb5 hB4
  go_wp2_with fail
  refine (M2.out _).mono ?_
  rintro e w6 ⟨rfl, hb6⟩
  have hB6 : Below w.heap.size w w6 := hB5.trans (hb6.mono hB5.size)
  clear hb6 hB5
  go_wp2_with fail
  refine (M3.out _).mono ?_
  rintro e w7 ⟨rfl, hb7⟩
  have hB7 : Below w.heap.size w w7 := hB6.trans (hb7.mono hB6.size)
  clear hb7 hB6
  go_wp2_with fail
  refine (M4.out _).mono ?_
  rintro e w8 ⟨rfl, hb8⟩
  have hB8 : Below w.heap.size w w8 := hB7.trans (hb8.mono hB7.size)
  clear hb8 hB7
  go_wp2_with fail
  refine (M5.out _).mono ?_
  rintro e w9 ⟨rfl, hb9⟩
  have hB9 : Below w.heap.size w w9 := hB8.trans (hb9.mono hB8.size)
  clear hb9 hB8
  have es := ES.out
  have une := neL UNE.out
  have une2 := beqL UNE.out
  clear s1 s2 w1i w2i w3i ga
  go_wp2
  go_ret
  exact ⟨rfl, hB9⟩
end Go.Proofs.Ytjfeloimlgfocaa
