/-
  SealTags: the walk of the statement's function.
-/
import Derived.Test.YtancchoelmdaiaaGreatDoorGSea
import Derived.Test.YtancchoelmdaiaaGreatDoorGKit
namespace Go.Proofs.YtancchoelmdaiaaGreatDoor
open Go.RowKit Go.Shelf

set_option maxRecDepth 100000 in
set_option maxHeartbeats 4000000 in
theorem ztags_walk (key nonce wit box : ByteArray) (at_ by_ : Int) (w : World) (hT : Tab w) (hkey : key.size ≤ reachBytes) (hc : nonce.size ≤ reachBytes) (_hw : wit.size ≤ maxLen) (_hs : box.size ≤ maxLen) (ha : -9223372036854775808 ≤ at_ ∧ at_ ≤ 9223372036854775807) (hby : -9223372036854775808 ≤ by_ ∧ by_ ≤ 9223372036854775807) :
    Calls Tryz.prog 4 #[.string key, .string nonce, .string wit, .string box, .int .i64 at_, .int .i64 by_] w fun e w' => e = .returned (.bool true) ∧ Below w.heap.size w w' := by
  have CK := Lib.hid (fun w => key_any key true w hkey)
  have CC := Lib.hid (fun w => chunk_any nonce w hc)
  have h32 : (keyB key true).size = 32 := keyB_size key true
  have h16 := chunkB_size nonce
  generalize keyB key true = k at *
  generalize chunkB nonce = c at *
  clear hkey hc
  have t1 := cut_run wit 200 200 rfl
  have t2 := cut_run box 200 200 rfl
  have wz := cutB_size wit 200
  have xz := cutB_size box 200
  generalize cutB wit 200 = wi at *
  generalize cutB box 200 = x at *
  have hpk := pickN_bd at_ 16 (by decide)
  obtain ⟨N, hN⟩ : ∃ N : Nat, pickN at_ 16 = (N : Int) := ⟨(pickN at_ 16).toNat, by omega⟩
  have hpq := pickN_bd by_ 255 (by decide)
  obtain ⟨q, hq⟩ : ∃ q : Nat, pickN by_ 255 = (q : Int) := ⟨(pickN by_ 255).toNat, by omega⟩
  have PA := Lib.hid (show ∀ w, Calls Tryz.prog 12 #[.int .i64 at_, .int .i64 16] w fun e w' => e = .returned (.int .i64 (N : Int)) ∧ w = w' from fun w => by rw [← hN]; exact pick6_any at_ 16 w ha.1 ha.2 (by decide) (by decide))
  have PK := Lib.hid (show ∀ w, Calls Tryz.prog 12 #[.int .i64 by_, .int .i64 255] w fun e w' => e = .returned (.int .i64 (q : Int)) ∧ w = w' from fun w => by rw [← hq]; exact pick6_any by_ 255 w hby.1 hby.2 (by decide) (by decide))
  have hN16 : N < 16 := by omega
  have hq255 : q < 255 := by omega
  clear hpk hN hpq hq ha hby
  obtain ⟨K, hK⟩ : ∃ K : Nat, K = x.size + N := ⟨_, rfl⟩
  have hKI : ((x.size : Int) + (N : Int)) = (K : Int) := by omega
  obtain ⟨a, err, ho, hcase⟩ := opn_any k c wi x h32 h16 (by omega) (by omega)
  have hXs := box_size k c wi x
  have m3 := fun w hT => shut_ok k c wi x w hT h32 h16 (by omega) (by omega)
  have hback : boxB k c wi a = x → a.size ≤ 65536 → ∀ w, Tab w → Calls Tryz.prog 10 #[.string k, .string c, .string wi, .string a] w fun e w' => e = .returned (.tuple #[.string x, .int .i64 0]) ∧ Below w.heap.size w w' := fun h hz w hT => by
    have := shut_ok k c wi a w hT h32 h16 (by omega) hz
    rwa [h] at this
  have hkn : K < (boxB k c wi x).size := by omega
  have hflip : ∀ z, z < 256 → z ≠ btN (boxB k c wi x) K → ∀ w, Tab w → Calls Tryz.prog 11 #[.string k, .string c, .string wi, .string (flipN (boxB k c wi x) K z)] w fun e w' => e = .returned (.tuple #[.string ⟨#[]⟩, .int .i64 11]) ∧ Below w.heap.size w w' := fun z hz hne w hT => opn_flip k c wi x w hT h32 h16 (by omega) (by omega) (by omega) (by omega) hz hne
  have hceq : boxB k c wi a = x → boxB k c wi a = x := id
  generalize hYa : boxB k c wi a = ya at *
  generalize boxB k c wi x = X at *
  clear hceq
  obtain ⟨Z, hZ⟩ : ∃ Z : Nat, Z = btN X K := ⟨_, rfl⟩
  have ga : (X[K].toNat : Int) = (Z : Int) := by rw [hZ]; exact btN_get hkn
  have hZl : Z < 256 := by rw [hZ]; exact btN_lt X K
  have hxz : bits BinOp.xor IntKind.u8 (Z : Int) (1 + (q : Int)) = ((Z ^^^ (1 + q) : Nat) : Int) := by
    have := u8_xor_nat Z (1 + q) hZl (by omega)
    rwa [show ((1 + q : Nat) : Int) = 1 + (q : Int) by omega] at this
  have hzl : Z ^^^ (1 + q) < 256 := Nat.xor_lt_two_pow (n := 8) hZl (by omega)
  have m4 := hflip (Z ^^^ (1 + q)) hzl (by rw [← hZ]; exact xorN_ne (by omega))
  have hfd : flipN X K (Z ^^^ (1 + q)) = X.extract 0 K ++ strN [Z ^^^ (1 + q)] ++ X.extract (K + 1) X.size := rfl
  have M1 := Lib.hid ho
  have M2 := Lib.hid hback
  have M3 := Lib.hid m3
  have M4 := Lib.hid m4
  have HZX := Lib.hid (show (X.size : Int) = (x.size : Int) + 16 by omega)
  clear hZ hflip ho hback m3 m4 h32 h16 wz
  have s1 : ∀ wx : World, (Instr.slice 9 (.string X) none (some (.int .i64 (K : Int))) none).run Tryz.prog wx = .ok (.string (X.extract 0 K)) wx := fun wx => by
    have := run_slice_string_h (P := Tryz.prog) (w := wx) (t := 9) (s := X) Tryz.underlying9 .i64 (K : Int) (by omega) (by omega)
    rw [Int.toNat_natCast] at this
    exact this
  have s2 : ∀ wx : World, (Instr.slice 9 (.string X) (some (.int .i64 ((K : Int) + 1))) none none).run Tryz.prog wx = .ok (.string (X.extract (K + 1) X.size)) wx := fun wx => by
    have := run_slice_string_l (P := Tryz.prog) (w := wx) (t := 9) (s := X) Tryz.underlying9 .i64 ((K : Int) + 1) (by omega) (by omega)
    rw [show ((K : Int) + 1).toNat = K + 1 by omega] at this
    exact this
  have e1 : (X.extract 0 K).size = K := by simp; omega
  have e2 : (X.extract (K + 1) X.size).size = X.size - (K + 1) := by simp
  have n1 : ¬ (9223372036854775807 < (X.extract 0 K).size + (strN [Z ^^^ (1 + q)]).size) := by rw [e1, strN_size, List.length_singleton]; omega
  have n2 : ¬ (9223372036854775807 < (X.extract 0 K).size + (strN [Z ^^^ (1 + q)]).size + (X.extract (K + 1) X.size).size) := by rw [e1, e2, strN_size, List.length_singleton]; omega
  clear e1 e2
  generalize X.extract 0 K = A0 at *
  generalize X.extract (K + 1) X.size = A1 at *
  have w0i : IntKind.i64.wrap ((x.size : Int) + (N : Int)) = (K : Int) := by rw [hKI]; exact IntWalk.i64_in _ (by omega)
  have w1i := IntWalk.i64_in ((K : Int) + 1) (by omega)
  have w2i := IntWalk.i64_in (1 + (q : Int)) (by omega)
  have w3i : IntKind.u8.wrap (1 + (q : Int)) = 1 + (q : Int) := by rw [IntKind.wrap_u8]; omega
  clear hKI hK
  have HZ := Lib.hid hxz
  have HFD := Lib.hid hfd
  clear hxz hfd
  generalize flipN X K (Z ^^^ (1 + q)) = Y at *
  generalize Z ^^^ (1 + q) = z at *
  have hk1 : (0 : Int) ≤ (K : Int) := by omega
  have hk2 : (K : Int) < (X.size : Int) := by omega
  have HXS := Lib.hid hXs
  clear hXs
  have HCS := Lib.hid hcase
  clear hcase
  go_enter Tryz.func4, Tryz.ntmps4
  go_wp2_with fail
  refine (awake6_any _ hT).mono ?_
  rintro e w1 ⟨rfl, hB1⟩
  go_wp2_with fail
  refine (CK.out _).mono ?_
  rintro e w2 ⟨rfl, hb⟩
  have hB2 : Below w.heap.size w w2 := hB1.trans (hb.mono hB1.size)
  clear hb hB1
  go_wp2_with fail
  refine (CC.out _).mono ?_
  rintro e w3 ⟨rfl, hb⟩
  have hB3 : Below w.heap.size w w3 := hB2.trans (hb.mono hB2.size)
  clear hb hB2
  go_wp2_with fail
  refine (M1.out _ (hT.below hB3 hT.two)).mono ?_
  rintro e w4 ⟨rfl, hb⟩
  have hB4 : Below w.heap.size w w4 := hB3.trans (hb.mono hB3.size)
  clear hb hB3
  clear t1 t2
  rcases HCS.out with ⟨rfl, haz, hya⟩ | rfl | rfl
  · have M2 := Lib.hid (M2.out hya haz)
    clear HCS hYa hya
    go_wp2_with fail
    refine (M2.out _ (hT.below hB4 hT.two)).mono ?_
    rintro e w5 ⟨rfl, hb⟩
    have hB5 : Below w.heap.size w w5 := hB4.trans (hb.mono hB4.size)
    clear hb hB4
    go_wp2_with fail
    refine (M3.out _ (hT.below hB5 hT.two)).mono ?_
    rintro e w6 ⟨rfl, hb⟩
    have hB6 : Below w.heap.size w w6 := hB5.trans (hb.mono hB5.size)
    clear hb hB5
    have zX := HZX.out
    go_wp2_with fail
    refine (PA.out _).mono ?_
    rintro e w' ⟨rfl, rfl⟩
    clear zX
    have hcv := run_convert_bytes_arg (P := Tryz.prog) (w6.alloc (.cells #[.int .u8 (z : Int)] 5)).drew 30 5 Tryz.underlying30 Tryz.underlying5 w6.heap.size 0 1 1 [(z : Int)] rfl (fun i hi => by
      obtain rfl : i = 0 := by omega
      exact (Is.new w6 5 #[.int .u8 (z : Int)]).cell 0) 9 Tryz.underlying9
    change _ = Result.ok (Value.string (strN [z])) _ at hcv
    go_wp2_with fail
    refine wp_region_held_drew (S := fun _ => True) (by kernel_rfl) trivial (fun hS => ?_)
    refine wpAnyH_take (i := 0) (v := .string X) rfl (by kernel_rfl) (by kernel_rfl) (by kernel_rfl) (fun _ _ _ h => h) (Or.inl ⟨by rfl, fun w _ => by go_simp⟩) hS ?_
    simp only [Act.put]
    refine wpAnyH_take (i := 1) (v := .int .i64 (K : Int)) rfl (by kernel_rfl) (by kernel_rfl) (by kernel_rfl) (fun _ _ _ h => h) (Or.inl ⟨by rfl, fun w _ => by go_simp⟩) hS ?_
    simp only [Act.put]
    refine wpAnyH_take (i := 2) (v := .string A0) rfl (by kernel_rfl) (by kernel_rfl) (by kernel_rfl) (fun _ _ _ h => h) (Or.inl ⟨by rfl, fun w _ => by go_simp⟩) hS ?_
    simp only [Act.put]
    refine wpAnyH_take (i := 3) (v := .string X) rfl (by kernel_rfl) (by kernel_rfl) (by kernel_rfl) (fun _ _ _ h => h) (Or.inl ⟨by rfl, fun w _ => by go_simp⟩) hS ?_
    simp only [Act.put]
    refine wpAnyH_take (i := 4) (v := .int .i64 (K : Int)) rfl (by kernel_rfl) (by kernel_rfl) (by kernel_rfl) (fun _ _ _ h => h) (Or.inl ⟨by rfl, fun w _ => by go_simp⟩) hS ?_
    simp only [Act.put]
    refine wpAnyH_take (i := 5) (v := .int .u8 (Z : Int)) rfl (by kernel_rfl) (by kernel_rfl) (by kernel_rfl) (fun _ _ _ h => h) (Or.inl ⟨by rfl, fun w _ => by go_simp⟩) hS ?_
    simp only [Act.put]
    refine wpAnyH_take (i := 6) (v := .int .i64 by_) rfl (by kernel_rfl) (by kernel_rfl) (by kernel_rfl) (fun _ _ _ h => h) (Or.inl ⟨by rfl, fun w _ => by go_simp⟩) hS ?_
    simp only [Act.put]
    refine wpAnyH_take (i := 14) (v := .string X) rfl (by kernel_rfl) (by kernel_rfl) (by kernel_rfl) (fun _ _ _ h => h) (Or.inl ⟨by rfl, fun w _ => by go_simp⟩) hS ?_
    simp only [Act.put]
    refine wpAnyH_take (i := 15) (v := .int .i64 (K : Int)) rfl (by kernel_rfl) (by kernel_rfl) (by kernel_rfl) (fun _ _ _ h => h) (Or.inl ⟨by rfl, fun w _ => by go_simp⟩) hS ?_
    simp only [Act.put]
    refine wpAnyH_take (i := 16) (v := .int .i64 ((K : Int) + 1)) rfl (by kernel_rfl) (by kernel_rfl) (by kernel_rfl) (fun _ _ _ h => h) (Or.inl ⟨by rfl, fun w _ => by go_simp⟩) hS ?_
    simp only [Act.put]
    refine wpAnyH_take (i := 17) (v := .string A1) rfl (by kernel_rfl) (by kernel_rfl) (by kernel_rfl) (fun _ _ _ h => h) (Or.inl ⟨by rfl, fun w _ => by go_simp⟩) hS ?_
    simp only [Act.put]
    refine wpAnyH_next (i := 7) (by kernel_rfl) rfl (fun Kc hKc => ?_)
    go_simp
    go_at_call 12
    refine (PK.out _).mono ?_
    rintro e w' ⟨rfl, rfl⟩
    refine hKc.out _ _ trivial (fun _ => ?_)
    clear hKc Kc
    try simp only [Act.put]
    refine wpAnyH_next (i := 8) (by kernel_rfl) rfl (fun Kc hKc => ?_)
    go_simp
    refine hKc.out _ _ trivial (fun _ => ?_)
    clear hKc Kc
    try simp only [Act.put]
    refine wpAnyH_next (i := 9) (by kernel_rfl) rfl (fun Kc hKc => ?_)
    go_simp
    refine hKc.out _ _ trivial (fun _ => ?_)
    clear hKc Kc
    try simp only [Act.put]
    refine wpAnyH_next (i := 10) (by kernel_rfl) rfl (fun Kc hKc => ?_)
    go_simp
    rw [HZ.out]
    refine hKc.out _ _ trivial (fun _ => ?_)
    clear hKc Kc
    try simp only [Act.put]
    refine wpAnyH_next (i := 11) (by kernel_rfl) rfl (fun Kc hKc => ?_)
    go_simp
    refine hKc.out _ _ trivial (fun _ => ?_)
    clear hKc Kc
    try simp only [Act.put]
    refine wpAnyH_next (i := 12) (by kernel_rfl) rfl (fun Kc hKc => ?_)
    go_simp
    refine hKc.out _ _ trivial (fun _ => ?_)
    clear hKc Kc
    try simp only [Act.put]
    refine wpAnyH_next (i := 13) (by kernel_rfl) rfl (fun Kc hKc => ?_)
    go_simp
    refine hKc.out _ _ trivial (fun _ => ?_)
    clear hKc Kc
    try simp only [Act.put]
    refine wpAnyH_next (i := 18) (by kernel_rfl) rfl (fun Kc hKc => ?_)
    go_simp
    refine hKc.out _ _ trivial (fun _ => ?_)
    clear hKc Kc
    try simp only [Act.put]
    refine wpAnyH_next (i := 19) (by kernel_rfl) rfl (fun Kc hKc => ?_)
    go_simp
    refine hKc.out _ _ trivial (fun _ => ?_)
    clear hKc Kc
    try simp only [Act.put]
    refine wpAnyH_done (by kernel_rfl) ?_ _
    rw [← HFD.out]
    have hB7 : Below w.heap.size w (w6.alloc (.cells #[.int .u8 (z : Int)] 5)).drew := belowN (hB6.alloc hB6.size _) 1
    generalize (w6.alloc (.cells #[.int .u8 (z : Int)] 5)).drew = w7 at *
    clear hcv n1 n2
    go_wp2_with fail
    refine (M4.out _ (hT.below hB7 hT.two)).mono ?_
    rintro e w8 ⟨rfl, hb⟩
    have hB8 : Below w.heap.size w w8 := hB7.trans (hb.mono hB7.size)
    clear hb hB7
    clear s1 s2 w1i w2i w3i ga
    go_wp2
    go_ret
    exact ⟨rfl, hB8⟩
  · clear HCS M2
    go_wp2_with fail
    refine (M3.out _ (hT.below hB4 hT.two)).mono ?_
    rintro e w5 ⟨rfl, hb⟩
    have hB5 : Below w.heap.size w w5 := hB4.trans (hb.mono hB4.size)
    clear hb hB4
    have zX := HZX.out
    go_wp2_with fail
    refine (PA.out _).mono ?_
    rintro e w' ⟨rfl, rfl⟩
    clear zX
    have hcv := run_convert_bytes_arg (P := Tryz.prog) (w5.alloc (.cells #[.int .u8 (z : Int)] 5)).drew 30 5 Tryz.underlying30 Tryz.underlying5 w5.heap.size 0 1 1 [(z : Int)] rfl (fun i hi => by
      obtain rfl : i = 0 := by omega
      exact (Is.new w5 5 #[.int .u8 (z : Int)]).cell 0) 9 Tryz.underlying9
    change _ = Result.ok (Value.string (strN [z])) _ at hcv
    go_wp2_with fail
    refine wp_region_held_drew (S := fun _ => True) (by kernel_rfl) trivial (fun hS => ?_)
    refine wpAnyH_take (i := 0) (v := .string X) rfl (by kernel_rfl) (by kernel_rfl) (by kernel_rfl) (fun _ _ _ h => h) (Or.inl ⟨by rfl, fun w _ => by go_simp⟩) hS ?_
    simp only [Act.put]
    refine wpAnyH_take (i := 1) (v := .int .i64 (K : Int)) rfl (by kernel_rfl) (by kernel_rfl) (by kernel_rfl) (fun _ _ _ h => h) (Or.inl ⟨by rfl, fun w _ => by go_simp⟩) hS ?_
    simp only [Act.put]
    refine wpAnyH_take (i := 2) (v := .string A0) rfl (by kernel_rfl) (by kernel_rfl) (by kernel_rfl) (fun _ _ _ h => h) (Or.inl ⟨by rfl, fun w _ => by go_simp⟩) hS ?_
    simp only [Act.put]
    refine wpAnyH_take (i := 3) (v := .string X) rfl (by kernel_rfl) (by kernel_rfl) (by kernel_rfl) (fun _ _ _ h => h) (Or.inl ⟨by rfl, fun w _ => by go_simp⟩) hS ?_
    simp only [Act.put]
    refine wpAnyH_take (i := 4) (v := .int .i64 (K : Int)) rfl (by kernel_rfl) (by kernel_rfl) (by kernel_rfl) (fun _ _ _ h => h) (Or.inl ⟨by rfl, fun w _ => by go_simp⟩) hS ?_
    simp only [Act.put]
    refine wpAnyH_take (i := 5) (v := .int .u8 (Z : Int)) rfl (by kernel_rfl) (by kernel_rfl) (by kernel_rfl) (fun _ _ _ h => h) (Or.inl ⟨by rfl, fun w _ => by go_simp⟩) hS ?_
    simp only [Act.put]
    refine wpAnyH_take (i := 6) (v := .int .i64 by_) rfl (by kernel_rfl) (by kernel_rfl) (by kernel_rfl) (fun _ _ _ h => h) (Or.inl ⟨by rfl, fun w _ => by go_simp⟩) hS ?_
    simp only [Act.put]
    refine wpAnyH_take (i := 14) (v := .string X) rfl (by kernel_rfl) (by kernel_rfl) (by kernel_rfl) (fun _ _ _ h => h) (Or.inl ⟨by rfl, fun w _ => by go_simp⟩) hS ?_
    simp only [Act.put]
    refine wpAnyH_take (i := 15) (v := .int .i64 (K : Int)) rfl (by kernel_rfl) (by kernel_rfl) (by kernel_rfl) (fun _ _ _ h => h) (Or.inl ⟨by rfl, fun w _ => by go_simp⟩) hS ?_
    simp only [Act.put]
    refine wpAnyH_take (i := 16) (v := .int .i64 ((K : Int) + 1)) rfl (by kernel_rfl) (by kernel_rfl) (by kernel_rfl) (fun _ _ _ h => h) (Or.inl ⟨by rfl, fun w _ => by go_simp⟩) hS ?_
    simp only [Act.put]
    refine wpAnyH_take (i := 17) (v := .string A1) rfl (by kernel_rfl) (by kernel_rfl) (by kernel_rfl) (fun _ _ _ h => h) (Or.inl ⟨by rfl, fun w _ => by go_simp⟩) hS ?_
    simp only [Act.put]
    refine wpAnyH_next (i := 7) (by kernel_rfl) rfl (fun Kc hKc => ?_)
    go_simp
    go_at_call 12
    refine (PK.out _).mono ?_
    rintro e w' ⟨rfl, rfl⟩
    refine hKc.out _ _ trivial (fun _ => ?_)
    clear hKc Kc
    try simp only [Act.put]
    refine wpAnyH_next (i := 8) (by kernel_rfl) rfl (fun Kc hKc => ?_)
    go_simp
    refine hKc.out _ _ trivial (fun _ => ?_)
    clear hKc Kc
    try simp only [Act.put]
    refine wpAnyH_next (i := 9) (by kernel_rfl) rfl (fun Kc hKc => ?_)
    go_simp
    refine hKc.out _ _ trivial (fun _ => ?_)
    clear hKc Kc
    try simp only [Act.put]
    refine wpAnyH_next (i := 10) (by kernel_rfl) rfl (fun Kc hKc => ?_)
    go_simp
    rw [HZ.out]
    refine hKc.out _ _ trivial (fun _ => ?_)
    clear hKc Kc
    try simp only [Act.put]
    refine wpAnyH_next (i := 11) (by kernel_rfl) rfl (fun Kc hKc => ?_)
    go_simp
    refine hKc.out _ _ trivial (fun _ => ?_)
    clear hKc Kc
    try simp only [Act.put]
    refine wpAnyH_next (i := 12) (by kernel_rfl) rfl (fun Kc hKc => ?_)
    go_simp
    refine hKc.out _ _ trivial (fun _ => ?_)
    clear hKc Kc
    try simp only [Act.put]
    refine wpAnyH_next (i := 13) (by kernel_rfl) rfl (fun Kc hKc => ?_)
    go_simp
    refine hKc.out _ _ trivial (fun _ => ?_)
    clear hKc Kc
    try simp only [Act.put]
    refine wpAnyH_next (i := 18) (by kernel_rfl) rfl (fun Kc hKc => ?_)
    go_simp
    refine hKc.out _ _ trivial (fun _ => ?_)
    clear hKc Kc
    try simp only [Act.put]
    refine wpAnyH_next (i := 19) (by kernel_rfl) rfl (fun Kc hKc => ?_)
    go_simp
    refine hKc.out _ _ trivial (fun _ => ?_)
    clear hKc Kc
    try simp only [Act.put]
    refine wpAnyH_done (by kernel_rfl) ?_ _
    rw [← HFD.out]
    have hB6 : Below w.heap.size w (w5.alloc (.cells #[.int .u8 (z : Int)] 5)).drew := belowN (hB5.alloc hB5.size _) 1
    generalize (w5.alloc (.cells #[.int .u8 (z : Int)] 5)).drew = w6 at *
    clear hcv n1 n2
    go_wp2_with fail
    refine (M4.out _ (hT.below hB6 hT.two)).mono ?_
    rintro e w7 ⟨rfl, hb⟩
    have hB7 : Below w.heap.size w w7 := hB6.trans (hb.mono hB6.size)
    clear hb hB6
    clear s1 s2 w1i w2i w3i ga
    go_wp2
    go_ret
    exact ⟨rfl, hB7⟩
  · clear HCS M2
    go_wp2_with fail
    refine (M3.out _ (hT.below hB4 hT.two)).mono ?_
    rintro e w5 ⟨rfl, hb⟩
    have hB5 : Below w.heap.size w w5 := hB4.trans (hb.mono hB4.size)
    clear hb hB4
    have zX := HZX.out
    go_wp2_with fail
    refine (PA.out _).mono ?_
    rintro e w' ⟨rfl, rfl⟩
    clear zX
    have hcv := run_convert_bytes_arg (P := Tryz.prog) (w5.alloc (.cells #[.int .u8 (z : Int)] 5)).drew 30 5 Tryz.underlying30 Tryz.underlying5 w5.heap.size 0 1 1 [(z : Int)] rfl (fun i hi => by
      obtain rfl : i = 0 := by omega
      exact (Is.new w5 5 #[.int .u8 (z : Int)]).cell 0) 9 Tryz.underlying9
    change _ = Result.ok (Value.string (strN [z])) _ at hcv
    go_wp2_with fail
    refine wp_region_held_drew (S := fun _ => True) (by kernel_rfl) trivial (fun hS => ?_)
    refine wpAnyH_take (i := 0) (v := .string X) rfl (by kernel_rfl) (by kernel_rfl) (by kernel_rfl) (fun _ _ _ h => h) (Or.inl ⟨by rfl, fun w _ => by go_simp⟩) hS ?_
    simp only [Act.put]
    refine wpAnyH_take (i := 1) (v := .int .i64 (K : Int)) rfl (by kernel_rfl) (by kernel_rfl) (by kernel_rfl) (fun _ _ _ h => h) (Or.inl ⟨by rfl, fun w _ => by go_simp⟩) hS ?_
    simp only [Act.put]
    refine wpAnyH_take (i := 2) (v := .string A0) rfl (by kernel_rfl) (by kernel_rfl) (by kernel_rfl) (fun _ _ _ h => h) (Or.inl ⟨by rfl, fun w _ => by go_simp⟩) hS ?_
    simp only [Act.put]
    refine wpAnyH_take (i := 3) (v := .string X) rfl (by kernel_rfl) (by kernel_rfl) (by kernel_rfl) (fun _ _ _ h => h) (Or.inl ⟨by rfl, fun w _ => by go_simp⟩) hS ?_
    simp only [Act.put]
    refine wpAnyH_take (i := 4) (v := .int .i64 (K : Int)) rfl (by kernel_rfl) (by kernel_rfl) (by kernel_rfl) (fun _ _ _ h => h) (Or.inl ⟨by rfl, fun w _ => by go_simp⟩) hS ?_
    simp only [Act.put]
    refine wpAnyH_take (i := 5) (v := .int .u8 (Z : Int)) rfl (by kernel_rfl) (by kernel_rfl) (by kernel_rfl) (fun _ _ _ h => h) (Or.inl ⟨by rfl, fun w _ => by go_simp⟩) hS ?_
    simp only [Act.put]
    refine wpAnyH_take (i := 6) (v := .int .i64 by_) rfl (by kernel_rfl) (by kernel_rfl) (by kernel_rfl) (fun _ _ _ h => h) (Or.inl ⟨by rfl, fun w _ => by go_simp⟩) hS ?_
    simp only [Act.put]
    refine wpAnyH_take (i := 14) (v := .string X) rfl (by kernel_rfl) (by kernel_rfl) (by kernel_rfl) (fun _ _ _ h => h) (Or.inl ⟨by rfl, fun w _ => by go_simp⟩) hS ?_
    simp only [Act.put]
    refine wpAnyH_take (i := 15) (v := .int .i64 (K : Int)) rfl (by kernel_rfl) (by kernel_rfl) (by kernel_rfl) (fun _ _ _ h => h) (Or.inl ⟨by rfl, fun w _ => by go_simp⟩) hS ?_
    simp only [Act.put]
    refine wpAnyH_take (i := 16) (v := .int .i64 ((K : Int) + 1)) rfl (by kernel_rfl) (by kernel_rfl) (by kernel_rfl) (fun _ _ _ h => h) (Or.inl ⟨by rfl, fun w _ => by go_simp⟩) hS ?_
    simp only [Act.put]
    refine wpAnyH_take (i := 17) (v := .string A1) rfl (by kernel_rfl) (by kernel_rfl) (by kernel_rfl) (fun _ _ _ h => h) (Or.inl ⟨by rfl, fun w _ => by go_simp⟩) hS ?_
    simp only [Act.put]
    refine wpAnyH_next (i := 7) (by kernel_rfl) rfl (fun Kc hKc => ?_)
    go_simp
    go_at_call 12
    refine (PK.out _).mono ?_
    rintro e w' ⟨rfl, rfl⟩
    refine hKc.out _ _ trivial (fun _ => ?_)
    clear hKc Kc
    try simp only [Act.put]
    refine wpAnyH_next (i := 8) (by kernel_rfl) rfl (fun Kc hKc => ?_)
    go_simp
    refine hKc.out _ _ trivial (fun _ => ?_)
    clear hKc Kc
    try simp only [Act.put]
    refine wpAnyH_next (i := 9) (by kernel_rfl) rfl (fun Kc hKc => ?_)
    go_simp
    refine hKc.out _ _ trivial (fun _ => ?_)
    clear hKc Kc
    try simp only [Act.put]
    refine wpAnyH_next (i := 10) (by kernel_rfl) rfl (fun Kc hKc => ?_)
    go_simp
    rw [HZ.out]
    refine hKc.out _ _ trivial (fun _ => ?_)
    clear hKc Kc
    try simp only [Act.put]
    refine wpAnyH_next (i := 11) (by kernel_rfl) rfl (fun Kc hKc => ?_)
    go_simp
    refine hKc.out _ _ trivial (fun _ => ?_)
    clear hKc Kc
    try simp only [Act.put]
    refine wpAnyH_next (i := 12) (by kernel_rfl) rfl (fun Kc hKc => ?_)
    go_simp
    refine hKc.out _ _ trivial (fun _ => ?_)
    clear hKc Kc
    try simp only [Act.put]
    refine wpAnyH_next (i := 13) (by kernel_rfl) rfl (fun Kc hKc => ?_)
    go_simp
    refine hKc.out _ _ trivial (fun _ => ?_)
    clear hKc Kc
    try simp only [Act.put]
    refine wpAnyH_next (i := 18) (by kernel_rfl) rfl (fun Kc hKc => ?_)
    go_simp
    refine hKc.out _ _ trivial (fun _ => ?_)
    clear hKc Kc
    try simp only [Act.put]
    refine wpAnyH_next (i := 19) (by kernel_rfl) rfl (fun Kc hKc => ?_)
    go_simp
    refine hKc.out _ _ trivial (fun _ => ?_)
    clear hKc Kc
    try simp only [Act.put]
    refine wpAnyH_done (by kernel_rfl) ?_ _
    rw [← HFD.out]
    have hB6 : Below w.heap.size w (w5.alloc (.cells #[.int .u8 (z : Int)] 5)).drew := belowN (hB5.alloc hB5.size _) 1
    generalize (w5.alloc (.cells #[.int .u8 (z : Int)] 5)).drew = w6 at *
    clear hcv n1 n2
    go_wp2_with fail
    refine (M4.out _ (hT.below hB6 hT.two)).mono ?_
    rintro e w7 ⟨rfl, hb⟩
    have hB7 : Below w.heap.size w w7 := hB6.trans (hb.mono hB6.size)
    clear hb hB6
    clear s1 s2 w1i w2i w3i ga
    go_wp2
    go_ret
    exact ⟨rfl, hB7⟩
end Go.Proofs.YtancchoelmdaiaaGreatDoor
