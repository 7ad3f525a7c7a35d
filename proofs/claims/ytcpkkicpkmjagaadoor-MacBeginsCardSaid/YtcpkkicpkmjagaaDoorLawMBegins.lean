/-
  MacBegins: the walk of the statement's function.
-/
import Derived.Test.YtcpkkicpkmjagaaDoorMacK
import Derived.Test.YtcpkkicpkmjagaaDoorMacQ
namespace Go.Proofs.YtcpkkicpkmjagaaDoor
open Go.RowKit

theorem nat_min_max (x y : Int) (h1 : 0 ≤ x ∧ x < 150) (h2 : 0 ≤ y ∧ y < 150) : ∃ a b : Nat, min x y = (a : Int) ∧ max x y = (b : Int) ∧ a ≤ b ∧ b < 150 :=
  ⟨(min x y).toNat, (max x y).toNat, by omega, by omega, by omega, by omega⟩

set_option maxRecDepth 100000 in
set_option maxHeartbeats 1000000 in
theorem begins_walk (key name : ByteArray) (m n : Int) (w : World) (hT : Tab w) (hk : key.size ≤ maxLen) (hname : name.size ≤ maxLen) (hm : -9223372036854775808 ≤ m ∧ m ≤ 9223372036854775807) (hn : -9223372036854775808 ≤ n ∧ n ≤ 9223372036854775807) :
    Calls Tryd.prog 5 #[.string key, .string name, .int .i64 m, .int .i64 n] w fun e w' => e = .returned (.bool true) ∧ Below w.heap.size w w' := by
  unfold maxLen at hk hname
  go_enter Tryd.func5, Tryd.ntmps5
  go_wp2_with fail
  refine (awake2_any _ hT).mono ?_
  rintro e w1 ⟨rfl, hB1⟩
  go_wp2_with fail
  have hX : (key.extract 0 (min (key.size : Int) 200).toNat).size ≤ 200 := by simp; omega
  have hS : (name.extract 0 (min (name.size : Int) 200).toNat).size ≤ 200 := by simp; omega
  generalize key.extract 0 (min (key.size : Int) 200).toNat = K at *
  generalize name.extract 0 (min (name.size : Int) 200).toNat = S at *
  have pm : ∀ w, Calls Tryd.prog 26 #[.int .i64 m, .int .i64 150] w fun e w' => e = .returned (.int .i64 (pickN m 150)) ∧ w = w' := fun w => pick2_any m 150 w hm.1 hm.2 (by decide) (by decide)
  have pn : ∀ w, Calls Tryd.prog 26 #[.int .i64 n, .int .i64 150] w fun e w' => e = .returned (.int .i64 (pickN n 150)) ∧ w = w' := fun w => pick2_any n 150 w hn.1 hn.2 (by decide) (by decide)
  obtain ⟨a, b, hmin, hmax, hab, hb150⟩ := nat_min_max _ _ (pickN_bd m 150 (by decide)) (pickN_bd n 150 (by decide))
  generalize pickN m 150 = x at *
  generalize pickN n 150 = y at *
  have PM := Lib.hid pm
  have PN := Lib.hid pn
  clear pm pn
  refine (PM.out _).mono ?_
  rintro e w' ⟨rfl, rfl⟩
  go_wp2_with fail
  refine (PN.out _).mono ?_
  rintro e w' ⟨rfl, rfl⟩
  go_wp2_with fail
  refine (PM.out _).mono ?_
  rintro e w' ⟨rfl, rfl⟩
  go_wp2_with fail
  refine (PN.out _).mono ?_
  rintro e w' ⟨rfl, rfl⟩
  go_wp2_with fail
  have dk : ∀ (N : Nat) w, Tab w → N ≤ 4096 → Calls Tryd.prog 29 #[.string K, .string S, .int .i64 (N : Int)] w fun e w' => e = .returned (.tuple #[.string (drv (keyL K) S N), .int .i64 0]) ∧ Below w.heap.size w w' := fun N w hT hN => derive_ok K S N w hT (by omega) (by omega) hN
  have mk : ∀ s w, Tab w → s.size ≤ 1048512 → Calls Tryd.prog 27 #[.string K, .string s] w fun e w' => e = .returned (.tuple #[.string (tagB (keyL K) s), .int .i64 0]) ∧ Below w.heap.size w w' := fun s w hT hs => mac_ok K s w hT (by omega) hs
  generalize keyL K = X at *
  have hpre := drv_pre X S a b hab
  have h64 := drv_64 X S
  rw [tgs_2, tgs_1] at h64
  have sa := drv_size X S a
  have sb := drv_size X S b
  have DK := Lib.hid dk
  have MK := Lib.hid mk
  have H64 := Lib.hid h64
  have SA := Lib.hid sa
  have SB := Lib.hid sb
  have HPRE := Lib.hid hpre
  clear dk mk h64 sa sb hpre hmin hmax
  refine (DK.out a _ (hT.below hB1 hT.two) (by omega)).mono ?_
  rintro e w2 ⟨rfl, hb2⟩
  have hB2 : Below w.heap.size w w2 := hB1.trans (hb2.mono hB1.size)
  clear hb2 hB1
  go_wp2_with fail
  refine (DK.out b _ (hT.below hB2 hT.two) (by omega)).mono ?_
  rintro e w3 ⟨rfl, hb3⟩
  have hB3 : Below w.heap.size w w3 := hB2.trans (hb3.mono hB2.size)
  clear hb3 hB2
  generalize drv X S a = da at *
  generalize drv X S b = db at *
  go_wp2_with fail
  refine (DK.out 64 _ (hT.below hB3 hT.two) (by omega)).mono ?_
  rintro e w4 ⟨rfl, hb4⟩
  have hB4 : Below w.heap.size w w4 := hB3.trans (hb4.mono hB3.size)
  clear hb4 hB3
  generalize drv X S 64 = dz at *
  have n1 : ¬ (9223372036854775807 < S.size + (⟨#[1]⟩ : ByteArray).size) := by
    have : (⟨#[1]⟩ : ByteArray).size = 1 := rfl
    omega
  have n1' : ¬ (9223372036854775807 < S.size + 1) := by omega
  have z1 : (S ++ ⟨#[1]⟩ : ByteArray).size ≤ 1048512 := by
    rw [ByteArray.size_append]
    have : (⟨#[1]⟩ : ByteArray).size = 1 := rfl
    omega
  go_wp2_with fail
  refine (MK.out _ _ (hT.below hB4 hT.two) z1).mono ?_
  rintro e w5 ⟨rfl, hb5⟩
  have hB5 : Below w.heap.size w w5 := hB4.trans (hb5.mono hB4.size)
  clear hb5 hB4
  have st := tagB_size X (S ++ (⟨#[1]⟩ : ByteArray))
  generalize tagB X (S ++ (⟨#[1]⟩ : ByteArray)) = t at *
  have ST := Lib.hid st
  clear st
  have z2 : (t ++ S ++ ⟨#[2]⟩ : ByteArray).size ≤ 1048512 := by
    rw [ByteArray.size_append, ByteArray.size_append, ST.out]
    have : (⟨#[2]⟩ : ByteArray).size = 1 := rfl
    omega
  have n2 : ¬ (9223372036854775807 < t.size + S.size) := by rw [ST.out]; omega
  have n3 : ¬ (9223372036854775807 < (t ++ S).size + (⟨#[2]⟩ : ByteArray).size) := by
    rw [ByteArray.size_append, ST.out]
    have : (⟨#[2]⟩ : ByteArray).size = 1 := rfl
    omega
  have n3' : ¬ (9223372036854775807 < t.size + S.size + 1) := by rw [ST.out]; omega
  go_wp2_with fail
  refine (MK.out _ _ (hT.below hB5 hT.two) z2).mono ?_
  rintro e w6 ⟨rfl, hb6⟩
  have hB6 : Below w.heap.size w w6 := hB5.trans (hb6.mono hB5.size)
  clear hb6 hB5
  have su := tagB_size X (t ++ S ++ (⟨#[2]⟩ : ByteArray))
  generalize tagB X (t ++ S ++ (⟨#[2]⟩ : ByteArray)) = u at *
  have n4 : ¬ (9223372036854775807 < t.size + u.size) := by rw [ST.out, su]; omega
  clear su n1 n1' n2 n3 n3' z1 z2
  obtain rfl : dz = t ++ u := H64.out
  have q1 : ((da.size : Int) == (a : Int)) = true := by rw [SA.out]; simp
  have q2 : ((db.size : Int) == (b : Int)) = true := by rw [SB.out]; simp
  have q3 : (a : Int) ≤ (db.size : Int) := by rw [SB.out]; omega
  have hsl : ∀ wx : World, (Instr.slice 9 (.string db) none (some (.int .i64 (a : Int))) none).run Tryd.prog wx = .ok (.string da) wx := fun wx => by
    have := run_slice_string_h (P := Tryd.prog) (w := wx) (t := 9) (s := db) Tryd.underlying9 .i64 (a : Int) (by omega) q3
    rw [Int.toNat_natCast, HPRE.out] at this
    exact this
  go_wp2
  go_ret
  exact ⟨rfl, hB6⟩
end Go.Proofs.YtcpkkicpkmjagaaDoor
