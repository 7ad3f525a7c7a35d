/-
  Contract of mac.Same: whether two texts are the same, and how many bytes were looked at. Conditions: texts are no longer than memory allows.
-/
import Derived.Test.YtcpkkicpkmjagaaDoorDigA
import Derived.Test.YtcpkkicpkmjagaaDoorChecked
import Derived.Laws.LoneSync
import Derived.RegionTactic
namespace Go.Proofs.YtcpkkicpkmjagaaDoor
open Go.RowKit

set_option maxHeartbeats 1000000 in
theorem atAdd (g : Nat) (v : Int) (w : World) (h0 : w.cell? ⟨g, 0, none⟩ = some (.int .i64 v)) (f0 : w.frozen? ⟨g, 0, none⟩ = false) (h1 : 0 ≤ v) (h2 : v < 9223372036854775807) :
    Calls Tryd.prog 49 #[.pointer (some ⟨g, 0, none⟩), .int .i64 1] w fun e w' => e = .returned (.int .i64 (v + 1)) ∧ w' = w.setCell ⟨g, 0, none⟩ (.int .i64 (v + 1)) := by
  have hadd := run_call_add (P := Tryd.prog) Tryd.func58 (by kernel_rfl) (by kernel_rfl) (by kernel_rfl) .i64 (by kernel_rfl) (y := 1) (s := v + 1) h0 f0 (by simp [go_sem, IntWalk.i64_in (v + 1) (by omega)])
  go_enter Tryd.func49, Tryd.ntmps49
  go_wp2
  go_ret
  exact ⟨rfl, rfl⟩
set_option maxHeartbeats 1000000 in
theorem atLoad (g : Nat) (v : Int) (w : World) (h0 : w.cell? ⟨g, 0, none⟩ = some (.int .i64 v)) :
    Calls Tryd.prog 50 #[.pointer (some ⟨g, 0, none⟩)] w fun e w' => e = .returned (.int .i64 v) ∧ w = w' := by
  have hld := run_call_load (P := Tryd.prog) Tryd.func59 (by kernel_rfl) (by kernel_rfl) (by kernel_rfl) .i64 (by kernel_rfl) h0
  go_enter Tryd.func50, Tryd.ntmps50
  go_wp2
  go_ret
  exact ⟨rfl, rfl⟩

/-- all bytes' unlikenesses, put together. -/
def orX (a b : ByteArray) (k : Nat) : Int := (List.range k).foldl (fun u j => bits BinOp.or IntKind.u8 u (bits BinOp.xor IntKind.u8 (bt a j) (bt b j))) 0
theorem orX_succ (a b : ByteArray) (k : Nat) : orX a b (k + 1) = bits BinOp.or IntKind.u8 (orX a b k) (bits BinOp.xor IntKind.u8 (bt a k) (bt b k)) := by
  simp [orX, List.range_succ]
theorem xor_bd {x y : Int} (hx : 0 ≤ x ∧ x < 256) (hy : 0 ≤ y ∧ y < 256) : (0 ≤ bits BinOp.xor IntKind.u8 x y ∧ bits BinOp.xor IntKind.u8 x y < 256) ∧ (bits BinOp.xor IntKind.u8 x y = 0 ↔ x = y) := by
  rw [u8_xor x y hx.1 hx.2 hy.1 hy.2]
  have h : x.toNat ^^^ y.toNat < 2 ^ 8 := Nat.xor_lt_two_pow (by omega) (by omega)
  refine ⟨by omega, ?_⟩
  constructor
  · intro e
    have e' : x.toNat ^^^ y.toNat = 0 := by omega
    have e2 : (x.toNat ^^^ y.toNat) ^^^ y.toNat = 0 ^^^ y.toNat := by rw [e']
    rw [Nat.xor_assoc, Nat.xor_self, Nat.xor_zero, Nat.zero_xor] at e2
    omega
  · rintro rfl
    simp
theorem or_bd {x y : Int} (hx : 0 ≤ x ∧ x < 256) (hy : 0 ≤ y ∧ y < 256) : (0 ≤ bits BinOp.or IntKind.u8 x y ∧ bits BinOp.or IntKind.u8 x y < 256) ∧ (bits BinOp.or IntKind.u8 x y = 0 ↔ x = 0 ∧ y = 0) := by
  rw [u8_or x y hx.1 hx.2 hy.1 hy.2]
  have h : x.toNat ||| y.toNat < 2 ^ 8 := Nat.or_lt_two_pow (by omega) (by omega)
  refine ⟨by omega, ?_⟩
  have h1 : x.toNat ≤ x.toNat ||| y.toNat := Nat.left_le_or
  have h2 : y.toNat ≤ x.toNat ||| y.toNat := Nat.right_le_or
  constructor
  · intro e
    omega
  · rintro ⟨rfl, rfl⟩
    rfl
theorem orX_bd (a b : ByteArray) (k : Nat) : (0 ≤ orX a b k ∧ orX a b k < 256) ∧ (orX a b k = 0 ↔ ∀ j, j < k → bt a j = bt b j) := by
  induction k with
  | zero => exact ⟨by simp [orX], by simp [orX]⟩
  | succ k ih =>
    obtain ⟨hb, he⟩ := ih
    have hx := xor_bd (bt_bd a k) (bt_bd b k)
    have ho := or_bd hb hx.1
    rw [orX_succ]
    refine ⟨ho.1, ?_⟩
    rw [ho.2, he, hx.2]
    constructor
    · rintro ⟨h1, h2⟩ j hj
      rcases (by omega : j < k ∨ j = k) with h | rfl
      · exact h1 j h
      · exact h2
    · exact fun h => ⟨fun j hj => h j (by omega), h k (by omega)⟩
theorem same_bytes (a b : ByteArray) (h : a.size = b.size) : (∀ j, j < a.size → bt a j = bt b j) ↔ a = b := by
  constructor
  · intro hj
    apply ByteArray.ext
    apply Array.ext (by exact h)
    intro i h1 h2
    have := hj i h1
    rw [← bt_get (s := a) h1, ← bt_get (s := b) h2] at this
    have e : (a[i]).toNat = (b[i]).toNat := by omega
    exact UInt8.toNat_inj.1 e
  · rintro rfl _ _
    rfl
/-- are two texts of one length the same? -/
def eqB (a b : ByteArray) : Bool := orX a b a.size == 0
theorem eqB_true (a : ByteArray) : eqB a a = true := by
  rw [eqB, beq_iff_eq, (orX_bd a a a.size).2]
  exact fun _ _ => rfl
theorem eqB_false {a b : ByteArray} (h : a.size = b.size) (hn : a ≠ b) : eqB a b = false := by
  rw [eqB, beq_eq_false_iff_ne, Ne, (orX_bd a b a.size).2, same_bytes a b h]
  exact hn

set_option maxRecDepth 100000 in
set_option maxHeartbeats 1000000 in
theorem msame_no (a b : ByteArray) (w : World) (h : ((a.size : Int) != (b.size : Int)) = true) :
    Calls Tryd.prog 31 #[.string a, .string b] w fun e w' => e = .returned (.tuple #[.bool false, .int .i64 0]) ∧ w = w' := by
  go_enter Tryd.func31, Tryd.ntmps31
  go_wp2
  go_ret2
  exact ⟨rfl, rfl⟩

set_option maxRecDepth 100000 in
set_option maxHeartbeats 1000000 in
theorem msame_yes (a b : ByteArray) (w : World) (h : a.size = b.size) (ha : a.size ≤ maxLen) :
    Calls Tryd.prog 31 #[.string a, .string b] w fun e w' => e = .returned (.tuple #[.bool (eqB a b), .int .i64 (a.size : Int)]) ∧ Below w.heap.size w w' := by
  unfold maxLen at ha
  have hne : ((a.size : Int) != (b.size : Int)) = false := by rw [h]; simp
  have H := Lib.hid h
  clear h
  go_enter Tryd.func31, Tryd.ntmps31
  go_wp2
  clear hne
  go_loopw [7, 16] (fun u i wr => ∃ k : Nat, k ≤ a.size ∧ i = .int .i64 k ∧ u = .int .u8 (orX a b k) ∧ Is wr w.heap.size 78 #[.int .i64 k] ∧ Below w.heap.size w wr)
    (fun _ i _ => a.size - (intOf i).toNat)
  case atStart => exact ⟨0, by omega, rfl, rfl, Is.new w _ _, (Below.refl _ _).alloc (Nat.le_refl _) _⟩
  case round =>
    obtain ⟨k, hk, rfl, rfl, hI, hB⟩ := hrel
    by_cases hlt : k < a.size
    · have hlb : k < b.size := by have := H.out; omega
      have ga := bt_get hlt
      have gb := bt_get hlb
      have hs := orX_succ a b k
      generalize orX a b k = u at *
      have HSU := Lib.hid hs
      clear hs
      have hi1 : (0 : Int) ≤ (k : Int) := by omega
      have hi2 : (k : Int) < (a.size : Int) := by omega
      have hi3 : (k : Int) < (b.size : Int) := by omega
      go_wp2
      go_quiet (fail)
      go_wp2_with fail
      refine (atAdd w.heap.size (k : Int) _ ((hI.drewN _).cell 0) ((hI.drewN _).frozen 0) (by omega) (by omega)).mono ?_
      rintro e w1 ⟨rfl, rfl⟩
      go_wp2
      go_roundw
      case rel => exact ⟨k + 1, by omega, by go_num, by rw [HSU.out], by
        rw [show ((k + 1 : Nat) : Int) = (k : Int) + 1 by omega]
        exact Is.drewN (hI.set 0 (.int .i64 ((k : Int) + 1))) _, (belowN hB _).setCell (Nat.le_refl _) _⟩
      case measure => simp [intOf]; omega
    · have hkk : k = a.size := by omega
      subst hkk
      have he : eqB a b = (orX a b a.size == 0) := rfl
      generalize orX a b a.size = u at he ⊢
      have HE := Lib.hid he
      clear he
      go_wp2_with fail
      refine (atLoad w.heap.size (a.size : Int) _ (hI.cell 0)).mono ?_
      rintro e w1 ⟨rfl, rfl⟩
      go_wp2
      go_ret2
      exact ⟨by rw [HE.out]; rfl, hB⟩
end Go.Proofs.YtcpkkicpkmjagaaDoor
