/-
  The program's and the document's answers of layer 2 are the same: Mac, Derive, Same. Conditions: the tables of layer 1 hold what their initialisers lay; texts of some thousand bytes.
-/
import Derived.Test.YtcpkkicpkmjagaaDoorRefN
import Derived.Test.YtcpkkicpkmjagaaDoorMacZ
namespace Go.Proofs.YtcpkkicpkmjagaaDoor
open Go.RowKit

theorem mac_both (y x : ByteArray) (hx : x.size ≤ 1048512) : ∃ (s : ByteArray) (e : Int),
    (∀ w, Tab w → Calls Tryd.prog 27 #[.string y, .string x] w fun r w' => r = .returned (.tuple #[.string s, .int .i64 e]) ∧ Below w.heap.size w w') ∧
    (∀ w, Calls Tryd.prog 28 #[.string y, .string x] w fun r w' => r = .returned (.tuple #[.string s, .int .i64 e]) ∧ Below w.heap.size w w') := by
  by_cases h : y.size ≤ 1000
  · exact ⟨_, 0, fun w hT => mac_ok y x w hT h hx, fun w => rmac_ok y x w h hx⟩
  · exact ⟨_, 1, fun w _ => (mac_arg y x w (by omega)).mono fun _ _ ⟨h1, h2⟩ => ⟨h1, h2 ▸ Below.refl _ _⟩, fun w => (rmac_arg y x w (by omega)).mono fun _ _ ⟨h1, h2⟩ => ⟨h1, h2 ▸ Below.refl _ _⟩⟩
theorem derive_both (y m : ByteArray) (z : Int) : ∃ (s : ByteArray) (e : Int),
    (∀ w, Tab w → Calls Tryd.prog 29 #[.string y, .string m, .int .i64 z] w fun r w' => r = .returned (.tuple #[.string s, .int .i64 e]) ∧ Below w.heap.size w w') ∧
    (∀ w, Calls Tryd.prog 30 #[.string y, .string m, .int .i64 z] w fun r w' => r = .returned (.tuple #[.string s, .int .i64 e]) ∧ Below w.heap.size w w') := by
  cases h : drvB y m z with
  | true =>
    have h' := h
    simp only [drvB, Bool.and_eq_true, decide_eq_true_eq] at h'
    obtain ⟨⟨⟨h1, h2⟩, h3⟩, h4⟩ := h'
    obtain ⟨N, rfl⟩ := Int.eq_ofNat_of_zero_le h3
    exact ⟨_, 0, fun w hT => derive_ok y m N w hT h1 h2 (by omega), fun w => rderive_ok y m N w h1 h2 (by omega)⟩
  | false => exact ⟨_, 1, fun w _ => (derive_arg y m z w h).mono fun _ _ ⟨h1, h2⟩ => ⟨h1, h2 ▸ Below.refl _ _⟩, fun w => (rderive_arg y m z w h).mono fun _ _ ⟨h1, h2⟩ => ⟨h1, h2 ▸ Below.refl _ _⟩⟩
theorem eqB_list (a b : ByteArray) (h : a.size = b.size) : (a.toList == b.toList) = eqB a b := by
  by_cases e : a = b
  · subst e; rw [eqB_true]; simp
  · rw [eqB_false h e]
    rw [beq_eq_false_iff_ne]
    intro h2
    rw [ByteArray.toList_eq, ByteArray.toList_eq] at h2
    exact e (ByteArray.ext (Array.toList_inj.1 h2))
theorem same_both (a b : ByteArray) (ha : a.size ≤ maxLen) : ∃ (v : Bool) (n : Int),
    (∀ w, Calls Tryd.prog 31 #[.string a, .string b] w fun r w' => r = .returned (.tuple #[.bool v, .int .i64 n]) ∧ Below w.heap.size w w') ∧
    (∀ w, Calls Tryd.prog 32 #[.string a, .string b] w fun r w' => r = .returned (.tuple #[.bool v, .int .i64 n]) ∧ Below w.heap.size w w') := by
  by_cases h : a.size = b.size
  · have hne : ((a.size : Int) != (b.size : Int)) = false := by rw [h]; simp
    refine ⟨eqB a b, a.size, fun w => msame_yes a b w h ha, fun w => ?_⟩
    have := rsame_yes a b w hne
    rw [eqB_list a b h] at this
    exact this.mono fun _ _ ⟨h1, h2⟩ => ⟨h1, h2 ▸ Below.refl _ _⟩
  · have hne : ((a.size : Int) != (b.size : Int)) = true := by simp; omega
    exact ⟨false, 0, fun w => (msame_no a b w hne).mono fun _ _ ⟨h1, h2⟩ => ⟨h1, h2 ▸ Below.refl _ _⟩, fun w => (rsame_no a b w hne).mono fun _ _ ⟨h1, h2⟩ => ⟨h1, h2 ▸ Below.refl _ _⟩⟩
end Go.Proofs.YtcpkkicpkmjagaaDoor
