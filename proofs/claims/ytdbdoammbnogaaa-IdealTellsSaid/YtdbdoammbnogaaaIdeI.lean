/-
  Layer 8: contracts of slices.Clone at names and cells, and of ideal.copyOf, the program's: copies in new memory. Conditions: the lists lie where the slices point to; they are no longer than memory has bytes.
-/
import Derived.Test.YtdbdoammbnogaaaIdeG
import Derived.Lib.SliceRun
namespace Go.Proofs.Ytdbdoammbnogaaa
open Go.RowKit Go.Shelf

theorem infoNam8 : (Try.prog.info? 55).map (fun i => (i.zero, i.size, i.bytes)) = some (some (.agg #[.string ⟨#[]⟩, .string ⟨#[]⟩]), 2, 32) := by kernel_rfl
theorem infoMad8 : (Try.prog.info? 57).map (fun i => (i.zero, i.size, i.bytes)) = some (some (.agg #[.string ⟨#[]⟩, .string ⟨#[]⟩, .string ⟨#[]⟩]), 3, 48) := by kernel_rfl

set_option maxHeartbeats 2000000 in
set_option maxRecDepth 100000 in
theorem cloneN_any (A : Option Addr) (cap : Nat) (L : List Nam8) (w : World) (hc : InV w A (flN L)) (hn : A = none → cap = 0) (hfit : L.length * 32 ≤ 140737488355328) :
    Calls Try.prog 45 #[.slice A L.length cap] w fun e w' => ∃ A' c', e = .returned (.slice A' L.length c') ∧ RowV w' w.heap.size 55 2 A' c' L.length (flN L) ∧ Below w.heap.size w w' := by
  obtain ⟨i0, hi, hz0, hz1, hz2⟩ := info_parts infoNam8
  have q22 : ∀ (w : World) (a : Option Addr) (n c n' c' : Nat), (binOp .eql 27 (.slice a n c) (.slice none n' c')).run Try.prog w = .ok (.bool a.isNone) w := fun w a n c n' c' => Lib.run_eql_slice_nil w _ _ a n c n' c' Try.underlying27
  cases A with
  | none =>
    have h0 : L = [] := by
      have := hc.nil_of
      cases L with
      | nil => rfl
      | cons x l => cases this
    subst h0
    obtain rfl : cap = 0 := hn rfl
    go_enter Try.func45, Try.ntmps45
    go_wp2
    go_ret
    exact ⟨_, _, rfl, RowV.nil _ _ _ _, Below.refl _ _⟩
  | some p =>
    have HC := Lib.hid hc
    have HL := Lib.hid (flN_len L)
    clear hc hn
    go_enter Try.func45, Try.ntmps45
    go_wp2_with (at_builtin; refine wpList_append_own _ rfl _ _ 27 rfl w.heap.size 55 i0 (.agg #[.string ⟨#[]⟩, .string ⟨#[]⟩]) 2 32 Try.underlying27 hi hz0 hz1 hz2 rfl (by decide) _ _ _ rfl (World.ownsRow_made w #[] 0 (Nat.le_refl _) (Nat.zero_le _) rfl) p L.length cap (flN L) rfl ?qc1 ?qc2 ?qc3 ?qc4 ?qc5 ?qc6 ?_)
    case qc1 => exact HL.out
    case qc2 =>
      intro j u hj
      obtain ⟨b, off, h1, _, h2⟩ := HC.out j u hj
      cases h1
      rw [Addr.add_lit]
      exact Lib.cell?_alloc_some _ h2
    case qc3 => exact flN_one L
    case qc4 => unfold maxLen; omega
    case qc5 => omega
    case qc6 => simp
    intro v' w1 hown hgrow hnil
    obtain ⟨A', c', rfl⟩ := owns_sliceG hown
    go_wp2
    go_ret
    refine ⟨A', c', rfl, hown, ?_⟩
    exact ((Below.refl _ w).alloc (Nat.le_refl _) _).grown hgrow (by simp) (by intro k hk; simp [Value.ownBlock] at hk; omega)

set_option maxHeartbeats 2000000 in
set_option maxRecDepth 100000 in
theorem cloneK_any (A : Option Addr) (cap : Nat) (L : List Cel8) (w : World) (hc : InV w A (flK L)) (hn : A = none → cap = 0) (hfit : L.length * 48 ≤ 140737488355328) :
    Calls Try.prog 46 #[.slice A L.length cap] w fun e w' => ∃ A' c', e = .returned (.slice A' L.length c') ∧ RowV w' w.heap.size 57 3 A' c' L.length (flK L) ∧ Below w.heap.size w w' := by
  obtain ⟨i0, hi, hz0, hz1, hz2⟩ := info_parts infoMad8
  have q22 : ∀ (w : World) (a : Option Addr) (n c n' c' : Nat), (binOp .eql 28 (.slice a n c) (.slice none n' c')).run Try.prog w = .ok (.bool a.isNone) w := fun w a n c n' c' => Lib.run_eql_slice_nil w _ _ a n c n' c' Try.underlying28
  cases A with
  | none =>
    have h0 : L = [] := by
      have := hc.nil_of
      cases L with
      | nil => rfl
      | cons x l => cases this
    subst h0
    obtain rfl : cap = 0 := hn rfl
    go_enter Try.func46, Try.ntmps46
    go_wp2
    go_ret
    exact ⟨_, _, rfl, RowV.nil _ _ _ _, Below.refl _ _⟩
  | some p =>
    have HC := Lib.hid hc
    have HL := Lib.hid (flK_len L)
    clear hc hn
    go_enter Try.func46, Try.ntmps46
    go_wp2_with (at_builtin; refine wpList_append_own _ rfl _ _ 28 rfl w.heap.size 57 i0 (.agg #[.string ⟨#[]⟩, .string ⟨#[]⟩, .string ⟨#[]⟩]) 3 48 Try.underlying28 hi hz0 hz1 hz2 rfl (by decide) _ _ _ rfl (World.ownsRow_made w #[] 0 (Nat.le_refl _) (Nat.zero_le _) rfl) p L.length cap (flK L) rfl ?qc1 ?qc2 ?qc3 ?qc4 ?qc5 ?qc6 ?_)
    case qc1 => exact HL.out
    case qc2 =>
      intro j u hj
      obtain ⟨b, off, h1, _, h2⟩ := HC.out j u hj
      cases h1
      rw [Addr.add_lit]
      exact Lib.cell?_alloc_some _ h2
    case qc3 => exact flK_one L
    case qc4 => unfold maxLen; omega
    case qc5 => omega
    case qc6 => simp
    intro v' w1 hown hgrow hnil
    obtain ⟨A', c', rfl⟩ := owns_sliceG hown
    go_wp2
    go_ret
    refine ⟨A', c', rfl, hown, ?_⟩
    exact ((Below.refl _ w).alloc (Nat.le_refl _) _).grown hgrow (by simp) (by intro k hk; simp [Value.ownBlock] at hk; omega)
end Go.Proofs.Ytdbdoammbnogaaa
