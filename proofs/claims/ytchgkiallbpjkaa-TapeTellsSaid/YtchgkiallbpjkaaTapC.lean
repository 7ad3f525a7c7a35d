/-
  Contracts of slices.Clone at numbers, and of tape.change: a list is copied into new memory; two things change places. Conditions: a list of at most 1000; places within it.
-/
import Derived.Test.YtchgkiallbpjkaaTapA
import Derived.Lib.SliceRun
namespace Go.Proofs.Ytchgkiallbpjkaa
open Go.RowKit Go.Shelf

/-- what lies where a slice points to. -/
def InL (W : World) (A : Option Addr) (L : List Int) : Prop :=
  ∀ j, j < L.length → ∃ b off, A = some ⟨b, off, none⟩ ∧ b < W.heap.size ∧ W.cell? ⟨b, off + j, none⟩ = some (.int .i64 (L.getD j 0))
theorem InL.below {W W' : World} {A : Option Addr} {L : List Int} (h : InL W A L) {B : Nat} (hb : Below B W W') (hlt : ∀ p, A = some p → p.block < B) : InL W' A L := fun j hj => by
  obtain ⟨b, off, rfl, h1, h2⟩ := h j hj
  exact ⟨b, off, rfl, Nat.lt_of_lt_of_le h1 hb.size, (hb.cell (p := ⟨b, off + j, none⟩) (hlt ⟨b, off, none⟩ rfl)).trans h2⟩
theorem InL.keep {W W' : World} {A : Option Addr} {L : List Int} (h : InL W A L) (hb : Below W.heap.size W W') : InL W' A L := fun j hj => by
  obtain ⟨b, off, rfl, h1, h2⟩ := h j hj
  exact ⟨b, off, rfl, Nat.lt_of_lt_of_le h1 hb.size, (hb.cell (p := ⟨b, off + j, none⟩) h1).trans h2⟩
/-- numbers, as cells. -/
abbrev iL (L : List Int) : List Value := L.map (Value.int .i64)
theorem infoInt7 : (Try.prog.info? 3).map (fun i => (i.zero, i.size, i.bytes)) = some (some (.int .i64 0), 1, 8) := by kernel_rfl

theorem owns_slice7 {w : World} {base : Nat} {e : TypeId} {size n : Nat} {v : Value} {xs : List Value} (h : w.ownsRow base e size v n xs) : ∃ A' c', v = .slice A' n c' := by
  rcases h.2 with ⟨rfl, rfl⟩ | ⟨g, cap, cur, rfl, _⟩
  · exact ⟨_, _, rfl⟩
  · exact ⟨_, _, rfl⟩

set_option maxHeartbeats 2000000 in
set_option maxRecDepth 100000 in
theorem clone7_any (A : Option Addr) (cap : Nat) (L : List Int) (w : World) (hL : L.length ≤ 1000) (hc : InL w A L) :
    Calls Try.prog 22 #[.slice A L.length cap] w fun e w' => ∃ A' c', e = .returned (.slice A' L.length c') ∧ w'.ownsRow w.heap.size 3 1 (.slice A' L.length c') L.length (iL L) ∧ Below w.heap.size w w' := by
  obtain ⟨i0, hi, hz0, hz1, hz2⟩ := info_parts infoInt7
  have q22 : ∀ (w : World) (a : Option Addr) (n c n' c' : Nat), (binOp .eql 24 (.slice a n c) (.slice none n' c')).run Try.prog w = .ok (.bool a.isNone) w := fun w a n c n' c' => Lib.run_eql_slice_nil w _ _ a n c n' c' Try.underlying24
  cases A with
  | none =>
    have h0 : L = [] := by
      cases L with
      | nil => rfl
      | cons x l => obtain ⟨b, off, h, _⟩ := hc 0 (by simp); cases h
    subst h0
    go_enter Try.func22, Try.ntmps22
    go_wp2
    go_ret
    exact ⟨_, _, rfl, World.ownsRow_nil _ _ _ _, Below.refl _ _⟩
  | some p =>
    have HC := Lib.hid hc
    clear hc
    go_enter Try.func22, Try.ntmps22
    go_wp2_with (at_builtin; refine wpList_append_own _ rfl _ _ 24 rfl w.heap.size 3 i0 (.int .i64 0) 1 8 Try.underlying24 hi hz0 hz1 hz2 rfl (by decide) _ _ _ rfl (World.ownsRow_made w #[] 0 (Nat.le_refl _) (Nat.zero_le _) rfl) p L.length cap (iL L) rfl ?qc1 ?qc2 ?qc3 ?qc4 ?qc5 ?qc6 ?_)
    case qc1 => simp
    case qc2 =>
      intro j u hj
      have hjn : j < L.length := by
        have := (List.getElem?_eq_some_iff.1 hj).1
        simpa using this
      obtain ⟨b, off, h1, _, h2⟩ := HC.out j hjn
      cases h1
      rw [Addr.add_lit]
      refine Lib.cell?_alloc_some _ ?_
      rw [h2]
      rw [List.getElem?_map, List.getElem?_eq_getElem hjn] at hj
      rw [List.getD_eq_getElem?_getD, List.getElem?_eq_getElem hjn]
      exact hj
    case qc3 => intro u hu; obtain ⟨x, _, rfl⟩ := List.mem_map.1 hu; rfl
    case qc4 => unfold maxLen; omega
    case qc5 => omega
    case qc6 => simp
    intro v' w1 hown hgrow hnil
    obtain ⟨A', c', rfl⟩ := owns_slice7 hown
    go_wp2
    go_ret
    refine ⟨A', c', rfl, by simpa using hown, ?_⟩
    exact ((Below.refl _ w).alloc (Nat.le_refl _) _).grown hgrow (by simp) (by intro k hk; simp [Value.ownBlock] at hk; omega)

set_option maxHeartbeats 2000000 in
set_option maxRecDepth 100000 in
theorem change7_any (g n cap : Nat) (cur : Array Value) (i j : Nat) (x y : Int) (w : World) (hg : Is w g 3 cur) (hi : i < n) (hj : j < n) (hx : cur[i]? = some (.int .i64 x)) (hy : cur[j]? = some (.int .i64 y)) :
    Calls Try.prog 24 #[.slice (some ⟨g, 0, none⟩) n cap, .int .i64 (i : Int), .int .i64 (j : Int)] w fun e w' => (∃ v, e = .returned v) ∧ ∃ k, w' = ((w.setCell ⟨g, i, none⟩ (.int .i64 y)).setCell ⟨g, j, none⟩ (.int .i64 x)).drewN k := by
  have ci : w.cell? ⟨g, i, none⟩ = some (.int .i64 x) := (hg.cell i).trans hx
  have cj : w.cell? ⟨g, j, none⟩ = some (.int .i64 y) := (hg.cell j).trans hy
  have fi := hg.frozen i
  have fj := hg.frozen j
  have hi1 : (i : Int) < (n : Int) := by omega
  have hj1 : (j : Int) < (n : Int) := by omega
  have hs := hg.set i (.int .i64 y)
  have cj2 : (w.setCell ⟨g, i, none⟩ (.int .i64 y)).cell? ⟨g, j, none⟩ = some (.int .i64 y) := by
    refine (hs.cell j).trans ?_
    rw [Array.getElem?_setIfInBounds]
    split
    · rename_i e; subst e; rw [if_pos (Array.getElem?_eq_some_iff.1 hx).1]
    · exact hy
  have fj2 := hs.frozen j
  clear hx hy hs
  go_enter Try.func24, Try.ntmps24
  go_wp2
  go_region
  go_end0
  exact ⟨⟨_, rfl⟩, 1, rfl⟩
end Go.Proofs.Ytchgkiallbpjkaa
