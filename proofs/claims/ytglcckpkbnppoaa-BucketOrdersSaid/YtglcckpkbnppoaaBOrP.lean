/-
  BucketOrders, plain: numbers of unlike picks; what is put of them, in whatever order.
-/
import Derived.Test.YtglcckpkbnppoaaBOrR
namespace Go.Proofs.Ytglcckpkbnppoaa
open Go.RowKit Go.Shelf

def had12 (R : List Int) (z : Int) : Bool := R.any fun y => decide (pickN y 40 = pickN z 40)
theorem had_nil12 (R : List Int) (z : Int) : had12 (R.take 0) z = false := by rw [List.take_zero]; rfl
theorem had_one12 {R : List Int} {q : Nat} {y : Int} (hy : R[q]? = some y) (z : Int) : had12 (R.take (q + 1)) z = (had12 (R.take q) z || (pickN y 40 == pickN z 40)) := by
  rw [had12, had12, List.take_add_one, hy, List.any_append]
  show _ = _
  rw [Option.toList_some, List.any_cons, List.any_nil, Bool.or_false]
  congr 1
def Dist12 (R : List Int) : Prop := R.Pairwise fun a b => pickN a 40 ≠ pickN b 40
theorem Dist12.more {R : List Int} (h : Dist12 R) {z : Int} (hz : had12 R z = false) : Dist12 (R ++ [z]) := by
  refine List.pairwise_append.2 ⟨h, List.pairwise_singleton _ _, fun a ha b hb => ?_⟩
  obtain rfl := List.mem_singleton.1 hb
  intro e
  rw [had12, List.any_eq_false] at hz
  exact hz a ha (decide_eq_true e)
theorem Dist12.turn {R : List Int} (h : Dist12 R) (K : Nat) : Dist12 (R.drop K ++ R.take K) := by
  have h2 : Dist12 (R.take K ++ R.drop K) := by rwa [List.take_append_drop]
  obtain ⟨h3, h4, h5⟩ := List.pairwise_append.1 h2
  exact List.pairwise_append.2 ⟨h4, h3, fun a ha b hb => (h5 b hb a ha).symm⟩
def prs12 (R : List Int) : List (Nat × ByteArray) := R.map fun y => ((pickN y 40).toNat, cell12 y)
theorem prs_one12 {R : List Int} {q : Nat} {y : Int} (hy : R[q]? = some y) : prs12 (R.take (q + 1)) = prs12 (R.take q) ++ [((pickN y 40).toNat, cell12 y)] := by
  rw [prs12, prs12, List.take_add_one, hy, List.map_append]
  rfl
theorem prs_turn12 (R : List Int) (K : Nat) (p : Nat × ByteArray) : p ∈ prs12 R ↔ p ∈ prs12 (R.drop K ++ R.take K) := by
  have e : prs12 R = prs12 (R.take K ++ R.drop K) := by rw [List.take_append_drop]
  rw [e, prs12, prs12, List.map_append, List.map_append, List.mem_append, List.mem_append, or_comm]
theorem puts_step12 {s : Sto12} {R : List Int} {q : Nat} {y : Int} (h : Puts12 s (prs12 (R.take q))) (hd : Dist12 R) (hy : R[q]? = some y) :
    (putV12 s (label12 y) (cell12 y)).2 = 0 ∧ Puts12 (putV12 s (label12 y) (cell12 y)).1 (prs12 (R.take (q + 1))) := by
  have hb := pickN_bd y 40 (by omega)
  rw [prs_one12 hy, label_lab12]
  refine h.put (fun p hp => ?_) (by omega) (cell_size12 y)
  obtain ⟨x, hx, rfl⟩ := List.mem_map.1 hp
  have hbx := pickN_bd x 40 (by omega)
  refine ⟨by show (pickN x 40).toNat < 40; omega, ?_⟩
  obtain ⟨i, hi⟩ := List.mem_iff_getElem?.1 hx
  rw [List.getElem?_take] at hi
  split at hi
  · rename_i hiq
    have hne : pickN x 40 ≠ pickN y 40 := by
      obtain ⟨h1, rfl⟩ := List.getElem?_eq_some_iff.1 hi
      obtain ⟨h2, rfl⟩ := List.getElem?_eq_some_iff.1 hy
      exact List.pairwise_iff_getElem.1 hd i q h1 h2 hiq
    show (pickN x 40).toNat ≠ (pickN y 40).toNat
    omega
  · cases hi
theorem prs_all12 (R : List Int) : prs12 (R.take R.length) = prs12 R := by rw [List.take_length]
theorem prs_len12 (R : List Int) : (prs12 R).length = R.length := by rw [prs12, List.length_map]
theorem turn_len12 (R : List Int) {K : Nat} (hK : K ≤ R.length) : (R.drop K ++ R.take K).length = R.length := by
  rw [List.length_append, List.length_drop, List.length_take]; omega
theorem iV_turn12 (R : List Int) (K : Nat) : (iV12 R).drop (K * 1) ++ (iV12 R).take (K * 1) = iV12 (R.drop K ++ R.take K) := by
  rw [Nat.mul_one, iV12, iV12, List.map_append, List.map_drop, List.map_take]
theorem Big12.turn {R : List Int} (h : Big12 R) (K : Nat) : Big12 (R.drop K ++ R.take K) := fun y hy => by
  rcases List.mem_append.1 hy with h1 | h1
  · exact h y (List.mem_of_mem_drop h1)
  · exact h y (List.mem_of_mem_take h1)
theorem Big12.more {R : List Int} (h : Big12 R) {z : Int} (hz : -9223372036854775808 ≤ z ∧ z ≤ 9223372036854775807) : Big12 (R ++ [z]) := fun y hy => by
  rcases List.mem_append.1 hy with h1 | h1
  · exact h y h1
  · obtain rfl := List.mem_singleton.1 h1; exact hz
def exT0 : Sto12 := ⟨new12 16, 0, 0⟩
theorem ex_new16 : newV12 16 = (exT0, 0) := by kernel_rfl
theorem puts_all12 {a b : Sto12} {R T : List Int} (ha : Puts12 a (prs12 R)) (hb : Puts12 b (prs12 T)) (h : ∀ p, p ∈ prs12 R ↔ p ∈ prs12 T) : all12 a.B = all12 b.B ∧ (all12 a.B).length ≤ 4096 := by
  refine ⟨puts_same12 ha hb h, ?_⟩
  rw [all_len12 ha.inv.rt.ok]
  have h1 := cnt_le12 a.B 1
  have := ha.inv.len
  omega
end Go.Proofs.Ytglcckpkbnppoaa
