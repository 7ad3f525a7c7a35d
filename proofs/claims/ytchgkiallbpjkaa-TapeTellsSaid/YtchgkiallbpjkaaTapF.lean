/-
  Layer 7, plain: a list turned at places told one by one. Nothing of the program stands here.
-/
import Derived.Test.YtchgkiallbpjkaaTapV
namespace Go.Proofs.Ytchgkiallbpjkaa
open Go.RowKit

/-- the list, and how many places were told, behind these places. -/
def trnP (B : ByteArray) (a : Nat) (l : List Int) (xs : List Nat) : List Int × Nat := xs.foldl (fun s x => (swpL s.1 x (twoN B (a + 2 * s.2) % (x + 1)), s.2 + 1)) (l, 0)
def trnF (B : ByteArray) (a : Nat) (l : List Int) (xs : List Nat) : List Int := (trnP B a l xs).1
theorem trnP_count (B : ByteArray) (a : Nat) (xs : List Nat) : ∀ s : List Int × Nat, (xs.foldl (fun s x => (swpL s.1 x (twoN B (a + 2 * s.2) % (x + 1)), s.2 + 1)) s).2 = s.2 + xs.length ∧ (xs.foldl (fun s x => (swpL s.1 x (twoN B (a + 2 * s.2) % (x + 1)), s.2 + 1)) s).1.length = s.1.length := by
  induction xs with
  | nil => intro s; exact ⟨rfl, rfl⟩
  | cons x xs ih =>
    intro s
    obtain ⟨h1, h2⟩ := ih (swpL s.1 x (twoN B (a + 2 * s.2) % (x + 1)), s.2 + 1)
    rw [List.foldl_cons]
    refine ⟨?_, ?_⟩
    · rw [h1, List.length_cons]; show s.2 + 1 + xs.length = _; omega
    · rw [h2]; exact swpL_len _ _ _
theorem trnF_len (B : ByteArray) (a : Nat) (l : List Int) (xs : List Nat) : (trnF B a l xs).length = l.length := (trnP_count B a xs (l, 0)).2
theorem trnF_nil (B : ByteArray) (a : Nat) (l : List Int) : trnF B a l [] = l := rfl
theorem trnF_snoc (B : ByteArray) (a : Nat) (l : List Int) (xs : List Nat) (x : Nat) : trnF B a l (xs ++ [x]) = swpL (trnF B a l xs) x (twoN B (a + 2 * xs.length) % (x + 1)) := by
  have h := (trnP_count B a xs (l, 0)).1
  unfold trnF trnP
  rw [List.foldl_append]
  show swpL _ x _ = _
  rw [h, Nat.zero_add]
end Go.Proofs.Ytchgkiallbpjkaa
