/-
  A key's round keys as a text: plain facts. Nothing of the program stands here but what is named of it in AesR.
-/
import Derived.Test.YtjfeloimlgfocaaAesW
import Derived.Test.YtjfeloimlgfocaaFlip
namespace Go.Proofs.Ytjfeloimlgfocaa
open Go.RowKit Go.Shelf
section
variable {k : ByteArray}
theorem expV_nat (hk : mayB k = true) : natL (expV k) = expB (natL k) := by rw [expV_ok hk, strN_nat (expB_lt (natL_lt k))]
theorem expV_take (hk : mayB k = true) : (expV k).extract 0 k.size = k := natL_inj (by
  rw [natL_extract, expV_nat hk, List.drop_zero, Nat.sub_zero, ← natL_len k, expB_take (natL_key hk)])
theorem expV_inj {l : ByteArray} (hk : mayB k = true) (hl : l.size = k.size) (h : expV k = expV l) : k = l := natL_inj (expB_inj (natL_key hk) (by rw [natL_len, natL_len, hl]) (by
  have hl' : mayB l = true := by rw [mayB, hl]; exact hk
  rw [← expV_nat hk, ← expV_nat hl', h]))
theorem expV_plain (hk : mayB k = true) {i : Nat} (h0 : k.size ≤ i) (h1 : i < 4 * k.size + 112) (h2 : i / 4 % (k.size / 4) ≠ 0) (h3 : ¬ (k.size = 32 ∧ i / 4 % 8 = 4)) :
    btN (expV k) i = btN (expV k) (i - 4) ^^^ btN (expV k) (i - k.size) := by
  have hn := KeyN.of hk
  have hs : k.size = 16 ∨ k.size = 32 := by simpa [mayB] using hk
  simp only [btN, expV_nat hk]
  rw [hn.exp]
  have := expN_plain (key := natL k) (n := k.size / 4) hn.len hn.pos (j := i / 4 - k.size / 4) (J := 3 * (k.size / 4) + 28) (b := i % 4) (by omega) (by omega)
    (by rw [show k.size / 4 + (i / 4 - k.size / 4) = i / 4 by omega]; exact h2) (by rw [show k.size / 4 + (i / 4 - k.size / 4) = i / 4 by omega]; rintro ⟨a, b⟩; exact h3 ⟨by omega, b⟩)
  rw [show 4 * (k.size / 4 + (i / 4 - k.size / 4)) + i % 4 = i by omega, show 4 * (i / 4 - k.size / 4) + i % 4 = i - k.size by omega] at this
  exact this
theorem expV_first_key (_ : mayB k = true) (hs : k.size = 16 ∨ k.size = 32) : (keyT (k.size / 4) (k.size / 4 + 0) (expN (natL k) (k.size / 4) 0).2 ((expN (natL k) (k.size / 4) 0).1.drop (4 * (k.size / 4 + 0) - 4))).getD 1 0 = subN ((natL k).getD (k.size - 2) 0) := by
  rw [show (expN (natL k) (k.size / 4) 0).2 = 1 from rfl, show (expN (natL k) (k.size / 4) 0).1 = natL k from rfl, show 4 * (k.size / 4 + 0) - 4 = k.size - 4 by omega]
  have hl : ((natL k).drop (k.size - 4)).length = 4 := by rw [List.length_drop, natL_len]; omega
  have hg : ((natL k).drop (k.size - 4)).getD 2 0 = (natL k).getD (k.size - 2) 0 := by
    rw [List.getD_eq_getElem?_getD, List.getD_eq_getElem?_getD, List.getElem?_drop, show k.size - 4 + 2 = k.size - 2 by omega]
  rw [← hg]
  generalize (natL k).drop (k.size - 4) = t at *
  obtain ⟨a, b, c, d, rfl⟩ : ∃ a b c d, t = [a, b, c, d] := by
    match t, hl with
    | [a, b, c, d], _ => exact ⟨a, b, c, d, rfl⟩
  unfold keyT
  dsimp only
  rw [if_neg (by rcases hs with h | h <;> rw [h] <;> decide), if_pos (by rcases hs with h | h <;> rw [h])]
  rfl
theorem expV_first (hk : mayB k = true) : btN (expV k) (k.size + 1) = btN (expV k) 1 ^^^ subN (btN (expV k) (k.size - 2)) := by
  have hn := KeyN.of hk
  have hs : k.size = 16 ∨ k.size = 32 := by simpa [mayB] using hk
  simp only [btN, expV_nat hk]
  rw [hn.exp]
  have := expN_word (key := natL k) (n := k.size / 4) hn.len hn.pos (j := 0) (J := 3 * (k.size / 4) + 28) (b := 1) (by omega) (by omega)
  rw [show 4 * (k.size / 4 + 0) + 1 = k.size + 1 by omega] at this
  have hh : (keyT (k.size / 4) (k.size / 4 + 0) (expN (natL k) (k.size / 4) 0).2 ((expN (natL k) (k.size / 4) 0).1.drop (4 * (k.size / 4 + 0) - 4))).getD 1 0 = subN ((natL k).getD (k.size - 2) 0) := expV_first_key hk hs
  have hg : (expN (natL k) (k.size / 4) (3 * (k.size / 4) + 28)).1.getD (k.size - 2) 0 = (natL k).getD (k.size - 2) 0 := expN_get hn.len hn.pos (j := 0) (J := 3 * (k.size / 4) + 28) (i := k.size - 2) (by omega) (by omega)
  rw [this, hh, hg]
end
end Go.Proofs.Ytjfeloimlgfocaa
