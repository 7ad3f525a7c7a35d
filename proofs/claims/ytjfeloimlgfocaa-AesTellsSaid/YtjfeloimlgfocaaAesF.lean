/-
  Plain facts on the words of a key, expanded, by their number; a made slice of words as a block of noughts. Nothing of the program but its types stands here.
-/
import Derived.Test.YtjfeloimlgfocaaAesE
namespace Go.Proofs.Ytjfeloimlgfocaa
open Go.RowKit Go.Shelf

/-- how many words a key has: four or eight. -/
structure KeyN (key : List Nat) (n : Nat) : Prop where
  len : key.length = 4 * n
  two : n = 4 ∨ n = 8
theorem KeyN.pos {key : List Nat} {n : Nat} (h : KeyN key n) : 1 ≤ n := by have := h.two; omega
theorem KeyN.div {key : List Nat} {n : Nat} (h : KeyN key n) : key.length / 4 = n := by have := h.len; omega
theorem KeyN.or {key : List Nat} {n : Nat} (h : KeyN key n) : key.length = 16 ∨ key.length = 32 := by have := h.len; have := h.two; omega
theorem KeyN.exp {key : List Nat} {n : Nat} (h : KeyN key n) : expB key = (expN key n (3 * n + 28)).1 := by rw [expB, h.div]
theorem KeyN.expLen {key : List Nat} {n : Nat} (h : KeyN key n) : (expB key).length = 16 * (n + 7) := by rw [expB_len h.or, h.len]; omega
theorem take_drop_take {α : Type} (l : List α) (a b c : Nat) (h : a + b ≤ c) : ((l.take c).drop a).take b = (l.drop a).take b := by
  rw [List.drop_take, List.take_take]; congr 1; omega
/-- the key's own words. -/
theorem word_key {key : List Nat} {n : Nat} (h : KeyN key n) {i : Nat} (hi : i < n) : colL (expB key) i = colL key i := by
  have ht := expN_take (key := key) (n := n) h.len h.pos (j := 0) (J := 3 * n + 28) (by omega)
  rw [← h.exp] at ht
  rw [colL, ← take_drop_take (expB key) (i * 4) 4 (4 * (n + 0)) (by omega), ht]
  rfl
/-- each further word. -/
theorem word_next {key : List Nat} {n : Nat} (h : KeyN key n) {j : Nat} (hj : j < 3 * n + 28) :
    colL (expB key) (n + j) = xorB (colL (expB key) j) (keyT n (n + j) (expN key n j).2 (colL (expB key) (n + j - 1))) := by
  have h1 := expN_take (key := key) (n := n) h.len h.pos (j := j) (J := 3 * n + 28) (by omega)
  have h2 := expN_take (key := key) (n := n) h.len h.pos (j := j + 1) (J := 3 * n + 28) (by omega)
  rw [← h.exp] at h1 h2
  have hl := expN_len (key := key) h.len h.pos j
  have hn := h.pos
  have e1 : ((expN key n j).1.drop (4 * (n + j - n))).take 4 = colL (expB key) j := by
    rw [← h1, take_drop_take _ _ _ _ (by omega), colL, show 4 * (n + j - n) = j * 4 by omega]
  have e2 : (expN key n j).1.drop (4 * (n + j) - 4) = colL (expB key) (n + j - 1) := by
    have : ((expN key n j).1.drop (4 * (n + j) - 4)).take 4 = (expN key n j).1.drop (4 * (n + j) - 4) := List.take_of_length_le (by rw [List.length_drop, hl]; omega)
    rw [← this, ← h1, take_drop_take _ _ _ _ (by omega), colL, show 4 * (n + j) - 4 = (n + j - 1) * 4 by omega]
  rw [colL, ← take_drop_take (expB key) ((n + j) * 4) 4 (4 * (n + (j + 1))) (by omega), h2]
  show ((( (expN key n j).1 ++ xorB (((expN key n j).1.drop (4 * (n + j - n))).take 4) (keyT n (n + j) (expN key n j).2 ((expN key n j).1.drop (4 * (n + j) - 4)))).drop ((n + j) * 4)).take 4) = _
  rw [e1, e2, List.drop_left' (by rw [hl]; omega), List.take_of_length_le]
  rw [xorB, List.length_zipWith]
  have : (colL (expB key) j).length ≤ 4 := by rw [colL]; exact List.length_take_le _ _
  omega
theorem expC_lt (key : List Nat) (hk : ∀ x ∈ key, x < 256) (n j : Nat) : (expN key n j).2 < 256 := (expN_lt hk j).2
theorem expC_next (key : List Nat) (n j : Nat) : (expN key n (j + 1)).2 = if (n + j) % n = 0 then mulN 2 (expN key n j).2 else (expN key n j).2 := rfl

/-- noughts. -/
def zers (n : Nat) : List Nat := List.replicate n 0
theorem zers_len (n : Nat) : (zers n).length = n := by simp [zers]
theorem made_zers (n : Nat) : (madeCells #[Value.int .u8 0, .int .u8 0, .int .u8 0, .int .u8 0] (n * 4)).toList = nL (zers (n * 4)) := by
  apply List.ext_getElem
  · simp [size_madeCells, nL, zers]
  · intro i h1 h2
    simp only [madeCells, nL, zers, List.map_replicate, List.getElem_replicate, Array.getElem_toList, Array.getElem_map, Array.getElem_range]
    have : i % 4 = 0 ∨ i % 4 = 1 ∨ i % 4 = 2 ∨ i % 4 = 3 := by omega
    show (#[Value.int .u8 0, .int .u8 0, .int .u8 0, .int .u8 0])[i % 4]! = _
    rcases this with h | h | h | h <;> rw [h] <;> rfl
theorem made_zers16 (n : Nat) : (madeCells (nA zer16) (n * 16)).toList = nL (zers (n * 16)) := by
  apply List.ext_getElem
  · simp [size_madeCells, nL, zers]
  · intro i h1 h2
    simp only [madeCells, nL, zers, List.map_replicate, List.getElem_replicate, Array.getElem_toList, Array.getElem_map, Array.getElem_range]
    show (nA zer16)[i % 16]! = _
    have h16 : i % 16 < 16 := Nat.mod_lt _ (by decide)
    generalize i % 16 = j at *
    rw [getElem!_pos (nA zer16) j (by rw [nA_size]; exact h16)]
    show ((List.replicate 16 (Value.int .u8 0)).toArray)[j]'(by simp; exact h16) = _
    rw [List.getElem_toArray, List.getElem_replicate]
    rfl
/-- a made slice is a block of its own. -/
theorem owned_is {w : World} {base : Nat} {e : TypeId} {size g n : Nat} {X : List Nat} (h : w.ownsRow base e size (.slice (some ⟨g, 0, none⟩) n n) n (nL X)) : Is w g e (nA X) ∧ base ≤ g := by
  rcases h.2 with ⟨h1, _⟩ | ⟨g2, cap2, cur, h1, hb, hg, _, _, hs, ht⟩
  · cases h1
  · cases h1
    refine ⟨?_, hb⟩
    rw [List.take_of_length_le (by rw [Array.length_toList, hs]; exact Nat.le_refl _)] at ht
    have : cur = nA X := by rw [← Array.toList_inj, ht]; rfl
    rw [this] at hg
    exact hg
theorem infoWord : (Try.prog.info? 58).map (fun i => (i.zero, i.size, i.bytes)) = some (some (.agg #[.int .u8 0, .int .u8 0, .int .u8 0, .int .u8 0]), 4, 4) := by kernel_rfl
theorem infoSquare : (Try.prog.info? 60).map (fun i => (i.zero, i.size, i.bytes)) = some (some (.agg (nA zer16)), 16, 16) := by kernel_rfl
theorem nA_range0 {w : World} {g : Nat} {t : TypeId} {X : List Nat} (h : Is w g t (nA X)) : w.rangeAt g 0 (nL X) := by
  have := nA_range h 0 X.length
  rw [List.drop_zero, List.take_length] at this
  exact this
/-- a word of what is there already. -/
theorem thru_take_drop {D S : List Nat} (h : D.length = S.length) {n i : Nat} (hn : n ≤ S.length) (hi : i * 4 + 4 ≤ n) : ((thru D S n).drop (i * 4)).take 4 = colL D i := by
  rw [thru, List.drop_append_of_le_length (by rw [List.length_take]; omega), List.take_append_of_le_length (by rw [List.length_drop, List.length_take]; omega), take_drop_take _ _ _ _ hi]
  rfl
theorem keyT_plain {n i c : Nat} {t : List Nat} (h1 : i % n ≠ 0) (h2 : ¬ (n = 8 ∧ i % n = 4)) : keyT n i c t = t := by
  unfold keyT
  dsimp only
  rw [if_neg (by rintro ⟨rfl, h⟩; exact h2 ⟨rfl, h⟩), if_neg h1]
theorem keyT_sub {n i c : Nat} {t : List Nat} (h1 : n = 8) (h2 : i % n = 4) : keyT n i c t = subL t := by
  subst h1
  unfold keyT
  dsimp only
  rw [if_pos ⟨rfl, h2⟩, if_neg (by omega)]
theorem keyT_turn {n i c : Nat} {t : List Nat} (h1 : i % n = 0) : keyT n i c t = hdX c (subL (t.drop 1 ++ t.take 1)) := by
  unfold keyT
  dsimp only
  rw [if_neg (by rintro ⟨rfl, h⟩; omega), if_pos h1]
end Go.Proofs.Ytjfeloimlgfocaa
