/-
  Layer 11, plain: a reader that keeps the first error reads what decV11 and readV11 say.
-/
import Derived.Test.YtapfbcpbiagogaaWirG
namespace Go.Proofs.Ytapfbcpbiagogaa
open Go.RowKit Go.Shelf

theorem tl_len11 (B : ByteArray) (a : Int) : (tlV10 B a).1.length ≤ 1000 := by
  by_cases h : (tlV10 B a).2.2 = 0
  · exact (tl_ok10 h).few
  · rw [tl_keep10 h]; exact Nat.zero_le _
theorem nxL_len11 (B : ByteArray) (a e : Int) : (nxL11 B a e).1.length ≤ 1000 := by
  rw [nxL11]
  split
  · exact tl_len11 B a
  · exact Nat.zero_le _
theorem end_form11 {s : ByteArray} {a : Int} (h : rightV s a = true) : endV10 s a = 0 ∨ endV10 s a = 13 := by
  rw [endV10, if_pos h]
  split
  · exact .inr rfl
  · exact .inl rfl
theorem end_tl11 {s : ByteArray} {a : Int} (h : (tlV10 s a).2.2 = 0) : endV10 s (tlV10 s a).2.1 = 0 ∨ endV10 s (tlV10 s a).2.1 = 13 := by
  have hL := tl_ok10 h
  have := hL.ahead
  have h2 := hL.right
  exact end_form11 (rightV_iff.2 ⟨h2.1, by omega, h2.2.2⟩)
theorem end_tn11 {s : ByteArray} {a : Int} (h : (tnV10 s a).2.2 = 0) : endV10 s (tnV10 s a).2.1 = 0 ∨ endV10 s (tnV10 s a).2.1 = 13 := by
  obtain ⟨hN, hp⟩ := tn_ok10 h
  rw [hp]
  have h2 := hN.right
  exact end_form11 (rightV_iff.2 ⟨h2.1, by omega, h2.2.2⟩)
theorem dec_prog11 (s : ByteArray) :
    decV11 s = if nxE11 s (nxL11 s (nxL11 s (nxN11 s 0 (if 65536 < s.size then 2 else 0)).2.1 (nxN11 s 0 (if 65536 < s.size then 2 else 0)).2.2).2.1 (nxL11 s (nxN11 s 0 (if 65536 < s.size then 2 else 0)).2.1 (nxN11 s 0 (if 65536 < s.size then 2 else 0)).2.2).2.2).2.1 (nxL11 s (nxL11 s (nxN11 s 0 (if 65536 < s.size then 2 else 0)).2.1 (nxN11 s 0 (if 65536 < s.size then 2 else 0)).2.2).2.1 (nxL11 s (nxN11 s 0 (if 65536 < s.size then 2 else 0)).2.1 (nxN11 s 0 (if 65536 < s.size then 2 else 0)).2.2).2.2).2.2 ≠ 0
      then (zreq11, nxE11 s (nxL11 s (nxL11 s (nxN11 s 0 (if 65536 < s.size then 2 else 0)).2.1 (nxN11 s 0 (if 65536 < s.size then 2 else 0)).2.2).2.1 (nxL11 s (nxN11 s 0 (if 65536 < s.size then 2 else 0)).2.1 (nxN11 s 0 (if 65536 < s.size then 2 else 0)).2.2).2.2).2.1 (nxL11 s (nxL11 s (nxN11 s 0 (if 65536 < s.size then 2 else 0)).2.1 (nxN11 s 0 (if 65536 < s.size then 2 else 0)).2.2).2.1 (nxL11 s (nxN11 s 0 (if 65536 < s.size then 2 else 0)).2.1 (nxN11 s 0 (if 65536 < s.size then 2 else 0)).2.2).2.2).2.2)
      else if right11 ⟨(nxN11 s 0 (if 65536 < s.size then 2 else 0)).1, (nxL11 s (nxN11 s 0 (if 65536 < s.size then 2 else 0)).2.1 (nxN11 s 0 (if 65536 < s.size then 2 else 0)).2.2).1, (nxL11 s (nxL11 s (nxN11 s 0 (if 65536 < s.size then 2 else 0)).2.1 (nxN11 s 0 (if 65536 < s.size then 2 else 0)).2.2).2.1 (nxL11 s (nxN11 s 0 (if 65536 < s.size then 2 else 0)).2.1 (nxN11 s 0 (if 65536 < s.size then 2 else 0)).2.2).2.2).1⟩ = true
      then (⟨(nxN11 s 0 (if 65536 < s.size then 2 else 0)).1, (nxL11 s (nxN11 s 0 (if 65536 < s.size then 2 else 0)).2.1 (nxN11 s 0 (if 65536 < s.size then 2 else 0)).2.2).1, (nxL11 s (nxL11 s (nxN11 s 0 (if 65536 < s.size then 2 else 0)).2.1 (nxN11 s 0 (if 65536 < s.size then 2 else 0)).2.2).2.1 (nxL11 s (nxN11 s 0 (if 65536 < s.size then 2 else 0)).2.1 (nxN11 s 0 (if 65536 < s.size then 2 else 0)).2.2).2.2).1⟩, 0) else (zreq11, 13) := by
  have err : ∀ {B : ByteArray} {a e : Int}, e ≠ 0 → nxL11 B a e = ([], a, e) := fun h => if_neg h
  have errE : ∀ {B : ByteArray} {a e : Int}, e ≠ 0 → nxE11 B a e = e := fun h => if_neg h
  have okL : ∀ {B : ByteArray} {a e : Int}, e = 0 → nxL11 B a e = tlV10 B a := fun h => if_pos h
  have okE : ∀ {B : ByteArray} {a e : Int}, e = 0 → nxE11 B a e = endV10 B a := fun h => if_pos h
  rw [decV11]
  by_cases h0 : 65536 < s.size
  · rw [if_pos h0, if_pos h0]
    rw [show nxN11 s 0 2 = (0, 0, 2) from if_neg (by decide)]
    rw [err (show ((0 : Int), (0 : Int), (2 : Int)).2.2 ≠ 0 by decide), err (show (([] : List ByteArray), (0 : Int), (2 : Int)).2.2 ≠ 0 by decide), errE (show (([] : List ByteArray), (0 : Int), (2 : Int)).2.2 ≠ 0 by decide), if_pos (by decide)]
  · rw [if_neg h0, if_neg h0, show nxN11 s 0 0 = tnV10 s 0 from if_pos rfl]
    by_cases h1 : (tnV10 s 0).2.2 = 0
    · rw [if_neg (by omega), okL h1]
      by_cases h2 : (tlV10 s (tnV10 s 0).2.1).2.2 = 0
      · rw [if_neg (by omega), okL h2]
        by_cases h3 : (tlV10 s (tlV10 s (tnV10 s 0).2.1).2.1).2.2 = 0
        · rw [if_neg (by omega), okE h3]
          rcases end_tl11 h3 with h4 | h4
          · rw [h4, if_neg (show ¬ (0 : Int) ≠ 0 by decide)]
            cases hr : right11 ⟨(tnV10 s 0).1, (tlV10 s (tnV10 s 0).2.1).1, (tlV10 s (tlV10 s (tnV10 s 0).2.1).2.1).1⟩ with
            | true => rw [if_neg (by simp), if_pos rfl]
            | false => rw [if_pos (.inr rfl), if_neg (by decide)]
          · rw [h4, if_pos (.inl (by decide)), if_pos (by decide)]
        · rw [if_pos h3, errE h3, if_pos h3]
      · rw [if_pos h2, err h2, errE h2, if_pos h2]
    · rw [if_pos h1, err h1]
      rw [err (show (([] : List ByteArray), (tnV10 s 0).2.1, (tnV10 s 0).2.2).2.2 ≠ 0 from h1), errE (show (([] : List ByteArray), (tnV10 s 0).2.1, (tnV10 s 0).2.2).2.2 ≠ 0 from h1), if_pos h1]
theorem read_prog11 (s : ByteArray) :
    readV11 s = if nxE11 s (nxN11 s (nxN11 s (nxL11 s (nxN11 s (nxN11 s 0 (if 65536 < s.size then 2 else 0)).2.1 (nxN11 s 0 (if 65536 < s.size then 2 else 0)).2.2).2.1 (nxN11 s (nxN11 s 0 (if 65536 < s.size then 2 else 0)).2.1 (nxN11 s 0 (if 65536 < s.size then 2 else 0)).2.2).2.2).2.1 (nxL11 s (nxN11 s (nxN11 s 0 (if 65536 < s.size then 2 else 0)).2.1 (nxN11 s 0 (if 65536 < s.size then 2 else 0)).2.2).2.1 (nxN11 s (nxN11 s 0 (if 65536 < s.size then 2 else 0)).2.1 (nxN11 s 0 (if 65536 < s.size then 2 else 0)).2.2).2.2).2.2).2.1 (nxN11 s (nxL11 s (nxN11 s (nxN11 s 0 (if 65536 < s.size then 2 else 0)).2.1 (nxN11 s 0 (if 65536 < s.size then 2 else 0)).2.2).2.1 (nxN11 s (nxN11 s 0 (if 65536 < s.size then 2 else 0)).2.1 (nxN11 s 0 (if 65536 < s.size then 2 else 0)).2.2).2.2).2.1 (nxL11 s (nxN11 s (nxN11 s 0 (if 65536 < s.size then 2 else 0)).2.1 (nxN11 s 0 (if 65536 < s.size then 2 else 0)).2.2).2.1 (nxN11 s (nxN11 s 0 (if 65536 < s.size then 2 else 0)).2.1 (nxN11 s 0 (if 65536 < s.size then 2 else 0)).2.2).2.2).2.2).2.2).2.1 (nxN11 s (nxN11 s (nxL11 s (nxN11 s (nxN11 s 0 (if 65536 < s.size then 2 else 0)).2.1 (nxN11 s 0 (if 65536 < s.size then 2 else 0)).2.2).2.1 (nxN11 s (nxN11 s 0 (if 65536 < s.size then 2 else 0)).2.1 (nxN11 s 0 (if 65536 < s.size then 2 else 0)).2.2).2.2).2.1 (nxL11 s (nxN11 s (nxN11 s 0 (if 65536 < s.size then 2 else 0)).2.1 (nxN11 s 0 (if 65536 < s.size then 2 else 0)).2.2).2.1 (nxN11 s (nxN11 s 0 (if 65536 < s.size then 2 else 0)).2.1 (nxN11 s 0 (if 65536 < s.size then 2 else 0)).2.2).2.2).2.2).2.1 (nxN11 s (nxL11 s (nxN11 s (nxN11 s 0 (if 65536 < s.size then 2 else 0)).2.1 (nxN11 s 0 (if 65536 < s.size then 2 else 0)).2.2).2.1 (nxN11 s (nxN11 s 0 (if 65536 < s.size then 2 else 0)).2.1 (nxN11 s 0 (if 65536 < s.size then 2 else 0)).2.2).2.2).2.1 (nxL11 s (nxN11 s (nxN11 s 0 (if 65536 < s.size then 2 else 0)).2.1 (nxN11 s 0 (if 65536 < s.size then 2 else 0)).2.2).2.1 (nxN11 s (nxN11 s 0 (if 65536 < s.size then 2 else 0)).2.1 (nxN11 s 0 (if 65536 < s.size then 2 else 0)).2.2).2.2).2.2).2.2).2.2 ≠ 0 then (zrsp11, nxE11 s (nxN11 s (nxN11 s (nxL11 s (nxN11 s (nxN11 s 0 (if 65536 < s.size then 2 else 0)).2.1 (nxN11 s 0 (if 65536 < s.size then 2 else 0)).2.2).2.1 (nxN11 s (nxN11 s 0 (if 65536 < s.size then 2 else 0)).2.1 (nxN11 s 0 (if 65536 < s.size then 2 else 0)).2.2).2.2).2.1 (nxL11 s (nxN11 s (nxN11 s 0 (if 65536 < s.size then 2 else 0)).2.1 (nxN11 s 0 (if 65536 < s.size then 2 else 0)).2.2).2.1 (nxN11 s (nxN11 s 0 (if 65536 < s.size then 2 else 0)).2.1 (nxN11 s 0 (if 65536 < s.size then 2 else 0)).2.2).2.2).2.2).2.1 (nxN11 s (nxL11 s (nxN11 s (nxN11 s 0 (if 65536 < s.size then 2 else 0)).2.1 (nxN11 s 0 (if 65536 < s.size then 2 else 0)).2.2).2.1 (nxN11 s (nxN11 s 0 (if 65536 < s.size then 2 else 0)).2.1 (nxN11 s 0 (if 65536 < s.size then 2 else 0)).2.2).2.2).2.1 (nxL11 s (nxN11 s (nxN11 s 0 (if 65536 < s.size then 2 else 0)).2.1 (nxN11 s 0 (if 65536 < s.size then 2 else 0)).2.2).2.1 (nxN11 s (nxN11 s 0 (if 65536 < s.size then 2 else 0)).2.1 (nxN11 s 0 (if 65536 < s.size then 2 else 0)).2.2).2.2).2.2).2.2).2.1 (nxN11 s (nxN11 s (nxL11 s (nxN11 s (nxN11 s 0 (if 65536 < s.size then 2 else 0)).2.1 (nxN11 s 0 (if 65536 < s.size then 2 else 0)).2.2).2.1 (nxN11 s (nxN11 s 0 (if 65536 < s.size then 2 else 0)).2.1 (nxN11 s 0 (if 65536 < s.size then 2 else 0)).2.2).2.2).2.1 (nxL11 s (nxN11 s (nxN11 s 0 (if 65536 < s.size then 2 else 0)).2.1 (nxN11 s 0 (if 65536 < s.size then 2 else 0)).2.2).2.1 (nxN11 s (nxN11 s 0 (if 65536 < s.size then 2 else 0)).2.1 (nxN11 s 0 (if 65536 < s.size then 2 else 0)).2.2).2.2).2.2).2.1 (nxN11 s (nxL11 s (nxN11 s (nxN11 s 0 (if 65536 < s.size then 2 else 0)).2.1 (nxN11 s 0 (if 65536 < s.size then 2 else 0)).2.2).2.1 (nxN11 s (nxN11 s 0 (if 65536 < s.size then 2 else 0)).2.1 (nxN11 s 0 (if 65536 < s.size then 2 else 0)).2.2).2.2).2.1 (nxL11 s (nxN11 s (nxN11 s 0 (if 65536 < s.size then 2 else 0)).2.1 (nxN11 s 0 (if 65536 < s.size then 2 else 0)).2.2).2.1 (nxN11 s (nxN11 s 0 (if 65536 < s.size then 2 else 0)).2.1 (nxN11 s 0 (if 65536 < s.size then 2 else 0)).2.2).2.2).2.2).2.2).2.2) else if may11 ⟨(nxN11 s 0 (if 65536 < s.size then 2 else 0)).1, (nxN11 s (nxN11 s 0 (if 65536 < s.size then 2 else 0)).2.1 (nxN11 s 0 (if 65536 < s.size then 2 else 0)).2.2).1, (nxL11 s (nxN11 s (nxN11 s 0 (if 65536 < s.size then 2 else 0)).2.1 (nxN11 s 0 (if 65536 < s.size then 2 else 0)).2.2).2.1 (nxN11 s (nxN11 s 0 (if 65536 < s.size then 2 else 0)).2.1 (nxN11 s 0 (if 65536 < s.size then 2 else 0)).2.2).2.2).1, (nxN11 s (nxL11 s (nxN11 s (nxN11 s 0 (if 65536 < s.size then 2 else 0)).2.1 (nxN11 s 0 (if 65536 < s.size then 2 else 0)).2.2).2.1 (nxN11 s (nxN11 s 0 (if 65536 < s.size then 2 else 0)).2.1 (nxN11 s 0 (if 65536 < s.size then 2 else 0)).2.2).2.2).2.1 (nxL11 s (nxN11 s (nxN11 s 0 (if 65536 < s.size then 2 else 0)).2.1 (nxN11 s 0 (if 65536 < s.size then 2 else 0)).2.2).2.1 (nxN11 s (nxN11 s 0 (if 65536 < s.size then 2 else 0)).2.1 (nxN11 s 0 (if 65536 < s.size then 2 else 0)).2.2).2.2).2.2).1, (nxN11 s (nxN11 s (nxL11 s (nxN11 s (nxN11 s 0 (if 65536 < s.size then 2 else 0)).2.1 (nxN11 s 0 (if 65536 < s.size then 2 else 0)).2.2).2.1 (nxN11 s (nxN11 s 0 (if 65536 < s.size then 2 else 0)).2.1 (nxN11 s 0 (if 65536 < s.size then 2 else 0)).2.2).2.2).2.1 (nxL11 s (nxN11 s (nxN11 s 0 (if 65536 < s.size then 2 else 0)).2.1 (nxN11 s 0 (if 65536 < s.size then 2 else 0)).2.2).2.1 (nxN11 s (nxN11 s 0 (if 65536 < s.size then 2 else 0)).2.1 (nxN11 s 0 (if 65536 < s.size then 2 else 0)).2.2).2.2).2.2).2.1 (nxN11 s (nxL11 s (nxN11 s (nxN11 s 0 (if 65536 < s.size then 2 else 0)).2.1 (nxN11 s 0 (if 65536 < s.size then 2 else 0)).2.2).2.1 (nxN11 s (nxN11 s 0 (if 65536 < s.size then 2 else 0)).2.1 (nxN11 s 0 (if 65536 < s.size then 2 else 0)).2.2).2.2).2.1 (nxL11 s (nxN11 s (nxN11 s 0 (if 65536 < s.size then 2 else 0)).2.1 (nxN11 s 0 (if 65536 < s.size then 2 else 0)).2.2).2.1 (nxN11 s (nxN11 s 0 (if 65536 < s.size then 2 else 0)).2.1 (nxN11 s 0 (if 65536 < s.size then 2 else 0)).2.2).2.2).2.2).2.2).1⟩ = true then (⟨(nxN11 s 0 (if 65536 < s.size then 2 else 0)).1, (nxN11 s (nxN11 s 0 (if 65536 < s.size then 2 else 0)).2.1 (nxN11 s 0 (if 65536 < s.size then 2 else 0)).2.2).1, (nxL11 s (nxN11 s (nxN11 s 0 (if 65536 < s.size then 2 else 0)).2.1 (nxN11 s 0 (if 65536 < s.size then 2 else 0)).2.2).2.1 (nxN11 s (nxN11 s 0 (if 65536 < s.size then 2 else 0)).2.1 (nxN11 s 0 (if 65536 < s.size then 2 else 0)).2.2).2.2).1, (nxN11 s (nxL11 s (nxN11 s (nxN11 s 0 (if 65536 < s.size then 2 else 0)).2.1 (nxN11 s 0 (if 65536 < s.size then 2 else 0)).2.2).2.1 (nxN11 s (nxN11 s 0 (if 65536 < s.size then 2 else 0)).2.1 (nxN11 s 0 (if 65536 < s.size then 2 else 0)).2.2).2.2).2.1 (nxL11 s (nxN11 s (nxN11 s 0 (if 65536 < s.size then 2 else 0)).2.1 (nxN11 s 0 (if 65536 < s.size then 2 else 0)).2.2).2.1 (nxN11 s (nxN11 s 0 (if 65536 < s.size then 2 else 0)).2.1 (nxN11 s 0 (if 65536 < s.size then 2 else 0)).2.2).2.2).2.2).1, (nxN11 s (nxN11 s (nxL11 s (nxN11 s (nxN11 s 0 (if 65536 < s.size then 2 else 0)).2.1 (nxN11 s 0 (if 65536 < s.size then 2 else 0)).2.2).2.1 (nxN11 s (nxN11 s 0 (if 65536 < s.size then 2 else 0)).2.1 (nxN11 s 0 (if 65536 < s.size then 2 else 0)).2.2).2.2).2.1 (nxL11 s (nxN11 s (nxN11 s 0 (if 65536 < s.size then 2 else 0)).2.1 (nxN11 s 0 (if 65536 < s.size then 2 else 0)).2.2).2.1 (nxN11 s (nxN11 s 0 (if 65536 < s.size then 2 else 0)).2.1 (nxN11 s 0 (if 65536 < s.size then 2 else 0)).2.2).2.2).2.2).2.1 (nxN11 s (nxL11 s (nxN11 s (nxN11 s 0 (if 65536 < s.size then 2 else 0)).2.1 (nxN11 s 0 (if 65536 < s.size then 2 else 0)).2.2).2.1 (nxN11 s (nxN11 s 0 (if 65536 < s.size then 2 else 0)).2.1 (nxN11 s 0 (if 65536 < s.size then 2 else 0)).2.2).2.2).2.1 (nxL11 s (nxN11 s (nxN11 s 0 (if 65536 < s.size then 2 else 0)).2.1 (nxN11 s 0 (if 65536 < s.size then 2 else 0)).2.2).2.1 (nxN11 s (nxN11 s 0 (if 65536 < s.size then 2 else 0)).2.1 (nxN11 s 0 (if 65536 < s.size then 2 else 0)).2.2).2.2).2.2).2.2).1⟩, 0) else (zrsp11, 13) := by
  have err : ∀ {B : ByteArray} {a e : Int}, e ≠ 0 → nxL11 B a e = ([], a, e) := fun h => if_neg h
  have errN : ∀ {B : ByteArray} {a e : Int}, e ≠ 0 → nxN11 B a e = (0, a, e) := fun h => if_neg h
  have errE : ∀ {B : ByteArray} {a e : Int}, e ≠ 0 → nxE11 B a e = e := fun h => if_neg h
  have okN : ∀ {B : ByteArray} {a e : Int}, e = 0 → nxN11 B a e = tnV10 B a := fun h => if_pos h
  have okL : ∀ {B : ByteArray} {a e : Int}, e = 0 → nxL11 B a e = tlV10 B a := fun h => if_pos h
  have okE : ∀ {B : ByteArray} {a e : Int}, e = 0 → nxE11 B a e = endV10 B a := fun h => if_pos h
  rw [readV11]
  by_cases h0 : 65536 < s.size
  · rw [if_pos h0, if_pos h0, errN (show (2 : Int) ≠ 0 by decide)]
    simp only [errN (show (2 : Int) ≠ 0 by decide), err (show (2 : Int) ≠ 0 by decide), errE (show (2 : Int) ≠ 0 by decide)]
    rw [if_pos (by decide)]
  · rw [if_neg h0, if_neg h0, okN rfl, show tnV10 s 0 = rk11 s from rfl]
    by_cases h1 : (rk11 s).2.2 = 0
    · rw [if_neg (by omega), okN h1, show tnV10 s (rk11 s).2.1 = rs11 s from rfl]
      by_cases h2 : (rs11 s).2.2 = 0
      · rw [if_neg (by omega), okL h2, show tlV10 s (rs11 s).2.1 = rc11 s from rfl]
        by_cases h3 : (rc11 s).2.2 = 0
        · rw [if_neg (by omega), okN h3, show tnV10 s (rc11 s).2.1 = rm11 s from rfl]
          by_cases h4 : (rm11 s).2.2 = 0
          · rw [if_neg (by omega), okN h4, show tnV10 s (rm11 s).2.1 = rr11 s from rfl]
            by_cases h5 : (rr11 s).2.2 = 0
            · rw [if_neg (by omega), okE h5, show (⟨(rk11 s).1, (rs11 s).1, (rc11 s).1, (rm11 s).1, (rr11 s).1⟩ : Rsp11) = rsp11 s from rfl]
              have h6 : endV10 s (rr11 s).2.1 = 0 ∨ endV10 s (rr11 s).2.1 = 13 := end_tn11 (a := (rm11 s).2.1) h5
              rcases h6 with h6 | h6
              · rw [h6, if_neg (show ¬ (0 : Int) ≠ 0 by decide)]
                cases hr : may11 (rsp11 s) with
                | true => rw [if_neg (by simp), if_pos rfl]
                | false => rw [if_pos (.inr rfl), if_neg (by decide)]
              · rw [h6, if_pos (.inl (by decide)), if_pos (by decide)]
            · rw [if_pos h5, errE h5, if_pos h5]
          · rw [if_pos h4, errN h4]
            simp only [errE h4]
            rw [if_pos h4]
        · rw [if_pos h3, errN h3]
          simp only [errN h3, errE h3]
          rw [if_pos h3]
      · rw [if_pos h2, err h2]
        simp only [errN h2, errE h2]
        rw [if_pos h2]
    · rw [if_pos h1, errN h1]
      simp only [errN h1, err h1, errE h1]
      rw [if_pos h1]
end Go.Proofs.Ytapfbcpbiagogaa
