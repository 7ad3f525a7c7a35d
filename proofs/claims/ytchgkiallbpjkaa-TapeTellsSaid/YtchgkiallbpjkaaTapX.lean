/-
  Layer 7: what is taken where there is enough; what the laws share.
-/
import Derived.Test.YtchgkiallbpjkaaTapW
namespace Go.Proofs.Ytchgkiallbpjkaa
open Go.RowKit Go.Shelf

theorem right_on {B : ByteArray} {a n : Int} (h : rightV B a = true) (hn : 0 ≤ n) (hl : a + n ≤ (B.size : Int)) : rightV B (a + n) = true := by
  obtain ⟨h1, h2, h3⟩ := rightV_iff.1 h
  exact rightV_iff.2 ⟨h1, by omega, hl⟩
theorem take_fine {B : ByteArray} {a n : Int} (h : rightV B a = true) (hn : 0 ≤ n) (hl : a + n ≤ (B.size : Int)) :
    takeR B a n = .tuple #[.string (B.extract a.toNat (a + n).toNat), .agg #[.string B, .int .i64 (a + n)], .int .i64 0] := by
  have hE : takeE B a n = 0 := by rw [takeE, h, if_pos (by simp [hn]), leftV, if_pos h, if_neg (by omega)]
  rw [takeR, takeS, takeA, hE]
  rfl
theorem take_less {B : ByteArray} {a n : Int} (h : rightV B a = true) (hn : 0 ≤ n) (hl : (B.size : Int) < a + n) :
    takeR B a n = .tuple #[.string ⟨#[]⟩, .agg #[.string B, .int .i64 a], .int .i64 12] := by
  have hE : takeE B a n = 12 := by rw [takeE, h, if_pos (by simp [hn]), leftV, if_pos h, if_pos (by omega)]
  rw [takeR, takeS, takeA, hE]
  rfl
theorem take_cat (B : ByteArray) {a b c : Int} (h0 : 0 ≤ a) (h1 : a ≤ b) (h2 : b ≤ c) : B.extract a.toNat b.toNat ++ B.extract b.toNat c.toNat = B.extract a.toNat c.toNat := by
  rw [ByteArray.extract_append_extract]
  congr 1 <;> omega
theorem take_front (B E : ByteArray) {a c : Int} (h0 : 0 ≤ a) (h1 : c ≤ (B.size : Int)) : (B ++ E).extract a.toNat c.toNat = B.extract a.toNat c.toNat := by
  rw [ByteArray.extract_append, show (E.extract (a.toNat - B.size) (c.toNat - B.size)) = ByteArray.empty by rw [ByteArray.extract_eq_empty_iff]; omega, ByteArray.append_empty]
end Go.Proofs.Ytchgkiallbpjkaa
