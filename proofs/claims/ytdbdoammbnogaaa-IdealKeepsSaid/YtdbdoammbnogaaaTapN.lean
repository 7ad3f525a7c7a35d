/-
  Contracts of tape.Number, and of the document's own. No conditions.
-/
import Derived.Test.YtdbdoammbnogaaaTapA
namespace Go.Proofs.Ytdbdoammbnogaaa
open Go.RowKit Go.Shelf


theorem turn_less (B : ByteArray) (a : Int) (j x : Nat) (hr : rightV B a = true) (hx : x < 1000) (hj : a + 2 * (j : Int) ≤ (B.size : Int)) (hm : (B.size : Int) - (a + 2 * (j : Int)) < 2) :
    numR B (a + 2 * (j : Int)) ((x : Int) + 1) = .tuple #[.int .i64 0, .agg #[.string B, .int .i64 (a + 2 * (j : Int))], .int .i64 12] := by
  obtain ⟨h1, h2, h3⟩ := rightV_iff.1 hr
  have hr2 : rightV B (a + 2 * (j : Int)) = true := rightV_iff.2 ⟨h1, by omega, hj⟩
  have hE : numE B (a + 2 * (j : Int)) ((x : Int) + 1) = 12 := by
    rw [numE, hr2, leftV, if_pos hr2, if_pos hm]
    have e1 : (1 : Int) ≤ (x : Int) + 1 := by omega
    have e2 : (x : Int) + 1 ≤ 65536 := by omega
    simp [e2]
    omega
  rw [numR, numV, numA, hE]
  rfl
theorem turn_more (B : ByteArray) (a : Int) (j x : Nat) (hr : rightV B a = true) (hx : x < 1000) (hj : a + 2 * (j : Int) ≤ (B.size : Int)) (hm : ¬ (B.size : Int) - (a + 2 * (j : Int)) < 2) :
    numR B (a + 2 * (j : Int)) ((x : Int) + 1) = .tuple #[.int .i64 ((twoN B (a.toNat + 2 * j) % (x + 1) : Nat) : Int), .agg #[.string B, .int .i64 (a + 2 * ((j + 1 : Nat) : Int))], .int .i64 0] := by
  obtain ⟨h1, h2, h3⟩ := rightV_iff.1 hr
  have hr2 : rightV B (a + 2 * (j : Int)) = true := rightV_iff.2 ⟨h1, by omega, hj⟩
  have hE : numE B (a + 2 * (j : Int)) ((x : Int) + 1) = 0 := by
    rw [numE, hr2, leftV, if_pos hr2, if_neg hm]
    have e1 : (1 : Int) ≤ (x : Int) + 1 := by omega
    have e2 : (x : Int) + 1 ≤ 65536 := by omega
    simp [e2]
    omega
  rw [numR, numV, numA, hE, if_pos rfl, if_pos rfl, show (a + 2 * (j : Int)).toNat = a.toNat + 2 * j by omega, show a + 2 * (j : Int) + 2 = a + 2 * ((j + 1 : Nat) : Int) by omega]
  rfl
end Go.Proofs.Ytdbdoammbnogaaa
