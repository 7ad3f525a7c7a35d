/-
  Layer 10, plain: what is taken out of the rest of some bytes is what is taken out of all of them, further on; what an iterator over texts tells. Nothing of the program stands here.
-/
import Derived.Test.YtapfbcpbiagogaaCodQ
namespace Go.Proofs.Ytapfbcpbiagogaa
open Go.RowKit

theorem ex_sh10 {B : ByteArray} {x p q : Nat} (h1 : x + q ≤ B.size) : (B.extract x B.size).extract p q = B.extract (x + p) (x + q) := by
  have e0 := ex_size10 (s := B) (a := x) (b := B.size) (Nat.le_refl _)
  refine eq_bt10 (by rw [ex_size10 (by omega), ex_size10 h1]; omega) fun j hj => ?_
  rw [ex_size10 (by omega)] at hj
  rw [bt_ex10 _ hj (by omega), bt_ex10 B (by omega) (Nat.le_refl _), bt_ex10 B (by omega) h1]
  congr 1
  omega
section
variable {B : ByteArray} {x : Nat} (hx : x ≤ B.size) (hB : B.size ≤ 65536)
include hx hB
theorem tn_sh10 {a : Int} (ha : 0 ≤ a) : tnV10 (B.extract x B.size) a = ((tnV10 B ((x : Int) + a)).1, (tnV10 B ((x : Int) + a)).2.1 - x, (tnV10 B ((x : Int) + a)).2.2) := by
  have e0 := ex_size10 (s := B) (a := x) (b := B.size) (Nat.le_refl _)
  have hr : rightV (B.extract x B.size) a = rightV B ((x : Int) + a) := by
    rw [Bool.eq_iff_iff, rightV_iff, rightV_iff]; omega
  unfold tnV10
  rw [hr]
  by_cases h : rightV B ((x : Int) + a) = true
  · have h2 := rightV_iff.1 h
    rw [if_pos h, if_pos h]
    by_cases h4 : (B.size : Int) - ((x : Int) + a) < 4
    · rw [if_pos (by omega), if_pos h4]
      refine Prod.ext rfl (Prod.ext ?_ rfl)
      show a = (x : Int) + a - x
      omega
    · rw [if_neg (by omega), if_neg h4]
      have hrd : rd10 (B.extract x B.size) a.toNat = rd10 B ((x : Int) + a).toNat := by
        have ee : ∀ k, k < 4 → bt7 (B.extract x B.size) (a.toNat + k) = bt7 B (((x : Int) + a).toNat + k) := fun k hk => by
          rw [bt_ex10 B (by omega) (Nat.le_refl _)]
          congr 1
          omega
        rw [rd10, rd10, ee 1 (by omega), ee 2 (by omega), ee 3 (by omega), show bt7 (B.extract x B.size) a.toNat = bt7 B ((x : Int) + a).toNat from ee 0 (by omega)]
      rw [hrd]
      by_cases h5 : 2147483647 < (rd10 B ((x : Int) + a).toNat : Int)
      · simp only [if_pos h5]
        refine Prod.ext rfl (Prod.ext ?_ rfl)
        show a = (x : Int) + a - x
        omega
      · simp only [if_neg h5]
        refine Prod.ext rfl (Prod.ext ?_ rfl)
        show a + 4 = (x : Int) + a + 4 - x
        omega
  · rw [if_neg h, if_neg h]
    refine Prod.ext rfl (Prod.ext ?_ rfl)
    show a = (x : Int) + a - x
    omega
theorem tt_sh10 {a : Int} (ha : 0 ≤ a) : ttV10 (B.extract x B.size) a = ((ttV10 B ((x : Int) + a)).1, (ttV10 B ((x : Int) + a)).2.1 - x, (ttV10 B ((x : Int) + a)).2.2) := by
  have e0 := ex_size10 (s := B) (a := x) (b := B.size) (Nat.le_refl _)
  have hn := tn_sh10 hx hB ha
  by_cases h0 : (tnV10 B ((x : Int) + a)).2.2 = 0
  · obtain ⟨hN, hb⟩ := tn_ok10 h0
    have hq : tnV10 B ((x : Int) + a) = ((tnV10 B ((x : Int) + a)).1, (x : Int) + a + 4, 0) := Prod.ext rfl (Prod.ext hb h0)
    have h1 := hN.right
    have h2 := hN.bd
    rw [hb, h0, show (x : Int) + a + 4 - x = a + 4 by omega] at hn
    generalize (tnV10 B ((x : Int) + a)).1 = n at *
    by_cases hs : (x : Int) + a + 4 + n ≤ (B.size : Int)
    · rw [tt_of10 hn (by omega), tt_of10 hq hs]
      refine Prod.ext ?_ (Prod.ext ?_ rfl)
      · show (B.extract x B.size).extract (a + 4).toNat (a + 4 + n).toNat = B.extract ((x : Int) + a + 4).toNat ((x : Int) + a + 4 + n).toNat
        rw [ex_sh10 (by omega), show x + (a + 4).toNat = ((x : Int) + a + 4).toNat by omega, show x + (a + 4 + n).toNat = ((x : Int) + a + 4 + n).toNat by omega]
      · show a + 4 + n = (x : Int) + a + 4 + n - x
        omega
    · rw [tt_short10 hn (by omega), tt_short10 hq (by omega)]
      refine Prod.ext rfl (Prod.ext ?_ rfl)
      show a = (x : Int) + a - x
      omega
  · rw [tt_num10 h0, tt_num10 (by rw [hn]; exact h0), hn]
    refine Prod.ext rfl (Prod.ext ?_ rfl)
    show a = (x : Int) + a - x
    omega
theorem tks_sh10 {a : Int} (ha : 0 ≤ a) (ha2 : (x : Int) + a ≤ (B.size : Int)) : ∀ k, tks10 (B.extract x B.size) k a = ((tks10 B k ((x : Int) + a)).1, (tks10 B k ((x : Int) + a)).2.1 - x, (tks10 B k ((x : Int) + a)).2.2)
  | 0 => by
    refine Prod.ext rfl (Prod.ext ?_ rfl)
    show a = (x : Int) + a - x
    omega
  | k + 1 => by
    have ih := tks_sh10 ha ha2 k
    by_cases h0 : (tks10 B k ((x : Int) + a)).2.2 = 0
    · have hT := tks_ok10 (a := (x : Int) + a) (by omega) ha2 k h0
      have h3 := hT.ahead
      have ht := tt_sh10 hx hB (a := (tks10 B k ((x : Int) + a)).2.1 - x) (by omega)
      rw [show (x : Int) + ((tks10 B k ((x : Int) + a)).2.1 - x) = (tks10 B k ((x : Int) + a)).2.1 by omega] at ht
      rw [tks10, tks10, if_pos h0, if_pos (by rw [ih]; exact h0), ih]
      show (if (ttV10 _ ((tks10 B k ((x : Int) + a)).2.1 - x)).2.2 = 0 then ((tks10 B k ((x : Int) + a)).1 ++ [(ttV10 _ ((tks10 B k ((x : Int) + a)).2.1 - x)).1], (ttV10 _ ((tks10 B k ((x : Int) + a)).2.1 - x)).2.1, 0) else ((tks10 B k ((x : Int) + a)).1, (tks10 B k ((x : Int) + a)).2.1 - x, (ttV10 _ ((tks10 B k ((x : Int) + a)).2.1 - x)).2.2)) = _
      rw [ht]
      show (if (ttV10 B (tks10 B k ((x : Int) + a)).2.1).2.2 = 0 then _ else _) = _
      by_cases h1 : (ttV10 B (tks10 B k ((x : Int) + a)).2.1).2.2 = 0
      · rw [if_pos h1, if_pos h1]
      · rw [if_neg h1, if_neg h1]
    · rw [tks10, tks10, if_neg h0, if_neg (by rw [ih]; exact h0), ih]
theorem tl_sh10 : tlV10 (B.extract x B.size) 0 = ((tlV10 B (x : Int)).1, (tlV10 B (x : Int)).2.1 - x, (tlV10 B (x : Int)).2.2) := by
  have hn := tn_sh10 hx hB (a := 0) (Int.le_refl _)
  rw [Int.add_zero] at hn
  by_cases h0 : (tnV10 B (x : Int)).2.2 = 0
  · obtain ⟨hN, hb⟩ := tn_ok10 h0
    have h1 := hN.right
    have h2 := hN.bd
    have hs := tks_sh10 hx hB (a := 4) (by omega) h1.2.2 (tnV10 B (x : Int)).1.toNat
    rw [tlV10, tlV10, if_pos h0, if_pos (by rw [hn]; exact h0), hn]
    show (if 1000 < (tnV10 B (x : Int)).1 then _ else if (tks10 _ (tnV10 B (x : Int)).1.toNat (0 + 4)).2.2 = 0 then tks10 _ (tnV10 B (x : Int)).1.toNat (0 + 4) else ([], 0, (tks10 _ (tnV10 B (x : Int)).1.toNat (0 + 4)).2.2)) = _
    rw [Int.zero_add, hs]
    show (if 1000 < (tnV10 B (x : Int)).1 then _ else if (tks10 B (tnV10 B (x : Int)).1.toNat ((x : Int) + 4)).2.2 = 0 then _ else ([], 0, (tks10 B (tnV10 B (x : Int)).1.toNat ((x : Int) + 4)).2.2)) = _
    split
    · refine Prod.ext rfl (Prod.ext ?_ rfl)
      show (0 : Int) = x - x
      omega
    · split
      · rfl
      · refine Prod.ext rfl (Prod.ext ?_ rfl)
        show (0 : Int) = x - x
        omega
  · rw [tlV10, tlV10, if_neg h0, if_neg (by rw [hn]; exact h0), hn]
    refine Prod.ext rfl (Prod.ext ?_ rfl)
    show (0 : Int) = x - x
    omega
end
/-! ### What an iterator over texts tells -/
/-- the k-th text's place. -/
def pl10 (B : ByteArray) (k : Nat) : Int := (tks10 B k 0).2.1
def no10 (B : ByteArray) (k : Nat) : Int := (tks10 B k 0).2.2
def it10 (B : ByteArray) (k : Nat) : ByteArray × Int := ((ttV10 B (pl10 B k)).1, (ttV10 B (pl10 B k)).2.2)
/-- what is told: texts, and one error at most, the last one. -/
def tld10 (B : ByteArray) : Nat → List (ByteArray × Int)
  | 0 => []
  | k + 1 => if no10 B k = 0 then tld10 B k ++ [it10 B k] else tld10 B k
section
variable {B : ByteArray}
theorem tks_step10 {k : Nat} {a : Int} (h : (tks10 B k a).2.2 = 0) : tks10 B (k + 1) a = if (ttV10 B (tks10 B k a).2.1).2.2 = 0 then ((tks10 B k a).1 ++ [(ttV10 B (tks10 B k a).2.1).1], (ttV10 B (tks10 B k a).2.1).2.1, 0) else ((tks10 B k a).1, (tks10 B k a).2.1, (ttV10 B (tks10 B k a).2.1).2.2) := by rw [tks10, if_pos h]
theorem tks_stay10 {k : Nat} {a : Int} (h : (tks10 B k a).2.2 ≠ 0) : ∀ m, tks10 B (k + m) a = tks10 B k a
  | 0 => rfl
  | m + 1 => by
    have ih := tks_stay10 h m
    show tks10 B ((k + m) + 1) a = _
    rw [tks10, ih, if_neg h]
theorem no_step10 {k : Nat} (h : no10 B k = 0) : no10 B (k + 1) = (it10 B k).2 := by
  unfold no10 it10 pl10
  rw [tks_step10 h]
  split
  · rename_i h1; exact h1.symm
  · rfl
theorem pl_step10 {k : Nat} (h : no10 B k = 0) (h1 : (it10 B k).2 = 0) : pl10 B (k + 1) = (ttV10 B (pl10 B k)).2.1 := by
  unfold no10 at h
  unfold pl10
  unfold it10 pl10 at h1
  rw [tks_step10 h, if_pos h1]
theorem tk_step10 {k : Nat} (h : no10 B k = 0) (h1 : (it10 B k).2 = 0) : (tks10 B (k + 1) 0).1 = (tks10 B k 0).1 ++ [(it10 B k).1] := by
  unfold no10 at h
  unfold it10 pl10 at h1 ⊢
  rw [tks_step10 h, if_pos h1]
theorem no_stay10 {k m : Nat} (h : no10 B k ≠ 0) (hm : k ≤ m) : no10 B m = no10 B k := by
  obtain ⟨d, rfl⟩ := Nat.exists_eq_add_of_le hm
  unfold no10 at h ⊢
  rw [tks_stay10 h]
theorem no_zero10 : no10 B 0 = 0 := rfl
theorem pl_zero10 : pl10 B 0 = 0 := rfl
theorem no_upto10 {k m : Nat} (h : no10 B m = 0) (hk : k ≤ m) : no10 B k = 0 := by
  by_cases h1 : no10 B k = 0
  · exact h1
  · exact absurd ((no_stay10 h1 hk).symm.trans h) h1
theorem tld_len10 : ∀ {k : Nat}, no10 B k = 0 → (tld10 B k).length = k
  | 0, _ => rfl
  | k + 1, h => by
    have h0 := no_upto10 h (Nat.le_succ k)
    rw [tld10, if_pos h0, List.length_append, tld_len10 h0]; rfl
theorem tld_le10 : ∀ N, (tld10 B N).length ≤ N
  | 0 => Nat.le_refl _
  | k + 1 => by
    have := tld_le10 k
    rw [tld10]
    split
    · rw [List.length_append]; simp; omega
    · omega
theorem tld_at10 {k : Nat} (h : no10 B k = 0) : ∀ {N : Nat}, k < N → (tld10 B N)[k]? = some (it10 B k)
  | 0, hk => by omega
  | N + 1, hk => by
    by_cases h1 : k = N
    · subst h1
      rw [tld10, if_pos h, List.getElem?_append_right (by rw [tld_len10 h]; omega), tld_len10 h, Nat.sub_self]
      rfl
    · have ih := tld_at10 h (N := N) (by omega)
      rw [tld10]
      split
      · rw [List.getElem?_append_left (List.getElem?_eq_some_iff.1 ih).1]
        exact ih
      · exact ih
/-- an error is the last thing told. -/
theorem tld_end10 {k : Nat} (h : no10 B k = 0) (h1 : (it10 B k).2 ≠ 0) : ∀ {N : Nat}, k < N → (tld10 B N).length = k + 1
  | 0, hk => by omega
  | N + 1, hk => by
    by_cases h2 : k = N
    · subst h2
      rw [tld10, if_pos h, List.length_append, tld_len10 h]; rfl
    · have h3 : no10 B (k + 1) ≠ 0 := by rw [no_step10 h]; exact h1
      have h4 : no10 B N ≠ 0 := by rw [no_stay10 h3 (by omega)]; exact h3
      rw [tld10, if_neg h4]
      exact tld_end10 h h1 (by omega)
/-- no error: all of them are told. -/
theorem tld_all10 {N m : Nat} (hm : m = (tld10 B N).length) (h : no10 B m = 0) : m = N := by
  have h1 := tld_le10 (B := B) N
  by_cases h2 : m = N
  · exact h2
  · have h3 := (List.getElem?_eq_some_iff.1 (tld_at10 h (N := N) (by omega))).1
    omega
end
end Go.Proofs.Ytapfbcpbiagogaa
