/-
  Layer 10, plain: what was written is taken, whatever stands ahead and behind; with a byte less it is not; the order of numbers' bytes. Nothing of the program stands here.
-/
import Derived.Test.YtapfbcpbiagogaaCodP
namespace Go.Proofs.Ytapfbcpbiagogaa
open Go.RowKit

theorem tn_app10 (X Y : ByteArray) {n : Int} (hn : 0 ≤ n ∧ n ≤ 2147483647) (hz : (X ++ num10 n ++ Y).size ≤ 65536) : tnV10 (X ++ num10 n ++ Y) (X.size : Int) = (n, (X.size : Int) + 4, 0) := by
  have hs := num_size10 n
  refine tn_of10 hz (by omega) (by rw [ByteArray.size_append, ByteArray.size_append]; omega) ?_ hn.2
  rw [show ((X.size : Int)).toNat = X.size by omega]
  exact rd_num10 X Y hn.1 (by omega)
theorem tt_app10 (X s Y : ByteArray) (hz : (X ++ txt10 s ++ Y).size ≤ 65536) : ttV10 (X ++ txt10 s ++ Y) (X.size : Int) = (s, (X.size : Int) + 4 + (s.size : Int), 0) := by
  have hs := num_size10 (s.size : Int)
  have e1 : X ++ txt10 s ++ Y = X ++ num10 (s.size : Int) ++ (s ++ Y) := by rw [txt10]; simp only [ByteArray.append_assoc]
  have e2 : X ++ txt10 s ++ Y = (X ++ num10 (s.size : Int)) ++ s ++ Y := by rw [txt10]; simp only [ByteArray.append_assoc]
  have hz2 := hz
  rw [ByteArray.size_append, ByteArray.size_append, txt_size10] at hz2
  have hn : tnV10 (X ++ txt10 s ++ Y) (X.size : Int) = ((s.size : Int), (X.size : Int) + 4, 0) := by
    rw [e1]
    refine tn_app10 X (s ++ Y) (by omega) ?_
    rw [← e1]
    exact hz
  rw [tt_of10 hn (by rw [ByteArray.size_append, ByteArray.size_append, txt_size10]; omega)]
  have e3 : ((X.size : Int) + 4).toNat = (X ++ num10 (s.size : Int)).size := by rw [ByteArray.size_append, hs]; omega
  have e4 : ((X.size : Int) + 4 + (s.size : Int)).toNat = (X ++ num10 (s.size : Int)).size + s.size := by rw [ByteArray.size_append, hs]; omega
  rw [e3, e4]
  refine Prod.ext ?_ rfl
  show (X ++ txt10 s ++ Y).extract _ _ = s
  rw [e2]
  exact ex_mid10 _ _ _
theorem tks_app10 (X Y : ByteArray) : ∀ (r l : List ByteArray), (X ++ cat10 (l ++ r) ++ Y).size ≤ 65536 → tks10 (X ++ cat10 (l ++ r) ++ Y) l.length (X.size : Int) = (l, (X.size : Int) + ((cat10 l).size : Int), 0) →
    tks10 (X ++ cat10 (l ++ r) ++ Y) (l ++ r).length (X.size : Int) = (l ++ r, (X.size : Int) + ((cat10 (l ++ r)).size : Int), 0)
  | [], l, _, h => by rw [List.append_nil] at h ⊢; exact h
  | s :: r, l, hz, h => by
    have e : l ++ s :: r = (l ++ [s]) ++ r := by simp
    rw [e] at hz h ⊢
    refine tks_app10 X Y r (l ++ [s]) hz ?_
    have e2 : X ++ cat10 ((l ++ [s]) ++ r) ++ Y = (X ++ cat10 l) ++ txt10 s ++ (cat10 r ++ Y) := by rw [cat_app10, cat_snoc10]; simp only [ByteArray.append_assoc]
    have ht := tt_app10 (X ++ cat10 l) s (cat10 r ++ Y) (by rw [← e2]; exact hz)
    rw [← e2] at ht
    have e3 : (((X ++ cat10 l).size : Nat) : Int) = (X.size : Int) + ((cat10 l).size : Int) := by rw [ByteArray.size_append]; omega
    rw [e3] at ht
    have hl : (l ++ [s]).length = l.length + 1 := by simp
    rw [hl, tks10, h]
    show (if (0 : Int) = 0 then _ else _) = _
    rw [if_pos rfl]
    show (if (ttV10 _ ((X.size : Int) + ((cat10 l).size : Int))).2.2 = 0 then _ else _) = _
    rw [ht]
    show (if (0 : Int) = 0 then _ else _) = _
    rw [if_pos rfl]
    refine Prod.ext rfl (Prod.ext ?_ rfl)
    show (X.size : Int) + ((cat10 l).size : Int) + 4 + (s.size : Int) = (X.size : Int) + ((cat10 (l ++ [s])).size : Int)
    rw [cat_snoc10, ByteArray.size_append, txt_size10]
    omega
theorem tl_app10 (X : ByteArray) (l : List ByteArray) (Y : ByteArray) (hl : l.length ≤ 1000) (hz : (X ++ lst10 l ++ Y).size ≤ 65536) : tlV10 (X ++ lst10 l ++ Y) (X.size : Int) = (l, (X.size : Int) + ((lst10 l).size : Int), 0) := by
  have hs := num_size10 (l.length : Int)
  have e1 : X ++ lst10 l ++ Y = X ++ num10 (l.length : Int) ++ (cat10 l ++ Y) := by rw [lst10]; simp only [ByteArray.append_assoc]
  have e2 : X ++ lst10 l ++ Y = (X ++ num10 (l.length : Int)) ++ cat10 ([] ++ l) ++ Y := by rw [lst10]; simp only [ByteArray.append_assoc, List.nil_append]
  have hn : tnV10 (X ++ lst10 l ++ Y) (X.size : Int) = ((l.length : Int), (X.size : Int) + 4, 0) := by
    rw [e1]
    refine tn_app10 X (cat10 l ++ Y) (by omega) ?_
    rw [← e1]
    exact hz
  have e3 : (((X ++ num10 (l.length : Int)).size : Nat) : Int) = (X.size : Int) + 4 := by rw [ByteArray.size_append, hs]; omega
  have ht := tks_app10 (X ++ num10 (l.length : Int)) Y l [] (by rw [← e2]; exact hz) (by rw [e3]; show (([] : List ByteArray), (X.size : Int) + 4, (0 : Int)) = ([], (X.size : Int) + 4 + ((0 : Nat) : Int), 0); simp)
  rw [← e2, e3, List.nil_append] at ht
  rw [tlV10, hn]
  show (if (0 : Int) = 0 then _ else _) = _
  rw [if_pos rfl]
  show (if 1000 < (l.length : Int) then _ else _) = _
  rw [if_neg (by omega)]
  show (if (tks10 _ ((l.length : Int)).toNat ((X.size : Int) + 4)).2.2 = 0 then _ else _) = _
  rw [show ((l.length : Int)).toNat = l.length by omega, ht]
  show (if (0 : Int) = 0 then _ else _) = _
  rw [if_pos rfl, lst_size10]
  refine Prod.ext rfl (Prod.ext ?_ rfl)
  show (X.size : Int) + 4 + ((cat10 l).size : Int) = (X.size : Int) + ((4 + (cat10 l).size : Nat) : Int)
  omega
/-! ### With fewer bytes -/
section
variable {B : ByteArray} {a b : Int} {m : Nat} (hm : m ≤ B.size)
include hm
theorem rd_cut10 {j : Nat} (h : j + 4 ≤ m) : rd10 (B.extract 0 m) j = rd10 B j := by
  have e : ∀ k, k < 4 → bt7 (B.extract 0 m) (j + k) = bt7 B (j + k) := fun k hk => by rw [bt_ex10 B (by omega) hm, Nat.zero_add]
  rw [rd10, rd10, e 1 (by omega), e 2 (by omega), e 3 (by omega), show bt7 (B.extract 0 m) j = bt7 B j from e 0 (by omega)]
theorem tn_cut10 {n : Int} (h : tnV10 B a = (n, a + 4, 0)) (h4 : a + 4 ≤ (m : Int)) : tnV10 (B.extract 0 m) a = (n, a + 4, 0) := by
  have hN := (tn_ok10 (by rw [h])).1
  rw [h] at hN
  have h1 := hN.right
  have h2 := hN.bd
  have h3 : n = (rd10 B a.toNat : Int) := hN.val
  have e := ex_size10 (a := 0) hm
  exact tn_of10 (by omega) h1.2.1 (by omega) (by rw [rd_cut10 hm (by omega)]; exact h3.symm) h2.2
theorem tn_cut_no10 (hB : B.size ≤ 65536) (ha : 0 ≤ a) (h1 : a ≤ (m : Int)) (h4 : (m : Int) < a + 4) : tnV10 (B.extract 0 m) a = (0, a, 10) := by
  have e := ex_size10 (a := 0) hm
  rw [tnV10, if_pos (rightV_iff.2 ⟨by omega, ha, by omega⟩), if_pos (by omega)]
theorem tt_cut10 {s : ByteArray} (h : Tt10 B a s b) (h4 : b ≤ (m : Int)) : ttV10 (B.extract 0 m) a = (s, b, 0) := by
  have h1 := h.right
  have h2 := h.to
  have e := ex_size10 (a := 0) hm
  rw [tt_of10 (tn_cut10 hm h.num (by omega)) (by omega), ← h2]
  refine Prod.ext ?_ rfl
  show (B.extract 0 m).extract (a + 4).toNat b.toNat = s
  rw [ex_ex10 (by omega) hm, ← h.text]
theorem tt_cut_no10 {s : ByteArray} (h : Tt10 B a s b) (h3 : a ≤ (m : Int)) (h4 : (m : Int) < b) : ttV10 (B.extract 0 m) a = (⟨#[]⟩, a, 10) := by
  have h1 := h.right
  have h2 := h.to
  have e := ex_size10 (a := 0) hm
  by_cases hc : a + 4 ≤ (m : Int)
  · exact tt_short10 (tn_cut10 hm h.num hc) (by omega)
  · have hn := tn_cut_no10 hm h1.1 h1.2.1 h3 (by omega)
    rw [tt_num10 (by rw [hn]; show (10 : Int) ≠ 0; decide), hn]
theorem tks_cut10 (ha : 0 ≤ a) (hB : a ≤ (B.size : Int)) : ∀ (k : Nat), (tks10 B k a).2.2 = 0 →
    ((tks10 B k a).2.1 ≤ (m : Int) → tks10 (B.extract 0 m) k a = tks10 B k a) ∧ (a ≤ (m : Int) → (m : Int) < (tks10 B k a).2.1 → (tks10 (B.extract 0 m) k a).2.2 = 10)
  | 0, _ => ⟨fun _ => rfl, fun h1 h2 => absurd (show (m : Int) < a from h2) (by omega)⟩
  | k + 1, h => by
    have hk : (tks10 B k a).2.2 = 0 := tks_upto10 h (Nat.le_succ k)
    obtain ⟨ih1, ih2⟩ := tks_cut10 ha hB k hk
    have hT := tks_ok10 ha hB k hk
    have hr : tks10 B (k + 1) a = if (ttV10 B (tks10 B k a).2.1).2.2 = 0 then ((tks10 B k a).1 ++ [(ttV10 B (tks10 B k a).2.1).1], (ttV10 B (tks10 B k a).2.1).2.1, 0) else ((tks10 B k a).1, (tks10 B k a).2.1, (ttV10 B (tks10 B k a).2.1).2.2) := by rw [tks10, if_pos hk]
    have ht : (ttV10 B (tks10 B k a).2.1).2.2 = 0 := by
      by_cases ht : (ttV10 B (tks10 B k a).2.1).2.2 = 0
      · exact ht
      · rw [hr, if_neg ht] at h
        exact absurd h ht
    have hX := tt_ok10 ht
    rw [hr, if_pos ht]
    have hp := hX.to
    have hc : tks10 (B.extract 0 m) (k + 1) a = if (tks10 (B.extract 0 m) k a).2.2 = 0 then (if (ttV10 (B.extract 0 m) (tks10 (B.extract 0 m) k a).2.1).2.2 = 0 then ((tks10 (B.extract 0 m) k a).1 ++ [(ttV10 (B.extract 0 m) (tks10 (B.extract 0 m) k a).2.1).1], (ttV10 (B.extract 0 m) (tks10 (B.extract 0 m) k a).2.1).2.1, 0) else ((tks10 (B.extract 0 m) k a).1, (tks10 (B.extract 0 m) k a).2.1, (ttV10 (B.extract 0 m) (tks10 (B.extract 0 m) k a).2.1).2.2)) else tks10 (B.extract 0 m) k a := by rw [tks10]
    refine ⟨fun h1 => ?_, fun h1 h2 => ?_⟩
    · have h1' : (ttV10 B (tks10 B k a).2.1).2.1 ≤ (m : Int) := h1
      have e := ih1 (by omega)
      rw [hc, e, if_pos hk, tt_cut10 hm hX h1', if_pos rfl]
    · have h2' : (m : Int) < (ttV10 B (tks10 B k a).2.1).2.1 := h2
      by_cases hq : (tks10 B k a).2.1 ≤ (m : Int)
      · rw [hc, ih1 hq, if_pos hk, tt_cut_no10 hm hX hq h2', if_neg (show ¬ (10 : Int) = 0 by decide)]
      · have e := ih2 h1 (by omega)
        rw [hc, e, if_neg (by decide), e]
end
/-- a list, taken from the first byte on; with one byte less it is not there. -/
theorem tl_cut10 {B : ByteArray} {l : List ByteArray} {b : Int} (h : Tl10 B 0 l b) : tlV10 (B.extract 0 (b - 1).toNat) 0 = ([], 0, 10) := by
  have h1 := h.right
  have h2 := h.ahead
  have hm : (b - 1).toNat ≤ B.size := by omega
  have hnum := h.num
  by_cases h5 : b = 4
  · have hn := tn_cut_no10 (a := 0) hm h1.1 (by omega) (by omega) (by omega)
    rw [tlV10, if_neg (by rw [hn]; decide), hn]
  · have hn := tn_cut10 hm hnum (by have := h.ahead; omega)
    have ht := h.texts
    have hc := (tks_cut10 hm (a := 0 + 4) (by omega) (by omega) l.length (by rw [ht])).2 (by omega) (by rw [ht]; show _ < b; omega)
    have hf := h.few
    rw [tlV10, hn]
    show (if (0 : Int) = 0 then _ else _) = _
    rw [if_pos rfl]
    show (if 1000 < (l.length : Int) then _ else _) = _
    rw [if_neg (by omega)]
    show (if (tks10 _ ((l.length : Int)).toNat (0 + 4)).2.2 = 0 then _ else _) = _
    rw [show ((l.length : Int)).toNat = l.length by omega, if_neg (by rw [hc]; decide)]
    show ([], (0 : Int), (tks10 _ ((l.length : Int)).toNat (0 + 4)).2.2) = _
    rw [show ((l.length : Int)).toNat = l.length by omega, hc]
/-! ### The order of numbers' bytes -/
theorem less_num10 {a b : Int} (ha : 0 ≤ a ∧ a < 4294967296) (hb : 0 ≤ b ∧ b < 4294967296) : Op.bytesLess (num10 a).toList (num10 b).toList = decide (a < b) := by
  have hlt : ∀ x y : Int, 0 ≤ x ∧ x < 256 → 0 ≤ y ∧ y < 256 → decide (UInt8.ofNat x.toNat < UInt8.ofNat y.toNat) = decide (x < y) := fun x y hx hy => by
    rw [decide_eq_decide, UInt8.lt_iff_toNat_lt, UInt8.toNat_ofNat', UInt8.toNat_ofNat']
    omega
  have heq : ∀ x y : Int, 0 ≤ x ∧ x < 256 → 0 ≤ y ∧ y < 256 → (UInt8.ofNat x.toNat == UInt8.ofNat y.toNat) = decide (x = y) := fun x y hx hy => by
    rw [Bool.eq_iff_iff, beq_iff_eq, decide_eq_true_eq]
    refine ⟨fun h => ?_, fun h => by rw [h]⟩
    have h2 := congrArg UInt8.toNat h
    rw [UInt8.toNat_ofNat', UInt8.toNat_ofNat'] at h2
    omega
  have hl : ∀ n : Int, (num10 n).toList = (fb10 n).map fun n => UInt8.ofNat n.toNat := fun n => by rw [ByteArray.toList_eq]; exact strOfNums_data _
  rw [hl, hl]
  simp only [fb10, List.map_cons, List.map_nil, Op.bytesLess]
  have b1 : ∀ n : Int, 0 ≤ n % 256 ∧ n % 256 < 256 := fun n => by omega
  have ea : ∀ n : Int, 0 ≤ n ∧ n < 4294967296 → n = 16777216 * (n / 16777216 % 256) + 65536 * (n / 65536 % 256) + 256 * (n / 256 % 256) + n % 256 := fun n h => by omega
  have e1 := ea a ha
  have e2 := ea b hb
  have p0 := b1 (a / 16777216)
  have p1 := b1 (a / 65536)
  have p2 := b1 (a / 256)
  have p3 := b1 a
  have q0 := b1 (b / 16777216)
  have q1 := b1 (b / 65536)
  have q2 := b1 (b / 256)
  have q3 := b1 b
  rw [hlt _ _ (b1 _) (b1 _), hlt _ _ (b1 _) (b1 _), hlt _ _ (b1 _) (b1 _), hlt _ _ (b1 _) (b1 _), heq _ _ (b1 _) (b1 _), heq _ _ (b1 _) (b1 _), heq _ _ (b1 _) (b1 _), heq _ _ (b1 _) (b1 _)]
  rw [Bool.eq_iff_iff]
  simp only [Bool.or_eq_true, Bool.and_eq_true, decide_eq_true_eq, Bool.false_eq_true, and_false, or_false]
  generalize a / 16777216 % 256 = a0 at *
  generalize a / 65536 % 256 = a1 at *
  generalize a / 256 % 256 = a2 at *
  generalize a % 256 = a3 at *
  generalize b / 16777216 % 256 = c0 at *
  generalize b / 65536 % 256 = c1 at *
  generalize b / 256 % 256 = c2 at *
  generalize b % 256 = c3 at *
  clear hlt heq hl ea b1
  omega
end Go.Proofs.Ytapfbcpbiagogaa
