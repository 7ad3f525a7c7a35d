/-
  Layer 10, plain: numbers, texts and lists as bytes, written and taken; what is taken was written. Nothing of the program stands here.
-/
import Derived.Test.YtapfbcpbiagogaaTapV
namespace Go.Proofs.Ytapfbcpbiagogaa
open Go.RowKit

theorem eq_bt10 {s t : ByteArray} (h : s.size = t.size) (hb : ∀ j, j < s.size → bt7 s j = bt7 t j) : s = t := by
  apply ByteArray.ext_getElem h
  intro i h1 h2
  have := hb i h1
  rw [← bt7_get h1, ← bt7_get h2] at this
  exact UInt8.toNat_inj.1 this
theorem bt_app_l10 {s t : ByteArray} {j : Nat} (h : j < s.size) : bt7 (s ++ t) j = bt7 s j := by
  rw [← bt7_get h, ← bt7_get (show j < (s ++ t).size by rw [ByteArray.size_append]; omega), ByteArray.getElem_append_left h]
theorem bt_app_r10 {s t : ByteArray} {j : Nat} (h : s.size ≤ j) : bt7 (s ++ t) j = bt7 t (j - s.size) := by
  by_cases h2 : j < (s ++ t).size
  · have h3 : j - s.size < t.size := by rw [ByteArray.size_append] at h2; omega
    rw [← bt7_get h2, ← bt7_get h3, ByteArray.getElem_append_right h]
  · have h3 : ¬ j - s.size < t.size := by rw [ByteArray.size_append] at h2; omega
    rw [bt7, dif_neg h2, bt7, dif_neg h3]
theorem bt_ex10 (s : ByteArray) {a b j : Nat} (h : j < b - a) (hb : b ≤ s.size) : bt7 (s.extract a b) j = bt7 s (a + j) := bt7_extract s a b j h hb
theorem ex_size10 {s : ByteArray} {a b : Nat} (hb : b ≤ s.size) : (s.extract a b).size = b - a := by rw [ByteArray.size_extract]; omega
/-- what stands between two places, in two parts. -/
theorem ex_app10 {s : ByteArray} {a b c : Nat} (h1 : a ≤ b) (h2 : b ≤ c) (h3 : c ≤ s.size) : s.extract a b ++ s.extract b c = s.extract a c := by
  have e1 := ex_size10 (s := s) (a := a) (b := b) (by omega)
  have e2 := ex_size10 (s := s) (a := b) (b := c) h3
  have e3 := ex_size10 (s := s) (a := a) (b := c) h3
  refine eq_bt10 (by rw [ByteArray.size_append]; omega) fun j hj => ?_
  rw [ByteArray.size_append] at hj
  by_cases hl : j < b - a
  · rw [bt_app_l10 (by omega), bt_ex10 s hl (by omega), bt_ex10 s (by omega) h3]
  · rw [bt_app_r10 (by omega), bt_ex10 s (by omega) h3, bt_ex10 s (by omega) h3]
    congr 1
    omega
theorem ex_mid10 (X s Y : ByteArray) : (X ++ s ++ Y).extract X.size (X.size + s.size) = s := by
  refine eq_bt10 (by rw [ex_size10 (by rw [ByteArray.size_append, ByteArray.size_append]; omega)]; omega) fun j hj => ?_
  rw [ex_size10 (by rw [ByteArray.size_append, ByteArray.size_append]; omega)] at hj
  rw [bt_ex10 _ (by omega) (by rw [ByteArray.size_append, ByteArray.size_append]; omega), bt_app_l10 (by rw [ByteArray.size_append]; omega), bt_app_r10 (by omega)]
  congr 1
  omega
theorem ex_all10 (s : ByteArray) : s.extract 0 s.size = s := eq_bt10 (by rw [ex_size10 (Nat.le_refl _)]; omega) fun j hj => by
  rw [ex_size10 (Nat.le_refl _)] at hj
  rw [bt_ex10 s hj (Nat.le_refl _), Nat.zero_add]
theorem ex_none10 (s : ByteArray) (a : Nat) : s.extract a a = ⟨#[]⟩ := eq_bt10 (by rw [ByteArray.size_extract]; show min a s.size - a = 0; omega) fun j hj => by rw [ByteArray.size_extract] at hj; omega
/-- a part of the first bytes. -/
theorem ex_ex10 {s : ByteArray} {m a b : Nat} (hb : b ≤ m) (hm : m ≤ s.size) : (s.extract 0 m).extract a b = s.extract a b := by
  have e0 := ex_size10 (s := s) (a := 0) (b := m) hm
  refine eq_bt10 (by rw [ex_size10 (by omega), ex_size10 (by omega)]) fun j hj => ?_
  rw [ex_size10 (by omega)] at hj
  rw [bt_ex10 _ hj (by omega), bt_ex10 s (by omega) hm, bt_ex10 s hj (by omega), Nat.zero_add]
theorem app_as10 (a b c : ByteArray) : a ++ b ++ c = a ++ (b ++ c) := ByteArray.append_assoc

/-- a number's four bytes, the highest one first. -/
def fb10 (n : Int) : List Int := [n / 16777216 % 256, n / 65536 % 256, n / 256 % 256, n % 256]
def num10 (n : Int) : ByteArray := strOfNums (fb10 n)
theorem num_size10 (n : Int) : (num10 n).size = 4 := by rw [num10, strOfNums_size]; rfl
theorem bt_nums10 (l : List Int) (hl : ∀ x ∈ l, 0 ≤ x ∧ x < 256) (j : Nat) (hj : j < l.length) : ((bt7 (strOfNums l) j : Nat) : Int) = l.getD j 0 := by
  have h : j < (strOfNums l).size := by rw [strOfNums_size]; exact hj
  have hx := hl l[j] (List.getElem_mem hj)
  have e : (strOfNums l)[j] = UInt8.ofNat l[j].toNat := by
    have e2 : (strOfNums l).data.toList = l.map fun n => UInt8.ofNat n.toNat := strOfNums_data l
    have h2 : j < (strOfNums l).data.toList.length := by rw [e2, List.length_map]; exact hj
    have e3 : (strOfNums l).data.toList[j] = UInt8.ofNat l[j].toNat := by simp only [e2, List.getElem_map]
    rw [← e3]
    rfl
  rw [← bt7_get h, e, UInt8.toNat_ofNat', List.getD_eq_getElem?_getD, List.getElem?_eq_getElem hj]
  show ((l[j].toNat % 256 : Nat) : Int) = l[j]
  omega
theorem fb_bd10 (n : Int) : ∀ x ∈ fb10 n, 0 ≤ x ∧ x < 256 := fun x hx => by
  simp only [fb10, List.mem_cons, List.not_mem_nil, or_false] at hx
  rcases hx with rfl | rfl | rfl | rfl <;> omega
theorem bt_num10 (n : Int) : ((bt7 (num10 n) 0 : Nat) : Int) = n / 16777216 % 256 ∧ ((bt7 (num10 n) 1 : Nat) : Int) = n / 65536 % 256 ∧ ((bt7 (num10 n) 2 : Nat) : Int) = n / 256 % 256 ∧ ((bt7 (num10 n) 3 : Nat) : Int) = n % 256 :=
  ⟨bt_nums10 _ (fb_bd10 n) 0 (by show 0 < 4; omega), bt_nums10 _ (fb_bd10 n) 1 (by show 1 < 4; omega), bt_nums10 _ (fb_bd10 n) 2 (by show 2 < 4; omega), bt_nums10 _ (fb_bd10 n) 3 (by show 3 < 4; omega)⟩
/-- the number that four bytes are. -/
def rd10 (B : ByteArray) (j : Nat) : Nat := 16777216 * bt7 B j + 65536 * bt7 B (j + 1) + 256 * bt7 B (j + 2) + bt7 B (j + 3)
theorem rd_lt10 (B : ByteArray) (j : Nat) : rd10 B j < 4294967296 := by
  have h0 := bt7_lt B j
  have h1 := bt7_lt B (j + 1)
  have h2 := bt7_lt B (j + 2)
  have h3 := bt7_lt B (j + 3)
  rw [rd10]; omega
theorem rd_num10 (X Y : ByteArray) {n : Int} (h0 : 0 ≤ n) (h1 : n < 4294967296) : ((rd10 (X ++ num10 n ++ Y) X.size : Nat) : Int) = n := by
  have hs := num_size10 n
  have hz : ∀ k, k < 4 → bt7 (X ++ num10 n ++ Y) (X.size + k) = bt7 (num10 n) k := fun k hk => by
    rw [bt_app_l10 (by rw [ByteArray.size_append]; omega), bt_app_r10 (by omega)]
    congr 1
    omega
  obtain ⟨e0, e1, e2, e3⟩ := bt_num10 n
  rw [rd10, hz 1 (by omega), hz 2 (by omega), hz 3 (by omega), show bt7 (X ++ num10 n ++ Y) X.size = bt7 (num10 n) 0 from hz 0 (by omega)]
  omega
theorem num_rd10 {B : ByteArray} {j : Nat} (h : j + 4 ≤ B.size) : num10 (rd10 B j) = B.extract j (j + 4) := by
  obtain ⟨e0, e1, e2, e3⟩ := bt_num10 (rd10 B j)
  have h0 := bt7_lt B j
  have h1 := bt7_lt B (j + 1)
  have h2 := bt7_lt B (j + 2)
  have h3 := bt7_lt B (j + 3)
  have hr : (rd10 B j : Int) = 16777216 * bt7 B j + 65536 * bt7 B (j + 1) + 256 * bt7 B (j + 2) + bt7 B (j + 3) := by rw [rd10]; omega
  refine eq_bt10 (by rw [num_size10, ex_size10 h]; omega) fun k hk => ?_
  rw [num_size10] at hk
  rw [bt_ex10 B (by omega) h]
  rcases (by omega : k = 0 ∨ k = 1 ∨ k = 2 ∨ k = 3) with rfl | rfl | rfl | rfl
  · show _ = bt7 B j
    omega
  · omega
  · omega
  · omega
theorem num_inj10 {a b : Int} (ha : 0 ≤ a ∧ a < 4294967296) (hb : 0 ≤ b ∧ b < 4294967296) (h : num10 a = num10 b) : a = b := by
  have h1 := rd_num10 ⟨#[]⟩ ⟨#[]⟩ ha.1 ha.2
  have h2 := rd_num10 ⟨#[]⟩ ⟨#[]⟩ hb.1 hb.2
  rw [h] at h1
  exact h1.symm.trans h2
/-- a text, with its number ahead; texts, one behind the other; a list. -/
def txt10 (s : ByteArray) : ByteArray := num10 (s.size : Int) ++ s
def cat10 (l : List ByteArray) : ByteArray := l.foldl (fun o s => o ++ txt10 s) ⟨#[]⟩
def lst10 (l : List ByteArray) : ByteArray := num10 (l.length : Int) ++ cat10 l
theorem txt_size10 (s : ByteArray) : (txt10 s).size = 4 + s.size := by rw [txt10, ByteArray.size_append, num_size10]
theorem fold_app10 (l : List ByteArray) : ∀ o : ByteArray, l.foldl (fun o s => o ++ txt10 s) o = o ++ cat10 l := by
  induction l with
  | nil => intro o; show o = o ++ ⟨#[]⟩; exact (ByteArray.append_empty).symm
  | cons s r ih =>
    intro o
    rw [cat10, List.foldl_cons, ih, List.foldl_cons, ih, ← ByteArray.append_assoc]
    congr 1
theorem cat_cons10 (s : ByteArray) (r : List ByteArray) : cat10 (s :: r) = txt10 s ++ cat10 r := by
  rw [cat10, List.foldl_cons, fold_app10, show (⟨#[]⟩ : ByteArray) ++ txt10 s = txt10 s from ByteArray.empty_append]
theorem cat_app10 (l r : List ByteArray) : cat10 (l ++ r) = cat10 l ++ cat10 r := by rw [cat10, List.foldl_append, fold_app10]; rfl
theorem cat_snoc10 (l : List ByteArray) (s : ByteArray) : cat10 (l ++ [s]) = cat10 l ++ txt10 s := by
  rw [cat10, List.foldl_append]; rfl
theorem cat_size10 (l : List ByteArray) : 4 * l.length ≤ (cat10 l).size ∧ ∀ s ∈ l, s.size + 4 ≤ (cat10 l).size := by
  induction l with
  | nil => exact ⟨Nat.zero_le _, fun s hs => (by cases hs)⟩
  | cons s r ih =>
    rw [cat_cons10, ByteArray.size_append, txt_size10, List.length_cons]
    refine ⟨by omega, fun t ht => ?_⟩
    rcases List.mem_cons.1 ht with rfl | h
    · omega
    · have := ih.2 t h; omega
theorem lst_size10 (l : List ByteArray) : (lst10 l).size = 4 + (cat10 l).size := by rw [lst10, ByteArray.size_append, num_size10]
def numE10 (n : Int) : Bool := decide (0 ≤ n) && decide (n ≤ 2147483647)
def numV10 (n : Int) : ByteArray × Int := if numE10 n then (num10 n, 0) else (⟨#[]⟩, 1)
def txtV10 (s : ByteArray) : ByteArray × Int := if s.size ≤ 65536 then (txt10 s, 0) else (⟨#[]⟩, 2)
def lstV10 (l : List ByteArray) : ByteArray × Int := if l.length ≤ 1000 ∧ (lst10 l).size ≤ 65536 then (lst10 l, 0) else (⟨#[]⟩, 2)

/-- what is taken at a place: a value, the place behind it, an error. -/
def tnV10 (B : ByteArray) (a : Int) : Int × Int × Int :=
  if rightV B a then (if (B.size : Int) - a < 4 then (0, a, 10) else if 2147483647 < (rd10 B a.toNat : Int) then (0, a, 13) else ((rd10 B a.toNat : Int), a + 4, 0)) else (0, a, 1)
def ttV10 (B : ByteArray) (a : Int) : ByteArray × Int × Int :=
  if (tnV10 B a).2.2 = 0 then (if (B.size : Int) - (a + 4) < (tnV10 B a).1 then (⟨#[]⟩, a, 10) else (B.extract (a + 4).toNat (a + 4 + (tnV10 B a).1).toNat, a + 4 + (tnV10 B a).1, 0)) else (⟨#[]⟩, a, (tnV10 B a).2.2)
/-- so many texts, one behind the other: what was taken till then, where it ends, the first error. -/
def tks10 (B : ByteArray) : Nat → Int → List ByteArray × Int × Int
  | 0, a => ([], a, 0)
  | k + 1, a => if (tks10 B k a).2.2 = 0 then (if (ttV10 B (tks10 B k a).2.1).2.2 = 0 then ((tks10 B k a).1 ++ [(ttV10 B (tks10 B k a).2.1).1], (ttV10 B (tks10 B k a).2.1).2.1, 0) else ((tks10 B k a).1, (tks10 B k a).2.1, (ttV10 B (tks10 B k a).2.1).2.2)) else tks10 B k a
def tlV10 (B : ByteArray) (a : Int) : List ByteArray × Int × Int :=
  if (tnV10 B a).2.2 = 0 then (if 1000 < (tnV10 B a).1 then ([], a, 13) else if (tks10 B (tnV10 B a).1.toNat (a + 4)).2.2 = 0 then tks10 B (tnV10 B a).1.toNat (a + 4) else ([], a, (tks10 B (tnV10 B a).1.toNat (a + 4)).2.2)) else ([], a, (tnV10 B a).2.2)
def endV10 (B : ByteArray) (a : Int) : Int := if rightV B a then (if a < (B.size : Int) then 13 else 0) else 1
section
variable {B : ByteArray} {a : Int}
/-- a number that was taken. -/
structure Tn10 (B : ByteArray) (a n : Int) : Prop where
  right : B.size ≤ 65536 ∧ 0 ≤ a ∧ a + 4 ≤ (B.size : Int)
  val : n = (rd10 B a.toNat : Int)
  bd : 0 ≤ n ∧ n ≤ 2147483647
  bytes : num10 n = B.extract a.toNat (a + 4).toNat
theorem tn_ok10 (h : (tnV10 B a).2.2 = 0) : Tn10 B a (tnV10 B a).1 ∧ (tnV10 B a).2.1 = a + 4 := by
  unfold tnV10 at h ⊢
  split at h
  · rename_i hr
    rw [if_pos hr]
    have hR := rightV_iff.1 hr
    split at h
    · exact absurd (show (10 : Int) = 0 from h) (by decide)
    · rename_i h4
      rw [if_neg h4]
      split at h
      · exact absurd (show (13 : Int) = 0 from h) (by decide)
      · rename_i h31
        rw [if_neg h31]
        refine ⟨⟨⟨hR.1, hR.2.1, by omega⟩, rfl, ⟨by show (0 : Int) ≤ (rd10 B a.toNat : Int); omega, by show (rd10 B a.toNat : Int) ≤ _; omega⟩, ?_⟩, rfl⟩
        show num10 (rd10 B a.toNat : Int) = _
        rw [num_rd10 (by omega)]
        congr 1
        omega
  · exact absurd (show (1 : Int) = 0 from h) (by decide)
theorem tn_of10 {n : Int} (h1 : B.size ≤ 65536) (h2 : 0 ≤ a) (h3 : a + 4 ≤ (B.size : Int)) (hn : (rd10 B a.toNat : Int) = n) (h4 : n ≤ 2147483647) : tnV10 B a = (n, a + 4, 0) := by
  rw [tnV10, if_pos (rightV_iff.2 ⟨h1, h2, by omega⟩), if_neg (by omega), hn, if_neg (by omega)]
theorem tn_keep10 (h : (tnV10 B a).2.2 ≠ 0) : tnV10 B a = (0, a, (tnV10 B a).2.2) := by
  revert h
  unfold tnV10
  repeat' split
  all_goals first | (intro h; rfl) | (intro h; exact absurd rfl h)
/-- a text that was taken. -/
structure Tt10 (B : ByteArray) (a : Int) (s : ByteArray) (b : Int) : Prop where
  right : B.size ≤ 65536 ∧ 0 ≤ a ∧ b ≤ (B.size : Int)
  num : (tnV10 B a) = ((s.size : Int), a + 4, 0)
  to : b = a + 4 + (s.size : Int)
  text : s = B.extract (a + 4).toNat b.toNat
  bytes : txt10 s = B.extract a.toNat b.toNat
theorem tt_ok10 (h : (ttV10 B a).2.2 = 0) : Tt10 B a (ttV10 B a).1 (ttV10 B a).2.1 := by
  unfold ttV10 at h ⊢
  split at h
  · rename_i hn
    rw [if_pos hn]
    obtain ⟨hN, hb⟩ := tn_ok10 hn
    have hq : tnV10 B a = ((tnV10 B a).1, a + 4, 0) := Prod.ext rfl (Prod.ext hb hn)
    generalize (tnV10 B a).1 = n at *
    have h1 := hN.right
    have h2 := hN.bd
    split at h
    · exact absurd (show (10 : Int) = 0 from h) (by decide)
    · rename_i hs
      rw [if_neg hs]
      have hz : (B.extract (a + 4).toNat (a + 4 + n).toNat).size = n.toNat := by rw [ex_size10 (by omega)]; omega
      have hz2 : ((B.extract (a + 4).toNat (a + 4 + n).toNat).size : Int) = n := by rw [hz]; omega
      refine ⟨⟨h1.1, h1.2.1, by show a + 4 + n ≤ (B.size : Int); omega⟩, ?_, ?_, rfl, ?_⟩
      · show tnV10 B a = (((B.extract (a + 4).toNat (a + 4 + n).toNat).size : Int), a + 4, 0)
        rw [hz2, hq]
      · show a + 4 + n = a + 4 + ((B.extract (a + 4).toNat (a + 4 + n).toNat).size : Int)
        rw [hz2]
      · show txt10 (B.extract (a + 4).toNat (a + 4 + n).toNat) = B.extract a.toNat (a + 4 + n).toNat
        rw [txt10, hz2, hN.bytes]
        exact ex_app10 (by omega) (by omega) (by omega)
  · rename_i hn
    exact absurd h hn
theorem tt_of10 {n : Int} (hn : tnV10 B a = (n, a + 4, 0)) (hs : a + 4 + n ≤ (B.size : Int)) : ttV10 B a = (B.extract (a + 4).toNat (a + 4 + n).toNat, a + 4 + n, 0) := by
  rw [ttV10, hn]
  show (if (0 : Int) = 0 then _ else _) = _
  rw [if_pos rfl]
  show (if (B.size : Int) - (a + 4) < n then _ else _) = _
  rw [if_neg (by omega)]
theorem tt_short10 {n : Int} (hn : tnV10 B a = (n, a + 4, 0)) (hs : (B.size : Int) < a + 4 + n) : ttV10 B a = (⟨#[]⟩, a, 10) := by
  rw [ttV10, hn]
  show (if (0 : Int) = 0 then _ else _) = _
  rw [if_pos rfl]
  show (if (B.size : Int) - (a + 4) < n then _ else _) = _
  rw [if_pos (by omega)]
theorem tt_num10 (hn : (tnV10 B a).2.2 ≠ 0) : ttV10 B a = (⟨#[]⟩, a, (tnV10 B a).2.2) := by rw [ttV10, if_neg hn]
theorem tt_keep10 (h : (ttV10 B a).2.2 ≠ 0) : ttV10 B a = (⟨#[]⟩, a, (ttV10 B a).2.2) := by
  revert h
  unfold ttV10
  repeat' split
  all_goals first | (intro h; rfl) | (intro h; exact absurd rfl h)
/-- texts that were taken. -/
structure Tk10 (B : ByteArray) (k : Nat) (a : Int) (l : List ByteArray) (b : Int) : Prop where
  right : b ≤ (B.size : Int)
  ahead : a + 4 * (k : Int) ≤ b
  len : l.length = k
  bytes : cat10 l = B.extract a.toNat b.toNat
theorem tks_ok10 (ha : 0 ≤ a) (hB : a ≤ (B.size : Int)) : ∀ k, (tks10 B k a).2.2 = 0 → Tk10 B k a (tks10 B k a).1 (tks10 B k a).2.1
  | 0, _ => ⟨hB, by show a + 4 * ((0 : Nat) : Int) ≤ a; omega, rfl, by show (⟨#[]⟩ : ByteArray) = B.extract a.toNat a.toNat; rw [ex_none10]⟩
  | k + 1, h => by
    unfold tks10 at h ⊢
    split at h
    · rename_i hk
      rw [if_pos hk]
      have ih := tks_ok10 ha hB k hk
      generalize tks10 B k a = r at *
      obtain ⟨l, p, er⟩ := r
      dsimp only at *
      split at h
      · rename_i ht
        rw [if_pos ht]
        have hT := tt_ok10 ht
        generalize ttV10 B p = t at *
        obtain ⟨s, b, e2⟩ := t
        dsimp only at *
        have h1 := hT.right
        have h2 := hT.to
        have h3 := ih.ahead
        refine ⟨h1.2.2, by omega, by rw [List.length_append, ih.len]; rfl, ?_⟩
        rw [cat_snoc10, ih.bytes, hT.bytes]
        exact ex_app10 (by omega) (by omega) (by omega)
      · rename_i ht
        exact absurd h ht
    · rename_i hk
      exact absurd h hk
theorem tks_err10 {k m : Nat} (hk : (tks10 B k a).2.2 ≠ 0) (hm : k ≤ m) : tks10 B m a = tks10 B k a := by
  induction m with
  | zero => rw [show k = 0 by omega]
  | succ m ih =>
    by_cases h : k = m + 1
    · rw [h]
    · have e := ih (by omega)
      rw [tks10, e, if_neg hk]
theorem tks_upto10 {k m : Nat} (hm : (tks10 B m a).2.2 = 0) (hk : k ≤ m) : (tks10 B k a).2.2 = 0 := by
  by_cases h : (tks10 B k a).2.2 = 0
  · exact h
  · rw [tks_err10 h hk] at hm
    exact absurd hm h
/-- a list that was taken. -/
structure Tl10 (B : ByteArray) (a : Int) (l : List ByteArray) (b : Int) : Prop where
  right : B.size ≤ 65536 ∧ 0 ≤ a ∧ b ≤ (B.size : Int)
  few : l.length ≤ 1000
  num : tnV10 B a = ((l.length : Int), a + 4, 0)
  texts : tks10 B l.length (a + 4) = (l, b, 0)
  ahead : a + 4 + 4 * (l.length : Int) ≤ b
  bytes : lst10 l = B.extract a.toNat b.toNat
theorem tl_ok10 (h : (tlV10 B a).2.2 = 0) : Tl10 B a (tlV10 B a).1 (tlV10 B a).2.1 := by
  unfold tlV10 at h ⊢
  split at h
  · rename_i hn
    rw [if_pos hn]
    obtain ⟨hN, hb⟩ := tn_ok10 hn
    have hq : tnV10 B a = ((tnV10 B a).1, a + 4, 0) := Prod.ext rfl (Prod.ext hb hn)
    generalize (tnV10 B a).1 = n at *
    have h1 := hN.right
    have h2 := hN.bd
    split at h
    · exact absurd (show (13 : Int) = 0 from h) (by decide)
    · rename_i hk
      rw [if_neg hk]
      split at h
      · rename_i ht
        rw [if_pos ht]
        have hT := tks_ok10 (a := a + 4) (by omega) (by omega) n.toNat ht
        have hr : tks10 B n.toNat (a + 4) = ((tks10 B n.toNat (a + 4)).1, (tks10 B n.toNat (a + 4)).2.1, 0) := Prod.ext rfl (Prod.ext rfl ht)
        generalize (tks10 B n.toNat (a + 4)).1 = l at *
        generalize (tks10 B n.toNat (a + 4)).2.1 = b at *
        have hl := hT.len
        have hl2 : (l.length : Int) = n := by omega
        have h3 := hT.ahead
        refine ⟨⟨h1.1, h1.2.1, hT.right⟩, ?_, ?_, ?_, ?_, ?_⟩
        · show l.length ≤ 1000; omega
        · show tnV10 B a = ((l.length : Int), a + 4, 0); rw [hl2, hq]
        · show tks10 B l.length (a + 4) = (l, b, 0); rw [hl, hr]
        · show a + 4 + 4 * (l.length : Int) ≤ b; omega
        · show lst10 l = B.extract a.toNat b.toNat
          have h4 := hT.right
          rw [lst10, hl2, hN.bytes, hT.bytes]
          exact ex_app10 (by omega) (by omega) (by omega)
      · rename_i ht
        exact absurd h ht
  · rename_i hn
    exact absurd h hn
theorem tl_keep10 (h : (tlV10 B a).2.2 ≠ 0) : tlV10 B a = ([], a, (tlV10 B a).2.2) := by
  revert h
  unfold tlV10
  repeat' split
  all_goals first | (intro h; rfl) | (intro h; exact absurd rfl h) | (rename_i h1; intro h; exact absurd h1 h)
/-- what was taken, written again. -/
theorem Tt10.again {s : ByteArray} {b : Int} (h : Tt10 B a s b) : txtV10 s = (B.extract a.toNat b.toNat, 0) := by
  have h1 := h.right
  have h2 := h.to
  rw [txtV10, if_pos (by omega), h.bytes]
theorem Tl10.again {l : List ByteArray} {b : Int} (h : Tl10 B a l b) : lstV10 l = (B.extract a.toNat b.toNat, 0) := by
  have h1 := h.right
  have h2 := h.ahead
  rw [lstV10, if_pos ⟨h.few, by rw [h.bytes, ex_size10 (by omega)]; omega⟩, h.bytes]
end
end Go.Proofs.Ytapfbcpbiagogaa
