/-
  Plain facts on blocks and parts: whole blocks may be mixed in one behind the other; a text may be added in parts.
-/
import Derived.Test.YtfakpecclhcjiaaDoorDigX
namespace Go.Proofs.YtfakpecclhcjiaaDoor

theorem ext_bytes {a b : ByteArray} (h : a.data.toList = b.data.toList) : a = b := ByteArray.ext (Array.toList_inj.1 h)
theorem extract_list (a : ByteArray) (i j : Nat) : (a.extract i j).data.toList = (a.data.toList.drop i).take (j - i) := by
  rw [ByteArray.data_extract, Array.toList_extract, List.extract_eq_take_drop]
theorem append_list (a b : ByteArray) : (a ++ b).data.toList = a.data.toList ++ b.data.toList := by
  rw [ByteArray.data_append, Array.toList_append]
theorem size_list (a : ByteArray) : a.data.toList.length = a.size := Array.length_toList
theorem append_assoc3 (a b c : ByteArray) : a ++ b ++ c = a ++ (b ++ c) := by
  apply ext_bytes; simp only [append_list, List.append_assoc]
theorem extract_left (a b : ByteArray) (i j : Nat) (hj : j ≤ a.size) : (a ++ b).extract i j = a.extract i j := by
  apply ext_bytes
  simp only [extract_list, append_list]
  by_cases hi : i ≤ a.size
  · rw [List.drop_append_of_le_length (by rw [size_list]; exact hi), List.take_append_of_le_length (by rw [List.length_drop, size_list]; omega)]
  · rw [show j - i = 0 by omega, List.take_zero, List.take_zero]
theorem extract_right (a b : ByteArray) (i j : Nat) (hi : a.size ≤ i) : (a ++ b).extract i j = b.extract (i - a.size) (j - a.size) := by
  apply ext_bytes
  simp only [extract_list, append_list]
  rw [List.drop_append, List.drop_of_length_le (by rw [size_list]; exact hi), List.nil_append, size_list, show j - a.size - (i - a.size) = j - i by omega]
theorem split_at (a : ByteArray) (p : Nat) : a.extract 0 p ++ a.extract p a.size = a := by
  apply ext_bytes
  rw [append_list, extract_list, extract_list, List.drop_zero, Nat.sub_zero, List.take_of_length_le (l := a.data.toList.drop p) (by rw [List.length_drop, size_list]; exact Nat.le_refl _), List.take_append_drop]

theorem blk_left (a b : ByteArray) (i : Nat) (h : i * 64 + 64 ≤ a.size) : blk (a ++ b) i = blk a i := by
  unfold blk
  rw [dif_pos (by simp; omega), dif_pos h]
  apply Subtype.ext
  exact extract_left a b _ _ h
theorem blk_right (a b : ByteArray) (m i : Nat) (ha : a.size = m * 64) (h : i * 64 + 64 ≤ b.size) : blk (a ++ b) (m + i) = blk b i := by
  unfold blk
  rw [dif_pos (by simp; omega), dif_pos h]
  apply Subtype.ext
  show (a ++ b).extract ((m + i) * 64) ((m + i) * 64 + 64) = b.extract (i * 64) (i * 64 + 64)
  rw [extract_right a b _ _ (by omega), show (m + i) * 64 - a.size = i * 64 by omega, show (m + i) * 64 + 64 - a.size = i * 64 + 64 by omega]
theorem blks_append (a b : ByteArray) (m n : Nat) (ha : a.size = m * 64) (hb : n * 64 ≤ b.size) : blks (a ++ b) (m + n) = blks a m ++ blks b n := by
  unfold blks
  rw [List.range_add, List.map_append, List.map_map]
  congr 1
  · refine List.map_congr_left fun i hi => blk_left a b i ?_
    have := List.mem_range.1 hi; omega
  · refine List.map_congr_left fun i hi => ?_
    have := List.mem_range.1 hi
    exact blk_right a b m i ha (by omega)
theorem mixT_append (h : S8) (a b : ByteArray) (ha : a.size % 64 = 0) : mixT h (a ++ b) = mixT (mixT h a) b := by
  unfold mixT
  have e : (a ++ b).size / 64 = a.size / 64 + b.size / 64 := by simp; omega
  rw [e, blks_append a b _ _ (by omega) (by omega)]
  simp [mixL]
theorem mixT_short (h : S8) (a : ByteArray) (ha : a.size < 64) : mixT h a = h := by simp [mixT, blks, mixL, Nat.div_eq_of_lt ha]
theorem mixT_one (h : S8) (b : ByteArray) (hb : b.size = 64) : mixT h b = mixS h b := by
  have e : blk b 0 = ⟨b, hb⟩ := by
    unfold blk
    rw [dif_pos (by omega)]
    apply Subtype.ext
    show b.extract (0 * 64) (0 * 64 + 64) = b
    apply ext_bytes
    rw [extract_list, Nat.zero_mul, List.drop_zero, List.take_of_length_le (by rw [size_list]; omega)]
  simp [mixT, blks, mixL, hb, e]

theorem add_add (x : Hs) (a b : ByteArray) : addH (addH x a) b = addH x (a ++ b) := by
  unfold addH
  rw [← append_assoc3]
  generalize x.r ++ a = T
  have hsp := split_at T (T.size - T.size % 64)
  have s1 : (T.extract 0 (T.size - T.size % 64)).size = T.size - T.size % 64 := by simp
  have s2 : (T.extract (T.size - T.size % 64) T.size).size = T.size % 64 := by simp; omega
  generalize T.extract 0 (T.size - T.size % 64) = T1 at *
  generalize T.extract (T.size - T.size % 64) T.size = R at *
  have e1 : mixT x.h T = mixT x.h T1 := by rw [← hsp, mixT_append _ _ _ (by omega), mixT_short _ R (by omega)]
  have e2 : T ++ b = T1 ++ (R ++ b) := by rw [← append_assoc3, hsp]
  have s3 : (T ++ b).size = T1.size + (R ++ b).size := by rw [e2]; simp
  have e3 : mixT (mixT x.h T) (R ++ b) = mixT x.h (T ++ b) := by rw [e1, e2, mixT_append x.h T1 (R ++ b) (by omega)]
  have e4 : (T ++ b).extract ((T ++ b).size - (T ++ b).size % 64) (T ++ b).size = (R ++ b).extract ((R ++ b).size - (R ++ b).size % 64) (R ++ b).size := by
    rw [s3, e2, extract_right T1 (R ++ b) _ _ (by omega)]
    congr 1 <;> omega
  show Hs.mk (mixT (mixT x.h T) (R ++ b)) ((R ++ b).extract ((R ++ b).size - (R ++ b).size % 64) (R ++ b).size) (x.m + (a.size : Int) + (b.size : Int)) = _
  rw [e3, ← e4]
  congr 1
  simp; omega
end Go.Proofs.YtfakpecclhcjiaaDoor
