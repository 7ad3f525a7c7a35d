/-
  Plain facts on what is derived, and on tags: fewer bytes are the first of more; the first two parts; keys with noughts behind. Nothing of the program is walked here.
-/
import Derived.Test.YtcpkkicpkmjagaaDoorMacD
namespace Go.Proofs.YtcpkkicpkmjagaaDoor

theorem str_append (a b : List Int) : strOfNums (a ++ b) = strOfNums a ++ strOfNums b := by
  apply ByteArray.ext
  simp [strOfNums, ByteArray.data_append]
theorem str_take (l : List Int) (n : Nat) : (strOfNums l).extract 0 n = strOfNums (l.take n) := by
  apply ByteArray.ext
  rw [ByteArray.data_extract]
  apply Array.toList_inj.1
  simp [strOfNums, List.map_take]
theorem str_bytesL (s : ByteArray) : strOfNums (bytesL s) = s := by
  apply ByteArray.ext
  apply Array.toList_inj.1
  simp only [strOfNums, bytesL, List.map_map]
  conv => rhs; rw [← List.map_id s.data.toList]
  apply List.map_congr_left
  intro b _
  simp
theorem prts_add (X : List Int) (name : ByteArray) (k j : Nat) : ∃ r, prts X name (k + j) = prts X name k ++ r := by
  induction j with
  | zero => exact ⟨[], by simp⟩
  | succ j ih =>
    obtain ⟨r, hr⟩ := ih
    exact ⟨r ++ [prt X name (k + j)], by rw [← Nat.add_assoc, prts_succ, hr, List.append_assoc]⟩
theorem drv_pre (X : List Int) (name : ByteArray) (a b : Nat) (h : a ≤ b) : (drv X name b).extract 0 a = drv X name a := by
  rw [drv, str_take, drv, List.take_take, Nat.min_eq_left h]
  congr 1
  obtain ⟨r, hr⟩ := prts_add X name ((a + 31) / 32) ((b + 31) / 32 - (a + 31) / 32)
  rw [show (a + 31) / 32 + ((b + 31) / 32 - (a + 31) / 32) = (b + 31) / 32 by omega] at hr
  rw [hr, flatL, List.flatMap_append]
  change List.take a (flatL (prts X name ((a + 31) / 32)) ++ _) = _
  rw [List.take_append_of_le_length (by rw [flatL_length, prts_length]; omega)]
theorem drv_64 (X : List Int) (name : ByteArray) : drv X name 64 = tgs X name 1 ++ tgs X name 2 := by
  have e : flatL (prts X name ((64 + 31) / 32)) = bytesL (tgs X name 1) ++ (bytesL (tgs X name 2) ++ []) := rfl
  rw [drv, e, List.append_nil, List.take_of_length_le, str_append, str_bytesL, str_bytesL]
  rw [List.length_append, bytesL_length, bytesL_length]
  have h1 : (tgs X name 1).size = 32 := tagB_size _ _
  have h2 : (tgs X name 2).size = 32 := tagB_size _ _
  omega
theorem tgs_1 (X : List Int) (name : ByteArray) : tgs X name 1 = tagB X (name ++ ⟨#[1]⟩) := by
  have e : tgs X name 1 = tagB X (⟨#[]⟩ ++ name ++ ⟨#[1]⟩) := rfl
  rw [e]
  congr 2
theorem tgs_2 (X : List Int) (name : ByteArray) : tgs X name 2 = tagB X (tgs X name 1 ++ name ++ ⟨#[2]⟩) := rfl
/-- a key with noughts behind. -/
theorem keyL_noughts (k z : ByteArray) (hz : ∀ b ∈ z.data.toList, b = 0) (h : k.size + z.size ≤ 64) : keyL (k ++ z) = keyL k := by
  have h1 : keyOf (k ++ z) = k ++ z := by unfold keyOf; rw [if_neg (by rw [ByteArray.size_append]; omega)]
  have h2 : keyOf k = k := by unfold keyOf; rw [if_neg (by omega)]
  rw [keyL, keyL, h1, h2, padL, padL, ByteArray.size_append]
  have e : bytesL (k ++ z) = bytesL k ++ List.replicate z.size 0 := by
    rw [bytesL, ByteArray.data_append, Array.toList_append, List.map_append]
    congr 1
    have hl : z.data.toList.length = z.size := Array.length_toList
    rw [← hl, List.eq_replicate_iff]
    refine ⟨by simp, ?_⟩
    intro x hx
    rw [List.mem_map] at hx
    obtain ⟨b, hb, rfl⟩ := hx
    rw [hz b hb]; rfl
  rw [e, List.append_assoc, List.replicate_append_replicate]
  congr 2
  omega
end Go.Proofs.YtcpkkicpkmjagaaDoor
