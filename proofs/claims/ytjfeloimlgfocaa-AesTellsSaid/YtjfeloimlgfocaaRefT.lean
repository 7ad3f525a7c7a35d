/-
  Tables of the document's own answer for layer 3, plain: powers of 3; tables that are filled place by place. And an allocation of a row of bytes. Nothing of the program stands here.
-/
import Derived.Test.YtjfeloimlgfocaaRefO
import Derived.Test.YtjfeloimlgfocaaRefF
namespace Go.Proofs.Ytjfeloimlgfocaa
open Go.RowKit Go.Shelf

def PW : List Nat := [1, 3, 5, 15, 17, 51, 85, 255, 26, 46, 114, 150, 161, 248, 19, 53, 95, 225, 56, 72, 216, 115, 149, 164, 247, 2, 6, 10, 30, 34, 102, 170, 229, 52, 92, 228, 55, 89, 235, 38, 106, 190, 217, 112, 144, 171, 230, 49, 83, 245, 4, 12, 20, 60, 68, 204, 79, 209, 104, 184, 211, 110, 178, 205, 76, 212, 103, 169, 224, 59, 77, 215, 98, 166, 241, 8, 24, 40, 120, 136, 131, 158, 185, 208, 107, 189, 220, 127, 129, 152, 179, 206, 73, 219, 118, 154, 181, 196, 87, 249, 16, 48, 80, 240, 11, 29, 39, 105, 187, 214, 97, 163, 254, 25, 43, 125, 135, 146, 173, 236, 47, 113, 147, 174, 233, 32, 96, 160, 251, 22, 58, 78, 210, 109, 183, 194, 93, 231, 50, 86, 250, 21, 63, 65, 195, 94, 226, 61, 71, 201, 64, 192, 91, 237, 44, 116, 156, 191, 218, 117, 159, 186, 213, 100, 172, 239, 42, 126, 130, 157, 188, 223, 122, 142, 137, 128, 155, 182, 193, 88, 232, 35, 101, 175, 234, 37, 111, 177, 200, 67, 197, 84, 252, 31, 33, 99, 165, 244, 7, 9, 27, 45, 119, 153, 176, 203, 70, 202, 69, 207, 74, 222, 121, 139, 134, 145, 168, 227, 62, 66, 198, 81, 243, 14, 18, 54, 90, 238, 41, 123, 141, 140, 143, 138, 133, 148, 167, 242, 13, 23, 57, 75, 221, 124, 132, 151, 162, 253, 28, 36, 108, 180, 199, 82, 246]
theorem pw_len : PW.length = 255 := by kernel_rfl
theorem pw_all : ((List.range 255).all fun i => PW.getD ((i + 1) % 255) 0 == mulN 3 (PW.getD i 0)) = true := by kernel_rfl
theorem pw_next {i : Nat} (h : i < 255) : PW.getD ((i + 1) % 255) 0 = mulN 3 (PW.getD i 0) := by
  have := List.all_eq_true.1 pw_all i (List.mem_range.2 h)
  simpa using this
theorem pw_lt_all : PW.all (fun x => decide (x < 256)) = true := by kernel_rfl
theorem pw_lt (i : Nat) : PW.getD i 0 < 256 := by
  rw [List.getD_eq_getElem?_getD]
  cases h : PW[i]? with
  | none => exact (by decide : (0 : Nat) < 256)
  | some v => simpa using List.all_eq_true.1 pw_lt_all v (List.mem_of_getElem? h)
theorem pw_bent_all : ((List.range 255).all fun i => bentN (PW.getD ((255 - i) % 255) 0) == subN (PW.getD i 0)) = true := by kernel_rfl
theorem pw_bent {i : Nat} (h : i < 255) : bentN (PW.getD ((255 - i) % 255) 0) = subN (PW.getD i 0) := by
  have := List.all_eq_true.1 pw_bent_all i (List.mem_range.2 h)
  simpa using this
/-- a table, filled at the places that a list tells, so many of them. -/
def setF (T idx : List Nat) (k : Nat) : List Nat := (List.range 256).map fun j => if (idx.take k).contains j then T.getD j 0 else 0
theorem setF_len (T idx : List Nat) (k : Nat) : (setF T idx k).length = 256 := by simp [setF]
theorem setF_zero (T idx : List Nat) : setF T idx 0 = zers 256 := by
  apply List.ext_getElem
  · rw [setF_len, zers_len]
  · intro j h1 h2
    simp only [setF, zers, List.getElem_map, List.getElem_replicate, List.take_zero]
    rfl
theorem setF_step (T idx : List Nat) {k : Nat} (h : k < idx.length) : (setF T idx k).set (idx.getD k 0) (T.getD (idx.getD k 0) 0) = setF T idx (k + 1) := by
  apply List.ext_getElem
  · rw [List.length_set, setF_len, setF_len]
  · intro j h1 h2
    rw [List.getElem_set]
    simp only [setF, List.getElem_map, List.getElem_range]
    rw [take_snoc idx k h]
    by_cases e : idx.getD k 0 = j
    · rw [if_pos e, if_pos (by rw [← e]; simp), e]
    · rw [if_neg e]
      have : ((idx.take k ++ [idx.getD k 0]).contains j) = (idx.take k).contains j := by
        rw [List.contains_append]
        have : ([idx.getD k 0].contains j) = false := by simp; exact fun h => e h.symm
        rw [this, Bool.or_false]
      rw [this]
theorem setF_all (T idx : List Nat) {k : Nat} (hT : T.length = 256) (hk : idx.length ≤ k) (h : ∀ j, j < 256 → idx.contains j = true) : setF T idx k = T := by
  apply List.ext_getElem
  · rw [setF_len, hT]
  · intro j h1 h2
    simp only [setF, List.getElem_map, List.getElem_range]
    rw [List.take_of_length_le hk, if_pos (h j (by omega)), List.getD_eq_getElem?_getD, List.getElem?_eq_getElem h2]
    rfl
theorem ts_len : TS.length = 256 := by kernel_rfl
theorem tb_len : TB.length = 256 := by kernel_rfl
theorem idxS_all : all1 (fun j => (0 :: PW).contains j) = true := by kernel_rfl
theorem idxB_all : all1 (fun j => TS.contains j) = true := by kernel_rfl
section
variable {P : Program} {ops : Array Oper} {rest : List Oper} {o : Oper} {a : Act} {w : World} {Q : Exit → Act → World → Prop}
theorem wpList_alloc_nA (hgd : o.guard = none) (ty : TypeId) (ho : o.op = .alloc ty) (X : List Nat) {i : TypeInfo} (hi : P.info? ty = some i) (hz : i.zero = some (.agg (nA X)))
    (h : wpList P ops Q rest (a.put o.dst (.pointer (some ⟨w.heap.size, 0, none⟩))) (w.alloc (.cells (nA X) ty))) : wpList P ops Q (o :: rest) a w := by
  refine wpList_plain hgd fun K hK => ?_
  unfold Oper.wp
  simp [execOp, ho, Instr.alloc, go_sem, zeroValue, typeInfo, hi, hz, Value.cells]
  exact hK _ _ h
end
theorem info256 : ∃ i, Try.prog.info? 63 = some i ∧ i.zero = some (.agg (nA (zers 256))) := by
  have h : (Try.prog.info? 63).map (fun i => (i.zero, i.size, i.bytes)) = some (some (.agg (nA (zers 256))), 256, 256) := by kernel_rfl
  obtain ⟨i, h1, h2, _⟩ := infoThree h
  exact ⟨i, h1, h2⟩
theorem info255 : ∃ i, Try.prog.info? 79 = some i ∧ i.zero = some (.agg (nA (zers 255))) := by
  have h : (Try.prog.info? 79).map (fun i => (i.zero, i.size, i.bytes)) = some (some (.agg (nA (zers 255))), 255, 255) := by kernel_rfl
  obtain ⟨i, h1, h2, _⟩ := infoThree h
  exact ⟨i, h1, h2⟩
theorem size256 : (Try.prog.info? 63).map (·.size) = some 256 := by kernel_rfl
end Go.Proofs.Ytjfeloimlgfocaa
