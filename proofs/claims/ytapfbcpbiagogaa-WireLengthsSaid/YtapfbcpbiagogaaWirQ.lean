/-
  Layer 11, plain: the statements' own labels, cells, requests and responses; many labels; one twice; other kinds. Nothing of the program stands here.
-/
import Derived.Test.YtapfbcpbiagogaaWirP
import Derived.Test.YtapfbcpbiagogaaPick
namespace Go.Proofs.Ytapfbcpbiagogaa
open Go.RowKit

def nul11 (n : Nat) : ByteArray := strOfNums (List.replicate n 0)
theorem nul_size11 (n : Nat) : (nul11 n).size = n := by rw [nul11, strOfNums_size, List.length_replicate]
def lb11 (k : Int) : List Int := [k / 256, k % 256, 7 * k % 256]
def label11 (n : Int) : ByteArray := strOfNums (lb11 (pickN n 300)) ++ nul11 13
def cell11 (n : Int) : ByteArray := strOfNums [pickN n 256] ++ nul11 39
theorem label_size11 (n : Int) : (label11 n).size = 16 := by rw [label11, ByteArray.size_append, strOfNums_size, nul_size11]; rfl
theorem cell_size11 (n : Int) : (cell11 n).size = 40 := by rw [cell11, ByteArray.size_append, strOfNums_size, nul_size11]; rfl
theorem pick_self11 {n m : Int} (h0 : 0 ≤ n) (h1 : n < m) : pickN n m = n := by
  rw [pickN, if_neg (by omega)]; exact Int.emod_eq_of_lt h0 h1
theorem label_inj11 {i j : Int} (hi : 0 ≤ i ∧ i < 300) (hj : 0 ≤ j ∧ j < 300) (h : label11 i = label11 j) : i = j := by
  rw [label11, label11, pick_self11 hi.1 hi.2, pick_self11 hj.1 hj.2] at h
  have hb : ∀ k : Int, ∀ x ∈ lb11 k, 0 ≤ x ∧ x < 256 → True := fun _ _ _ _ => trivial
  have hl : ∀ {k : Int}, 0 ≤ k ∧ k < 300 → ∀ x ∈ lb11 k, 0 ≤ x ∧ x < 256 := fun {k} hk x hx => by
    simp only [lb11, List.mem_cons, List.not_mem_nil, or_false] at hx
    rcases hx with rfl | rfl | rfl <;> omega
  have hs : ∀ k : Int, (strOfNums (lb11 k)).size = 3 := fun k => by rw [strOfNums_size]; rfl
  have e0 : bt7 (strOfNums (lb11 i) ++ nul11 13) 0 = bt7 (strOfNums (lb11 j) ++ nul11 13) 0 := by rw [h]
  have e1 : bt7 (strOfNums (lb11 i) ++ nul11 13) 1 = bt7 (strOfNums (lb11 j) ++ nul11 13) 1 := by rw [h]
  rw [bt_app_l10 (by rw [hs]; omega), bt_app_l10 (by rw [hs]; omega)] at e0 e1
  have a0 := bt_nums10 (lb11 i) (hl hi) 0 (by show 0 < 3; omega)
  have a1 := bt_nums10 (lb11 i) (hl hi) 1 (by show 1 < 3; omega)
  have b0 := bt_nums10 (lb11 j) (hl hj) 0 (by show 0 < 3; omega)
  have b1 := bt_nums10 (lb11 j) (hl hj) 1 (by show 1 < 3; omega)
  have a0 : ((bt7 (strOfNums (lb11 i)) 0 : Nat) : Int) = i / 256 := a0
  have a1 : ((bt7 (strOfNums (lb11 i)) 1 : Nat) : Int) = i % 256 := a1
  have b0 : ((bt7 (strOfNums (lb11 j)) 0 : Nat) : Int) = j / 256 := b0
  have b1 : ((bt7 (strOfNums (lb11 j)) 1 : Nat) : Int) = j % 256 := b1
  omega
/-- a label is laid behind the others, unless it is there. -/
def hasL11 (o : List ByteArray) (s : ByteArray) : Bool := o.any fun t => decide (t = s)
theorem has_iff11 {o : List ByteArray} {s : ByteArray} : hasL11 o s = true ↔ s ∈ o := by
  rw [hasL11, List.any_eq_true]
  exact ⟨fun ⟨t, h, e⟩ => (of_decide_eq_true e) ▸ h, fun h => ⟨s, h, decide_eq_true rfl⟩⟩
def addL11 (o : List ByteArray) (s : ByteArray) : List ByteArray := if hasL11 o s then o else o ++ [s]
def labK11 (R : List Int) (k : Nat) : List ByteArray := (R.take k).foldl (fun o n => addL11 o (label11 n)) []
def labs11 (R : List Int) : List ByteArray := labK11 R 12
theorem lab_zero11 (R : List Int) : labK11 R 0 = [] := rfl
theorem lab_step11 {R : List Int} {k : Nat} {x : Int} (h : R[k]? = some x) : labK11 R (k + 1) = addL11 (labK11 R k) (label11 x) := by
  rw [labK11, take_snoc11 h, List.foldl_append]; rfl
where
  take_snoc11 {α : Type} {l : List α} {k : Nat} {x : α} (h : l[k]? = some x) : l.take (k + 1) = l.take k ++ [x] := by
    rw [List.take_add_one, h]; rfl
theorem lab_inv11 (R : List Int) (o : List ByteArray) (h : o.Nodup ∧ (∀ s ∈ o, s.size = 16)) : (R.foldl (fun o n => addL11 o (label11 n)) o).Nodup ∧ (∀ s ∈ R.foldl (fun o n => addL11 o (label11 n)) o, s.size = 16) ∧ (R.foldl (fun o n => addL11 o (label11 n)) o).length ≤ o.length + R.length := by
  induction R generalizing o with
  | nil => exact ⟨h.1, h.2, Nat.le_refl _⟩
  | cons x r ih =>
    have hs : (addL11 o (label11 x)).Nodup ∧ (∀ s ∈ addL11 o (label11 x), s.size = 16) ∧ (addL11 o (label11 x)).length ≤ o.length + 1 := by
      rw [addL11]
      split
      · exact ⟨h.1, h.2, by omega⟩
      · rename_i hn
        refine ⟨?_, fun s hs => ?_, by simp⟩
        · rw [List.nodup_append]
          exact ⟨h.1, by simp, fun a ha b hb => by rw [List.mem_singleton] at hb; subst hb; exact fun e => hn (has_iff11.2 (e ▸ ha))⟩
        · rw [List.mem_append, List.mem_singleton] at hs
          rcases hs with hs | rfl
          · exact h.2 s hs
          · exact label_size11 x
    obtain ⟨a, b, c⟩ := ih (addL11 o (label11 x)) ⟨hs.1, hs.2.1⟩
    refine ⟨a, b, ?_⟩
    rw [List.foldl_cons, List.length_cons]
    omega
theorem labK_inv11 (R : List Int) (k : Nat) : (labK11 R k).Nodup ∧ (∀ s ∈ labK11 R k, s.size = 16) ∧ (labK11 R k).length ≤ k ∧ (labK11 R k).length ≤ R.length := by
  obtain ⟨a, b, c⟩ := lab_inv11 (R.take k) [] ⟨by simp, fun s hs => by cases hs⟩
  refine ⟨a, b, ?_, ?_⟩ <;> (show (List.foldl _ [] (R.take k)).length ≤ _) <;> (rw [List.length_take, List.length_nil] at c; omega)
theorem lab_end11 {R : List Int} {k : Nat} (hk : k ≤ R.length) (h12 : k ≤ 12) (h : ¬ (k < R.length ∧ k < 12)) : labK11 R k = labs11 R := by
  rw [labs11, labK11, labK11]
  have : R.take k = R.take 12 := by
    by_cases e : k = 12
    · rw [e]
    · rw [List.take_of_length_le (by omega), List.take_of_length_le (by omega)]
  rw [this]
def celK11 (R : List Int) (k : Nat) : List ByteArray := (R.take k).map cell11
theorem cel_len11 {R : List Int} {k : Nat} (h : k ≤ R.length) : (celK11 R k).length = k := by rw [celK11, List.length_map, List.length_take]; omega
theorem cel_step11 {R : List Int} {k : Nat} {x : Int} (h : R[k]? = some x) : celK11 R (k + 1) = celK11 R k ++ [cell11 x] := by
  rw [celK11, List.take_add_one, h, List.map_append]; rfl
theorem szd_of11 {l : List ByteArray} {n : Nat} {b : Bool} (h : ∀ s ∈ l, s.size = n ∨ (b = true ∧ s.size = 0)) (hl : l.length ≤ 200) : szd11 l n b = true := by
  rw [szd11, Bool.and_eq_true, decide_eq_true_eq]
  refine ⟨List.all_eq_true.2 fun s hs => ?_, hl⟩
  rcases h s hs with e | ⟨e1, e2⟩
  · simp [e]
  · simp [e1, e2]
/-- a request of raw numbers. -/
def req11 (kind : Int) (R : List Int) : Req11 :=
  if 1 + pickN kind 4 = 4 then ⟨4, [], []⟩ else if 1 + pickN kind 4 = 1 then ⟨1, labs11 R, celK11 R (labs11 R).length⟩ else ⟨1 + pickN kind 4, labs11 R, []⟩
theorem req_right11 (kind : Int) (R : List Int) : right11 (req11 kind R) = true := by
  obtain ⟨p0, p1⟩ := pickN_bd kind 4 (by omega)
  obtain ⟨n1, n2, n3, n4⟩ := labK_inv11 R 12
  have hL : szd11 (labs11 R) 16 false = true := szd_of11 (fun s hs => .inl (n2 s hs)) (by show (labK11 R 12).length ≤ 200; omega)
  have hN : (labs11 R).Nodup := n1
  have hE : ∀ m b, szd11 [] m b = true := fun m b => szd_of11 (fun s hs => by cases hs) (by simp)
  rw [req11]
  split
  · simp [right11, hE]
  · split
    · have hlen : (celK11 R (labs11 R).length).length = (labs11 R).length := cel_len11 n4
      have hC : szd11 (celK11 R (labs11 R).length) 40 false = true := szd_of11 (fun s hs => .inl (by
        rw [celK11, List.mem_map] at hs
        obtain ⟨x, _, rfl⟩ := hs
        exact cell_size11 x)) (by rw [hlen]; show (labK11 R 12).length ≤ 200; omega)
      simp [right11, hL, hC, hN, hlen]
    · rename_i h4 h1
      have a1 : (1 : Int) ≤ 1 + pickN kind 4 := by omega
      have a2 : 1 + pickN kind 4 ≤ 4 := by omega
      simp only [right11, hL, hE, decide_eq_true hN, decide_eq_true a1, decide_eq_true a2, if_neg h4, if_neg h1, Bool.true_and, List.length_nil]
      rfl
def rspC11 (n : Int) : ByteArray := if 0 < pickN n 3 then cell11 n else ⟨#[]⟩
def rspK11 (R : List Int) (k : Nat) : List ByteArray := (R.take k).map rspC11
theorem rspK_step11 {R : List Int} {k : Nat} {x : Int} (h : R[k]? = some x) : rspK11 R (k + 1) = rspK11 R k ++ [rspC11 x] := by
  rw [rspK11, List.take_add_one, h, List.map_append]; rfl
theorem rspK_len11 {R : List Int} {k : Nat} (h : k ≤ R.length) : (rspK11 R k).length = k := by rw [rspK11, List.length_map, List.length_take]; omega
theorem rspK_end11 {R : List Int} {k : Nat} (hk : k ≤ R.length) (h12 : k ≤ 12) (h : ¬ (k < R.length ∧ k < 12)) : rspK11 R k = rspK11 R 12 := by
  rw [rspK11, rspK11]
  have : R.take k = R.take 12 := by
    by_cases e : k = 12
    · rw [e]
    · rw [List.take_of_length_le (by omega), List.take_of_length_le (by omega)]
  rw [this]
/-- a response of raw numbers. -/
def resp11 (kind a b c : Int) (R : List Int) : Rsp11 :=
  if pickN kind 5 = 1 then ⟨1, pickN a 3, [], 0, 0⟩ else if pickN kind 5 = 2 then ⟨2, 0, rspK11 R 12, 0, 0⟩
  else if pickN kind 5 = 3 then ⟨3, 0, [], pickN b 2147483648, 0⟩ else if pickN kind 5 = 4 then ⟨4, 0, [], pickN b 2147483648, pickN c 2147483648⟩ else ⟨0, 0, [], 0, 0⟩
theorem resp_may11 (kind a b c : Int) (R : List Int) : may11 (resp11 kind a b c R) = true := by
  obtain ⟨p0, p1⟩ := pickN_bd kind 5 (by omega)
  obtain ⟨a0, a1⟩ := pickN_bd a 3 (by omega)
  obtain ⟨b0, b1⟩ := pickN_bd b 2147483648 (by omega)
  obtain ⟨c0, c1⟩ := pickN_bd c 2147483648 (by omega)
  have hE : ∀ m b, szd11 [] m b = true := fun m b => szd_of11 (fun s hs => by cases hs) (by simp)
  have hC : szd11 (rspK11 R 12) 40 true = true := szd_of11 (fun s hs => by
    rw [rspK11, List.mem_map] at hs
    obtain ⟨x, _, rfl⟩ := hs
    rw [rspC11]
    split
    · exact .inl (cell_size11 x)
    · exact .inr ⟨rfl, rfl⟩) (by rw [rspK11, List.length_map, List.length_take]; omega)
  rw [resp11]
  split
  · have q : pickN a 3 ≤ 2 := by omega
    simp [may11, hE, a0, q]
  · split
    · simp [may11, hC]
    · split
      · have q : pickN b 2147483648 ≤ 2147483647 := by omega
        simp [may11, hE, b0, q]
      · split
        · have q : pickN b 2147483648 ≤ 2147483647 := by omega
          have q2 : pickN c 2147483648 ≤ 2147483647 := by omega
          simp [may11, hE, b0, q, c0, q2]
        · simp [may11, hE]
/-! ### Many labels; one twice -/
def manyL11 (n : Nat) : List ByteArray := (List.range n).map fun i : Nat => label11 (i : Int)
def manyC11 (n : Nat) : List ByteArray := (List.range n).map fun i : Nat => cell11 (i : Int)
theorem manyL_step11 (n : Nat) : manyL11 (n + 1) = manyL11 n ++ [label11 (n : Int)] := by rw [manyL11, List.range_succ, List.map_append]; rfl
theorem manyC_step11 (n : Nat) : manyC11 (n + 1) = manyC11 n ++ [cell11 (n : Int)] := by rw [manyC11, List.range_succ, List.map_append]; rfl
theorem manyL_len11 (n : Nat) : (manyL11 n).length = n := by rw [manyL11, List.length_map, List.length_range]
theorem manyC_len11 (n : Nat) : (manyC11 n).length = n := by rw [manyC11, List.length_map, List.length_range]
theorem manyL_size11 (n : Nat) : ∀ s ∈ manyL11 n, s.size = 16 := fun s hs => by
  rw [manyL11, List.mem_map] at hs
  obtain ⟨i, _, rfl⟩ := hs
  exact label_size11 _
theorem manyC_size11 (n : Nat) : ∀ s ∈ manyC11 n, s.size = 40 := fun s hs => by
  rw [manyC11, List.mem_map] at hs
  obtain ⟨i, _, rfl⟩ := hs
  exact cell_size11 _
theorem manyL_once11 {n : Nat} (h : n ≤ 300) : (manyL11 n).Nodup := by
  induction n with
  | zero => exact List.nodup_nil
  | succ n ih =>
    rw [manyL_step11, List.nodup_append]
    refine ⟨ih (by omega), by simp, fun a ha b hb => ?_⟩
    rw [List.mem_singleton] at hb
    subst hb
    rw [manyL11, List.mem_map] at ha
    obtain ⟨i, hi, rfl⟩ := ha
    have hi2 := List.mem_range.1 hi
    intro e
    have := label_inj11 (i := (i : Int)) (j := (n : Int)) (by omega) (by omega) e
    omega
def manyQ11 (k : Int) (n : Nat) : Req11 := ⟨k, manyL11 n, if k = 1 then manyC11 n else []⟩
theorem many_right11 {k : Int} {n : Nat} (hk : 1 ≤ k ∧ k ≤ 3) (hn : n ≤ 200) : right11 (manyQ11 k n) = true := by
  have hL : szd11 (manyL11 n) 16 false = true := szd_of11 (fun s hs => .inl (manyL_size11 n s hs)) (by rw [manyL_len11]; omega)
  have hC : szd11 (manyC11 n) 40 false = true := szd_of11 (fun s hs => .inl (manyC_size11 n s hs)) (by rw [manyC_len11]; omega)
  have hE : ∀ m b, szd11 [] m b = true := fun m b => szd_of11 (fun s hs => by cases hs) (by simp)
  have hN := manyL_once11 (n := n) (by omega)
  have a1 : k ≤ 4 := by omega
  rw [manyQ11]
  by_cases h1 : k = 1
  · subst h1
    simp [right11, hL, hC, hN, manyL_len11, manyC_len11]
  · have h4 : ¬ k = 4 := by omega
    simp only [right11, if_neg h1, if_neg h4, hL, hE, decide_eq_true hN, decide_eq_true hk.1, decide_eq_true a1, Bool.true_and, List.length_nil]
    rfl
theorem many_no11 {k : Int} {n : Nat} (hn : 200 < n) : right11 (manyQ11 k n) = false := by
  have hL : szd11 (manyL11 n) 16 false = false := by
    rw [szd11, manyL_len11, decide_eq_false (show ¬ n ≤ 200 by omega), Bool.and_false]
  simp [right11, manyQ11, hL]
/-- with one twice it may not be. -/
def twiceQ11 (k : Int) (n m : Nat) : Req11 := ⟨k, (manyL11 n).set m (label11 ((m + 1 : Nat) : Int)), if k = 1 then manyC11 n else []⟩
theorem twice_no11 {k : Int} {n m : Nat} (hm : m + 1 < n) : right11 (twiceQ11 k n m) = false := by
  have hN : ¬ ((manyL11 n).set m (label11 ((m + 1 : Nat) : Int))).Nodup := by
    intro h
    have hl := manyL_len11 n
    have l1 : m < ((manyL11 n).set m (label11 ((m + 1 : Nat) : Int))).length := by rw [List.length_set]; omega
    have l2 : m + 1 < ((manyL11 n).set m (label11 ((m + 1 : Nat) : Int))).length := by rw [List.length_set]; omega
    have h2 := List.pairwise_iff_getElem.1 h m (m + 1) l1 l2 (by omega)
    apply h2
    rw [List.getElem_set_self, List.getElem_set_ne (by omega)]
    simp [manyL11]
  cases hb : right11 (twiceQ11 k n m) with
  | false => rfl
  | true =>
    simp only [right11, Bool.and_eq_true, decide_eq_true_eq] at hb
    exact absurd hb.2.2.2.2.1 hN
theorem cat_any11 {n : Nat} : ∀ {l : List ByteArray}, (∀ s ∈ l, s.size = n) → (cat10 l).size = (n + 4) * l.length
  | [], _ => rfl
  | s :: r, h => by
    rw [cat_cons10, ByteArray.size_append, txt_size10, cat_any11 (fun x hx => h x (List.mem_cons_of_mem _ hx)), h s (List.mem_cons_self ..), List.length_cons, Nat.mul_add]
    omega
theorem twice_size11 (k : Int) {n m : Nat} (hn : n ≤ 202) : (lst10 (twiceQ11 k n m).L).size ≤ 5000 ∧ (lst10 (twiceQ11 k n m).C).size ≤ 10000 ∧ (reqB11 (twiceQ11 k n m)).size ≤ 65536 ∧ (twiceQ11 k n m).L.length = n ∧ (twiceQ11 k n m).C.length ≤ n := by
  have hL : (lst10 (twiceQ11 k n m).L).size = 4 + 20 * n := by
    rw [lst_size10]
    have := cat_any11 (n := 16) (l := (twiceQ11 k n m).L) (fun s hs => by
      rcases List.mem_or_eq_of_mem_set hs with h | rfl
      · exact manyL_size11 n s h
      · exact label_size11 _)
    rw [this]
    have : (twiceQ11 k n m).L.length = n := by rw [twiceQ11, List.length_set, manyL_len11]
    rw [this]
  have hC : (lst10 (twiceQ11 k n m).C).size ≤ 4 + 44 * n ∧ (twiceQ11 k n m).C.length ≤ n := by
    rw [lst_size10, twiceQ11]
    by_cases h1 : k = 1
    · simp only [if_pos h1]
      have := cat_any11 (n := 40) (manyC_size11 n)
      rw [this, manyC_len11]
      omega
    · simp only [if_neg h1]
      exact ⟨by show 4 + 0 ≤ _; omega, by simp⟩
  have hz : (reqB11 (twiceQ11 k n m)).size = 4 + (lst10 (twiceQ11 k n m).L).size + (lst10 (twiceQ11 k n m).C).size := by
    rw [reqB11, ByteArray.size_append, ByteArray.size_append, num_size10]
  exact ⟨by omega, by omega, by omega, by rw [twiceQ11, List.length_set, manyL_len11], hC.2⟩
/-! ### Other kinds -/
theorem num_small11 {k : Int} (h0 : 0 ≤ k) (h1 : k < 256) : num10 k = strOfNums [0, 0, 0, k] := by
  rw [num10, fb10, show k / 16777216 % 256 = 0 by omega, show k / 65536 % 256 = 0 by omega, show k / 256 % 256 = 0 by omega, show k % 256 = k by omega]
theorem ex_back11 (X Y : ByteArray) : (X ++ Y).extract X.size (X ++ Y).size = Y := by
  have h := ex_mid10 X Y ⟨#[]⟩
  rw [show X ++ Y ++ (⟨#[]⟩ : ByteArray) = X ++ Y from ByteArray.append_empty] at h
  rw [ByteArray.size_append]
  exact h
theorem req_other11 (q : Req11) (k : Int) : num10 k ++ (reqB11 q).extract 4 (reqB11 q).size = reqB11 ⟨k, q.L, q.C⟩ := by
  have h := ex_back11 (num10 q.k) (lst10 q.L ++ lst10 q.C)
  rw [num_size10] at h
  rw [reqB11, reqB11, ByteArray.append_assoc, h, ByteArray.append_assoc]
theorem rsp_other11 (a : Rsp11) (k : Int) : num10 k ++ (rspB11 a).extract 4 (rspB11 a).size = rspB11 ⟨k, a.st, a.C, a.many, a.room⟩ := by
  have h := ex_back11 (num10 a.k) (num10 a.st ++ lst10 a.C ++ num10 a.many ++ num10 a.room)
  rw [num_size10] at h
  have e : ∀ x : Int, rspB11 ⟨x, a.st, a.C, a.many, a.room⟩ = num10 x ++ (num10 a.st ++ lst10 a.C ++ num10 a.many ++ num10 a.room) := fun x => by rw [rspB11]; simp only [ByteArray.append_assoc]
  rw [show rspB11 a = num10 a.k ++ (num10 a.st ++ lst10 a.C ++ num10 a.many ++ num10 a.room) from e a.k, h]
  exact (e k).symm
/-- of another kind it may be just if .. -/
def mayK11 (q : Req11) (k : Int) : Bool :=
  (decide (1 ≤ k) && decide (k ≤ 4)) && (decide (k = q.k) || (!(decide (q.k = 1) && decide (0 < q.L.length)) && (decide (q.L.length = 0) || (!decide (k = 4) && !decide (k = 1)))))
theorem dec_other11 {q : Req11} {k : Int} (h : right11 q = true) (hk : 0 ≤ k ∧ k ≤ 6) : decV11 (reqB11 ⟨k, q.L, q.C⟩) = if mayK11 q k then (⟨k, q.L, q.C⟩, 0) else (zreq11, 13) := by
  obtain ⟨h1, hs1, hs2, h2, h3⟩ := right_sizes11 h
  have hz : (reqB11 ⟨k, q.L, q.C⟩).size = 4 + (lst10 q.L).size + (lst10 q.C).size := by
    rw [reqB11, ByteArray.size_append, ByteArray.size_append, num_size10]
  rw [dec_bytes11 ⟨k, q.L, q.C⟩ (by show 0 ≤ k ∧ k ≤ _; omega) (by show q.L.length ≤ _; omega) (by show q.C.length ≤ _; omega) (by rw [hz]; omega)]
  have e : right11 ⟨k, q.L, q.C⟩ = mayK11 q k := by
    simp only [right11, Bool.and_eq_true, decide_eq_true_eq] at h
    obtain ⟨g1, g2, g3, g4, g5, g6⟩ := h
    rw [Bool.eq_iff_iff]
    simp only [right11, mayK11, Bool.and_eq_true, decide_eq_true_eq, Bool.or_eq_true, Bool.not_eq_true', Bool.and_eq_false_iff, decide_eq_false_iff_not, g3, g4, g5, true_and]
    split at g6
    · have g6 := of_decide_eq_true g6
      split
      · simp only [decide_eq_true_eq]; omega
      · split
        · simp only [Bool.and_eq_true, decide_eq_true_eq]; omega
        · simp only [decide_eq_true_eq]; omega
    · split at g6
      · simp only [Bool.and_eq_true, decide_eq_true_eq] at g6
        split
        · simp only [decide_eq_true_eq]; omega
        · split
          · simp only [Bool.and_eq_true, decide_eq_true_eq]; omega
          · simp only [decide_eq_true_eq]; omega
      · have g6 := of_decide_eq_true g6
        split
        · simp only [decide_eq_true_eq]; omega
        · split
          · simp only [Bool.and_eq_true, decide_eq_true_eq]; omega
          · simp only [decide_eq_true_eq]; omega
  rw [e]
theorem read_other11 {a : Rsp11} {k : Int} (h : may11 a = true) (hk : 0 ≤ k ∧ k ≤ 6) : (readV11 (rspB11 ⟨k, a.st, a.C, a.many, a.room⟩)).2 ≠ 0 ∨ (k ≤ 4 ∧ readV11 (rspB11 ⟨k, a.st, a.C, a.many, a.room⟩) = (⟨k, a.st, a.C, a.many, a.room⟩, 0)) := by
  obtain ⟨h1, h2, h3, h4, h5, h6⟩ := may_sizes11 h
  rw [read_bytes11 ⟨k, a.st, a.C, a.many, a.room⟩ (by show 0 ≤ k ∧ k ≤ _; omega) (by show 0 ≤ a.st ∧ a.st ≤ _; omega) (by show 0 ≤ a.many ∧ a.many ≤ _; omega) (by show 0 ≤ a.room ∧ a.room ≤ _; omega) (by show a.C.length ≤ _; omega) (by rw [rsp_size11]; show 16 + (lst10 a.C).size ≤ _; omega)]
  cases hm : may11 ⟨k, a.st, a.C, a.many, a.room⟩ with
  | true =>
    have := (may_sizes11 hm).1.2
    exact .inr ⟨this, if_pos rfl⟩
  | false => exact .inl (by rw [if_neg (by decide)]; decide)
end Go.Proofs.Ytapfbcpbiagogaa
