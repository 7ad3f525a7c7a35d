/-
  Plain facts on layer 4: the words of a key, expanded. Nothing of the program stands here.
-/
import Derived.Test.YtjfeloimlgfocaaAesP
namespace Go.Proofs.Ytjfeloimlgfocaa

/-- the first byte put together with c. -/
def hdX (c : Nat) : List Nat → List Nat
  | [] => []
  | x :: xs => (x ^^^ c) :: xs
/-- the word ahead, turned, where the rule asks for it. -/
def keyT (n i c : Nat) (t : List Nat) : List Nat :=
  let t1 := if i % n = 0 then hdX c (subL (t.drop 1 ++ t.take 1)) else t
  if n = 8 ∧ i % 8 = 4 then subL t1 else t1
/-- one word more. -/
def expS (n : Nat) (st : List Nat × Nat) (i : Nat) : List Nat × Nat :=
  (st.1 ++ xorB ((st.1.drop (4 * (i - n))).take 4) (keyT n i st.2 (st.1.drop (4 * i - 4))), if i % n = 0 then mulN 2 st.2 else st.2)
/-- so many words behind the key's own. -/
def expN (key : List Nat) (n : Nat) : Nat → List Nat × Nat
  | 0 => (key, 1)
  | j + 1 => expS n (expN key n j) (n + j)
/-- a key's round keys, one behind the other. -/
def expB (key : List Nat) : List Nat := (expN key (key.length / 4) (3 * (key.length / 4) + 28)).1
theorem hdX_len (c : Nat) (t : List Nat) : (hdX c t).length = t.length := by cases t <;> rfl
theorem keyT_len (n i c : Nat) {t : List Nat} (h : t.length = 4) : (keyT n i c t).length = 4 := by
  unfold keyT
  have h1 : (if i % n = 0 then hdX c (subL (t.drop 1 ++ t.take 1)) else t).length = 4 := by
    split
    · rw [hdX_len, subL, List.length_map, List.length_append, List.length_drop, List.length_take, h]; rfl
    · exact h
  dsimp only
  split
  · rw [subL, List.length_map]; exact h1
  · exact h1
theorem subL_lt {t : List Nat} (h : ∀ x ∈ t, x < 256) : ∀ x ∈ subL t, x < 256 := fun x hx => by
  obtain ⟨y, hy, rfl⟩ := List.mem_map.1 hx
  exact (inv_at (h y hy)).s
theorem hdX_lt {c : Nat} (hc : c < 256) {t : List Nat} (h : ∀ x ∈ t, x < 256) : ∀ x ∈ hdX c t, x < 256 := by
  cases t with
  | nil => exact h
  | cons y ys =>
    intro x hx
    rcases List.mem_cons.1 hx with rfl | hx
    · exact xor_lt (h y (List.mem_cons_self ..)) hc
    · exact h x (List.mem_cons_of_mem _ hx)
theorem keyT_lt (n i : Nat) {c : Nat} (hc : c < 256) {t : List Nat} (h : ∀ x ∈ t, x < 256) : ∀ x ∈ keyT n i c t, x < 256 := by
  unfold keyT
  have h1 : ∀ x ∈ (if i % n = 0 then hdX c (subL (t.drop 1 ++ t.take 1)) else t), x < 256 := by
    split
    · refine hdX_lt hc (subL_lt fun x hx => ?_)
      rcases List.mem_append.1 hx with hx | hx
      · exact h x (List.mem_of_mem_drop hx)
      · exact h x (List.mem_of_mem_take hx)
    · exact h
  dsimp only
  split
  · exact subL_lt h1
  · exact h1
theorem xorB_lt {a b : List Nat} (ha : ∀ x ∈ a, x < 256) (hb : ∀ x ∈ b, x < 256) : ∀ x ∈ xorB a b, x < 256 := fun x hx => by
  obtain ⟨i, hi, rfl⟩ := List.getElem_of_mem hx
  simp only [xorB, List.getElem_zipWith]
  exact xor_lt (ha _ (List.getElem_mem _)) (hb _ (List.getElem_mem _))
section
variable {key : List Nat} {n : Nat}
theorem expN_len (hk : key.length = 4 * n) (hn : 1 ≤ n) (j : Nat) : (expN key n j).1.length = 4 * (n + j) := by
  induction j with
  | zero => exact hk
  | succ j ih =>
    show (_ ++ xorB _ _).length = _
    rw [List.length_append, ih, xorB, List.length_zipWith, keyT_len _ _ _ (by rw [List.length_drop, ih]; omega), List.length_take, List.length_drop, ih]
    omega
theorem expN_lt (hk : ∀ x ∈ key, x < 256) (j : Nat) : (∀ x ∈ (expN key n j).1, x < 256) ∧ (expN key n j).2 < 256 := by
  induction j with
  | zero => exact ⟨hk, (by decide : 1 < 256)⟩
  | succ j ih =>
    refine ⟨fun x hx => ?_, ?_⟩
    · rcases List.mem_append.1 hx with hx | hx
      · exact ih.1 x hx
      · exact xorB_lt (fun y hy => ih.1 y (List.mem_of_mem_drop (List.mem_of_mem_take hy))) (keyT_lt _ _ ih.2 fun y hy => ih.1 y (List.mem_of_mem_drop hy)) x hx
    · show (if (n + j) % n = 0 then mulN 2 (expN key n j).2 else (expN key n j).2) < 256
      split
      · exact mulN_lt (by decide)
      · exact ih.2
/-- what was there stays. -/
theorem expN_add (j m : Nat) : ∃ r, (expN key n (j + m)).1 = (expN key n j).1 ++ r := by
  induction m with
  | zero => exact ⟨[], by simp⟩
  | succ m ih =>
    obtain ⟨r, hr⟩ := ih
    refine ⟨r ++ xorB (((expN key n (j + m)).1.drop (4 * (n + (j + m) - n))).take 4) (keyT n (n + (j + m)) (expN key n (j + m)).2 ((expN key n (j + m)).1.drop (4 * (n + (j + m)) - 4))), ?_⟩
    rw [← List.append_assoc, ← hr]
    rfl
theorem expN_take (hk : key.length = 4 * n) (hn : 1 ≤ n) {j J : Nat} (h : j ≤ J) : (expN key n J).1.take (4 * (n + j)) = (expN key n j).1 := by
  obtain ⟨m, rfl⟩ : ∃ m, J = j + m := ⟨J - j, by omega⟩
  obtain ⟨r, hr⟩ := expN_add (key := key) (n := n) j m
  rw [hr, ← expN_len hk hn j, List.take_left]
theorem getD_app_left {a b : List Nat} {i : Nat} (h : i < a.length) : (a ++ b).getD i 0 = a.getD i 0 := by
  rw [List.getD_eq_getElem?_getD, List.getD_eq_getElem?_getD, List.getElem?_append_left h]
theorem getD_app_right {a b : List Nat} {i : Nat} (h : a.length ≤ i) : (a ++ b).getD i 0 = b.getD (i - a.length) 0 := by
  rw [List.getD_eq_getElem?_getD, List.getD_eq_getElem?_getD, List.getElem?_append_right h]
theorem expN_get (hk : key.length = 4 * n) (hn : 1 ≤ n) {j J i : Nat} (h : j ≤ J) (hi : i < 4 * (n + j)) : (expN key n J).1.getD i 0 = (expN key n j).1.getD i 0 := by
  obtain ⟨m, rfl⟩ : ∃ m, J = j + m := ⟨J - j, by omega⟩
  obtain ⟨r, hr⟩ := expN_add (key := key) (n := n) j m
  rw [hr]
  exact getD_app_left (by rw [expN_len hk hn]; exact hi)
theorem xorB_getD {a b : List Nat} (h : a.length = b.length) (i : Nat) : (xorB a b).getD i 0 = a.getD i 0 ^^^ b.getD i 0 := by
  rw [List.getD_eq_getElem?_getD, List.getD_eq_getElem?_getD, List.getD_eq_getElem?_getD, xorB, List.getElem?_zipWith]
  by_cases hi : i < a.length
  · rw [List.getElem?_eq_getElem hi, List.getElem?_eq_getElem (by omega)]; rfl
  · rw [List.getElem?_eq_none (by omega), List.getElem?_eq_none (by omega)]; rfl
/-- a word's byte: that of the word n ahead, and of the one ahead as the rule has it. -/
theorem expN_word (hk : key.length = 4 * n) (hn : 1 ≤ n) {j J b : Nat} (h : j < J) (hb : b < 4) :
    (expN key n J).1.getD (4 * (n + j) + b) 0 = (expN key n J).1.getD (4 * j + b) 0 ^^^ (keyT n (n + j) (expN key n j).2 ((expN key n j).1.drop (4 * (n + j) - 4))).getD b 0 := by
  have hl := expN_len hk hn j
  rw [expN_get hk hn (j := j + 1) (J := J) (by omega) (by omega), expN_get hk hn (j := j) (J := J) (i := 4 * j + b) (by omega) (by omega)]
  show ((expN key n j).1 ++ xorB _ _).getD _ 0 = _
  rw [getD_app_right (by omega), xorB_getD (by rw [keyT_len _ _ _ (by rw [List.length_drop, hl]; omega), List.length_take, List.length_drop, hl]; omega)]
  congr 1
  · rw [List.getD_eq_getElem?_getD, List.getD_eq_getElem?_getD, hl, List.getElem?_take, List.getElem?_drop, if_pos (by omega)]
    congr 2
    omega
  · rw [hl]; congr 1; omega
/-- a word that the rule leaves alone. -/
theorem expN_plain (hk : key.length = 4 * n) (hn : 1 ≤ n) {j J b : Nat} (h : j < J) (hb : b < 4) (h1 : (n + j) % n ≠ 0) (h2 : ¬ (n = 8 ∧ (n + j) % 8 = 4)) :
    (expN key n J).1.getD (4 * (n + j) + b) 0 = (expN key n J).1.getD (4 * (n + j) + b - 4) 0 ^^^ (expN key n J).1.getD (4 * j + b) 0 := by
  rw [expN_word hk hn h hb, Nat.xor_comm]
  congr 1
  unfold keyT
  dsimp only
  rw [if_neg h2, if_neg h1, expN_get hk hn (j := j) (J := J) (i := 4 * (n + j) + b - 4) (by omega) (by omega), List.getD_eq_getElem?_getD, List.getD_eq_getElem?_getD, List.getElem?_drop]
  congr 2
  omega
end
theorem expB_len {key : List Nat} (h : key.length = 16 ∨ key.length = 32) : (expB key).length = 4 * key.length + 112 := by
  unfold expB
  rcases h with h | h
  · rw [expN_len (by rw [h]) (by rw [h]; decide), h]
  · rw [expN_len (by rw [h]) (by rw [h]; decide), h]
theorem expB_lt {key : List Nat} (hk : ∀ x ∈ key, x < 256) : ∀ x ∈ expB key, x < 256 := (expN_lt hk _).1
/-- a key's round keys begin with it. -/
theorem expB_take {key : List Nat} (h : key.length = 16 ∨ key.length = 32) : (expB key).take key.length = key := by
  unfold expB
  rcases h with h | h
  · have := expN_take (key := key) (n := key.length / 4) (by rw [h]) (by rw [h]; decide) (j := 0) (J := 3 * (key.length / 4) + 28) (by omega)
    rw [h] at this ⊢
    exact this
  · have := expN_take (key := key) (n := key.length / 4) (by rw [h]) (by rw [h]; decide) (j := 0) (J := 3 * (key.length / 4) + 28) (by omega)
    rw [h] at this ⊢
    exact this
theorem expB_inj {k l : List Nat} (h : k.length = 16 ∨ k.length = 32) (hl : l.length = k.length) (he : expB k = expB l) : k = l := by
  rw [← expB_take h, he, ← hl, expB_take (by rw [hl]; exact h)]
/-- the round keys, by their number. -/
def keyK (key : List Nat) (r : Nat) : List Nat := ((expB key).drop (16 * r)).take 16
/-- how many rounds. -/
def rndsN (key : List Nat) : Nat := key.length / 4 + 6
theorem keyK_blk {key : List Nat} (h : key.length = 16 ∨ key.length = 32) (hk : ∀ x ∈ key, x < 256) {r : Nat} (hr : r ≤ rndsN key) : Blk (keyK key r) :=
  ⟨by
    have := expB_len h
    unfold rndsN at hr
    rw [keyK, List.length_take, List.length_drop, this]
    omega, fun x hx => expB_lt hk x (List.mem_of_mem_drop (List.mem_of_mem_take hx))⟩
/-- a block, encrypted; decrypted. -/
def aesE (key s : List Nat) : List Nat := encB (keyK key) (rndsN key) s
def aesD (key s : List Nat) : List Nat := decB (keyK key) (rndsN key) s
section
variable {key s t : List Nat} (h : key.length = 16 ∨ key.length = 32) (hk : ∀ x ∈ key, x < 256)
include h hk
theorem aesE_blk (hs : Blk s) : Blk (aesE key s) := encB_blk (fun _ => keyK_blk h hk) hs
theorem aesD_blk (hs : Blk s) : Blk (aesD key s) := decB_blk (fun _ => keyK_blk h hk) hs
theorem aesD_E (hs : Blk s) : aesD key (aesE key s) = s := dec_enc (fun _ => keyK_blk h hk) hs
theorem aesE_D (hs : Blk s) : aesE key (aesD key s) = s := enc_dec (fun _ => keyK_blk h hk) hs
theorem aesE_inj (hs : Blk s) (ht : Blk t) (he : aesE key s = aesE key t) : s = t := enc_inj (fun _ => keyK_blk h hk) hs ht he
end
end Go.Proofs.Ytjfeloimlgfocaa
