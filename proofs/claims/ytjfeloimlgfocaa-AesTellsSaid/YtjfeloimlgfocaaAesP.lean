/-
  Plain facts on layer 4: blocks of sixteen bytes, rounds and what undoes them. Nothing of the program stands here.
-/
import Derived.Test.YtjfeloimlgfocaaFldM
import Derived.Test.YtjfeloimlgfocaaFldI
namespace Go.Proofs.Ytjfeloimlgfocaa

/-- a block: sixteen bytes. -/
structure Blk (s : List Nat) : Prop where
  len : s.length = 16
  lt : ∀ x ∈ s, x < 256
theorem list16 {α : Type} {s : List α} (h : s.length = 16) : ∃ a0 a1 a2 a3 a4 a5 a6 a7 a8 a9 a10 a11 a12 a13 a14 a15, s = [a0, a1, a2, a3, a4, a5, a6, a7, a8, a9, a10, a11, a12, a13, a14, a15] := by
  match s, h with
  | [a0, a1, a2, a3, a4, a5, a6, a7, a8, a9, a10, a11, a12, a13, a14, a15], _ => exact ⟨_, _, _, _, _, _, _, _, _, _, _, _, _, _, _, _, rfl⟩
/-- four bytes as a list. -/
def C4.nl (x : C4) : List Nat := [x.a, x.b, x.c, x.d]
theorem C4.nl_lt {x : C4} (h : x.Ok) : ∀ y ∈ x.nl, y < 256 := by
  intro y hy
  simp only [C4.nl, List.mem_cons, List.not_mem_nil, or_false] at hy
  rcases hy with rfl | rfl | rfl | rfl
  · exact h.a
  · exact h.b
  · exact h.c
  · exact h.d
/-- a column of a list. -/
def colN (s : List Nat) (c : Nat) : C4 := ⟨s.getD (4 * c) 0, s.getD (4 * c + 1) 0, s.getD (4 * c + 2) 0, s.getD (4 * c + 3) 0⟩
theorem getD_lt {s : List Nat} (h : ∀ x ∈ s, x < 256) (i : Nat) : s.getD i 0 < 256 := by
  rw [List.getD_eq_getElem?_getD]
  by_cases hi : i < s.length
  · rw [List.getElem?_eq_getElem hi]; exact h _ (List.getElem_mem hi)
  · rw [List.getElem?_eq_none (by omega)]; decide
theorem colN_ok {s : List Nat} (h : ∀ x ∈ s, x < 256) (c : Nat) : (colN s c).Ok := ⟨getD_lt h _, getD_lt h _, getD_lt h _, getD_lt h _⟩
def mixL (s : List Nat) : List Nat := (mixC (colN s 0)).nl ++ (mixC (colN s 1)).nl ++ (mixC (colN s 2)).nl ++ (mixC (colN s 3)).nl
def unC3 (x : C4) : C4 := mixC (mixC (mixC x))
def unmixL (s : List Nat) : List Nat := (unC3 (colN s 0)).nl ++ (unC3 (colN s 1)).nl ++ (unC3 (colN s 2)).nl ++ (unC3 (colN s 3)).nl
def shiftL (s : List Nat) (b : Nat) : List Nat := (List.range 16).map fun i => s.getD (4 * ((i / 4 + b * (i % 4)) % 4) + i % 4) 0
def xorB (a b : List Nat) : List Nat := List.zipWith (· ^^^ ·) a b
def subL (s : List Nat) : List Nat := s.map subN
def backL (s : List Nat) : List Nat := s.map backN

theorem Blk.map {s : List Nat} (h : Blk s) {f : Nat → Nat} (hf : ∀ x, x < 256 → f x < 256) : Blk (s.map f) :=
  ⟨by rw [List.length_map, h.len], fun x hx => by
    obtain ⟨y, hy, rfl⟩ := List.mem_map.1 hx
    exact hf y (h.lt y hy)⟩
theorem Blk.sub {s : List Nat} (h : Blk s) : Blk (subL s) := h.map fun _ hx => (inv_at hx).s
theorem Blk.back {s : List Nat} (h : Blk s) : Blk (backL s) := h.map fun _ hx => (inv_at hx).b
theorem backL_subL {s : List Nat} (h : Blk s) : backL (subL s) = s := by
  rw [backL, subL, List.map_map]
  conv => rhs; rw [← List.map_id s]
  exact List.map_congr_left fun x hx => (inv_at (h.lt x hx)).bs
theorem subL_backL {s : List Nat} (h : Blk s) : subL (backL s) = s := by
  rw [backL, subL, List.map_map]
  conv => rhs; rw [← List.map_id s]
  exact List.map_congr_left fun x hx => (inv_at (h.lt x hx)).sb
theorem Blk.xor {s k : List Nat} (h : Blk s) (hk : Blk k) : Blk (xorB s k) :=
  ⟨by rw [xorB, List.length_zipWith, h.len, hk.len]; rfl, fun x hx => by
    obtain ⟨i, hi, rfl⟩ := List.getElem_of_mem hx
    simp only [xorB, List.getElem_zipWith]
    exact xor_lt (h.lt _ (List.getElem_mem _)) (hk.lt _ (List.getElem_mem _))⟩
theorem xorB_xorB {s k : List Nat} (h : s.length = k.length) : xorB (xorB s k) k = s := by
  apply List.ext_getElem
  · simp [xorB, h]
  · intro i h1 h2
    simp only [xorB, List.getElem_zipWith]
    rw [Nat.xor_assoc, Nat.xor_self, Nat.xor_zero]
theorem Blk.shift {s : List Nat} (h : Blk s) (b : Nat) : Blk (shiftL s b) :=
  ⟨by simp [shiftL], fun x hx => by
    obtain ⟨y, hy, rfl⟩ := List.mem_map.1 hx
    exact getD_lt h.lt _⟩
theorem shift_31 {s : List Nat} (h : s.length = 16) : shiftL (shiftL s 1) 3 = s := by
  obtain ⟨a0, a1, a2, a3, a4, a5, a6, a7, a8, a9, a10, a11, a12, a13, a14, a15, rfl⟩ := list16 h
  rfl
theorem shift_13 {s : List Nat} (h : s.length = 16) : shiftL (shiftL s 3) 1 = s := by
  obtain ⟨a0, a1, a2, a3, a4, a5, a6, a7, a8, a9, a10, a11, a12, a13, a14, a15, rfl⟩ := list16 h
  rfl
theorem Blk.cols {f : C4 → C4} (hf : ∀ x : C4, x.Ok → (f x).Ok) {s : List Nat} (h : Blk s) : Blk ((f (colN s 0)).nl ++ (f (colN s 1)).nl ++ (f (colN s 2)).nl ++ (f (colN s 3)).nl) :=
  ⟨rfl, fun x hx => by
    simp only [List.mem_append] at hx
    rcases hx with ((hx | hx) | hx) | hx
    · exact C4.nl_lt (hf _ (colN_ok h.lt 0)) x hx
    · exact C4.nl_lt (hf _ (colN_ok h.lt 1)) x hx
    · exact C4.nl_lt (hf _ (colN_ok h.lt 2)) x hx
    · exact C4.nl_lt (hf _ (colN_ok h.lt 3)) x hx⟩
theorem Blk.mix {s : List Nat} (h : Blk s) : Blk (mixL s) := Blk.cols (fun _ => mixC_ok) h
theorem unC3_ok {x : C4} (h : x.Ok) : (unC3 x).Ok := mixC_ok (mixC_ok (mixC_ok h))
theorem Blk.unmix {s : List Nat} (h : Blk s) : Blk (unmixL s) := Blk.cols (fun _ => unC3_ok) h
theorem cols_cols {f g : C4 → C4} (s : List Nat) (hfg : ∀ c, g (f (colN s c)) = colN s c) (h : s.length = 16) (u : List Nat)
    (hu : u = (f (colN s 0)).nl ++ (f (colN s 1)).nl ++ (f (colN s 2)).nl ++ (f (colN s 3)).nl) : (g (colN u 0)).nl ++ (g (colN u 1)).nl ++ (g (colN u 2)).nl ++ (g (colN u 3)).nl = s := by
  have c0 : colN u 0 = f (colN s 0) := by rw [hu]; rfl
  have c1 : colN u 1 = f (colN s 1) := by rw [hu]; rfl
  have c2 : colN u 2 = f (colN s 2) := by rw [hu]; rfl
  have c3 : colN u 3 = f (colN s 3) := by rw [hu]; rfl
  rw [c0, c1, c2, c3, hfg, hfg, hfg, hfg]
  obtain ⟨a0, a1, a2, a3, a4, a5, a6, a7, a8, a9, a10, a11, a12, a13, a14, a15, rfl⟩ := list16 h
  rfl
theorem unmix_mix {s : List Nat} (h : Blk s) : unmixL (mixL s) = s :=
  cols_cols (f := mixC) (g := unC3) s (fun c => mixC_4 (colN_ok h.lt c)) h.len _ rfl
theorem mix_unmix {s : List Nat} (h : Blk s) : mixL (unmixL s) = s :=
  cols_cols (f := unC3) (g := mixC) s (fun c => mixC_4 (colN_ok h.lt c)) h.len _ rfl

/-- a round, and what undoes it; in the last one nothing is mixed. -/
def rndN (k : List Nat) (m : Bool) (s : List Nat) : List Nat := xorB (if m then mixL (shiftL (subL s) 1) else shiftL (subL s) 1) k
def undN (k : List Nat) (m : Bool) (s : List Nat) : List Nat := backL (shiftL (if m then unmixL (xorB s k) else xorB s k) 3)
theorem Blk.rnd {s k : List Nat} (h : Blk s) (hk : Blk k) (m : Bool) : Blk (rndN k m s) := by
  unfold rndN
  cases m
  · exact (h.sub.shift 1).xor hk
  · exact (h.sub.shift 1).mix.xor hk
theorem Blk.und {s k : List Nat} (h : Blk s) (hk : Blk k) (m : Bool) : Blk (undN k m s) := by
  unfold undN
  cases m
  · exact ((h.xor hk).shift 3).back
  · exact ((h.xor hk).unmix.shift 3).back
theorem und_rnd {s k : List Nat} (h : Blk s) (hk : Blk k) (m : Bool) : undN k m (rndN k m s) = s := by
  have h1 := h.sub.shift 1
  unfold undN rndN
  cases m
  · simp only [Bool.false_eq_true, if_false]
    rw [xorB_xorB (by rw [h1.len, hk.len]), shift_31 h.sub.len, backL_subL h]
  · simp only [if_true]
    rw [xorB_xorB (by rw [h1.mix.len, hk.len]), unmix_mix h1, shift_31 h.sub.len, backL_subL h]
theorem rnd_und {s k : List Nat} (h : Blk s) (hk : Blk k) (m : Bool) : rndN k m (undN k m s) = s := by
  have h1 := h.xor hk
  unfold undN rndN
  cases m
  · simp only [Bool.false_eq_true, if_false]
    rw [subL_backL (h1.shift 3), shift_13 h1.len, xorB_xorB (by rw [h.len, hk.len])]
  · simp only [if_true]
    rw [subL_backL (h1.unmix.shift 3), shift_13 h1.unmix.len, mix_unmix h1, xorB_xorB (by rw [h.len, hk.len])]

/-- a block behind so many rounds of R. -/
def encN (K : Nat → List Nat) (R : Nat) (s : List Nat) : Nat → List Nat
  | 0 => xorB s (K 0)
  | i + 1 => rndN (K (i + 1)) (decide (i + 1 < R)) (encN K R s i)
/-- a block of which so many rounds are undone, from the last one on. -/
def decN (K : Nat → List Nat) (R : Nat) (s : List Nat) : Nat → List Nat
  | 0 => s
  | j + 1 => undN (K (R - j)) (decide (R - j < R)) (decN K R s j)
def encB (K : Nat → List Nat) (R : Nat) (s : List Nat) : List Nat := encN K R s R
def decB (K : Nat → List Nat) (R : Nat) (s : List Nat) : List Nat := xorB (decN K R s R) (K 0)
section
variable {K : Nat → List Nat} {R : Nat}
theorem encN_blk (hK : ∀ i, i ≤ R → Blk (K i)) {s : List Nat} (h : Blk s) : ∀ i, i ≤ R → Blk (encN K R s i)
  | 0, _ => h.xor (hK 0 (by omega))
  | i + 1, hi => (encN_blk hK h i (by omega)).rnd (hK (i + 1) hi) _
theorem decN_blk (hK : ∀ i, i ≤ R → Blk (K i)) {s : List Nat} (h : Blk s) : ∀ j, j ≤ R → Blk (decN K R s j)
  | 0, _ => h
  | j + 1, hj => (decN_blk hK h j (by omega)).und (hK (R - j) (by omega)) _
theorem encB_blk (hK : ∀ i, i ≤ R → Blk (K i)) {s : List Nat} (h : Blk s) : Blk (encB K R s) := encN_blk hK h R (Nat.le_refl _)
theorem decB_blk (hK : ∀ i, i ≤ R → Blk (K i)) {s : List Nat} (h : Blk s) : Blk (decB K R s) := (decN_blk hK h R (Nat.le_refl _)).xor (hK 0 (by omega))
theorem dec_enc (hK : ∀ i, i ≤ R → Blk (K i)) {s : List Nat} (h : Blk s) : decB K R (encB K R s) = s := by
  have key : ∀ j, j ≤ R → decN K R (encB K R s) j = encN K R s (R - j) := by
    intro j
    induction j with
    | zero => intro _; rfl
    | succ j ih =>
      intro hj
      obtain ⟨m, hm⟩ : ∃ m, R - j = m + 1 := ⟨R - j - 1, by omega⟩
      have e : R - (j + 1) = m := by omega
      show undN (K (R - j)) (decide (R - j < R)) (decN K R (encB K R s) j) = _
      rw [ih (by omega), e, hm]
      show undN (K (m + 1)) (decide (m + 1 < R)) (rndN (K (m + 1)) (decide (m + 1 < R)) (encN K R s m)) = _
      exact und_rnd (encN_blk hK h m (by omega)) (hK (m + 1) (by omega)) _
  unfold decB
  rw [key R (Nat.le_refl _), Nat.sub_self]
  show xorB (xorB s (K 0)) (K 0) = s
  exact xorB_xorB (by rw [h.len, (hK 0 (by omega)).len])
theorem enc_dec (hK : ∀ i, i ≤ R → Blk (K i)) {s : List Nat} (h : Blk s) : encB K R (decB K R s) = s := by
  have key : ∀ i, i ≤ R → encN K R (decB K R s) i = decN K R s (R - i) := by
    intro i
    induction i with
    | zero =>
      intro _
      show xorB (xorB (decN K R s R) (K 0)) (K 0) = decN K R s R
      exact xorB_xorB (by rw [(decN_blk hK h R (Nat.le_refl _)).len, (hK 0 (by omega)).len])
    | succ i ih =>
      intro hi
      obtain ⟨m, hm⟩ : ∃ m, R - i = m + 1 := ⟨R - i - 1, by omega⟩
      have e : R - (i + 1) = m := by omega
      have e2 : R - m = i + 1 := by omega
      show rndN (K (i + 1)) (decide (i + 1 < R)) (encN K R (decB K R s) i) = _
      rw [ih (by omega), e, hm]
      show rndN (K (i + 1)) (decide (i + 1 < R)) (undN (K (R - m)) (decide (R - m < R)) (decN K R s m)) = _
      rw [e2]
      exact rnd_und (decN_blk hK h m (by omega)) (hK (i + 1) (by omega)) _
  unfold encB
  rw [key R (Nat.le_refl _), Nat.sub_self]
  rfl
/-- unlike blocks are encrypted to unlike blocks. -/
theorem enc_inj (hK : ∀ i, i ≤ R → Blk (K i)) {s t : List Nat} (hs : Blk s) (ht : Blk t) (h : encB K R s = encB K R t) : s = t := by
  rw [← dec_enc hK hs, h, dec_enc hK ht]
end
end Go.Proofs.Ytjfeloimlgfocaa
