/-
  Layer 12: contracts of bucket.isSize, number, Home, crowded, used, round, way: numbers, and iterators that are not run. No conditions.
-/
import Derived.Test.YtglcckpkbnppoaaBuxK
import Derived.Test.YtglcckpkbnppoaaGCo2
namespace Go.Proofs.Ytglcckpkbnppoaa
open Go.RowKit Go.Shelf
attribute [local go_sem] Oper.semAt_some

abbrev bktA (b : Bkt12) : Array Value := #[.int .i64 b.st, .string b.l, .string b.c]
abbrev bktV (b : Bkt12) : Value := .agg (bktA b)
abbrev flB (B : List Bkt12) : List Value := B.flatMap fun b => [.int .i64 b.st, .string b.l, .string b.c]
theorem flB_len (B : List Bkt12) : (flB B).length = B.length * 3 := by
  induction B with
  | nil => rfl
  | cons x r ih => rw [flB, List.flatMap_cons, List.length_append, ih, List.length_cons]; simp only [List.length_cons, List.length_nil]; omega
theorem flB_at {B : List Bkt12} {k : Nat} {x : Bkt12} (h : B[k]? = some x) (j : Nat) (hj : j < 3) : (flB B)[k * 3 + j]? = ([.int .i64 x.st, .string x.l, .string x.c] : List Value)[j]? := by
  induction B generalizing k with
  | nil => rw [List.getElem?_nil] at h; cases h
  | cons y r ih =>
    rw [flB, List.flatMap_cons, List.getElem?_append]
    cases k with
    | zero => cases h; rw [if_pos (by show 0 * 3 + j < 3; omega), Nat.zero_mul, Nat.zero_add]
    | succ k =>
      rw [List.getElem?_cons_succ] at h
      rw [if_neg (by show ¬ (k + 1) * 3 + j < 3; omega), ← ih h]
      congr 1
      show (k + 1) * 3 + j - 3 = _
      omega
theorem flB_one (B : List Bkt12) : ∀ u ∈ flB B, u.oneCell' = true := fun u hu => by
  obtain ⟨x, _, hx⟩ := List.mem_flatMap.1 hu
  simp only [List.mem_cons, List.not_mem_nil, or_false] at hx
  rcases hx with rfl | rfl | rfl <;> rfl
theorem flB_take (B : List Bkt12) : ∀ k, flB (B.take k) = (flB B).take (k * 3) := by
  induction B with
  | nil => intro k; simp [flB]
  | cons x r ih =>
    intro k
    cases k with
    | zero => simp [flB]
    | succ k =>
      have e : (k + 1) * 3 = k * 3 + 1 + 1 + 1 := by omega
      rw [List.take_succ_cons, e]
      show [Value.int .i64 x.st, .string x.l, .string x.c] ++ flB (r.take k) = ([Value.int .i64 x.st, .string x.l, .string x.c] ++ flB r).take (k * 3 + 1 + 1 + 1)
      rw [ih k]
      rfl
theorem flB_app (A B : List Bkt12) : flB (A ++ B) = flB A ++ flB B := by simp [flB]
/-- where a bucket lies. -/
theorem InV.bkt {W : World} {A : Option Addr} {B : List Bkt12} (h : InV W A (flB B)) {k : Nat} {x : Bkt12} (hx : B[k]? = some x) :
    ∃ b off, A = some ⟨b, off, none⟩ ∧ b < W.heap.size ∧ W.rangeAt b (off + k * 3) [.int .i64 x.st, .string x.l, .string x.c] := by
  obtain ⟨b, off, rfl, hb, h0⟩ := h (k * 3 + 0) (.int .i64 x.st) ((flB_at hx 0 (by omega)).trans rfl)
  refine ⟨b, off, rfl, hb, fun j v hj => ?_⟩
  have hj2 : j < 3 := (List.getElem?_eq_some_iff.1 hj).1
  obtain ⟨b2, off2, e, _, h1⟩ := h (k * 3 + j) v ((flB_at hx j hj2).trans hj)
  cases e
  rw [← h1, Nat.add_assoc]
theorem InV.blkB {W : World} {A : Option Addr} {B : List Bkt12} (h : InV W A (flB B)) : ∀ p, A = some p → B ≠ [] → p.block < W.heap.size := fun p e hn => by
  cases B with
  | nil => exact absurd rfl hn
  | cons x r =>
    obtain ⟨b, off, e2, hb, _⟩ := h 0 (.int .i64 x.st) rfl
    rw [e] at e2
    cases e2
    exact hb
abbrev stoA (s : Sto12) (A : Option Addr) (c : Nat) : Array Value := #[.slice A s.B.length c, .int .i64 s.many, .int .i64 s.gone]
abbrev stoV (s : Sto12) (A : Option Addr) (c : Nat) : Value := .agg (stoA s A c)
/-- what lies where a store's slice points to. -/
structure InS (W : World) (s : Sto12) (A : Option Addr) (c : Nat) : Prop where
  b : InV W A (flB s.B)
  nil : A = none → c = 0
  cap : s.B.length ≤ c
  fit : s.B.length * 40 ≤ 140737488355328
theorem InS.keep {W W' : World} {s : Sto12} {A : Option Addr} {c : Nat} (h : InS W s A c) (hb : Below W.heap.size W W') : InS W' s A c := ⟨h.b.keep hb, h.nil, h.cap, h.fit⟩
theorem infoSto12 : (Try.prog.info? 31).map (·.size) = some 3 := by kernel_rfl
theorem infoBkt12 : (Try.prog.info? 25).map (·.size) = some 3 := by kernel_rfl
abbrev encB12 (b : Bkt12) : Array Value := #[bktV b]
abbrev encR12 (p : Nat × Bkt12) : Array Value := #[.int .i64 (p.1 : Int), bktV p.2]

/-! ### Sizes -/
theorem size_pow12 (n : Int) : size12 n = true ↔ ∃ j, j < 10 ∧ n = 8 * 2 ^ j := by
  simp only [size12, sizes12, List.mem_cons, List.not_mem_nil, or_false, decide_eq_true_eq]
  constructor
  · rintro (h | h | h | h | h | h | h | h | h | h)
    · exact ⟨0, by decide, h⟩
    · exact ⟨1, by decide, h⟩
    · exact ⟨2, by decide, h⟩
    · exact ⟨3, by decide, h⟩
    · exact ⟨4, by decide, h⟩
    · exact ⟨5, by decide, h⟩
    · exact ⟨6, by decide, h⟩
    · exact ⟨7, by decide, h⟩
    · exact ⟨8, by decide, h⟩
    · exact ⟨9, by decide, h⟩
  · rintro ⟨j, hj, rfl⟩
    rcases (by omega : j = 0 ∨ j = 1 ∨ j = 2 ∨ j = 3 ∨ j = 4 ∨ j = 5 ∨ j = 6 ∨ j = 7 ∨ j = 8 ∨ j = 9) with rfl | rfl | rfl | rfl | rfl | rfl | rfl | rfl | rfl | rfl <;> decide
theorem pow_le12 : ∀ k : Nat, k ≤ 10 → (8 * 2 ^ k : Int) ≤ 8192 ∧ (0 : Int) < 8 * 2 ^ k := by
  intro k hk
  rcases (by omega : k = 0 ∨ k = 1 ∨ k = 2 ∨ k = 3 ∨ k = 4 ∨ k = 5 ∨ k = 6 ∨ k = 7 ∨ k = 8 ∨ k = 9 ∨ k = 10) with rfl | rfl | rfl | rfl | rfl | rfl | rfl | rfl | rfl | rfl | rfl <;> decide
theorem pow_lt12 : ∀ k : Nat, k ≤ 10 → ((8 * 2 ^ k : Int) ≤ 4096 ↔ k < 10) := by
  intro k hk
  rcases (by omega : k = 0 ∨ k = 1 ∨ k = 2 ∨ k = 3 ∨ k = 4 ∨ k = 5 ∨ k = 6 ∨ k = 7 ∨ k = 8 ∨ k = 9 ∨ k = 10) with rfl | rfl | rfl | rfl | rfl | rfl | rfl | rfl | rfl | rfl | rfl <;> decide
set_option maxRecDepth 100000 in
set_option maxHeartbeats 1000000 in
theorem isSize_any12 (n : Int) (w : World) :
    Calls Try.prog 31 #[.int .i64 n] w fun e w' => e = .returned (.bool (size12 n)) ∧ w = w' := by
  have HN := Lib.hid (size_pow12 n)
  generalize size12 n = R at *
  go_enter Try.func31, Try.ntmps31
  go_wp2
  go_loopw [3] (fun i wr => ∃ k : Nat, k ≤ 10 ∧ i = .int .i64 (8 * 2 ^ k : Int) ∧ (∀ j, j < k → n ≠ 8 * 2 ^ j) ∧ w = wr) (fun i _ => 8193 - (intOf i).toNat)
  case atStart => exact ⟨0, by omega, rfl, fun j hj => absurd hj (Nat.not_lt_zero _), rfl⟩
  case round =>
    obtain ⟨k, hk, rfl, hno, rfl⟩ := hrel
    have hp := pow_le12 k hk
    have hlt := pow_lt12 k hk
    have hs : (8 * 2 ^ k : Int) * 2 = 8 * 2 ^ (k + 1) := by rw [Int.pow_succ]; omega
    have HS := Lib.hid hs
    have HNO := Lib.hid hno
    clear hno hs
    have hk10 := Lib.hid hk
    by_cases h1 : k < 10
    · have h2 : (8 * 2 ^ k : Int) ≤ 4096 := hlt.2 h1
      have HE := Lib.hid (⟨k, h1, rfl⟩ : ∃ j, j < 10 ∧ (8 * 2 ^ k : Int) = 8 * 2 ^ j)
      have H1 := Lib.hid h1
      clear hlt hk h1
      have HG : Hid (∀ j, n = (8 * 2 ^ k : Int) → j = k → n = 8 * 2 ^ j) := Lib.hid (fun j e e2 => by rw [e, e2])
      obtain ⟨P, hP⟩ : ∃ P : Int, P = 8 * 2 ^ k := ⟨_, rfl⟩
      rw [← hP] at h2 HS hp HE HG ⊢
      have HP := Lib.hid hP
      clear hP
      have wm := IntWalk.i64_in (P * 2) (by omega)
      by_cases h3 : n = P
      · have h4 : R = true := by
          have hh := HN.out
          have hx : ∃ j, j < 10 ∧ n = 8 * 2 ^ j := by rw [h3]; exact HE.out
          exact hh.2 hx
        subst h4
        subst h3
        go_wp2
        go_ret
        exact ⟨rfl, rfl⟩
      · have H3 := Lib.hid h3
        go_wp2
        go_roundw
        case rel =>
          refine ⟨k + 1, by have := H1.out; omega, by rw [← HS.out], fun j hj => ?_, trivial⟩
          by_cases hjk : j = k
          · subst hjk; rw [← HP.out]; exact H3.out
          · exact HNO.out j (by omega)
        case measure => simp [intOf]; omega
    · obtain rfl : k = 10 := by have := hk10.out; omega
      have h2 : ¬ ((8 * 2 ^ 10 : Int) ≤ 4096) := by decide
      have h4 : R = false := by
        rw [← Bool.not_eq_true]
        intro hr
        obtain ⟨j, hj, e⟩ := HN.out.1 hr
        exact HNO.out j hj e
      subst h4
      go_wp2
      go_ret
      exact ⟨rfl, rfl⟩
/-! ### Homes -/
def homV12 (l : ByteArray) (n : Int) : Int := if l.size < 4 ∨ n < 1 then 0 else (rd10 l 0 : Int) % n
theorem homV_nat12 (l : ByteArray) {n : Nat} (h : 0 < n) : homV12 l (n : Int) = (hom12 l n : Int) := by
  unfold homV12 hom12
  by_cases h1 : l.size < 4
  · rw [if_pos (.inl h1), if_pos h1]; rfl
  · rw [if_neg (by omega), if_neg h1]; rfl
theorem rdk_cut12 (l : ByteArray) (h : 4 ≤ l.size) : ∀ k, k ≤ 4 → rdk10 (l.extract 0 4) k = rdk10 l k
  | 0, _ => rfl
  | k + 1, hk => by
    rw [rdk10, rdk10, rdk_cut12 l h k (by omega)]
    congr 1
    have := bt7_extract l 0 4 k (by omega) h
    rwa [Nat.zero_add] at this
set_option maxRecDepth 100000 in
set_option maxHeartbeats 2000000 in
theorem number_any12 (s : ByteArray) (w : World) (h : s.size = 4) :
    Calls Try.prog 33 #[.string s] w fun e w' => e = .returned (.int .i64 (rdk10 s 4 : Int)) ∧ w = w' := by
  have HBD := Lib.hid (rdk_bd10 s)
  have H4 := Lib.hid h
  have h4 : (s.size : Int) = 4 := by omega
  clear h
  go_enter Try.func33, Try.ntmps33
  go_wp2
  go_loopw [3, 7] (fun n i wr => ∃ k : Nat, k ≤ 4 ∧ i = .int .i64 (k : Int) ∧ n = .int .i64 (rdk10 s k : Int) ∧ w = wr) (fun _ i _ => 4 - (intOf i).toNat)
  case atStart => exact ⟨0, by omega, rfl, rfl, rfl⟩
  case round =>
    obtain ⟨k, hk, rfl, rfl, rfl⟩ := hrel
    by_cases hlt : k < 4
    · have h2 : (k : Int) < 4 := by omega
      have hb := HBD.out k hlt
      have HST := Lib.hid (show rdk10 s (k + 1) = 256 * rdk10 s k + bt7 s k from rfl)
      have hkl : k < s.size := by have := H4.out; omega
      have hget := bt7_get hkl
      have hbl := bt7_lt s k
      generalize rdk10 s k = y at *
      generalize bt7 s k = z at *
      have wp := IntWalk.i64_in ((y : Int) * 256) (by omega)
      have hor := tor10 y z hb hbl
      go_wp2
      go_roundw
      case rel => exact ⟨k + 1, by omega, by go_num, by rw [HST.out]; go_num, trivial⟩
      case measure => simp [intOf]; omega
    · have h2 : ¬ (k : Int) < 4 := by omega
      obtain rfl : k = 4 := by omega
      go_wp2
      go_ret
      exact ⟨rfl, rfl⟩
set_option maxRecDepth 100000 in
set_option maxHeartbeats 2000000 in
theorem home_any12 (l : ByteArray) (n : Int) (w : World) (hn : -9223372036854775808 ≤ n ∧ n ≤ 9223372036854775807) :
    Calls Try.prog 14 #[.string l, .int .i64 n] w fun e w' => e = .returned (.int .i64 (homV12 l n)) ∧ w = w' := by
  obtain ⟨R, hR⟩ : ∃ R, R = homV12 l n := ⟨_, rfl⟩
  rw [← hR]
  have HR := Lib.hid hR
  clear hR
  by_cases h4 : l.size < 4
  · have h1 : (l.size : Int) < 4 := by omega
    obtain rfl : R = 0 := by rw [HR.out, homV12, if_pos (.inl h4)]
    go_enter Try.func14, Try.ntmps14
    go_wp2
    go_ret
    exact ⟨rfl, rfl⟩
  · have h1 : ¬ (l.size : Int) < 4 := by omega
    by_cases h2 : n < 1
    · obtain rfl : R = 0 := by rw [HR.out, homV12, if_pos (.inr h2)]
      go_enter Try.func14, Try.ntmps14
      go_wp2
      go_ret
      exact ⟨rfl, rfl⟩
    · have hr : R = (rd10 l 0 : Int) % n := by rw [HR.out, homV12, if_neg (by omega)]
      have hsz : (l.extract 0 4).size = 4 := by rw [ByteArray.size_extract]; omega
      have HC := Lib.hid (number_any12 (l.extract 0 4) w hsz)
      have hrk : rdk10 (l.extract 0 4) 4 = rd10 l 0 := by rw [rdk_cut12 l (by omega) 4 (by omega), rdk_four10]
      rw [hrk] at HC
      have hlt := rd_lt10 l 0
      have hm : (rd10 l 0 : Int) % n < n := Int.emod_lt_of_pos _ (by omega)
      have hm0 : 0 ≤ (rd10 l 0 : Int) % n := Int.emod_nonneg _ (by omega)
      have ht : Int.tmod (rd10 l 0 : Int) n = (rd10 l 0 : Int) % n := Int.tmod_eq_emod_of_nonneg (by omega)
      have h4' : 4 ≤ l.size := by omega
      have HR2 := Lib.hid hr
      generalize rd10 l 0 = y at *
      clear HR hr
      go_enter Try.func14, Try.ntmps14
      go_wp2_with (go_at_call 33; refine HC.out.mono ?_; rintro e w1 ⟨rfl, rfl⟩)
      go_ret
      exact ⟨by rw [HR2.out]; rfl, rfl⟩
end Go.Proofs.Ytglcckpkbnppoaa
