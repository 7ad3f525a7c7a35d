/-
  Layer 8, plain: an ideal as lists; what is told of it, errors and all. Nothing of the program stands here.
  Layer 8, plain: what was answered once is answered again; but for a clash unlike questions have unlike answers. Nothing of the program stands here.
  Layer 8, plain: ideals of a tape that is gone through from its beginning; questions asked anew. Nothing of the program stands here.
  Layer 8, plain: questions of both kinds, and what is known of those that were asked. Nothing of the program stands here.
  Layer 8, plain: two ideals of one tape that are asked unlike things, at the same times anew. Nothing of the program stands here.
-/
import Derived.Test.YtfgdcpolfekgjaaGreatGTp
import Derived.Laws.BytesArg
namespace Go.Proofs.YtfgdcpolfekgjaaGreat
open Go.RowKit

/-- is there one, and a later one, of which f is true? -/
def pairs8 {α : Type} (f : α → α → Bool) : List α → Bool
  | [] => false
  | x :: r => r.any (f x) || pairs8 f r
theorem pairs8_snoc {α : Type} (f : α → α → Bool) (l : List α) (y : α) : pairs8 f (l ++ [y]) = (pairs8 f l || l.any fun x => f x y) := by
  induction l with
  | nil => rfl
  | cons x r ih =>
    show ((r ++ [y]).any (f x) || pairs8 f (r ++ [y])) = ((r.any (f x) || pairs8 f r) || (f x y || r.any fun x => f x y))
    rw [ih, List.any_append]
    simp only [List.any_cons, List.any_nil, Bool.or_false]
    cases r.any (f x) <;> cases f x y <;> cases pairs8 f r <;> cases (r.any fun x => f x y) <;> rfl
theorem pairs8_iff {α : Type} (f : α → α → Bool) (l : List α) : pairs8 f l = true ↔ ∃ (k i : Nat) (x y : α), k < i ∧ l[k]? = some x ∧ l[i]? = some y ∧ f x y = true := by
  induction l with
  | nil =>
    refine ⟨fun h => (by cases h), fun ⟨k, i, x, y, _, h, _⟩ => ?_⟩
    rw [List.getElem?_nil] at h
    cases h
  | cons z r ih =>
    show (r.any (f z) || pairs8 f r) = true ↔ _
    rw [Bool.or_eq_true, ih, List.any_eq_true]
    constructor
    · rintro (⟨y, hy, hf⟩ | ⟨k, i, x, y, hk, hx, hy, hf⟩)
      · obtain ⟨i, hi, rfl⟩ := List.getElem_of_mem hy
        exact ⟨0, i + 1, z, r[i], by omega, rfl, by rw [List.getElem?_cons_succ, List.getElem?_eq_getElem hi], hf⟩
      · exact ⟨k + 1, i + 1, x, y, by omega, by rw [List.getElem?_cons_succ]; exact hx, by rw [List.getElem?_cons_succ]; exact hy, hf⟩
    · rintro ⟨k, i, x, y, hk, hx, hy, hf⟩
      cases k with
      | zero =>
        cases hx
        obtain ⟨j, rfl⟩ : ∃ j, i = j + 1 := ⟨i - 1, by omega⟩
        rw [List.getElem?_cons_succ] at hy
        exact .inl ⟨y, List.mem_of_getElem? hy, hf⟩
      | succ k =>
        obtain ⟨j, rfl⟩ : ∃ j, i = j + 1 := ⟨i - 1, by omega⟩
        rw [List.getElem?_cons_succ] at hx hy
        exact .inr ⟨k, j, x, y, by omega, hx, hy, hf⟩

abbrev Nam8 := ByteArray × ByteArray
abbrev Cel8 := ByteArray × ByteArray × ByteArray
/-- an ideal: a tape and its place, names, cells, and whether there is a clash. -/
structure Ide where
  B : ByteArray
  a : Int
  N : List Nam8
  K : List Cel8
  c : Bool
def sameIn (x y : Nam8) : Bool := decide (x.1 = y.1)
def sameOut (x y : Nam8) : Bool := decide (x.2 = y.2)
def sameAsk (x y : Cel8) : Bool := decide (x.1 = y.1) && decide (x.2.1 = y.2.1)
def sameCel (x y : Cel8) : Bool := decide (x.1 = y.1) && decide (x.2.2 = y.2.2)
def clash8 (N : List Nam8) (K : List Cel8) : Bool := pairs8 sameOut N || pairs8 sameCel K
def okN (x : Nam8) : Bool := decide (x.1.size ≤ 100) && decide (x.2.size = 16)
def okK (x : Cel8) : Bool := decide (x.1.size = 16) && (decide (x.2.1.size = 24) && decide (x.2.2.size = 40))
def right8 (d : Ide) : Bool :=
  rightV d.B d.a && (decide (d.N.length ≤ 2000) && (decide (d.K.length ≤ 2000) && ((d.N.all okN && !pairs8 sameIn d.N) && ((d.K.all okK && !pairs8 sameAsk d.K) && (d.c == clash8 d.N d.K)))))
structure Rit8 (d : Ide) : Prop where
  tape : rightV d.B d.a = true
  few : d.N.length ≤ 2000
  fewK : d.K.length ≤ 2000
  ok : d.N.all okN = true
  one : pairs8 sameIn d.N = false
  okK : d.K.all okK = true
  oneK : pairs8 sameAsk d.K = false
  clash : d.c = clash8 d.N d.K
theorem right8_iff (d : Ide) : right8 d = true ↔ Rit8 d := by
  simp only [right8, Bool.and_eq_true, decide_eq_true_eq, Bool.not_eq_true', beq_iff_eq]
  exact ⟨fun ⟨h1, h2, h3, ⟨h4, h5⟩, ⟨h6, h7⟩, h8⟩ => ⟨h1, h2, h3, h4, h5, h6, h7, h8⟩, fun h => ⟨h.tape, h.few, h.fewK, ⟨h.ok, h.one⟩, ⟨h.okK, h.oneK⟩, h.clash⟩⟩
/-- Label: what is told, the ideal behind it, the error. -/
def lab8 (d : Ide) (i : ByteArray) : ByteArray × Ide × Int :=
  if right8 d && decide (i.size ≤ 100) then
    match d.N.find? fun x => decide (x.1 = i) with
    | some x => (x.2, d, 0)
    | none =>
      if 2000 ≤ d.N.length then (⟨#[]⟩, d, 2)
      else if takeE d.B d.a 16 = 0 then (takeS d.B d.a 16, { d with a := d.a + 16, N := d.N ++ [(i, takeS d.B d.a 16)], c := clash8 (d.N ++ [(i, takeS d.B d.a 16)]) d.K }, 0)
      else (⟨#[]⟩, d, takeE d.B d.a 16)
  else (⟨#[]⟩, d, 1)
/-- Seal. -/
def sea8 (d : Ide) (l t : ByteArray) : ByteArray × Ide × Int :=
  if right8 d && (decide (l.size = 16) && decide (t.size = 24)) then
    match d.K.find? fun x => decide (x.1 = l) && decide (x.2.1 = t) with
    | some x => (x.2.2, d, 0)
    | none =>
      if 2000 ≤ d.K.length then (⟨#[]⟩, d, 2)
      else if takeE d.B d.a 40 = 0 then (takeS d.B d.a 40, { d with a := d.a + 40, K := d.K ++ [(l, t, takeS d.B d.a 40)], c := clash8 d.N (d.K ++ [(l, t, takeS d.B d.a 40)]) }, 0)
      else (⟨#[]⟩, d, takeE d.B d.a 40)
  else (⟨#[]⟩, d, 1)
/-- Open. -/
def ope8 (d : Ide) (l c : ByteArray) : ByteArray × Int :=
  if right8 d then
    match d.K.find? fun x => decide (x.1 = l) && decide (x.2.2 = c) with
    | some x => (x.2.1, 0)
    | none => (⟨#[]⟩, 11)
  else (⟨#[]⟩, 1)
/-- New. -/
def new8 (B : ByteArray) (a : Int) : Ide × Int := if rightV B a then (⟨B, a, [], [], false⟩, 0) else (⟨⟨#[]⟩, 0, [], [], false⟩, 1)
theorem new8_right {B : ByteArray} {a : Int} (h : rightV B a = true) : Rit8 (new8 B a).1 := by
  rw [new8, if_pos h]
  exact ⟨h, Nat.zero_le _, Nat.zero_le _, rfl, rfl, rfl, rfl, rfl⟩
theorem takeE_fine {B : ByteArray} {a n : Int} (h : takeE B a n = 0) : rightV B a = true ∧ 0 ≤ n ∧ a + n ≤ (B.size : Int) := by
  unfold takeE at h
  split at h
  · rename_i h1
    rw [Bool.and_eq_true, decide_eq_true_eq] at h1
    split at h
    · cases h
    · rename_i h2
      rw [leftV, if_pos h1.1] at h2
      exact ⟨h1.1, h1.2, by omega⟩
  · cases h
theorem takeS_size {B : ByteArray} {a : Int} {n : Nat} (h : takeE B a n = 0) : (takeS B a n).size = n := by
  obtain ⟨h1, _, h3⟩ := takeE_fine h
  obtain ⟨_, h4, _⟩ := rightV_iff.1 h1
  rw [takeS, if_pos h, ByteArray.size_extract]
  omega
theorem none_any {α : Type} {p : α → Bool} {l : List α} (h : l.find? p = none) : l.any p = false := by
  rw [List.any_eq_false]
  exact fun x hx => List.find?_eq_none.1 h x hx
/-- whatever is asked, a right one stays right. -/
theorem lab8_right {d : Ide} (h : Rit8 d) (i : ByteArray) : Rit8 (lab8 d i).2.1 := by
  unfold lab8
  split
  · rename_i hi
    rw [Bool.and_eq_true, decide_eq_true_eq] at hi
    split
    · exact h
    · rename_i hf
      split
      · exact h
      · rename_i hl
        split
        · rename_i ht
          obtain ⟨h1, _, h3⟩ := takeE_fine ht
          obtain ⟨g1, g2, g3⟩ := rightV_iff.1 h1
          have hs : (takeS d.B d.a 16).size = 16 := takeS_size (n := 16) ht
          refine ⟨rightV_iff.2 ⟨g1, by show 0 ≤ d.a + 16; omega, h3⟩, ?_, h.fewK, ?_, ?_, h.okK, h.oneK, rfl⟩
          · show (d.N ++ [_]).length ≤ 2000
            rw [List.length_append, List.length_singleton]; omega
          · show (d.N ++ [_]).all okN = true
            rw [List.all_append, h.ok]
            simp [okN, hi.2, hs]
          · show pairs8 sameIn (d.N ++ [_]) = false
            rw [pairs8_snoc, h.one, Bool.false_or]
            exact none_any hf
        · exact h
  · exact h
theorem sea8_right {d : Ide} (h : Rit8 d) (l t : ByteArray) : Rit8 (sea8 d l t).2.1 := by
  unfold sea8
  split
  · rename_i hi
    rw [Bool.and_eq_true, Bool.and_eq_true, decide_eq_true_eq, decide_eq_true_eq] at hi
    split
    · exact h
    · rename_i hf
      split
      · exact h
      · rename_i hl
        split
        · rename_i ht
          obtain ⟨h1, _, h3⟩ := takeE_fine ht
          obtain ⟨g1, g2, g3⟩ := rightV_iff.1 h1
          have hs : (takeS d.B d.a 40).size = 40 := takeS_size (n := 40) ht
          refine ⟨rightV_iff.2 ⟨g1, by show 0 ≤ d.a + 40; omega, h3⟩, h.few, ?_, h.ok, h.one, ?_, ?_, rfl⟩
          · show (d.K ++ [_]).length ≤ 2000
            rw [List.length_append, List.length_singleton]; omega
          · show (d.K ++ [_]).all okK = true
            rw [List.all_append, h.okK]
            simp [Go.Proofs.YtfgdcpolfekgjaaGreat.okK, hi.2.1, hi.2.2, hs]
          · show pairs8 sameAsk (d.K ++ [_]) = false
            rw [pairs8_snoc, h.oneK, Bool.false_or]
            exact none_any hf
        · exact h
  · exact h
end Go.Proofs.YtfgdcpolfekgjaaGreat
namespace Go.Proofs.YtfgdcpolfekgjaaGreat
open Go.RowKit

/-- two of a list of which f is true, one behind the other. -/
theorem pairs8_mem {α : Type} {f : α → α → Bool} (hs : ∀ x y, f x y = f y x) {l : List α} {x y : α} (hx : x ∈ l) (hy : y ∈ l) (hne : x ≠ y) (hf : f x y = true) : pairs8 f l = true := by
  obtain ⟨k, hk, rfl⟩ := List.getElem_of_mem hx
  obtain ⟨i, hi, rfl⟩ := List.getElem_of_mem hy
  rcases Nat.lt_trichotomy k i with h | h | h
  · exact (pairs8_iff f l).2 ⟨k, i, _, _, h, List.getElem?_eq_getElem hk, List.getElem?_eq_getElem hi, hf⟩
  · subst h; exact absurd rfl hne
  · exact (pairs8_iff f l).2 ⟨i, k, _, _, h, List.getElem?_eq_getElem hi, List.getElem?_eq_getElem hk, by rw [hs]; exact hf⟩
section
variable {d : Ide} (h : Rit8 d)
include h
theorem name_one {i o o' : ByteArray} (h1 : (i, o) ∈ d.N) (h2 : (i, o') ∈ d.N) : o = o' := by
  by_cases e : o = o'
  · exact e
  · have := pairs8_mem (f := sameIn) (fun x y => by simp only [sameIn, eq_comm]) h1 h2 (fun he => e (congrArg Prod.snd he)) (by simp [sameIn])
    rw [h.one] at this
    cases this
theorem name_clash {i i' o : ByteArray} (h1 : (i, o) ∈ d.N) (h2 : (i', o) ∈ d.N) (hne : i ≠ i') : d.c = true := by
  have := pairs8_mem (f := sameOut) (fun x y => by simp only [sameOut, eq_comm]) h1 h2 (fun he => hne (congrArg Prod.fst he)) (by simp [sameOut])
  rw [h.clash, clash8, this, Bool.true_or]
theorem cell_one {l t c c' : ByteArray} (h1 : (l, t, c) ∈ d.K) (h2 : (l, t, c') ∈ d.K) : c = c' := by
  by_cases e : c = c'
  · exact e
  · have := pairs8_mem (f := sameAsk) (fun x y => by simp only [sameAsk, eq_comm]) h1 h2 (fun he => e (congrArg (fun z => z.2.2) he)) (by simp [sameAsk])
    rw [h.oneK] at this
    cases this
theorem cell_clash {l t t' c : ByteArray} (h1 : (l, t, c) ∈ d.K) (h2 : (l, t', c) ∈ d.K) (hne : t ≠ t') : d.c = true := by
  have := pairs8_mem (f := sameCel) (fun x y => by simp only [sameCel, eq_comm]) h1 h2 (fun he => hne (congrArg (fun z => z.2.1) he)) (by simp [sameCel])
  rw [h.clash, clash8, this, Bool.or_true]
theorem right8_of : right8 d = true := (right8_iff d).2 h
omit h in
/-- a label that is asked for is there behind it; what was there is there still. -/
theorem lab8_in {i : ByteArray} (he : (lab8 d i).2.2 = 0) : (i, (lab8 d i).1) ∈ (lab8 d i).2.1.N := by
  unfold lab8 at he ⊢
  split
  · rename_i hi
    rw [if_pos hi] at he
    split
    · rename_i x hf
      have hm := List.mem_of_find?_eq_some hf
      have hp := List.find?_some hf
      rw [decide_eq_true_eq] at hp
      rw [← hp]
      exact hm
    · rename_i hf
      rw [hf] at he
      split
      · rename_i hl; simp only [if_pos hl] at he; cases he
      · rename_i hl
        split
        · exact List.mem_append.2 (.inr (List.mem_singleton.2 rfl))
        · rename_i ht; simp only [if_neg hl, if_neg ht] at he; exact absurd he ht
  · rename_i hi
    rw [if_neg hi] at he
    cases he
omit h in
theorem lab8_sub (i : ByteArray) : (∀ x ∈ d.N, x ∈ (lab8 d i).2.1.N) ∧ (lab8 d i).2.1.K = d.K := by
  unfold lab8
  split
  · split
    · exact ⟨fun _ hx => hx, rfl⟩
    · split
      · exact ⟨fun _ hx => hx, rfl⟩
      · split
        · exact ⟨fun x hx => List.mem_append.2 (.inl hx), rfl⟩
        · exact ⟨fun _ hx => hx, rfl⟩
  · exact ⟨fun _ hx => hx, rfl⟩
omit h in
theorem sea8_in {l t : ByteArray} (he : (sea8 d l t).2.2 = 0) : (l, t, (sea8 d l t).1) ∈ (sea8 d l t).2.1.K := by
  unfold sea8 at he ⊢
  split
  · rename_i hi
    rw [if_pos hi] at he
    split
    · rename_i x hf
      have hm := List.mem_of_find?_eq_some hf
      have hp := List.find?_some hf
      rw [Bool.and_eq_true, decide_eq_true_eq, decide_eq_true_eq] at hp
      rw [← hp.1, ← hp.2]
      exact hm
    · rename_i hf
      rw [hf] at he
      split
      · rename_i hl; simp only [if_pos hl] at he; cases he
      · rename_i hl
        split
        · exact List.mem_append.2 (.inr (List.mem_singleton.2 rfl))
        · rename_i ht; simp only [if_neg hl, if_neg ht] at he; exact absurd he ht
  · rename_i hi
    rw [if_neg hi] at he
    cases he
omit h in
theorem sea8_sub (l t : ByteArray) : (∀ x ∈ d.K, x ∈ (sea8 d l t).2.1.K) ∧ (sea8 d l t).2.1.N = d.N := by
  unfold sea8
  split
  · split
    · exact ⟨fun _ hx => hx, rfl⟩
    · split
      · exact ⟨fun _ hx => hx, rfl⟩
      · split
        · exact ⟨fun x hx => List.mem_append.2 (.inl hx), rfl⟩
        · exact ⟨fun _ hx => hx, rfl⟩
  · exact ⟨fun _ hx => hx, rfl⟩
theorem sea8_found {l t c : ByteArray} (hm : (l, t, c) ∈ d.K) : sea8 d l t = (c, d, 0) := by
  have hz : l.size = 16 ∧ t.size = 24 := by
    have := List.all_eq_true.1 h.okK _ hm
    rw [Go.Proofs.YtfgdcpolfekgjaaGreat.okK, Bool.and_eq_true, Bool.and_eq_true, decide_eq_true_eq, decide_eq_true_eq] at this
    exact ⟨this.1, this.2.1⟩
  unfold sea8
  rw [if_pos (by rw [right8_of h]; simp [hz])]
  cases hf : d.K.find? fun x => decide (x.1 = l) && decide (x.2.1 = t) with
  | none => exact absurd (List.find?_eq_none.1 hf _ hm) (by simp)
  | some x =>
    have hx := List.mem_of_find?_eq_some hf
    have hp := List.find?_some hf
    rw [Bool.and_eq_true, decide_eq_true_eq, decide_eq_true_eq] at hp
    obtain ⟨x1, x2, x3⟩ := x
    obtain ⟨rfl, rfl⟩ := hp
    show (x3, d, (0 : Int)) = _
    rw [cell_one h hm hx]
/-- a cell is opened, but for a clash to what it is of. -/
theorem ope8_found {l t c : ByteArray} (hm : (l, t, c) ∈ d.K) : (ope8 d l c).2 = 0 ∧ (d.c = false → (ope8 d l c).1 = t) := by
  unfold ope8
  rw [if_pos (right8_of h)]
  cases hf : d.K.find? fun x => decide (x.1 = l) && decide (x.2.2 = c) with
  | none => exact absurd (List.find?_eq_none.1 hf _ hm) (by simp)
  | some x =>
    refine ⟨rfl, fun hc => ?_⟩
    have hx := List.mem_of_find?_eq_some hf
    have hp := List.find?_some hf
    rw [Bool.and_eq_true, decide_eq_true_eq, decide_eq_true_eq] at hp
    obtain ⟨x1, x2, x3⟩ := x
    obtain ⟨rfl, rfl⟩ := hp
    show x2 = t
    by_cases e : x2 = t
    · exact e
    · have := cell_clash h hx hm e
      rw [hc] at this
      cases this
/-- enough on the tape, and room: no error. -/
theorem lab8_fine {i : ByteArray} (hi : i.size ≤ 100) (hl : d.N.length < 2000) (ht : d.a + 16 ≤ (d.B.size : Int)) : (lab8 d i).2.2 = 0 := by
  have hE : takeE d.B d.a 16 = 0 := by rw [takeE, h.tape, if_pos (by simp), leftV, if_pos h.tape, if_neg (by omega)]
  unfold lab8
  rw [if_pos (by rw [right8_of h]; simp [hi])]
  cases d.N.find? fun x => decide (x.1 = i) with
  | some x => rfl
  | none =>
    show (if 2000 ≤ d.N.length then _ else if takeE d.B d.a 16 = 0 then _ else _ : ByteArray × Ide × Int).2.2 = 0
    rw [if_neg (by omega), if_pos hE]
theorem sea8_fine {l t : ByteArray} (hl1 : l.size = 16) (ht1 : t.size = 24) (hl : d.K.length < 2000) (ht : d.a + 40 ≤ (d.B.size : Int)) : (sea8 d l t).2.2 = 0 := by
  have hE : takeE d.B d.a 40 = 0 := by rw [takeE, h.tape, if_pos (by simp), leftV, if_pos h.tape, if_neg (by omega)]
  unfold sea8
  rw [if_pos (by rw [right8_of h]; simp [hl1, ht1])]
  cases d.K.find? fun x => decide (x.1 = l) && decide (x.2.1 = t) with
  | some x => rfl
  | none =>
    show (if 2000 ≤ d.K.length then _ else if takeE d.B d.a 40 = 0 then _ else _ : ByteArray × Ide × Int).2.2 = 0
    rw [if_neg (by omega), if_pos hE]
end
end Go.Proofs.YtfgdcpolfekgjaaGreat
namespace Go.Proofs.YtfgdcpolfekgjaaGreat
open Go.RowKit

/-- an ideal of the tape B from its beginning on, behind no more than k questions. -/
structure Fro8 (B : ByteArray) (k : Nat) (d : Ide) : Prop where
  right : Rit8 d
  tape : d.B = B
  at_ : d.a = 16 * (d.N.length : Int) + 40 * (d.K.length : Int)
  few : d.N.length + d.K.length ≤ k
theorem new8_fro {B : ByteArray} (h : rightV B 0 = true) : Fro8 B 0 (new8 B 0).1 := by
  refine ⟨new8_right h, ?_, ?_, ?_⟩ <;> rw [new8, if_pos h]
  · rfl
  · exact Nat.le_refl _
theorem Fro8.more {B : ByteArray} {k m : Nat} {d : Ide} (h : Fro8 B k d) (hk : k ≤ m) : Fro8 B m d := ⟨h.right, h.tape, h.at_, Nat.le_trans h.few hk⟩
/-- an ideal stays, or has one thing more. -/
theorem lab8_step (d : Ide) (i : ByteArray) : (lab8 d i).2.1 = d ∨ (lab8 d i).2.1 = { d with a := d.a + 16, N := d.N ++ [(i, takeS d.B d.a 16)], c := clash8 (d.N ++ [(i, takeS d.B d.a 16)]) d.K } := by
  unfold lab8
  split
  · split
    · exact .inl rfl
    · split
      · exact .inl rfl
      · split
        · exact .inr rfl
        · exact .inl rfl
  · exact .inl rfl
theorem sea8_step (d : Ide) (l t : ByteArray) : (sea8 d l t).2.1 = d ∨ (sea8 d l t).2.1 = { d with a := d.a + 40, K := d.K ++ [(l, t, takeS d.B d.a 40)], c := clash8 d.N (d.K ++ [(l, t, takeS d.B d.a 40)]) } := by
  unfold sea8
  split
  · split
    · exact .inl rfl
    · split
      · exact .inl rfl
      · split
        · exact .inr rfl
        · exact .inl rfl
  · exact .inl rfl
theorem lab8_fro {B : ByteArray} {k : Nat} {d : Ide} (h : Fro8 B k d) (i : ByteArray) : Fro8 B (k + 1) (lab8 d i).2.1 := by
  have hr := lab8_right h.right i
  have h2 := h.tape
  have h3 := h.at_
  have h4 := h.few
  rcases lab8_step d i with e | e
  · rw [e]; exact h.more (by omega)
  · rw [e] at hr ⊢
    refine ⟨hr, h2, ?_, ?_⟩
    · show d.a + 16 = 16 * ((d.N ++ [_]).length : Int) + 40 * (d.K.length : Int)
      rw [List.length_append, List.length_singleton]; omega
    · show (d.N ++ [_]).length + d.K.length ≤ k + 1
      rw [List.length_append, List.length_singleton]; omega
/-- asked anew, what is drawn hangs on the tape alone. -/
theorem lab8_new {d : Ide} (h : Rit8 d) {i : ByteArray} (hi : i.size ≤ 100) (hn : ∀ x ∈ d.N, x.1 ≠ i) (hl : d.N.length < 2000) (ht : d.a + 16 ≤ (d.B.size : Int)) :
    lab8 d i = (takeS d.B d.a 16, { d with a := d.a + 16, N := d.N ++ [(i, takeS d.B d.a 16)], c := clash8 (d.N ++ [(i, takeS d.B d.a 16)]) d.K }, 0) := by
  have hE : takeE d.B d.a 16 = 0 := by rw [takeE, h.tape, if_pos (by simp), leftV, if_pos h.tape, if_neg (by omega)]
  have hf : d.N.find? (fun x => decide (x.1 = i)) = none := List.find?_eq_none.2 fun x hx => by
    have := hn x hx
    simpa using this
  unfold lab8
  rw [if_pos (by rw [right8_of h]; simp [hi]), hf]
  show (if 2000 ≤ d.N.length then _ else if takeE d.B d.a 16 = 0 then _ else _ : ByteArray × Ide × Int) = _
  rw [if_neg (by omega), if_pos hE]
end Go.Proofs.YtfgdcpolfekgjaaGreat
namespace Go.Proofs.YtfgdcpolfekgjaaGreat
open Go.RowKit

/-- a question: for a label, or for a cell under a label. -/
inductive Q8 where
  | nam (i : ByteArray)
  | cel (l t : ByteArray)
/-- what the statements ask: texts of at most a hundred bytes; labels of 16, texts of 24. -/
def Q8.Ok : Q8 → Prop
  | .nam i => i.size ≤ 100
  | .cel l t => l.size = 16 ∧ t.size = 24
def ask8 (d : Ide) : Q8 → ByteArray × Ide × Int
  | .nam i => lab8 d i
  | .cel l t => sea8 d l t
/-- it was asked, and this is what was told. -/
def Kno8 (d : Ide) (o : ByteArray) : Q8 → Prop
  | .nam i => (i, o) ∈ d.N
  | .cel l t => (l, t, o) ∈ d.K
theorem ask8_known {d : Ide} {q : Q8} (he : (ask8 d q).2.2 = 0) : Kno8 (ask8 d q).2.1 (ask8 d q).1 q := by
  cases q with
  | nam i => exact lab8_in he
  | cel l t => exact sea8_in he
theorem kno8_keep {d : Ide} {o : ByteArray} {q : Q8} (h : Kno8 d o q) (q' : Q8) : Kno8 (ask8 d q').2.1 o q := by
  cases q with
  | nam i =>
    cases q' with
    | nam i' => exact (lab8_sub i').1 _ h
    | cel l t => show (i, o) ∈ (sea8 d l t).2.1.N; rw [(sea8_sub l t).2]; exact h
  | cel l t =>
    cases q' with
    | nam i' => show (l, t, o) ∈ (lab8 d i').2.1.K; rw [(lab8_sub i').2]; exact h
    | cel l' t' => exact (sea8_sub l' t').1 _ h
end Go.Proofs.YtfgdcpolfekgjaaGreat
namespace Go.Proofs.YtfgdcpolfekgjaaGreat
open Go.RowKit

theorem sn_inj8 {a b : Int} (ha : 0 ≤ a ∧ a < 256) (hb : 0 ≤ b ∧ b < 256) {l l' : List Int} (h : strOfNums (a :: l) = strOfNums (b :: l')) : a = b := by
  have h1 := congrArg (fun s : ByteArray => s.data.toList) h
  simp only [strOfNums_data, List.map_cons, List.cons.injEq] at h1
  have h2 := congrArg UInt8.toNat h1.1
  simp only [UInt8.toNat_ofNat'] at h2
  have e1 : a.toNat % 2 ^ 8 = a.toNat := Nat.mod_eq_of_lt (by omega)
  have e2 : b.toNat % 2 ^ 8 = b.toNat := Nat.mod_eq_of_lt (by omega)
  rw [e1, e2] at h2
  omega
theorem tw8_lab {B : ByteArray} {k : Nat} {a b : Ide} (ra : Fro8 B k a) (rb : Fro8 B k b) (hB : B.size = 2000) (hk : k ≤ 15) (hat : a.a = b.a) {x y : ByteArray} (hx : x.size ≤ 100) (hy : y.size ≤ 100)
    (na : ∀ z ∈ a.N, z.1 ≠ x) (nb : ∀ z ∈ b.N, z.1 ≠ y) :
    ∃ s a' b', lab8 a x = (s, a', 0) ∧ lab8 b y = (s, b', 0) ∧ Fro8 B (k + 1) a' ∧ Fro8 B (k + 1) b' ∧ a'.a = b'.a ∧ (∀ z ∈ a'.N, z ∈ a.N ∨ z.1 = x) ∧ a'.K = a.K ∧ (∀ z ∈ b'.N, z ∈ b.N ∨ z.1 = y) ∧ b'.K = b.K := by
  have f1 := ra.few
  have f2 := rb.few
  have a1 := ra.at_
  have a2 := rb.at_
  have e1 := lab8_new ra.right hx na (by omega) (by rw [ra.tape, hB]; omega)
  have e2 := lab8_new rb.right hy nb (by omega) (by rw [rb.tape, hB]; omega)
  have g1 := lab8_fro ra x
  have g2 := lab8_fro rb y
  rw [e1] at g1
  rw [e2] at g2
  rw [ra.tape] at e1
  rw [rb.tape, ← hat] at e2
  refine ⟨_, _, _, e1, e2, by rw [ra.tape] at g1; exact g1, by rw [rb.tape, ← hat] at g2; exact g2, rfl, fun z hz => ?_, rfl, fun z hz => ?_, rfl⟩
  · rcases List.mem_append.1 hz with h | h
    · exact .inl h
    · rw [List.mem_singleton] at h; subst h; exact .inr rfl
  · rcases List.mem_append.1 hz with h | h
    · exact .inl h
    · rw [List.mem_singleton] at h; subst h; exact .inr rfl
/-- both, behind k questions. -/
structure Tw8 (B Z : ByteArray) (p : Int) (k : Nat) (a b : Ide) : Prop where
  ra : Fro8 B k a
  rb : Fro8 B k b
  at_ : a.a = b.a
  na : ∀ z ∈ a.N, ∃ j, j < k ∧ z.1 = strOfNums [(j : Int)]
  nb : ∀ z ∈ b.N, ∃ j, j < k ∧ z.1 = strOfNums [(j : Int) + 1 + p, 121]
  ka : ∀ z ∈ a.K, ∃ j, j < k ∧ z.1 = strOfNums [(j : Int)] ++ Z
  kb : ∀ z ∈ b.K, ∃ j, j < k ∧ z.1 = Z ++ strOfNums [(j : Int)]
section
variable {B Z : ByteArray} {p : Int} {k : Nat} {a b : Ide}
theorem Tw8.start (h : rightV B 0 = true) : Tw8 B Z p 0 (new8 B 0).1 (new8 B 0).1 := by
  have hf := new8_fro h
  have e : (new8 B 0).1 = ⟨B, 0, [], [], false⟩ := by rw [new8, if_pos h]
  rw [e] at hf ⊢
  exact ⟨hf, hf, rfl, (fun z hz => (by cases hz)), (fun z hz => (by cases hz)), (fun z hz => (by cases hz)), (fun z hz => (by cases hz))⟩
theorem Tw8.lab (h : Tw8 B Z p k a b) (hB : B.size = 2000) (hp : 0 ≤ p ∧ p < 200) (hk : k < 15) :
    ∃ s a' b', lab8 a (strOfNums [(k : Int)]) = (s, a', 0) ∧ lab8 b (strOfNums [(k : Int) + 1 + p, 121]) = (s, b', 0) ∧ Tw8 B Z p (k + 1) a' b' := by
  obtain ⟨s, a', b', e1, e2, ra, rb, hat, na, ka, nb, kb⟩ := tw8_lab h.ra h.rb hB (by omega) h.at_ (x := strOfNums [(k : Int)]) (y := strOfNums [(k : Int) + 1 + p, 121]) (by rw [strOfNums_size]; simp) (by rw [strOfNums_size]; simp)
    (fun z hz e => by
      obtain ⟨j, hj, hz1⟩ := h.na z hz
      have := sn_inj8 (by omega) (by omega) (hz1.symm.trans e)
      omega)
    (fun z hz e => by
      obtain ⟨j, hj, hz1⟩ := h.nb z hz
      have := sn_inj8 (by omega) (by omega) (hz1.symm.trans e)
      omega)
  refine ⟨s, a', b', e1, e2, ra, rb, hat, fun z hz => ?_, fun z hz => ?_, fun z hz => ?_, fun z hz => ?_⟩
  · rcases na z hz with hz | hz
    · obtain ⟨j, hj, e⟩ := h.na z hz; exact ⟨j, by omega, e⟩
    · exact ⟨k, by omega, hz⟩
  · rcases nb z hz with hz | hz
    · obtain ⟨j, hj, e⟩ := h.nb z hz; exact ⟨j, by omega, e⟩
    · exact ⟨k, by omega, hz⟩
  · rw [ka] at hz; obtain ⟨j, hj, e⟩ := h.ka z hz; exact ⟨j, by omega, e⟩
  · rw [kb] at hz; obtain ⟨j, hj, e⟩ := h.kb z hz; exact ⟨j, by omega, e⟩
end
end Go.Proofs.YtfgdcpolfekgjaaGreat

