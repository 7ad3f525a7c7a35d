/-
  Layer 9, plain: ideals that are fed with a text in place of what is drawn, and whose tape stays; what both ways of answering have in common. Nothing of the program stands here.
  Layer 9, plain: oracles of both kinds, behind so many questions; questions written as bytes. Nothing of the program stands here.
  Layer 9, plain: what oracles answer, errors and all; by a key and a question alone; raw oracles as the statements make them. Nothing of the program stands here.
  Layer 9, plain: by a key answers hang on the key and the question alone; what the statements' raw oracles are; what a label or a cell costs. Nothing of the program stands here.
  Layer 9, plain: one round of what OracleKeeps and OracleDraws ask: a label, a cell of it, the cell once more, and what is in it. Nothing of the program stands here.
-/
import Derived.Test.YtfgdcpolfekgjaaGreatGIdP
import Derived.Test.YtfgdcpolfekgjaaGreatGPl
namespace Go.Proofs.YtfgdcpolfekgjaaGreat
open Go.RowKit

/-- an ideal whose tape is one text alone; and the tape laid back. -/
def fed9 (d : Ide) (S : ByteArray) : Ide := { d with B := S, a := 0 }
def bak9 (d n : Ide) : Ide := { n with B := d.B, a := d.a }
theorem fed9_right {d : Ide} (h : Rit8 d) {S : ByteArray} (hS : S.size ≤ 65536) : Rit8 (fed9 d S) :=
  ⟨rightV_iff.2 ⟨hS, Int.le_refl _, by show (0 : Int) ≤ (S.size : Int); omega⟩, h.few, h.fewK, h.ok, h.one, h.okK, h.oneK, h.clash⟩
theorem bak9_right {d n : Ide} (h : Rit8 d) (hn : Rit8 n) : Rit8 (bak9 d n) := ⟨h.tape, hn.few, hn.fewK, hn.ok, hn.one, hn.okK, hn.oneK, hn.clash⟩
theorem bak_fed9 (d : Ide) (S : ByteArray) : bak9 d (fed9 d S) = d := rfl
/-- Label and Seal, S taking the place of what is drawn. -/
def labS9 (d : Ide) (S i : ByteArray) : ByteArray × Ide × Int :=
  if (lab8 (fed9 d S) i).2.2 = 0 then ((lab8 (fed9 d S) i).1, bak9 d (lab8 (fed9 d S) i).2.1, 0) else (⟨#[]⟩, d, (lab8 (fed9 d S) i).2.2)
def seaS9 (d : Ide) (S l t : ByteArray) : ByteArray × Ide × Int :=
  if (sea8 (fed9 d S) l t).2.2 = 0 then ((sea8 (fed9 d S) l t).1, bak9 d (sea8 (fed9 d S) l t).2.1, 0) else (⟨#[]⟩, d, (sea8 (fed9 d S) l t).2.2)
theorem take_whole9 {S : ByteArray} {n : Nat} (h : S.size = n) (hn : n ≤ 65536) : takeE S 0 n = 0 ∧ takeS S 0 n = S := by
  have hr : rightV S 0 = true := rightV_iff.2 ⟨by omega, Int.le_refl _, by omega⟩
  have he : takeE S 0 n = 0 := by
    unfold takeE
    rw [hr, Bool.true_and, if_pos (by rw [decide_eq_true_eq]; omega), if_neg (by rw [leftV, if_pos hr]; omega)]
  refine ⟨he, ?_⟩
  rw [takeS, if_pos he]
  have : (0 + (n : Int)).toNat = S.size := by omega
  rw [this]
  exact ByteArray.extract_zero_size
/-- what a label's answer has, by both ways. -/
structure Lab9 (d : Ide) (i o : ByteArray) (d' : Ide) : Prop where
  right : Rit8 d'
  has : (i, o) ∈ d'.N
  sub : ∀ x ∈ d.N, x ∈ d'.N
  cells : d'.K = d.K
  size : o.size = 16
  tape : d'.B = d.B
  grow : d'.N.length = d.N.length ∨ d'.N.length = d.N.length + 1
structure Cel9 (d : Ide) (l t o : ByteArray) (d' : Ide) : Prop where
  right : Rit8 d'
  has : (l, t, o) ∈ d'.K
  sub : ∀ x ∈ d.K, x ∈ d'.K
  names : d'.N = d.N
  size : o.size = 40
  tape : d'.B = d.B
  grow : d'.K.length = d.K.length ∨ d'.K.length = d.K.length + 1
section
variable {d d' : Ide} {i o l t : ByteArray}
theorem okN_mem (h : Rit8 d) {x : Nam8} (hx : x ∈ d.N) : x.1.size ≤ 100 ∧ x.2.size = 16 := by
  have := List.all_eq_true.1 h.ok x hx
  rw [okN, Bool.and_eq_true, decide_eq_true_eq, decide_eq_true_eq] at this
  exact this
theorem okK_mem (h : Rit8 d) {x : Cel8} (hx : x ∈ d.K) : x.1.size = 16 ∧ x.2.1.size = 24 ∧ x.2.2.size = 40 := by
  have := List.all_eq_true.1 h.okK x hx
  rw [okK, Bool.and_eq_true, Bool.and_eq_true, decide_eq_true_eq, decide_eq_true_eq, decide_eq_true_eq] at this
  exact this
/-- by the tape: a label costs sixteen bytes, or nothing where it was asked. -/
theorem lab9_drawn (h : Rit8 d) (hi : i.size ≤ 100) (hl : d.N.length < 2000) (ht : d.a + 16 ≤ (d.B.size : Int)) :
    ∃ o d', lab8 d i = (o, d', 0) ∧ Lab9 d i o d' ∧ d'.a = d.a + 16 * ((d'.N.length : Int) - d.N.length) := by
  have he := lab8_fine h hi hl ht
  have hr := lab8_right h i
  have hm := lab8_in he
  obtain ⟨h1, h2⟩ := lab8_sub (d := d) i
  have st := lab8_step d i
  obtain ⟨o, d', er, hq⟩ : ∃ o d' er, lab8 d i = (o, d', er) := ⟨_, _, _, rfl⟩
  rw [hq] at he hr hm h1 h2 st
  have he2 : er = 0 := he
  subst he2
  have st2 : d' = d ∨ d' = { d with a := d.a + 16, N := d.N ++ [(i, takeS d.B d.a 16)], c := clash8 (d.N ++ [(i, takeS d.B d.a 16)]) d.K } := st
  refine ⟨o, d', hq, ⟨hr, hm, h1, h2, (okN_mem hr hm).2, ?_, ?_⟩, ?_⟩
  all_goals (rcases st2 with e | e <;> rw [e])
  · exact .inl rfl
  · exact .inr (by show (d.N ++ [_]).length = _; rw [List.length_append]; rfl)
  · omega
  · show d.a + 16 = d.a + 16 * (((d.N ++ [_]).length : Int) - d.N.length)
    rw [List.length_append, List.length_singleton]; omega
theorem cel9_drawn (h : Rit8 d) (hl1 : l.size = 16) (ht1 : t.size = 24) (hl : d.K.length < 2000) (ht : d.a + 40 ≤ (d.B.size : Int)) :
    ∃ o d', sea8 d l t = (o, d', 0) ∧ Cel9 d l t o d' ∧ d'.a = d.a + 40 * ((d'.K.length : Int) - d.K.length) := by
  have he := sea8_fine h hl1 ht1 hl ht
  have hr := sea8_right h l t
  have hm := sea8_in he
  obtain ⟨h1, h2⟩ := sea8_sub (d := d) l t
  have st := sea8_step d l t
  obtain ⟨o, d', er, hq⟩ : ∃ o d' er, sea8 d l t = (o, d', er) := ⟨_, _, _, rfl⟩
  rw [hq] at he hr hm h1 h2 st
  have he2 : er = 0 := he
  subst he2
  have st2 : d' = d ∨ d' = { d with a := d.a + 40, K := d.K ++ [(l, t, takeS d.B d.a 40)], c := clash8 d.N (d.K ++ [(l, t, takeS d.B d.a 40)]) } := st
  refine ⟨o, d', hq, ⟨hr, hm, h1, h2, (okK_mem hr hm).2.2, ?_, ?_⟩, ?_⟩
  all_goals (rcases st2 with e | e <;> rw [e])
  · exact .inl rfl
  · exact .inr (by show (d.K ++ [_]).length = _; rw [List.length_append]; rfl)
  · omega
  · show d.a + 40 = d.a + 40 * (((d.K ++ [_]).length : Int) - d.K.length)
    rw [List.length_append, List.length_singleton]; omega
/-- by a key: nothing is taken; what is new is S. -/
theorem lab9_real (h : Rit8 d) {S : ByteArray} (hS : S.size = 16) (hi : i.size ≤ 100) (hl : d.N.length < 2000) :
    ∃ o d', labS9 d S i = (o, d', 0) ∧ Lab9 d i o d' ∧ d'.a = d.a ∧ (∀ x ∈ d'.N, x ∈ d.N ∨ x = (i, S)) := by
  have hf := fed9_right h (S := S) (by omega)
  obtain ⟨o, n, e, hn, _⟩ := lab9_drawn (d := fed9 d S) (i := i) hf hi hl (by show (0 : Int) + 16 ≤ (S.size : Int); omega)
  refine ⟨o, bak9 d n, by rw [labS9, e]; rfl, ⟨bak9_right h hn.right, hn.has, hn.sub, hn.cells, hn.size, rfl, hn.grow⟩, rfl, fun x hx => ?_⟩
  have e2 : (lab8 (fed9 d S) i).2.1 = n := by rw [e]
  have hx2 : x ∈ n.N := hx
  rcases lab8_step (fed9 d S) i with h1 | h1 <;> rw [e2] at h1 <;> rw [h1] at hx2
  · exact .inl hx2
  · rcases List.mem_append.1 hx2 with h2 | h2
    · exact .inl h2
    · rw [List.mem_singleton] at h2
      exact .inr (by rw [h2]; exact Prod.ext rfl (take_whole9 hS (by omega)).2)
theorem cel9_real (h : Rit8 d) {S : ByteArray} (hS : S.size = 40) (hl1 : l.size = 16) (ht1 : t.size = 24) (hl : d.K.length < 2000) :
    ∃ o d', seaS9 d S l t = (o, d', 0) ∧ Cel9 d l t o d' ∧ d'.a = d.a ∧ (∀ x ∈ d'.K, x ∈ d.K ∨ x = (l, t, S)) := by
  have hf := fed9_right h (S := S) (by omega)
  obtain ⟨o, n, e, hn, _⟩ := cel9_drawn (d := fed9 d S) (l := l) (t := t) hf hl1 ht1 hl (by show (0 : Int) + 40 ≤ (S.size : Int); omega)
  refine ⟨o, bak9 d n, by rw [seaS9, e]; rfl, ⟨bak9_right h hn.right, hn.has, hn.sub, hn.names, hn.size, rfl, hn.grow⟩, rfl, fun x hx => ?_⟩
  have e2 : (sea8 (fed9 d S) l t).2.1 = n := by rw [e]
  have hx2 : x ∈ n.K := hx
  rcases sea8_step (fed9 d S) l t with h1 | h1 <;> rw [e2] at h1 <;> rw [h1] at hx2
  · exact .inl hx2
  · rcases List.mem_append.1 hx2 with h2 | h2
    · exact .inl h2
    · rw [List.mem_singleton] at h2
      exact .inr (by rw [h2]; exact Prod.ext rfl (Prod.ext rfl (take_whole9 hS (by omega)).2))
theorem seaS9_found (h : Rit8 d) {S : ByteArray} (hS : S.size ≤ 65536) (hm : (l, t, o) ∈ d.K) : seaS9 d S l t = (o, d, 0) := by
  have := sea8_found (fed9_right h hS) (l := l) (t := t) (c := o) hm
  rw [seaS9, this]; rfl
end
/-- by a key: each answer is what the key tells of its question. -/
structure Key9 (T : ByteArray → ByteArray) (C : ByteArray → ByteArray → ByteArray) (d : Ide) : Prop where
  names : ∀ x ∈ d.N, x.2 = T x.1
  cells : ∀ x ∈ d.K, x.2.2 = C x.1 x.2.1
section
variable {T : ByteArray → ByteArray} {C : ByteArray → ByteArray → ByteArray} {d : Ide} {i l t : ByteArray}
theorem Key9.lab (k : Key9 T C d) (h : Rit8 d) (hT : (T i).size = 16) (hi : i.size ≤ 100) (hl : d.N.length < 2000) :
    ∃ d', labS9 d (T i) i = (T i, d', 0) ∧ Lab9 d i (T i) d' ∧ d'.a = d.a ∧ Key9 T C d' := by
  obtain ⟨o, d', e, hL, ha, hm⟩ := lab9_real h hT hi hl
  have hk : ∀ x ∈ d'.N, x.2 = T x.1 := fun x hx => by
    rcases hm x hx with h1 | h1
    · exact k.names x h1
    · rw [h1]
  obtain rfl : o = T i := hk _ hL.has
  exact ⟨d', e, hL, ha, hk, by rw [hL.cells]; exact k.cells⟩
theorem Key9.cel (k : Key9 T C d) (h : Rit8 d) (hC : (C l t).size = 40) (hl1 : l.size = 16) (ht1 : t.size = 24) (hl : d.K.length < 2000) :
    ∃ d', seaS9 d (C l t) l t = (C l t, d', 0) ∧ Cel9 d l t (C l t) d' ∧ d'.a = d.a ∧ Key9 T C d' := by
  obtain ⟨o, d', e, hL, ha, hm⟩ := cel9_real h hC hl1 ht1 hl
  have hk : ∀ x ∈ d'.K, x.2.2 = C x.1 x.2.1 := fun x hx => by
    rcases hm x hx with h1 | h1
    · exact k.cells x h1
    · rw [h1]
  obtain rfl : o = C l t := hk _ hL.has
  exact ⟨d', e, hL, ha, by rw [hL.names]; exact k.names, hk⟩
theorem Key9.empty (B : ByteArray) (a : Int) (c : Bool) : Key9 T C ⟨B, a, [], [], c⟩ := ⟨fun x hx => (by cases hx), fun x hx => (by cases hx)⟩
end
end Go.Proofs.YtfgdcpolfekgjaaGreat
namespace Go.Proofs.YtfgdcpolfekgjaaGreat
open Go.RowKit

/-- what a label's and a cell's question is answered: by a key, or by the tape. -/
def lab9M (real : Bool) (d : Ide) (S i : ByteArray) : ByteArray × Ide × Int := if real then labS9 d S i else lab8 d i
def cel9M (real : Bool) (d : Ide) (S l t : ByteArray) : ByteArray × Ide × Int := if real then seaS9 d S l t else sea8 d l t
/-- an oracle's ideal, of the tape B from its beginning, behind so many labels and cells. -/
structure Ost9 (real : Bool) (T : ByteArray → ByteArray) (C : ByteArray → ByteArray → ByteArray) (B : ByteArray) (n k : Nat) (d : Ide) : Prop where
  right : Rit8 d
  tape : d.B = B
  fewN : d.N.length ≤ n
  fewK : d.K.length ≤ k
  at_ : d.a = if real then 0 else 16 * (d.N.length : Int) + 40 * (d.K.length : Int)
  key : real = true → Key9 T C d
section
variable {real : Bool} {T : ByteArray → ByteArray} {C : ByteArray → ByteArray → ByteArray} {B : ByteArray} {n k : Nat} {d : Ide} {i l t : ByteArray}
theorem Ost9.start (hB : B.size ≤ 65536) : Ost9 real T C B 0 0 ⟨B, 0, [], [], false⟩ :=
  ⟨⟨rightV_iff.2 ⟨hB, Int.le_refl _, by show (0 : Int) ≤ (B.size : Int); omega⟩, Nat.zero_le _, Nat.zero_le _, rfl, rfl, rfl, rfl, rfl⟩, rfl, Nat.zero_le _, Nat.zero_le _, by cases real <;> rfl, fun _ => Key9.empty _ _ _⟩
theorem Ost9.more (h : Ost9 real T C B n k d) {n' k' : Nat} (hn : n ≤ n') (hk : k ≤ k') : Ost9 real T C B n' k' d :=
  ⟨h.right, h.tape, Nat.le_trans h.fewN hn, Nat.le_trans h.fewK hk, h.at_, h.key⟩
theorem Ost9.lab (h : Ost9 real T C B n k d) (hn : n ≤ 20) (hk : k ≤ 20) (hB : B.size = 2000) (hT : (T i).size = 16) (hi : i.size ≤ 100) :
    ∃ o d', lab9M real d (T i) i = (o, d', 0) ∧ Lab9 d i o d' ∧ Ost9 real T C B (n + 1) k d' ∧ (real = true → o = T i) := by
  have h1 := h.fewN
  have h2 := h.fewK
  have h3 := h.at_
  have ht := h.tape
  cases real with
  | true =>
    obtain ⟨d', e, hL, ha, hk9⟩ := (h.key rfl).lab h.right hT hi (by omega)
    refine ⟨_, d', e, hL, ⟨hL.right, hL.tape.trans ht, ?_, ?_, ?_, fun _ => hk9⟩, fun _ => rfl⟩
    · have := hL.grow; omega
    · rw [hL.cells]; exact h2
    · rw [ha, h3]; rfl
  | false =>
    rw [if_neg (by simp)] at h3
    obtain ⟨o, d', e, hL, ha⟩ := lab9_drawn h.right hi (by omega) (by rw [ht, hB, h3]; omega)
    refine ⟨o, d', e, hL, ⟨hL.right, hL.tape.trans ht, ?_, ?_, ?_, fun e => (by cases e)⟩, fun e => (by cases e)⟩
    · have := hL.grow; omega
    · rw [hL.cells]; exact h2
    · rw [if_neg (by simp), ha, h3, hL.cells]; omega
theorem Ost9.cel (h : Ost9 real T C B n k d) (hn : n ≤ 20) (hk : k ≤ 20) (hB : B.size = 2000) (hC : (C l t).size = 40) (hl : l.size = 16) (ht1 : t.size = 24) :
    ∃ o d', cel9M real d (C l t) l t = (o, d', 0) ∧ Cel9 d l t o d' ∧ Ost9 real T C B n (k + 1) d' ∧ (real = true → o = C l t) := by
  have h1 := h.fewN
  have h2 := h.fewK
  have h3 := h.at_
  have ht := h.tape
  cases real with
  | true =>
    obtain ⟨d', e, hL, ha, hk9⟩ := (h.key rfl).cel h.right hC hl ht1 (by omega)
    refine ⟨_, d', e, hL, ⟨hL.right, hL.tape.trans ht, ?_, ?_, ?_, fun _ => hk9⟩, fun _ => rfl⟩
    · rw [hL.names]; exact h1
    · have := hL.grow; omega
    · rw [ha, h3]; rfl
  | false =>
    rw [if_neg (by simp)] at h3
    obtain ⟨o, d', e, hL, ha⟩ := cel9_drawn h.right hl ht1 (by omega) (by rw [ht, hB, h3]; omega)
    refine ⟨o, d', e, hL, ⟨hL.right, hL.tape.trans ht, ?_, ?_, ?_, fun e => (by cases e)⟩, fun e => (by cases e)⟩
    · rw [hL.names]; exact h1
    · have := hL.grow; omega
    · rw [if_neg (by simp), ha, h3, hL.names]; omega
theorem cel9M_found (h : Rit8 d) {S o : ByteArray} (hS : S.size ≤ 65536) (hm : (l, t, o) ∈ d.K) : cel9M real d S l t = (o, d, 0) := by
  cases real with
  | true => exact seaS9_found h hS hm
  | false => exact sea8_found h hm
end
/-- four bytes, the highest one first. -/
def four9 (n : Int) : List Int := [n / 16777216 % 256, n / 65536 % 256, n / 256 % 256, n % 256]
/-- a question's bytes. -/
def ask9 (w : ByteArray) (e c : Int) : ByteArray := strOfNums [(w.size : Int)] ++ w ++ strOfNums (four9 e) ++ strOfNums (four9 c)
theorem ask9_size (w : ByteArray) (e c : Int) : (ask9 w e c).size = w.size + 9 := by
  rw [ask9, ByteArray.size_append, ByteArray.size_append, ByteArray.size_append, strOfNums_size, strOfNums_size, strOfNums_size]
  simp only [four9, List.length_cons, List.length_nil]
  omega
end Go.Proofs.YtfgdcpolfekgjaaGreat
namespace Go.Proofs.YtfgdcpolfekgjaaGreat
open Go.RowKit

/-- an oracle: how it answers, its key, its ideal. -/
structure Ora where
  m : Int
  key : ByteArray
  d : Ide
def right9 (o : Ora) : Bool := (decide (o.m = 1) || decide (o.m = 2)) && (decide (o.key.size = 32) && right8 o.d)
def real9 (o : Ora) : Bool := decide (o.m = 1)
def askE9 (w : ByteArray) (e c : Int) : Bool := decide (w.size ≤ 20) && ((decide (0 ≤ e) && decide (e ≤ 1000000)) && (decide (0 ≤ c) && decide (c ≤ 1000000)))
/-- Ask: the bytes, and the error. -/
def askV9 (w : ByteArray) (e c : Int) : ByteArray × Int := if askE9 w e c then (ask9 w e c, 0) else (⟨#[]⟩, 1)
section
variable (T : ByteArray → ByteArray → ByteArray) (C : ByteArray → ByteArray → ByteArray → ByteArray) (U : ByteArray → ByteArray → ByteArray → ByteArray × Int)
/-- Label. -/
def labV9 (o : Ora) (w : ByteArray) (e c : Int) : ByteArray × Ora × Int :=
  if right9 o && askE9 w e c then ((lab9M (real9 o) o.d (T o.key (ask9 w e c)) (ask9 w e c)).1, { o with d := (lab9M (real9 o) o.d (T o.key (ask9 w e c)) (ask9 w e c)).2.1 }, (lab9M (real9 o) o.d (T o.key (ask9 w e c)) (ask9 w e c)).2.2)
  else (⟨#[]⟩, o, 1)
/-- Cell. -/
def celV9 (o : Ora) (l t : ByteArray) : ByteArray × Ora × Int :=
  if right9 o && (decide (l.size = 16) && decide (t.size = 24)) then ((cel9M (real9 o) o.d (C o.key l t) l t).1, { o with d := (cel9M (real9 o) o.d (C o.key l t) l t).2.1 }, (cel9M (real9 o) o.d (C o.key l t) l t).2.2)
  else (⟨#[]⟩, o, 1)
/-- Open. -/
def opnV9 (o : Ora) (l b : ByteArray) : ByteArray × Int :=
  if right9 o then (if decide (l.size = 16) && decide (b.size = 40) then (if real9 o then U o.key l b else ope8 o.d l b) else (⟨#[]⟩, 11)) else (⟨#[]⟩, 1)
/-- a raw question, by the document: a label, and, where the first number is odd, a cell of it. -/
def step9 (word : Int → ByteArray) (text : Int → ByteArray) (o : Ora) (n : Int × Int × Int × Int) : Ora :=
  if decide (pickN n.1 2 = 0) || decide ((labV9 T o (word n.2.1) (pickN n.2.2.1 3) (pickN n.2.2.2 4)).2.2 ≠ 0) then (labV9 T o (word n.2.1) (pickN n.2.2.1 3) (pickN n.2.2.2 4)).2.1
  else (celV9 C (labV9 T o (word n.2.1) (pickN n.2.2.1 3) (pickN n.2.2.2 4)).2.1 (labV9 T o (word n.2.1) (pickN n.2.2.1 3) (pickN n.2.2.2 4)).1 (text n.2.2.1)).2.1
def oras9 (word : Int → ByteArray) (text : Int → ByteArray) (o : Ora) (R : List (Int × Int × Int × Int)) : Ora := R.foldl (step9 T C word text) o
end
theorem labS9_right {d : Ide} (h : Rit8 d) {S : ByteArray} (hS : S.size ≤ 65536) (i : ByteArray) : Rit8 (labS9 d S i).2.1 := by
  unfold labS9
  split
  · exact bak9_right h (lab8_right (fed9_right h hS) i)
  · exact h
theorem seaS9_right {d : Ide} (h : Rit8 d) {S : ByteArray} (hS : S.size ≤ 65536) (l t : ByteArray) : Rit8 (seaS9 d S l t).2.1 := by
  unfold seaS9
  split
  · exact bak9_right h (sea8_right (fed9_right h hS) l t)
  · exact h
theorem lab9M_right {real : Bool} {d : Ide} (h : Rit8 d) {S : ByteArray} (hS : S.size ≤ 65536) (i : ByteArray) : Rit8 (lab9M real d S i).2.1 := by
  cases real with
  | true => exact labS9_right h hS i
  | false => exact lab8_right h i
theorem cel9M_right {real : Bool} {d : Ide} (h : Rit8 d) {S : ByteArray} (hS : S.size ≤ 65536) (l t : ByteArray) : Rit8 (cel9M real d S l t).2.1 := by
  cases real with
  | true => exact seaS9_right h hS l t
  | false => exact sea8_right h l t
/-- a right oracle. -/
structure Rit9 (o : Ora) : Prop where
  mode : o.m = 1 ∨ o.m = 2
  key : o.key.size = 32
  d : Rit8 o.d
theorem right9_iff (o : Ora) : right9 o = true ↔ Rit9 o := by
  simp only [right9, Bool.and_eq_true, Bool.or_eq_true, decide_eq_true_eq]
  exact ⟨fun ⟨h1, h2, h3⟩ => ⟨h1, h2, (right8_iff _).1 h3⟩, fun h => ⟨h.mode, h.key, (right8_iff _).2 h.d⟩⟩
section
variable {T : ByteArray → ByteArray → ByteArray} {C : ByteArray → ByteArray → ByteArray → ByteArray} (hT : ∀ k i, (T k i).size = 16) (hC : ∀ k l t, (C k l t).size = t.size + 16)
include hT in
theorem labV9_right {o : Ora} (h : Rit9 o) (w : ByteArray) (e c : Int) : Rit9 (labV9 T o w e c).2.1 := by
  unfold labV9
  split
  · exact ⟨h.mode, h.key, lab9M_right h.d (by rw [hT]; omega) _⟩
  · exact h
include hC in
theorem celV9_right {o : Ora} (h : Rit9 o) (l t : ByteArray) : Rit9 (celV9 C o l t).2.1 := by
  unfold celV9
  split
  · rename_i hz
    simp only [Bool.and_eq_true, decide_eq_true_eq] at hz
    exact ⟨h.mode, h.key, cel9M_right h.d (by rw [hC]; omega) _ _⟩
  · exact h
/-- a fresh oracle of a tape that is right, as Ost9 has it. -/
theorem labV9_ost {o : Ora} {B : ByteArray} {n k : Nat} (hm : o.m = 1 ∨ o.m = 2) (hk : o.key.size = 32) (h : Ost9 (real9 o) (T o.key) (C o.key) B n k o.d) (hn : n ≤ 20) (hk2 : k ≤ 20) (hB : B.size = 2000) (hT : ∀ k i, (T k i).size = 16) {w : ByteArray} {e c : Int} (hq : askE9 w e c = true) :
    ∃ s d', labV9 T o w e c = (s, { o with d := d' }, 0) ∧ Lab9 o.d (ask9 w e c) s d' ∧ Ost9 (real9 o) (T o.key) (C o.key) B (n + 1) k d' ∧ (real9 o = true → s = T o.key (ask9 w e c)) := by
  have hi : (ask9 w e c).size ≤ 100 := by
    rw [ask9_size]
    simp only [askE9, Bool.and_eq_true, decide_eq_true_eq] at hq
    omega
  obtain ⟨s, d', e1, h1, h2, h3⟩ := h.lab (i := ask9 w e c) hn hk2 hB (hT _ _) hi
  refine ⟨s, d', ?_, h1, h2, h3⟩
  rw [labV9, (right9_iff o).2 ⟨hm, hk, h.right⟩, hq, Bool.true_and, if_pos rfl, e1]
theorem celV9_ost {o : Ora} {B : ByteArray} {n k : Nat} (hm : o.m = 1 ∨ o.m = 2) (hk : o.key.size = 32) (h : Ost9 (real9 o) (T o.key) (C o.key) B n k o.d) (hn : n ≤ 20) (hk2 : k ≤ 20) (hB : B.size = 2000) (hC : ∀ k l t, (C k l t).size = t.size + 16) {l t : ByteArray} (hl : l.size = 16) (ht : t.size = 24) :
    ∃ s d', celV9 C o l t = (s, { o with d := d' }, 0) ∧ Cel9 o.d l t s d' ∧ Ost9 (real9 o) (T o.key) (C o.key) B n (k + 1) d' ∧ (real9 o = true → s = C o.key l t) := by
  obtain ⟨s, d', e1, h1, h2, h3⟩ := h.cel (l := l) (t := t) hn hk2 hB (by rw [hC, ht]) hl ht
  refine ⟨s, d', ?_, h1, h2, h3⟩
  rw [celV9, (right9_iff o).2 ⟨hm, hk, h.right⟩, hl, ht, if_pos (by decide), e1]
end
end Go.Proofs.YtfgdcpolfekgjaaGreat
namespace Go.Proofs.YtfgdcpolfekgjaaGreat
open Go.RowKit

/-- an oracle by a key, behind so many labels and cells, whatever its tape. -/
structure Rea9 (T : ByteArray → ByteArray → ByteArray) (C : ByteArray → ByteArray → ByteArray → ByteArray) (o : Ora) (n k : Nat) : Prop where
  right : Rit9 o
  real : real9 o = true
  key : Key9 (T o.key) (C o.key) o.d
  fewN : o.d.N.length ≤ n
  fewK : o.d.K.length ≤ k
section
variable {T : ByteArray → ByteArray → ByteArray} {C : ByteArray → ByteArray → ByteArray → ByteArray} {o : Ora} {n k : Nat}
theorem Rea9.more (h : Rea9 T C o n k) {n' k' : Nat} (hn : n ≤ n') (hk : k ≤ k') : Rea9 T C o n' k' := ⟨h.right, h.real, h.key, Nat.le_trans h.fewN hn, Nat.le_trans h.fewK hk⟩
theorem Rea9.lab (h : Rea9 T C o n k) (hn : n < 2000) (hT : ∀ k i, (T k i).size = 16) {w : ByteArray} {e c : Int} (hq : askE9 w e c = true) :
    ∃ d', labV9 T o w e c = (T o.key (ask9 w e c), { o with d := d' }, 0) ∧ Rea9 T C { o with d := d' } (n + 1) k ∧ Lab9 o.d (ask9 w e c) (T o.key (ask9 w e c)) d' := by
  have hi : (ask9 w e c).size ≤ 100 := by
    rw [ask9_size]
    simp only [askE9, Bool.and_eq_true, decide_eq_true_eq] at hq
    omega
  have h1 := h.fewN
  obtain ⟨d', e1, hL, ha, hk⟩ := h.key.lab h.right.d (hT _ (ask9 w e c)) hi (by omega)
  refine ⟨d', ?_, ⟨⟨h.right.mode, h.right.key, hL.right⟩, h.real, hk, ?_, ?_⟩, hL⟩
  · rw [labV9, (right9_iff o).2 h.right, hq, Bool.true_and, if_pos rfl, h.real]
    show ((labS9 o.d _ _).1, _, (labS9 o.d _ _).2.2) = _
    rw [lab9M, if_pos rfl, e1]
  · show d'.N.length ≤ n + 1
    have := hL.grow; omega
  · show d'.K.length ≤ k
    rw [hL.cells]; exact h.fewK
theorem Rea9.cel (h : Rea9 T C o n k) (hk2 : k < 2000) (hC : ∀ k l t, (C k l t).size = t.size + 16) {l t : ByteArray} (hl : l.size = 16) (ht : t.size = 24) :
    ∃ d', celV9 C o l t = (C o.key l t, { o with d := d' }, 0) ∧ Rea9 T C { o with d := d' } n (k + 1) ∧ Cel9 o.d l t (C o.key l t) d' := by
  have h1 := h.fewK
  obtain ⟨d', e1, hL, ha, hk⟩ := h.key.cel h.right.d (l := l) (t := t) (by rw [hC, ht]) hl ht (by omega)
  refine ⟨d', ?_, ⟨⟨h.right.mode, h.right.key, hL.right⟩, h.real, hk, ?_, ?_⟩, hL⟩
  · rw [celV9, (right9_iff o).2 h.right, hl, ht, if_pos (by decide), h.real]
    show ((cel9M true o.d _ _ _).1, _, (cel9M true o.d _ _ _).2.2) = _
    rw [cel9M, if_pos rfl, e1]
  · show d'.N.length ≤ n
    rw [hL.names]; exact h.fewN
  · show d'.K.length ≤ k + 1
    have := hL.grow; omega
theorem Rea9.step (h : Rea9 T C o n k) (hn : n < 2000) (hk : k < 2000) (hT : ∀ k i, (T k i).size = 16) (hC : ∀ k l t, (C k l t).size = t.size + 16) {word text : Int → ByteArray} (hw : ∀ c, (word c).size ≤ 20) (ht : ∀ c, (text c).size = 24) (q : Int × Int × Int × Int) :
    Rea9 T C (step9 T C word text o q) (n + 1) (k + 1) := by
  have hq : askE9 (word q.2.1) (pickN q.2.2.1 3) (pickN q.2.2.2 4) = true := by
    have a1 := pickN_bd q.2.2.1 3 (by omega)
    have a2 := pickN_bd q.2.2.2 4 (by omega)
    simp only [askE9, Bool.and_eq_true, decide_eq_true_eq]
    exact ⟨hw _, ⟨a1.1, by omega⟩, a2.1, by omega⟩
  obtain ⟨d', e1, h1, hL⟩ := h.lab hn hT hq
  unfold step9
  rw [e1]
  split
  · exact h1.more (Nat.le_refl _) (by omega)
  · obtain ⟨d2, e2, h2, _⟩ := h1.cel hk hC (l := T o.key (ask9 (word q.2.1) (pickN q.2.2.1 3) (pickN q.2.2.2 4))) (t := text q.2.2.1) (hT _ _) (ht _)
    rw [e2]
    exact h2
theorem Rea9.all (hT : ∀ k i, (T k i).size = 16) (hC : ∀ k l t, (C k l t).size = t.size + 16) {word text : Int → ByteArray} (hw : ∀ c, (word c).size ≤ 20) (ht : ∀ c, (text c).size = 24) (R : List (Int × Int × Int × Int)) :
    ∀ {o : Ora} {n k : Nat}, Rea9 T C o n k → n + R.length ≤ 1000 → k + R.length ≤ 1000 → Rea9 T C (oras9 T C word text o R) (n + R.length) (k + R.length) := by
  induction R with
  | nil => intro o n k h _ _; exact h
  | cons q r ih =>
    intro o n k h hn hk
    rw [List.length_cons] at hn hk ⊢
    have := ih (h.step (by omega) (by omega) hT hC hw ht q) (by omega) (by omega)
    rw [show n + (r.length + 1) = n + 1 + r.length by omega, show k + (r.length + 1) = k + 1 + r.length by omega]
    exact this
end
end Go.Proofs.YtfgdcpolfekgjaaGreat
namespace Go.Proofs.YtfgdcpolfekgjaaGreat
open Go.RowKit

/-- what a round tells. -/
structure Rnd9 (T : ByteArray → ByteArray → ByteArray) (C : ByteArray → ByteArray → ByteArray → ByteArray) (U : ByteArray → ByteArray → ByteArray → ByteArray × Int) (B : ByteArray) (n k : Nat) (o : Ora) (w : ByteArray) (e c : Int) (t : ByteArray) (s x y : ByteArray) (d1 d2 : Ide) : Prop where
  lab : labV9 T o w e c = (s, { o with d := d1 }, 0)
  cel : celV9 C { o with d := d1 } s t = (x, { o with d := d2 }, 0)
  again : celV9 C { o with d := d2 } s t = (x, { o with d := d2 }, 0)
  opn : opnV9 U { o with d := d2 } s x = (y, 0)
  back : d2.c = false → y = t
  sizeS : s.size = 16
  sizeX : x.size = 40
  has : (ask9 w e c, s) ∈ d2.N
  sub : ∀ z ∈ o.d.N, z ∈ d2.N
  right1 : Rit8 d1
  ost1 : Ost9 (real9 o) (T o.key) (C o.key) B (n + 1) k d1
  ost : Ost9 (real9 o) (T o.key) (C o.key) B (n + 1) (k + 1) d2
  names : d2.N = d1.N
  cells : d1.K = o.d.K
  growN : d1.N.length = o.d.N.length ∨ d1.N.length = o.d.N.length + 1
  growK : d2.K.length = d1.K.length ∨ d2.K.length = d1.K.length + 1
section
variable {T : ByteArray → ByteArray → ByteArray} {C : ByteArray → ByteArray → ByteArray → ByteArray} {U : ByteArray → ByteArray → ByteArray → ByteArray × Int} {B : ByteArray} {n k : Nat} {o : Ora}
theorem opnV9_found {o : Ora} (h : Rit9 o) {l t x : ByteArray} (hm : (l, t, x) ∈ o.d.K) (hU : ∀ key l t, key.size = 32 → l.size = 16 → t.size = 24 → U key l (C key l t) = (t, 0)) (hx : real9 o = true → x = C o.key l t) :
    (opnV9 U o l x).2 = 0 ∧ (o.d.c = false → (opnV9 U o l x).1 = t) := by
  obtain ⟨h1, h2, h3⟩ := okK_mem h.d hm
  have h1' : l.size = 16 := h1
  have h2' : t.size = 24 := h2
  have h3' : x.size = 40 := h3
  rw [opnV9, if_pos ((right9_iff o).2 h), h1', h3', if_pos (by decide)]
  cases hr : real9 o with
  | true =>
    rw [if_pos rfl, hx hr, hU _ _ _ h.key h1' h2']
    exact ⟨rfl, fun _ => rfl⟩
  | false =>
    rw [if_neg (by simp)]
    exact ope8_found h.d hm
theorem round9 (hm : o.m = 1 ∨ o.m = 2) (hk : o.key.size = 32) (h : Ost9 (real9 o) (T o.key) (C o.key) B n k o.d) (hn : n ≤ 19) (hk2 : k ≤ 19) (hB : B.size = 2000) (hT : ∀ k i, (T k i).size = 16) (hC : ∀ k l t, (C k l t).size = t.size + 16)
    (hU : ∀ key l t, key.size = 32 → l.size = 16 → t.size = 24 → U key l (C key l t) = (t, 0)) {w t : ByteArray} {e c : Int} (hq : askE9 w e c = true) (ht : t.size = 24) :
    ∃ s x y d1 d2, Rnd9 T C U B n k o w e c t s x y d1 d2 := by
  obtain ⟨s, d1, e1, hL, o1, _⟩ := labV9_ost hm hk h (by omega) (by omega) hB hT hq
  obtain ⟨x, d2, e2, hC2, o2, hx⟩ := celV9_ost (o := { o with d := d1 }) hm hk o1 (by omega) (by omega) hB hC hL.size ht
  have hR2 : Rit9 { o with d := d2 } := ⟨hm, hk, hC2.right⟩
  have e3 : celV9 C { o with d := d2 } s t = (x, { o with d := d2 }, 0) := by
    rw [celV9, (right9_iff _).2 hR2, hL.size, ht, if_pos (by decide)]
    have := cel9M_found (real := real9 o) hC2.right (S := C o.key s t) (by rw [hC]; omega) hC2.has
    have hc : ∀ r : ByteArray × Ide × Int, r = (x, d2, 0) → ((r.1, { o with d := r.2.1 }, r.2.2) : ByteArray × Ora × Int) = (x, { o with d := d2 }, 0) := fun r h => by subst h; rfl
    exact hc _ this
  obtain ⟨f1, f2⟩ := opnV9_found (U := U) hR2 hC2.has hU hx
  refine ⟨s, x, (opnV9 U { o with d := d2 } s x).1, d1, d2, e1, e2, e3, Prod.ext rfl f1, f2, hL.size, hC2.size, ?_, ?_, hL.right, o1, o2, hC2.names, hL.cells, hL.grow, hC2.grow⟩
  · rw [hC2.names]; exact hL.has
  · intro z hz
    rw [hC2.names]
    exact hL.sub z hz
end
/-- what was asked, and its labels, behind k rounds. -/
structure Kp9 (qs : List ByteArray) (k : Nat) (d : Ide) (L : List ByteArray) : Prop where
  len : L.length = k
  old : ∀ (j : Nat) (q s : ByteArray), j < k → qs[j]? = some q → L[j]? = some s → (q, s) ∈ d.N
theorem Kp9.start (qs : List ByteArray) (d : Ide) : Kp9 qs 0 d [] := ⟨rfl, fun _ _ _ hj => absurd hj (Nat.not_lt_zero _)⟩
section
variable {qs L : List ByteArray} {k : Nat} {d d2 : Ide} {i s : ByteArray}
theorem Kp9.step (h : Kp9 qs k d L) (hi : qs[k]? = some i) (hsub : ∀ z ∈ d.N, z ∈ d2.N) (hm : (i, s) ∈ d2.N) : Kp9 qs (k + 1) d2 (L ++ [s]) := by
  refine ⟨by rw [List.length_append, h.len]; rfl, fun j q s2 hj hq hs => ?_⟩
  by_cases hjk : j < k
  · rw [List.getElem?_append_left (by rw [h.len]; exact hjk)] at hs
    exact hsub _ (h.old j q s2 hjk hq hs)
  · obtain rfl : j = k := by omega
    rw [hi] at hq
    cases hq
    rw [List.getElem?_append_right (by rw [h.len]; exact Nat.le_refl _), h.len, Nat.sub_self] at hs
    cases hs
    exact hm
/-- one answered before, and the new one. -/
theorem Kp9.both (h : Kp9 qs k d L) (hr : Rit8 d2) (hsub : ∀ z ∈ d.N, z ∈ d2.N) (hm : (i, s) ∈ d2.N) {j : Nat} {q s2 : ByteArray} (hj : j < k) (hq : qs[j]? = some q) (hs : L[j]? = some s2) :
    (q = i → s2 = s) ∧ (q ≠ i → s2 = s → d2.c = true) := by
  have h1 := hsub _ (h.old j q s2 hj hq hs)
  refine ⟨fun e => ?_, fun hne e => ?_⟩
  · subst e; exact name_one hr h1 hm
  · subst e; exact name_clash hr h1 hm hne
end
end Go.Proofs.YtfgdcpolfekgjaaGreat

