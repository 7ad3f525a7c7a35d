/-
  Layer 8, plain: what Label and Seal tell, by what is asked and what is there. Nothing of the program stands here.
-/
import Derived.Test.YtdbdoammbnogaaaIdx2
namespace Go.Proofs.Ytdbdoammbnogaaa
open Go.RowKit

structure No8 (p : Prop) : Prop where
  out : p
theorem no8_step {α : Type} {l : List α} {j : Nat} {x : α} {p : α → Prop} (hx : l[j]? = some x) (h : ∀ y ∈ l.take j, ¬ p y) (hp : ¬ p x) : ∀ y ∈ l.take (j + 1), ¬ p y := fun y hy => by
  rw [List.take_add_one, hx] at hy
  rcases List.mem_append.1 hy with h1 | h1
  · exact h y h1
  · rw [List.mem_singleton.1 h1]; exact hp
theorem find_first {α : Type} {l : List α} {j : Nat} {x : α} {p : α → Bool} (hx : l[j]? = some x) (h : ∀ y ∈ l.take j, ¬ p y = true) (hp : p x = true) : l.find? p = some x := by
  have hi : j < l.length := (List.getElem?_eq_some_iff.1 hx).1
  have hd : l.drop j = x :: l.drop (j + 1) := by
    rw [List.drop_eq_getElem_cons hi]
    rw [List.getElem?_eq_getElem hi] at hx
    rw [Option.some.inj hx]
  rw [← List.take_append_drop j l, List.find?_append, List.find?_eq_none.2 h, hd]
  simp [hp]
structure LabOk (d : Ide) (i : ByteArray) : Prop where
  out : (right8 d && decide (i.size ≤ 100)) = true
theorem dlab_of {d : Ide} {i : ByteArray} (h : right8 d = true) (hi : i.size ≤ 100) : LabOk d i := ⟨by rw [h]; simp [hi]⟩
section
variable {d : Ide} {i : ByteArray} (hz : LabOk d i)
include hz
theorem dlab_hit {x : Nam8} {j : Nat} (hx : d.N[j]? = some x) (hq : x.1 = i) (hn : ∀ y ∈ d.N.take j, ¬ y.1 = i) : lab8 d i = (x.2, d, 0) := by
  rw [lab8, if_pos hz.out, find_first hx (fun y hy => by simpa using hn y hy) (by simpa using hq)]
theorem dlab_full (hn : ∀ y ∈ d.N, ¬ y.1 = i) (hl : 2000 ≤ d.N.length) : lab8 d i = (⟨#[]⟩, d, 2) := by
  rw [lab8, if_pos hz.out, List.find?_eq_none.2 (fun y hy => by simpa using hn y hy)]
  exact if_pos hl
theorem dlab_new (hn : ∀ y ∈ d.N, ¬ y.1 = i) (hl : ¬ 2000 ≤ d.N.length) (ht : takeE d.B d.a 16 = 0) : lab8 d i = (takeS d.B d.a 16, ⟨d.B, d.a + 16, d.N ++ [(i, takeS d.B d.a 16)], d.K, clash8 (d.N ++ [(i, takeS d.B d.a 16)]) d.K⟩, 0) := by
  rw [lab8, if_pos hz.out, List.find?_eq_none.2 (fun y hy => by simpa using hn y hy)]
  exact (if_neg hl).trans (if_pos ht)
theorem dlab_err (hn : ∀ y ∈ d.N, ¬ y.1 = i) (hl : ¬ 2000 ≤ d.N.length) (ht : ¬ takeE d.B d.a 16 = 0) : lab8 d i = (⟨#[]⟩, d, takeE d.B d.a 16) := by
  rw [lab8, if_pos hz.out, List.find?_eq_none.2 (fun y hy => by simpa using hn y hy)]
  exact (if_neg hl).trans (if_neg ht)
end
structure SeaOk (d : Ide) (l t : ByteArray) : Prop where
  out : (right8 d && (decide (l.size = 16) && decide (t.size = 24))) = true
theorem dsea_of {d : Ide} {l t : ByteArray} (h : right8 d = true) (hi : l.size = 16 ∧ t.size = 24) : SeaOk d l t := ⟨by rw [h]; simp [hi]⟩
section
variable {d : Ide} {l t : ByteArray} (hz : SeaOk d l t)
include hz
theorem dsea_hit {x : Cel8} {j : Nat} (hx : d.K[j]? = some x) (hq : x.1 = l ∧ x.2.1 = t) (hn : ∀ y ∈ d.K.take j, ¬ (y.1 = l ∧ y.2.1 = t)) : sea8 d l t = (x.2.2, d, 0) := by
  rw [sea8, if_pos hz.out, find_first hx (fun y hy => by simpa using hn y hy) (by simpa using hq)]
theorem dsea_full (hn : ∀ y ∈ d.K, ¬ (y.1 = l ∧ y.2.1 = t)) (hl : 2000 ≤ d.K.length) : sea8 d l t = (⟨#[]⟩, d, 2) := by
  rw [sea8, if_pos hz.out, List.find?_eq_none.2 (fun y hy => by simpa using hn y hy)]
  exact if_pos hl
theorem dsea_new (hn : ∀ y ∈ d.K, ¬ (y.1 = l ∧ y.2.1 = t)) (hl : ¬ 2000 ≤ d.K.length) (ht : takeE d.B d.a 40 = 0) : sea8 d l t = (takeS d.B d.a 40, ⟨d.B, d.a + 40, d.N, d.K ++ [(l, t, takeS d.B d.a 40)], clash8 d.N (d.K ++ [(l, t, takeS d.B d.a 40)])⟩, 0) := by
  rw [sea8, if_pos hz.out, List.find?_eq_none.2 (fun y hy => by simpa using hn y hy)]
  exact (if_neg hl).trans (if_pos ht)
theorem dsea_err (hn : ∀ y ∈ d.K, ¬ (y.1 = l ∧ y.2.1 = t)) (hl : ¬ 2000 ≤ d.K.length) (ht : ¬ takeE d.B d.a 40 = 0) : sea8 d l t = (⟨#[]⟩, d, takeE d.B d.a 40) := by
  rw [sea8, if_pos hz.out, List.find?_eq_none.2 (fun y hy => by simpa using hn y hy)]
  exact (if_neg hl).trans (if_neg ht)
end
end Go.Proofs.Ytdbdoammbnogaaa
