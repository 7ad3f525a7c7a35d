/-
  Layer 7: lists in memory of one's own: two things that change places in it. Nothing of the program stands here but the numbers of its types.
-/
import Derived.Test.YtdbdoammbnogaaaTapC
import Derived.Lib.BufStepsIn
import Derived.Lib.OthersKept
namespace Go.Proofs.Ytdbdoammbnogaaa
open Go.RowKit Go.Shelf

theorem is_ne {W : World} {g g' : Nat} {t t' : TypeId} {cs cs' : Array Value} (h : Is W g t cs) (h' : Is W g' t' cs') (hne : t ≠ t') : g ≠ g' := fun e => by
  subst e
  have := h.symm.trans h'
  cases this
  exact hne rfl
theorem grown7 {W W1 : World} (hb : Below W.heap.size W W1) : W.grownBy W1 none := ⟨hb.os, hb.tape, hb.output, hb.size, fun k hk _ => hb.block k hk⟩
theorem grownSet7 (w : World) (p : Addr) (v : Value) : w.grownBy (w.setCell p v) (some p.block) :=
  ⟨rfl, rfl, rfl, by simp [World.setCell], fun k _ hne => heap_setCell_other w p k v (fun e => hne (by rw [e]))⟩
theorem own_base {w : World} {base b2 : Nat} {e : TypeId} {size n : Nat} {v : Value} {xs : List Value} (h : w.ownsRow base e size v n xs) (hb : b2 ≤ base) : w.ownsRow b2 e size v n xs := by
  refine ⟨h.1, ?_⟩
  rcases h.2 with h0 | ⟨g, cap, cur, rfl, hg, rest⟩
  · exact .inl h0
  · exact .inr ⟨g, cap, cur, rfl, Nat.le_trans hb hg, rest⟩
/-- a list in memory from block base on. -/
def RowD (W : World) (base : Nat) (A : Option Addr) (c : Nat) (L : List Int) : Prop := W.ownsRow base 3 1 (.slice A L.length c) L.length (iL L)
theorem RowD.grown {W W' : World} {base : Nat} {A : Option Addr} {c : Nat} {L : List Int} (h : RowD W base A c L) {row : Option Nat} (hg : W.grownBy W' row) (hr : ∀ r, row = some r → ∃ t cs, Is W r t cs ∧ t ≠ 3) : RowD W' base A c L := by
  refine h.kept hg ?_
  rcases h.2 with ⟨h0, _⟩ | ⟨g, cap, cur, h0, _, hi, _⟩
  · rw [h0]
    exact .inl rfl
  · rw [h0]
    refine .inr fun e => ?_
    obtain ⟨t, cs, h1, h2⟩ := hr g e.symm
    exact is_ne h1 (show Is W g 3 cur from hi) h2 rfl
theorem RowD.below {W W' : World} {base : Nat} {A : Option Addr} {c : Nat} {L : List Int} (h : RowD W base A c L) (hb : Below W.heap.size W W') : RowD W' base A c L := h.grown (grown7 hb) (fun r e => by cases e)
theorem RowD.far {W : World} {base : Nat} {A : Option Addr} {c : Nat} {L : List Int} (h : RowD W base A c L) {p : Addr} {t : TypeId} {cs : Array Value} (hp : Is W p.block t cs) (ht : t ≠ 3) (v : Value) : RowD (W.setCell p v) base A c L :=
  h.grown (grownSet7 _ _ _) (fun r e => by cases e; exact ⟨t, cs, hp, ht⟩)
theorem RowD.drewN {W : World} {base : Nat} {A : Option Addr} {c : Nat} {L : List Int} (h : RowD W base A c L) (n : Nat) : RowD (W.drewN n) base A c L := h
theorem RowD.open {W : World} {base : Nat} {A : Option Addr} {c : Nat} {L : List Int} (h : RowD W base A c L) (hn : 0 < L.length) :
    ∃ g cur, A = some ⟨g, 0, none⟩ ∧ base ≤ g ∧ Is W g 3 cur ∧ L.length ≤ c ∧ c ≤ maxLen ∧ cur.size = c ∧ cur.toList.take L.length = iL L := by
  rcases h.2 with ⟨_, h0⟩ | ⟨g, cap, cur, h0, hb, hi, hc, hm, hs, ht⟩
  · omega
  · cases h0
    rw [Nat.mul_one] at hs ht
    exact ⟨g, cur, rfl, hb, hi, hc, hm, hs, ht⟩
theorem row_at {cur : Array Value} {L : List Int} (ht : cur.toList.take L.length = iL L) {i : Nat} (hi : i < L.length) : cur[i]? = some (.int .i64 (L.getD i 0)) := by
  have h1 : (cur.toList.take L.length)[i]? = (iL L)[i]? := by rw [ht]
  rw [List.getElem?_take, if_pos hi, Array.getElem?_toList, List.getElem?_map, List.getElem?_eq_getElem hi] at h1
  rw [h1, List.getD_eq_getElem?_getD, List.getElem?_eq_getElem hi]
  rfl
/-- two things changed places. -/
theorem RowD.swap {W : World} {base g c : Nat} {L : List Int} (h : RowD W base (some ⟨g, 0, none⟩) c L) {i k : Nat} (_hi : i < L.length) (_hk : k < L.length) :
    RowD ((W.setCell ⟨g, i, none⟩ (.int .i64 (L.getD k 0))).setCell ⟨g, k, none⟩ (.int .i64 (L.getD i 0))) base (some ⟨g, 0, none⟩) c (swpL L i k) := by
  obtain ⟨g2, cur, e, hb, hI, hc, hm, hs, ht⟩ := h.open (by omega)
  injection e with e
  injection e with e
  subst e
  have hl := swpL_len L i k
  refine ⟨by simp, .inr ⟨g, c, (cur.setIfInBounds i (.int .i64 (L.getD k 0))).setIfInBounds k (.int .i64 (L.getD i 0)), rfl, hb, (hI.set i _).set k _, by rw [hl]; exact hc, hm, by simp [hs], ?_⟩⟩
  rw [Nat.mul_one, hl, swpL, Array.toList_setIfInBounds, Array.toList_setIfInBounds, List.take_set, List.take_set, ht, iL, iL, List.map_set, List.map_set]
end Go.Proofs.Ytdbdoammbnogaaa
