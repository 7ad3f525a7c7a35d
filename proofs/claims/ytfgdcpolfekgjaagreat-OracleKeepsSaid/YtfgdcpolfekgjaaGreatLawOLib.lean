/-
  Layer 9: raw questions of four numbers in memory; what a round's calls tell.
-/
import Derived.Test.YtfgdcpolfekgjaaGreatGOr2
import Derived.Test.YtfgdcpolfekgjaaGreatGRow
namespace Go.Proofs.YtfgdcpolfekgjaaGreat
open Go.RowKit Go.Shelf

theorem flQ_at {R : List Raw9} {k : Nat} {x : Raw9} (hx : R[k]? = some x) (j : Nat) (hj : j < 4) : (flQ R)[k * 4 + j]? = [Value.int .i64 x.1, .int .i64 x.2.1, .int .i64 x.2.2.1, .int .i64 x.2.2.2][j]? := by
  induction R generalizing k with
  | nil => simp at hx
  | cons y r ih =>
    cases k with
    | zero =>
      cases hx
      rw [Nat.zero_mul, Nat.zero_add]
      show ([Value.int .i64 x.1, .int .i64 x.2.1, .int .i64 x.2.2.1, .int .i64 x.2.2.2] ++ flQ r)[j]? = _
      rw [List.getElem?_append_left (by simpa using hj)]
    | succ k =>
      rw [List.getElem?_cons_succ] at hx
      show ([Value.int .i64 y.1, .int .i64 y.2.1, .int .i64 y.2.2.1, .int .i64 y.2.2.2] ++ flQ r)[(k + 1) * 4 + j]? = _
      rw [List.getElem?_append_right (by simp; omega), ← ih hx]
      congr 1
      simp
      omega
theorem InV.raw9 {W : World} {A : Option Addr} {R : List Raw9} (h : InV W A (flQ R)) {k : Nat} {x : Raw9} (hx : R[k]? = some x) :
    ∃ b off, A = some ⟨b, off, none⟩ ∧ b < W.heap.size ∧ W.rangeAt b (off + k * 4) [.int .i64 x.1, .int .i64 x.2.1, .int .i64 x.2.2.1, .int .i64 x.2.2.2] := by
  obtain ⟨b, off, rfl, hb, h0⟩ := h (k * 4 + 0) (.int .i64 x.1) ((flQ_at hx 0 (by omega)).trans rfl)
  refine ⟨b, off, rfl, hb, fun j v hj => ?_⟩
  have hj2 : j < 4 := (List.getElem?_eq_some_iff.1 hj).1
  obtain ⟨b2, off2, e, _, h1⟩ := h (k * 4 + j) v ((flQ_at hx j hj2).trans hj)
  cases e
  rw [← h1, Nat.add_assoc]
theorem Own8.off9 {W1 W2 : World} {A A1 : Option Addr} {n : Nat} (h : Own8 W1 W2 A A1) (hA : ∀ p, A = some p → (some n : Option Nat) ≠ some p.block) (hn : n < W1.heap.size) : ∀ p, A1 = some p → (some n : Option Nat) ≠ some p.block := fun p hp e => by
  rcases h with rfl | h
  · exact hA p hp e
  · have := (h p hp).1
    have := Option.some.inj e
    omega
theorem askE9_of (n : Raw9) (a b : Int) (ha : 0 ≤ a ∧ a < 3) (hb : 0 ≤ b ∧ b < 4) : askE9 (word9 n.2.1) a b = true := by
  have := word9_size n.2.1
  simp only [askE9, Bool.and_eq_true, decide_eq_true_eq]
  omega
section
variable [Tabs]
/-- what Label and Cell tell, as the regions that ask want it. -/
theorem lab_call9 {o o' : Ora} {A1 : Option Addr} {c1 : Nat} {A2 : Option Addr} {c2 : Nat} {W0 : World} {wd r : ByteArray} {ep ct : Int} (hT : ∀ W, Below W0.heap.size W0 W → Tab W) (h : InO W0 o A1 c1 A2 c2) (hr : right9 o = true) (hq : askE9 wd ep ct = true) (e : labV9 T9 o wd ep ct = (r, o', 0)) :
    Hid (∀ W, Below W0.heap.size W0 W → Calls Tryz.prog 18 #[oraV o A1 c1 A2 c2, .string wd, .int .i64 ep, .int .i64 ct] W fun e w' => ∃ F1 f1 F2 f2, e = .returned (.tuple #[.string r, oraV o' F1 f1 F2 f2, .int .i64 0]) ∧ InI w' o'.d F1 f1 F2 f2 ∧ Below W.heap.size W w' ∧ Own8 W w' A1 F1 ∧ Own8 W w' A2 F2) := Lib.hid fun W hb => by
  have hk := h.keep hb
  have := olabel_ok o A1 c1 A2 c2 wd ep ct W hk.a hk.b (hT W hb) hk.i hr hq
  rw [e] at this
  exact this
theorem cel_call9 {o o' : Ora} {A1 : Option Addr} {c1 : Nat} {A2 : Option Addr} {c2 : Nat} {W0 : World} {s t r : ByteArray} (hT : ∀ W, Below W0.heap.size W0 W → Tab W) (h : InO W0 o A1 c1 A2 c2) (hr : right9 o = true) (hs : s.size = 16) (ht : t.size = 24) (e : celV9 C9 o s t = (r, o', 0)) :
    Hid (∀ W, Below W0.heap.size W0 W → Calls Tryz.prog 23 #[oraV o A1 c1 A2 c2, .string s, .string t] W fun e w' => ∃ F1 f1 F2 f2, e = .returned (.tuple #[.string r, oraV o' F1 f1 F2 f2, .int .i64 0]) ∧ InI w' o'.d F1 f1 F2 f2 ∧ Below W.heap.size W w' ∧ Own8 W w' A1 F1 ∧ Own8 W w' A2 F2) := Lib.hid fun W hb => by
  have hk := h.keep hb
  have := ocell_ok o A1 c1 A2 c2 s t W hk.a hk.b (hT W hb) hk.i hr hs ht
  rw [e] at this
  exact this
end
end Go.Proofs.YtfgdcpolfekgjaaGreat

