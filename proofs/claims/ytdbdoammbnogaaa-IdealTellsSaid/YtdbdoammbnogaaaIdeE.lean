/-
  Layer 8: contract of ideal.sized, the program's: whether there are no more things than may be, each of the bytes that it must have. Condition: the ideal's lists lie where its slices point to.
-/
import Derived.Test.YtdbdoammbnogaaaIdeD
namespace Go.Proofs.Ytdbdoammbnogaaa
open Go.RowKit Go.Shelf
attribute [local go_sem] Oper.semAt_some

def sized8 (d : Ide) : Bool := (decide (d.N.length ≤ 2000) && decide (d.K.length ≤ 2000)) && (d.N.all okN && d.K.all okK)
theorem all_take {α : Type} {p : α → Bool} {l : List α} {i : Nat} {x : α} (hx : l[i]? = some x) (h : (l.take i).all p = true) (hp : p x = true) : (l.take (i + 1)).all p = true := by
  rw [List.take_add_one, hx, List.all_append, h]
  simp [hp]
theorem all_miss {α : Type} {p : α → Bool} {l : List α} {i : Nat} {x : α} (hx : l[i]? = some x) (hp : p x = false) : l.all p = false := by
  rw [List.all_eq_false]
  exact ⟨x, List.mem_of_getElem? hx, by rw [hp]; decide⟩
theorem InV.blkN {W : World} {A : Option Addr} {N : List Nam8} (h : InV W A (flN N)) : ∀ p, A = some p → N ≠ [] → p.block < W.heap.size := fun p e hn => by
  cases N with
  | nil => exact absurd rfl hn
  | cons x r =>
    obtain ⟨b, off, e2, hb, _⟩ := h 0 (.string x.1) rfl
    rw [e] at e2
    cases e2
    exact hb
theorem InV.blkK {W : World} {A : Option Addr} {N : List Cel8} (h : InV W A (flK N)) : ∀ p, A = some p → N ≠ [] → p.block < W.heap.size := fun p e hn => by
  cases N with
  | nil => exact absurd rfl hn
  | cons x r =>
    obtain ⟨b, off, e2, hb, _⟩ := h 0 (.string x.1) rfl
    rw [e] at e2
    cases e2
    exact hb
section
variable {w W : World} {d : Ide} {A : Option Addr} {c : Nat} {A' : Option Addr} {c' : Nat} (h : InI w d A c A' c') (n : Nat) (Bd : Nat) (hb : Below w.heap.size w W) (hBd : Is W Bd 30 (ideL d A c A' c'))
include h hb hBd
theorem InI.seqN (hn : 1 ≤ n) : SeqL Fence.wide n Try.prog 44 #[.pointer (some ⟨Bd, 0, none⟩)] encN8 d.N (fun k => k < W.heap.size) W :=
  names_seq n hn Bd _ _ _ _ _ A c d.N W hBd rfl (h.n.keep hb) (by have := h.fit; omega) _ hBd.lt (h.n.keep hb).blkN
theorem InI.seqK (hn : 1 ≤ n) : SeqL Fence.wide n Try.prog 50 #[.pointer (some ⟨Bd, 0, none⟩)] encP8 (d.K.map askK) (fun k => k < W.heap.size) W :=
  cells_seq n hn Bd _ _ _ _ _ A' c' d.K W hBd rfl (h.k.keep hb) (by have := h.fitK; omega) _ hBd.lt (h.k.keep hb).blkK
theorem InI.seqO (hn : 3 ≤ n) : SeqL Fence.wide n Try.prog 48 #[.pointer (some ⟨Bd, 0, none⟩)] encN8 (d.N.map outN) (fun k => k < W.heap.size) W :=
  outs_seq n hn Bd _ _ _ _ _ A c d.N W hBd rfl (h.n.keep hb) (by have := h.fit; omega) _ hBd.lt (h.n.keep hb).blkN (fun _ h => h)
theorem InI.seqT (hn : 3 ≤ n) : SeqL Fence.wide n Try.prog 52 #[.pointer (some ⟨Bd, 0, none⟩)] encP8 (d.K.map opnK) (fun k => k < W.heap.size) W :=
  texts_seq n hn Bd _ _ _ _ _ A' c' d.K W hBd rfl (h.k.keep hb) (by have := h.fitK; omega) _ hBd.lt (h.k.keep hb).blkK (fun _ h => h)
end
end Go.Proofs.Ytdbdoammbnogaaa
