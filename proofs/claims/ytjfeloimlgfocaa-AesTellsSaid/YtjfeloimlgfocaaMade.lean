/-
  A law for 'for .. := range it', where the iterator, once it is called, first writes one block that was there already (block s), and then tells a list that is known ahead; the body always goes on. Nothing of the program stands here.
-/
import Derived.Test.YtjfeloimlgfocaaKit
import Derived.RangeFuncNested
import Derived.RangeFuncFrom
import Derived.RangeFuncLeaves
namespace Go.Proofs.Ytjfeloimlgfocaa
open Go.RowKit

/-- all blocks of cells but Bb are as they were. -/
structure Keep (Bb : Nat) (W W' : World) : Prop where
  size : W.heap.size ≤ W'.heap.size
  same : ∀ (k : Nat) (o : Obj), W.heap[k]? = some o → k ≠ Bb → o.isCells = true → W'.heap[k]? = some o
theorem Keep.refl (Bb : Nat) (W : World) : Keep Bb W W := ⟨Nat.le_refl _, fun _ _ h _ _ => h⟩
theorem Keep.trans {Bb : Nat} {A B C : World} (h : Keep Bb A B) (k : Keep Bb B C) : Keep Bb A C := ⟨Nat.le_trans h.size k.size, fun i o hi hb hc => k.same i o (h.same i o hi hb hc) hb hc⟩
theorem Keep.below {Bb : Nat} {A B : World} (h : Below A.heap.size A B) : Keep Bb A B := ⟨h.size, fun i o hi _ _ => (h.block i (Array.getElem?_eq_some_iff.1 hi).1).trans hi⟩
theorem Keep.putObj {Bb l : Nat} {A : World} {o o' : Obj} (hl : A.heap[l]? = some o) (ho : o.isCells = false) : Keep Bb A (A.putObj l o') :=
  ⟨by rw [World.putObj_size]; exact Nat.le_refl _, fun i x hi _ hc => by
    have : i ≠ l := fun e => by subst e; rw [hl] at hi; cases hi; rw [ho] at hc; cases hc
    exact (World.putObj_heap_other this).trans hi⟩
theorem Keep.is {Bb : Nat} {A B : World} (h : Keep Bb A B) {g : Nat} {t : TypeId} {cs : Array Value} (hg : Is A g t cs) (hne : g ≠ Bb) : Is B g t cs := h.same g _ hg hne rfl

/-- what an iterator tells, that first turns block s into what Mk says. -/
def SeqMade {α : Type} (F : Fence) (n : Nat) (P : Program) (gf : Nat) (lb : Array Value) (encs : α → Array Value) (Bb s : Nat) (Mk : World → Prop) (xs : List α) (w : World) : Prop :=
  ∀ (l : Nat) (J : Nat → World → Prop) (W : World), Below w.heap.size w W →
    (∀ i A B, J i A → Below A.heap.size A B → J i B) →
    (∀ W', W.grownBy W' (some s) → Mk W' → J 0 W') →
    (∀ i x W1, xs[i]? = some x → J i W1 → YieldAt F (n - 1) P l (encs x) W1 fun e W' => e = .returned (.bool true) ∧ J (i + 1) W' ∧ Keep Bb W1 W') →
    CallsIn F n P gf (#[.func (.yield l) #[] #[]] ++ lb) W fun e W' => (∃ v, e = .returned v) ∧ J xs.length W'

theorem wpIn_rangeMade {α : Type} {F : Fence} {n : Nat} {P : Program} {g : Operand} {ps : Array Tmp} {assign body : Code} {Q : Exit → Act → World → Prop} {a : Act} {w : World}
    (hro : F.round = none) (h1 : 1 ≤ n) {gf : Nat} {lb : Array Value} (hg : a.eval g = .func (.func gf) #[] lb) (hFg : F.fn gf) (eg : ∀ args w, (callFunc gf args).run P w = .ok (.enter gf args) w)
    {encs : α → Array Value} {Bb s : Nat} {Mk : World → Prop} {xs : List α} (hseq : SeqMade F (n - 1) P gf lb encs Bb s Mk xs w) (hps : ∀ x, (encs x).size = ps.size) (hsw : s < w.heap.size)
    (I : Nat → World → Prop) (hIA : ∀ i A B, I i A → Below A.heap.size A B → I i B)
    (hIP : ∀ i A l o o', w.heap.size ≤ l → A.heap[l]? = some o → o.isCells = false → I i A → I i (A.putObj l o'))
    (h0 : ∀ W W', Below w.heap.size w W → W.grownBy W' (some s) → Mk W' → I 0 W')
    (hround : ∀ (l i : Nat) (x : α) (W : World), w.heap.size ≤ l → l < W.heap.size → xs[i]? = some x → I i W →
      assign.wpIn (F.inRound l) (n - 1 - 1) P (Exit.then (fun a' W' => KeepsOthers W W' ∧ Keep Bb W W' ∧ ∀ o', body.wpIn (F.inRound l) (n - 1 - 1) P (fun e _ W3 => e = .normal ∧ KeepsOthers (W'.putObj l (.loop o')) W3 ∧ Keep Bb (W'.putObj l (.loop o')) W3 ∧ I (i + 1) W3) a' (W'.putObj l (.loop o'))) (fun _ _ _ => False))
        { tmps := (ps.zip (encs x)).foldl (fun t (p, v) => t.setIfInBounds p v) a.tmps, defers := [] } W)
    (hdone : ∀ (D : Nat) (W : World), w.heap.size ≤ D → I xs.length W → W.heap[D]? = some (.deferred (some [])) → Q .normal { a with defers := { target := .collected D, args := #[] } :: a.defers } W) :
    (Code.rangeFunc g ps assign body).wpIn F n P Q a w := by
  refine wpIn_rangeFunc fun fn hfn => ?_
  rw [hro]
  obtain ⟨R, hR⟩ : ∃ R : Loop, R = { state := .ready, pending := none, fn := fn, tmps := a.tmps, params := ps, assign := assign, body := body, defers := w.heap.size } := ⟨_, rfl⟩
  obtain ⟨W1, hW1⟩ : ∃ W1, W1 = (w.alloc (.deferred (some []))).alloc (.loop R) := ⟨_, rfl⟩
  have hb1 : Below w.heap.size w W1 := by rw [hW1]; exact ((Below.refl _ w).alloc (Nat.le_refl _) _).alloc (by simp) _
  have hl1 : W1.heap[w.heap.size + 1]? = some (.loop R) := by rw [hW1]; exact heap_alloc2_new w _ _
  have hk1 : W1.heap[w.heap.size]? = some (.deferred (some [])) := by rw [hW1]; exact heap_alloc2_old w _ _
  refine ⟨w.heap.size + 1, [{ target := .collected w.heap.size, args := #[] }], W1, { target := .fn (.func gf) lb, args := #[.func (.yield (w.heap.size + 1)) #[] #[]] }, W1, gf, #[.func (.yield (w.heap.size + 1)) #[] #[]] ++ lb, W1, ?_, ?_, ?_, ?_, fun _ => h1, ?_⟩
  · rw [hW1, hR]; exact run_enterLoop_outer _ _ _ _ _
  · simp only [resolve, hg]; simp [go_sem]
  · intro f' hf'; simp [Target.leads] at hf'; subst hf'; exact hFg
  · simp [invoke, go_sem, eg]
  refine (hseq (w.heap.size + 1) (fun i W => I i W ∧ W.heap[w.heap.size + 1]? = some (.loop R) ∧ W.heap[w.heap.size]? = some (.deferred (some []))) W1 hb1 ?_ ?_ ?_).mono ?_
  · rintro i A B ⟨hi, hl, hk⟩ hb
    exact ⟨hIA i A B hi hb, (hb.block _ (Array.getElem?_eq_some_iff.1 hl).1).trans hl, (hb.block _ (Array.getElem?_eq_some_iff.1 hk).1).trans hk⟩
  · intro W' hgr hmk
    exact ⟨h0 W1 W' hb1 hgr hmk, (hgr.block _ (Array.getElem?_eq_some_iff.1 hl1).1 (by intro e; cases e; omega)).trans hl1, (hgr.block _ (Array.getElem?_eq_some_iff.1 hk1).1 (by intro e; cases e; omega)).trans hk1⟩
  · rintro i x W hx ⟨hi, hl, hk⟩
    have hlt : w.heap.size + 1 < W.heap.size := (Array.getElem?_eq_some_iff.1 hl).1
    have hst : R.state = .ready := by rw [hR]
    have hy := run_yield (P := P) (args := encs x) hl (by rw [hR]; exact hps x)
    rw [show R.fn = fn by rw [hR], show R.params = ps by rw [hR], show R.tmps = a.tmps by rw [hR], show R.assign = assign by rw [hR], show R.body = body by rw [hR]] at hy
    refine ⟨fn, _, assign, body, hy, roundIn_of_wpIn hfn (wpIn_mono (hround (w.heap.size + 1) i x W (by omega) hlt hx hi) ?_)⟩
    rintro e a' W' hp
    cases e with
    | normal =>
      obtain ⟨ko, kp, hbody⟩ := hp
      have hl2 := ko.same _ _ hl rfl
      have hk2 := ko.same _ _ hk rfl
      refine ⟨_, run_beginRound hl2 hst, wpIn_mono (hbody { R with state := .busy }) ?_⟩
      rintro e2 a3 W3 ⟨rfl, ko3, kp3, hi3⟩
      have hlt2 : w.heap.size + 1 < W'.heap.size := (Array.getElem?_eq_some_iff.1 hl2).1
      have hl3 := ko3.same _ _ (World.putObj_heap_same hlt2) rfl
      have hk3 := ko3.same _ _ ((World.putObj_heap_other (by omega)).trans hk2) rfl
      have hend := run_endRound (P := P) none hl3
      have hRR : ({ { R with state := .busy } with state := if (none : Option Code).isNone then .ready else .done, pending := none } : Loop) = R := by rw [hR]; rfl
      rw [hRR] at hend
      refine ⟨_, _, hend, rfl, ⟨hIP _ _ _ _ _ (by omega) hl3 rfl hi3, World.putObj_heap_same (Array.getElem?_eq_some_iff.1 hl3).1, (World.putObj_heap_other (by omega)).trans hk3⟩, ?_⟩
      exact ((kp.trans (Keep.putObj hl2 rfl)).trans kp3).trans (Keep.putObj hl3 rfl)
    | _ => exact hp.elim
  · rintro e W2 ⟨⟨v, rfl⟩, hi, hl, hk⟩
    have hend := run_endLoop (P := P) hl (by rw [hR]; simp)
    rw [show R.pending = none by rw [hR]] at hend
    exact ⟨none, _, hend, hdone _ _ (Nat.le_refl _) (hIP _ _ _ _ _ (by omega) hl rfl hi) ((World.putObj_heap_other (by omega)).trans hk)⟩
end Go.Proofs.Ytjfeloimlgfocaa
