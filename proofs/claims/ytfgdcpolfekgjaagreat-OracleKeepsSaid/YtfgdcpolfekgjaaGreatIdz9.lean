/-
  Layer 8: an ideal in a block of its own, and two rows of texts that grow side by side.
-/
import Derived.Test.YtfgdcpolfekgjaaGreatGIdy
import Derived.Test.YtfgdcpolfekgjaaGreatIdz1
namespace Go.Proofs.YtfgdcpolfekgjaaGreat
open Go.RowKit

theorem own_ne8 {A B : Option Addr} {k c : Nat} (h : ∀ p q, A = some p → B = some q → p.block ≠ q.block) : ∀ p, A = some p → (Value.slice B k c).ownBlock ≠ some p.block := fun p hp => by
  cases B with
  | none => intro e; cases e
  | some q =>
    intro e
    injection e with e
    exact h p q hp rfl e.symm
/-- where all stand: the ideal d in the block DA, what was asked, what was answered. -/
structure KIn8 (w W : World) (DA : Nat) (d : Ide) (A1 : Option Addr) (c1 : Nat) (A2 : Option Addr) (c2 : Nat) (AI : Option Addr) (cI : Nat) (AO : Option Addr) (cO : Nat) (L O : List ByteArray) : Prop where
  iA : Is W DA 29 (ideL d A1 c1 A2 c2)
  nA : InI W d A1 c1 A2 c2
  rI : RowV W w.heap.size 9 1 AI cI L.length (sL L)
  rO : RowV W w.heap.size 9 1 AO cO O.length (sL O)
  sep : Sep8 W.heap.size AI AO A1 A2
  hB : Below w.heap.size w W
section
variable {w W W' : World} {DA : Nat} {d : Ide} {A1 : Option Addr} {c1 : Nat} {A2 : Option Addr} {c2 : Nat} {AI : Option Addr} {cI : Nat} {AO : Option Addr} {cO : Nat} {L O : List ByteArray}
theorem KIn8.below (h : KIn8 w W DA d A1 c1 A2 c2 AI cI AO cO L O) (hb : Below W.heap.size W W') : KIn8 w W' DA d A1 c1 A2 c2 AI cI AO cO L O :=
  ⟨h.iA.below hb h.iA.lt, h.nA.keep hb, h.rI.below hb, h.rO.below hb, h.sep.mono hb.size, h.hB.trans (hb.mono h.hB.size)⟩
theorem KIn8.alloc (h : KIn8 w W DA d A1 c1 A2 c2 AI cI AO cO L O) (o : Obj) : KIn8 w (W.alloc o) DA d A1 c1 A2 c2 AI cI AO cO L O := h.below ((Below.refl _ _).alloc (Nat.le_refl _) o)
theorem KIn8.drewN (h : KIn8 w W DA d A1 c1 A2 c2 AI cI AO cO L O) (n : Nat) : KIn8 w (W.drewN n) DA d A1 c1 A2 c2 AI cI AO cO L O := h.below (belowN (Below.refl _ _) n)
theorem KIn8.ask (h : KIn8 w W DA d A1 c1 A2 c2 AI cI AO cO L O) {d' : Ide} {F1 : Option Addr} {f1 : Nat} {F2 : Option Addr} {f2 : Nat} (hB : Below w.heap.size w W') (iA : Is W' DA 29 (ideL d' F1 f1 F2 f2)) (nA : InI W' d' F1 f1 F2 f2) (hG : W.grownBy W' (some DA)) (o1 : OwnB W.heap.size W' A1 F1) (o2 : OwnB W.heap.size W' A2 F2) :
    KIn8 w W' DA d' F1 f1 F2 f2 AI cI AO cO L O :=
  ⟨iA, nA, h.rI.grownS hG h.iA (by decide), h.rO.grownS hG h.iA (by decide), h.sep.ask hG.size o1 o2, hB⟩
theorem KIn8.pushI (h : KIn8 w W DA d A1 c1 A2 c2 AI cI AO cO L O) {B : Option Addr} {cB : Nat} {s : ByteArray} (hr : RowV W' w.heap.size 9 1 B cB (L.length + 1) (sL L ++ (#[.string s] : Array Value).toList)) (hg : W.grownBy W' (Value.slice AI L.length cI).ownBlock) (ha : Atn W.heap.size AI B) :
    KIn8 w W' DA d A1 c1 A2 c2 B cB AO cO (L ++ [s]) O := by
  refine ⟨h.rI.isFar hg h.iA (by decide), h.nA.apart hg (own_ne8 fun p q hp hq e => h.sep.i1 q p hq hp e.symm) (own_ne8 fun p q hp hq e => h.sep.i2 q p hq hp e.symm), ?_, h.rO.apart hg (own_ne8 fun p q hp hq e => h.sep.io q p hq hp e.symm), h.sep.pushI ha hg.size (fun p hp => (hr.own8 p hp).2), h.rI.belowG h.hB hg⟩
  rw [List.length_append, sL_snoc]
  exact hr
theorem KIn8.pushO (h : KIn8 w W DA d A1 c1 A2 c2 AI cI AO cO L O) {B : Option Addr} {cB : Nat} {s : ByteArray} (hr : RowV W' w.heap.size 9 1 B cB (O.length + 1) (sL O ++ (#[.string s] : Array Value).toList)) (hg : W.grownBy W' (Value.slice AO O.length cO).ownBlock) (ha : Atn W.heap.size AO B) :
    KIn8 w W' DA d A1 c1 A2 c2 AI cI B cB L (O ++ [s]) := by
  refine ⟨h.rO.isFar hg h.iA (by decide), h.nA.apart hg (own_ne8 fun p q hp hq e => h.sep.o1 q p hq hp e.symm) (own_ne8 fun p q hp hq e => h.sep.o2 q p hq hp e.symm), h.rI.apart hg (own_ne8 fun p q hp hq => h.sep.io p q hp hq), ?_, (h.sep.swap.pushI ha hg.size (fun p hp => (hr.own8 p hp).2)).swap, h.rO.belowG h.hB hg⟩
  rw [List.length_append, sL_snoc]
  exact hr
end
end Go.Proofs.YtfgdcpolfekgjaaGreat

