/-
  Layer 9: an oracle in a block of its own, a tape in another one, and two rows of texts that grow side by side.
-/
import Derived.Test.YtfgdcpolfekgjaaGreatLawOLib
import Derived.Test.YtfgdcpolfekgjaaGreatIdz9
namespace Go.Proofs.YtfgdcpolfekgjaaGreat
open Go.RowKit Go.Shelf

theorem neT9 (B : ByteArray) (a : Int) (w : World) : (binOp .neq 23 (.agg #[.string B, .int .i64 a]) (.agg #[.string B, .int .i64 a])).run Tryz.prog w = .ok (.bool false) w := by go_simp
theorem OwnB.chain9 {n : Nat} {W W2 W3 : World} {A F G : Option Addr} (h : OwnB n W A F) (k : Own8 W2 W3 F G) (h1 : n ≤ W2.heap.size) (h2 : W.heap.size ≤ W3.heap.size) : OwnB n W3 A G := by
  rcases k with rfl | k
  · rcases h with h | h
    · exact .inl h
    · exact .inr fun p hp => ⟨(h p hp).1, Nat.lt_of_lt_of_le (h p hp).2 h2⟩
  · exact .inr fun p hp => ⟨Nat.le_trans h1 (k p hp).1, (k p hp).2⟩
theorem OwnB.wide9 {n : Nat} {W W3 : World} {A F : Option Addr} (h : OwnB n W A F) (h2 : W.heap.size ≤ W3.heap.size) : OwnB n W3 A F := h.imp id fun h p hp => ⟨(h p hp).1, Nat.lt_of_lt_of_le (h p hp).2 h2⟩
theorem OwnB.off9 {n b : Nat} {W : World} {A F : Option Addr} (h : OwnB n W A F) (hA : ∀ p, A = some p → (some b : Option Nat) ≠ some p.block) (hn : b < n) : ∀ p, F = some p → (some b : Option Nat) ≠ some p.block := fun p hp e => by
  rcases h with rfl | h
  · exact hA p hp e
  · have := (h p hp).1
    have := Option.some.inj e
    omega
/-- where all stand: the oracle o in the block DO, the tape it began with in DF, what was asked, what was answered. -/
structure KIn9 (w W : World) (DO DF : Nat) (B : ByteArray) (o : Ora) (A1 : Option Addr) (c1 : Nat) (A2 : Option Addr) (c2 : Nat) (AI : Option Addr) (cI : Nat) (AO : Option Addr) (cO : Nat) (L O : List ByteArray) : Prop where
  iA : Is W DO 31 (oraL o A1 c1 A2 c2)
  iF : Is W DF 23 #[.string B, .int .i64 0]
  nA : InO W o A1 c1 A2 c2
  rI : RowV W w.heap.size 9 1 AI cI L.length (sL L)
  rO : RowV W w.heap.size 9 1 AO cO O.length (sL O)
  sep : Sep8 W.heap.size AI AO A1 A2
  zA : ∀ p, A1 = some p → (some DO : Option Nat) ≠ some p.block
  zB : ∀ p, A2 = some p → (some DO : Option Nat) ≠ some p.block
  hDO : w.heap.size ≤ DO
  hB : Below w.heap.size w W
section
variable {w W W' : World} {DO DF : Nat} {B : ByteArray} {o o' : Ora} {A1 : Option Addr} {c1 : Nat} {A2 : Option Addr} {c2 : Nat} {AI : Option Addr} {cI : Nat} {AO : Option Addr} {cO : Nat} {L O : List ByteArray}
theorem KIn9.below (h : KIn9 w W DO DF B o A1 c1 A2 c2 AI cI AO cO L O) (hb : Below W.heap.size W W') : KIn9 w W' DO DF B o A1 c1 A2 c2 AI cI AO cO L O :=
  ⟨h.iA.below hb h.iA.lt, h.iF.below hb h.iF.lt, h.nA.keep hb, h.rI.below hb, h.rO.below hb, h.sep.mono hb.size, h.zA, h.zB, h.hDO, h.hB.trans (hb.mono h.hB.size)⟩
theorem KIn9.alloc (h : KIn9 w W DO DF B o A1 c1 A2 c2 AI cI AO cO L O) (x : Obj) : KIn9 w (W.alloc x) DO DF B o A1 c1 A2 c2 AI cI AO cO L O := h.below ((Below.refl _ _).alloc (Nat.le_refl _) x)
/-- another oracle in DO. -/
theorem KIn9.set (h : KIn9 w W DO DF B o A1 c1 A2 c2 AI cI AO cO L O) {n : Nat} (hs : Sep8 n AI AO A1 A2) (hn : n ≤ W.heap.size) {F1 : Option Addr} {f1 : Nat} {F2 : Option Addr} {f2 : Nat} (o1 : OwnB n W A1 F1) (o2 : OwnB n W A2 F2) (nF : InO W o' F1 f1 F2 f2) (hD : DO < n) :
    KIn9 w (W.setRow DO (oraL o' F1 f1 F2 f2)) DO DF B o' F1 f1 F2 f2 AI cI AO cO L O := by
  have z1 := o1.off9 h.zA hD
  have z2 := o2.off9 h.zB hD
  have hz : (W.setRow DO (oraL o' F1 f1 F2 f2)).heap.size = W.heap.size := by simp
  refine ⟨h.iA.row _, h.iF.rowFar (is_neG h.iF h.iA (by decide)) _, ⟨nF.i.apart (grownRowG _ _ _) z1 z2, fun p hp => by rw [hz]; exact nF.a p hp, fun p hp => by rw [hz]; exact nF.b p hp⟩, h.rI.grownS (grownRowG _ _ _) h.iA (by decide), h.rO.grownS (grownRowG _ _ _) h.iA (by decide), ?_, z1, z2, h.hDO, belowRow h.hB h.hDO _⟩
  rw [hz]
  exact hs.ask hn o1 o2
theorem KIn9.pushI (h : KIn9 w W DO DF B o A1 c1 A2 c2 AI cI AO cO L O) {E : Option Addr} {cE : Nat} {s : ByteArray} (hr : RowV W' w.heap.size 9 1 E cE (L.length + 1) (sL L ++ (#[.string s] : Array Value).toList)) (hg : W.grownBy W' (Value.slice AI L.length cI).ownBlock) (ha : Atn W.heap.size AI E) :
    KIn9 w W' DO DF B o A1 c1 A2 c2 E cE AO cO (L ++ [s]) O := by
  refine ⟨h.rI.isFar hg h.iA (by decide), h.rI.isFar hg h.iF (by decide), ⟨h.nA.i.apart hg (own_ne8 fun p q hp hq e => h.sep.i1 q p hq hp e.symm) (own_ne8 fun p q hp hq e => h.sep.i2 q p hq hp e.symm), fun p hp => Nat.lt_of_lt_of_le (h.nA.a p hp) hg.size, fun p hp => Nat.lt_of_lt_of_le (h.nA.b p hp) hg.size⟩, ?_, h.rO.apart hg (own_ne8 fun p q hp hq e => h.sep.io q p hq hp e.symm), h.sep.pushI ha hg.size (fun p hp => (hr.own8 p hp).2), h.zA, h.zB, h.hDO, h.rI.belowG h.hB hg⟩
  rw [List.length_append, sL_snoc]
  exact hr
theorem KIn9.pushO (h : KIn9 w W DO DF B o A1 c1 A2 c2 AI cI AO cO L O) {E : Option Addr} {cE : Nat} {s : ByteArray} (hr : RowV W' w.heap.size 9 1 E cE (O.length + 1) (sL O ++ (#[.string s] : Array Value).toList)) (hg : W.grownBy W' (Value.slice AO O.length cO).ownBlock) (ha : Atn W.heap.size AO E) :
    KIn9 w W' DO DF B o A1 c1 A2 c2 AI cI E cE L (O ++ [s]) := by
  refine ⟨h.rO.isFar hg h.iA (by decide), h.rO.isFar hg h.iF (by decide), ⟨h.nA.i.apart hg (own_ne8 fun p q hp hq e => h.sep.o1 q p hq hp e.symm) (own_ne8 fun p q hp hq e => h.sep.o2 q p hq hp e.symm), fun p hp => Nat.lt_of_lt_of_le (h.nA.a p hp) hg.size, fun p hp => Nat.lt_of_lt_of_le (h.nA.b p hp) hg.size⟩, h.rI.apart hg (own_ne8 fun p q hp hq => h.sep.io p q hp hq), ?_, (h.sep.swap.pushI ha hg.size (fun p hp => (hr.own8 p hp).2)).swap, h.zA, h.zB, h.hDO, h.rO.belowG h.hB hg⟩
  rw [List.length_append, sL_snoc]
  exact hr
theorem rowAt9 {b n c : Nat} {A : Option Addr} {L : List ByteArray} (h : RowV W b 9 1 A c n (sL L)) {j : Nat} {s : ByteArray} (hj : L[j]? = some s) : ∃ b, A = some ⟨b, 0, none⟩ ∧ W.cell? ⟨b, j, none⟩ = some (.string s) := by
  obtain ⟨b, off, hA, _, hc⟩ := h.inV j (.string s) (by rw [sL, List.getElem?_map, hj]; rfl)
  rcases h.2 with ⟨h0, _⟩ | ⟨g, cap, cur, h0, _⟩
  · injection h0 with h1
    rw [hA] at h1
    cases h1
  · injection h0 with h1
    rw [hA] at h1
    cases h1
    rw [Nat.zero_add] at hc
    exact ⟨_, hA, hc⟩
end
/-- the questions that are asked. -/
def qs9 (R : List Raw9) : List ByteArray := (R.take 10).map fun n => ask9 (word9 n.2.1) (pickN n.2.2.1 3) (pickN n.2.2.2 4)
theorem qs9_len (R : List Raw9) : (qs9 R).length = min 10 R.length := by rw [qs9, List.length_map, List.length_take]
theorem qs9_at {R : List Raw9} {k : Nat} {n : Raw9} (h : R[k]? = some n) (hk : k < 10) : (qs9 R)[k]? = some (ask9 (word9 n.2.1) (pickN n.2.2.1 3) (pickN n.2.2.2 4)) := by
  rw [qs9, List.getElem?_map, List.getElem?_take, if_pos hk, h]
  rfl
theorem take_at9 {qs : List ByteArray} {k j : Nat} {q : ByteArray} (hj : qs[j]? = some q) (hk : j < k) : (qs.take k)[j]? = some q := by rw [List.getElem?_take, if_pos hk, hj]
theorem take_succ9 {qs : List ByteArray} {k : Nat} {q : ByteArray} (hq : qs[k]? = some q) : qs.take (k + 1) = qs.take k ++ [q] := by
  rw [List.take_add_one, hq]
  rfl
/-- behind so many questions. -/
structure Kst9 [Tabs] (w W : World) (DO DF : Nat) (rb : Bool) (m : Int) (K B : ByteArray) (qs : List ByteArray) (k : Nat) (vi vo : Value) : Prop where
  out : ∃ (d : Ide) (L O : List ByteArray) (A1 : Option Addr) (c1 : Nat) (A2 : Option Addr) (c2 : Nat) (AI : Option Addr) (cI : Nat) (AO : Option Addr) (cO : Nat), Ost9 rb (T9 K) (C9 K) B k k d ∧ Kp9 qs k d O ∧ L = qs.take k ∧ L.length = k ∧ vi = .slice AI L.length cI ∧ vo = .slice AO O.length cO ∧ KIn9 w W DO DF B ⟨m, K, d⟩ A1 c1 A2 c2 AI cI AO cO L O
end Go.Proofs.YtfgdcpolfekgjaaGreat

