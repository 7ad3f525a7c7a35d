/-
  Layer 9: what takes the place of what is drawn, by a key: a label's tag, a cell's box, and what is in one.
  Layer 9: contracts of the program's own: which way, the key of one use, the ideal that has some bytes alone to draw; both ways' methods. Condition: the oracle's lists lie where the slices point to; by a key, too: what the two tables of words hold (any words) is Tabs.
  Layer 9: what the contracts of oracles share: rows in the midst of blocks, and where lists lie. Nothing of the program stands here but types.
  Layer 9: whatever the world's shape allows the two tables of package digest to hold, it is some words: so the contracts over any tables serve.
  Layer 9: contracts of both ways' methods (but the key's label). Condition: the oracle's lists lie where the slices point to; by a key, too: the two tables hold what Tabs tells (any words).
  Layer 9: contract of the key's label. Condition: the oracle's lists lie where the slices point to; the two tables hold what Tabs tells (any words).
-/
import Derived.Test.YtfgdcpolfekgjaaGreatGOra
import Derived.Test.YtfgdcpolfekgjaaGreatGGSea
import Derived.Test.YtfgdcpolfekgjaaGreatGId3
import Derived.Test.YtfgdcpolfekgjaaGreatGId2
import Derived.Test.YtfgdcpolfekgjaaGreatGIdy
import Derived.Test.YtfgdcpolfekgjaaGreatGAe1
import Derived.Test.YtfgdcpolfekgjaaGreatGGDig
import Derived.Deep.MidRow
import Derived.Deep.DeepCutAuto
import Derived.Deep.CutBlock
import Derived.HandedShaped
import Derived.Deep.Grids
namespace Go.Proofs.YtfgdcpolfekgjaaGreat
open Go.RowKit Go.Shelf
variable [Tabs]

def labN9 : ByteArray := ⟨#[108, 97, 98, 101, 108]⟩
def celN9 : ByteArray := ⟨#[99, 101, 108, 108]⟩
/-- the keys of one use. -/
def lk9 (key : ByteArray) : ByteArray := drv (keyL key) labN9 32
def ck9 (key : ByteArray) : ByteArray := drv (keyL key) celN9 32
def T9 (key i : ByteArray) : ByteArray := (tagB (keyL (lk9 key)) i).extract 0 16
def C9 (key l t : ByteArray) : ByteArray := boxB (ck9 key) l ⟨#[]⟩ t
def U9 (key l b : ByteArray) : ByteArray × Int := if tlB b = tgB (ck9 key) l ⟨#[]⟩ (hdB b) then (hidB (ck9 key) l (hdB b), 0) else (⟨#[]⟩, 11)
theorem lk9_size (key : ByteArray) : (lk9 key).size = 32 := drv6_size _ _ _
theorem ck9_size (key : ByteArray) : (ck9 key).size = 32 := drv6_size _ _ _
theorem T9_size (key i : ByteArray) : (T9 key i).size = 16 := by rw [T9, ByteArray.size_extract, tagB_size]; rfl
theorem C9_size (key l t : ByteArray) : (C9 key l t).size = t.size + 16 := box_size _ _ _ _
theorem U9_back (key l t : ByteArray) : U9 key l (C9 key l t) = (t, 0) := by
  rw [U9, C9, box_tl, box_hd, if_pos rfl, hid_back]
theorem U9_hU : ∀ key l t : ByteArray, key.size = 32 → l.size = 16 → t.size = 24 → U9 key l (C9 key l t) = (t, 0) := fun key l t _ _ _ => U9_back key l t
omit [Tabs] in
theorem lab8_err {d : Ide} {i : ByteArray} (h : (lab8 d i).2.2 ≠ 0) : lab8 d i = (⟨#[]⟩, d, (lab8 d i).2.2) := by
  revert h
  unfold lab8
  repeat' split
  all_goals first | (intro h; rfl) | (intro h; exact absurd rfl h)
omit [Tabs] in
theorem sea8_err {d : Ide} {l t : ByteArray} (h : (sea8 d l t).2.2 ≠ 0) : sea8 d l t = (⟨#[]⟩, d, (sea8 d l t).2.2) := by
  revert h
  unfold sea8
  repeat' split
  all_goals first | (intro h; rfl) | (intro h; exact absurd rfl h)
omit [Tabs] in
theorem labS9_eq (d : Ide) (S i : ByteArray) : labS9 d S i = ((lab8 (fed9 d S) i).1, bak9 d (lab8 (fed9 d S) i).2.1, (lab8 (fed9 d S) i).2.2) := by
  unfold labS9
  split
  · rename_i h; rw [h]
  · rename_i h
    have := lab8_err h
    generalize (lab8 (fed9 d S) i).2.2 = e at *
    rw [this, bak_fed9]
omit [Tabs] in
theorem seaS9_eq (d : Ide) (S l t : ByteArray) : seaS9 d S l t = ((sea8 (fed9 d S) l t).1, bak9 d (sea8 (fed9 d S) l t).2.1, (sea8 (fed9 d S) l t).2.2) := by
  unfold seaS9
  split
  · rename_i h; rw [h]
  · rename_i h
    have := sea8_err h
    generalize (sea8 (fed9 d S) l t).2.2 = e at *
    rw [this, bak_fed9]
end Go.Proofs.YtfgdcpolfekgjaaGreat
namespace Go.Proofs.YtfgdcpolfekgjaaGreat
open Go.RowKit Go.Shelf

/-- an oracle's cells. -/
abbrev oraL (o : Ora) (A : Option Addr) (c : Nat) (A' : Option Addr) (c' : Nat) : Array Value := #[.int .i64 o.m, .string o.key, .string o.d.B, .int .i64 o.d.a, .slice A o.d.N.length c, .slice A' o.d.K.length c', .bool o.d.c]
abbrev oraV (o : Ora) (A : Option Addr) (c : Nat) (A' : Option Addr) (c' : Nat) : Value := .agg (oraL o A c A' c')
theorem Is.range9 {W : World} {b : Nat} {t : TypeId} {cs : Array Value} (h : Is W b t cs) (o : Nat) (L : List Value) (hL : ∀ j v, L[j]? = some v → cs[o + j]? = some v) : W.rangeAt b o L := fun j v hv => (h.cell (o + j)).trans (hL j v hv)
theorem ora_ide9 (o : Ora) (A : Option Addr) (c : Nat) (A' : Option Addr) (c' : Nat) : ∀ j v, (ideL o.d A c A' c').toList[j]? = some v → (oraL o A c A' c')[2 + j]? = some v := fun j v hv => by
  match j, hv with
  | 0, hv => exact hv
  | 1, hv => exact hv
  | 2, hv => exact hv
  | 3, hv => exact hv
  | 4, hv => exact hv
  | n + 5, hv => cases hv
theorem ora_tape9 (o : Ora) (A : Option Addr) (c : Nat) (A' : Option Addr) (c' : Nat) : ∀ j v, [Value.string o.d.B, .int .i64 o.d.a][j]? = some v → (oraL o A c A' c')[2 + j]? = some v := fun j v hv => by
  match j, hv with
  | 0, hv => exact hv
  | 1, hv => exact hv
  | n + 2, hv => cases hv
theorem infoOra : (Tryz.prog.info? 31).map (·.size) = some 7 := by kernel_rfl
theorem infoKey9 : (Tryz.prog.info? 93).map (·.size) = some 7 := by kernel_rfl
theorem infoTape9 : (Tryz.prog.info? 23).map (·.size) = some 2 := by kernel_rfl

set_option maxRecDepth 100000 in
set_option maxHeartbeats 1000000 in
/-- which way: by a key, where the mode says so. -/
theorem wayOf_any (o : Ora) (A : Option Addr) (c : Nat) (A' : Option Addr) (c' : Nat) (w : World) :
    Calls Tryz.prog 36 #[oraV o A c A' c'] w fun e w' => e = .returned (.iface (if real9 o then 93 else 94) (oraV o A c A' c')) ∧ Below w.heap.size w w' := by
  obtain ⟨W1, hW1⟩ : ∃ W, W = w.alloc (.cells (oraL o A c A' c') 31) := ⟨_, rfl⟩
  have i1 : Is W1 w.heap.size 31 (oraL o A c A' c') := by rw [hW1]; exact Is.new _ _ _
  have hB : Below w.heap.size w W1 := by rw [hW1]; exact (Below.refl _ _).alloc (Nat.le_refl _) _
  have k0 : W1.cell? ⟨w.heap.size, 0, none⟩ = some (.int .i64 o.m) := i1.cell 0
  cases hr : real9 o with
  | true =>
    have hm : (o.m == 1) = true := by simpa [real9] using hr
    clear hr
    go_enter Tryz.func36, Tryz.ntmps36
    go_wp2_with fail
    rw [← hW1]
    clear hW1
    go_wp2_with (refine wpList_load_row rfl 31 _ rfl w.heap.size rfl 31 _ (0, 0) _ i1 Tryz.underlying31 rfl infoOra ?_)
    go_ret
    exact ⟨rfl, hB⟩
  | false =>
    have hm : (o.m == 1) = false := by simpa [real9] using hr
    clear hr
    go_enter Tryz.func36, Tryz.ntmps36
    go_wp2_with fail
    rw [← hW1]
    clear hW1
    go_wp2_with (refine wpList_load_row rfl 31 _ rfl w.heap.size rfl 31 _ (0, 0) _ i1 Tryz.underlying31 rfl infoOra ?_)
    go_ret
    exact ⟨rfl, hB⟩
section
variable [Tabs]
set_option maxRecDepth 100000 in
set_option maxHeartbeats 1000000 in
/-- the key of one use. -/
theorem keyOf_any (o : Ora) (A : Option Addr) (c : Nat) (A' : Option Addr) (c' : Nat) (use : ByteArray) (w : World) (hT : Tab w) (hk : o.key.size ≤ 1000) (hu : use.size ≤ 1000) :
    Calls Tryz.prog 119 #[oraV o A c A' c', .string use] w fun e w' => e = .returned (.string (drv (keyL o.key) use 32)) ∧ Below w.heap.size w w' := by
  obtain ⟨W1, hW1⟩ : ∃ W, W = w.alloc (.cells (oraL o A c A' c') 93) := ⟨_, rfl⟩
  have i1 : Is W1 w.heap.size 93 (oraL o A c A' c') := by rw [hW1]; exact Is.new _ _ _
  have hB : Below w.heap.size w W1 := by rw [hW1]; exact (Below.refl _ _).alloc (Nat.le_refl _) _
  have k1 : W1.cell? ⟨w.heap.size, 1, none⟩ = some (.string o.key) := i1.cell 1
  have HD := Lib.hid (derive_ok o.key use 32 W1 (hT.below hB hT.two) hk hu (by omega))
  generalize drv (keyL o.key) use 32 = D at *
  go_enter Tryz.func119, Tryz.ntmps119
  go_wp2_with fail
  rw [← hW1]
  clear hW1
  go_wp2_with fail
  refine HD.out.mono ?_
  rintro e W2 ⟨rfl, hb⟩
  go_wp2
  go_ret
  exact ⟨rfl, hB.trans (hb.mono hB.size)⟩
end
set_option maxRecDepth 100000 in
set_option maxHeartbeats 1000000 in
/-- the ideal that has these bytes alone to draw. -/
theorem drawing_any (o : Ora) (A : Option Addr) (c : Nat) (A' : Option Addr) (c' : Nat) (s : ByteArray) (w : World) :
    Calls Tryz.prog 124 #[oraV o A c A' c', .string s] w fun e w' => e = .returned (ideV (fed9 o.d s) A c A' c') ∧ Below w.heap.size w w' := by
  have hB : ∀ x y z : Obj, Below w.heap.size w (((w.alloc x).alloc y).alloc z) := fun x y z => (((Below.refl _ _).alloc (Nat.le_refl _) x).alloc (by simp) y).alloc (by simp; omega) z
  go_enter Tryz.func124, Tryz.ntmps124
  go_wp2
  have i2 : Is (((w.alloc (.cells (oraL o A c A' c') 93)).alloc (.cells (ideL (fed9 o.d s) A c A' c') 29)).alloc (.cells (ideL (fed9 o.d s) A c A' c') 29)) (w.heap.size + 1) 29 (ideL (fed9 o.d s) A c A' c') := (show Is ((w.alloc (.cells (oraL o A c A' c') 93)).alloc (.cells (ideL (fed9 o.d s) A c A' c') 29)) (w.heap.size + 1) 29 (ideL (fed9 o.d s) A c A' c') from heap_alloc2_new w _ _).alloc _
  exact bodyPost_ret (results_cell_row Tryz.results124 _ _ (w.heap.size + 1) 29 (ideL (fed9 o.d s) A c A' c') (0, 0) _ rfl i2 Tryz.underlying29 rfl infoIde) rfl ⟨rfl, hB _ _ _⟩
end Go.Proofs.YtfgdcpolfekgjaaGreat
namespace Go.Proofs.YtfgdcpolfekgjaaGreat
open Go.RowKit Go.Shelf

/-- a row, read out of the midst of a block, where a guard says so. -/
theorem wpList_load_midG {P : Program} {ops : Array Oper} {rest : List Oper} {op : Oper} {a : Act} {w : World} {Q : Exit → Act → World → Prop} (hw : Region.wanted op (yielded ops a.tmps) = true) (ty : TypeId) (x : Operand) (ho : op.op = .load ty x)
    (b o : Nat) (hx : a.eval x = .pointer (some ⟨b, o, none⟩)) (cs : List Value) (d : TypeDesc) (hc : w.rangeAt b o cs)
    (hu : P.underlying ty = some d) (hd : d.isRow = true) (hi : (P.info? ty).map (·.size) = some cs.length)
    (h : wpList P ops Q rest (a.put op.dst (.agg cs.toArray)) w) : wpList P ops Q (op :: rest) a w :=
  wpList_step fun K hK => by rw [if_pos hw]; exact wp_load_mid ty x ho b o hx cs d hc hu hd hi (hK _ _ h)
theorem InI.fed {W : World} {d : Ide} {A : Option Addr} {c : Nat} {A' : Option Addr} {c' : Nat} (h : InI W d A c A' c') (S : ByteArray) : InI W (fed9 d S) A c A' c' := ⟨h.n, h.k, h.nil, h.nilK, h.fit, h.fitK⟩
theorem InI.bak {W : World} {d n : Ide} {A : Option Addr} {c : Nat} {A' : Option Addr} {c' : Nat} (h : InI W n A c A' c') : InI W (bak9 d n) A c A' c' := ⟨h.n, h.k, h.nil, h.nilK, h.fit, h.fitK⟩
theorem Own8.wide9 {w W1 W2 W3 : World} {A A1 : Option Addr} (h : Own8 W1 W2 A A1) (h1 : w.heap.size ≤ W1.heap.size) (h2 : W2.heap.size ≤ W3.heap.size) : Own8 w W3 A A1 := h.imp id fun h p hp => ⟨Nat.le_trans h1 (h p hp).1, Nat.lt_of_lt_of_le (h p hp).2 h2⟩
theorem Own8.apart9 {W1 W2 : World} {A A1 : Option Addr} {n b : Nat} (h : Own8 W1 W2 A A1) (hA : ∀ p, A = some p → p.block < n) (hn : n ≤ b) (hb : b < W1.heap.size) : ∀ p, A1 = some p → (some b : Option Nat) ≠ some p.block := fun p hp e => by
  have e2 : b = p.block := Option.some.inj e
  rcases h with rfl | h
  · have := hA p hp; omega
  · have := (h p hp).1; omega
theorem Own8.behind9 {W1 W2 : World} {A A1 : Option Addr} (h : Own8 W1 W2 A A1) (hA : ∀ p, A = some p → p.block < W1.heap.size) (hb : W1.heap.size ≤ W2.heap.size) : ∀ p, A1 = some p → (some W2.heap.size : Option Nat) ≠ some p.block := fun p hp e => by
  have e2 : W2.heap.size = p.block := Option.some.inj e
  rcases h with rfl | h
  · have := hA p hp; omega
  · have := (h p hp).2; omega
section
variable {P : Program} {md : Region.Mode} {ops : Array Oper} {Q : Exit → Act → World → Prop} {S : World → Prop} {fuel i : Nat} {listed : Array Bool} {a : Act} {w w' : World} {o : Oper}
/-- one of what may come up: a call. -/
theorem arm9_call {f : FuncId} {args : Array Value} (hw : Region.wanted o (yielded ops a.tmps) = true) (hx : ∀ w, (execOp a.eval o).run P w = .ok (.enter f args) w)
    (h : Calls P f args w fun e w' => ∃ v, e = .returned v ∧ S w' ∧ wpAnyH P md ops Q S fuel (listed.setIfInBounds i true) (a.put o.dst v) w') :
    ∀ K' : Act → World → Prop, Shut (∀ a w, S w → (S w → wpAnyH P md ops Q S fuel (listed.setIfInBounds i true) a w) → K' a w) → if Region.wanted o (yielded ops a.tmps) = true then Oper.wp P o a w K' Q else K' (a.put o.dst undef) w := fun K' hK => by
  rw [if_pos hw]
  unfold Oper.wp
  rw [hx, Oper.upon_enter]
  exact h.mono fun e w' ⟨v, he, hS, hn⟩ => by subst he; exact hK.out _ _ hS fun _ => hn
/-- one that comes to a value. -/
theorem arm9_value {v : Value} (hw : Region.wanted o (yielded ops a.tmps) = true) (hx : (execOp a.eval o).run P w = .ok (.value v) w') (hS : S w')
    (h : wpAnyH P md ops Q S fuel (listed.setIfInBounds i true) (a.put o.dst v) w') :
    ∀ K' : Act → World → Prop, Shut (∀ a w, S w → (S w → wpAnyH P md ops Q S fuel (listed.setIfInBounds i true) a w) → K' a w) → if Region.wanted o (yielded ops a.tmps) = true then Oper.wp P o a w K' Q else K' (a.put o.dst undef) w := fun K' hK => by
  rw [if_pos hw]
  unfold Oper.wp
  rw [hx]
  exact hK.out _ _ hS fun _ => h
/-- one that comes to nothing. -/
theorem arm9_skip (hw : Region.wanted o (yielded ops a.tmps) = true) (hx : (execOp a.eval o).run P w = .ok .skip w') (hS : S w')
    (h : wpAnyH P md ops Q S fuel (listed.setIfInBounds i true) (a.put o.dst undef) w') :
    ∀ K' : Act → World → Prop, Shut (∀ a w, S w → (S w → wpAnyH P md ops Q S fuel (listed.setIfInBounds i true) a w) → K' a w) → if Region.wanted o (yielded ops a.tmps) = true then Oper.wp P o a w K' Q else K' (a.put o.dst undef) w := fun K' hK => by
  rw [if_pos hw]
  unfold Oper.wp
  rw [hx]
  exact hK.out _ _ hS fun _ => h
end
theorem run_alloc9 (W : World) {o : Oper} {a : Act} (ho : o.op = .alloc 29) : (execOp a.eval o).run Tryz.prog W = .ok (.value (.pointer (some ⟨W.heap.size, 0, none⟩))) (W.alloc (.cells zer8 29)) := by
  simp only [execOp, ho]
  go_simp
theorem run_row9 {P : Program} {W : World} {o : Oper} {a : Act} {ty : TypeId} {x y : Operand} (ho : o.op = .store ty x y) {g : Nat} {t : TypeId} {old cs : Array Value} (hx : a.eval x = .pointer (some ⟨g, 0, none⟩)) (hy : a.eval y = .agg cs) (hg : Is W g t old) (hi : (P.info? ty).map (·.size) = some cs.size)
    (hs : old.size = cs.size) (h1 : cs.all (·.oneCell') = true) : (execOp a.eval o).run P W = .ok .skip (W.setRow g cs) := by
  simp only [execOp, ho, hx, hy, Instr.storeAt, Instr.sureAddr, Sem.run_bind, Sem.run_pure, Result.andThen_ok, run_storeVar_row W g t ty old cs hg hi hs h1]
theorem Own8.lt9 {W1 W2 : World} {A A1 : Option Addr} (h : Own8 W1 W2 A A1) (hA : ∀ p, A = some p → p.block < W1.heap.size) (hb : W1.heap.size ≤ W2.heap.size) : ∀ p, A1 = some p → p.block < W2.heap.size := fun p hp => by
  rcases h with rfl | h
  · exact Nat.lt_of_lt_of_le (hA p hp) hb
  · exact (h p hp).2
theorem grown_cell9 (w : World) (p : Addr) (v : Value) : w.grownBy (w.setCell p v) (some p.block) :=
  ⟨rfl, rfl, rfl, by simp, fun k _ hne => heap_setCell_other w p k v (fun e => hne (by rw [e]))⟩
theorem grown_cells9 (b : Nat) : ∀ (vs : List Value) (o : Nat) (w : World), w.grownBy (w.setCells b o vs) (some b)
  | [], _, w => World.grownBy.refl w _
  | v :: r, o, w => (grown_cell9 w ⟨b, o, none⟩ v).trans (grown_cells9 b r (o + 1) _)
theorem there9 {W : World} {g : Nat} {t : TypeId} {cs : Array Value} (h : Is W g t cs) (o n : Nat) (hn : o + n ≤ cs.size) : W.there g o n := fun j hj => by
  refine ⟨by rw [h.cell, Array.getElem?_eq_getElem (by omega)]; rfl, h.frozen _⟩
/-- the tape, laid back. -/
theorem set_bak9 (d n : Ide) (A : Option Addr) (c : Nat) (A' : Option Addr) (c' : Nat) : setAll (ideL n A c A' c') 0 [Value.string d.B, .int .i64 d.a] = ideL (bak9 d n) A c A' c' := rfl
/-- an oracle's ideal, another one. -/
theorem set_ide9 (o : Ora) (d : Ide) (A : Option Addr) (c : Nat) (A' : Option Addr) (c' : Nat) (F : Option Addr) (f : Nat) (F' : Option Addr) (f' : Nat) : setAll (oraL o A c A' c') 2 (ideL d F f F' f').toList = oraL { o with d := d } F f F' f' := rfl
theorem oraL_one9 (o : Ora) (A : Option Addr) (c : Nat) (A' : Option Addr) (c' : Nat) : (oraL o A c A' c').all (·.oneCell') = true := by rw [← Array.all_toList]; rfl
end Go.Proofs.YtfgdcpolfekgjaaGreat
namespace Go.Proofs.YtfgdcpolfekgjaaGreat
open Go.RowKit

/-- the cells of a variable that is a row of integers of one kind, whatever they are. -/
theorem ints_of_shape9 {P : Program} {w : World} {g n : Nat} {t u : TypeId} {zero : Array Value} {k : IntKind} (h : w.ShapedOpen P) (hg : g < P.globals.size)
    (h0 : ((begin P (fun _ _ => 0) default).world.heap[g]?).bind Obj.row? = some (zero, t)) (hz : zero.size = n) (_hn : 0 < n)
    (hb : P.buildable t = true) (hc : P.cellTypes P.depth t = some (List.replicate n u)) (hu : P.underlying u = some (.int k)) :
    (∃ L : List Int, L.length = n ∧ ∀ i, i < n → w.cell? ⟨g, i, none⟩ = some (.int k (L.getD i 0))) ∧ g < w.heap.size := by
  obtain ⟨cs, hh, hs, hr⟩ := h.1 g zero t hg h0
  obtain ⟨ts, hts, _, hall⟩ := hr hb
  rw [hc] at hts
  cases hts
  have hsz : cs.size = n := hs.trans hz
  have hat : ∀ i, i < n → ∃ x : Int, w.cell? ⟨g, i, none⟩ = some (.int k x) := fun i hi => by
    have h1 : i < cs.size := by omega
    obtain ⟨v, hv, hok⟩ := hall i cs[i] (by simp [h1])
    rw [List.length_replicate, Nat.mod_eq_of_lt hi, List.getElem?_replicate, if_pos hi] at hv
    cases hv
    have hcell : w.cell? ⟨g, i, none⟩ = some cs[i] := by simp [World.cell?, hh, h1]
    rw [hcell]
    unfold Cell.ok at hok
    rw [hu] at hok
    cases hv : cs[i] <;> rw [hv] at hok <;> simp at hok
    case int k' m => exact ⟨m, by rw [hok.1]⟩
  obtain ⟨q, hq⟩ := Go.Deep.choose_lt (α := Int) (n := n) (p := fun i x => w.cell? ⟨g, i, none⟩ = some (.int k x)) hat
  refine ⟨⟨(List.range n).map q, by simp, fun i hi => ?_⟩, (Array.getElem?_eq_some_iff.1 hh).1⟩
  rw [hq i hi]
  simp [List.getD_eq_getElem?_getD, hi]
theorem zRound9 : (((begin Tryz.prog (fun _ _ => 0) default).world.heap[1]?).bind Obj.row?).map (fun p => (p.1.size, p.2)) = some (64, 156) := by kernel_rfl
theorem zFirst9 : (((begin Tryz.prog (fun _ _ => 0) default).world.heap[0]?).bind Obj.row?).map (fun p => (p.1.size, p.2)) = some (8, 133) := by kernel_rfl
theorem row_of9 {o : Option (Array Value × TypeId)} {n : Nat} {t : TypeId} (h : o.map (fun p => (p.1.size, p.2)) = some (n, t)) : ∃ zero, o = some (zero, t) ∧ zero.size = n := by
  cases o with
  | none => cases h
  | some p => cases h; exact ⟨p.1, rfl, rfl⟩
theorem tabs9 {W : World} (h : W.ShapedOpen Tryz.prog) : ∃ T : Tabs, @Tab T W := by
  obtain ⟨z1, e1, s1⟩ := row_of9 zRound9
  obtain ⟨z2, e2, s2⟩ := row_of9 zFirst9
  obtain ⟨⟨K, _, hK⟩, g1⟩ := ints_of_shape9 h (of_decide_eq_true (by kernel_rfl)) e1 s1 (by omega) (by kernel_rfl) (by kernel_rfl) Tryz.underlying132
  obtain ⟨⟨L, _, hL⟩, g2⟩ := ints_of_shape9 h (of_decide_eq_true (by kernel_rfl)) e2 s2 (by omega) (by kernel_rfl) (by kernel_rfl) Tryz.underlying132
  obtain ⟨T, hTK, hTH⟩ : ∃ T : Tabs, T.K = K ∧ T.H = ⟨L.getD 0 0, L.getD 1 0, L.getD 2 0, L.getD 3 0, L.getD 4 0, L.getD 5 0, L.getD 6 0, L.getD 7 0⟩ := ⟨@Tabs.mk K ⟨L.getD 0 0, L.getD 1 0, L.getD 2 0, L.getD 3 0, L.getD 4 0, L.getD 5 0, L.getD 6 0, L.getD 7 0⟩, rfl, rfl⟩
  refine ⟨T, @Tab.mk T W ?_ ?_ ?_⟩
  · intro i hi
    rw [hK i hi, KW, hTK, at_, List.getD_eq_getElem?_getD]
  · intro i hi
    rw [hL i hi, H0, hTH]
    rcases (by omega : i = 0 ∨ i = 1 ∨ i = 2 ∨ i = 3 ∨ i = 4 ∨ i = 5 ∨ i = 6 ∨ i = 7) with rfl | rfl | rfl | rfl | rfl | rfl | rfl | rfl <;> rfl
  · have : 1 ≠ 0 := by decide
    omega
end Go.Proofs.YtfgdcpolfekgjaaGreat
namespace Go.Proofs.YtfgdcpolfekgjaaGreat
open Go.RowKit Go.Shelf

set_option maxRecDepth 100000 in
set_option maxHeartbeats 4000000 in
theorem btLabel_any (o : Ora) (A : Option Addr) (c : Nat) (A' : Option Addr) (c' : Nat) (i : ByteArray) (w : World) (hA : ∀ p, A = some p → p.block < w.heap.size) (hA' : ∀ p, A' = some p → p.block < w.heap.size) (h : InI w o.d A c A' c') :
    Calls Tryz.prog 238 #[oraV o A c A' c', .string i] w fun e w' => ∃ A1 c1 A2 c2, e = .returned (.tuple #[.string (lab8 o.d i).1, ideV (lab8 o.d i).2.1 A1 c1 A2 c2, .int .i64 (lab8 o.d i).2.2]) ∧ InI w' (lab8 o.d i).2.1 A1 c1 A2 c2 ∧ Below w.heap.size w w' ∧ Own8 w w' A A1 ∧ Own8 w w' A' A2 := by
  obtain ⟨W1, hW1⟩ : ∃ W, W = (w.alloc (.cells (oraL o A c A' c') 94)).alloc (.cells zer8 29) := ⟨_, rfl⟩
  have i1 : Is W1 w.heap.size 94 (oraL o A c A' c') := by rw [hW1]; exact heap_alloc2_old w _ _
  have iR : Is W1 (w.heap.size + 1) 29 zer8 := by rw [hW1]; exact heap_alloc2_new w _ _
  have hB : Below w.heap.size w W1 := by rw [hW1]; exact ((Below.refl _ _).alloc (Nat.le_refl _) _).alloc (by simp) _
  have c2 : W1.rangeAt w.heap.size 2 (ideL o.d A c A' c').toList := i1.range9 2 _ (ora_ide9 o A c A' c')
  have C := Lib.hid (label_own o.d A c A' c' i W1 (h.keep hB))
  obtain ⟨⟨s, n, er⟩, hq⟩ : ∃ x, (lab8 o.d i) = x := ⟨_, rfl⟩
  rw [hq] at C ⊢
  clear hq
  go_enter Tryz.func238, Tryz.ntmps238
  go_wp2_with fail
  rw [← hW1]
  clear hW1
  go_wp2_with (refine wpList_load_midG (by kernel_rfl) 29 _ rfl w.heap.size 2 rfl _ _ c2 Tryz.underlying29 rfl infoIde ?_)
  refine C.out.mono ?_
  rintro e W2 ⟨A1, c1, A2, c2, rfl, hI, hb, o1, o2⟩
  have hs1 := o1.apart9 hA (Nat.le_succ _) iR.lt
  have hs2 := o2.apart9 hA' (Nat.le_succ _) iR.lt
  replace iR := iR.below hb iR.lt
  have h0 := hB.size
  replace hB := hB.trans (hb.mono hB.size)
  go_wp2_with (refine wpList_store_row rfl 29 _ _ rfl (w.heap.size + 1) (ideL n A1 c1 A2 c2) rfl rfl 29 _ iR infoIde rfl (ideL_one _ _ _ _ _) ?_)
  exact bodyPost_ret (results_tct Tryz.results238 _ _ _ (w.heap.size + 1) 29 _ (0, 0) _ rfl (iR.row _) Tryz.underlying29 infoIde) rfl ⟨A1, c1, A2, c2, rfl, hI.apart (grownRowG _ _ _) hs1 hs2, belowRow hB (by simp) _, o1.wide9 h0 (by simp), o2.wide9 h0 (by simp)⟩
set_option maxRecDepth 100000 in
set_option maxHeartbeats 4000000 in
theorem btCell_any (o : Ora) (A : Option Addr) (c : Nat) (A' : Option Addr) (c' : Nat) (l t : ByteArray) (w : World) (hA : ∀ p, A = some p → p.block < w.heap.size) (hA' : ∀ p, A' = some p → p.block < w.heap.size) (h : InI w o.d A c A' c') :
    Calls Tryz.prog 237 #[oraV o A c A' c', .string l, .string t] w fun e w' => ∃ A1 c1 A2 c2, e = .returned (.tuple #[.string (sea8 o.d l t).1, ideV (sea8 o.d l t).2.1 A1 c1 A2 c2, .int .i64 (sea8 o.d l t).2.2]) ∧ InI w' (sea8 o.d l t).2.1 A1 c1 A2 c2 ∧ Below w.heap.size w w' ∧ Own8 w w' A A1 ∧ Own8 w w' A' A2 := by
  obtain ⟨W1, hW1⟩ : ∃ W, W = (w.alloc (.cells (oraL o A c A' c') 94)).alloc (.cells zer8 29) := ⟨_, rfl⟩
  have i1 : Is W1 w.heap.size 94 (oraL o A c A' c') := by rw [hW1]; exact heap_alloc2_old w _ _
  have iR : Is W1 (w.heap.size + 1) 29 zer8 := by rw [hW1]; exact heap_alloc2_new w _ _
  have hB : Below w.heap.size w W1 := by rw [hW1]; exact ((Below.refl _ _).alloc (Nat.le_refl _) _).alloc (by simp) _
  have c2 : W1.rangeAt w.heap.size 2 (ideL o.d A c A' c').toList := i1.range9 2 _ (ora_ide9 o A c A' c')
  have C := Lib.hid (seal_own o.d A c A' c' l t W1 (h.keep hB))
  obtain ⟨⟨s, n, er⟩, hq⟩ : ∃ x, (sea8 o.d l t) = x := ⟨_, rfl⟩
  rw [hq] at C ⊢
  clear hq
  go_enter Tryz.func237, Tryz.ntmps237
  go_wp2_with fail
  rw [← hW1]
  clear hW1
  go_wp2_with (refine wpList_load_midG (by kernel_rfl) 29 _ rfl w.heap.size 2 rfl _ _ c2 Tryz.underlying29 rfl infoIde ?_)
  refine C.out.mono ?_
  rintro e W2 ⟨A1, c1, A2, c2, rfl, hI, hb, o1, o2⟩
  have hs1 := o1.apart9 hA (Nat.le_succ _) iR.lt
  have hs2 := o2.apart9 hA' (Nat.le_succ _) iR.lt
  replace iR := iR.below hb iR.lt
  have h0 := hB.size
  replace hB := hB.trans (hb.mono hB.size)
  go_wp2_with (refine wpList_store_row rfl 29 _ _ rfl (w.heap.size + 1) (ideL n A1 c1 A2 c2) rfl rfl 29 _ iR infoIde rfl (ideL_one _ _ _ _ _) ?_)
  exact bodyPost_ret (results_tct Tryz.results237 _ _ _ (w.heap.size + 1) 29 _ (0, 0) _ rfl (iR.row _) Tryz.underlying29 infoIde) rfl ⟨A1, c1, A2, c2, rfl, hI.apart (grownRowG _ _ _) hs1 hs2, belowRow hB (by simp) _, o1.wide9 h0 (by simp), o2.wide9 h0 (by simp)⟩
set_option maxRecDepth 100000 in
set_option maxHeartbeats 4000000 in
theorem btOpen_any (o : Ora) (A : Option Addr) (c : Nat) (A' : Option Addr) (c' : Nat) (l s : ByteArray) (w : World) (h : InI w o.d A c A' c') :
    Calls Tryz.prog 239 #[oraV o A c A' c', .string l, .string s] w fun e w' => e = .returned (.tuple #[.string (ope8 o.d l s).1, .int .i64 (ope8 o.d l s).2]) ∧ Below w.heap.size w w' := by
  obtain ⟨W1, hW1⟩ : ∃ W, W = w.alloc (.cells (oraL o A c A' c') 94) := ⟨_, rfl⟩
  have i1 : Is W1 w.heap.size 94 (oraL o A c A' c') := by rw [hW1]; exact Is.new _ _ _
  have hB : Below w.heap.size w W1 := by rw [hW1]; exact (Below.refl _ _).alloc (Nat.le_refl _) _
  have c2 : W1.rangeAt w.heap.size 2 (ideL o.d A c A' c').toList := i1.range9 2 _ (ora_ide9 o A c A' c')
  have C := Lib.hid (open_any o.d A c A' c' l s W1 (h.keep hB))
  go_enter Tryz.func239, Tryz.ntmps239
  go_wp2_with fail
  rw [← hW1]
  clear hW1
  go_wp2_with (refine wpList_load_midG (by kernel_rfl) 29 _ rfl w.heap.size 2 rfl _ _ c2 Tryz.underlying29 rfl infoIde ?_)
  refine C.out.mono ?_
  rintro e W2 ⟨rfl, hb⟩
  go_wp2
  go_ret2
  exact ⟨rfl, hB.trans (hb.mono hB.size)⟩
section
variable [Tabs]
set_option maxRecDepth 100000 in
set_option maxHeartbeats 4000000 in
theorem bkOpen_any (o : Ora) (A : Option Addr) (c : Nat) (A' : Option Addr) (c' : Nat) (l s : ByteArray) (w : World) (hT : Tab w) (hk : o.key.size = 32) (hl : l.size = 16) (hs : s.size = 40) :
    Calls Tryz.prog 121 #[oraV o A c A' c', .string l, .string s] w fun e w' => e = .returned (.tuple #[.string (U9 o.key l s).1, .int .i64 (U9 o.key l s).2]) ∧ Below w.heap.size w w' := by
  have KC := Lib.hid (fun W (hb : Below w.heap.size w W) => keyOf_any o A c A' c' celN9 W (hT.below hb hT.two) (by omega) (by decide))
  have OC : ∀ W, Below w.heap.size w W → Calls Tryz.prog 128 #[.string (ck9 o.key), .string l, .string ⟨#[]⟩, .string s] W fun e w' => e = .returned (.tuple #[.string (U9 o.key l s).1, .int .i64 (U9 o.key l s).2]) ∧ Below W.heap.size W w' := fun W hb => by
    have := opn_long (ck9 o.key) l ⟨#[]⟩ s W (hT.below hb hT.two) (ck9_size _) hl (by decide) (by omega) (by omega)
    rw [U9]
    split
    · rename_i he; rwa [if_pos he] at this
    · rename_i he; rwa [if_neg he] at this
  replace OC := Lib.hid OC
  change Hid (∀ W (hb : Below w.heap.size w W), Calls _ _ _ W fun e w' => e = .returned (.string (ck9 o.key)) ∧ _) at KC
  generalize U9 o.key l s = R at *
  generalize ck9 o.key = K at *
  obtain ⟨W1, hW1⟩ : ∃ W, W = w.alloc (.cells (oraL o A c A' c') 93) := ⟨_, rfl⟩
  have i1 : Is W1 w.heap.size 93 (oraL o A c A' c') := by rw [hW1]; exact Is.new _ _ _
  have hB : Below w.heap.size w W1 := by rw [hW1]; exact (Below.refl _ _).alloc (Nat.le_refl _) _
  clear hT
  go_enter Tryz.func121, Tryz.ntmps121
  go_wp2_with fail
  rw [← hW1]
  clear hW1
  go_wp2_with (refine wpList_load_row rfl 93 _ rfl w.heap.size rfl 93 _ (0, 0) _ i1 Tryz.underlying93 rfl infoKey9 ?_)
  refine (KC.out _ hB).mono ?_
  rintro e W2 ⟨rfl, hb⟩
  replace hB := hB.trans (hb.mono hB.size)
  clear hb
  go_wp2_with fail
  refine (OC.out _ hB).mono ?_
  rintro e W3 ⟨rfl, hb⟩
  replace hB := hB.trans (hb.mono hB.size)
  clear hb
  go_wp2
  go_ret2
  exact ⟨rfl, hB⟩
set_option maxRecDepth 100000 in
set_option maxHeartbeats 4000000 in
theorem bkCell_any (o : Ora) (A : Option Addr) (c : Nat) (A' : Option Addr) (c' : Nat) (l t : ByteArray) (w : World) (hA : ∀ p, A = some p → p.block < w.heap.size) (hA' : ∀ p, A' = some p → p.block < w.heap.size) (hT : Tab w) (h : InI w o.d A c A' c') (hk : o.key.size = 32) (hl : l.size = 16) (ht : t.size = 24) :
    Calls Tryz.prog 118 #[oraV o A c A' c', .string l, .string t] w fun e w' => ∃ A1 c1 A2 c2, e = .returned (.tuple #[.string (seaS9 o.d (C9 o.key l t) l t).1, ideV (seaS9 o.d (C9 o.key l t) l t).2.1 A1 c1 A2 c2, .int .i64 (seaS9 o.d (C9 o.key l t) l t).2.2]) ∧ InI w' (seaS9 o.d (C9 o.key l t) l t).2.1 A1 c1 A2 c2 ∧ Below w.heap.size w w' ∧ Own8 w w' A A1 ∧ Own8 w w' A' A2 := by
  rw [seaS9_eq]
  have KC : ∀ W, Below w.heap.size w W → Calls Tryz.prog 119 #[oraV o A c A' c', .string celN9] W fun e w' => e = .returned (.string (ck9 o.key)) ∧ Below W.heap.size W w' := fun W hb => keyOf_any o A c A' c' celN9 W (hT.below hb hT.two) (by omega) (by decide)
  have SC : ∀ W, Below w.heap.size w W → Calls Tryz.prog 122 #[.string (ck9 o.key), .string l, .string ⟨#[]⟩, .string t] W fun e w' => e = .returned (.tuple #[.string (C9 o.key l t), .int .i64 0]) ∧ Below W.heap.size W w' := fun W hb => shut_ok (ck9 o.key) l ⟨#[]⟩ t W (hT.below hb hT.two) (ck9_size _) hl (by decide) (by omega)
  generalize C9 o.key l t = S at *
  generalize ck9 o.key = K at *
  have DC := Lib.hid (fun W => drawing_any o A c A' c' S W)
  have IC := Lib.hid (fun W (hb : Below w.heap.size w W) => seal_own (fed9 o.d S) A c A' c' l t W ((h.keep hb).fed S))
  obtain ⟨⟨s, n, er⟩, hq⟩ : ∃ x, sea8 (fed9 o.d S) l t = x := ⟨_, rfl⟩
  rw [hq] at IC ⊢
  replace KC := Lib.hid KC
  replace SC := Lib.hid SC
  clear hq hT h hk hl ht
  obtain ⟨V1, hV1⟩ : ∃ W, W = (w.alloc (.cells (oraL o A c A' c') 93)).alloc (.cells zer8 29) := ⟨_, rfl⟩
  have iK : Is V1 w.heap.size 93 (oraL o A c A' c') := by rw [hV1]; exact heap_alloc2_old w _ _
  have iR : Is V1 (w.heap.size + 1) 29 zer8 := by rw [hV1]; exact heap_alloc2_new w _ _
  have hB : Below w.heap.size w V1 := by rw [hV1]; exact ((Below.refl _ _).alloc (Nat.le_refl _) _).alloc (by simp) _
  go_enter Tryz.func118, Tryz.ntmps118
  go_wp2_with fail
  rw [← hV1]
  clear hV1
  go_wp2_with (refine wpList_load_row rfl 93 _ rfl w.heap.size rfl 93 _ (0, 0) _ iK Tryz.underlying93 rfl infoKey9 ?_)
  refine (KC.out _ hB).mono ?_
  rintro e V2 ⟨rfl, hb⟩
  replace iK := iK.below hb iK.lt
  replace iR := iR.below hb iR.lt
  replace hB := hB.trans (hb.mono hB.size)
  clear hb
  go_wp2_with fail
  refine (SC.out _ hB).mono ?_
  rintro e V3 ⟨rfl, hb⟩
  replace iK := iK.below hb iK.lt
  replace iR := iR.below hb iR.lt
  replace hB := hB.trans (hb.mono hB.size)
  clear hb
  go_wp2_with (refine wpList_load_row rfl 93 _ rfl w.heap.size rfl 93 _ (0, 0) _ iK Tryz.underlying93 rfl infoKey9 ?_)
  refine (DC.out _).mono ?_
  rintro e V4 ⟨rfl, hb⟩
  replace iK := iK.below hb iK.lt
  replace iR := iR.below hb iR.lt
  replace hB := hB.trans (hb.mono hB.size)
  clear hb
  go_wp2_with fail
  have h4 := hB.size
  have hlR := iR.lt
  refine (IC.out _ hB).mono ?_
  rintro e V5 ⟨A1, c1, A2, c2, rfl, nI, hb, o1, o2⟩
  replace iK := iK.below hb iK.lt
  replace iR := iR.below hb iR.lt
  replace hB := hB.trans (hb.mono hB.size)
  have l1 := o1.behind9 (fun p hp => Nat.lt_of_lt_of_le (hA p hp) h4) hb.size
  have l2 := o2.behind9 (fun p hp => Nat.lt_of_lt_of_le (hA' p hp) h4) hb.size
  have s1 := o1.apart9 hA (Nat.le_succ _) hlR
  have s2 := o2.apart9 hA' (Nat.le_succ _) hlR
  have hDR : V5.heap.size ≠ w.heap.size + 1 := Nat.ne_of_gt iR.lt
  have hDK : V5.heap.size ≠ w.heap.size := Nat.ne_of_gt iK.lt
  have hDB := hB.size
  clear hb
  have iD : Is (V5.alloc (.cells zer8 29)) V5.heap.size 29 zer8 := Is.new _ _ _
  replace iK := iK.alloc (.cells zer8 29)
  replace iR := iR.alloc (.cells zer8 29)
  replace hB := hB.alloc hB.size (.cells zer8 29)
  replace nI := nI.keep ((Below.refl _ _).alloc (Nat.le_refl _) (.cells zer8 29))
  go_upto_region 3 with (refine wpList_store_row rfl 29 _ _ rfl V5.heap.size (ideL n A1 c1 A2 c2) rfl rfl 29 _ iD infoIde rfl (ideL_one _ _ _ _ _) ?_)
  have k2 := iK.rowFar (Ne.symm hDK) (ideL n A1 c1 A2 c2)
  replace iR := iR.rowFar (Ne.symm hDR) (ideL n A1 c1 A2 c2)
  replace iD := iD.row (ideL n A1 c1 A2 c2)
  replace hB := belowRow hB hDB (ideL n A1 c1 A2 c2)
  replace nI := nI.apart (grownRowG _ _ (ideL n A1 c1 A2 c2)) l1 l2
  have hz : V5.heap.size ≤ ((V5.alloc (.cells zer8 29)).setRow V5.heap.size (ideL n A1 c1 A2 c2)).heap.size := by simp
  clear iK
  generalize (V5.alloc (.cells zer8 29)).setRow V5.heap.size (ideL n A1 c1 A2 c2) = V6 at *
  have q2 : V6.rangeAt w.heap.size 2 [.string o.d.B, .int .i64 o.d.a] := k2.range9 2 _ (ora_tape9 o A c A' c')
  have th := there9 iD 0 2 (by show 0 + 2 ≤ 5; omega)
  go_upto_region 4 with (first
    | (refine wpList_load_mid rfl 23 _ rfl w.heap.size 2 rfl _ _ q2 Tryz.underlying23 rfl infoTape9 ?_)
    | (refine wpList_store_mid rfl 23 _ _ rfl V5.heap.size 0 #[.string o.d.B, .int .i64 o.d.a] rfl rfl th infoTape9 (by rw [← Array.all_toList]; rfl) ?_))
  have e3 := iD.setCells [.string o.d.B, .int .i64 o.d.a] 0
  rw [set_bak9] at e3
  have iR3 := iR.farCells (Ne.symm hDR) [.string o.d.B, .int .i64 o.d.a] 0
  have hB3 := belowCells hDB [.string o.d.B, .int .i64 o.d.a] 0 hB
  have nI3 := (nI.apart (grown_cells9 V5.heap.size [.string o.d.B, .int .i64 o.d.a] 0 V6) l1 l2).bak (d := o.d)
  have hz3 : V5.heap.size ≤ (V6.setCells V5.heap.size 0 [.string o.d.B, .int .i64 o.d.a]).heap.size := Nat.le_trans hz (grown_cells9 V5.heap.size [.string o.d.B, .int .i64 o.d.a] 0 V6).size
  clear q2 th iD iR hB nI k2 hz
  generalize V6.setCells V5.heap.size 0 [.string o.d.B, .int .i64 o.d.a] = V at *
  have iD := e3
  have iR := iR3
  have hB := hB3
  have nI := nI3
  clear e3 iR3 hB3 nI3
  have iDd : Is V.drew V5.heap.size 29 (ideL (bak9 o.d n) A1 c1 A2 c2) := iD
  have iRd : Is V.drew (w.heap.size + 1) 29 zer8 := iR
  have hBd : Below w.heap.size w V.drew := belowN hB 1
  have nId := nI.keep (W' := V.drew) (belowN (Below.refl _ _) 1)
  refine wp_region_held_drew (S := fun W => Is W V5.heap.size 29 (ideL (bak9 o.d n) A1 c1 A2 c2)) (by kernel_rfl) iDd (fun hS => ?_)
  change wpAnyH _ _ (opsOf Tryz.f118 4) _ _ 6 (Array.replicate 6 false) _ _
  clear hS iD iR hB nI
  refine wpAnyH_pure (i := 0) (v := .string s) (at_nth rfl) (by kernel_rfl) (by kernel_rfl) (by kernel_rfl) (fun _ _ _ h => h) (by kernel_rfl) (fun w hSw => by kernel_rfl) iDd ?_
  simp only [Act.put, List.setIfInBounds_toArray, List.set_cons_succ, List.set_cons_zero]
  refine wpAnyH_pure (i := 1) (v := .agg (ideL (bak9 o.d n) A1 c1 A2 c2)) (at_nth rfl) (by kernel_rfl) (by kernel_rfl) (by kernel_rfl) (fun _ _ _ h => h) (by kernel_rfl) (fun w hSw => by exact exec_load rfl rfl (run_loadVar_row _ _ 29 29 _ (0, 0) _ hSw Tryz.underlying29 rfl infoIde)) iDd ?_
  simp only [Act.put, List.setIfInBounds_toArray, List.set_cons_succ, List.set_cons_zero]
  refine wpAnyH_pure (i := 2) (v := .int .i64 er) (at_nth rfl) (by kernel_rfl) (by kernel_rfl) (by kernel_rfl) (fun _ _ _ h => h) (by kernel_rfl) (fun w hSw => by kernel_rfl) iDd ?_
  simp only [Act.put, List.setIfInBounds_toArray, List.set_cons_succ, List.set_cons_zero]
  refine wpAnyH_pure (i := 3) (v := .string s) (at_nth rfl) (by kernel_rfl) (by kernel_rfl) (by kernel_rfl) (fun _ _ _ h => h) (by kernel_rfl) (fun w hSw => by kernel_rfl) iDd ?_
  simp only [Act.put, List.setIfInBounds_toArray, List.set_cons_succ, List.set_cons_zero]
  have iDz : Is (V.drew.setRow (w.heap.size + 1) (ideL (bak9 o.d n) A1 c1 A2 c2)) V5.heap.size 29 (ideL (bak9 o.d n) A1 c1 A2 c2) := iDd.rowFar hDR _
  refine wpAnyH_storerow (i := 4) (g := (w.heap.size + 1)) (cs := (ideL (bak9 o.d n) A1 c1 A2 c2)) (t := 29) (old := zer8) (by kernel_rfl) (at_nth rfl) (by kernel_rfl) rfl (by kernel_rfl) (by kernel_rfl) iRd infoIde rfl (ideL_one _ _ _ _ _) iDz ?_
  simp only [Act.put]
  refine wpAnyH_pure (i := 5) (v := .int .i64 er) (at_nth rfl) (by kernel_rfl) (by kernel_rfl) (by kernel_rfl) (fun _ _ _ h => h) (by kernel_rfl) (fun w hSw => by kernel_rfl) iDz ?_
  simp only [Act.put, List.setIfInBounds_toArray, List.set_cons_succ, List.set_cons_zero]
  refine wpAnyH_done (by kernel_rfl) ?_ _
  go_wp2
  exact bodyPost_ret (results_tct Tryz.results118 _ _ _ (w.heap.size + 1) 29 _ (0, 0) _ rfl (iRd.row _) Tryz.underlying29 infoIde) rfl ⟨A1, c1, A2, c2, rfl, nId.apart (grownRowG _ _ _) s1 s2, belowRow hBd (by simp) _, o1.wide9 h4 (by simpa using hz3), o2.wide9 h4 (by simpa using hz3)⟩
end
end Go.Proofs.YtfgdcpolfekgjaaGreat
namespace Go.Proofs.YtfgdcpolfekgjaaGreat
open Go.RowKit Go.Shelf

set_option maxRecDepth 100000 in
set_option maxHeartbeats 4000000 in
theorem bkLabel_mid (o : Ora) (A : Option Addr) (c : Nat) (A' : Option Addr) (c' : Nat) (i S U s : ByteArray) (n : Ide) (er : Int) (w W0 : World) (hA : ∀ p, A = some p → p.block < w.heap.size) (hA' : ∀ p, A' = some p → p.block < w.heap.size)
    (HSL : Hid (∀ (a : Act) (oi : Oper) (W : World), oi.op = .slice 9 (.tmp 21) none (some (.const (.int .i64 16))) none → a.eval (.tmp 21) = .string S → (execOp a.eval oi).run Tryz.prog W = .ok (.value (.string U)) W))
    (DC : Hid (∀ W : World, Calls Tryz.prog 124 #[oraV o A c A' c', .string U] W fun e w' => e = .returned (ideV (fed9 o.d U) A c A' c') ∧ Below W.heap.size W w'))
    (IC : Hid (∀ W, Below w.heap.size w W → Calls Tryz.prog 127 #[ideV (fed9 o.d U) A c A' c', .string i] W fun e w' => ∃ A1 c1 A2 c2, e = .returned (.tuple #[.string s, ideV n A1 c1 A2 c2, .int .i64 er]) ∧ InI w' n A1 c1 A2 c2 ∧ Below W.heap.size W w' ∧ Own8 W w' A A1 ∧ Own8 W w' A' A2))
    (iK : Is W0 w.heap.size 93 (oraL o A c A' c')) (iR : Is W0 (w.heap.size + 1) 29 zer8) (hB : Below w.heap.size w W0) (x0 x3 x4 x5 x6 x8 x9 x10 x11 x12 x13 x14 x15 x16 x17 x18 x19 x20 x21 x22 x23 x24 x25 x26 x27 x28 x29 x30 x31 x32 x33 x34 x35 x36 : Value) :
    (Code.region 2 (opsOf Tryz.f120 2) true).wp Tryz.prog (fun ex YY W => ex = .normal ∧ YY.defers = [] ∧ ∃ (A1 : Option Addr) (c1 : Nat) (A2 : Option Addr) (c2 : Nat) (DD : Nat), YY.tmps = #[x0, .string i, .pointer (some ⟨w.heap.size, 0, none⟩), x3, x4, x5, x6, .string S, x8, .string s, .pointer (some ⟨DD, 0, none⟩), .int .i64 er, x12, x13, x14, x15, x16, x17, x18, .tuple #[.string s, (ideV n A1 c1 A2 c2), .int .i64 er], .agg (oraL o A c A' c'), .string S, .string U, .agg (ideL (fed9 o.d U) A c A' c'), .string i, .tuple #[.string s, (ideV n A1 c1 A2 c2), .int .i64 er], .string s, (ideV n A1 c1 A2 c2), .int .i64 er, x29, x30, x31, x32, x33, x34, x35, x36] ∧ Is W w.heap.size 93 (oraL o A c A' c') ∧ Is W (w.heap.size + 1) 29 zer8 ∧ Below w.heap.size w W ∧ w.heap.size + 1 < DD ∧ Is W DD 29 (ideL n A1 c1 A2 c2) ∧ InI W n A1 c1 A2 c2 ∧ Own8 w W A A1 ∧ Own8 w W A' A2 ∧ (∀ p, A1 = some p → p.block < W.heap.size) ∧ (∀ p, A2 = some p → p.block < W.heap.size) ∧ (∀ p, A1 = some p → (some (w.heap.size + 1) : Option Nat) ≠ some p.block) ∧ (∀ p, A2 = some p → (some (w.heap.size + 1) : Option Nat) ≠ some p.block) ∧ (∀ p, A1 = some p → (some DD : Option Nat) ≠ some p.block) ∧ (∀ p, A2 = some p → (some DD : Option Nat) ≠ some p.block)) { tmps := #[x0, .string i, .pointer (some ⟨w.heap.size, 0, none⟩), x3, x4, x5, x6, .string S, x8, x9, x10, x11, x12, x13, x14, x15, x16, x17, x18, x19, x20, x21, x22, x23, x24, x25, x26, x27, x28, x29, x30, x31, x32, x33, x34, x35, x36], defers := [] } W0 := by
  have ST3_5_10_12 : ∀ (W : World) (A1 : Option Addr) (c1 : Nat) (A2 : Option Addr) (c2 : Nat) (DD : Nat), Is W w.heap.size 93 (oraL o A c A' c') → Is W (w.heap.size + 1) 29 zer8 → Below w.heap.size w W → w.heap.size + 1 < DD → Is W DD 29 (ideL n A1 c1 A2 c2) → InI W n A1 c1 A2 c2 → Own8 w W A A1 → Own8 w W A' A2 → (∀ p, A1 = some p → p.block < W.heap.size) → (∀ p, A2 = some p → p.block < W.heap.size) → (∀ p, A1 = some p → (some (w.heap.size + 1) : Option Nat) ≠ some p.block) → (∀ p, A2 = some p → (some (w.heap.size + 1) : Option Nat) ≠ some p.block) → (∀ p, A1 = some p → (some DD : Option Nat) ≠ some p.block) → (∀ p, A2 = some p → (some DD : Option Nat) ≠ some p.block) → wpAnyH Tryz.prog .any (opsOf Tryz.f120 2) (fun ex YY W => ex = .normal ∧ YY.defers = [] ∧ ∃ (A1 : Option Addr) (c1 : Nat) (A2 : Option Addr) (c2 : Nat) (DD : Nat), YY.tmps = #[x0, .string i, .pointer (some ⟨w.heap.size, 0, none⟩), x3, x4, x5, x6, .string S, x8, .string s, .pointer (some ⟨DD, 0, none⟩), .int .i64 er, x12, x13, x14, x15, x16, x17, x18, .tuple #[.string s, (ideV n A1 c1 A2 c2), .int .i64 er], .agg (oraL o A c A' c'), .string S, .string U, .agg (ideL (fed9 o.d U) A c A' c'), .string i, .tuple #[.string s, (ideV n A1 c1 A2 c2), .int .i64 er], .string s, (ideV n A1 c1 A2 c2), .int .i64 er, x29, x30, x31, x32, x33, x34, x35, x36] ∧ Is W w.heap.size 93 (oraL o A c A' c') ∧ Is W (w.heap.size + 1) 29 zer8 ∧ Below w.heap.size w W ∧ w.heap.size + 1 < DD ∧ Is W DD 29 (ideL n A1 c1 A2 c2) ∧ InI W n A1 c1 A2 c2 ∧ Own8 w W A A1 ∧ Own8 w W A' A2 ∧ (∀ p, A1 = some p → p.block < W.heap.size) ∧ (∀ p, A2 = some p → p.block < W.heap.size) ∧ (∀ p, A1 = some p → (some (w.heap.size + 1) : Option Nat) ≠ some p.block) ∧ (∀ p, A2 = some p → (some (w.heap.size + 1) : Option Nat) ≠ some p.block) ∧ (∀ p, A1 = some p → (some DD : Option Nat) ≠ some p.block) ∧ (∀ p, A2 = some p → (some DD : Option Nat) ≠ some p.block)) (fun W => Is W w.heap.size 93 (oraL o A c A' c')) 0 #[true, true, true, true, true, true, true, true, true, true, true, true, true, true] { tmps := #[x0, .string i, .pointer (some ⟨w.heap.size, 0, none⟩), x3, x4, x5, x6, .string S, x8, .string s, .pointer (some ⟨DD, 0, none⟩), .int .i64 er, x12, x13, x14, x15, x16, x17, x18, .tuple #[.string s, (ideV n A1 c1 A2 c2), .int .i64 er], .agg (oraL o A c A' c'), .string S, .string U, .agg (ideL (fed9 o.d U) A c A' c'), .string i, .tuple #[.string s, (ideV n A1 c1 A2 c2), .int .i64 er], .string s, (ideV n A1 c1 A2 c2), .int .i64 er, x29, x30, x31, x32, x33, x34, x35, x36], defers := [] } W := by
    intro W A1 c1 A2 c2 DD iK iR hB hDD iE nI o1 o2 l1 l2 s1 s2 d1 d2
    refine wpAnyH_done (by kernel_rfl) ?_ _
    exact ⟨rfl, rfl, A1, c1, A2, c2, DD, rfl, iK, iR, hB, hDD, iE, nI, o1, o2, l1, l2, s1, s2, d1, d2⟩
  have ST3_5_10 : ∀ (W : World) (A1 : Option Addr) (c1 : Nat) (A2 : Option Addr) (c2 : Nat) (DD : Nat), Is W w.heap.size 93 (oraL o A c A' c') → Is W (w.heap.size + 1) 29 zer8 → Below w.heap.size w W → w.heap.size + 1 < DD → Is W DD 29 zer8 → InI W n A1 c1 A2 c2 → Own8 w W A A1 → Own8 w W A' A2 → (∀ p, A1 = some p → p.block < W.heap.size) → (∀ p, A2 = some p → p.block < W.heap.size) → (∀ p, A1 = some p → (some (w.heap.size + 1) : Option Nat) ≠ some p.block) → (∀ p, A2 = some p → (some (w.heap.size + 1) : Option Nat) ≠ some p.block) → (∀ p, A1 = some p → (some DD : Option Nat) ≠ some p.block) → (∀ p, A2 = some p → (some DD : Option Nat) ≠ some p.block) → wpAnyH Tryz.prog .any (opsOf Tryz.f120 2) (fun ex YY W => ex = .normal ∧ YY.defers = [] ∧ ∃ (A1 : Option Addr) (c1 : Nat) (A2 : Option Addr) (c2 : Nat) (DD : Nat), YY.tmps = #[x0, .string i, .pointer (some ⟨w.heap.size, 0, none⟩), x3, x4, x5, x6, .string S, x8, .string s, .pointer (some ⟨DD, 0, none⟩), .int .i64 er, x12, x13, x14, x15, x16, x17, x18, .tuple #[.string s, (ideV n A1 c1 A2 c2), .int .i64 er], .agg (oraL o A c A' c'), .string S, .string U, .agg (ideL (fed9 o.d U) A c A' c'), .string i, .tuple #[.string s, (ideV n A1 c1 A2 c2), .int .i64 er], .string s, (ideV n A1 c1 A2 c2), .int .i64 er, x29, x30, x31, x32, x33, x34, x35, x36] ∧ Is W w.heap.size 93 (oraL o A c A' c') ∧ Is W (w.heap.size + 1) 29 zer8 ∧ Below w.heap.size w W ∧ w.heap.size + 1 < DD ∧ Is W DD 29 (ideL n A1 c1 A2 c2) ∧ InI W n A1 c1 A2 c2 ∧ Own8 w W A A1 ∧ Own8 w W A' A2 ∧ (∀ p, A1 = some p → p.block < W.heap.size) ∧ (∀ p, A2 = some p → p.block < W.heap.size) ∧ (∀ p, A1 = some p → (some (w.heap.size + 1) : Option Nat) ≠ some p.block) ∧ (∀ p, A2 = some p → (some (w.heap.size + 1) : Option Nat) ≠ some p.block) ∧ (∀ p, A1 = some p → (some DD : Option Nat) ≠ some p.block) ∧ (∀ p, A2 = some p → (some DD : Option Nat) ≠ some p.block)) (fun W => Is W w.heap.size 93 (oraL o A c A' c')) 2 #[true, true, true, true, true, true, true, true, true, true, true, true, false, false] { tmps := #[x0, .string i, .pointer (some ⟨w.heap.size, 0, none⟩), x3, x4, x5, x6, .string S, x8, .string s, .pointer (some ⟨DD, 0, none⟩), x11, x12, x13, x14, x15, x16, x17, x18, .tuple #[.string s, (ideV n A1 c1 A2 c2), .int .i64 er], .agg (oraL o A c A' c'), .string S, .string U, .agg (ideL (fed9 o.d U) A c A' c'), .string i, .tuple #[.string s, (ideV n A1 c1 A2 c2), .int .i64 er], .string s, (ideV n A1 c1 A2 c2), .int .i64 er, x29, x30, x31, x32, x33, x34, x35, x36], defers := [] } W := by
    intro W A1 c1 A2 c2 DD iK iR hB hDD iD nI o1 o2 l1 l2 s1 s2 d1 d2
    refine wpAnyH_ready (by kernel_rfl) (by simp) (AllReadyH.cons (i := 12) (o := { dst := none, op := Op.store 29 (Operand.tmp 10) (Operand.tmp 27), type := 0, pos := "oracle.go:102", after := #[{ on := 10, ground := Ground.data }, { on := 8, ground := Ground.data }, { on := 11, ground := Ground.chain }, { on := 0, ground := Ground.phase }, { on := 1, ground := Ground.phase }, { on := 2, ground := Ground.phase }, { on := 3, ground := Ground.phase }, { on := 4, ground := Ground.phase }, { on := 5, ground := Ground.phase }, { on := 6, ground := Ground.phase }, { on := 7, ground := Ground.phase }, { on := 8, ground := Ground.phase }, { on := 9, ground := Ground.textOnly Departure.lateStores }, { on := 10, ground := Ground.phase }, { on := 11, ground := Ground.phase }], guard := none }) (by kernel_rfl) ?_ (AllReadyH.nil))
    · have kz := iK.rowFar (k := DD) (by omega) (ideL n A1 c1 A2 c2)
      refine arm9_skip (by kernel_rfl) (run_row9 (ty := 29) (x := .tmp 10) (y := .tmp 27) (cs := (ideL n A1 c1 A2 c2)) (by kernel_rfl) (by kernel_rfl) (by kernel_rfl) iD infoIde rfl (ideL_one _ _ _ _ _)) kz ?_
      try simp only [Act.put]
      have iE := iD.row (ideL n A1 c1 A2 c2)
      replace iR := iR.rowFar (k := DD) (by omega) (ideL n A1 c1 A2 c2)
      replace hB := belowRow hB (by omega : w.heap.size ≤ DD) (ideL n A1 c1 A2 c2)
      have hsz : (W.setRow DD (ideL n A1 c1 A2 c2)).heap.size = W.heap.size := by simp
      replace nI := nI.apart (grownRowG _ _ (ideL n A1 c1 A2 c2)) d1 d2
      replace o1 := o1.wide9 (Nat.le_refl _) (Nat.le_of_eq hsz.symm)
      replace o2 := o2.wide9 (Nat.le_refl _) (Nat.le_of_eq hsz.symm)
      replace l1 : ∀ p, A1 = some p → p.block < (W.setRow DD (ideL n A1 c1 A2 c2)).heap.size := fun p hp => by rw [hsz]; exact l1 p hp
      replace l2 : ∀ p, A2 = some p → p.block < (W.setRow DD (ideL n A1 c1 A2 c2)).heap.size := fun p hp => by rw [hsz]; exact l2 p hp
      replace iK := kz
      refine wpAnyH_pure (i := 13) (o := { dst := some 11, op := Op.assign (Operand.tmp 28), type := 35, pos := "oracle.go:102", after := #[{ on := 9, ground := Ground.data }, { on := 12, ground := Ground.chain }, { on := 0, ground := Ground.phase }, { on := 1, ground := Ground.phase }, { on := 2, ground := Ground.phase }, { on := 3, ground := Ground.phase }, { on := 4, ground := Ground.phase }, { on := 5, ground := Ground.phase }, { on := 6, ground := Ground.phase }, { on := 7, ground := Ground.phase }, { on := 8, ground := Ground.phase }, { on := 9, ground := Ground.phase }, { on := 10, ground := Ground.phase }, { on := 11, ground := Ground.phase }, { on := 12, ground := Ground.phase }], guard := none }) (v := .int .i64 er) (by kernel_rfl) (by kernel_rfl) (by kernel_rfl) (by kernel_rfl) (fun _ _ _ h => nomatch h.1) (by kernel_rfl) (fun w hSw => by kernel_rfl) iK ?_
      simp only [Act.put, List.setIfInBounds_toArray, List.set_cons_succ, List.set_cons_zero]
      exact ST3_5_10_12 _ _ _ _ _ _ iK iR hB hDD iE nI o1 o2 l1 l2 s1 s2 d1 d2
  have ST3_5 : ∀ (W : World) (A1 : Option Addr) (c1 : Nat) (A2 : Option Addr) (c2 : Nat), Is W w.heap.size 93 (oraL o A c A' c') → Is W (w.heap.size + 1) 29 zer8 → Below w.heap.size w W → InI W n A1 c1 A2 c2 → Own8 w W A A1 → Own8 w W A' A2 → (∀ p, A1 = some p → p.block < W.heap.size) → (∀ p, A2 = some p → p.block < W.heap.size) → (∀ p, A1 = some p → (some (w.heap.size + 1) : Option Nat) ≠ some p.block) → (∀ p, A2 = some p → (some (w.heap.size + 1) : Option Nat) ≠ some p.block) → wpAnyH Tryz.prog .any (opsOf Tryz.f120 2) (fun ex YY W => ex = .normal ∧ YY.defers = [] ∧ ∃ (A1 : Option Addr) (c1 : Nat) (A2 : Option Addr) (c2 : Nat) (DD : Nat), YY.tmps = #[x0, .string i, .pointer (some ⟨w.heap.size, 0, none⟩), x3, x4, x5, x6, .string S, x8, .string s, .pointer (some ⟨DD, 0, none⟩), .int .i64 er, x12, x13, x14, x15, x16, x17, x18, .tuple #[.string s, (ideV n A1 c1 A2 c2), .int .i64 er], .agg (oraL o A c A' c'), .string S, .string U, .agg (ideL (fed9 o.d U) A c A' c'), .string i, .tuple #[.string s, (ideV n A1 c1 A2 c2), .int .i64 er], .string s, (ideV n A1 c1 A2 c2), .int .i64 er, x29, x30, x31, x32, x33, x34, x35, x36] ∧ Is W w.heap.size 93 (oraL o A c A' c') ∧ Is W (w.heap.size + 1) 29 zer8 ∧ Below w.heap.size w W ∧ w.heap.size + 1 < DD ∧ Is W DD 29 (ideL n A1 c1 A2 c2) ∧ InI W n A1 c1 A2 c2 ∧ Own8 w W A A1 ∧ Own8 w W A' A2 ∧ (∀ p, A1 = some p → p.block < W.heap.size) ∧ (∀ p, A2 = some p → p.block < W.heap.size) ∧ (∀ p, A1 = some p → (some (w.heap.size + 1) : Option Nat) ≠ some p.block) ∧ (∀ p, A2 = some p → (some (w.heap.size + 1) : Option Nat) ≠ some p.block) ∧ (∀ p, A1 = some p → (some DD : Option Nat) ≠ some p.block) ∧ (∀ p, A2 = some p → (some DD : Option Nat) ≠ some p.block)) (fun W => Is W w.heap.size 93 (oraL o A c A' c')) 4 #[true, true, true, true, true, true, true, true, true, true, false, false, false, false] { tmps := #[x0, .string i, .pointer (some ⟨w.heap.size, 0, none⟩), x3, x4, x5, x6, .string S, x8, x9, x10, x11, x12, x13, x14, x15, x16, x17, x18, .tuple #[.string s, (ideV n A1 c1 A2 c2), .int .i64 er], .agg (oraL o A c A' c'), .string S, .string U, .agg (ideL (fed9 o.d U) A c A' c'), .string i, .tuple #[.string s, (ideV n A1 c1 A2 c2), .int .i64 er], .string s, (ideV n A1 c1 A2 c2), .int .i64 er, x29, x30, x31, x32, x33, x34, x35, x36], defers := [] } W := by
    intro W A1 c1 A2 c2 iK iR hB nI o1 o2 l1 l2 s1 s2
    refine wpAnyH_ready (by kernel_rfl) (by simp) (AllReadyH.cons (i := 10) (o := { dst := some 10, op := Op.alloc 29, type := 0, pos := "oracle.go:102", after := #[], guard := none }) (by kernel_rfl) ?_ (AllReadyH.nil))
    · have kz := iK.alloc (.cells zer8 29)
      refine arm9_value (by kernel_rfl) (run_alloc9 _ (by kernel_rfl)) kz ?_
      simp only [Act.put, List.setIfInBounds_toArray, List.set_cons_succ, List.set_cons_zero]
      have iD := Is.new W 29 zer8
      have hDD : w.heap.size + 1 < W.heap.size := iR.lt
      have d1 : ∀ p, A1 = some p → (some W.heap.size : Option Nat) ≠ some p.block := fun p hp e => by have := l1 p hp; have := Option.some.inj e; omega
      have d2 : ∀ p, A2 = some p → (some W.heap.size : Option Nat) ≠ some p.block := fun p hp e => by have := l2 p hp; have := Option.some.inj e; omega
      have hsz : W.heap.size ≤ (W.alloc (.cells zer8 29)).heap.size := by simp
      replace nI := nI.keep ((Below.refl _ _).alloc (Nat.le_refl _) (.cells zer8 29))
      replace o1 := o1.wide9 (Nat.le_refl _) hsz
      replace o2 := o2.wide9 (Nat.le_refl _) hsz
      replace l1 : ∀ p, A1 = some p → p.block < (W.alloc (.cells zer8 29)).heap.size := fun p hp => Nat.lt_of_lt_of_le (l1 p hp) hsz
      replace l2 : ∀ p, A2 = some p → p.block < (W.alloc (.cells zer8 29)).heap.size := fun p hp => Nat.lt_of_lt_of_le (l2 p hp) hsz
      replace iR := iR.alloc (.cells zer8 29)
      replace hB := hB.alloc hB.size (.cells zer8 29)
      replace iK := kz
      refine wpAnyH_pure (i := 11) (o := { dst := some 9, op := Op.assign (Operand.tmp 26), type := 9, pos := "oracle.go:102", after := #[{ on := 7, ground := Ground.data }, { on := 5, ground := Ground.chain }, { on := 0, ground := Ground.phase }, { on := 1, ground := Ground.phase }, { on := 2, ground := Ground.phase }, { on := 3, ground := Ground.phase }, { on := 4, ground := Ground.phase }, { on := 5, ground := Ground.phase }, { on := 6, ground := Ground.phase }, { on := 7, ground := Ground.phase }, { on := 8, ground := Ground.textOnly Departure.lateStores }, { on := 9, ground := Ground.textOnly Departure.lateStores }, { on := 10, ground := Ground.phase }], guard := none }) (v := .string s) (by kernel_rfl) (by kernel_rfl) (by kernel_rfl) (by kernel_rfl) (fun _ _ _ h => nomatch h.1) (by kernel_rfl) (fun w hSw => by kernel_rfl) iK ?_
      simp only [Act.put, List.setIfInBounds_toArray, List.set_cons_succ, List.set_cons_zero]
      exact ST3_5_10 _ _ _ _ _ _ iK iR hB hDD iD nI o1 o2 l1 l2 s1 s2 d1 d2
  have ST3_10 : ∀ (W : World) (DD : Nat), Is W w.heap.size 93 (oraL o A c A' c') → Is W (w.heap.size + 1) 29 zer8 → Below w.heap.size w W → w.heap.size + 1 < DD → Is W DD 29 zer8 → wpAnyH Tryz.prog .any (opsOf Tryz.f120 2) (fun ex YY W => ex = .normal ∧ YY.defers = [] ∧ ∃ (A1 : Option Addr) (c1 : Nat) (A2 : Option Addr) (c2 : Nat) (DD : Nat), YY.tmps = #[x0, .string i, .pointer (some ⟨w.heap.size, 0, none⟩), x3, x4, x5, x6, .string S, x8, .string s, .pointer (some ⟨DD, 0, none⟩), .int .i64 er, x12, x13, x14, x15, x16, x17, x18, .tuple #[.string s, (ideV n A1 c1 A2 c2), .int .i64 er], .agg (oraL o A c A' c'), .string S, .string U, .agg (ideL (fed9 o.d U) A c A' c'), .string i, .tuple #[.string s, (ideV n A1 c1 A2 c2), .int .i64 er], .string s, (ideV n A1 c1 A2 c2), .int .i64 er, x29, x30, x31, x32, x33, x34, x35, x36] ∧ Is W w.heap.size 93 (oraL o A c A' c') ∧ Is W (w.heap.size + 1) 29 zer8 ∧ Below w.heap.size w W ∧ w.heap.size + 1 < DD ∧ Is W DD 29 (ideL n A1 c1 A2 c2) ∧ InI W n A1 c1 A2 c2 ∧ Own8 w W A A1 ∧ Own8 w W A' A2 ∧ (∀ p, A1 = some p → p.block < W.heap.size) ∧ (∀ p, A2 = some p → p.block < W.heap.size) ∧ (∀ p, A1 = some p → (some (w.heap.size + 1) : Option Nat) ≠ some p.block) ∧ (∀ p, A2 = some p → (some (w.heap.size + 1) : Option Nat) ≠ some p.block) ∧ (∀ p, A1 = some p → (some DD : Option Nat) ≠ some p.block) ∧ (∀ p, A2 = some p → (some DD : Option Nat) ≠ some p.block)) (fun W => Is W w.heap.size 93 (oraL o A c A' c')) 8 #[true, true, true, true, true, false, false, false, false, false, true, false, false, false] { tmps := #[x0, .string i, .pointer (some ⟨w.heap.size, 0, none⟩), x3, x4, x5, x6, .string S, x8, x9, .pointer (some ⟨DD, 0, none⟩), x11, x12, x13, x14, x15, x16, x17, x18, x19, .agg (oraL o A c A' c'), .string S, .string U, .agg (ideL (fed9 o.d U) A c A' c'), .string i, x25, x26, x27, x28, x29, x30, x31, x32, x33, x34, x35, x36], defers := [] } W := by
    intro W DD iK iR hB hDD iD
    refine wpAnyH_ready (by kernel_rfl) (by simp) (AllReadyH.cons (i := 5) (o := { dst := some 25, op := Op.call { callee := Callee.value (Operand.func 127), args := #[Operand.tmp 23, Operand.tmp 24], argTypes := #[29, 9] }, type := 71, pos := "oracle.go:102", after := #[{ on := 3, ground := Ground.data }, { on := 4, ground := Ground.data }, { on := 3, ground := Ground.chain }], guard := none }) (by kernel_rfl) ?_ (AllReadyH.nil))
    · have h4 := hB.size
      have hlR := iR.lt
      have hlD := iD.lt
      refine arm9_call (by kernel_rfl) (fun wy => by kernel_rfl) ((IC.out _ hB).mono ?_)
      rintro e Wn ⟨A1, c1, A2, c2, rfl, nI, hb, p1, p2⟩
      replace iK := iK.below hb iK.lt
      replace iR := iR.below hb iR.lt
      replace hB := hB.trans (hb.mono hB.size)
      replace iD := iD.below hb iD.lt
      have l1 := p1.lt9 (fun p hp => Nat.lt_of_lt_of_le (hA p hp) h4) hb.size
      have l2 := p2.lt9 (fun p hp => Nat.lt_of_lt_of_le (hA' p hp) h4) hb.size
      have s1 := p1.apart9 hA (Nat.le_succ _) hlR
      have s2 := p2.apart9 hA' (Nat.le_succ _) hlR
      have d1 := p1.apart9 hA (by omega : w.heap.size ≤ DD) hlD
      have d2 := p2.apart9 hA' (by omega : w.heap.size ≤ DD) hlD
      have o1 := p1.wide9 h4 (Nat.le_refl Wn.heap.size)
      have o2 := p2.wide9 h4 (Nat.le_refl Wn.heap.size)
      refine ⟨_, rfl, iK, ?_⟩
      simp only [Act.put, List.setIfInBounds_toArray, List.set_cons_succ, List.set_cons_zero]
      refine wpAnyH_pure (i := 6) (o := { dst := some 19, op := Op.move (Operand.tmp 25), type := 71, pos := "oracle.go:102", after := #[{ on := 5, ground := Ground.data }], guard := none }) (v := .tuple #[.string s, (ideV n A1 c1 A2 c2), .int .i64 er]) (by kernel_rfl) (by kernel_rfl) (by kernel_rfl) (by kernel_rfl) (fun _ _ _ h => nomatch h.1) (by kernel_rfl) (fun w hSw => by kernel_rfl) iK ?_
      simp only [Act.put, List.setIfInBounds_toArray, List.set_cons_succ, List.set_cons_zero]
      refine wpAnyH_pure (i := 7) (o := { dst := some 26, op := Op.extract (Operand.tmp 19) 0, type := 9, pos := "oracle.go:102", after := #[{ on := 6, ground := Ground.data }], guard := none }) (v := .string s) (by kernel_rfl) (by kernel_rfl) (by kernel_rfl) (by kernel_rfl) (fun _ _ _ h => nomatch h.1) (by kernel_rfl) (fun w hSw => by kernel_rfl) iK ?_
      simp only [Act.put, List.setIfInBounds_toArray, List.set_cons_succ, List.set_cons_zero]
      refine wpAnyH_pure (i := 8) (o := { dst := some 27, op := Op.extract (Operand.tmp 19) 1, type := 29, pos := "oracle.go:102", after := #[{ on := 6, ground := Ground.data }, { on := 11, ground := Ground.gcOnly Departure.lateStores }], guard := none }) (v := (ideV n A1 c1 A2 c2)) (by kernel_rfl) (by kernel_rfl) (by kernel_rfl) (by kernel_rfl) (fun _ _ _ h => nomatch h.1) (by kernel_rfl) (fun w hSw => by kernel_rfl) iK ?_
      simp only [Act.put, List.setIfInBounds_toArray, List.set_cons_succ, List.set_cons_zero]
      refine wpAnyH_pure (i := 9) (o := { dst := some 28, op := Op.extract (Operand.tmp 19) 2, type := 35, pos := "oracle.go:102", after := #[{ on := 6, ground := Ground.data }, { on := 12, ground := Ground.gcOnly Departure.lateStores }], guard := none }) (v := .int .i64 er) (by kernel_rfl) (by kernel_rfl) (by kernel_rfl) (by kernel_rfl) (fun _ _ _ h => nomatch h.1) (by kernel_rfl) (fun w hSw => by kernel_rfl) iK ?_
      simp only [Act.put, List.setIfInBounds_toArray, List.set_cons_succ, List.set_cons_zero]
      refine wpAnyH_pure (i := 11) (o := { dst := some 9, op := Op.assign (Operand.tmp 26), type := 9, pos := "oracle.go:102", after := #[{ on := 7, ground := Ground.data }, { on := 5, ground := Ground.chain }, { on := 0, ground := Ground.phase }, { on := 1, ground := Ground.phase }, { on := 2, ground := Ground.phase }, { on := 3, ground := Ground.phase }, { on := 4, ground := Ground.phase }, { on := 5, ground := Ground.phase }, { on := 6, ground := Ground.phase }, { on := 7, ground := Ground.phase }, { on := 8, ground := Ground.textOnly Departure.lateStores }, { on := 9, ground := Ground.textOnly Departure.lateStores }, { on := 10, ground := Ground.phase }], guard := none }) (v := .string s) (by kernel_rfl) (by kernel_rfl) (by kernel_rfl) (by kernel_rfl) (fun _ _ _ h => nomatch h.1) (by kernel_rfl) (fun w hSw => by kernel_rfl) iK ?_
      simp only [Act.put, List.setIfInBounds_toArray, List.set_cons_succ, List.set_cons_zero]
      exact ST3_5_10 _ _ _ _ _ _ iK iR hB hDD iD nI o1 o2 l1 l2 s1 s2 d1 d2
  have ST3 : ∀ (W : World), Is W w.heap.size 93 (oraL o A c A' c') → Is W (w.heap.size + 1) 29 zer8 → Below w.heap.size w W → wpAnyH Tryz.prog .any (opsOf Tryz.f120 2) (fun ex YY W => ex = .normal ∧ YY.defers = [] ∧ ∃ (A1 : Option Addr) (c1 : Nat) (A2 : Option Addr) (c2 : Nat) (DD : Nat), YY.tmps = #[x0, .string i, .pointer (some ⟨w.heap.size, 0, none⟩), x3, x4, x5, x6, .string S, x8, .string s, .pointer (some ⟨DD, 0, none⟩), .int .i64 er, x12, x13, x14, x15, x16, x17, x18, .tuple #[.string s, (ideV n A1 c1 A2 c2), .int .i64 er], .agg (oraL o A c A' c'), .string S, .string U, .agg (ideL (fed9 o.d U) A c A' c'), .string i, .tuple #[.string s, (ideV n A1 c1 A2 c2), .int .i64 er], .string s, (ideV n A1 c1 A2 c2), .int .i64 er, x29, x30, x31, x32, x33, x34, x35, x36] ∧ Is W w.heap.size 93 (oraL o A c A' c') ∧ Is W (w.heap.size + 1) 29 zer8 ∧ Below w.heap.size w W ∧ w.heap.size + 1 < DD ∧ Is W DD 29 (ideL n A1 c1 A2 c2) ∧ InI W n A1 c1 A2 c2 ∧ Own8 w W A A1 ∧ Own8 w W A' A2 ∧ (∀ p, A1 = some p → p.block < W.heap.size) ∧ (∀ p, A2 = some p → p.block < W.heap.size) ∧ (∀ p, A1 = some p → (some (w.heap.size + 1) : Option Nat) ≠ some p.block) ∧ (∀ p, A2 = some p → (some (w.heap.size + 1) : Option Nat) ≠ some p.block) ∧ (∀ p, A1 = some p → (some DD : Option Nat) ≠ some p.block) ∧ (∀ p, A2 = some p → (some DD : Option Nat) ≠ some p.block)) (fun W => Is W w.heap.size 93 (oraL o A c A' c')) 9 #[true, true, true, true, true, false, false, false, false, false, false, false, false, false] { tmps := #[x0, .string i, .pointer (some ⟨w.heap.size, 0, none⟩), x3, x4, x5, x6, .string S, x8, x9, x10, x11, x12, x13, x14, x15, x16, x17, x18, x19, .agg (oraL o A c A' c'), .string S, .string U, .agg (ideL (fed9 o.d U) A c A' c'), .string i, x25, x26, x27, x28, x29, x30, x31, x32, x33, x34, x35, x36], defers := [] } W := by
    intro W iK iR hB
    refine wpAnyH_ready (by kernel_rfl) (by simp) (AllReadyH.cons (i := 5) (o := { dst := some 25, op := Op.call { callee := Callee.value (Operand.func 127), args := #[Operand.tmp 23, Operand.tmp 24], argTypes := #[29, 9] }, type := 71, pos := "oracle.go:102", after := #[{ on := 3, ground := Ground.data }, { on := 4, ground := Ground.data }, { on := 3, ground := Ground.chain }], guard := none }) (by kernel_rfl) ?_ (AllReadyH.cons (i := 10) (o := { dst := some 10, op := Op.alloc 29, type := 0, pos := "oracle.go:102", after := #[], guard := none }) (by kernel_rfl) ?_ (AllReadyH.nil)))
    · have h4 := hB.size
      have hlR := iR.lt
      refine arm9_call (by kernel_rfl) (fun wy => by kernel_rfl) ((IC.out _ hB).mono ?_)
      rintro e Wn ⟨A1, c1, A2, c2, rfl, nI, hb, p1, p2⟩
      replace iK := iK.below hb iK.lt
      replace iR := iR.below hb iR.lt
      replace hB := hB.trans (hb.mono hB.size)
      have l1 := p1.lt9 (fun p hp => Nat.lt_of_lt_of_le (hA p hp) h4) hb.size
      have l2 := p2.lt9 (fun p hp => Nat.lt_of_lt_of_le (hA' p hp) h4) hb.size
      have s1 := p1.apart9 hA (Nat.le_succ _) hlR
      have s2 := p2.apart9 hA' (Nat.le_succ _) hlR
      have o1 := p1.wide9 h4 (Nat.le_refl Wn.heap.size)
      have o2 := p2.wide9 h4 (Nat.le_refl Wn.heap.size)
      refine ⟨_, rfl, iK, ?_⟩
      simp only [Act.put, List.setIfInBounds_toArray, List.set_cons_succ, List.set_cons_zero]
      refine wpAnyH_pure (i := 6) (o := { dst := some 19, op := Op.move (Operand.tmp 25), type := 71, pos := "oracle.go:102", after := #[{ on := 5, ground := Ground.data }], guard := none }) (v := .tuple #[.string s, (ideV n A1 c1 A2 c2), .int .i64 er]) (by kernel_rfl) (by kernel_rfl) (by kernel_rfl) (by kernel_rfl) (fun _ _ _ h => nomatch h.1) (by kernel_rfl) (fun w hSw => by kernel_rfl) iK ?_
      simp only [Act.put, List.setIfInBounds_toArray, List.set_cons_succ, List.set_cons_zero]
      refine wpAnyH_pure (i := 7) (o := { dst := some 26, op := Op.extract (Operand.tmp 19) 0, type := 9, pos := "oracle.go:102", after := #[{ on := 6, ground := Ground.data }], guard := none }) (v := .string s) (by kernel_rfl) (by kernel_rfl) (by kernel_rfl) (by kernel_rfl) (fun _ _ _ h => nomatch h.1) (by kernel_rfl) (fun w hSw => by kernel_rfl) iK ?_
      simp only [Act.put, List.setIfInBounds_toArray, List.set_cons_succ, List.set_cons_zero]
      refine wpAnyH_pure (i := 8) (o := { dst := some 27, op := Op.extract (Operand.tmp 19) 1, type := 29, pos := "oracle.go:102", after := #[{ on := 6, ground := Ground.data }, { on := 11, ground := Ground.gcOnly Departure.lateStores }], guard := none }) (v := (ideV n A1 c1 A2 c2)) (by kernel_rfl) (by kernel_rfl) (by kernel_rfl) (by kernel_rfl) (fun _ _ _ h => nomatch h.1) (by kernel_rfl) (fun w hSw => by kernel_rfl) iK ?_
      simp only [Act.put, List.setIfInBounds_toArray, List.set_cons_succ, List.set_cons_zero]
      refine wpAnyH_pure (i := 9) (o := { dst := some 28, op := Op.extract (Operand.tmp 19) 2, type := 35, pos := "oracle.go:102", after := #[{ on := 6, ground := Ground.data }, { on := 12, ground := Ground.gcOnly Departure.lateStores }], guard := none }) (v := .int .i64 er) (by kernel_rfl) (by kernel_rfl) (by kernel_rfl) (by kernel_rfl) (fun _ _ _ h => nomatch h.1) (by kernel_rfl) (fun w hSw => by kernel_rfl) iK ?_
      simp only [Act.put, List.setIfInBounds_toArray, List.set_cons_succ, List.set_cons_zero]
      exact ST3_5 _ _ _ _ _ iK iR hB nI o1 o2 l1 l2 s1 s2
    · have kz := iK.alloc (.cells zer8 29)
      refine arm9_value (by kernel_rfl) (run_alloc9 _ (by kernel_rfl)) kz ?_
      simp only [Act.put, List.setIfInBounds_toArray, List.set_cons_succ, List.set_cons_zero]
      have iD := Is.new W 29 zer8
      have hDD : w.heap.size + 1 < W.heap.size := iR.lt
      replace iR := iR.alloc (.cells zer8 29)
      replace hB := hB.alloc hB.size (.cells zer8 29)
      replace iK := kz
      exact ST3_10 _ _ iK iR hB hDD iD
  have ST10 : ∀ (W : World) (DD : Nat), Is W w.heap.size 93 (oraL o A c A' c') → Is W (w.heap.size + 1) 29 zer8 → Below w.heap.size w W → w.heap.size + 1 < DD → Is W DD 29 zer8 → wpAnyH Tryz.prog .any (opsOf Tryz.f120 2) (fun ex YY W => ex = .normal ∧ YY.defers = [] ∧ ∃ (A1 : Option Addr) (c1 : Nat) (A2 : Option Addr) (c2 : Nat) (DD : Nat), YY.tmps = #[x0, .string i, .pointer (some ⟨w.heap.size, 0, none⟩), x3, x4, x5, x6, .string S, x8, .string s, .pointer (some ⟨DD, 0, none⟩), .int .i64 er, x12, x13, x14, x15, x16, x17, x18, .tuple #[.string s, (ideV n A1 c1 A2 c2), .int .i64 er], .agg (oraL o A c A' c'), .string S, .string U, .agg (ideL (fed9 o.d U) A c A' c'), .string i, .tuple #[.string s, (ideV n A1 c1 A2 c2), .int .i64 er], .string s, (ideV n A1 c1 A2 c2), .int .i64 er, x29, x30, x31, x32, x33, x34, x35, x36] ∧ Is W w.heap.size 93 (oraL o A c A' c') ∧ Is W (w.heap.size + 1) 29 zer8 ∧ Below w.heap.size w W ∧ w.heap.size + 1 < DD ∧ Is W DD 29 (ideL n A1 c1 A2 c2) ∧ InI W n A1 c1 A2 c2 ∧ Own8 w W A A1 ∧ Own8 w W A' A2 ∧ (∀ p, A1 = some p → p.block < W.heap.size) ∧ (∀ p, A2 = some p → p.block < W.heap.size) ∧ (∀ p, A1 = some p → (some (w.heap.size + 1) : Option Nat) ≠ some p.block) ∧ (∀ p, A2 = some p → (some (w.heap.size + 1) : Option Nat) ≠ some p.block) ∧ (∀ p, A1 = some p → (some DD : Option Nat) ≠ some p.block) ∧ (∀ p, A2 = some p → (some DD : Option Nat) ≠ some p.block)) (fun W => Is W w.heap.size 93 (oraL o A c A' c')) 9 #[true, true, true, false, true, false, false, false, false, false, true, false, false, false] { tmps := #[x0, .string i, .pointer (some ⟨w.heap.size, 0, none⟩), x3, x4, x5, x6, .string S, x8, x9, .pointer (some ⟨DD, 0, none⟩), x11, x12, x13, x14, x15, x16, x17, x18, x19, .agg (oraL o A c A' c'), .string S, .string U, x23, .string i, x25, x26, x27, x28, x29, x30, x31, x32, x33, x34, x35, x36], defers := [] } W := by
    intro W DD iK iR hB hDD iD
    refine wpAnyH_ready (by kernel_rfl) (by simp) (AllReadyH.cons (i := 3) (o := { dst := some 23, op := Op.call { callee := Callee.value (Operand.func 124), args := #[Operand.tmp 20, Operand.tmp 22], argTypes := #[93, 9] }, type := 29, pos := "oracle.go:102", after := #[{ on := 0, ground := Ground.data }, { on := 2, ground := Ground.data }], guard := none }) (by kernel_rfl) ?_ (AllReadyH.nil))
    · refine arm9_call (by kernel_rfl) (fun wy => by kernel_rfl) ((DC.out _).mono ?_)
      rintro e Wn ⟨rfl, hb⟩
      replace iK := iK.below hb iK.lt
      replace iR := iR.below hb iR.lt
      replace hB := hB.trans (hb.mono hB.size)
      replace iD := iD.below hb iD.lt
      refine ⟨_, rfl, iK, ?_⟩
      simp only [Act.put, List.setIfInBounds_toArray, List.set_cons_succ, List.set_cons_zero]
      exact ST3_10 _ _ iK iR hB hDD iD
  have ST : ∀ (W : World), Is W w.heap.size 93 (oraL o A c A' c') → Is W (w.heap.size + 1) 29 zer8 → Below w.heap.size w W → wpAnyH Tryz.prog .any (opsOf Tryz.f120 2) (fun ex YY W => ex = .normal ∧ YY.defers = [] ∧ ∃ (A1 : Option Addr) (c1 : Nat) (A2 : Option Addr) (c2 : Nat) (DD : Nat), YY.tmps = #[x0, .string i, .pointer (some ⟨w.heap.size, 0, none⟩), x3, x4, x5, x6, .string S, x8, .string s, .pointer (some ⟨DD, 0, none⟩), .int .i64 er, x12, x13, x14, x15, x16, x17, x18, .tuple #[.string s, (ideV n A1 c1 A2 c2), .int .i64 er], .agg (oraL o A c A' c'), .string S, .string U, .agg (ideL (fed9 o.d U) A c A' c'), .string i, .tuple #[.string s, (ideV n A1 c1 A2 c2), .int .i64 er], .string s, (ideV n A1 c1 A2 c2), .int .i64 er, x29, x30, x31, x32, x33, x34, x35, x36] ∧ Is W w.heap.size 93 (oraL o A c A' c') ∧ Is W (w.heap.size + 1) 29 zer8 ∧ Below w.heap.size w W ∧ w.heap.size + 1 < DD ∧ Is W DD 29 (ideL n A1 c1 A2 c2) ∧ InI W n A1 c1 A2 c2 ∧ Own8 w W A A1 ∧ Own8 w W A' A2 ∧ (∀ p, A1 = some p → p.block < W.heap.size) ∧ (∀ p, A2 = some p → p.block < W.heap.size) ∧ (∀ p, A1 = some p → (some (w.heap.size + 1) : Option Nat) ≠ some p.block) ∧ (∀ p, A2 = some p → (some (w.heap.size + 1) : Option Nat) ≠ some p.block) ∧ (∀ p, A1 = some p → (some DD : Option Nat) ≠ some p.block) ∧ (∀ p, A2 = some p → (some DD : Option Nat) ≠ some p.block)) (fun W => Is W w.heap.size 93 (oraL o A c A' c')) 10 #[true, true, true, false, true, false, false, false, false, false, false, false, false, false] { tmps := #[x0, .string i, .pointer (some ⟨w.heap.size, 0, none⟩), x3, x4, x5, x6, .string S, x8, x9, x10, x11, x12, x13, x14, x15, x16, x17, x18, x19, .agg (oraL o A c A' c'), .string S, .string U, x23, .string i, x25, x26, x27, x28, x29, x30, x31, x32, x33, x34, x35, x36], defers := [] } W := by
    intro W iK iR hB
    refine wpAnyH_ready (by kernel_rfl) (by simp) (AllReadyH.cons (i := 3) (o := { dst := some 23, op := Op.call { callee := Callee.value (Operand.func 124), args := #[Operand.tmp 20, Operand.tmp 22], argTypes := #[93, 9] }, type := 29, pos := "oracle.go:102", after := #[{ on := 0, ground := Ground.data }, { on := 2, ground := Ground.data }], guard := none }) (by kernel_rfl) ?_ (AllReadyH.cons (i := 10) (o := { dst := some 10, op := Op.alloc 29, type := 0, pos := "oracle.go:102", after := #[], guard := none }) (by kernel_rfl) ?_ (AllReadyH.nil)))
    · refine arm9_call (by kernel_rfl) (fun wy => by kernel_rfl) ((DC.out _).mono ?_)
      rintro e Wn ⟨rfl, hb⟩
      replace iK := iK.below hb iK.lt
      replace iR := iR.below hb iR.lt
      replace hB := hB.trans (hb.mono hB.size)
      refine ⟨_, rfl, iK, ?_⟩
      simp only [Act.put, List.setIfInBounds_toArray, List.set_cons_succ, List.set_cons_zero]
      exact ST3 _ iK iR hB
    · have kz := iK.alloc (.cells zer8 29)
      refine arm9_value (by kernel_rfl) (run_alloc9 _ (by kernel_rfl)) kz ?_
      simp only [Act.put, List.setIfInBounds_toArray, List.set_cons_succ, List.set_cons_zero]
      have iD := Is.new W 29 zer8
      have hDD : w.heap.size + 1 < W.heap.size := iR.lt
      replace iR := iR.alloc (.cells zer8 29)
      replace hB := hB.alloc hB.size (.cells zer8 29)
      replace iK := kz
      exact ST10 _ _ iK iR hB hDD iD
  refine wp_region_held_drew (S := fun W => Is W w.heap.size 93 (oraL o A c A' c')) (by kernel_rfl) iK (fun hS => ?_)
  change wpAnyH _ _ (opsOf Tryz.f120 2) _ _ 14 (Array.replicate 14 false) _ (W0.drewN 1)
  have iK : Is (W0.drewN 1) w.heap.size 93 (oraL o A c A' c') := iK
  replace iR : Is (W0.drewN 1) (w.heap.size + 1) 29 zer8 := iR
  replace hB : Below w.heap.size w (W0.drewN 1) := belowN hB 1
  clear hS
  refine wpAnyH_pure (i := 0) (o := { dst := some 20, op := Op.load 93 (Operand.tmp 2), type := 93, pos := "oracle.go:102", after := #[], guard := none }) (v := .agg (oraL o A c A' c')) (by kernel_rfl) (by kernel_rfl) (by kernel_rfl) (by kernel_rfl) (fun _ _ _ h => nomatch h.1) (by kernel_rfl) (fun w hSw => by exact exec_load rfl rfl (run_loadVar_row _ _ 93 93 _ (0, 0) _ hSw Tryz.underlying93 rfl infoKey9)) iK ?_
  simp only [Act.put, List.setIfInBounds_toArray, List.set_cons_succ, List.set_cons_zero]
  refine wpAnyH_pure (i := 1) (o := { dst := some 21, op := Op.move (Operand.tmp 7), type := 9, pos := "oracle.go:102", after := #[], guard := none }) (v := .string S) (by kernel_rfl) (by kernel_rfl) (by kernel_rfl) (by kernel_rfl) (fun _ _ _ h => nomatch h.1) (by kernel_rfl) (fun w hSw => by kernel_rfl) iK ?_
  simp only [Act.put, List.setIfInBounds_toArray, List.set_cons_succ, List.set_cons_zero]
  refine wpAnyH_pure (i := 2) (o := { dst := some 22, op := Op.slice 9 (Operand.tmp 21) none (some (Operand.const (Value.int IntKind.i64 16))) none, type := 9, pos := "oracle.go:102", after := #[{ on := 1, ground := Ground.data }], guard := none }) (v := .string U) (by kernel_rfl) (by kernel_rfl) (by kernel_rfl) (by kernel_rfl) (fun _ _ _ h => nomatch h.1) (by kernel_rfl) (fun w hSw => by exact HSL.out _ _ _ rfl rfl) iK ?_
  simp only [Act.put, List.setIfInBounds_toArray, List.set_cons_succ, List.set_cons_zero]
  refine wpAnyH_pure (i := 4) (o := { dst := some 24, op := Op.move (Operand.tmp 1), type := 9, pos := "oracle.go:102", after := #[], guard := none }) (v := .string i) (by kernel_rfl) (by kernel_rfl) (by kernel_rfl) (by kernel_rfl) (fun _ _ _ h => nomatch h.1) (by kernel_rfl) (fun w hSw => by kernel_rfl) iK ?_
  simp only [Act.put, List.setIfInBounds_toArray, List.set_cons_succ, List.set_cons_zero]
  exact ST _ iK iR hB

section
variable [Tabs]
set_option maxRecDepth 100000 in
set_option maxHeartbeats 4000000 in
theorem bkLabel_any (o : Ora) (A : Option Addr) (c : Nat) (A' : Option Addr) (c' : Nat) (i : ByteArray) (w : World) (hA : ∀ p, A = some p → p.block < w.heap.size) (hA' : ∀ p, A' = some p → p.block < w.heap.size) (hT : Tab w) (h : InI w o.d A c A' c') (hk : o.key.size = 32) (hi : i.size ≤ 100) :
    Calls Tryz.prog 120 #[oraV o A c A' c', .string i] w fun e w' => ∃ A1 c1 A2 c2, e = .returned (.tuple #[.string (labS9 o.d (T9 o.key i) i).1, ideV (labS9 o.d (T9 o.key i) i).2.1 A1 c1 A2 c2, .int .i64 (labS9 o.d (T9 o.key i) i).2.2]) ∧ InI w' (labS9 o.d (T9 o.key i) i).2.1 A1 c1 A2 c2 ∧ Below w.heap.size w w' ∧ Own8 w w' A A1 ∧ Own8 w w' A' A2 := by
  rw [labS9_eq]
  have KC : ∀ W, Below w.heap.size w W → Calls Tryz.prog 119 #[oraV o A c A' c', .string labN9] W fun e w' => e = .returned (.string (lk9 o.key)) ∧ Below W.heap.size W w' := fun W hb => keyOf_any o A c A' c' labN9 W (hT.below hb hT.two) (by omega) (by decide)
  have SC : ∀ W, Below w.heap.size w W → Calls Tryz.prog 126 #[.string (lk9 o.key), .string i] W fun e w' => e = .returned (.tuple #[.string (tagB (keyL (lk9 o.key)) i), .int .i64 0]) ∧ Below W.heap.size W w' := fun W hb => mac_ok (lk9 o.key) i W (hT.below hb hT.two) (by rw [lk9_size]; omega) (by omega)
  have hts := tagB_size (keyL (lk9 o.key)) i
  have hU : T9 o.key i = (tagB (keyL (lk9 o.key)) i).extract 0 16 := rfl
  generalize tagB (keyL (lk9 o.key)) i = S at *
  generalize lk9 o.key = K at *
  generalize T9 o.key i = U at *
  have HSL : Hid (∀ (a : Act) (oi : Oper) (W : World), oi.op = .slice 9 (.tmp 21) none (some (.const (.int .i64 16))) none → a.eval (.tmp 21) = .string S → (execOp a.eval oi).run Tryz.prog W = .ok (.value (.string U)) W) := Lib.hid fun a oi W ho he => by
    have := run_slice_string (P := Tryz.prog) W 9 S .i64 .i64 0 16 Tryz.underlying9 (by omega) (by omega) (by omega)
    rw [hU]
    simp only [execOp, ho, he]
    go_simp
  have DC := Lib.hid (fun W => drawing_any o A c A' c' U W)
  have IC := Lib.hid (fun W (hb : Below w.heap.size w W) => label_own (fed9 o.d U) A c A' c' i W ((h.keep hb).fed U))
  obtain ⟨⟨s, n, er⟩, hq⟩ : ∃ x, lab8 (fed9 o.d U) i = x := ⟨_, rfl⟩
  rw [hq] at IC ⊢
  replace KC := Lib.hid KC
  replace SC := Lib.hid SC
  clear hq hT h hk hi hts hU
  obtain ⟨V1, hV1⟩ : ∃ W, W = (w.alloc (.cells (oraL o A c A' c') 93)).alloc (.cells zer8 29) := ⟨_, rfl⟩
  have iK : Is V1 w.heap.size 93 (oraL o A c A' c') := by rw [hV1]; exact heap_alloc2_old w _ _
  have iR : Is V1 (w.heap.size + 1) 29 zer8 := by rw [hV1]; exact heap_alloc2_new w _ _
  have hB : Below w.heap.size w V1 := by rw [hV1]; exact ((Below.refl _ _).alloc (Nat.le_refl _) _).alloc (by simp) _
  go_enter Tryz.func120, Tryz.ntmps120
  go_wp2_with fail
  rw [← hV1]
  clear hV1
  go_wp2_with (refine wpList_load_row rfl 93 _ rfl w.heap.size rfl 93 _ (0, 0) _ iK Tryz.underlying93 rfl infoKey9 ?_)
  refine (KC.out _ hB).mono ?_
  rintro e V2 ⟨rfl, hb⟩
  replace iK := iK.below hb iK.lt
  replace iR := iR.below hb iR.lt
  replace hB := hB.trans (hb.mono hB.size)
  clear hb
  go_wp2_with fail
  refine (SC.out _ hB).mono ?_
  rintro e V3 ⟨rfl, hb⟩
  replace iK := iK.below hb iK.lt
  replace iR := iR.below hb iR.lt
  replace hB := hB.trans (hb.mono hB.size)
  clear hb
  go_wp2
  refine Code.wp_mono ?_ (bkLabel_mid o A c A' c' i S U s n er w V3 hA hA' HSL DC IC iK iR hB _ _ _ _ _ _ _ _ _ _ _ _ _ _ _ _ _ _ _ _ _ _ _ _ _ _ _ _ _ _ _ _ _ _)
  rintro e YY V6 ⟨rfl, hd, A1, c1, A2, c2, DD, hT, k2, iR, hB, hDB, iD, nI, o1, o2, l1', l2', s1, s2, l1, l2⟩
  obtain ⟨T0, Dd⟩ := YY
  subst hT
  obtain rfl : Dd = [] := hd
  have hDR : DD ≠ w.heap.size + 1 := by omega
  have h4 : w.heap.size ≤ w.heap.size := Nat.le_refl _
  have hDB : w.heap.size ≤ DD := by omega
  clear l1' l2' iK
  have q2 : V6.rangeAt w.heap.size 2 [.string o.d.B, .int .i64 o.d.a] := k2.range9 2 _ (ora_tape9 o A c A' c')
  have th := there9 iD 0 2 (by show 0 + 2 ≤ 5; omega)
  go_upto_region 4 with (first
    | (refine wpList_load_mid rfl 23 _ rfl w.heap.size 2 rfl _ _ q2 Tryz.underlying23 rfl infoTape9 ?_)
    | (refine wpList_store_mid rfl 23 _ _ rfl DD 0 #[.string o.d.B, .int .i64 o.d.a] rfl rfl th infoTape9 (by rw [← Array.all_toList]; rfl) ?_))
  have e3 := iD.setCells [.string o.d.B, .int .i64 o.d.a] 0
  rw [set_bak9] at e3
  have iR3 := iR.farCells (Ne.symm hDR) [.string o.d.B, .int .i64 o.d.a] 0
  have hB3 := belowCells hDB [.string o.d.B, .int .i64 o.d.a] 0 hB
  have nI3 := (nI.apart (grown_cells9 DD [.string o.d.B, .int .i64 o.d.a] 0 V6) l1 l2).bak (d := o.d)
  have hz3 : V6.heap.size ≤ (V6.setCells DD 0 [.string o.d.B, .int .i64 o.d.a]).heap.size := (grown_cells9 DD [.string o.d.B, .int .i64 o.d.a] 0 V6).size
  clear q2 th iD iR hB nI k2
  generalize V6.setCells DD 0 [.string o.d.B, .int .i64 o.d.a] = V at *
  have iD := e3
  have iR := iR3
  have hB := hB3
  have nI := nI3
  clear e3 iR3 hB3 nI3
  have iDd : Is V.drew DD 29 (ideL (bak9 o.d n) A1 c1 A2 c2) := iD
  have iRd : Is V.drew (w.heap.size + 1) 29 zer8 := iR
  have hBd : Below w.heap.size w V.drew := belowN hB 1
  have nId := nI.keep (W' := V.drew) (belowN (Below.refl _ _) 1)
  refine wp_region_held_drew (S := fun W => Is W DD 29 (ideL (bak9 o.d n) A1 c1 A2 c2)) (by kernel_rfl) iDd (fun hS => ?_)
  change wpAnyH _ _ (opsOf Tryz.f120 4) _ _ 6 (Array.replicate 6 false) _ _
  clear hS iD iR hB nI
  refine wpAnyH_pure (i := 0) (v := .string s) (at_nth rfl) (by kernel_rfl) (by kernel_rfl) (by kernel_rfl) (fun _ _ _ h => h) (by kernel_rfl) (fun w hSw => by kernel_rfl) iDd ?_
  simp only [Act.put, List.setIfInBounds_toArray, List.set_cons_succ, List.set_cons_zero]
  refine wpAnyH_pure (i := 1) (v := .agg (ideL (bak9 o.d n) A1 c1 A2 c2)) (at_nth rfl) (by kernel_rfl) (by kernel_rfl) (by kernel_rfl) (fun _ _ _ h => h) (by kernel_rfl) (fun w hSw => by exact exec_load rfl rfl (run_loadVar_row _ _ 29 29 _ (0, 0) _ hSw Tryz.underlying29 rfl infoIde)) iDd ?_
  simp only [Act.put, List.setIfInBounds_toArray, List.set_cons_succ, List.set_cons_zero]
  refine wpAnyH_pure (i := 2) (v := .int .i64 er) (at_nth rfl) (by kernel_rfl) (by kernel_rfl) (by kernel_rfl) (fun _ _ _ h => h) (by kernel_rfl) (fun w hSw => by kernel_rfl) iDd ?_
  simp only [Act.put, List.setIfInBounds_toArray, List.set_cons_succ, List.set_cons_zero]
  refine wpAnyH_pure (i := 3) (v := .string s) (at_nth rfl) (by kernel_rfl) (by kernel_rfl) (by kernel_rfl) (fun _ _ _ h => h) (by kernel_rfl) (fun w hSw => by kernel_rfl) iDd ?_
  simp only [Act.put, List.setIfInBounds_toArray, List.set_cons_succ, List.set_cons_zero]
  have iDz : Is (V.drew.setRow (w.heap.size + 1) (ideL (bak9 o.d n) A1 c1 A2 c2)) DD 29 (ideL (bak9 o.d n) A1 c1 A2 c2) := iDd.rowFar hDR _
  refine wpAnyH_storerow (i := 4) (g := (w.heap.size + 1)) (cs := (ideL (bak9 o.d n) A1 c1 A2 c2)) (t := 29) (old := zer8) (by kernel_rfl) (at_nth rfl) (by kernel_rfl) rfl (by kernel_rfl) (by kernel_rfl) iRd infoIde rfl (ideL_one _ _ _ _ _) iDz ?_
  simp only [Act.put]
  refine wpAnyH_pure (i := 5) (v := .int .i64 er) (at_nth rfl) (by kernel_rfl) (by kernel_rfl) (by kernel_rfl) (fun _ _ _ h => h) (by kernel_rfl) (fun w hSw => by kernel_rfl) iDz ?_
  simp only [Act.put, List.setIfInBounds_toArray, List.set_cons_succ, List.set_cons_zero]
  refine wpAnyH_done (by kernel_rfl) ?_ _
  go_wp2
  exact bodyPost_ret (results_tct Tryz.results120 _ _ _ (w.heap.size + 1) 29 _ (0, 0) _ rfl (iRd.row _) Tryz.underlying29 infoIde) rfl ⟨A1, c1, A2, c2, rfl, nId.apart (grownRowG _ _ _) s1 s2, belowRow hBd (by simp) _, o1.wide9 h4 (by simpa using hz3), o2.wide9 h4 (by simpa using hz3)⟩
end
end Go.Proofs.YtfgdcpolfekgjaaGreat

