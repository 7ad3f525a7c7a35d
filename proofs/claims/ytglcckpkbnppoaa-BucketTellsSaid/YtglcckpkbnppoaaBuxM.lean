/-
  Layer 12: contract of bucket.added. Conditions: the store's buckets lie in a row of its own; they are no more than 4096; each is in a state that there is; there is room on the label's way.
-/
import Derived.Test.YtglcckpkbnppoaaBuxL
import Derived.Deep.DeepCutAuto
namespace Go.Proofs.Ytglcckpkbnppoaa
open Go.RowKit Go.Shelf

section
variable {ops : Array Oper} {rest : List Oper} {o : Oper} {a : Act} {w : World} {Q : Exit → Act → World → Prop}
/-- a bucket, stored into a row. -/
theorem wpList_store_bkt12 (hgd : o.guard = none) (x y : Operand) (ho : o.op = .store 25 x y) (b off : Nat) (st : Int) (l c : ByteArray) (hx : a.eval x = .pointer (some ⟨b, off, none⟩)) (hy : a.eval y = .agg #[.int .i64 st, .string l, .string c])
    (ht : w.there b off 3) (h : wpList Try.prog ops Q rest (a.put o.dst undef) (w.setCells b off [.int .i64 st, .string l, .string c])) : wpList Try.prog ops Q (o :: rest) a w :=
  wpList_store_mid hgd 25 x y ho b off #[.int .i64 st, .string l, .string c] hx hy ht infoBkt12 (by rw [← Array.all_toList]; rfl) h
end
/-- a store with one more. -/
def add12 (s : Sto12) (k : Nat) (l x : ByteArray) : Sto12 := ⟨s.B.set k ⟨1, l, x⟩, s.many + 1, if (at12 s.B k).st = 2 then s.gone - 1 else s.gone⟩
theorem getD_at12 {B : List Bkt12} {k : Nat} (hk : k < B.length) : B[k]? = some (at12 B k) := by rw [at_get12 hk]; exact List.getElem?_eq_getElem hk
theorem RowB.range {W : World} {base g : Nat} {c : Nat} {B : List Bkt12} (h : RowB W base (some ⟨g, 0, none⟩) c B) {k : Nat} {x : Bkt12} (hk : B[k]? = some x) : W.rangeAt g (k * 3) [.int .i64 x.st, .string x.l, .string x.c] := by
  obtain ⟨b, off, e, _, hr⟩ := (RowV.inV h).bkt hk
  cases e
  rwa [Nat.zero_add] at hr

set_option maxRecDepth 100000 in
set_option maxHeartbeats 4000000 in
theorem added_any12 (s : Sto12) (A : Option Addr) (c base k : Nat) (l x : ByteArray) (w : World) (h : RowB w base A c s.B) (h0 : 0 < s.B.length) (hf : s.B.length ≤ 4096) (hst : ∀ i, i < s.B.length → (at12 s.B i).st = 0 ∨ (at12 s.B i).st = 1 ∨ (at12 s.B i).st = 2) (hg : gap12 s.B l = some k) (hm : -1000000 ≤ s.many ∧ s.many ≤ 1000000) (hgn : -1000000 ≤ s.gone ∧ s.gone ≤ 1000000) :
    Calls Try.prog 47 #[stoV s A c, .string l, .string x] w fun e w' => e = .returned (stoV (add12 s k l x) A c) ∧ RowB w' base A c (add12 s k l x).B ∧ w.grownBy w' (Value.slice A s.B.length c).ownBlock := by
  obtain ⟨g, cur, rfl, hbg, hgc, _⟩ := h.open h0
  have hgl := hgc.lt
  have hkl := (gap_lt12 hg).1
  have hx := getD_at12 hkl
  have hR := room_gap12 hst hg
  have HR := Lib.hid (fun W (hS : InS W s (some ⟨g, 0, none⟩) c) => room_any12 s (some ⟨g, 0, none⟩) c l W hS h0 hf)
  rw [hR] at HR
  have hlen : (add12 s k l x).B.length = s.B.length := by rw [add12]; exact List.length_set
  have hadd : stoV (add12 s k l x) (some ⟨g, 0, none⟩) c = .agg #[.slice (some ⟨g, 0, none⟩) s.B.length c, .int .i64 (s.many + 1), .int .i64 (add12 s k l x).gone] := by rw [stoV, stoA, hlen]; rfl
  have H := Lib.hid h
  have HF := Lib.hid hf
  have HL := Lib.hid hlen
  obtain ⟨W0, hW0⟩ : ∃ W, W = (w.alloc (.cells (stoA s (some ⟨g, 0, none⟩) c) 31)).alloc (.cells #[.slice none 0 0, .int .i64 0, .int .i64 0] 31) := ⟨_, rfl⟩
  have i1 : Is W0 w.heap.size 31 (stoA s (some ⟨g, 0, none⟩) c) := by rw [hW0]; exact heap_alloc2_old w _ _
  have i2 : Is W0 (w.heap.size + 1) 31 #[.slice none 0 0, .int .i64 0, .int .i64 0] := by rw [hW0]; exact heap_alloc2_new w _ _
  have hB0 : Below w.heap.size w W0 := by rw [hW0]; exact ((Below.refl _ _).alloc (Nat.le_refl _) _).alloc (by simp) _
  have hr0 : RowB W0 base (some ⟨g, 0, none⟩) c s.B := by rw [hW0]; exact (h.alloc _).alloc _
  have HG := Lib.hid (show (add12 s k l x).gone = if (at12 s.B k).st = 2 then s.gone - 1 else s.gone from rfl)
  have HBB := Lib.hid (show (add12 s k l x).B = s.B.set k ⟨1, l, x⟩ from rfl)
  rw [hadd]
  generalize at12 s.B k = y at *
  obtain ⟨st, yl, yc⟩ := y
  simp only at HG
  have hk1 : (k : Int) < (s.B.length : Int) := by omega
  have w1 := IntWalk.i64_in (s.many + 1) (by omega)
  have w2 := IntWalk.i64_in (s.gone - 1) (by omega)
  clear h hst hR hadd hlen hgc hg
  go_enter Try.func47, Try.ntmps47
  go_wp2_with fail
  rw [← hW0]
  clear hW0
  go_wp2_with (refine wpList_load_row rfl 31 _ rfl w.heap.size rfl _ _ _ _ i1 Try.underlying31 rfl infoSto12 ?_)
  refine (HR.out _ (RowB.inS hr0 hf)).mono ?_
  rintro e W1 ⟨rfl, hb1⟩
  have j1 := i1.below hb1 i1.lt
  have j2 := i2.below hb1 i2.lt
  have hr1 := RowV.below hr0 hb1
  have hB1 := hB0.trans (hb1.mono hB0.size)
  have hs1 := j2.lt
  clear hb1 i1 i2 hr0 hB0 HR
  have c0 : W1.cell? ⟨w.heap.size, 0, none⟩ = some (.slice (some ⟨g, 0, none⟩) s.B.length c) := j1.cell 0
  have c1 : W1.cell? ⟨w.heap.size, 1, none⟩ = some (.int .i64 s.many) := j1.cell 1
  have c2 : W1.cell? ⟨w.heap.size, 2, none⟩ = some (.int .i64 s.gone) := j1.cell 2
  have f1 := j1.frozen 1
  have f2 := j1.frozen 2
  have q0 : W1.cell? ⟨g, k * 3, none⟩ = some (.int .i64 st) := by have := (RowB.range hr1 hx) 0 _ rfl; rwa [Nat.add_zero] at this
  have hgw : w.grownBy W1 (some g) := grown_below12 hB1 _
  by_cases h2 : st = 2
  · subst h2
    rw [if_pos rfl] at HG
    have k1 : Is (W1.setCell ⟨w.heap.size, 2, none⟩ (.int .i64 (s.gone - 1))) w.heap.size 31 #[.slice (some ⟨g, 0, none⟩) s.B.length c, .int .i64 s.many, .int .i64 (s.gone - 1)] := j1.set 2 _
    have k2 := j2.far (p := ⟨w.heap.size, 2, none⟩) (by simp) (.int .i64 (s.gone - 1))
    have r2 := hr1.far (p := ⟨w.heap.size, 2, none⟩) j1 (by decide) (.int .i64 (s.gone - 1))
    have hg2 := grown_set12 hgw (p := ⟨w.heap.size, 2, none⟩) (Nat.le_refl _) (.int .i64 (s.gone - 1))
    have D0 := Lib.hid (show (W1.setCell ⟨w.heap.size, 2, none⟩ (.int .i64 (s.gone - 1))).cell? ⟨w.heap.size, 0, none⟩ = some (.slice (some ⟨g, 0, none⟩) s.B.length c) from k1.cell 0)
    have HK1 := Lib.hid k1
    have HK2 := Lib.hid k2
    have HR2 := Lib.hid r2
    have HGG := Lib.hid hg2
    clear hr1 hgw j1 j2 k1 k2 r2 hg2
    go_upto_region 4 with (fail)
    have d0 := D0.out
    have k1 := HK1.out
    have k2 := HK2.out
    have r2 := HR2.out
    have hg2 := HGG.out
    clear D0 HK1 HK2 HR2 HGG q0 c0 c1 c2 f1 f2
    generalize W1.setCell ⟨w.heap.size, 2, none⟩ (.int .i64 (s.gone - 1)) = W2 at *
    have m1 : Is (W2.setCells g (k * 3) [.int .i64 1, .string l, .string x]) w.heap.size 31 #[.slice (some ⟨g, 0, none⟩) s.B.length c, .int .i64 s.many, .int .i64 (s.gone - 1)] := k1.cells3 (g := g) (by omega) (k * 3) (.int .i64 1) (.string l) (.string x)
    have m2 : Is (W2.setCells g (k * 3) [.int .i64 1, .string l, .string x]) (w.heap.size + 1) 31 #[.slice none 0 0, .int .i64 0, .int .i64 0] := k2.cells3 (g := g) (by omega) (k * 3) (.int .i64 1) (.string l) (.string x)
    have m3 : RowB (W2.setCells g (k * 3) [.int .i64 1, .string l, .string x]) base (some ⟨g, 0, none⟩) c (s.B.set k ⟨1, l, x⟩) := RowB.put r2 hkl ⟨1, l, x⟩
    have m4 : w.grownBy (W2.setCells g (k * 3) [.int .i64 1, .string l, .string x]) (some g) := grown_own12 hg2 (k * 3) (.int .i64 1) (.string l) (.string x)
    have HT := Lib.hid (RowB.there r2 hkl)
    have M1 := Lib.hid m1
    have M2 := Lib.hid m2
    have M3 := Lib.hid m3
    have M4 := Lib.hid m4
    clear k1 k2 r2 hg2 m1 m2 m3 m4
    go_upto_region 5 with (refine wpList_store_bkt12 rfl _ _ rfl g (k * 3) 1 l x rfl rfl HT.out ?_)
    have m1 := M1.out
    have m2 := M2.out
    have m3 := M3.out
    have m4 := M4.out
    clear M1 M2 M3 M4 HT
    generalize W2.setCells g (k * 3) [.int .i64 1, .string l, .string x] = W3 at *
    have d1 : W3.cell? ⟨w.heap.size, 1, none⟩ = some (.int .i64 s.many) := m1.cell 1
    have e1 := m1.frozen 1
    have n1 : Is (W3.setCell ⟨w.heap.size, 1, none⟩ (.int .i64 (s.many + 1))) w.heap.size 31 #[.slice (some ⟨g, 0, none⟩) s.B.length c, .int .i64 (s.many + 1), .int .i64 (s.gone - 1)] := m1.set 1 (.int .i64 (s.many + 1))
    have n2 := m2.far (p := ⟨w.heap.size, 1, none⟩) (by simp) (.int .i64 (s.many + 1))
    have n3 := RowV.far m3 (p := ⟨w.heap.size, 1, none⟩) m1 (by decide) (.int .i64 (s.many + 1))
    have n4 := grown_set12 m4 (p := ⟨w.heap.size, 1, none⟩) (Nat.le_refl _) (.int .i64 (s.many + 1))
    have z3 := Lib.hid (RowV.rowFar n3 n2 (by decide) #[.slice (some ⟨g, 0, none⟩) s.B.length c, .int .i64 (s.many + 1), .int .i64 (s.gone - 1)])
    have z4 := Lib.hid (grown_row12 n4 (g := w.heap.size + 1) (by omega) #[.slice (some ⟨g, 0, none⟩) s.B.length c, .int .i64 (s.many + 1), .int .i64 (s.gone - 1)])
    have hone : (#[.slice (some ⟨g, 0, none⟩) s.B.length c, .int .i64 (s.many + 1), .int .i64 (s.gone - 1)] : Array Value).all (·.oneCell') = true := by rw [← Array.all_toList]; rfl
    have HONE := Lib.hid hone
    clear m1 m2 m3 m4 n3 n4 hone
    go_wp2_with (first | (refine wpList_load_row rfl 31 _ rfl w.heap.size rfl _ _ _ _ n1 Try.underlying31 rfl infoSto12 ?_) | (refine wpList_store_row rfl 31 _ _ rfl (w.heap.size + 1) #[.slice (some ⟨g, 0, none⟩) s.B.length c, .int .i64 (s.many + 1), .int .i64 (s.gone - 1)] rfl rfl 31 _ n2 infoSto12 rfl HONE.out ?_))
    exact bodyPost_ret (results_cell_row Try.results47 _ _ (w.heap.size + 1) 31 _ (0, 0) _ rfl (n2.row _) Try.underlying31 rfl infoSto12) rfl ⟨by rw [HG.out], by rw [HBB.out]; have := z3.out; exact this, z4.out⟩
  · rw [if_neg h2] at HG
    have hbe : (st == 2) = false := by simpa using h2
    have m1 : Is (W1.setCells g (k * 3) [.int .i64 1, .string l, .string x]) w.heap.size 31 #[.slice (some ⟨g, 0, none⟩) s.B.length c, .int .i64 s.many, .int .i64 s.gone] := j1.cells3 (g := g) (by omega) (k * 3) (.int .i64 1) (.string l) (.string x)
    have m2 : Is (W1.setCells g (k * 3) [.int .i64 1, .string l, .string x]) (w.heap.size + 1) 31 #[.slice none 0 0, .int .i64 0, .int .i64 0] := j2.cells3 (g := g) (by omega) (k * 3) (.int .i64 1) (.string l) (.string x)
    have m3 : RowB (W1.setCells g (k * 3) [.int .i64 1, .string l, .string x]) base (some ⟨g, 0, none⟩) c (s.B.set k ⟨1, l, x⟩) := RowB.put hr1 hkl ⟨1, l, x⟩
    have m4 : w.grownBy (W1.setCells g (k * 3) [.int .i64 1, .string l, .string x]) (some g) := grown_own12 hgw (k * 3) (.int .i64 1) (.string l) (.string x)
    have HT := Lib.hid (RowB.there hr1 hkl)
    have M1 := Lib.hid m1
    have M2 := Lib.hid m2
    have M3 := Lib.hid m3
    have M4 := Lib.hid m4
    clear j1 j2 hr1 hgw m1 m2 m3 m4
    go_upto_region 5 with (refine wpList_store_bkt12 rfl _ _ rfl g (k * 3) 1 l x rfl rfl HT.out ?_)
    have m1 := M1.out
    have m2 := M2.out
    have m3 := M3.out
    have m4 := M4.out
    clear M1 M2 M3 M4 HT
    generalize W1.setCells g (k * 3) [.int .i64 1, .string l, .string x] = W3 at *
    have d1 : W3.cell? ⟨w.heap.size, 1, none⟩ = some (.int .i64 s.many) := m1.cell 1
    have e1 := m1.frozen 1
    have n1 : Is (W3.setCell ⟨w.heap.size, 1, none⟩ (.int .i64 (s.many + 1))) w.heap.size 31 #[.slice (some ⟨g, 0, none⟩) s.B.length c, .int .i64 (s.many + 1), .int .i64 s.gone] := m1.set 1 (.int .i64 (s.many + 1))
    have n2 := m2.far (p := ⟨w.heap.size, 1, none⟩) (by simp) (.int .i64 (s.many + 1))
    have n3 := RowV.far m3 (p := ⟨w.heap.size, 1, none⟩) m1 (by decide) (.int .i64 (s.many + 1))
    have n4 := grown_set12 m4 (p := ⟨w.heap.size, 1, none⟩) (Nat.le_refl _) (.int .i64 (s.many + 1))
    have z3 := Lib.hid (RowV.rowFar n3 n2 (by decide) #[.slice (some ⟨g, 0, none⟩) s.B.length c, .int .i64 (s.many + 1), .int .i64 s.gone])
    have z4 := Lib.hid (grown_row12 n4 (g := w.heap.size + 1) (by omega) #[.slice (some ⟨g, 0, none⟩) s.B.length c, .int .i64 (s.many + 1), .int .i64 s.gone])
    have hone : (#[.slice (some ⟨g, 0, none⟩) s.B.length c, .int .i64 (s.many + 1), .int .i64 s.gone] : Array Value).all (·.oneCell') = true := by rw [← Array.all_toList]; rfl
    have HONE := Lib.hid hone
    clear m1 m2 m3 m4 n3 n4 hone
    go_wp2_with (first | (refine wpList_load_row rfl 31 _ rfl w.heap.size rfl _ _ _ _ n1 Try.underlying31 rfl infoSto12 ?_) | (refine wpList_store_row rfl 31 _ _ rfl (w.heap.size + 1) #[.slice (some ⟨g, 0, none⟩) s.B.length c, .int .i64 (s.many + 1), .int .i64 s.gone] rfl rfl 31 _ n2 infoSto12 rfl HONE.out ?_))
    exact bodyPost_ret (results_cell_row Try.results47 _ _ (w.heap.size + 1) 31 _ (0, 0) _ rfl (n2.row _) Try.underlying31 rfl infoSto12) rfl ⟨by rw [HG.out], by rw [HBB.out]; have := z3.out; exact this, z4.out⟩
end Go.Proofs.Ytglcckpkbnppoaa
