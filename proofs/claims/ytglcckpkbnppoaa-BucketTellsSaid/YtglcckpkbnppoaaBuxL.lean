/-
  Layer 12: rows of buckets of one's own; contracts of slices.Clone at buckets, bucket.copyOf, bucket.New. Conditions: the store lies where its slice points to.
-/
import Derived.Test.YtglcckpkbnppoaaBuxE
import Derived.Test.YtglcckpkbnppoaaGCo3
import Derived.Laws.MakeOwn
namespace Go.Proofs.Ytglcckpkbnppoaa
open Go.RowKit Go.Shelf

theorem flB_set (B : List Bkt12) (b : Bkt12) : ∀ k, flB (B.set k b) = (((flB B).set (k * 3) (.int .i64 b.st)).set (k * 3 + 1) (.string b.l)).set (k * 3 + 2) (.string b.c) := by
  induction B with
  | nil => intro k; rfl
  | cons x r ih =>
    intro k
    cases k with
    | zero => rfl
    | succ k =>
      have e : (k + 1) * 3 = k * 3 + 1 + 1 + 1 := by omega
      rw [e]
      show [Value.int .i64 x.st, .string x.l, .string x.c] ++ flB (r.set k b) = _
      rw [ih k]
      rfl
theorem take_set12 (l : List Value) (v : Value) : ∀ (n i : Nat), i < n → (l.set i v).take n = (l.take n).set i v := by
  intro n i _
  rw [List.take_set]
/-- a row of buckets of one's own. -/
abbrev RowB (W : World) (base : Nat) (A : Option Addr) (c : Nat) (B : List Bkt12) : Prop := RowV W base 25 3 A c B.length (flB B)
theorem RowB.open {W : World} {base : Nat} {A : Option Addr} {c : Nat} {B : List Bkt12} (h : RowB W base A c B) (h0 : 0 < B.length) :
    ∃ g cur, A = some ⟨g, 0, none⟩ ∧ base ≤ g ∧ Is W g 25 cur ∧ B.length ≤ c ∧ c ≤ maxLen ∧ cur.size = c * 3 ∧ cur.toList.take (B.length * 3) = flB B := by
  obtain ⟨_, hh⟩ := h
  rcases hh with ⟨_, h1⟩ | ⟨g, cap, cur, hv, hb, hg, hn, hm, hs, ht⟩
  · omega
  · cases hv
    exact ⟨g, cur, rfl, hb, hg, hn, hm, hs, ht⟩
theorem RowB.of {W : World} {base g : Nat} {c : Nat} {B : List Bkt12} {cur : Array Value} (hb : base ≤ g) (hg : Is W g 25 cur) (hn : B.length ≤ c) (hm : c ≤ maxLen) (hs : cur.size = c * 3) (ht : cur.toList.take (B.length * 3) = flB B) : RowB W base (some ⟨g, 0, none⟩) c B :=
  ⟨flB_len B, .inr ⟨g, c, cur, rfl, hb, hg, hn, hm, hs, ht⟩⟩
theorem RowB.inS {W : World} {base : Nat} {A : Option Addr} {c : Nat} {s : Sto12} (h : RowB W base A c s.B) (hf : s.B.length ≤ 4096) : InS W s A c := by
  refine ⟨RowV.inV h, fun e => ?_, ?_, by omega⟩
  · obtain ⟨_, hh⟩ := h
    rcases hh with ⟨hv, _⟩ | ⟨g, cap, cur, hv, _⟩
    · simp only [Value.slice.injEq] at hv; exact hv.2.2
    · cases hv; cases e
  · obtain ⟨_, hh⟩ := h
    rcases hh with ⟨hv, h0⟩ | ⟨g, cap, cur, hv, _, _, hn, _⟩
    · omega
    · cases hv; exact hn
/-- a bucket, laid into a row. -/
theorem setCells3 (W : World) (g o : Nat) (a b c : Value) : W.setCells g o [a, b, c] = ((W.setCell ⟨g, o, none⟩ a).setCell ⟨g, o + 1, none⟩ b).setCell ⟨g, o + 2, none⟩ c := rfl
theorem RowB.put {W : World} {base g : Nat} {c : Nat} {B : List Bkt12} (h : RowB W base (some ⟨g, 0, none⟩) c B) {k : Nat} (hk : k < B.length) (b : Bkt12) :
    RowB (W.setCells g (k * 3) [.int .i64 b.st, .string b.l, .string b.c]) base (some ⟨g, 0, none⟩) c (B.set k b) := by
  obtain ⟨g2, cur, e, hb, hg, hn, hm, hs, ht⟩ := h.open (by omega)
  cases e
  rw [setCells3]
  have h3 := ((hg.set (k * 3) (.int .i64 b.st)).set (k * 3 + 1) (.string b.l)).set (k * 3 + 2) (.string b.c)
  refine RowB.of hb h3 (by rw [List.length_set]; exact hn) hm (by simp [hs]) ?_
  rw [List.length_set, flB_set, ← ht]
  simp only [Array.toList_setIfInBounds]
  rw [take_set12 _ _ _ _ (by omega), take_set12 _ _ _ _ (by omega), take_set12 _ _ _ _ (by omega)]
theorem flB_setC (B : List Bkt12) (st : Int) (l x y : ByteArray) : ∀ k, B[k]? = some ⟨st, l, x⟩ → flB (B.set k ⟨st, l, y⟩) = (flB B).set (k * 3 + 2) (.string y) := by
  induction B with
  | nil => intro k hk; rw [List.getElem?_nil] at hk; cases hk
  | cons z r ih =>
    intro k hk
    cases k with
    | zero => cases hk; rfl
    | succ k =>
      have e : (k + 1) * 3 + 2 = k * 3 + 2 + 1 + 1 + 1 := by omega
      rw [e]
      show [Value.int .i64 z.st, .string z.l, .string z.c] ++ flB (r.set k ⟨st, l, y⟩) = _
      rw [ih k (by simpa using hk)]
      rfl
theorem RowB.cell {W : World} {base g : Nat} {c : Nat} {B : List Bkt12} (h : RowB W base (some ⟨g, 0, none⟩) c B) {k : Nat} {st : Int} {l x : ByteArray} (hk : B[k]? = some ⟨st, l, x⟩) (y : ByteArray) :
    RowB (W.setCell ⟨g, k * 3 + 2, none⟩ (.string y)) base (some ⟨g, 0, none⟩) c (B.set k ⟨st, l, y⟩) := by
  have hkl : k < B.length := (List.getElem?_eq_some_iff.1 hk).1
  obtain ⟨g2, cur, e, hb, hg, hn, hm, hs, ht⟩ := h.open (by omega)
  cases e
  refine RowB.of hb (hg.set (k * 3 + 2) (.string y)) (by rw [List.length_set]; exact hn) hm (by simp [hs]) ?_
  rw [List.length_set, flB_setC B st l x y k hk, ← ht, Array.toList_setIfInBounds, take_set12 _ _ _ _ (by omega)]
/-- its cells may be written. -/
theorem RowB.there {W : World} {base g : Nat} {c : Nat} {B : List Bkt12} (h : RowB W base (some ⟨g, 0, none⟩) c B) {k : Nat} (hk : k < B.length) : W.there g (k * 3) 3 := fun j hj => by
  obtain ⟨g2, cur, e, hb, hg, hn, hm, hs, ht⟩ := h.open (by omega)
  cases e
  refine ⟨?_, hg.frozen _⟩
  rw [hg.cell]
  rw [Array.getElem?_eq_getElem (by omega)]
  rfl
theorem Is.cells3 {W : World} {g g' : Nat} {t : TypeId} {cs : Array Value} (h : Is W g' t cs) (hne : g' ≠ g) (o : Nat) (a b c : Value) : Is (W.setCells g o [a, b, c]) g' t cs := by
  rw [setCells3]
  exact ((h.far (p := ⟨g, o, none⟩) hne a).far (p := ⟨g, o + 1, none⟩) hne b).far (p := ⟨g, o + 2, none⟩) hne c
theorem below_cells3 {B : Nat} {W0 W : World} (h : Below B W0 W) {g : Nat} (hg : B ≤ g) (o : Nat) (a b c : Value) : Below B W0 (W.setCells g o [a, b, c]) := by
  rw [setCells3]
  exact ((h.setCell (p := ⟨g, o, none⟩) hg a).setCell (p := ⟨g, o + 1, none⟩) hg b).setCell (p := ⟨g, o + 2, none⟩) hg c
theorem grown_trans12 {A B C : World} {r : Option Nat} (h : A.grownBy B r) (k : B.grownBy C r) : A.grownBy C r :=
  ⟨k.os.trans h.os, k.tape.trans h.tape, k.output.trans h.output, Nat.le_trans h.size k.size, fun i hi hne => (k.block i (Nat.lt_of_lt_of_le hi h.size) hne).trans (h.block i hi hne)⟩
theorem grown_none12 {A B : World} (h : A.grownBy B none) (r : Option Nat) : A.grownBy B r := ⟨h.os, h.tape, h.output, h.size, fun i hi _ => h.block i hi (by simp)⟩
theorem grown_below12 {A B : World} (h : Below A.heap.size A B) (r : Option Nat) : A.grownBy B r := grown_none12 (grownG h) r
/-- all but one old block, and what is new. -/
theorem grown_set12 {A B : World} {r : Option Nat} (h : A.grownBy B r) {p : Addr} (hp : A.heap.size ≤ p.block) (v : Value) : A.grownBy (B.setCell p v) r :=
  ⟨h.os, h.tape, h.output, by have := h.size; simpa [World.setCell] using this, fun i hi hne => (heap_setCell_other B p i v (by omega)).trans (h.block i hi hne)⟩
theorem grown_row12 {A B : World} {r : Option Nat} (h : A.grownBy B r) {g : Nat} (hg : A.heap.size ≤ g) (v : Array Value) : A.grownBy (B.setRow g v) r :=
  ⟨h.os, h.tape, h.output, by have := h.size; simpa using this, fun i hi hne => (setRow_other B g i v (by omega)).trans (h.block i hi hne)⟩
theorem grown_own12 {A B : World} {g : Nat} (h : A.grownBy B (some g)) (o : Nat) (a b c : Value) : A.grownBy (B.setCells g o [a, b, c]) (some g) := by
  rw [setCells3]
  refine ⟨h.os, h.tape, h.output, by have := h.size; simpa [World.setCell] using this, fun i hi hne => ?_⟩
  have hne2 : i ≠ g := fun e => hne (by rw [e])
  exact (heap_setCell_other _ _ i _ hne2).trans ((heap_setCell_other _ _ i _ hne2).trans ((heap_setCell_other _ _ i _ hne2).trans (h.block i hi hne)))

/-! ### Copies, and new ones -/
theorem infoBktz12 : (Try.prog.info? 25).map (fun i => (i.zero, i.size, i.bytes)) = some (some (.agg #[.int .i64 0, .string ⟨#[]⟩, .string ⟨#[]⟩]), 3, 40) := by kernel_rfl
set_option maxHeartbeats 2000000 in
set_option maxRecDepth 100000 in
theorem cloneB_any12 (A : Option Addr) (cap : Nat) (L : List Bkt12) (w : World) (hc : InV w A (flB L)) (hn : A = none → cap = 0) (hfit : L.length * 40 ≤ 140737488355328) :
    Calls Try.prog 57 #[.slice A L.length cap] w fun e w' => ∃ A' c', e = .returned (.slice A' L.length c') ∧ RowB w' w.heap.size A' c' L ∧ Below w.heap.size w w' := by
  obtain ⟨i0, hi, hz0, hz1, hz2⟩ := infoThree10 infoBktz12
  have q22 : ∀ (w : World) (a : Option Addr) (n c n' c' : Nat), (binOp .eql 29 (.slice a n c) (.slice none n' c')).run Try.prog w = .ok (.bool a.isNone) w := fun w a n c n' c' => Lib.run_eql_slice_nil w _ _ a n c n' c' Try.underlying29
  cases A with
  | none =>
    have h0 : L = [] := by
      have := hc.nil_of
      cases L with
      | nil => rfl
      | cons x l => cases this
    subst h0
    obtain rfl : cap = 0 := hn rfl
    go_enter Try.func57, Try.ntmps57
    go_wp2
    go_ret
    exact ⟨_, _, rfl, RowV.nil _ _ _ _, Below.refl _ _⟩
  | some p =>
    have HC := Lib.hid hc
    have HL := Lib.hid (flB_len L)
    clear hc hn
    go_enter Try.func57, Try.ntmps57
    go_wp2_with (at_builtin; refine wpList_append_own _ rfl _ _ 29 rfl w.heap.size 25 i0 (.agg #[.int .i64 0, .string ⟨#[]⟩, .string ⟨#[]⟩]) 3 40 Try.underlying29 hi hz0 hz1 hz2 rfl (by decide) _ _ _ rfl (World.ownsRow_made w #[] 0 (Nat.le_refl _) (Nat.zero_le _) rfl) p L.length cap (flB L) rfl ?qc1 ?qc2 ?qc3 ?qc4 ?qc5 ?qc6 ?_)
    case qc1 => exact HL.out
    case qc2 =>
      intro j u hj
      obtain ⟨b, off, h1, _, h2⟩ := HC.out j u hj
      cases h1
      rw [Addr.add_lit]
      exact Lib.cell?_alloc_some _ h2
    case qc3 => exact flB_one L
    case qc4 => unfold maxLen; omega
    case qc5 => omega
    case qc6 => simp
    intro v' w1 hown hgrow hnil
    obtain ⟨A', c', rfl⟩ := owns_sliceG hown
    go_wp2
    go_ret
    refine ⟨A', c', rfl, hown, ?_⟩
    exact ((Below.refl _ w).alloc (Nat.le_refl _) _).grown hgrow (by simp) (by intro k hk; simp [Value.ownBlock] at hk; omega)
theorem stoA_one12 (s : Sto12) (A : Option Addr) (c : Nat) : (stoA s A c).all (·.oneCell') = true := by
  rw [← Array.all_toList]; rfl

set_option maxHeartbeats 2000000 in
set_option maxRecDepth 100000 in
theorem copy_any12 (s : Sto12) (A : Option Addr) (c : Nat) (w : World) (h : InS w s A c) :
    Calls Try.prog 45 #[stoV s A c] w fun e w' => ∃ A1 c1, e = .returned (stoV s A1 c1) ∧ RowB w' w.heap.size A1 c1 s.B ∧ Below w.heap.size w w' := by
  have CN := Lib.hid (fun W (hb : Below w.heap.size w W) => cloneB_any12 A c s.B W (h.b.keep hb) h.nil h.fit)
  clear h
  obtain ⟨W0, hW0⟩ : ∃ W, W = (w.alloc (.cells (stoA s A c) 31)).alloc (.cells #[.slice none 0 0, .int .i64 0, .int .i64 0] 31) := ⟨_, rfl⟩
  have i1 : Is W0 w.heap.size 31 (stoA s A c) := by rw [hW0]; exact heap_alloc2_old w _ _
  have i2 : Is W0 (w.heap.size + 1) 31 #[.slice none 0 0, .int .i64 0, .int .i64 0] := by rw [hW0]; exact heap_alloc2_new w _ _
  have hB0 : Below w.heap.size w W0 := by rw [hW0]; exact ((Below.refl _ _).alloc (Nat.le_refl _) _).alloc (by simp) _
  go_enter Try.func45, Try.ntmps45
  go_wp2_with fail
  rw [← hW0]
  clear hW0
  have c0 : W0.cell? ⟨w.heap.size, 0, none⟩ = some (.slice A s.B.length c) := i1.cell 0
  go_wp2_with fail
  refine (CN.out _ hB0).mono ?_
  rintro e W1 ⟨A1, c1, rfl, hr1, hb1⟩
  have hB1 : Below w.heap.size w W1 := hB0.trans (hb1.mono hB0.size)
  have j1 := i1.below hb1 i1.lt
  have j2 := i2.below hb1 i2.lt
  have d0 : W1.cell? ⟨w.heap.size, 0, none⟩ = some (.slice A s.B.length c) := j1.cell 0
  have f0 := j1.frozen 0
  have p1 : Is (W1.setCell ⟨w.heap.size, 0, none⟩ (.slice A1 s.B.length c1)) w.heap.size 31 (stoA s A1 c1) := j1.set 0 _
  have p2 := j2.far (p := ⟨w.heap.size, 0, none⟩) (by simp) (.slice A1 s.B.length c1)
  have R1 := Lib.hid ((hr1.mono hB0.size).far (p := ⟨w.heap.size, 0, none⟩) j1 (by decide) (.slice A1 s.B.length c1))
  have Z := Lib.hid (hB1.setCell (p := ⟨w.heap.size, 0, none⟩) (Nat.le_refl _) (.slice A1 s.B.length c1))
  clear hr1 hb1 hB0 hB1 i1 i2 c0 j1 j2
  go_wp2_with (first | (refine wpList_load_row rfl 31 _ rfl w.heap.size rfl _ _ _ _ p1 Try.underlying31 rfl infoSto12 ?_) | (refine wpList_store_row rfl 31 _ _ rfl (w.heap.size + 1) (stoA s A1 c1) rfl rfl 31 _ p2 infoSto12 rfl (stoA_one12 _ _ _) ?_))
  exact bodyPost_ret (results_cell_row Try.results45 _ _ (w.heap.size + 1) 31 _ (0, 0) _ rfl (p2.row _) Try.underlying31 rfl infoSto12) rfl ⟨A1, c1, rfl, R1.out.rowFar p2 (by decide) _, belowRow Z.out (by simp) _⟩

def newV12 (n : Int) : Sto12 × Int := if size12 n then (⟨new12 n.toNat, 0, 0⟩, 0) else (⟨[], 0, 0⟩, 1)
theorem flB_new12 (n : Nat) : flB (new12 n) = (List.replicate n [Value.int .i64 0, .string ⟨#[]⟩, .string ⟨#[]⟩]).flatten := by
  induction n with
  | zero => rfl
  | succ n ih => rw [List.replicate_succ, List.flatten_cons, ← ih]; rfl
theorem made_new12 (n : Nat) : (madeCells #[Value.int .i64 0, .string ⟨#[]⟩, .string ⟨#[]⟩] (n * 3)).toList = flB (new12 n) := by
  refine List.ext_getElem? fun j => ?_
  by_cases hj : j < n * 3
  · have hk : (new12 n)[j / 3]? = some fre12 := by
      rw [new12, List.getElem?_replicate, if_pos (by omega)]
    have h1 := flB_at hk (j % 3) (by omega)
    rw [show j / 3 * 3 + j % 3 = j by omega] at h1
    rw [h1]
    have : j % 3 = 0 ∨ j % 3 = 1 ∨ j % 3 = 2 := by omega
    rw [madeCells]
    simp only [Array.toList_map, List.getElem?_map, Array.toList_range, List.getElem?_range hj, Option.map_some]
    rcases this with e | e | e <;> (simp [e]; rfl)
  · rw [List.getElem?_eq_none (by simp [madeCells]; omega), List.getElem?_eq_none (by rw [flB_len, new_len12]; omega)]
set_option maxHeartbeats 2000000 in
set_option maxRecDepth 100000 in
theorem bnew_any12 (n : Int) (w : World) :
    Calls Try.prog 11 #[.int .i64 n] w fun e w' => ∃ A c, e = .returned (.tuple #[stoV (newV12 n).1 A c, .int .i64 (newV12 n).2]) ∧ RowB w' w.heap.size A c (newV12 n).1.B ∧ Below w.heap.size w w' := by
  have HS := Lib.hid (fun W => isSize_any12 n W)
  have i0 : Is (w.alloc (.cells #[.slice none 0 0, .int .i64 0, .int .i64 0] 31)) w.heap.size 31 #[.slice none 0 0, .int .i64 0, .int .i64 0] := Is.new _ _ _
  have hB : Below w.heap.size w (w.alloc (.cells #[.slice none 0 0, .int .i64 0, .int .i64 0] 31)) := (Below.refl _ _).alloc (Nat.le_refl _) _
  cases hs : size12 n with
  | false =>
    rw [hs] at HS
    have hv : newV12 n = (⟨[], 0, 0⟩, 1) := by rw [newV12, hs]; rfl
    rw [hv]
    clear hs hv
    go_enter Try.func11, Try.ntmps11
    go_wp2_with (first | (go_at_call 31; refine (HS.out _).mono ?_; rintro e w0 ⟨rfl, rfl⟩) | (refine wpList_store_row rfl 31 _ _ rfl w.heap.size #[.slice none 0 0, .int .i64 0, .int .i64 0] rfl rfl 31 _ i0 infoSto12 rfl (by rw [← Array.all_toList]; rfl) ?_))
    exact bodyPost_ret (results_row_tmp Try.results11 _ _ w.heap.size 31 _ (0, 0) _ rfl (i0.row _) Try.underlying31 rfl infoSto12) rfl ⟨none, 0, rfl, RowV.nil _ _ _ _, belowRow hB (Nat.le_refl _) _⟩
  | true =>
    rw [hs] at HS
    have hv : newV12 n = (⟨new12 n.toNat, 0, 0⟩, 0) := by rw [newV12, hs]; rfl
    rw [hv]
    have hn := size_bd12 hs
    obtain ⟨k, rfl⟩ : ∃ k : Nat, n = (k : Int) := ⟨n.toNat, by omega⟩
    rw [Int.toNat_natCast]
    obtain ⟨it, hi, hz0, hz1, hz2⟩ := infoThree10 infoBktz12
    have hmk : ∀ W : World, (Instr.makeSlice 29 (.int .i64 (k : Int)) (.int .i64 (k : Int))).run Try.prog W = .ok (.slice (some ⟨W.heap.size, 0, none⟩) k k) (W.alloc (.cells (madeCells #[.int .i64 0, .string ⟨#[]⟩, .string ⟨#[]⟩] (k * 3)) 25)) := fun W => by
      have h1 := run_make (P := Try.prog) W 29 25 it (.agg #[.int .i64 0, .string ⟨#[]⟩, .string ⟨#[]⟩]) Try.underlying29 hi hz0 .i64 .i64 (k : Int) (k : Int) (by omega) (by omega) (by rw [hz2]; omega) (by omega)
      rw [hz1, Int.toNat_natCast] at h1
      exact h1
    have i1 := i0.alloc (.cells (madeCells #[.int .i64 0, .string ⟨#[]⟩, .string ⟨#[]⟩] (k * 3)) 25)
    have hB1 := hB.alloc (by simp) (.cells (madeCells #[.int .i64 0, .string ⟨#[]⟩, .string ⟨#[]⟩] (k * 3)) 25)
    have hR : RowB ((w.alloc (.cells #[.slice none 0 0, .int .i64 0, .int .i64 0] 31)).alloc (.cells (madeCells #[.int .i64 0, .string ⟨#[]⟩, .string ⟨#[]⟩] (k * 3)) 25)) w.heap.size (some ⟨w.heap.size + 1, 0, none⟩) k (new12 k) := by
      have hg := Is.new (w.alloc (.cells #[.slice none 0 0, .int .i64 0, .int .i64 0] 31)) 25 (madeCells #[.int .i64 0, .string ⟨#[]⟩, .string ⟨#[]⟩] (k * 3))
      rw [World.size_alloc] at hg
      refine RowB.of (by omega) hg (by rw [new_len12]; exact Nat.le_refl _) (by unfold maxLen; omega) (size_madeCells _ _) ?_
      rw [made_new12, new_len12, List.take_of_length_le (by rw [flB_len, new_len12]; exact Nat.le_refl _)]
    have hst := stoA_one12 ⟨new12 k, 0, 0⟩ (some ⟨w.heap.size + 1, 0, none⟩) k
    have hnl := new_len12 k
    simp only [stoA, hnl] at hst
    have HM := Lib.hid hmk
    clear hs hv hn hi hz0 hz1 hz2 hmk
    generalize madeCells #[.int .i64 0, .string ⟨#[]⟩, .string ⟨#[]⟩] (k * 3) = M at *
    have hmk := HM.out
    go_enter Try.func11, Try.ntmps11
    go_wp2_with (first | (go_at_call 31; refine (HS.out _).mono ?_; rintro e w0 ⟨rfl, rfl⟩) | (refine wpList_store_row rfl 31 _ _ rfl w.heap.size #[.slice (some ⟨w.heap.size + 1, 0, none⟩) k k, .int .i64 0, .int .i64 0] rfl rfl 31 _ i1 infoSto12 rfl hst ?_))
    exact bodyPost_ret (results_row_tmp Try.results11 _ _ w.heap.size 31 _ (0, 0) _ rfl (i1.row _) Try.underlying31 rfl infoSto12) rfl ⟨some ⟨w.heap.size + 1, 0, none⟩, k, by rw [stoV, stoA, hnl]; rfl, hR.rowFar i1 (by decide) _, belowRow hB1 (Nat.le_refl _) _⟩
end Go.Proofs.Ytglcckpkbnppoaa
