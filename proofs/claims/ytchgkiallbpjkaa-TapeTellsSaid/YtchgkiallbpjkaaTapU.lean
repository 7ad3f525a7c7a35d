/-
  Contract of tape.Turn where it goes through its list. Condition: the list's numbers lie where the slice points to.
-/
import Derived.Test.YtchgkiallbpjkaaTapT
namespace Go.Proofs.Ytchgkiallbpjkaa
open Go.RowKit Go.Shelf
attribute [local go_sem] Oper.semAt_some

theorem Is.keptT {W W' : World} {g : Nat} {t : TypeId} {cs : Array Value} {row : Option Nat} (h : Is W g t cs) (hg : W.grownBy W' row) (hr : ∀ r, row = some r → ∃ o : Obj, W.heap[r]? = some o ∧ o.isCells = false) : Is W' g t cs :=
  (grownBy_keeps_cells hg hr h rfl).trans h
theorem RowD.keptT {W W' : World} {base : Nat} {A : Option Addr} {c : Nat} {L : List Int} (h : RowD W base A c L) {row : Option Nat} (hg : W.grownBy W' row) (hr : ∀ r, row = some r → ∃ o : Obj, W.heap[r]? = some o ∧ o.isCells = false) : RowD W' base A c L := by
  refine h.kept hg ?_
  rcases h.2 with ⟨h0, _⟩ | ⟨g, cap, cur, h0, _, hi, _⟩
  · rw [h0]
    exact .inl rfl
  · rw [h0]
    refine .inr fun e => ?_
    obtain ⟨o, h1, h2⟩ := hr g e.symm
    rw [hi] at h1
    cases h1
    cases h2
theorem keeps7 {W W' : World} (h : Below W.heap.size W W') : KeepsOthers W W' := ⟨h.size, fun k _ hk _ => (h.block k (Array.getElem?_eq_some_iff.1 hk).1).trans hk⟩
theorem keeps7N (W : World) (n : Nat) : KeepsOthers W (W.drewN n) := ⟨Nat.le_refl _, fun _ _ h _ => h⟩
section
variable {w W W' : World} {B : ByteArray} {a b : Int} {B7 B8 : Nat} {A' : Option Addr} {c' : Nat} {l : List Int}
theorem TurnAt.grown (h : TurnAt w B a B7 B8 A' c' l b W) {row : Option Nat} (hg : W.grownBy W' row) (hr : ∀ r, row = some r → w.heap.size ≤ r ∧ ∃ o : Obj, W.heap[r]? = some o ∧ o.isCells = false) : TurnAt w B a B7 B8 A' c' l b W' := by
  have hr2 := fun r e => (hr r e).2
  exact ⟨h.iA.keptT hg hr2, h.iS.keptT hg hr2, h.iT.keptT hg hr2, h.iE.keptT hg hr2, h.i7.keptT hg hr2, h.i8.keptT hg hr2, h.own.keptT hg hr2, h.below.grown hg h.below.size (fun k e => (hr k e).1), h.l7, h.l8⟩
theorem TurnAt.belowT (h : TurnAt w B a B7 B8 A' c' l b W) (hb : Below W.heap.size W W') : TurnAt w B a B7 B8 A' c' l b W' := h.grown (grown7 hb) (fun r e => by cases e)
theorem TurnAt.alloc (h : TurnAt w B a B7 B8 A' c' l b W) (o : Obj) : TurnAt w B a B7 B8 A' c' l b (W.alloc o) := h.grown (World.grownBy_alloc W o none) (fun r e => by cases e)
theorem TurnAt.drewN (h : TurnAt w B a B7 B8 A' c' l b W) (n : Nat) : TurnAt w B a B7 B8 A' c' l b (W.drewN n) := ⟨h.iA, h.iS, h.iT, h.iE, h.i7, h.i8, h.own, belowN h.below n, h.l7, h.l8⟩
/-- two things changed places. -/
theorem TurnAt.swap {g : Nat} (h : TurnAt w B a B7 B8 (some ⟨g, 0, none⟩) c' l b W) {i k : Nat} (hi : i < l.length) (hk : k < l.length) :
    TurnAt w B a B7 B8 (some ⟨g, 0, none⟩) c' (swpL l i k) b ((W.setCell ⟨g, i, none⟩ (.int .i64 (l.getD k 0))).setCell ⟨g, k, none⟩ (.int .i64 (l.getD i 0))) := by
  obtain ⟨g2, cur, e, hb, hI, _⟩ := h.own.open (by omega)
  injection e with e
  injection e with e
  subst e
  have two : ∀ {q : Nat} {t : TypeId} {cs : Array Value} (_ : Is W q t cs) (_ : t ≠ 3), Is ((W.setCell ⟨g, i, none⟩ (.int .i64 (l.getD k 0))).setCell ⟨g, k, none⟩ (.int .i64 (l.getD i 0))) q t cs := fun hq ht =>
    (hq.far (p := ⟨g, i, none⟩) (is_ne hq hI ht) _).far (p := ⟨g, k, none⟩) (is_ne hq hI ht) _
  have h7 := two h.i7 (by decide)
  rw [← swpL_len l i k] at h7
  exact ⟨two h.iA (by decide), two h.iS (by decide), two h.iT (by decide), two h.iE (by decide), h7, two h.i8 (by decide), h.own.swap hi hk,
    (h.below.setCell (p := ⟨g, i, none⟩) hb _).setCell (p := ⟨g, k, none⟩) hb _, h.l7, h.l8⟩
/-- the tape's rest, written. -/
theorem TurnAt.moved (h : TurnAt w B a B7 B8 A' c' l b W) (b' : Int) : TurnAt w B a B7 B8 A' c' l b' ((W.setCell ⟨B8, 0, none⟩ (.string B)).setCell ⟨B8, 1, none⟩ (.int .i64 b')) := by
  have l7 := h.l7
  have l8 := h.l8
  have two : ∀ {q : Nat} {t : TypeId} {cs : Array Value} (_ : Is W q t cs) (_ : q ≠ B8), Is ((W.setCell ⟨B8, 0, none⟩ (.string B)).setCell ⟨B8, 1, none⟩ (.int .i64 b')) q t cs := fun hq ht =>
    (hq.far (p := ⟨B8, 0, none⟩) ht _).far (p := ⟨B8, 1, none⟩) ht _
  exact ⟨two h.iA (by omega), two h.iS (by omega), two h.iT (by omega), two h.iE (by omega), two h.i7 (is_ne h.i7 h.i8 (by decide)), h.i8.pair _ _,
    (h.own.far (p := ⟨B8, 0, none⟩) h.i8 (by decide) _).far (p := ⟨B8, 1, none⟩) (h.i8.set 0 _) (by decide) _, below_pair h.below (by omega) _ _, l7, l8⟩
end
theorem keeps7R {W : World} {g : Nat} {t : TypeId} {cs : Array Value} (h : Is W g t cs) (v : Array Value) : KeepsOthers W (W.setRow g v) :=
  ⟨by simp, fun k o hk ho => (setRow_other W g k v (fun e => by subst e; rw [show W.heap[k]? = some (.cells cs t (0, 0)) from h] at hk; cases hk; cases ho)).trans hk⟩
theorem wpAnyIn_three {F : Fence} {n : Nat} {P : Program} {md : Region.Mode} {ops : Array Oper} {Q : Exit → Act → World → Prop} {a : Act} {w : World} {i j k : Nat} {fuel : Nat} {listed : Array Bool} (hr : Region.ready md ops listed = [i, j, k])
    (h : wpOpIn F n P ops Q i (wpAnyIn F n P md ops Q fuel (listed.setIfInBounds i true)) a w) (h2 : wpOpIn F n P ops Q j (wpAnyIn F n P md ops Q fuel (listed.setIfInBounds j true)) a w) (h3 : wpOpIn F n P ops Q k (wpAnyIn F n P md ops Q fuel (listed.setIfInBounds k true)) a w) :
    wpAnyIn F n P md ops Q (fuel + 1) listed a w :=
  wpAnyIn_all hr (by simp) (fun q hq => by
    rcases List.mem_cons.1 hq with rfl | hq
    · exact h
    · rcases List.mem_cons.1 hq with rfl | hq
      · exact h2
      · rw [List.mem_singleton] at hq; subst hq; exact h3)
theorem keepsSet7 (W : World) (p : Addr) (v : Value) : KeepsOthers W (W.setCell p v) := KeepsOthers.setCell _ _ _

set_option maxRecDepth 100000 in
set_option maxHeartbeats 4000000 in
theorem turn_go (B : ByteArray) (a : Int) (A : Option Addr) (cap : Nat) (L : List Int) (w : World) (hr : rightV B a = true) (hL : L.length ≤ 1000) (hc : InL w A L) :
    Calls Try.prog 19 #[.agg #[.string B, .int .i64 a], .slice A L.length cap] w fun e w' => ∃ A' c', e = .returned (.tuple #[.slice A' (turnV B a L).length c', .agg #[.string B, .int .i64 (turnA B a L)], .int .i64 (turnE B a L)]) ∧ RowD w' w.heap.size A' c' (turnV B a L) ∧ Below w.heap.size w w' := by
  have C := Lib.hid (tright_any B a)
  rw [hr] at C
  have hlen : ¬ (1000 < (L.length : Int)) := by omega
  obtain ⟨W1, hW1⟩ : ∃ W1, W1 = ((((w.alloc (.cells #[.string B, .int .i64 a] 23)).alloc (.cells #[.slice none 0 0] 24)).alloc (.cells #[.string ⟨#[]⟩, .int .i64 0] 23)).alloc (.cells #[.int .i64 0] 31)) := ⟨_, rfl⟩
  have HR := Lib.hid hr
  have HC := Lib.hid hc
  clear hr hc
  refine (callsIn_wide (n := 5)).1 ?_
  refine callsIn_of_wp_marks Try.func19 rfl trivial ?_ rfl
  simp only [Try.ntmps19, List.size_toArray, List.length_cons, List.length_nil, Nat.reduceAdd, Nat.reduceSub, Array.replicate_succ, Array.replicate_zero, List.push_toArray, List.append_toArray, List.nil_append, List.cons_append]
  rw [wpIn_wide]
  go_wp2_with fail
  rw [← hW1]
  have hB1 : Below w.heap.size w W1 := by rw [hW1]; exact ((((Below.refl _ _).alloc (Nat.le_refl _) _).alloc (by simp) _).alloc (by simp; omega) _).alloc (by simp; omega) _
  have iA1 : Is W1 w.heap.size 23 #[.string B, .int .i64 a] := by rw [hW1]; exact (((Is.new w _ _).alloc _).alloc _).alloc _
  have iS1 : Is W1 (w.heap.size + 1) 24 #[.slice none 0 0] := by rw [hW1]; exact (Is.alloc (heap_alloc2_new w _ _) _).alloc _
  have iT1 : Is W1 (w.heap.size + 1 + 1) 23 #[.string ⟨#[]⟩, .int .i64 0] := by
    have := (Is.new ((w.alloc (.cells #[.string B, .int .i64 a] 23)).alloc (.cells #[.slice none 0 0] 24)) 23 #[.string ⟨#[]⟩, .int .i64 0]).alloc (.cells #[.int .i64 0] 31)
    rw [hW1]; simpa using this
  have iE1 : Is W1 (w.heap.size + 1 + 1 + 1) 31 #[.int .i64 0] := by
    have := Is.new (((w.alloc (.cells #[.string B, .int .i64 a] 23)).alloc (.cells #[.slice none 0 0] 24)).alloc (.cells #[.string ⟨#[]⟩, .int .i64 0] 23)) 31 #[.int .i64 0]
    rw [hW1]; simpa using this
  clear hW1
  refine (C.out _).mono ?_
  rintro e W2 ⟨rfl, hb⟩
  have hB2 := hB1.trans (hb.mono hB1.size)
  have iA2 := iA1.below hb iA1.lt
  have iS2 := iS1.below hb iS1.lt
  have iT2 := iT1.below hb iT1.lt
  have iE2 := iE1.below hb iE1.lt
  have cA0 : W2.cell? ⟨w.heap.size, 0, none⟩ = some (.string B) := iA2.cell 0
  have cA1 : W2.cell? ⟨w.heap.size, 1, none⟩ = some (.int .i64 a) := iA2.cell 1
  clear hb hB1 iA1 iS1 iT1 iE1 C
  go_wp2_with fail
  refine Code.wp_mono ?_ (turn_laid B a A cap L w W2 hL HC.out iA2 iS2 iT2 iE2 hB2)
  rintro e a' W ⟨rfl, B7, B8, A', c', rfl, hT⟩
  clear iA2 iS2 iT2 iE2 hB2 cA0 cA1
  have c7 : W.cell? ⟨B7, 0, none⟩ = some (.slice A' L.length c') := hT.i7.cell 0
  go_wp2_with fail
  refine ((callsIn_wide (n := 1)).1 (places_in 1 _ _)).mono ?_
  rintro e W' ⟨rfl, rfl⟩
  go_wp2_with fail
  have hr := HR.out
  obtain ⟨g1, g2, g3⟩ := rightV_iff.1 hr
  have hT0 := hT.alloc (.cells #[.int .i64 (L.length : Int)] 3)
  have iN : Is (W.alloc (.cells #[.int .i64 (L.length : Int)] 3)) W.heap.size 3 #[.int .i64 (L.length : Int)] := Is.new W _ _
  generalize W.alloc (.cells #[.int .i64 (L.length : Int)] 3) = W0 at *
  generalize W.heap.size = BN at *
  clear c7 hT W
  have hWs := Lib.hid hT0.below.size
  rw [← wpIn_wide (n := 5)]
  refine wpIn_rangeFunc_ownF rfl (by omega) (gf := 25) (lb := #[.pointer (some ⟨BN, 0, none⟩)]) rfl trivial (enters_of Try.func25 (by kernel_rfl) rfl)
    (places_stops _ (by omega) BN L.length hL W0 iN)
    (fun _ _ => trivial) (fun _ _ _ _ _ _ _ _ => trivial) (Below.refl _ _) (fun _ => rfl)
    (fun pre W => TurnAt w B a B7 B8 A' c' (trnF B a.toNat L (pre.map Subtype.val)) (a + 2 * (pre.length : Int)) W ∧ a + 2 * (pre.length : Int) ≤ (B.size : Int))
    (fun c pre W => c = .ret ∧ (Is W (w.heap.size + 1) 24 #[.slice none 0 0] ∧ Is W (w.heap.size + 1 + 1) 23 #[.string B, .int .i64 a] ∧ Is W (w.heap.size + 1 + 1 + 1) 31 #[.int .i64 12]) ∧ Below w.heap.size w W ∧ (B.size : Int) - a < 2 * ((L.length - 1 : Nat) : Int))
    (fun s X Y row hs hg hr => ⟨hs.1.grown hg (fun r e => ⟨Nat.le_trans hWs.out (hr r e).1, (hr r e).2⟩), hs.2⟩)
    (fun c s X Y row hs hg hr => ⟨hs.1, ⟨hs.2.1.1.keptT hg (fun r e => (hr r e).2), hs.2.1.2.1.keptT hg (fun r e => (hr r e).2), hs.2.1.2.2.keptT hg (fun r e => (hr r e).2)⟩, hs.2.2.1.grown hg hs.2.2.1.size (fun k e => Nat.le_trans hWs.out (hr k e).1), hs.2.2.2⟩)
    ⟨by rw [List.length_nil, List.map_nil, trnF_nil, show a + 2 * ((0 : Nat) : Int) = a by omega]; exact hT0, by rw [List.length_nil]; omega⟩
    (fun x => { tmps := #[.agg #[.string B, .int .i64 a], .slice A L.length cap, .pointer (some ⟨w.heap.size, 0, none⟩), undef, .pointer (some ⟨w.heap.size + 1, 0, none⟩), .pointer (some ⟨w.heap.size + 1 + 1, 0, none⟩), .pointer (some ⟨w.heap.size + 1 + 1 + 1, 0, none⟩), .pointer (some ⟨B7, 0, none⟩), .pointer (some ⟨B8, 0, none⟩), .int .i64 ((x.1 : Nat) : Int), undef, undef, undef, .agg #[.string B, .int .i64 a], .bool true, .bool false, undef, .slice A L.length cap, .int .i64 (L.length : Int), .bool (decide (1000 < (L.length : Int))), undef, .slice A L.length cap, .slice A' L.length c', .agg #[.string B, .int .i64 a], .slice A' L.length c', .int .i64 (L.length : Int), .func (.func 25) #[] #[.pointer (some ⟨BN, 0, none⟩)], .int .i64 ((x.1 : Nat) : Int), undef, undef, undef, undef, undef, undef, undef, undef, undef, undef, undef, undef, undef, undef, undef, undef, undef, undef, undef], defers := [] }) ?assign ?body ?done ?stop
  case assign =>
    intro l x W K hK
    gi_wp2
    exact hK
  case body =>
    rintro l pre x W ⟨hT, hj⟩ hpl
    have hx1 : x.1 < L.length := x.2.2
    have hx0 : 1 ≤ x.1 := x.2.1
    have hTl := trnF_len B a.toNat L (pre.map Subtype.val)
    have hTs := trnF_snoc B a.toNat L (pre.map Subtype.val) x.1
    rw [List.length_map] at hTs
    have hmap : (pre ++ [x]).map Subtype.val = pre.map Subtype.val ++ [x.1] := by rw [List.map_append]; rfl
    have hpl2 : (pre ++ [x]).length = pre.length + 1 := by rw [List.length_append]; rfl
    rw [← hmap] at hTs
    obtain ⟨X, hX⟩ : ∃ X, X = x.1 := ⟨_, rfl⟩
    obtain ⟨j, hjE⟩ : ∃ j, j = pre.length := ⟨_, rfl⟩
    rw [← hX] at hx1 hx0 hTs
    rw [← hjE] at hT hj hpl hTs hpl2
    rw [← hX]
    have HX := Lib.hid hX
    have HJ := Lib.hid hjE
    clear hX hjE
    have w1i := IntWalk.i64_in ((X : Int) + 1) (by omega)
    generalize trnF B a.toNat L (pre.map Subtype.val) = T at *
    have c7 : W.cell? ⟨B7, 0, none⟩ = some (.slice A' T.length c') := hT.i7.cell 0
    have c80 : W.cell? ⟨B8, 0, none⟩ = some (.string B) := hT.i8.cell 0
    have c81 : W.cell? ⟨B8, 1, none⟩ = some (.int .i64 (a + 2 * (j : Int))) := hT.i8.cell 1
    by_cases hm : (B.size : Int) - (a + 2 * (j : Int)) < 2
    · have CN := Lib.hid (tnum_any B (a + 2 * (j : Int)) ((X : Int) + 1) W)
      rw [turn_less B a j X hr (by omega) hj hm] at CN
      gi_wp2
      refine ⟨trivial, (callsIn_wide.2 CN.out).mono ?_⟩
      rintro e W3 ⟨rfl, hb3⟩
      have hT4 := (hT.belowT hb3).alloc (.cells #[.string B, .int .i64 (a + 2 * (j : Int))] 23)
      have ko4 : KeepsOthers W (W3.alloc (.cells #[.string B, .int .i64 (a + 2 * (j : Int))] 23)) := (keeps7 hb3).trans (KeepsOthers.alloc _ _)
      clear c7 c80 c81 hb3
      gi_wp2
      have q1 : w.heap.size ≠ w.heap.size + 1 := by omega
      have q2 : w.heap.size + 1 + 1 ≠ w.heap.size + 1 := by omega
      have q3 : w.heap.size + 1 + 1 + 1 ≠ w.heap.size + 1 := by omega
      have q4 : w.heap.size + 1 + 1 + 1 ≠ w.heap.size + 1 + 1 := by omega
      have q5 : w.heap.size + 1 ≠ w.heap.size + 1 + 1 := by omega
      have q6 : w.heap.size + 1 ≠ w.heap.size + 1 + 1 + 1 := by omega
      have q7 : w.heap.size + 1 + 1 ≠ w.heap.size + 1 + 1 + 1 := by omega
      generalize W3.alloc (.cells #[.string B, .int .i64 (a + 2 * (j : Int))] 23) = W4 at *
      have vA0 := hT4.iA.drewN 1
      have vS := hT4.iS.drewN 1
      have vA1 := vA0.rowFar q1 #[.slice none 0 0]
      have vT := (hT4.iT.drewN 1).rowFar q2 #[.slice none 0 0]
      have vE := ((hT4.iE.drewN 1).rowFar q3 #[.slice none 0 0]).rowFar q4 #[.string B, .int .i64 a]
      have zS := ((vS.row #[.slice none 0 0]).rowFar q5 #[.string B, .int .i64 a]).rowFar q6 #[.int .i64 12]
      have zT := (vT.row #[.string B, .int .i64 a]).rowFar q7 #[.int .i64 12]
      have zE := vE.row #[.int .i64 12]
      have zB := belowRow (belowRow (belowRow (belowN hT4.below 1) (show w.heap.size ≤ w.heap.size + 1 by omega) #[.slice none 0 0]) (show w.heap.size ≤ w.heap.size + 1 + 1 by omega) #[.string B, .int .i64 a]) (show w.heap.size ≤ w.heap.size + 1 + 1 + 1 by omega) #[.int .i64 12]
      have zK := ((((ko4.trans (keeps7N W4 1)).trans (keeps7R vS _)).trans (keeps7R vT _)).trans (keeps7R vE #[.int .i64 12]))
      have hlt : (B.size : Int) - a < 2 * ((L.length - 1 : Nat) : Int) := by omega
      refine wpIn_mono (Q := fun e a' V => e = .normal ∧ V = (((W4.drewN 1).setRow (w.heap.size + 1) #[.slice none 0 0]).setRow (w.heap.size + 1 + 1) #[.string B, .int .i64 a]).setRow (w.heap.size + 1 + 1 + 1) #[.int .i64 12]) ?reg ?go
      case go =>
        rintro e a' V ⟨rfl, rfl⟩
        gi_wp2
        exact ⟨zK, rfl, ⟨zS, zT, zE⟩, zB, hlt⟩
      case reg =>
        refine wpIn_region_any (by kernel_rfl) ?_
        change wpAnyIn _ _ _ _ _ _ _ _ _ (W4.drewN 1)
        refine wpAnyIn_three (i := 0) (j := 1) (k := 2) (by kernel_rfl) ?_ ?_ ?_
        · refine wpOpIn_value (v := .agg #[.string B, .int .i64 a]) rfl rfl (fun c h => by cases h) rfl (run_load_rowO rfl rfl vA0 Try.underlying23 rfl infoTape) ?_
          refine wpAnyIn_two (i := 1) (j := 2) (by kernel_rfl) ?_ ?_
          · refine wpOpIn_value (v := .int .i64 12) rfl rfl (fun c h => by cases h) rfl rfl ?_
            refine wpAnyIn_one (i := 2) (by kernel_rfl) (wpOpIn_skip rfl rfl (fun c h => by cases h) rfl (run_store_oneO (v := .slice none 0 0) rfl rfl rfl vS (by kernel_rfl) rfl) ?_)
            refine wpAnyIn_one (i := 3) (by kernel_rfl) (wpOpIn_skip rfl rfl (fun c h => by cases h) rfl (run_store_rowO (cs := #[.string B, .int .i64 a]) rfl rfl rfl vT infoTape rfl (by kernel_rfl)) ?_)
            refine wpAnyIn_one (i := 4) (by kernel_rfl) (wpOpIn_skip rfl rfl (fun c h => by cases h) rfl (run_store_oneO (v := .int .i64 12) rfl rfl rfl vE (by kernel_rfl) rfl) ?_)
            refine wpAnyIn_done (by kernel_rfl) ?_ _
            exact ⟨rfl, rfl⟩
          · refine wpOpIn_skip rfl rfl (fun c h => by cases h) rfl (run_store_oneO (v := .slice none 0 0) rfl rfl rfl vS (by kernel_rfl) rfl) ?_
            refine wpAnyIn_two (i := 1) (j := 3) (by kernel_rfl) ?_ ?_
            · refine wpOpIn_value (v := .int .i64 12) rfl rfl (fun c h => by cases h) rfl rfl ?_
              refine wpAnyIn_one (i := 3) (by kernel_rfl) (wpOpIn_skip rfl rfl (fun c h => by cases h) rfl (run_store_rowO (cs := #[.string B, .int .i64 a]) rfl rfl rfl vT infoTape rfl (by kernel_rfl)) ?_)
              refine wpAnyIn_one (i := 4) (by kernel_rfl) (wpOpIn_skip rfl rfl (fun c h => by cases h) rfl (run_store_oneO (v := .int .i64 12) rfl rfl rfl vE (by kernel_rfl) rfl) ?_)
              refine wpAnyIn_done (by kernel_rfl) ?_ _
              exact ⟨rfl, rfl⟩
            · refine wpOpIn_skip rfl rfl (fun c h => by cases h) rfl (run_store_rowO (cs := #[.string B, .int .i64 a]) rfl rfl rfl vT infoTape rfl (by kernel_rfl)) ?_
              refine wpAnyIn_one (i := 1) (by kernel_rfl) (wpOpIn_value (v := .int .i64 12) rfl rfl (fun c h => by cases h) rfl rfl ?_)
              refine wpAnyIn_one (i := 4) (by kernel_rfl) (wpOpIn_skip rfl rfl (fun c h => by cases h) rfl (run_store_oneO (v := .int .i64 12) rfl rfl rfl vE (by kernel_rfl) rfl) ?_)
              refine wpAnyIn_done (by kernel_rfl) ?_ _
              exact ⟨rfl, rfl⟩
        · refine wpOpIn_value (v := .int .i64 12) rfl rfl (fun c h => by cases h) rfl rfl ?_
          refine wpAnyIn_two (i := 0) (j := 2) (by kernel_rfl) ?_ ?_
          · refine wpOpIn_value (v := .agg #[.string B, .int .i64 a]) rfl rfl (fun c h => by cases h) rfl (run_load_rowO rfl rfl vA0 Try.underlying23 rfl infoTape) ?_
            refine wpAnyIn_one (i := 2) (by kernel_rfl) (wpOpIn_skip rfl rfl (fun c h => by cases h) rfl (run_store_oneO (v := .slice none 0 0) rfl rfl rfl vS (by kernel_rfl) rfl) ?_)
            refine wpAnyIn_one (i := 3) (by kernel_rfl) (wpOpIn_skip rfl rfl (fun c h => by cases h) rfl (run_store_rowO (cs := #[.string B, .int .i64 a]) rfl rfl rfl vT infoTape rfl (by kernel_rfl)) ?_)
            refine wpAnyIn_one (i := 4) (by kernel_rfl) (wpOpIn_skip rfl rfl (fun c h => by cases h) rfl (run_store_oneO (v := .int .i64 12) rfl rfl rfl vE (by kernel_rfl) rfl) ?_)
            refine wpAnyIn_done (by kernel_rfl) ?_ _
            exact ⟨rfl, rfl⟩
          · refine wpOpIn_skip rfl rfl (fun c h => by cases h) rfl (run_store_oneO (v := .slice none 0 0) rfl rfl rfl vS (by kernel_rfl) rfl) ?_
            refine wpAnyIn_one (i := 0) (by kernel_rfl) (wpOpIn_value (v := .agg #[.string B, .int .i64 a]) rfl rfl (fun c h => by cases h) rfl (run_load_rowO rfl rfl vA1 Try.underlying23 rfl infoTape) ?_)
            refine wpAnyIn_one (i := 3) (by kernel_rfl) (wpOpIn_skip rfl rfl (fun c h => by cases h) rfl (run_store_rowO (cs := #[.string B, .int .i64 a]) rfl rfl rfl vT infoTape rfl (by kernel_rfl)) ?_)
            refine wpAnyIn_one (i := 4) (by kernel_rfl) (wpOpIn_skip rfl rfl (fun c h => by cases h) rfl (run_store_oneO (v := .int .i64 12) rfl rfl rfl vE (by kernel_rfl) rfl) ?_)
            refine wpAnyIn_done (by kernel_rfl) ?_ _
            exact ⟨rfl, rfl⟩
        · refine wpOpIn_skip rfl rfl (fun c h => by cases h) rfl (run_store_oneO (v := .slice none 0 0) rfl rfl rfl vS (by kernel_rfl) rfl) ?_
          refine wpAnyIn_two (i := 0) (j := 1) (by kernel_rfl) ?_ ?_
          · refine wpOpIn_value (v := .agg #[.string B, .int .i64 a]) rfl rfl (fun c h => by cases h) rfl (run_load_rowO rfl rfl vA1 Try.underlying23 rfl infoTape) ?_
            refine wpAnyIn_two (i := 1) (j := 3) (by kernel_rfl) ?_ ?_
            · refine wpOpIn_value (v := .int .i64 12) rfl rfl (fun c h => by cases h) rfl rfl ?_
              refine wpAnyIn_one (i := 3) (by kernel_rfl) (wpOpIn_skip rfl rfl (fun c h => by cases h) rfl (run_store_rowO (cs := #[.string B, .int .i64 a]) rfl rfl rfl vT infoTape rfl (by kernel_rfl)) ?_)
              refine wpAnyIn_one (i := 4) (by kernel_rfl) (wpOpIn_skip rfl rfl (fun c h => by cases h) rfl (run_store_oneO (v := .int .i64 12) rfl rfl rfl vE (by kernel_rfl) rfl) ?_)
              refine wpAnyIn_done (by kernel_rfl) ?_ _
              exact ⟨rfl, rfl⟩
            · refine wpOpIn_skip rfl rfl (fun c h => by cases h) rfl (run_store_rowO (cs := #[.string B, .int .i64 a]) rfl rfl rfl vT infoTape rfl (by kernel_rfl)) ?_
              refine wpAnyIn_one (i := 1) (by kernel_rfl) (wpOpIn_value (v := .int .i64 12) rfl rfl (fun c h => by cases h) rfl rfl ?_)
              refine wpAnyIn_one (i := 4) (by kernel_rfl) (wpOpIn_skip rfl rfl (fun c h => by cases h) rfl (run_store_oneO (v := .int .i64 12) rfl rfl rfl vE (by kernel_rfl) rfl) ?_)
              refine wpAnyIn_done (by kernel_rfl) ?_ _
              exact ⟨rfl, rfl⟩
          · refine wpOpIn_value (v := .int .i64 12) rfl rfl (fun c h => by cases h) rfl rfl ?_
            refine wpAnyIn_one (i := 0) (by kernel_rfl) (wpOpIn_value (v := .agg #[.string B, .int .i64 a]) rfl rfl (fun c h => by cases h) rfl (run_load_rowO rfl rfl vA1 Try.underlying23 rfl infoTape) ?_)
            refine wpAnyIn_one (i := 3) (by kernel_rfl) (wpOpIn_skip rfl rfl (fun c h => by cases h) rfl (run_store_rowO (cs := #[.string B, .int .i64 a]) rfl rfl rfl vT infoTape rfl (by kernel_rfl)) ?_)
            refine wpAnyIn_one (i := 4) (by kernel_rfl) (wpOpIn_skip rfl rfl (fun c h => by cases h) rfl (run_store_oneO (v := .int .i64 12) rfl rfl rfl vE (by kernel_rfl) rfl) ?_)
            refine wpAnyIn_done (by kernel_rfl) ?_ _
            exact ⟨rfl, rfl⟩
    · have CN := Lib.hid (tnum_any B (a + 2 * (j : Int)) ((X : Int) + 1) W)
      rw [turn_more B a j X hr (by omega) hj hm] at CN
      have hk : twoN B (a.toNat + 2 * j) % (X + 1) < T.length := by have := Nat.mod_lt (twoN B (a.toNat + 2 * j)) (show 0 < X + 1 by omega); omega
      generalize twoN B (a.toNat + 2 * j) % (X + 1) = k at *
      generalize hbE : a + 2 * ((j + 1 : Nat) : Int) = b' at *
      have hb' : b' ≤ (B.size : Int) := by omega
      have HB := Lib.hid hbE
      have HTS := Lib.hid hTs
      have hXT : X < T.length := by omega
      have HTL := Lib.hid hTl
      clear hbE hTs hTl
      obtain ⟨g, cur0, rfl, _⟩ := hT.own.open (by omega)
      gi_wp2
      refine ⟨trivial, (callsIn_wide.2 CN.out).mono ?_⟩
      rintro e W3 ⟨rfl, hb3⟩
      have hT4 := (hT.belowT hb3).alloc (.cells #[.string B, .int .i64 b'] 23)
      have ko4 : KeepsOthers W (W3.alloc (.cells #[.string B, .int .i64 b'] 23)) := (keeps7 hb3).trans (KeepsOthers.alloc _ _)
      have iD : Is (W3.alloc (.cells #[.string B, .int .i64 b'] 23)) W3.heap.size 23 #[.string B, .int .i64 b'] := Is.new W3 _ _
      have c7' : (W3.alloc (.cells #[.string B, .int .i64 b'] 23)).cell? ⟨B7, 0, none⟩ = some (.slice (some ⟨g, 0, none⟩) T.length c') := hT4.i7.cell 0
      clear c7 c80 c81 hb3
      gi_wp2
      generalize W3.alloc (.cells #[.string B, .int .i64 b'] 23) = W4 at *
      generalize W3.heap.size = D at *
      obtain ⟨g2, cur, e, hgb, hI, _, _, _, hta⟩ := hT4.own.open (by omega)
      injection e with e
      injection e with e
      subst e
      have CC := Lib.hid (change7_any g T.length c' cur X k (T.getD X 0) (T.getD k 0) W4 hI (by omega) hk (row_at hta (by omega)) (row_at hta hk))
      refine ⟨trivial, (callsIn_wide.2 CC.out).mono ?_⟩
      rintro e W5 ⟨⟨v, rfl⟩, m, rfl⟩
      have hT5 := (hT4.swap (i := X) (k := k) (by omega) hk).drewN m
      have iD5 : Is (((W4.setCell ⟨g, X, none⟩ (.int .i64 (T.getD k 0))).setCell ⟨g, k, none⟩ (.int .i64 (T.getD X 0))).drewN m) D 23 #[.string B, .int .i64 b'] := Is.drewN ((iD.far (p := ⟨g, X, none⟩) (is_ne iD hI (by decide)) _).far (p := ⟨g, k, none⟩) (is_ne iD hI (by decide)) _) m
      have ko5 : KeepsOthers W (((W4.setCell ⟨g, X, none⟩ (.int .i64 (T.getD k 0))).setCell ⟨g, k, none⟩ (.int .i64 (T.getD X 0))).drewN m) := ((ko4.trans (KeepsOthers.setCell _ _ _)).trans (KeepsOthers.setCell _ _ _)).trans (keeps7N _ _)
      generalize ((W4.setCell ⟨g, X, none⟩ (.int .i64 (T.getD k 0))).setCell ⟨g, k, none⟩ (.int .i64 (T.getD X 0))).drewN m = W5 at *
      have d0 : W5.cell? ⟨D, 0, none⟩ = some (.string B) := iD5.cell 0
      have d1 : W5.cell? ⟨D, 1, none⟩ = some (.int .i64 b') := iD5.cell 1
      have e0 : W5.cell? ⟨B8, 0, none⟩ = some (.string B) := hT5.i8.cell 0
      have e1 : W5.cell? ⟨B8, 1, none⟩ = some (.int .i64 (a + 2 * (j : Int))) := hT5.i8.cell 1
      have f0 := hT5.i8.frozen 0
      have f1 := hT5.i8.frozen 1
      have hT6 := hT5.moved b'
      clear hT4 ko4 iD hI CC CN c7'
      gi_wp2
      refine ⟨(ko5.trans (KeepsOthers.setCell _ _ _)).trans (KeepsOthers.setCell _ _ _), trivial, ?_, ?_⟩
      · rw [HTS.out, hpl2, HB.out]
        exact hT6
      · rw [hpl2, HB.out]
        omega
  case done =>
    rintro D ys W hD hys ⟨hT, hj⟩ hK
    have hyl : ys.length = L.length - 1 := by have := congrArg List.length hys; rwa [List.length_map, downN_len] at this
    rw [hys, trnF_down, hyl] at hT
    rw [hyl] at hj
    have hE : turnE B a L = 0 := by rw [turnE, if_pos hr, if_neg (by omega), leftV, if_pos hr, if_neg (by omega)]
    have hV : turnV B a L = trnL B a.toNat L (L.length - 1) := by rw [turnV, if_pos hE]
    have hA : turnA B a L = a + 2 * ((L.length - 1 : Nat) : Int) := by rw [turnA, if_pos hE]
    have HV := Lib.hid hV
    have HA := Lib.hid hA
    have HE := Lib.hid hE
    have HWD : w.heap.size ≤ D := Nat.le_trans hWs.out hD
    have HWDh := Lib.hid HWD
    generalize hZ : a + 2 * ((L.length - 1 : Nat) : Int) = Z at *
    generalize trnL B a.toNat L (L.length - 1) = T at *
    clear hV hA hE hZ hys hyl hj
    have c7 : W.cell? ⟨B7, 0, none⟩ = some (.slice A' T.length c') := hT.i7.cell 0
    have c80 : W.cell? ⟨B8, 0, none⟩ = some (.string B) := hT.i8.cell 0
    have c81 : W.cell? ⟨B8, 1, none⟩ = some (.int .i64 Z) := hT.i8.cell 1
    have iS2 := hT.iS
    have iT2 := hT.iT
    have iE2 := hT.iE
    have l7 := hT.l7
    have l8 := hT.l8
    have n1 : w.heap.size + 1 ≠ B7 := by omega
    have n2 : w.heap.size + 1 + 1 ≠ B7 := by omega
    have n3 : w.heap.size + 1 + 1 + 1 ≠ B7 := by omega
    have n4 : w.heap.size + 1 ≠ B8 := by omega
    have n5 : w.heap.size + 1 + 1 ≠ B8 := by omega
    have n6 : w.heap.size + 1 + 1 + 1 ≠ B8 := by omega
    have n1' := Ne.symm n1
    have n2' := Ne.symm n2
    have n3' := Ne.symm n3
    have n4' := Ne.symm n4
    have n5' := Ne.symm n5
    have n6' := Ne.symm n6
    have m1 : w.heap.size ≠ w.heap.size + 1 := by omega
    have m2 : w.heap.size ≠ w.heap.size + 1 + 1 := by omega
    have m3 : w.heap.size ≠ w.heap.size + 1 + 1 + 1 := by omega
    have m4 : w.heap.size + 1 ≠ w.heap.size + 1 + 1 := by omega
    have m5 : w.heap.size + 1 ≠ w.heap.size + 1 + 1 + 1 := by omega
    have m6 : w.heap.size + 1 + 1 ≠ w.heap.size + 1 + 1 + 1 := by omega
    have m1' := Ne.symm m1
    have m2' := Ne.symm m2
    have m3' := Ne.symm m3
    have m4' := Ne.symm m4
    have m5' := Ne.symm m5
    have m6' := Ne.symm m6
    have cS : W.cell? ⟨w.heap.size + 1, 0, none⟩ = some (.slice none 0 0) := iS2.cell 0
    have fS := iS2.frozen 0
    have cT0 : W.cell? ⟨w.heap.size + 1 + 1, 0, none⟩ = some (.string ⟨#[]⟩) := iT2.cell 0
    have fT0 := iT2.frozen 0
    have cT1 : W.cell? ⟨w.heap.size + 1 + 1, 1, none⟩ = some (.int .i64 0) := iT2.cell 1
    have fT1 := iT2.frozen 1
    have cE : W.cell? ⟨w.heap.size + 1 + 1 + 1, 0, none⟩ = some (.int .i64 0) := iE2.cell 0
    have fE := iE2.frozen 0
    have HTT := Lib.hid hT
    have HK := Lib.hid hK
    clear hT hK l7 l8 hD HWD
    go_wp2
    go_region_held3 (fun w' => w'.cell? ⟨B7, 0, none⟩ = some (.slice A' T.length c') ∧ w'.cell? ⟨B8, 0, none⟩ = some (.string B) ∧ w'.cell? ⟨B8, 1, none⟩ = some (.int .i64 Z)) (go_keep) (fail)
    go_wp2
    have hT := HTT.out
    have hKZ := (((((keepsSet7 W _ _).trans (keepsSet7 _ _ _)).trans (keepsSet7 _ _ _)).trans (keepsSet7 _ _ _)).trans (keeps7N (setE7 w.heap.size W (.slice A' T.length c') B Z 0) 1)).same D _ HK.out rfl
    have zS := (setE7_S hT.iS (.slice A' T.length c') B Z 0).drewN 1
    have zT := (setE7_T hT.iT (.slice A' T.length c') B Z 0).drewN 1
    have zE := (setE7_E hT.iE (.slice A' T.length c') B Z 0).drewN 1
    have zR := (setE7_row hT.own hT.iS hT.iT hT.iE (.slice A' T.length c') B Z 0).drewN 1
    have zB := belowN (setE7_below (n := w.heap.size) hT.below (by omega) (.slice A' T.length c') B Z 0) 1
    change bodyPostM _ _ _ _ _ _ _ ((setE7 w.heap.size W (.slice A' T.length c') B Z 0).drewN 1)
    generalize (setE7 w.heap.size W (.slice A' T.length c') B Z 0).drewN 1 = WZ at *
    refine ⟨by simp, .inl ⟨_, _, rfl, run_takeDeferred hKZ, ?_⟩⟩
    have hgr := grownBy_putObj' WZ D (.deferred none)
    have hrr : ∀ r, some D = some r → ∃ o : Obj, WZ.heap[r]? = some o ∧ o.isCells = false := fun r e => by cases e; exact ⟨_, hKZ, rfl⟩
    refine ⟨_, results_ccc Try.results19 _ _ _ (w.heap.size + 1) (w.heap.size + 1 + 1) (w.heap.size + 1 + 1 + 1) (.slice A' T.length c') (.int .i64 0) 24 23 31 #[.string B, .int .i64 Z] _ rfl rfl rfl (zS.keptT hgr hrr) (zT.keptT hgr hrr) (zE.keptT hgr hrr) (aggL7 _) (aggE7 _) Try.underlying23 infoTape, A', c', ?_, ?_, zB.grown hgr zB.size (fun k e => by cases e; exact HWDh.out)⟩
    · rw [HV.out, HA.out, HE.out]
    · rw [HV.out]
      exact zR.keptT hgr hrr
  case stop =>
    rintro D c pre W hD _ ⟨rfl, ⟨zS, zT, zE⟩, zB, hlt⟩ hKZ
    have hE : turnE B a L = 12 := by rw [turnE, if_pos hr, if_neg (by omega), leftV, if_pos hr, if_pos hlt]
    have hV : turnV B a L = [] := by rw [turnV, hE]; rfl
    have hA : turnA B a L = a := by rw [turnA, hE]; rfl
    have HWD : w.heap.size ≤ D := Nat.le_trans hWs.out hD
    gi_wp2
    refine ⟨by simp, .inl ⟨_, _, rfl, run_takeDeferred hKZ, ?_⟩⟩
    have hgr := grownBy_putObj' W D (.deferred none)
    have hrr : ∀ r, some D = some r → ∃ o : Obj, W.heap[r]? = some o ∧ o.isCells = false := fun r e => by cases e; exact ⟨_, hKZ, rfl⟩
    exact ⟨_, results_ccc Try.results19 _ _ _ (w.heap.size + 1) (w.heap.size + 1 + 1) (w.heap.size + 1 + 1 + 1) (.slice none 0 0) (.int .i64 12) 24 23 31 #[.string B, .int .i64 a] _ rfl rfl rfl (zS.keptT hgr hrr) (zT.keptT hgr hrr) (zE.keptT hgr hrr) (aggL7 _) (aggE7 _) Try.underlying23 infoTape, none, 0, by rw [hE, hV, hA]; rfl, by rw [hV]; exact World.ownsRow_nil _ _ _ _, zB.grown hgr zB.size (fun k e => by cases e; exact HWD)⟩
set_option maxHeartbeats 1000000 in
/-- tape.Turn, whatever it is asked. -/
theorem tturn_any (B : ByteArray) (a : Int) (A : Option Addr) (cap : Nat) (L : List Int) (w : World) (hc : InL w A L) :
    Calls Try.prog 19 #[.agg #[.string B, .int .i64 a], .slice A L.length cap] w fun e w' => ∃ A' c', e = .returned (.tuple #[.slice A' (turnV B a L).length c', .agg #[.string B, .int .i64 (turnA B a L)], .int .i64 (turnE B a L)]) ∧ RowD w' w.heap.size A' c' (turnV B a L) ∧ Below w.heap.size w w' := by
  cases hr : rightV B a with
  | false =>
    have hE : turnE B a L = 1 := by rw [turnE, hr]; rfl
    have hV : turnV B a L = [] := by rw [turnV, hE]; rfl
    have hA : turnA B a L = a := by rw [turnA, hE]; rfl
    rw [hE, hV, hA]
    exact turn_no B a A cap L w hr
  | true =>
    by_cases hl : 1000 < L.length
    · have hE : turnE B a L = 2 := by rw [turnE, if_pos hr, if_pos hl]
      have hV : turnV B a L = [] := by rw [turnV, hE]; rfl
      have hA : turnA B a L = a := by rw [turnA, hE]; rfl
      rw [hE, hV, hA]
      exact turn_long B a A cap L w hr hl
    · exact turn_go B a A cap L w hr (by omega) hc
end Go.Proofs.Ytchgkiallbpjkaa
