/-
  Contracts of the document's own Turn and Ints. Conditions: the list's numbers lie where the slice points to; a nil slice has no room.
-/
import Derived.Test.YtchgkiallbpjkaaTapN
import Derived.Test.YtchgkiallbpjkaaTapF
import Derived.Test.YtchgkiallbpjkaaTapO
import Derived.Laws.AppendOwnNone
namespace Go.Proofs.Ytchgkiallbpjkaa
open Go.RowKit Go.Shelf

theorem swpL_comm (l : List Int) (i k : Nat) : swpL l i k = swpL l k i := by
  unfold swpL
  by_cases h : i = k
  · subst h; rfl
  · exact List.set_comm _ _ h
section
variable {w W W' : World} {B : ByteArray} {a b : Int} {B8 : Nat} {A' : Option Addr} {c' : Nat} {l : List Int}
/-- where the document's turn stands. -/
structure RefAt (w : World) (B : ByteArray) (a : Int) (B8 : Nat) (A' : Option Addr) (c' : Nat) (l : List Int) (b : Int) (W : World) : Prop where
  iA : Is W w.heap.size 23 #[.string B, .int .i64 a]
  iR : Is W (w.heap.size + 1) 23 #[.string ⟨#[]⟩, .int .i64 0]
  i8 : Is W B8 23 #[.string B, .int .i64 b]
  own : RowD W w.heap.size A' c' l
  below : Below w.heap.size w W
  l8 : w.heap.size + 2 ≤ B8
theorem RefAt.belowT (h : RefAt w B a B8 A' c' l b W) (hb : Below W.heap.size W W') : RefAt w B a B8 A' c' l b W' :=
  ⟨h.iA.below hb h.iA.lt, h.iR.below hb h.iR.lt, h.i8.below hb h.i8.lt, h.own.below hb, h.below.trans (hb.mono h.below.size), h.l8⟩
theorem RefAt.alloc (h : RefAt w B a B8 A' c' l b W) (o : Obj) : RefAt w B a B8 A' c' l b (W.alloc o) := h.belowT ((Below.refl _ _).alloc (Nat.le_refl _) o)
theorem RefAt.swap {g : Nat} (h : RefAt w B a B8 (some ⟨g, 0, none⟩) c' l b W) {i k : Nat} (hi : i < l.length) (hk : k < l.length) :
    RefAt w B a B8 (some ⟨g, 0, none⟩) c' (swpL l i k) b ((W.setCell ⟨g, i, none⟩ (.int .i64 (l.getD k 0))).setCell ⟨g, k, none⟩ (.int .i64 (l.getD i 0))) := by
  obtain ⟨g2, cur, e, hb, hI, _⟩ := h.own.open (by omega)
  injection e with e
  injection e with e
  subst e
  have two : ∀ {q : Nat} {t : TypeId} {cs : Array Value} (_ : Is W q t cs) (_ : t ≠ 3), Is ((W.setCell ⟨g, i, none⟩ (.int .i64 (l.getD k 0))).setCell ⟨g, k, none⟩ (.int .i64 (l.getD i 0))) q t cs := fun hq ht =>
    (hq.far (p := ⟨g, i, none⟩) (is_ne hq hI ht) _).far (p := ⟨g, k, none⟩) (is_ne hq hI ht) _
  exact ⟨two h.iA (by decide), two h.iR (by decide), two h.i8 (by decide), h.own.swap hi hk,
    (h.below.setCell (p := ⟨g, i, none⟩) hb _).setCell (p := ⟨g, k, none⟩) hb _, h.l8⟩
theorem RefAt.moved (h : RefAt w B a B8 A' c' l b W) (b' : Int) : RefAt w B a B8 A' c' l b' ((W.setCell ⟨B8, 0, none⟩ (.string B)).setCell ⟨B8, 1, none⟩ (.int .i64 b')) := by
  have l8 := h.l8
  have two : ∀ {q : Nat} {t : TypeId} {cs : Array Value} (_ : Is W q t cs) (_ : q ≠ B8), Is ((W.setCell ⟨B8, 0, none⟩ (.string B)).setCell ⟨B8, 1, none⟩ (.int .i64 b')) q t cs := fun hq ht =>
    (hq.far (p := ⟨B8, 0, none⟩) ht _).far (p := ⟨B8, 1, none⟩) ht _
  exact ⟨two h.iA (by omega), two h.iR (by omega), h.i8.pair _ _, (h.own.far (p := ⟨B8, 0, none⟩) h.i8 (by decide) _).far (p := ⟨B8, 1, none⟩) (h.i8.set 0 _) (by decide) _, below_pair h.below (by omega) _ _, l8⟩
end

set_option maxRecDepth 100000 in
set_option maxHeartbeats 2000000 in
theorem rturn_no (B : ByteArray) (a : Int) (A : Option Addr) (cap : Nat) (L : List Int) (w : World) (hr : rightV B a = false) :
    Calls Try.prog 20 #[.agg #[.string B, .int .i64 a], .slice A L.length cap] w fun e w' => ∃ A' c', e = .returned (.tuple #[.slice A' (([] : List Int)).length c', .agg #[.string B, .int .i64 (a)], .int .i64 (1)]) ∧ RowD w' w.heap.size A' c' (([] : List Int)) ∧ Below w.heap.size w w' := by
  have C := Lib.hid (dright_any B a)
  rw [hr] at C
  obtain ⟨W1, hW1⟩ : ∃ W1, W1 = (w.alloc (.cells #[.string B, .int .i64 a] 23)).alloc (.cells #[.string ⟨#[]⟩, .int .i64 0] 23) := ⟨_, rfl⟩
  clear hr
  go_enter Try.func20, Try.ntmps20
  go_wp2_with fail
  rw [← hW1]
  have hB1 : Below w.heap.size w W1 := by rw [hW1]; exact ((Below.refl _ _).alloc (Nat.le_refl _) _).alloc (by simp) _
  have iA1 : Is W1 w.heap.size 23 #[.string B, .int .i64 a] := by rw [hW1]; exact heap_alloc2_old w _ _
  have iR1 : Is W1 (w.heap.size + 1) 23 #[.string ⟨#[]⟩, .int .i64 0] := by rw [hW1]; exact heap_alloc2_new w _ _
  clear hW1
  refine (C.out _).mono ?_
  rintro e W2 ⟨rfl, hb⟩
  have hB2 := hB1.trans (hb.mono hB1.size)
  have iA2 := iA1.below hb iA1.lt
  have iR2 := iR1.below hb iR1.lt
  clear hb hB1 iA1 iR1
  have cA0 : W2.cell? ⟨w.heap.size, 0, none⟩ = some (.string B) := iA2.cell 0
  have cA1 : W2.cell? ⟨w.heap.size, 1, none⟩ = some (.int .i64 a) := iA2.cell 1
  have cR0 : W2.cell? ⟨w.heap.size + 1, 0, none⟩ = some (.string ⟨#[]⟩) := iR2.cell 0
  have cR1 : W2.cell? ⟨w.heap.size + 1, 1, none⟩ = some (.int .i64 0) := iR2.cell 1
  have fR0 := iR2.frozen 0
  have fR1 := iR2.frozen 1
  go_wp2
  go_region_held3 (fun w' => w'.cell? ⟨w.heap.size, 0, none⟩ = some (.string B) ∧ w'.cell? ⟨w.heap.size, 1, none⟩ = some (.int .i64 a)) (go_keep) (fail)
  go_wp2
  have iZ : Is (((W2.setCell ⟨w.heap.size + 1, 0, none⟩ (.string B)).setCell ⟨w.heap.size + 1, 1, none⟩ (.int .i64 a)).drew) (w.heap.size + 1) 23 #[.string B, .int .i64 a] := (iR2.pair (.string B) (.int .i64 a)).drewN 1
  exact bodyPost_ret (results_tct Try.results20 _ _ _ (w.heap.size + 1) 23 #[.string B, .int .i64 a] (0, 0) _ rfl iZ Try.underlying23 infoTape) rfl ⟨none, 0, rfl, World.ownsRow_nil _ _ _ _, below_pairN hB2 (by omega) _ _⟩

set_option maxRecDepth 100000 in
set_option maxHeartbeats 2000000 in
theorem rturn_long (B : ByteArray) (a : Int) (A : Option Addr) (cap : Nat) (L : List Int) (w : World) (hr : rightV B a = true) (hlong : 1000 < L.length) :
    Calls Try.prog 20 #[.agg #[.string B, .int .i64 a], .slice A L.length cap] w fun e w' => ∃ A' c', e = .returned (.tuple #[.slice A' (([] : List Int)).length c', .agg #[.string B, .int .i64 (a)], .int .i64 (2)]) ∧ RowD w' w.heap.size A' c' (([] : List Int)) ∧ Below w.heap.size w w' := by
  have C := Lib.hid (dright_any B a)
  rw [hr] at C
  have hl1 : 1000 < (L.length : Int) := by omega
  obtain ⟨W1, hW1⟩ : ∃ W1, W1 = (w.alloc (.cells #[.string B, .int .i64 a] 23)).alloc (.cells #[.string ⟨#[]⟩, .int .i64 0] 23) := ⟨_, rfl⟩
  clear hr
  go_enter Try.func20, Try.ntmps20
  go_wp2_with fail
  rw [← hW1]
  have hB1 : Below w.heap.size w W1 := by rw [hW1]; exact ((Below.refl _ _).alloc (Nat.le_refl _) _).alloc (by simp) _
  have iA1 : Is W1 w.heap.size 23 #[.string B, .int .i64 a] := by rw [hW1]; exact heap_alloc2_old w _ _
  have iR1 : Is W1 (w.heap.size + 1) 23 #[.string ⟨#[]⟩, .int .i64 0] := by rw [hW1]; exact heap_alloc2_new w _ _
  clear hW1
  refine (C.out _).mono ?_
  rintro e W2 ⟨rfl, hb⟩
  have hB2 := hB1.trans (hb.mono hB1.size)
  have iA2 := iA1.below hb iA1.lt
  have iR2 := iR1.below hb iR1.lt
  clear hb hB1 iA1 iR1
  have cA0 : W2.cell? ⟨w.heap.size, 0, none⟩ = some (.string B) := iA2.cell 0
  have cA1 : W2.cell? ⟨w.heap.size, 1, none⟩ = some (.int .i64 a) := iA2.cell 1
  have cR0 : W2.cell? ⟨w.heap.size + 1, 0, none⟩ = some (.string ⟨#[]⟩) := iR2.cell 0
  have cR1 : W2.cell? ⟨w.heap.size + 1, 1, none⟩ = some (.int .i64 0) := iR2.cell 1
  have fR0 := iR2.frozen 0
  have fR1 := iR2.frozen 1
  go_wp2
  go_region_held3 (fun w' => w'.cell? ⟨w.heap.size, 0, none⟩ = some (.string B) ∧ w'.cell? ⟨w.heap.size, 1, none⟩ = some (.int .i64 a)) (go_keep) (fail)
  go_wp2
  have iZ : Is (((W2.setCell ⟨w.heap.size + 1, 0, none⟩ (.string B)).setCell ⟨w.heap.size + 1, 1, none⟩ (.int .i64 a)).drew) (w.heap.size + 1) 23 #[.string B, .int .i64 a] := (iR2.pair (.string B) (.int .i64 a)).drewN 1
  exact bodyPost_ret (results_tct Try.results20 _ _ _ (w.heap.size + 1) 23 #[.string B, .int .i64 a] (0, 0) _ rfl iZ Try.underlying23 infoTape) rfl ⟨none, 0, rfl, World.ownsRow_nil _ _ _ _, below_pairN hB2 (by omega) _ _⟩

/-- nothing, and a list behind it. -/
theorem wpList_append7 {w : World} {ops : Array Oper} {rest : List Oper} {o : Oper} {a : Act} {Q : Exit → Act → World → Prop} (hgd : o.guard = none) (s x : Operand)
    (ho : o.op = .call { callee := .builtin .append, args := #[s, x], argTypes := #[24, 24] }) (A : Option Addr) (cap : Nat) (L : List Int) (hL : L.length ≤ 1000) (hc : InL w A L) (hn : A = none → cap = 0)
    (hs : a.eval s = .slice none 0 0 ∧ a.eval x = .slice A L.length cap) (base : Nat) (hb : base ≤ w.heap.size)
    (h : ∀ A' c' w', w'.ownsRow base 3 1 (.slice A' L.length c') L.length (iL L) → Below w.heap.size w w' → wpList Try.prog ops Q rest (a.put o.dst (.slice A' L.length c')) w') : wpList Try.prog ops Q (o :: rest) a w := by
  obtain ⟨i0, hi, hz0, hz1, hz2⟩ := info_parts infoInt7
  cases A with
  | none =>
    obtain rfl : L = [] := by
      cases L with
      | nil => rfl
      | cons x l => obtain ⟨b, off, h, _⟩ := hc 0 (by simp); cases h
    obtain rfl : cap = 0 := hn rfl
    exact wpList_append_own_none hgd s x 24 ho base 3 i0 1 Try.underlying24 hi (.slice none 0 0) 0 [] hs.1 (World.ownsRow_nil _ _ _ _) hs.2 (h none 0 w (World.ownsRow_nil _ _ _ _) (Below.refl _ _))
  | some p =>
    refine wpList_append_own w hgd s x 24 ho base 3 i0 (.int .i64 0) 1 8 Try.underlying24 hi hz0 hz1 hz2 rfl (by decide) (.slice none 0 0) 0 [] hs.1 (World.ownsRow_nil _ _ _ _) p L.length cap (iL L) hs.2 (by simp) (fun j u hj => ?_) (fun u hu => by obtain ⟨x, _, rfl⟩ := List.mem_map.1 hu; rfl) (by unfold maxLen; omega) (by omega) hb ?_
    · have hjn : j < L.length := by
        have := (List.getElem?_eq_some_iff.1 hj).1
        simpa using this
      obtain ⟨b, off, h1, _, h2⟩ := hc j hjn
      cases h1
      rw [Addr.add_lit, h2]
      rw [List.getElem?_map, List.getElem?_eq_getElem hjn] at hj
      rw [List.getD_eq_getElem?_getD, List.getElem?_eq_getElem hjn]
      exact hj
    · intro v' w1 hown hgrow _
      obtain ⟨A', c', rfl⟩ := owns_slice7 hown
      rw [Nat.zero_add] at hown ⊢
      exact h A' c' w1 hown ((Below.refl _ w).grown hgrow (Nat.le_refl _) (fun k e => by cases e))

set_option maxRecDepth 100000 in
set_option maxHeartbeats 4000000 in
theorem rturn_go (B : ByteArray) (a : Int) (A : Option Addr) (cap : Nat) (L : List Int) (w : World) (hr : rightV B a = true) (hL : L.length ≤ 1000) (hc : InL w A L) (hn : A = none → cap = 0) :
    Calls Try.prog 20 #[.agg #[.string B, .int .i64 a], .slice A L.length cap] w fun e w' => ∃ A' c', e = .returned (.tuple #[.slice A' (turnV B a L).length c', .agg #[.string B, .int .i64 (turnA B a L)], .int .i64 (turnE B a L)]) ∧ RowD w' w.heap.size A' c' (turnV B a L) ∧ Below w.heap.size w w' := by
  obtain ⟨i0, hi, hz0, hz1, hz2⟩ := info_parts infoInt7
  have C := Lib.hid (dright_any B a)
  rw [hr] at C
  have hlen : ¬ (1000 < (L.length : Int)) := by omega
  obtain ⟨W1, hW1⟩ : ∃ W1, W1 = (w.alloc (.cells #[.string B, .int .i64 a] 23)).alloc (.cells #[.string ⟨#[]⟩, .int .i64 0] 23) := ⟨_, rfl⟩
  have HR := Lib.hid hr
  have HC := Lib.hid (fun W (hb : Below w.heap.size w W) => hc.keep hb)
  have wl := IntWalk.i64_in ((L.length : Int) - 1) (by omega)
  have HN0 := Lib.hid (show A = none → L = [] from fun e => by
    cases L with
    | nil => rfl
    | cons x l => obtain ⟨b, off, h, _⟩ := hc 0 (by simp); rw [e] at h; cases h)
  clear hr hc
  go_enter Try.func20, Try.ntmps20
  go_wp2_with fail
  rw [← hW1]
  have hB1 : Below w.heap.size w W1 := by rw [hW1]; exact ((Below.refl _ _).alloc (Nat.le_refl _) _).alloc (by simp) _
  have iA1 : Is W1 w.heap.size 23 #[.string B, .int .i64 a] := by rw [hW1]; exact heap_alloc2_old w _ _
  have iR1 : Is W1 (w.heap.size + 1) 23 #[.string ⟨#[]⟩, .int .i64 0] := by rw [hW1]; exact heap_alloc2_new w _ _
  clear hW1
  refine (C.out _).mono ?_
  rintro e W2 ⟨rfl, hb⟩
  have hB2 := hB1.trans (hb.mono hB1.size)
  have iA2 := iA1.below hb iA1.lt
  have iR2 := iR1.below hb iR1.lt
  clear hb hB1 iA1 iR1
  have cA0 : W2.cell? ⟨w.heap.size, 0, none⟩ = some (.string B) := iA2.cell 0
  have cA1 : W2.cell? ⟨w.heap.size, 1, none⟩ = some (.int .i64 a) := iA2.cell 1
  have cR0 : W2.cell? ⟨w.heap.size + 1, 0, none⟩ = some (.string ⟨#[]⟩) := iR2.cell 0
  have cR1 : W2.cell? ⟨w.heap.size + 1, 1, none⟩ = some (.int .i64 0) := iR2.cell 1
  have fR0 := iR2.frozen 0
  have fR1 := iR2.frozen 1
  have START : ∀ (W : World) (A' : Option Addr) (c' : Nat), Is W w.heap.size 23 #[.string B, .int .i64 a] → Is W (w.heap.size + 1) 23 #[.string ⟨#[]⟩, .int .i64 0] → RowD W w.heap.size A' c' L → Below w.heap.size w W →
      RefAt w B a W.heap.size A' c' L a (W.alloc (.cells #[.string B, .int .i64 a] 23)) := fun W A' c' h1 h2 h3 h4 =>
    ⟨h1.alloc _, h2.alloc _, Is.new _ _ _, h3.grown (World.grownBy_alloc W _ none) (fun r e => by cases e), h4.alloc h4.size _, by have := h2.lt; omega⟩
  go_wp2_with (at_builtin; refine wpList_append7 rfl _ _ rfl A cap L hL (HC.out W2 hB2) hn ⟨rfl, rfl⟩ w.heap.size hB2.size ?_; intro A' c' W3 hown hb3; have e0 : W3.cell? ⟨w.heap.size, 0, none⟩ = some (.string B) := (iA2.below hb3 iA2.lt).cell 0; have e1 : W3.cell? ⟨w.heap.size, 1, none⟩ = some (.int .i64 a) := (iA2.below hb3 iA2.lt).cell 1)
  have hT := START W3 A' c' (iA2.below hb3 iA2.lt) (iR2.below hb3 iR2.lt) hown (hB2.trans (hb3.mono hB2.size))
  clear START hown hb3 iA2 iR2 hB2 cA0 cA1 cR0 cR1 fR0 fR1 e0 e1
  have hr := HR.out
  obtain ⟨g1, g2, g3⟩ := rightV_iff.1 hr
  generalize W3.alloc (.cells #[.string B, .int .i64 a] 23) = W4 at *
  generalize W3.heap.size = B8 at *
  go_loopw [9] (fun i wr => ∃ k : Nat, k ≤ L.length - 1 ∧ i = .int .i64 ((L.length : Int) - 1 - (k : Int)) ∧ RefAt w B a B8 A' c' (trnL B a.toNat L k) (a + 2 * (k : Int)) wr ∧ a + 2 * (k : Int) ≤ (B.size : Int))
    (fun i _ => (intOf i).toNat)
  case atStart => exact ⟨0, by omega, by simp, by rw [show a + 2 * ((0 : Nat) : Int) = a by omega]; exact hT, by omega⟩
  case round =>
    clear hT
    obtain ⟨k, hk, rfl, hT, hj⟩ := hrel
    have hTl := trnL_len B a.toNat L k
    by_cases hlt : k < L.length - 1
    · obtain ⟨X, hX⟩ : ∃ X : Nat, (L.length : Int) - 1 - (k : Int) = (X : Int) := ⟨L.length - 1 - k, by omega⟩
      have hXe : L.length - 1 - k = X := by omega
      rw [hX]
      have hTs : trnL B a.toNat L (k + 1) = swpL (trnL B a.toNat L k) X (twoN B (a.toNat + 2 * k) % (X + 1)) := by rw [trnL, hXe]
      have hX0 : (1 : Int) ≤ (X : Int) := by omega
      have hX1 : X < L.length := by omega
      have HX := Lib.hid hX
      have w1i := IntWalk.i64_in ((X : Int) + 1) (by omega)
      have w2i := IntWalk.i64_in ((X : Int) - 1) (by omega)
      generalize trnL B a.toNat L k = T at *
      have HTL := Lib.hid hTl
      have hXT : X < T.length := by omega
      have cA0 : wr.cell? ⟨w.heap.size, 0, none⟩ = some (.string B) := hT.iA.cell 0
      have c80 : wr.cell? ⟨B8, 0, none⟩ = some (.string B) := hT.i8.cell 0
      have c81 : wr.cell? ⟨B8, 1, none⟩ = some (.int .i64 (a + 2 * (k : Int))) := hT.i8.cell 1
      by_cases hm : (B.size : Int) - (a + 2 * (k : Int)) < 2
      · have CN := Lib.hid (dnum_any B (a + 2 * (k : Int)) ((X : Int) + 1) wr)
        rw [turn_less B a k X hr (by omega) hj hm] at CN
        have hlt2 : (B.size : Int) - a < 2 * ((L.length - 1 : Nat) : Int) := by omega
        have HLT := Lib.hid hlt2
        clear hlt2 hX hXe hTs hTl
        go_wp2_with fail
        refine CN.out.mono ?_
        rintro e W5 ⟨rfl, hb⟩
        have hT5 := (hT.belowT hb).alloc (.cells #[.string B, .int .i64 (a + 2 * (k : Int))] 23)
        have hD : B8 < W5.heap.size := (hT.belowT hb).i8.lt
        clear cA0 c80 c81 hT hb CN
        go_wp2
        generalize W5.alloc (.cells #[.string B, .int .i64 (a + 2 * (k : Int))] 23) = W6 at *
        have iR6 := hT5.iR
        have cA0 : W6.cell? ⟨w.heap.size, 0, none⟩ = some (.string B) := hT5.iA.cell 0
        have cA1 : W6.cell? ⟨w.heap.size, 1, none⟩ = some (.int .i64 a) := hT5.iA.cell 1
        have cR0 : W6.cell? ⟨w.heap.size + 1, 0, none⟩ = some (.string ⟨#[]⟩) := hT5.iR.cell 0
        have cR1 : W6.cell? ⟨w.heap.size + 1, 1, none⟩ = some (.int .i64 0) := hT5.iR.cell 1
        have fR0 := hT5.iR.frozen 0
        have fR1 := hT5.iR.frozen 1
        have hB6 := hT5.below
        have hE : turnE B a L = 12 := by rw [turnE, if_pos hr, if_neg (by omega), leftV, if_pos hr, if_pos HLT.out]
        have hV : turnV B a L = [] := by rw [turnV, hE]; rfl
        have hA : turnA B a L = a := by rw [turnA, hE]; rfl
        have HE := Lib.hid hE
        have HV := Lib.hid hV
        have HA := Lib.hid hA
        clear hE hV hA hT5
        go_region_held3 (fun w' => w'.cell? ⟨w.heap.size, 0, none⟩ = some (.string B) ∧ w'.cell? ⟨w.heap.size, 1, none⟩ = some (.int .i64 a)) (go_keep) (fail)
        go_wp2
        have iZ : Is (((W6.setCell ⟨w.heap.size + 1, 0, none⟩ (.string B)).setCell ⟨w.heap.size + 1, 1, none⟩ (.int .i64 a)).drew) (w.heap.size + 1) 23 #[.string B, .int .i64 a] := (iR6.pair (.string B) (.int .i64 a)).drewN 1
        exact bodyPost_ret (results_tct Try.results20 _ _ _ (w.heap.size + 1) 23 #[.string B, .int .i64 a] (0, 0) _ rfl iZ Try.underlying23 infoTape) rfl ⟨none, 0, by rw [HE.out, HV.out, HA.out]; rfl, by rw [HV.out]; exact World.ownsRow_nil _ _ _ _, below_pairN hB6 (by omega) _ _⟩
      · have CN := Lib.hid (dnum_any B (a + 2 * (k : Int)) ((X : Int) + 1) wr)
        rw [turn_more B a k X hr (by omega) hj hm] at CN
        have hq : twoN B (a.toNat + 2 * k) % (X + 1) < T.length := by have := Nat.mod_lt (twoN B (a.toNat + 2 * k)) (show 0 < X + 1 by omega); omega
        generalize twoN B (a.toNat + 2 * k) % (X + 1) = q at *
        generalize hbE : a + 2 * ((k + 1 : Nat) : Int) = b' at *
        have hb' : b' ≤ (B.size : Int) := by omega
        have HB := Lib.hid hbE
        rw [swpL_comm] at hTs
        have HTS := Lib.hid hTs
        have hqL : q < L.length := by omega
        have hqi : (q : Int) < (L.length : Int) := by omega
        have hXi : (X : Int) < (L.length : Int) := by omega
        have hk1 : k + 1 ≤ L.length - 1 := by omega
        clear hbE hTs hTl hX hXe
        obtain ⟨g, cur0, rfl, _⟩ := hT.own.open (by omega)
        go_wp2_with fail
        refine CN.out.mono ?_
        rintro e W5 ⟨rfl, hb⟩
        have hTA := (hT.belowT hb).alloc (.cells #[.string B, .int .i64 b'] 23)
        have iD : Is (W5.alloc (.cells #[.string B, .int .i64 b'] 23)) W5.heap.size 23 #[.string B, .int .i64 b'] := Is.new W5 _ _
        have d0 : (W5.alloc (.cells #[.string B, .int .i64 b'] 23)).cell? ⟨W5.heap.size, 0, none⟩ = some (.string B) := iD.cell 0
        have d1 : (W5.alloc (.cells #[.string B, .int .i64 b'] 23)).cell? ⟨W5.heap.size, 1, none⟩ = some (.int .i64 b') := iD.cell 1
        have e0 : (W5.alloc (.cells #[.string B, .int .i64 b'] 23)).cell? ⟨B8, 0, none⟩ = some (.string B) := hTA.i8.cell 0
        have e1 : (W5.alloc (.cells #[.string B, .int .i64 b'] 23)).cell? ⟨B8, 1, none⟩ = some (.int .i64 (a + 2 * (k : Int))) := hTA.i8.cell 1
        have f0 := hTA.i8.frozen 0
        have f1 := hTA.i8.frozen 1
        have hTB := hTA.moved b'
        obtain ⟨g2, cur, e, hgb, hI, _, _, _, hta⟩ := hTB.own.open (by omega)
        injection e with e
        injection e with e
        subst e
        have ck := (hI.cell q).trans (row_at hta hq)
        have cX := (hI.cell X).trans (row_at hta hXT)
        have fk := hI.frozen q
        have fX := hI.frozen X
        have hI2 := hI.set q (.int .i64 (T.getD X 0))
        have cX2 : _ = some (Value.int .i64 (T.getD X 0)) := (hI2.cell X).trans (by
          rw [Array.getElem?_setIfInBounds]
          split
          · rename_i e; subst e; rw [if_pos (Array.getElem?_eq_some_iff.1 (row_at hta hq)).1]
          · exact row_at hta hXT)
        have fX2 := hI2.frozen X
        have hTC := hTB.swap (i := q) (k := X) hq hXT
        generalize T.getD X 0 = tx at *
        generalize T.getD q 0 = tq at *
        clear cA0 c80 c81 hT hb CN hTA hTB iD hI hI2
        go_wp2
        go_roundw
        case rel => exact ⟨k + 1, hk1, by rw [show (L.length : Int) - 1 - ((k + 1 : Nat) : Int) = (X : Int) - 1 by have := HX.out; omega], by rw [HTS.out, HB.out]; exact hTC, by rw [HB.out]; exact hb'⟩
        case measure => simp [intOf]; omega
    · obtain rfl : k = L.length - 1 := by omega
      have hl1 : ¬ (1 : Int) ≤ (L.length : Int) - 1 - ((L.length - 1 : Nat) : Int) := by omega
      have hE : turnE B a L = 0 := by rw [turnE, if_pos hr, if_neg (by omega), leftV, if_pos hr, if_neg (by omega)]
      have hV : turnV B a L = trnL B a.toNat L (L.length - 1) := by rw [turnV, if_pos hE]
      have hA : turnA B a L = a + 2 * ((L.length - 1 : Nat) : Int) := by rw [turnA, if_pos hE]
      have HV := Lib.hid hV
      have HA := Lib.hid hA
      have HE := Lib.hid hE
      have HLL := Lib.hid hTl
      generalize hZ : a + 2 * ((L.length - 1 : Nat) : Int) = Z at *
      generalize trnL B a.toNat L (L.length - 1) = T at *
      clear hV hA hE hZ hj hTl
      have c80 : wr.cell? ⟨B8, 0, none⟩ = some (.string B) := hT.i8.cell 0
      have c81 : wr.cell? ⟨B8, 1, none⟩ = some (.int .i64 Z) := hT.i8.cell 1
      have iR6 := hT.iR
      have l8 := hT.l8
      have cR0 : wr.cell? ⟨w.heap.size + 1, 0, none⟩ = some (.string ⟨#[]⟩) := hT.iR.cell 0
      have cR1 : wr.cell? ⟨w.heap.size + 1, 1, none⟩ = some (.int .i64 0) := hT.iR.cell 1
      have fR0 := hT.iR.frozen 0
      have fR1 := hT.iR.frozen 1
      have hB6 := hT.below
      have n8 : w.heap.size + 1 ≠ B8 := by omega
      have n8' := Ne.symm n8
      have hO : RowD (((wr.setCell ⟨w.heap.size + 1, 0, none⟩ (.string B)).setCell ⟨w.heap.size + 1, 1, none⟩ (.int .i64 Z)).drewN 1) w.heap.size A' c' T := ((hT.own.far (p := ⟨w.heap.size + 1, 0, none⟩) hT.iR (by decide) _).far (p := ⟨w.heap.size + 1, 1, none⟩) (hT.iR.set 0 _) (by decide) _).drewN 1
      clear hT l8
      go_wp2
      go_region_held3 (fun w' => w'.cell? ⟨B8, 0, none⟩ = some (.string B) ∧ w'.cell? ⟨B8, 1, none⟩ = some (.int .i64 Z)) (go_keep) (fail)
      go_wp2
      have iZ : Is (((wr.setCell ⟨w.heap.size + 1, 0, none⟩ (.string B)).setCell ⟨w.heap.size + 1, 1, none⟩ (.int .i64 Z)).drew) (w.heap.size + 1) 23 #[.string B, .int .i64 Z] := (iR6.pair (.string B) (.int .i64 Z)).drewN 1
      exact bodyPost_ret (results_tct Try.results20 _ _ _ (w.heap.size + 1) 23 #[.string B, .int .i64 Z] (0, 0) _ rfl iZ Try.underlying23 infoTape) rfl ⟨A', c', by rw [HE.out, HV.out, HA.out, HLL.out]; rfl, by rw [HV.out]; exact hO, below_pairN hB6 (by omega) _ _⟩
end Go.Proofs.Ytchgkiallbpjkaa
