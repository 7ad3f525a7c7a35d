/-
  Contracts of codec.firstList, where its number is taken. Condition: bytes that a right cursor may have.
-/
import Derived.Test.YtapfbcpbiagogaaCodV
import Derived.Test.YtapfbcpbiagogaaKitInR
import Derived.Lib.OthersKept
import Derived.RangeFuncFrom
namespace Go.Proofs.Ytapfbcpbiagogaa
open Go.RowKit Go.Shelf
attribute [local go_sem] Oper.semAt_some

theorem infoTxt10 : (Try.prog.info? 9).map (fun i => (i.zero, i.size, i.bytes)) = some (some (.string ⟨#[]⟩), 1, 16) := by kernel_rfl

/-- a row with room for N texts, of which the first ones are laid. -/
def Row10 (W : World) (g N : Nat) (l : List ByteArray) : Prop := ∃ cur : Array Value, Is W g 9 cur ∧ cur.size = N ∧ cur.toList.take l.length = tL10 l
section
variable {W W' : World} {g N : Nat} {l : List ByteArray}
theorem Row10.keep (h : Row10 W g N l) {row : Option Nat} (hg : W.grownBy W' row) (hr : row ≠ some g) : Row10 W' g N l := by
  obtain ⟨cur, h1, h2, h3⟩ := h
  exact ⟨cur, (hg.block g h1.lt (fun e => hr e.symm)).trans h1, h2, h3⟩
theorem Row10.keepT (h : Row10 W g N l) {row : Option Nat} (hg : W.grownBy W' row) (hr : ∀ r, row = some r → ∃ o : Obj, W.heap[r]? = some o ∧ o.isCells = false) : Row10 W' g N l := by
  obtain ⟨cur, h1, h2, h3⟩ := h
  exact ⟨cur, (grownBy_keeps_cells hg hr h1 rfl).trans h1, h2, h3⟩
theorem Row10.lt (h : Row10 W g N l) : g < W.heap.size := by obtain ⟨cur, h1, _⟩ := h; exact h1.lt
theorem Row10.far (h : Row10 W g N l) {p : Addr} (hp : g ≠ p.block) (v : Value) : Row10 (W.setCell p v) g N l := h.keep (grownSetG W p v) (fun e => hp (Option.some.inj e).symm)
theorem Row10.made {base : Nat} (h : W.ownsRow base 9 1 (.slice (some ⟨g, 0, none⟩) 0 N) 0 []) : Row10 W g N [] := by
  rcases h.2 with ⟨h0, _⟩ | ⟨g2, cap, cur, h0, _, hg, _, _, hs, _⟩
  · cases h0
  · injection h0 with e1 _ e2
    cases e1; cases e2
    exact ⟨cur, hg, by omega, rfl⟩
theorem Row10.inV (h : Row10 W g N l) : InV W (some ⟨g, 0, none⟩) (tL10 l) := fun j u hj => by
  obtain ⟨cur, h1, h2, h3⟩ := h
  have hjl : j < l.length := by have := (List.getElem?_eq_some_iff.1 hj).1; rwa [List.length_map] at this
  refine ⟨g, 0, rfl, h1.lt, ?_⟩
  rw [Nat.zero_add, h1.cell, ← hj, ← h3, List.getElem?_take, if_pos hjl, Array.getElem?_toList]
/-- one text more, where there is room. -/
theorem Row10.push (h : Row10 W g N l) (hN : l.length < N) {b : Nat} {x : ByteArray} (hb : W.cell? ⟨b, 0, none⟩ = some (.string x)) :
    ∃ cs, (Builtin.append_ #[24, 24] 24 #[.slice (some ⟨g, 0, none⟩) l.length N, .slice (some ⟨b, 0, none⟩) 1 1]).run Try.prog W = .ok (.slice (some ⟨g, 0, none⟩) (l.length + 1) N) (W.setRow g cs) ∧ Row10 (W.setRow g cs) g N (l ++ [x]) := by
  obtain ⟨i0, hi, hz0, hz1, hz2⟩ := info_parts infoTxt10
  obtain ⟨cur, h1, h2, h3⟩ := h
  refine ⟨_, run_append_room (P := Try.prog) W 24 24 9 i0 Try.underlying24 hi g l.length N cur h1 ⟨b, 0, none⟩ 1 1 [.string x] (by rw [hz1]; rfl) (fun j u hj => by
      cases j with
      | zero => cases hj; rw [Addr.add_lit]; exact hb
      | succ j => cases hj) (fun u hu => by rw [List.mem_singleton] at hu; subst hu; rfl) (by omega) (by rw [hz1, h2]; simp; omega), _, h1.row _, ?_, ?_⟩
  · simp only [List.size_toArray, List.length_append, List.length_take, List.length_drop, Array.length_toList, hz1, h2, List.length_cons, List.length_nil]
    omega
  · rw [hz1, Nat.mul_one, h3, List.length_append, List.length_singleton, List.append_assoc, show (tL10 l ++ ([Value.string x] ++ List.drop (l.length + [Value.string x].length) cur.toList)) = (tL10 (l ++ [x])) ++ List.drop (l.length + [Value.string x].length) cur.toList by simp]
    exact List.take_left' (by simp)
end
/-- append, where it is known what it comes to. -/
theorem wpListIn_append10 {F : Fence} {n : Nat} {P : Program} {ops : Array Oper} {rest : List Oper} {o : Oper} {a : Act} {Q : Exit → Act → World → Prop} {w w' : World} (hgd : o.guard = none) (s x : Operand) (t : TypeId)
    (ho : o.op = .call { callee := .builtin .append, args := #[s, x], argTypes := #[t, t] }) {v u r : Value} (hs : a.eval s = v) (hx : a.eval x = u) (hr : (Builtin.append_ #[t, t] o.type #[v, u]).run P w = .ok r w')
    (h : wpListIn F n P ops Q rest (a.put o.dst r) w') : wpListIn F n P ops Q (o :: rest) a w := by
  refine wpListIn_plain hgd fun K hK => ?_
  unfold Oper.wpIn
  refine ⟨?_, ?_⟩
  · simp [Oper.about, ho, resolve, Target.leads, Sem.run_pure]
  · rw [Oper.semAt_plain F _ _ (by rw [ho]; intro c hc'; cases hc')]
    simp [execOp, ho, resolve, invoke, builtin, hs, hx, hr, Result.andThen]
    exact hK _ _ h
theorem isOwn10 {B : Nat} {g : Nat} {t : TypeId} {cs : Array Value} {X Y : World} {row : Option Nat} (h : Is X g t cs) (hg : X.grownBy Y row) (hr : ∀ r, row = some r → B ≤ r ∧ ∃ o : Obj, X.heap[r]? = some o ∧ o.isCells = false) : Is Y g t cs :=
  (grownBy_keeps_cells hg (fun r e => (hr r e).2) h rfl).trans h
theorem belowOwn10 {n B : Nat} {w X Y : World} {row : Option Nat} (h : Below n w X) (hx : n ≤ X.heap.size) (hn : n ≤ B) (hg : X.grownBy Y row) (hr : ∀ r, row = some r → B ≤ r ∧ ∃ o : Obj, X.heap[r]? = some o ∧ o.isCells = false) : Below n w Y :=
  h.grown hg hx (fun k e => Nat.le_trans hn (hr k e).1)
theorem Res10.ownT {w W W' : World} {n B : Nat} {y0 y1 y2 : Value} {row : Option Nat} (h : Res10 w W n y0 y1 y2) (hn : n ≤ B) (hg : W.grownBy W' row) (hr : ∀ r, row = some r → B ≤ r ∧ ∃ o : Obj, W.heap[r]? = some o ∧ o.isCells = false) : Res10 w W' n y0 y1 y2 :=
  ⟨isOwn10 h.c0 hg hr, isOwn10 h.c1 hg hr, isOwn10 h.c2 hg hr, belowOwn10 h.below (by have := h.c0.lt; omega) hn hg hr⟩
theorem Res10.far {w W : World} {n : Nat} {y0 y1 y2 : Value} (h : Res10 w W n y0 y1 y2) {p : Addr} (hp : n + 1 + 1 < p.block) (v : Value) : Res10 w (W.setCell p v) n y0 y1 y2 :=
  ⟨h.c0.far (by omega) _, h.c1.far (by omega) _, h.c2.far (by omega) _, h.below.setCell (by omega) _⟩
theorem Res10.rowFar {w W : World} {n : Nat} {y0 y1 y2 : Value} (h : Res10 w W n y0 y1 y2) {g : Nat} (hp : n + 1 + 1 < g) (cs : Array Value) : Res10 w (W.setRow g cs) n y0 y1 y2 :=
  ⟨h.c0.rowFar (by omega) _, h.c1.rowFar (by omega) _, h.c2.rowFar (by omega) _, belowRow h.below (by omega) _⟩
theorem Res10.rows3 {w W : World} {n : Nat} {y0 y1 y2 : Value} (h : Res10 w W n y0 y1 y2) (z0 z1 z2 : Value) : Res10 w (((W.setRow n #[z0]).setRow (n + 1) #[z1]).setRow (n + 1 + 1) #[z2]) n z0 z1 z2 :=
  ⟨((h.c0.row _).rowFar (by omega) _).rowFar (by omega) _, ((h.c1.rowFar (by omega) _).row _).rowFar (by omega) _, ((h.c2.rowFar (by omega) _).rowFar (by omega) _).row _, belowRow (belowRow (belowRow h.below (Nat.le_refl _) _) (by omega) _) (by omega) _⟩
/-- what stands while texts are taken: the answer's cells, how far, the list. -/
structure Run10 (w W : World) (n bZ bL g N : Nat) (z : Int) (l : List ByteArray) : Prop where
  res : Res10 w W n (.slice none 0 0) (.int .i64 0) (.int .i64 0)
  iZ : Is W bZ 3 #[.int .i64 z]
  iL : Is W bL 24 #[.slice (some ⟨g, 0, none⟩) l.length N]
  row : Row10 W g N l
set_option maxRecDepth 100000 in
set_option maxHeartbeats 4000000 in
theorem flist_go10 (s : ByteArray) (w : World) (h : s.size ≤ 65536) (h0 : (tnV10 s 0).2.2 = 0) (h1 : (tnV10 s 0).1 ≤ 1000) :
    Calls Try.prog 74 #[.string s] w fun e w' => ∃ A c, e = .returned (flR10 s A c) ∧ Lst10 w.heap.size w' A (tlV10 s 0).1 ∧ Below w.heap.size w w' := by
  obtain ⟨i0, hi, hz0, hz1, hz2⟩ := info_parts infoTxt10
  have HN := fnum_any10 s
  have hR := flW10 w
  obtain ⟨hN, hb⟩ := tn_ok10 h0
  obtain ⟨N, hNe⟩ : ∃ N : Nat, (tnV10 s 0).1 = (N : Int) := ⟨(tnV10 s 0).1.toNat, by have := hN.bd.1; omega⟩
  have h4 := hN.right.2.2
  have hsh := tks_sh10 (B := s) (x := 4) (by omega) h (a := 0) (by omega) (by omega)
  have hvo : no10 (s.extract 4 s.size) N = 0 → tlV10 s 0 = ((tks10 (s.extract 4 s.size) N 0).1, pl10 (s.extract 4 s.size) N + 4, 0) := fun hn => by
    have e := hsh N
    unfold no10 at hn
    have hn2 : (tks10 s N (((4 : Nat) : Int) + 0)).2.2 = 0 := by rw [e] at hn; exact hn
    rw [tlV10, if_pos h0, if_neg (by omega), hNe, show ((N : Int)).toNat = N by omega, show (0 : Int) + 4 = ((4 : Nat) : Int) + 0 from rfl, if_pos hn2]
    unfold pl10
    rw [e]
    refine Prod.ext rfl (Prod.ext ?_ hn2)
    show (tks10 s N (((4 : Nat) : Int) + 0)).2.1 = (tks10 s N (((4 : Nat) : Int) + 0)).2.1 - ((4 : Nat) : Int) + 4
    omega
  have hve : no10 (s.extract 4 s.size) N ≠ 0 → tlV10 s 0 = ([], 0, no10 (s.extract 4 s.size) N) := fun hn => by
    have e := hsh N
    have hn2 : (tks10 s N (((4 : Nat) : Int) + 0)).2.2 = no10 (s.extract 4 s.size) N := by unfold no10; rw [e]
    rw [tlV10, if_pos h0, if_neg (by omega), hNe, show ((N : Int)).toNat = N by omega, show (0 : Int) + 4 = ((4 : Nat) : Int) + 0 from rfl, if_neg (by rw [hn2]; exact hn), hn2]
  obtain ⟨X, hX⟩ : ∃ X, X = s.extract 4 s.size := ⟨_, rfl⟩
  rw [← hX] at hvo hve
  have HVO := Lib.hid hvo
  have HVE := Lib.hid hve
  simp only [fnR10, hb, h0, hNe] at HN
  have HNN := Lib.hid (fun w => HN w h)
  have hz4 : (s.extract 4 s.size).size ≤ 65536 := by rw [ex_size10 (Nat.le_refl _)]; omega
  rw [← hX] at hz4
  have HZ4 := Lib.hid hz4
  have hN1 : N ≤ 1000 := by omega
  have hsl := fun wx : World => run_slice_string (P := Try.prog) wx 9 s .i64 .i64 4 (s.size : Int) Try.underlying9 (by omega) (by omega) (Int.le_refl _)
  rw [show ((4 : Int)).toNat = 4 from rfl, show ((s.size : Int)).toNat = s.size by omega, ← hX] at hsl
  have hsz4 : (4 : Int) ≤ (s.size : Int) := by omega
  clear hsh hvo hve hN hb h0 h1 hNe HN h4 hz4
  have HX := Lib.hid hX
  clear hX hsl
  have hN2 : (N : Int) ≤ 1000 := by omega
  refine (callsIn_wide (n := 5)).1 ?_
  refine callsIn_of_wp_marks Try.func74 rfl trivial ?_ rfl
  simp only [Try.ntmps74, List.size_toArray, List.length_cons, List.length_nil, Nat.reduceAdd, Nat.reduceSub, Array.replicate_succ, Array.replicate_zero, List.push_toArray, List.append_toArray, List.nil_append, List.cons_append]
  gi_wp2_with fail
  generalize ((w.alloc (.cells #[.slice none 0 0] 24)).alloc (.cells #[.int .i64 0] 3)).alloc (.cells #[.int .i64 0] 32) = W1 at *
  refine ⟨trivial, (callsIn_wide.2 (HNN.out _)).mono ?_⟩
  rintro e W1 ⟨rfl, rfl⟩
  have hR2 := hR.alloc (.cells #[.int .i64 4] 3)
  have iZ2 := Is.new W1 3 #[.int .i64 4]
  generalize hD : W1.alloc (.cells #[.int .i64 4] 3) = W2 at *
  have hZl : w.heap.size + 1 + 1 < W1.heap.size := hR.c2.lt
  obtain ⟨bZ, hbZ⟩ : ∃ bZ, bZ = W1.heap.size := ⟨_, rfl⟩
  rw [← hbZ] at iZ2 hZl
  clear hR
  gi_wp2_with (gi_at_make; refine wpListIn_make_own _ rfl _ _ 24 rfl w.heap.size 9 i0 (.string ⟨#[]⟩) 1 Try.underlying24 hi hz0 hz1 .i64 .i64 (N : Int) N rfl rfl rfl (by rw [hz2]; omega) (by unfold maxLen; omega) hR2.below.size ?_; intro W3 hown3 hg3; have hb3 : Below W2.heap.size W2 W3 := (Below.refl _ _).grown hg3 (Nat.le_refl _) (fun k e => by cases e); have q3 : (W3.alloc (.cells #[.slice (some ⟨W2.heap.size, 0, none⟩) 0 N] 24)).cell? ⟨W1.heap.size, 0, none⟩ = some (.int .i64 4) := by (rw [← hbZ]; exact ((iZ2.below hb3 iZ2.lt).alloc _).cell 0))
  refine ⟨trivial, ?_⟩
  rw [← HX.out]
  refine (callsIn_wide.2 (texts_any10 X (N : Int) _)).mono ?_
  rintro e W6 ⟨rfl, rfl⟩
  gi_wp2_with fail
  have hR3 := ((hR2.step hb3 (by have := hR2.c2.lt; omega)).alloc (.cells #[.slice (some ⟨W2.heap.size, 0, none⟩) 0 N] 24)).alloc (.cells #[.string X] 9)
  have iZ3 := (((iZ2.below hb3 iZ2.lt).alloc (.cells #[.slice (some ⟨W2.heap.size, 0, none⟩) 0 N] 24)).alloc (.cells #[.string X] 9)).alloc (.cells #[.int .i64 (N : Int)] 3)
  have iL3 := ((Is.new W3 24 #[.slice (some ⟨W2.heap.size, 0, none⟩) 0 N]).alloc (.cells #[.string X] 9)).alloc (.cells #[.int .i64 (N : Int)] 3)
  have hrow3 := (((Row10.made hown3).keep (World.grownBy_alloc W3 (.cells #[.slice (some ⟨W2.heap.size, 0, none⟩) 0 N] 24) none) (fun e => by cases e)).keep (World.grownBy_alloc _ (.cells #[.string X] 9) none) (fun e => by cases e)).keep (World.grownBy_alloc _ (.cells #[.int .i64 (N : Int)] 3) none) (fun e => by cases e)
  have iS3 : Is (((W3.alloc (.cells #[.slice (some ⟨W2.heap.size, 0, none⟩) 0 N] 24)).alloc (.cells #[.string X] 9)).alloc (.cells #[.int .i64 (N : Int)] 3)) (W3.heap.size + 1) 9 #[.string X] := Is.alloc (heap_alloc2_new W3 _ _) _
  have iN3 : Is (((W3.alloc (.cells #[.slice (some ⟨W2.heap.size, 0, none⟩) 0 N] 24)).alloc (.cells #[.string X] 9)).alloc (.cells #[.int .i64 (N : Int)] 3)) (W3.heap.size + 1 + 1) 3 #[.int .i64 (N : Int)] := by
    have := Is.new ((W3.alloc (.cells #[.slice (some ⟨W2.heap.size, 0, none⟩) 0 N] 24)).alloc (.cells #[.string X] 9)) 3 #[.int .i64 (N : Int)]
    simpa using this
  have hR4 := hR3.alloc (.cells #[.int .i64 (N : Int)] 3)
  have hgL : W2.heap.size < W3.heap.size := (Row10.made hown3).lt
  have hZg : bZ < W2.heap.size := iZ2.lt
  have hs5 : (((W3.alloc (.cells #[.slice (some ⟨W2.heap.size, 0, none⟩) 0 N] 24)).alloc (.cells #[.string X] 9)).alloc (.cells #[.int .i64 (N : Int)] 3)).heap.size = W3.heap.size + 3 := by simp
  rw [← hbZ]
  generalize (((W3.alloc (.cells #[.slice (some ⟨W2.heap.size, 0, none⟩) 0 N] 24)).alloc (.cells #[.string X] 9)).alloc (.cells #[.int .i64 (N : Int)] 3)) = W5 at *
  generalize W2.heap.size = g at *
  generalize W3.heap.size = bL at *
  clear hown3 hg3 hb3 q3 hR2 iZ2 hR3 hbZ hD
  have HPL0 : 4 + pl10 X 0 = 4 := rfl
  refine wpIn_rangeL rfl (by omega) (gf := 81) (lb := #[.pointer (some ⟨bL + 1 + 1, 0, none⟩), .pointer (some ⟨bL + 1, 0, none⟩)]) rfl trivial (enters_of Try.func81 (by kernel_rfl) rfl)
    (S := fun k => k = bL + 1 ∨ k = bL + 1 + 1)
    (texts_seq10 (5 - 1) (by omega) (bL + 1) (bL + 1 + 1) X N W5 HZ4.out hN1 iS3 iN3 _ (.inl rfl) (.inr rfl))
    (Stay.refl _ _) (fun k hk => by rcases hk with h | h <;> omega) (fun _ => rfl)
    (fun i W => no10 X i = 0 ∧ i ≤ N ∧ Run10 w W w.heap.size bZ bL g N (4 + pl10 X i) (tks10 X i 0).1)
    (fun c _ W => c = .ret ∧ no10 X N ≠ 0 ∧ Res10 w W w.heap.size (.slice none 0 0) (.int .i64 0) (.int .i64 (no10 X N)))
    (fun s A B row hs hg hr => ⟨hs.1, hs.2.1, hs.2.2.res.ownT (by omega) hg hr, isOwn10 hs.2.2.iZ hg hr, isOwn10 hs.2.2.iL hg hr, hs.2.2.row.keepT hg (fun r e => (hr r e).2)⟩)
    (fun c s A B row hs hg hr => ⟨hs.1, hs.2.1, hs.2.2.ownT (by omega) hg hr⟩)
    ⟨rfl, by omega, hR4, iZ3, iL3, hrow3⟩ ?round ?done ?stop
  case round =>
    rintro l2 i x W hl hlt hx ⟨hno, hiN, hrun⟩
    gi_wp2
    refine ⟨Stay.refl _ _, ⟨hno, hiN, hrun⟩, fun _ => True, fun _ _ _ _ _ _ _ => trivial, trivial, ?_⟩
    clear hrun
    rintro W4 hl4 ⟨_, _, hrun⟩ _
    have hiN2 : i < N := by have h1 := tld_le10 (B := X) N; have h2 := (List.getElem?_eq_some_iff.1 hx).1; omega
    have hxe : x = it10 X i := by
      rw [tld_at10 hno hiN2] at hx
      exact (Option.some.inj hx).symm
    have hT := tks_ok10 (B := X) (a := 0) (by omega) (by omega) i hno
    have hzX := HZ4.out
    have hp1 : 0 ≤ pl10 X i := by have := hT.ahead; unfold pl10; omega
    have hp2 : pl10 X i ≤ (X.size : Int) := hT.right
    have hlen : (tks10 X i 0).1.length = i := hT.len
    have hstep := no_step10 hno
    have hpl := pl_step10 hno
    have htk := tk_step10 hno
    have hto : (it10 X i).2 = 0 → (ttV10 X (pl10 X i)).2.1 = pl10 X i + 4 + ((it10 X i).1.size : Int) ∧ (ttV10 X (pl10 X i)).2.1 ≤ (X.size : Int) := fun h => ⟨(tt_ok10 h).to, (tt_ok10 h).right.2.2⟩
    have hst : no10 X (i + 1) ≠ 0 → no10 X N = no10 X (i + 1) := fun h => no_stay10 h (by omega)
    rw [← hxe] at hstep hpl htk hto
    obtain ⟨tx, er⟩ := x
    simp only at hstep hpl htk hto
    generalize (ttV10 X (pl10 X i)).2.1 = en at *
    have iR0 := hrun.res.c0
    have iR1 := hrun.res.c1
    have iR2 := hrun.res.c2
    by_cases he : er = 0
    · have hpn := hpl he
      have htn := htk he
      obtain ⟨ht1, ht2⟩ := hto he
      rw [he] at hstep
      subst he
      have HI := Lib.hid (show no10 X (i + 1) = 0 ∧ i + 1 ≤ N from ⟨hstep, hiN2⟩)
      have HPN := Lib.hid (show 4 + pl10 X (i + 1) = 4 + pl10 X i + (4 + (tx.size : Int)) by rw [hpn, ht1]; omega)
      have HTN := Lib.hid htn
      have hz8 : 4 + pl10 X i + (4 + (tx.size : Int)) ≤ 65540 := by omega
      have hlN : (tks10 X i 0).1.length < N := by omega
      have hrun2 : Run10 w W4 w.heap.size bZ bL g N (4 + pl10 X i) (tks10 X i 0).1 := hrun
      generalize (tks10 X i 0).1 = L at *
      have hz0 : 0 ≤ 4 + pl10 X i := by omega
      generalize 4 + pl10 X i = z at *
      clear hx hxe hT hzX hp1 hp2 hstep hpl htk hto hst hno hpn htn ht1 ht2 iR0 iR1 iR2 hrun hiN hiN2 hlen
      have cL : W4.cell? ⟨bL, 0, none⟩ = some (.slice (some ⟨g, 0, none⟩) L.length N) := hrun2.iL.cell 0
      have hgr : W4.grownBy (W4.alloc (.cells #[.string tx] 9)) none := World.grownBy_alloc _ _ none
      obtain ⟨cs, hrn, hrow⟩ := (hrun2.row.keep hgr (fun e => by cases e)).push hlN ((Is.new W4 9 #[.string tx]).cell 0)
      have HRN := Lib.hid hrn
      have hR5 := (hrun2.res.alloc (.cells #[.string tx] 9)).rowFar (g := g) (by omega) cs
      have iZ5 := (hrun2.iZ.alloc (.cells #[.string tx] 9)).rowFar (k := g) (by omega) cs
      have iL5 := (hrun2.iL.alloc (.cells #[.string tx] 9)).rowFar (k := g) (by omega) cs
      have hSt : Stay (fun k => (k = bL + 1 ∨ k = bL + 1 + 1) ∨ W5.heap.size ≤ k) W4 ((W4.alloc (.cells #[.string tx] 9)).setRow g cs) := ((Stay.refl _ _).grown hgr (fun r e => by cases e)).grown (grownRowG _ g cs) (fun r e => by cases e; exact .inl (by omega))
      clear hrn hrun2 hgr
      generalize (W4.alloc (.cells #[.string tx] 9)).setRow g cs = W7 at *
      have d0 : W7.cell? ⟨bL, 0, none⟩ = some (.slice (some ⟨g, 0, none⟩) L.length N) := iL5.cell 0
      have d1 : W7.cell? ⟨bZ, 0, none⟩ = some (.int .i64 z) := iZ5.cell 0
      have f0 := iL5.frozen 0
      have f1 := iZ5.frozen 0
      have q1 : bZ ≠ bL := by omega
      have q2 : bL ≠ bZ := by omega
      gi_wp2_with (gi_at_builtin; refine wpListIn_append10 rfl _ _ 24 rfl rfl rfl HRN.out ?_)
      refine ⟨(hSt.grown (grownSetG _ _ _) (fun r e => by cases e; exact .inl (by simp only []; omega))).grown (grownSetG _ _ _) (fun r e => by cases e; exact .inl (by simp only []; omega)), HI.out.1, HI.out.2, ?_⟩
      rw [HPN.out, HTN.out]
      refine ⟨(hR5.far (p := ⟨bL, 0, none⟩) (by simp only []; omega) _).far (p := ⟨bZ, 0, none⟩) (by simp only []; omega) _, (iZ5.far (p := ⟨bL, 0, none⟩) q1 _).set 0 _, ?_, (hrow.far (p := ⟨bL, 0, none⟩) (by simp only []; omega) _).far (p := ⟨bZ, 0, none⟩) (by simp only []; omega) _⟩
      rw [List.length_append, List.length_singleton]
      exact (iL5.set 0 _).far (p := ⟨bZ, 0, none⟩) q2 _
    · have hne : no10 X N = er := by rw [hst (by rw [hstep]; exact he), hstep]
      have HNE := Lib.hid (show no10 X N ≠ 0 by rw [hne]; exact he)
      have HRE := Lib.hid hne
      have hres := hrun.res
      have d0 : W4.cell? ⟨w.heap.size, 0, none⟩ = some (.slice none 0 0) := iR0.cell 0
      have d1 : W4.cell? ⟨w.heap.size + 1, 0, none⟩ = some (.int .i64 0) := iR1.cell 0
      have d2 : W4.cell? ⟨w.heap.size + 1 + 1, 0, none⟩ = some (.int .i64 0) := iR2.cell 0
      have f0 := iR0.frozen 0
      have f1 := iR1.frozen 0
      have f2 := iR2.frozen 0
      clear hx hxe hT hzX hp1 hp2 hstep hpl htk hto hst hno hlen iR0 iR1 iR2 hrun hiN hiN2 hne
      gi_wp2
      refine ⟨(((Stay.refl _ _).grown (grownSetG _ _ _) (fun r e => by cases e; exact .inl (by simp only []; omega))).grown (grownSetG _ _ _) (fun r e => by cases e; exact .inl (by simp only []; omega))).grown (grownSetG _ _ _) (fun r e => by cases e; exact .inl (by simp only []; omega)), rfl, HNE.out, ?_⟩
      rw [HRE.out]
      exact hres.set3 _ _ _
  case done =>
    rintro D W hD ⟨hno, hiN, hrun⟩ hK
    obtain ⟨m, hm⟩ : ∃ m, m = (tld10 X N).length := ⟨_, rfl⟩
    rw [← hm] at hno hrun
    have hmN := tld_all10 hm hno
    rw [hmN] at hno hrun
    have HV := Lib.hid (HVO.out hno)
    clear hm hmN hno hiN
    gi_wp2
    generalize (tks10 X N 0).1 = L at *
    obtain ⟨z, hz⟩ : ∃ z, z = 4 + pl10 X N := ⟨_, rfl⟩
    rw [show pl10 X N + 4 = z by omega] at HV
    rw [← hz] at hrun
    clear hz
    obtain ⟨Wf, hWf⟩ : ∃ Wf, Wf = ((W.drew.setRow w.heap.size #[.slice (some ⟨g, 0, none⟩) L.length N]).setRow (w.heap.size + 1) #[.int .i64 z]).setRow (w.heap.size + 1 + 1) #[.int .i64 0] := ⟨_, rfl⟩
    have hK2 : Wf.heap[D]? = some (.deferred (some [])) := by
      rw [hWf]
      exact ((setRow_other _ (w.heap.size + 1 + 1) D _ (by omega)).trans ((setRow_other _ (w.heap.size + 1) D _ (by omega)).trans (setRow_other _ w.heap.size D _ (by omega)))).trans hK
    have hRf : Res10 w Wf w.heap.size (.slice (some ⟨g, 0, none⟩) L.length N) (.int .i64 z) (.int .i64 0) := by
      rw [hWf]
      exact Res10.rows3 (W := W.drew) ⟨hrun.res.c0, hrun.res.c1, hrun.res.c2, belowN hrun.res.below 1⟩ _ _ _
    have hgf : Row10 Wf g N L := by
      rw [hWf]
      exact ((Row10.keep (W := W.drew) hrun.row (grownRowG _ _ _) (fun e => by have := Option.some.inj e; omega)).keep (grownRowG _ _ _) (fun e => by have := Option.some.inj e; omega)).keep (grownRowG _ _ _) (fun e => by have := Option.some.inj e; omega)
    have hgr := grownBy_putObj' Wf D (.deferred none)
    have hrr : ∀ r, some D = some r → W5.heap.size ≤ r ∧ ∃ o : Obj, Wf.heap[r]? = some o ∧ o.isCells = false := fun r e => by cases e; exact ⟨hD, _, hK2, rfl⟩
    have hR9 := hRf.ownT (by omega) hgr hrr
    have hg9 := (hgf.keepT hgr (fun r e => (hrr r e).2)).inV
    have iL := hrun.iL.drewN 1
    have iZ := hrun.iZ.drewN 1
    have c0 := hrun.res.c0.drewN 1
    have c1 := hrun.res.c1.drewN 1
    have c2 := hrun.res.c2.drewN 1
    have HFIN := Lib.hid (fun (T : Array Value) (e0 : T.getD 2 undef = .pointer (some ⟨w.heap.size, 0, none⟩)) (e1 : T.getD 3 undef = .pointer (some ⟨w.heap.size + 1, 0, none⟩)) (e2 : T.getD 4 undef = .pointer (some ⟨w.heap.size + 1 + 1, 0, none⟩)) =>
      show ∃ v, (results Try.f74 T).run Try.prog (Wf.putObj D (.deferred none)) = .ok v (Wf.putObj D (.deferred none)) ∧ ∃ A c, Ending.returned v = Ending.returned (flR10 s A c) ∧ Lst10 w.heap.size (Wf.putObj D (.deferred none)) A (tlV10 s 0).1 ∧ Below w.heap.size w (Wf.putObj D (.deferred none)) from
      ⟨_, results_sss10 Try.results74 T _ _ w.heap.size (w.heap.size + 1) (w.heap.size + 1 + 1) (.slice (some ⟨g, 0, none⟩) L.length N) (.int .i64 z) (.int .i64 0) 24 3 32 e0 e1 e2 hR9.c0 hR9.c1 hR9.c2 (aggL10 _) (aggI10 _) (aggE10 _), some ⟨g, 0, none⟩, N, by rw [flR10, HV.out], by rw [HV.out]; exact ⟨hg9, fun p e => by cases e; show w.heap.size ≤ g; omega⟩, hR9.below⟩)
    have HKF := Lib.hid hK2
    clear hrun hK2 hRf hgf hgr hrr hR9 hg9 HV hK
    refine wpIn_region_any (by kernel_rfl) ?_
    change wpAnyIn _ _ _ _ _ _ _ _ _ W.drew
    refine wpAnyIn_two (i := 0) (j := 1) (by kernel_rfl) (wpOpIn_value (v := .slice (some ⟨g, 0, none⟩) L.length N) rfl rfl (fun c h => by cases h) rfl (run_load_one rfl rfl iL (by go_simp)) ?_) (wpOpIn_value (v := .int .i64 z) rfl rfl (fun c h => by cases h) rfl (run_load_one rfl rfl iZ (by go_simp)) ?_)
    · refine wpAnyIn_two (i := 1) (j := 2) (by kernel_rfl) (wpOpIn_value (v := .int .i64 z) rfl rfl (fun c h => by cases h) rfl (run_load_one rfl rfl iZ (by go_simp)) ?_) (wpOpIn_skip (w' := W.drew.setRow w.heap.size #[.slice (some ⟨g, 0, none⟩) L.length N]) rfl rfl (fun c h => by cases h) rfl (run_store_oneO rfl rfl rfl c0 (by kernel_rfl) rfl) ?_)
      · refine wpAnyIn_one (i := 2) (by kernel_rfl) (wpOpIn_skip (w' := W.drew.setRow w.heap.size #[.slice (some ⟨g, 0, none⟩) L.length N]) rfl rfl (fun c h => by cases h) rfl (run_store_oneO rfl rfl rfl c0 (by kernel_rfl) rfl) ?_)
        refine wpAnyIn_one (i := 3) (by kernel_rfl) (wpOpIn_skip (w' := (W.drew.setRow w.heap.size #[.slice (some ⟨g, 0, none⟩) L.length N]).setRow (w.heap.size + 1) #[.int .i64 z]) rfl rfl (fun c h => by cases h) rfl (run_store_oneO rfl rfl rfl (c1.rowFar (by simp) _) (by kernel_rfl) rfl) ?_)
        refine wpAnyIn_one (i := 4) (by kernel_rfl) (wpOpIn_skip (w' := ((W.drew.setRow w.heap.size #[.slice (some ⟨g, 0, none⟩) L.length N]).setRow (w.heap.size + 1) #[.int .i64 z]).setRow (w.heap.size + 1 + 1) #[.int .i64 0]) rfl rfl (fun c h => by cases h) rfl (run_store_oneO rfl rfl rfl ((c2.rowFar (by simp; omega) _).rowFar (by simp) _) (by kernel_rfl) rfl) ?_)
        rw [← hWf]
        refine wpAnyIn_done (by kernel_rfl) ?_ _
        gi_wp2
        refine ⟨by simp, .inl ⟨_, _, rfl, run_takeDeferred HKF.out, ?_⟩⟩
        exact HFIN.out _ rfl rfl rfl
      · refine wpAnyIn_one (i := 1) (by kernel_rfl) (wpOpIn_value (v := .int .i64 z) rfl rfl (fun c h => by cases h) rfl (run_load_one rfl rfl (iZ.rowFar (by omega) _) (by go_simp)) ?_)
        refine wpAnyIn_one (i := 3) (by kernel_rfl) (wpOpIn_skip (w' := (W.drew.setRow w.heap.size #[.slice (some ⟨g, 0, none⟩) L.length N]).setRow (w.heap.size + 1) #[.int .i64 z]) rfl rfl (fun c h => by cases h) rfl (run_store_oneO rfl rfl rfl (c1.rowFar (by simp) _) (by kernel_rfl) rfl) ?_)
        refine wpAnyIn_one (i := 4) (by kernel_rfl) (wpOpIn_skip (w' := ((W.drew.setRow w.heap.size #[.slice (some ⟨g, 0, none⟩) L.length N]).setRow (w.heap.size + 1) #[.int .i64 z]).setRow (w.heap.size + 1 + 1) #[.int .i64 0]) rfl rfl (fun c h => by cases h) rfl (run_store_oneO rfl rfl rfl ((c2.rowFar (by simp; omega) _).rowFar (by simp) _) (by kernel_rfl) rfl) ?_)
        rw [← hWf]
        refine wpAnyIn_done (by kernel_rfl) ?_ _
        gi_wp2
        refine ⟨by simp, .inl ⟨_, _, rfl, run_takeDeferred HKF.out, ?_⟩⟩
        exact HFIN.out _ rfl rfl rfl
    · refine wpAnyIn_one (i := 0) (by kernel_rfl) (wpOpIn_value (v := .slice (some ⟨g, 0, none⟩) L.length N) rfl rfl (fun c h => by cases h) rfl (run_load_one rfl rfl iL (by go_simp)) ?_)
      refine wpAnyIn_one (i := 2) (by kernel_rfl) (wpOpIn_skip (w' := W.drew.setRow w.heap.size #[.slice (some ⟨g, 0, none⟩) L.length N]) rfl rfl (fun c h => by cases h) rfl (run_store_oneO rfl rfl rfl c0 (by kernel_rfl) rfl) ?_)
      refine wpAnyIn_one (i := 3) (by kernel_rfl) (wpOpIn_skip (w' := (W.drew.setRow w.heap.size #[.slice (some ⟨g, 0, none⟩) L.length N]).setRow (w.heap.size + 1) #[.int .i64 z]) rfl rfl (fun c h => by cases h) rfl (run_store_oneO rfl rfl rfl (c1.rowFar (by simp) _) (by kernel_rfl) rfl) ?_)
      refine wpAnyIn_one (i := 4) (by kernel_rfl) (wpOpIn_skip (w' := ((W.drew.setRow w.heap.size #[.slice (some ⟨g, 0, none⟩) L.length N]).setRow (w.heap.size + 1) #[.int .i64 z]).setRow (w.heap.size + 1 + 1) #[.int .i64 0]) rfl rfl (fun c h => by cases h) rfl (run_store_oneO rfl rfl rfl ((c2.rowFar (by simp; omega) _).rowFar (by simp) _) (by kernel_rfl) rfl) ?_)
      rw [← hWf]
      refine wpAnyIn_done (by kernel_rfl) ?_ _
      gi_wp2
      refine ⟨by simp, .inl ⟨_, _, rfl, run_takeDeferred HKF.out, ?_⟩⟩
      exact HFIN.out _ rfl rfl rfl
  case stop =>
    rintro D c i W hD ⟨rfl, hne, hres⟩ hK
    have HV := Lib.hid (HVE.out hne)
    clear hne
    gi_wp2
    refine ⟨by simp, .inl ⟨_, _, rfl, run_takeDeferred hK, ?_⟩⟩
    have hgr := grownBy_putObj' W D (.deferred none)
    have hrr : ∀ r, some D = some r → W5.heap.size ≤ r ∧ ∃ o : Obj, W.heap[r]? = some o ∧ o.isCells = false := fun r e => by cases e; exact ⟨hD, _, hK, rfl⟩
    have hR9 := hres.ownT (by omega) hgr hrr
    exact ⟨_, results_sss10 Try.results74 _ _ _ w.heap.size (w.heap.size + 1) (w.heap.size + 1 + 1) (.slice none 0 0) (.int .i64 0) (.int .i64 (no10 X N)) 24 3 32 rfl rfl rfl hR9.c0 hR9.c1 hR9.c2 (aggL10 _) (aggI10 _) (aggE10 _), none, 0, by rw [flR10, HV.out]; rfl, by rw [HV.out]; exact Lst10.nil _ _, hR9.below⟩
end Go.Proofs.Ytapfbcpbiagogaa
