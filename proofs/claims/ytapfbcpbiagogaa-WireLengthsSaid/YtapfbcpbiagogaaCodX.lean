/-
  Contracts of codec.take, at numbers, texts and lists; of TakeNumber, TakeText, TakeList and End: they answer what the plain functions say, errors and all. No conditions.
-/
import Derived.Test.YtapfbcpbiagogaaCodW
namespace Go.Proofs.Ytapfbcpbiagogaa
open Go.RowKit Go.Shelf

theorem infoCur10 : (Try.prog.info? 64).map (·.size) = some 2 := by kernel_rfl
theorem results_tct10 {fn : Func} {s p u : Tmp} {ty : TypeId} (h : fn.results = #[.tmp s, .cell p ty, .tmp u]) (tmps : Array Value) (P : Program) (w : World) (g : Nat) (t : TypeId) (cs : Array Value) (fr : Nat × Nat) (fs : Array Field)
    (hp : tmps.getD p undef = .pointer (some ⟨g, 0, none⟩)) (hg : w.heap[g]? = some (.cells cs t fr))
    (hu : P.underlying ty = some (.struct fs)) (hi : (P.info? ty).map (·.size) = some cs.size) :
    (results fn tmps).run P w = .ok (.tuple #[tmps.getD s undef, .agg cs, tmps.getD u undef]) w := by
  have e : (results fn tmps).run P w = ((asAddr (tmps.getD p undef)).run P w).andThen fun a w1 => ((loadVar ty a).run P w1).andThen fun v w2 => .ok (.tuple #[tmps.getD s undef, v, tmps.getD u undef]) w2 := by
    simp only [results, h]
    simp [Sem.run_bind, Result.andThen]
  rw [e, hp]
  simp [asAddr, run_loadVar_row w g t ty cs fr _ hg hu rfl hi]
/-- two cells, written. -/
theorem Is.pair10 {W : World} {g : Nat} {t : TypeId} {x y : Value} (h : Is W g t #[x, y]) (u v : Value) : Is ((W.setCell ⟨g, 0, none⟩ u).setCell ⟨g, 1, none⟩ v) g t #[u, v] := (h.set 0 u).set 1 v
theorem below_pair10 {B : Nat} {W0 W : World} (h : Below B W0 W) {g : Nat} (hg : B ≤ g) (u v : Value) : Below B W0 ((W.setCell ⟨g, 0, none⟩ u).setCell ⟨g, 1, none⟩ v).drew := belowN ((h.setCell (p := ⟨g, 0, none⟩) hg u).setCell (p := ⟨g, 1, none⟩) hg v) 1
theorem Lst10.pair {n : Nat} {W : World} {A : Option Addr} {l : List ByteArray} (h : Lst10 n W A l) {g : Nat} (hg : g < n) (u v : Value) : Lst10 n ((W.setCell ⟨g, 0, none⟩ u).setCell ⟨g, 1, none⟩ v).drew A l := ((h.far (p := ⟨g, 0, none⟩) hg u).far (p := ⟨g, 1, none⟩) hg v).drewN 1
def tnR10 (B : ByteArray) (a : Int) : Value := .tuple #[.int .i64 (tnV10 B a).1, .agg #[.string B, .int .i64 (tnV10 B a).2.1], .int .i64 (tnV10 B a).2.2]
def ttR10 (B : ByteArray) (a : Int) : Value := .tuple #[.string (ttV10 B a).1, .agg #[.string B, .int .i64 (ttV10 B a).2.1], .int .i64 (ttV10 B a).2.2]
def tlR10 (B : ByteArray) (a : Int) (A : Option Addr) (c : Nat) : Value := .tuple #[.slice A (tlV10 B a).1.length c, .agg #[.string B, .int .i64 (tlV10 B a).2.1], .int .i64 (tlV10 B a).2.2]
theorem tn_wrong10 {B : ByteArray} {a : Int} (h : rightV B a = false) : tnV10 B a = (0, a, 1) := by rw [tnV10, if_neg (by rw [h]; decide)]
theorem tt_wrong10 {B : ByteArray} {a : Int} (h : rightV B a = false) : ttV10 B a = (⟨#[]⟩, a, 1) := by
  have h1 := tn_wrong10 h
  rw [tt_num10 (by rw [h1]; show (1 : Int) ≠ 0; decide), h1]
theorem tl_wrong10 {B : ByteArray} {a : Int} (h : rightV B a = false) : tlV10 B a = ([], a, 1) := by
  have h1 := tn_wrong10 h
  rw [tlV10, if_neg (by rw [h1]; show ¬ (1 : Int) = 0; decide), h1]
/-- where what is taken ends. -/
theorem tn_to10 {B : ByteArray} {a : Int} (h : (tnV10 B a).2.2 = 0) : 0 ≤ (tnV10 B a).2.1 ∧ (tnV10 B a).2.1 ≤ 65536 := by
  obtain ⟨h1, h2⟩ := tn_ok10 h
  have := h1.right
  omega
theorem tt_to10 {B : ByteArray} {a : Int} (h : (ttV10 B a).2.2 = 0) : 0 ≤ (ttV10 B a).2.1 ∧ (ttV10 B a).2.1 ≤ 65536 := by
  have h1 := (tt_ok10 h).right
  have h2 := (tt_ok10 h).to
  omega
theorem tl_to10 {B : ByteArray} {a : Int} (h : (tlV10 B a).2.2 = 0) : 0 ≤ (tlV10 B a).2.1 ∧ (tlV10 B a).2.1 ≤ 65536 := by
  have h1 := (tl_ok10 h).right
  have h2 := (tl_ok10 h).ahead
  omega
theorem fnum_sh10 {B : ByteArray} {a : Int} (hr : rightV B a = true) (w : World) :
    Calls Try.prog 72 #[.string (B.extract a.toNat B.size)] w fun e w' => e = .returned (.tuple #[.int .i64 (tnV10 B a).1, .int .i64 ((tnV10 B a).2.1 - a), .int .i64 (tnV10 B a).2.2]) ∧ Below w.heap.size w w' := by
  obtain ⟨h1, h2, h3⟩ := rightV_iff.1 hr
  have h := fnum_any10 (B.extract a.toNat B.size) w (by rw [ex_size10 (Nat.le_refl _)]; omega)
  have hs := tn_sh10 (B := B) (x := a.toNat) (by omega) h1 (a := 0) (by omega)
  rw [show ((a.toNat : Nat) : Int) + 0 = a by omega, show ((a.toNat : Nat) : Int) = a by omega] at hs
  rw [fnR10, hs] at h
  exact h.mono fun e w' ⟨h1, h2⟩ => ⟨h1, h2 ▸ Below.refl _ _⟩
theorem ftext_sh10 {B : ByteArray} {a : Int} (hr : rightV B a = true) (w : World) :
    Calls Try.prog 82 #[.string (B.extract a.toNat B.size)] w fun e w' => e = .returned (.tuple #[.string (ttV10 B a).1, .int .i64 ((ttV10 B a).2.1 - a), .int .i64 (ttV10 B a).2.2]) ∧ Below w.heap.size w w' := by
  obtain ⟨h1, h2, h3⟩ := rightV_iff.1 hr
  have h := ftext_any10 (B.extract a.toNat B.size) w (by rw [ex_size10 (Nat.le_refl _)]; omega)
  have hs := tt_sh10 (B := B) (x := a.toNat) (by omega) h1 (a := 0) (by omega)
  rw [show ((a.toNat : Nat) : Int) + 0 = a by omega, show ((a.toNat : Nat) : Int) = a by omega] at hs
  rw [ftR10, hs] at h
  exact h
theorem flist_any10 (s : ByteArray) (w : World) (h : s.size ≤ 65536) :
    Calls Try.prog 74 #[.string s] w fun e w' => ∃ A c, e = .returned (flR10 s A c) ∧ Lst10 w.heap.size w' A (tlV10 s 0).1 ∧ Below w.heap.size w w' := by
  by_cases h0 : (tnV10 s 0).2.2 = 0
  · by_cases h1 : (tnV10 s 0).1 ≤ 1000
    · exact flist_go10 s w h h0 h1
    · exact flist_no10 s w h (.inr (by omega))
  · exact flist_no10 s w h (.inl h0)
theorem flist_sh10 {B : ByteArray} {a : Int} (hr : rightV B a = true) (w : World) :
    Calls Try.prog 74 #[.string (B.extract a.toNat B.size)] w fun e w' => ∃ A c, e = .returned (.tuple #[.slice A (tlV10 B a).1.length c, .int .i64 ((tlV10 B a).2.1 - a), .int .i64 (tlV10 B a).2.2]) ∧ Lst10 w.heap.size w' A (tlV10 B a).1 ∧ Below w.heap.size w w' := by
  obtain ⟨h1, h2, h3⟩ := rightV_iff.1 hr
  have h := flist_any10 (B.extract a.toNat B.size) w (by rw [ex_size10 (Nat.le_refl _)]; omega)
  have hs := tl_sh10 (B := B) (x := a.toNat) (by omega) h1
  rw [show ((a.toNat : Nat) : Int) = a by omega] at hs
  simp only [flR10, hs] at h
  exact h

set_option maxRecDepth 100000 in
set_option maxHeartbeats 2000000 in
theorem take_n10 (B : ByteArray) (a : Int) (w : World) :
    Calls Try.prog 71 #[.agg #[.string B, .int .i64 a], .func (.func 72) #[] #[]] w fun e w' => e = .returned (tnR10 B a) ∧ Below w.heap.size w w' := by
  have C := Lib.hid (cright_any10 B a)
  obtain ⟨W1, hW1⟩ : ∃ W1, W1 = (w.alloc (.cells #[.string B, .int .i64 a] 64)).alloc (.cells #[.string ⟨#[]⟩, .int .i64 0] 64) := ⟨_, rfl⟩
  cases hr : rightV B a with
  | true =>
    obtain ⟨h1, h2, h3⟩ := rightV_iff.1 hr
    have HF := Lib.hid (fnum_sh10 hr)
    have hsl := fun wx : World => run_slice_string (P := Try.prog) wx 9 B .i64 .i64 a (B.size : Int) Try.underlying9 h2 h3 (Int.le_refl _)
    rw [show ((B.size : Int)).toNat = B.size by omega] at hsl
    rw [hr] at C
    by_cases he : (tnV10 B a).2.2 = 0
    · obtain ⟨p1, p2⟩ := tn_to10 he
      obtain ⟨x, p, e0, hv⟩ : ∃ x p e0, tnV10 B a = (x, p, e0) := ⟨_, _, _, rfl⟩
      rw [hv] at he p1 p2
      rw [show e0 = 0 from he] at hv
      simp only [hv] at HF
      simp only at p1 p2
      have HR := Lib.hid (show tnR10 B a = .tuple #[.int .i64 x, .agg #[.string B, .int .i64 (a + (p - a))], .int .i64 0] by rw [tnR10, hv, show a + (p - a) = p by omega])
      have w1i := IntWalk.i64_in (a + (p - a)) (by omega)
      clear hr hv he
      go_enter Try.func71, Try.ntmps71
      go_wp2_with fail
      rw [← hW1]
      have hB1 : Below w.heap.size w W1 := by rw [hW1]; exact ((Below.refl _ _).alloc (Nat.le_refl _) _).alloc (by simp) _
      have iA1 : Is W1 w.heap.size 64 #[.string B, .int .i64 a] := by rw [hW1]; exact heap_alloc2_old w _ _
      have iR1 : Is W1 (w.heap.size + 1) 64 #[.string ⟨#[]⟩, .int .i64 0] := by rw [hW1]; exact heap_alloc2_new w _ _
      clear hW1
      refine (C.out _).mono ?_
      rintro e W2 ⟨rfl, hb⟩
      have hB2 := hB1.trans (hb.mono hB1.size)
      have iA2 := iA1.below hb iA1.lt
      have iR2 := iR1.below hb iR1.lt
      clear hb hB1 iA1 iR1
      have cA0 : W2.cell? ⟨w.heap.size, 0, none⟩ = some (.string B) := iA2.cell 0
      have cA1 : W2.cell? ⟨w.heap.size, 1, none⟩ = some (.int .i64 a) := iA2.cell 1
      have cR0 : W2.cell? ⟨w.heap.size + 1, 0, none⟩ = some (.string ⟨#[]⟩) := iR2.cell 0
      have cR1 : W2.cell? ⟨w.heap.size + 1, 1, none⟩ = some (.int .i64 0) := iR2.cell 1
      have fR0 := iR2.frozen 0
      have fR1 := iR2.frozen 1
      go_wp2_with fail
      refine (HF.out _).mono ?_
      rintro e W3 ⟨rfl, hb⟩
      have hB3 := hB2.trans (hb.mono hB2.size)
      have iA3 := iA2.below hb iA2.lt
      have iR3 := iR2.below hb iR2.lt
      clear cA0 cA1 cR0 cR1 fR0 fR1
      clear hb hB2 iA2 iR2
      have cA0 : W3.cell? ⟨w.heap.size, 0, none⟩ = some (.string B) := iA3.cell 0
      have cA1 : W3.cell? ⟨w.heap.size, 1, none⟩ = some (.int .i64 a) := iA3.cell 1
      have cR0 : W3.cell? ⟨w.heap.size + 1, 0, none⟩ = some (.string ⟨#[]⟩) := iR3.cell 0
      have cR1 : W3.cell? ⟨w.heap.size + 1, 1, none⟩ = some (.int .i64 0) := iR3.cell 1
      have fR0 := iR3.frozen 0
      have fR1 := iR3.frozen 1
      go_wp2
      go_region_held3 (fun w' => w'.cell? ⟨w.heap.size, 0, none⟩ = some (.string B) ∧ w'.cell? ⟨w.heap.size, 1, none⟩ = some (.int .i64 a)) (go_keep) (fail)
      go_wp2
      have iZ : Is (((W3.setCell ⟨w.heap.size + 1, 0, none⟩ (.string B)).setCell ⟨w.heap.size + 1, 1, none⟩ (.int .i64 (a + (p - a)))).drew) (w.heap.size + 1) 64 #[.string B, .int .i64 (a + (p - a))] := (iR3.pair10 (.string B) (.int .i64 (a + (p - a)))).drewN 1
      exact bodyPost_ret (results_tct10 Try.results71 _ _ _ (w.heap.size + 1) 64 #[.string B, .int .i64 (a + (p - a))] (0, 0) _ rfl iZ Try.underlying64 infoCur10) rfl ⟨by rw [HR.out]; rfl, below_pair10 hB3 (by omega) _ _⟩
    · have hk : tnV10 B a = (0, a, (tnV10 B a).2.2) := tn_keep10 he
      have HR := Lib.hid (show tnR10 B a = .tuple #[.int .i64 0, .agg #[.string B, .int .i64 a], .int .i64 (tnV10 B a).2.2] by rw [tnR10, hk])
      rw [hk] at HF
      clear hk
      generalize (tnV10 B a).2.2 = e0 at *
      clear hr
      go_enter Try.func71, Try.ntmps71
      go_wp2_with fail
      rw [← hW1]
      have hB1 : Below w.heap.size w W1 := by rw [hW1]; exact ((Below.refl _ _).alloc (Nat.le_refl _) _).alloc (by simp) _
      have iA1 : Is W1 w.heap.size 64 #[.string B, .int .i64 a] := by rw [hW1]; exact heap_alloc2_old w _ _
      have iR1 : Is W1 (w.heap.size + 1) 64 #[.string ⟨#[]⟩, .int .i64 0] := by rw [hW1]; exact heap_alloc2_new w _ _
      clear hW1
      refine (C.out _).mono ?_
      rintro e W2 ⟨rfl, hb⟩
      have hB2 := hB1.trans (hb.mono hB1.size)
      have iA2 := iA1.below hb iA1.lt
      have iR2 := iR1.below hb iR1.lt
      clear hb hB1 iA1 iR1
      have cA0 : W2.cell? ⟨w.heap.size, 0, none⟩ = some (.string B) := iA2.cell 0
      have cA1 : W2.cell? ⟨w.heap.size, 1, none⟩ = some (.int .i64 a) := iA2.cell 1
      have cR0 : W2.cell? ⟨w.heap.size + 1, 0, none⟩ = some (.string ⟨#[]⟩) := iR2.cell 0
      have cR1 : W2.cell? ⟨w.heap.size + 1, 1, none⟩ = some (.int .i64 0) := iR2.cell 1
      have fR0 := iR2.frozen 0
      have fR1 := iR2.frozen 1
      go_wp2_with fail
      refine (HF.out _).mono ?_
      rintro e W3 ⟨rfl, hb⟩
      have hB3 := hB2.trans (hb.mono hB2.size)
      have iA3 := iA2.below hb iA2.lt
      have iR3 := iR2.below hb iR2.lt
      clear cA0 cA1 cR0 cR1 fR0 fR1
      clear hb hB2 iA2 iR2
      have cA0 : W3.cell? ⟨w.heap.size, 0, none⟩ = some (.string B) := iA3.cell 0
      have cA1 : W3.cell? ⟨w.heap.size, 1, none⟩ = some (.int .i64 a) := iA3.cell 1
      have cR0 : W3.cell? ⟨w.heap.size + 1, 0, none⟩ = some (.string ⟨#[]⟩) := iR3.cell 0
      have cR1 : W3.cell? ⟨w.heap.size + 1, 1, none⟩ = some (.int .i64 0) := iR3.cell 1
      have fR0 := iR3.frozen 0
      have fR1 := iR3.frozen 1
      go_wp2
      go_region_held3 (fun w' => w'.cell? ⟨w.heap.size, 0, none⟩ = some (.string B) ∧ w'.cell? ⟨w.heap.size, 1, none⟩ = some (.int .i64 a)) (go_keep) (fail)
      go_wp2
      have iZ : Is (((W3.setCell ⟨w.heap.size + 1, 0, none⟩ (.string B)).setCell ⟨w.heap.size + 1, 1, none⟩ (.int .i64 a)).drew) (w.heap.size + 1) 64 #[.string B, .int .i64 a] := (iR3.pair10 (.string B) (.int .i64 a)).drewN 1
      exact bodyPost_ret (results_tct10 Try.results71 _ _ _ (w.heap.size + 1) 64 #[.string B, .int .i64 a] (0, 0) _ rfl iZ Try.underlying64 infoCur10) rfl ⟨by rw [HR.out]; rfl, below_pair10 hB3 (by omega) _ _⟩
  | false =>
    have hv := tn_wrong10 hr
    have HR := Lib.hid (show tnR10 B a = .tuple #[.int .i64 0, .agg #[.string B, .int .i64 a], .int .i64 1] by rw [tnR10, hv])
    rw [hr] at C
    clear hr hv
    go_enter Try.func71, Try.ntmps71
    go_wp2_with fail
    rw [← hW1]
    have hB1 : Below w.heap.size w W1 := by rw [hW1]; exact ((Below.refl _ _).alloc (Nat.le_refl _) _).alloc (by simp) _
    have iA1 : Is W1 w.heap.size 64 #[.string B, .int .i64 a] := by rw [hW1]; exact heap_alloc2_old w _ _
    have iR1 : Is W1 (w.heap.size + 1) 64 #[.string ⟨#[]⟩, .int .i64 0] := by rw [hW1]; exact heap_alloc2_new w _ _
    clear hW1
    refine (C.out _).mono ?_
    rintro e W2 ⟨rfl, hb⟩
    have hB2 := hB1.trans (hb.mono hB1.size)
    have iA2 := iA1.below hb iA1.lt
    have iR2 := iR1.below hb iR1.lt
    clear hb hB1 iA1 iR1
    have cA0 : W2.cell? ⟨w.heap.size, 0, none⟩ = some (.string B) := iA2.cell 0
    have cA1 : W2.cell? ⟨w.heap.size, 1, none⟩ = some (.int .i64 a) := iA2.cell 1
    have cR0 : W2.cell? ⟨w.heap.size + 1, 0, none⟩ = some (.string ⟨#[]⟩) := iR2.cell 0
    have cR1 : W2.cell? ⟨w.heap.size + 1, 1, none⟩ = some (.int .i64 0) := iR2.cell 1
    have fR0 := iR2.frozen 0
    have fR1 := iR2.frozen 1
    go_wp2
    go_region_held3 (fun w' => w'.cell? ⟨w.heap.size, 0, none⟩ = some (.string B) ∧ w'.cell? ⟨w.heap.size, 1, none⟩ = some (.int .i64 a)) (go_keep) (fail)
    go_wp2
    have iZ : Is (((W2.setCell ⟨w.heap.size + 1, 0, none⟩ (.string B)).setCell ⟨w.heap.size + 1, 1, none⟩ (.int .i64 a)).drew) (w.heap.size + 1) 64 #[.string B, .int .i64 a] := (iR2.pair10 (.string B) (.int .i64 a)).drewN 1
    exact bodyPost_ret (results_tct10 Try.results71 _ _ _ (w.heap.size + 1) 64 #[.string B, .int .i64 a] (0, 0) _ rfl iZ Try.underlying64 infoCur10) rfl ⟨by rw [HR.out]; rfl, below_pair10 hB2 (by omega) _ _⟩

set_option maxRecDepth 100000 in
set_option maxHeartbeats 2000000 in
theorem take_l10 (B : ByteArray) (a : Int) (w : World) :
    Calls Try.prog 73 #[.agg #[.string B, .int .i64 a], .func (.func 74) #[] #[]] w fun e w' => ∃ A c, e = .returned (tlR10 B a A c) ∧ Lst10 w.heap.size w' A (tlV10 B a).1 ∧ Below w.heap.size w w' := by
  have C := Lib.hid (cright_any10 B a)
  obtain ⟨W1, hW1⟩ : ∃ W1, W1 = (w.alloc (.cells #[.string B, .int .i64 a] 64)).alloc (.cells #[.string ⟨#[]⟩, .int .i64 0] 64) := ⟨_, rfl⟩
  cases hr : rightV B a with
  | true =>
    obtain ⟨h1, h2, h3⟩ := rightV_iff.1 hr
    have HF := Lib.hid (flist_sh10 hr)
    have hsl := fun wx : World => run_slice_string (P := Try.prog) wx 9 B .i64 .i64 a (B.size : Int) Try.underlying9 h2 h3 (Int.le_refl _)
    rw [show ((B.size : Int)).toNat = B.size by omega] at hsl
    rw [hr] at C
    by_cases he : (tlV10 B a).2.2 = 0
    · obtain ⟨p1, p2⟩ := tl_to10 he
      obtain ⟨x, p, e0, hv⟩ : ∃ x p e0, tlV10 B a = (x, p, e0) := ⟨_, _, _, rfl⟩
      rw [hv] at he p1 p2
      rw [show e0 = 0 from he] at hv
      simp only [hv] at HF
      have HV := Lib.hid hv
      simp only at p1 p2
      have HR := Lib.hid (fun A c => show tlR10 B a A c = .tuple #[.slice A x.length c, .agg #[.string B, .int .i64 (a + (p - a))], .int .i64 0] by rw [tlR10, hv, show a + (p - a) = p by omega])
      have w1i := IntWalk.i64_in (a + (p - a)) (by omega)
      clear hr hv he
      go_enter Try.func73, Try.ntmps73
      go_wp2_with fail
      rw [← hW1]
      have hB1 : Below w.heap.size w W1 := by rw [hW1]; exact ((Below.refl _ _).alloc (Nat.le_refl _) _).alloc (by simp) _
      have iA1 : Is W1 w.heap.size 64 #[.string B, .int .i64 a] := by rw [hW1]; exact heap_alloc2_old w _ _
      have iR1 : Is W1 (w.heap.size + 1) 64 #[.string ⟨#[]⟩, .int .i64 0] := by rw [hW1]; exact heap_alloc2_new w _ _
      clear hW1
      refine (C.out _).mono ?_
      rintro e W2 ⟨rfl, hb⟩
      have hB2 := hB1.trans (hb.mono hB1.size)
      have iA2 := iA1.below hb iA1.lt
      have iR2 := iR1.below hb iR1.lt
      clear hb hB1 iA1 iR1
      have cA0 : W2.cell? ⟨w.heap.size, 0, none⟩ = some (.string B) := iA2.cell 0
      have cA1 : W2.cell? ⟨w.heap.size, 1, none⟩ = some (.int .i64 a) := iA2.cell 1
      have cR0 : W2.cell? ⟨w.heap.size + 1, 0, none⟩ = some (.string ⟨#[]⟩) := iR2.cell 0
      have cR1 : W2.cell? ⟨w.heap.size + 1, 1, none⟩ = some (.int .i64 0) := iR2.cell 1
      have fR0 := iR2.frozen 0
      have fR1 := iR2.frozen 1
      go_wp2_with fail
      refine (HF.out _).mono ?_
      rintro e W3 ⟨A', c', rfl, hL, hb⟩
      have hB3 := hB2.trans (hb.mono hB2.size)
      have iA3 := iA2.below hb iA2.lt
      have iR3 := iR2.below hb iR2.lt
      have hL3 : Lst10 W2.heap.size W3 A' x := hL
      have hB2s := hB2.size
      have hRl := iR2.lt
      clear hL
      clear cA0 cA1 cR0 cR1 fR0 fR1
      clear hb hB2 iA2 iR2
      have cA0 : W3.cell? ⟨w.heap.size, 0, none⟩ = some (.string B) := iA3.cell 0
      have cA1 : W3.cell? ⟨w.heap.size, 1, none⟩ = some (.int .i64 a) := iA3.cell 1
      have cR0 : W3.cell? ⟨w.heap.size + 1, 0, none⟩ = some (.string ⟨#[]⟩) := iR3.cell 0
      have cR1 : W3.cell? ⟨w.heap.size + 1, 1, none⟩ = some (.int .i64 0) := iR3.cell 1
      have fR0 := iR3.frozen 0
      have fR1 := iR3.frozen 1
      go_wp2
      go_region_held3 (fun w' => w'.cell? ⟨w.heap.size, 0, none⟩ = some (.string B) ∧ w'.cell? ⟨w.heap.size, 1, none⟩ = some (.int .i64 a)) (go_keep) (fail)
      go_wp2
      have iZ : Is (((W3.setCell ⟨w.heap.size + 1, 0, none⟩ (.string B)).setCell ⟨w.heap.size + 1, 1, none⟩ (.int .i64 (a + (p - a)))).drew) (w.heap.size + 1) 64 #[.string B, .int .i64 (a + (p - a))] := (iR3.pair10 (.string B) (.int .i64 (a + (p - a)))).drewN 1
      exact bodyPost_ret (results_tct10 Try.results73 _ _ _ (w.heap.size + 1) 64 #[.string B, .int .i64 (a + (p - a))] (0, 0) _ rfl iZ Try.underlying64 infoCur10) rfl ⟨A', c', by rw [HR.out]; rfl, by rw [HV.out]; exact (hL3.pair hRl _ _).mono hB2s, below_pair10 hB3 (by omega) _ _⟩
    · have hk : tlV10 B a = ([], a, (tlV10 B a).2.2) := tl_keep10 he
      have HV := Lib.hid hk
      have HR := Lib.hid (show tlR10 B a none 0 = .tuple #[.slice none 0 0, .agg #[.string B, .int .i64 a], .int .i64 (tlV10 B a).2.2] by rw [tlR10, hk]; rfl)
      rw [hk] at HF
      clear hk
      simp only [List.length_nil] at HF
      clear hr
      obtain ⟨e0, hee⟩ : ∃ e0, e0 = (tlV10 B a).2.2 := ⟨_, rfl⟩
      rw [← hee] at HF HR HV he
      clear hee
      go_enter Try.func73, Try.ntmps73
      go_wp2_with fail
      rw [← hW1]
      have hB1 : Below w.heap.size w W1 := by rw [hW1]; exact ((Below.refl _ _).alloc (Nat.le_refl _) _).alloc (by simp) _
      have iA1 : Is W1 w.heap.size 64 #[.string B, .int .i64 a] := by rw [hW1]; exact heap_alloc2_old w _ _
      have iR1 : Is W1 (w.heap.size + 1) 64 #[.string ⟨#[]⟩, .int .i64 0] := by rw [hW1]; exact heap_alloc2_new w _ _
      clear hW1
      refine (C.out _).mono ?_
      rintro e W2 ⟨rfl, hb⟩
      have hB2 := hB1.trans (hb.mono hB1.size)
      have iA2 := iA1.below hb iA1.lt
      have iR2 := iR1.below hb iR1.lt
      clear hb hB1 iA1 iR1
      have cA0 : W2.cell? ⟨w.heap.size, 0, none⟩ = some (.string B) := iA2.cell 0
      have cA1 : W2.cell? ⟨w.heap.size, 1, none⟩ = some (.int .i64 a) := iA2.cell 1
      have cR0 : W2.cell? ⟨w.heap.size + 1, 0, none⟩ = some (.string ⟨#[]⟩) := iR2.cell 0
      have cR1 : W2.cell? ⟨w.heap.size + 1, 1, none⟩ = some (.int .i64 0) := iR2.cell 1
      have fR0 := iR2.frozen 0
      have fR1 := iR2.frozen 1
      go_wp2_with fail
      refine (HF.out _).mono ?_
      rintro e W3 ⟨A', c', rfl, hL, hb⟩
      have hB3 := hB2.trans (hb.mono hB2.size)
      have iA3 := iA2.below hb iA2.lt
      have iR3 := iR2.below hb iR2.lt
      clear hL
      clear cA0 cA1 cR0 cR1 fR0 fR1
      clear hb hB2 iA2 iR2
      have cA0 : W3.cell? ⟨w.heap.size, 0, none⟩ = some (.string B) := iA3.cell 0
      have cA1 : W3.cell? ⟨w.heap.size, 1, none⟩ = some (.int .i64 a) := iA3.cell 1
      have cR0 : W3.cell? ⟨w.heap.size + 1, 0, none⟩ = some (.string ⟨#[]⟩) := iR3.cell 0
      have cR1 : W3.cell? ⟨w.heap.size + 1, 1, none⟩ = some (.int .i64 0) := iR3.cell 1
      have fR0 := iR3.frozen 0
      have fR1 := iR3.frozen 1
      go_wp2
      go_region_held3 (fun w' => w'.cell? ⟨w.heap.size, 0, none⟩ = some (.string B) ∧ w'.cell? ⟨w.heap.size, 1, none⟩ = some (.int .i64 a)) (go_keep) (fail)
      go_wp2
      have iZ : Is (((W3.setCell ⟨w.heap.size + 1, 0, none⟩ (.string B)).setCell ⟨w.heap.size + 1, 1, none⟩ (.int .i64 a)).drew) (w.heap.size + 1) 64 #[.string B, .int .i64 a] := (iR3.pair10 (.string B) (.int .i64 a)).drewN 1
      exact bodyPost_ret (results_tct10 Try.results73 _ _ _ (w.heap.size + 1) 64 #[.string B, .int .i64 a] (0, 0) _ rfl iZ Try.underlying64 infoCur10) rfl ⟨none, 0, by rw [HR.out]; rfl, by rw [HV.out]; exact Lst10.nil _ _, below_pair10 hB3 (by omega) _ _⟩
  | false =>
    have hv := tl_wrong10 hr
    have HV := Lib.hid hv
    have HR := Lib.hid (show tlR10 B a none 0 = .tuple #[.slice none 0 0, .agg #[.string B, .int .i64 a], .int .i64 1] by rw [tlR10, hv]; rfl)
    rw [hr] at C
    clear hr hv
    go_enter Try.func73, Try.ntmps73
    go_wp2_with fail
    rw [← hW1]
    have hB1 : Below w.heap.size w W1 := by rw [hW1]; exact ((Below.refl _ _).alloc (Nat.le_refl _) _).alloc (by simp) _
    have iA1 : Is W1 w.heap.size 64 #[.string B, .int .i64 a] := by rw [hW1]; exact heap_alloc2_old w _ _
    have iR1 : Is W1 (w.heap.size + 1) 64 #[.string ⟨#[]⟩, .int .i64 0] := by rw [hW1]; exact heap_alloc2_new w _ _
    clear hW1
    refine (C.out _).mono ?_
    rintro e W2 ⟨rfl, hb⟩
    have hB2 := hB1.trans (hb.mono hB1.size)
    have iA2 := iA1.below hb iA1.lt
    have iR2 := iR1.below hb iR1.lt
    clear hb hB1 iA1 iR1
    have cA0 : W2.cell? ⟨w.heap.size, 0, none⟩ = some (.string B) := iA2.cell 0
    have cA1 : W2.cell? ⟨w.heap.size, 1, none⟩ = some (.int .i64 a) := iA2.cell 1
    have cR0 : W2.cell? ⟨w.heap.size + 1, 0, none⟩ = some (.string ⟨#[]⟩) := iR2.cell 0
    have cR1 : W2.cell? ⟨w.heap.size + 1, 1, none⟩ = some (.int .i64 0) := iR2.cell 1
    have fR0 := iR2.frozen 0
    have fR1 := iR2.frozen 1
    go_wp2
    go_region_held3 (fun w' => w'.cell? ⟨w.heap.size, 0, none⟩ = some (.string B) ∧ w'.cell? ⟨w.heap.size, 1, none⟩ = some (.int .i64 a)) (go_keep) (fail)
    go_wp2
    have iZ : Is (((W2.setCell ⟨w.heap.size + 1, 0, none⟩ (.string B)).setCell ⟨w.heap.size + 1, 1, none⟩ (.int .i64 a)).drew) (w.heap.size + 1) 64 #[.string B, .int .i64 a] := (iR2.pair10 (.string B) (.int .i64 a)).drewN 1
    exact bodyPost_ret (results_tct10 Try.results73 _ _ _ (w.heap.size + 1) 64 #[.string B, .int .i64 a] (0, 0) _ rfl iZ Try.underlying64 infoCur10) rfl ⟨none, 0, by rw [HR.out]; rfl, by rw [HV.out]; exact Lst10.nil _ _, below_pair10 hB2 (by omega) _ _⟩
end Go.Proofs.Ytapfbcpbiagogaa
