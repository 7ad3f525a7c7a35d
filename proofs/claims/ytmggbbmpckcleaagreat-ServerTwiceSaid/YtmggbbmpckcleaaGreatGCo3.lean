import Derived.Test.YtmggbbmpckcleaaGreatGCo2
import Derived.Test.YtmggbbmpckcleaaGreatGPl
import Derived.Test.YtmggbbmpckcleaaGreatGKit
import Derived.Lib.MinMax
import Derived.OwnWalk
import Derived.SizedLaws
set_option maxRecDepth 100000
set_option maxHeartbeats 16000000
namespace Go.Proofs.YtmggbbmpckcleaaGreat
open Go.RowKit Go.Shelf
theorem infoCur10 : (Tryz.prog.info? 86).map (·.size) = some 2 := by kernel_rfl
theorem results_tct10 {fn : Func} {s p u : Tmp} {ty : TypeId} (h : fn.results = #[.tmp s, .cell p ty, .tmp u]) (tmps : Array Value) (P : Program) (w : World) (g : Nat) (t : TypeId) (cs : Array Value) (fr : Nat × Nat) (fs : Array Field)
  (hp : tmps.getD p undef = .pointer (some ⟨g, 0, none⟩)) (hg : w.heap[g]? = some (.cells cs t fr))
  (hu : P.underlying ty = some (.struct fs)) (hi : (P.info? ty).map (·.size) = some cs.size) :
  (results fn tmps).run P w = .ok (.tuple #[tmps.getD s undef, .agg cs, tmps.getD u undef]) w := by
 have e : (results fn tmps).run P w = ((asAddr (tmps.getD p undef)).run P w).andThen fun a w1 => ((loadVar ty a).run P w1).andThen fun v w2 => .ok (.tuple #[tmps.getD s undef, v, tmps.getD u undef]) w2 := by
  simp only [results, h]
  simp [Sem.run_bind, Result.andThen]
 rw [e, hp]
 simp [asAddr, run_loadVar_row w g t ty cs fr _ hg hu rfl hi]
theorem Is.pair10 {W : World} {g : Nat} {t : TypeId} {x y : Value} (h : Is W g t #[x, y]) (u v : Value) : Is ((W.setCell ⟨g, 0, none⟩ u).setCell ⟨g, 1, none⟩ v) g t #[u, v] := (h.set 0 u).set 1 v
theorem below_pair10 {B : Nat} {W0 W : World} (h : Below B W0 W) {g : Nat} (hg : B ≤ g) (u v : Value) : Below B W0 ((W.setCell ⟨g, 0, none⟩ u).setCell ⟨g, 1, none⟩ v).drew := belowN ((h.setCell (p := ⟨g, 0, none⟩) hg u).setCell (p := ⟨g, 1, none⟩) hg v) 1
theorem Lst10.pair {n : Nat} {W : World} {A : Option Addr} {l : List ByteArray} (h : Lst10 n W A l) {g : Nat} (hg : g < n) (u v : Value) : Lst10 n ((W.setCell ⟨g, 0, none⟩ u).setCell ⟨g, 1, none⟩ v).drew A l := ((h.far (p := ⟨g, 0, none⟩) hg u).far (p := ⟨g, 1, none⟩) hg v).drewN 1
def tnR10 (B : ByteArray) (a : Int) : Value := .tuple #[.int .i64 (tnV10 B a).1, .agg #[.string B, .int .i64 (tnV10 B a).2.1], .int .i64 (tnV10 B a).2.2]
def tlR10 (B : ByteArray) (a : Int) (A : Option Addr) (c : Nat) : Value := .tuple #[.slice A (tlV10 B a).1.length c, .agg #[.string B, .int .i64 (tlV10 B a).2.1], .int .i64 (tlV10 B a).2.2]
theorem tn_wrong10 {B : ByteArray} {a : Int} (h : rightV B a = false) : tnV10 B a = (0, a, 1) := by rw [tnV10, if_neg (by rw [h]; decide)]
theorem tl_wrong10 {B : ByteArray} {a : Int} (h : rightV B a = false) : tlV10 B a = ([], a, 1) := by
 have h1 := tn_wrong10 h
 rw [tlV10, if_neg (by rw [h1]; show ¬ (1 : Int) = 0; decide), h1]
theorem tn_to10 {B : ByteArray} {a : Int} (h : (tnV10 B a).2.2 = 0) : 0 ≤ (tnV10 B a).2.1 ∧ (tnV10 B a).2.1 ≤ 65536 := by
 obtain ⟨h1, h2⟩ := tn_ok10 h
 have := h1.right
 omega
theorem tl_to10 {B : ByteArray} {a : Int} (h : (tlV10 B a).2.2 = 0) : 0 ≤ (tlV10 B a).2.1 ∧ (tlV10 B a).2.1 ≤ 65536 := by
 have h1 := (tl_ok10 h).right
 have h2 := (tl_ok10 h).ahead
 omega
theorem fnum_sh10 {B : ByteArray} {a : Int} (hr : rightV B a = true) (w : World) :
  Calls Tryz.prog 117 #[.string (B.extract a.toNat B.size)] w fun e w' => e = .returned (.tuple #[.int .i64 (tnV10 B a).1, .int .i64 ((tnV10 B a).2.1 - a), .int .i64 (tnV10 B a).2.2]) ∧ Below w.heap.size w w' := by
 obtain ⟨h1, h2, h3⟩ := rightV_iff.1 hr
 have h := fnum_any10 (B.extract a.toNat B.size) w (by rw [ex_size10 (Nat.le_refl _)]; omega)
 have hs := tn_sh10 (B := B) (x := a.toNat) (by omega) h1 (a := 0) (by omega)
 rw [show ((a.toNat : Nat) : Int) + 0 = a by omega, show ((a.toNat : Nat) : Int) = a by omega] at hs
 rw [fnR10, hs] at h
 exact h.mono fun e w' ⟨h1, h2⟩ => ⟨h1, h2 ▸ Below.refl _ _⟩
theorem flist_any10 (s : ByteArray) (w : World) (h : s.size ≤ 65536) :
  Calls Tryz.prog 119 #[.string s] w fun e w' => ∃ A c, e = .returned (flR10 s A c) ∧ Lst10 w.heap.size w' A (tlV10 s 0).1 ∧ Below w.heap.size w w' := by
 by_cases h0 : (tnV10 s 0).2.2 = 0
 ·
  by_cases h1 : (tnV10 s 0).1 ≤ 1000
  · exact flist_go10 s w h h0 h1
  · exact flist_no10 s w h (.inr (by omega))
 · exact flist_no10 s w h (.inl h0)
theorem flist_sh10 {B : ByteArray} {a : Int} (hr : rightV B a = true) (w : World) :
  Calls Tryz.prog 119 #[.string (B.extract a.toNat B.size)] w fun e w' => ∃ A c, e = .returned (.tuple #[.slice A (tlV10 B a).1.length c, .int .i64 ((tlV10 B a).2.1 - a), .int .i64 (tlV10 B a).2.2]) ∧ Lst10 w.heap.size w' A (tlV10 B a).1 ∧ Below w.heap.size w w' := by
 obtain ⟨h1, h2, h3⟩ := rightV_iff.1 hr
 have h := flist_any10 (B.extract a.toNat B.size) w (by rw [ex_size10 (Nat.le_refl _)]; omega)
 have hs := tl_sh10 (B := B) (x := a.toNat) (by omega) h1
 rw [show ((a.toNat : Nat) : Int) = a by omega] at hs
 simp only [flR10, hs] at h
 exact h
theorem take_n10 (B : ByteArray) (a : Int) (w : World) :
  Calls Tryz.prog 116 #[.agg #[.string B, .int .i64 a], .func (.func 117) #[] #[]] w fun e w' => e = .returned (tnR10 B a) ∧ Below w.heap.size w w' := by
 have C := Lib.hid (cright_any10 B a)
 obtain ⟨W1, hW1⟩ : ∃ W1, W1 = (w.alloc (.cells #[.string B, .int .i64 a] 86)).alloc (.cells #[.string ⟨#[]⟩, .int .i64 0] 86) := ⟨_, rfl⟩
 cases hr : rightV B a with
 | true =>
  obtain ⟨h1, h2, h3⟩ := rightV_iff.1 hr
  have HF := Lib.hid (fnum_sh10 hr)
  have hsl := fun wx : World => run_slice_string (P := Tryz.prog) wx 9 B .i64 .i64 a (B.size : Int) Tryz.underlying9 h2 h3 (Int.le_refl _)
  rw [show ((B.size : Int)).toNat = B.size by omega] at hsl
  rw [hr] at C
  by_cases he : (tnV10 B a).2.2 = 0
  ·
   obtain ⟨p1, p2⟩ := tn_to10 he
   obtain ⟨x, p, e0, hv⟩ : ∃ x p e0, tnV10 B a = (x, p, e0) := ⟨_, _, _, rfl⟩
   rw [hv] at he p1 p2
   rw [show e0 = 0 from he] at hv
   simp only [hv] at HF
   simp only at p1 p2
   have HR := Lib.hid (show tnR10 B a = .tuple #[.int .i64 x, .agg #[.string B, .int .i64 (a + (p - a))], .int .i64 0] by rw [tnR10, hv, show a + (p - a) = p by omega])
   have w1i := IntWalk.i64_in (a + (p - a)) (by omega)
   clear hr hv he
   go_enter Tryz.func116, Tryz.ntmps116
   go_wp2_with fail
   rw [← hW1]
   have hB1 : Below w.heap.size w W1 := by rw [hW1]; exact ((Below.refl _ _).alloc (Nat.le_refl _) _).alloc (by simp) _
   have iA1 : Is W1 w.heap.size 86 #[.string B, .int .i64 a] := by rw [hW1]; exact heap_alloc2_old w _ _
   have iR1 : Is W1 (w.heap.size + 1) 86 #[.string ⟨#[]⟩, .int .i64 0] := by rw [hW1]; exact heap_alloc2_new w _ _
   clear hW1
   refine (C.out _).mono ?_
   rintro e W2 ⟨rfl, hb⟩
   have hB2 := hB1.trans (hb.mono hB1.size)
   have iA2 := iA1.below hb iA1.lt
   have iR2 := iR1.below hb iR1.lt
   clear hb hB1 iA1 iR1
   have cA0 : W2.cell? ⟨w.heap.size, 0, none⟩ = some (.string B) := iA2.cell 0
   have cA1 : W2.cell? ⟨w.heap.size, 1, none⟩ = some (.int .i64 a) := iA2.cell 1
   have cR0 : W2.cell? ⟨w.heap.size + 1, 0, none⟩ = some (.string ⟨#[]⟩) := iR2.cell 0
   have cR1 : W2.cell? ⟨w.heap.size + 1, 1, none⟩ = some (.int .i64 0) := iR2.cell 1
   have fR0 := iR2.frozen 0
   have fR1 := iR2.frozen 1
   go_wp2_with fail
   refine (HF.out _).mono ?_
   rintro e W3 ⟨rfl, hb⟩
   have hB3 := hB2.trans (hb.mono hB2.size)
   have iA3 := iA2.below hb iA2.lt
   have iR3 := iR2.below hb iR2.lt
   clear cA0 cA1 cR0 cR1 fR0 fR1
   clear hb hB2 iA2 iR2
   have cA0 : W3.cell? ⟨w.heap.size, 0, none⟩ = some (.string B) := iA3.cell 0
   have cA1 : W3.cell? ⟨w.heap.size, 1, none⟩ = some (.int .i64 a) := iA3.cell 1
   have cR0 : W3.cell? ⟨w.heap.size + 1, 0, none⟩ = some (.string ⟨#[]⟩) := iR3.cell 0
   have cR1 : W3.cell? ⟨w.heap.size + 1, 1, none⟩ = some (.int .i64 0) := iR3.cell 1
   have fR0 := iR3.frozen 0
   have fR1 := iR3.frozen 1
   go_wp2
   go_region_held3 (fun w' => w'.cell? ⟨w.heap.size, 0, none⟩ = some (.string B) ∧ w'.cell? ⟨w.heap.size, 1, none⟩ = some (.int .i64 a)) (go_keep) (fail)
   go_wp2
   have iZ : Is (((W3.setCell ⟨w.heap.size + 1, 0, none⟩ (.string B)).setCell ⟨w.heap.size + 1, 1, none⟩ (.int .i64 (a + (p - a)))).drew) (w.heap.size + 1) 86 #[.string B, .int .i64 (a + (p - a))] := (iR3.pair10 (.string B) (.int .i64 (a + (p - a)))).drewN 1
   exact bodyPost_ret (results_tct10 Tryz.results116 _ _ _ (w.heap.size + 1) 86 #[.string B, .int .i64 (a + (p - a))] (0, 0) _ rfl iZ Tryz.underlying86 infoCur10) rfl ⟨by rw [HR.out]; rfl, below_pair10 hB3 (by omega) _ _⟩
  ·
   have hk : tnV10 B a = (0, a, (tnV10 B a).2.2) := tn_keep10 he
   have HR := Lib.hid (show tnR10 B a = .tuple #[.int .i64 0, .agg #[.string B, .int .i64 a], .int .i64 (tnV10 B a).2.2] by rw [tnR10, hk])
   rw [hk] at HF
   clear hk
   generalize (tnV10 B a).2.2 = e0 at *
   clear hr
   go_enter Tryz.func116, Tryz.ntmps116
   go_wp2_with fail
   rw [← hW1]
   have hB1 : Below w.heap.size w W1 := by rw [hW1]; exact ((Below.refl _ _).alloc (Nat.le_refl _) _).alloc (by simp) _
   have iA1 : Is W1 w.heap.size 86 #[.string B, .int .i64 a] := by rw [hW1]; exact heap_alloc2_old w _ _
   have iR1 : Is W1 (w.heap.size + 1) 86 #[.string ⟨#[]⟩, .int .i64 0] := by rw [hW1]; exact heap_alloc2_new w _ _
   clear hW1
   refine (C.out _).mono ?_
   rintro e W2 ⟨rfl, hb⟩
   have hB2 := hB1.trans (hb.mono hB1.size)
   have iA2 := iA1.below hb iA1.lt
   have iR2 := iR1.below hb iR1.lt
   clear hb hB1 iA1 iR1
   have cA0 : W2.cell? ⟨w.heap.size, 0, none⟩ = some (.string B) := iA2.cell 0
   have cA1 : W2.cell? ⟨w.heap.size, 1, none⟩ = some (.int .i64 a) := iA2.cell 1
   have cR0 : W2.cell? ⟨w.heap.size + 1, 0, none⟩ = some (.string ⟨#[]⟩) := iR2.cell 0
   have cR1 : W2.cell? ⟨w.heap.size + 1, 1, none⟩ = some (.int .i64 0) := iR2.cell 1
   have fR0 := iR2.frozen 0
   have fR1 := iR2.frozen 1
   go_wp2_with fail
   refine (HF.out _).mono ?_
   rintro e W3 ⟨rfl, hb⟩
   have hB3 := hB2.trans (hb.mono hB2.size)
   have iA3 := iA2.below hb iA2.lt
   have iR3 := iR2.below hb iR2.lt
   clear cA0 cA1 cR0 cR1 fR0 fR1
   clear hb hB2 iA2 iR2
   have cA0 : W3.cell? ⟨w.heap.size, 0, none⟩ = some (.string B) := iA3.cell 0
   have cA1 : W3.cell? ⟨w.heap.size, 1, none⟩ = some (.int .i64 a) := iA3.cell 1
   have cR0 : W3.cell? ⟨w.heap.size + 1, 0, none⟩ = some (.string ⟨#[]⟩) := iR3.cell 0
   have cR1 : W3.cell? ⟨w.heap.size + 1, 1, none⟩ = some (.int .i64 0) := iR3.cell 1
   have fR0 := iR3.frozen 0
   have fR1 := iR3.frozen 1
   go_wp2
   go_region_held3 (fun w' => w'.cell? ⟨w.heap.size, 0, none⟩ = some (.string B) ∧ w'.cell? ⟨w.heap.size, 1, none⟩ = some (.int .i64 a)) (go_keep) (fail)
   go_wp2
   have iZ : Is (((W3.setCell ⟨w.heap.size + 1, 0, none⟩ (.string B)).setCell ⟨w.heap.size + 1, 1, none⟩ (.int .i64 a)).drew) (w.heap.size + 1) 86 #[.string B, .int .i64 a] := (iR3.pair10 (.string B) (.int .i64 a)).drewN 1
   exact bodyPost_ret (results_tct10 Tryz.results116 _ _ _ (w.heap.size + 1) 86 #[.string B, .int .i64 a] (0, 0) _ rfl iZ Tryz.underlying86 infoCur10) rfl ⟨by rw [HR.out]; rfl, below_pair10 hB3 (by omega) _ _⟩
 | false =>
  have hv := tn_wrong10 hr
  have HR := Lib.hid (show tnR10 B a = .tuple #[.int .i64 0, .agg #[.string B, .int .i64 a], .int .i64 1] by rw [tnR10, hv])
  rw [hr] at C
  clear hr hv
  go_enter Tryz.func116, Tryz.ntmps116
  go_wp2_with fail
  rw [← hW1]
  have hB1 : Below w.heap.size w W1 := by rw [hW1]; exact ((Below.refl _ _).alloc (Nat.le_refl _) _).alloc (by simp) _
  have iA1 : Is W1 w.heap.size 86 #[.string B, .int .i64 a] := by rw [hW1]; exact heap_alloc2_old w _ _
  have iR1 : Is W1 (w.heap.size + 1) 86 #[.string ⟨#[]⟩, .int .i64 0] := by rw [hW1]; exact heap_alloc2_new w _ _
  clear hW1
  refine (C.out _).mono ?_
  rintro e W2 ⟨rfl, hb⟩
  have hB2 := hB1.trans (hb.mono hB1.size)
  have iA2 := iA1.below hb iA1.lt
  have iR2 := iR1.below hb iR1.lt
  clear hb hB1 iA1 iR1
  have cA0 : W2.cell? ⟨w.heap.size, 0, none⟩ = some (.string B) := iA2.cell 0
  have cA1 : W2.cell? ⟨w.heap.size, 1, none⟩ = some (.int .i64 a) := iA2.cell 1
  have cR0 : W2.cell? ⟨w.heap.size + 1, 0, none⟩ = some (.string ⟨#[]⟩) := iR2.cell 0
  have cR1 : W2.cell? ⟨w.heap.size + 1, 1, none⟩ = some (.int .i64 0) := iR2.cell 1
  have fR0 := iR2.frozen 0
  have fR1 := iR2.frozen 1
  go_wp2
  go_region_held3 (fun w' => w'.cell? ⟨w.heap.size, 0, none⟩ = some (.string B) ∧ w'.cell? ⟨w.heap.size, 1, none⟩ = some (.int .i64 a)) (go_keep) (fail)
  go_wp2
  have iZ : Is (((W2.setCell ⟨w.heap.size + 1, 0, none⟩ (.string B)).setCell ⟨w.heap.size + 1, 1, none⟩ (.int .i64 a)).drew) (w.heap.size + 1) 86 #[.string B, .int .i64 a] := (iR2.pair10 (.string B) (.int .i64 a)).drewN 1
  exact bodyPost_ret (results_tct10 Tryz.results116 _ _ _ (w.heap.size + 1) 86 #[.string B, .int .i64 a] (0, 0) _ rfl iZ Tryz.underlying86 infoCur10) rfl ⟨by rw [HR.out]; rfl, below_pair10 hB2 (by omega) _ _⟩
theorem take_l10 (B : ByteArray) (a : Int) (w : World) :
  Calls Tryz.prog 118 #[.agg #[.string B, .int .i64 a], .func (.func 119) #[] #[]] w fun e w' => ∃ A c, e = .returned (tlR10 B a A c) ∧ Lst10 w.heap.size w' A (tlV10 B a).1 ∧ Below w.heap.size w w' := by
 have C := Lib.hid (cright_any10 B a)
 obtain ⟨W1, hW1⟩ : ∃ W1, W1 = (w.alloc (.cells #[.string B, .int .i64 a] 86)).alloc (.cells #[.string ⟨#[]⟩, .int .i64 0] 86) := ⟨_, rfl⟩
 cases hr : rightV B a with
 | true =>
  obtain ⟨h1, h2, h3⟩ := rightV_iff.1 hr
  have HF := Lib.hid (flist_sh10 hr)
  have hsl := fun wx : World => run_slice_string (P := Tryz.prog) wx 9 B .i64 .i64 a (B.size : Int) Tryz.underlying9 h2 h3 (Int.le_refl _)
  rw [show ((B.size : Int)).toNat = B.size by omega] at hsl
  rw [hr] at C
  by_cases he : (tlV10 B a).2.2 = 0
  ·
   obtain ⟨p1, p2⟩ := tl_to10 he
   obtain ⟨x, p, e0, hv⟩ : ∃ x p e0, tlV10 B a = (x, p, e0) := ⟨_, _, _, rfl⟩
   rw [hv] at he p1 p2
   rw [show e0 = 0 from he] at hv
   simp only [hv] at HF
   have HV := Lib.hid hv
   simp only at p1 p2
   have HR := Lib.hid (fun A c => show tlR10 B a A c = .tuple #[.slice A x.length c, .agg #[.string B, .int .i64 (a + (p - a))], .int .i64 0] by rw [tlR10, hv, show a + (p - a) = p by omega])
   have w1i := IntWalk.i64_in (a + (p - a)) (by omega)
   clear hr hv he
   go_enter Tryz.func118, Tryz.ntmps118
   go_wp2_with fail
   rw [← hW1]
   have hB1 : Below w.heap.size w W1 := by rw [hW1]; exact ((Below.refl _ _).alloc (Nat.le_refl _) _).alloc (by simp) _
   have iA1 : Is W1 w.heap.size 86 #[.string B, .int .i64 a] := by rw [hW1]; exact heap_alloc2_old w _ _
   have iR1 : Is W1 (w.heap.size + 1) 86 #[.string ⟨#[]⟩, .int .i64 0] := by rw [hW1]; exact heap_alloc2_new w _ _
   clear hW1
   refine (C.out _).mono ?_
   rintro e W2 ⟨rfl, hb⟩
   have hB2 := hB1.trans (hb.mono hB1.size)
   have iA2 := iA1.below hb iA1.lt
   have iR2 := iR1.below hb iR1.lt
   clear hb hB1 iA1 iR1
   have cA0 : W2.cell? ⟨w.heap.size, 0, none⟩ = some (.string B) := iA2.cell 0
   have cA1 : W2.cell? ⟨w.heap.size, 1, none⟩ = some (.int .i64 a) := iA2.cell 1
   have cR0 : W2.cell? ⟨w.heap.size + 1, 0, none⟩ = some (.string ⟨#[]⟩) := iR2.cell 0
   have cR1 : W2.cell? ⟨w.heap.size + 1, 1, none⟩ = some (.int .i64 0) := iR2.cell 1
   have fR0 := iR2.frozen 0
   have fR1 := iR2.frozen 1
   go_wp2_with fail
   refine (HF.out _).mono ?_
   rintro e W3 ⟨A', c', rfl, hL, hb⟩
   have hB3 := hB2.trans (hb.mono hB2.size)
   have iA3 := iA2.below hb iA2.lt
   have iR3 := iR2.below hb iR2.lt
   have hL3 : Lst10 W2.heap.size W3 A' x := hL
   have hB2s := hB2.size
   have hRl := iR2.lt
   clear hL
   clear cA0 cA1 cR0 cR1 fR0 fR1
   clear hb hB2 iA2 iR2
   have cA0 : W3.cell? ⟨w.heap.size, 0, none⟩ = some (.string B) := iA3.cell 0
   have cA1 : W3.cell? ⟨w.heap.size, 1, none⟩ = some (.int .i64 a) := iA3.cell 1
   have cR0 : W3.cell? ⟨w.heap.size + 1, 0, none⟩ = some (.string ⟨#[]⟩) := iR3.cell 0
   have cR1 : W3.cell? ⟨w.heap.size + 1, 1, none⟩ = some (.int .i64 0) := iR3.cell 1
   have fR0 := iR3.frozen 0
   have fR1 := iR3.frozen 1
   go_wp2
   go_region_held3 (fun w' => w'.cell? ⟨w.heap.size, 0, none⟩ = some (.string B) ∧ w'.cell? ⟨w.heap.size, 1, none⟩ = some (.int .i64 a)) (go_keep) (fail)
   go_wp2
   have iZ : Is (((W3.setCell ⟨w.heap.size + 1, 0, none⟩ (.string B)).setCell ⟨w.heap.size + 1, 1, none⟩ (.int .i64 (a + (p - a)))).drew) (w.heap.size + 1) 86 #[.string B, .int .i64 (a + (p - a))] := (iR3.pair10 (.string B) (.int .i64 (a + (p - a)))).drewN 1
   exact bodyPost_ret (results_tct10 Tryz.results118 _ _ _ (w.heap.size + 1) 86 #[.string B, .int .i64 (a + (p - a))] (0, 0) _ rfl iZ Tryz.underlying86 infoCur10) rfl ⟨A', c', by rw [HR.out]; rfl, by rw [HV.out]; exact (hL3.pair hRl _ _).mono hB2s, below_pair10 hB3 (by omega) _ _⟩
  ·
   have hk : tlV10 B a = ([], a, (tlV10 B a).2.2) := tl_keep10 he
   have HV := Lib.hid hk
   have HR := Lib.hid (show tlR10 B a none 0 = .tuple #[.slice none 0 0, .agg #[.string B, .int .i64 a], .int .i64 (tlV10 B a).2.2] by rw [tlR10, hk]; rfl)
   rw [hk] at HF
   clear hk
   simp only [List.length_nil] at HF
   clear hr
   obtain ⟨e0, hee⟩ : ∃ e0, e0 = (tlV10 B a).2.2 := ⟨_, rfl⟩
   rw [← hee] at HF HR HV he
   clear hee
   go_enter Tryz.func118, Tryz.ntmps118
   go_wp2_with fail
   rw [← hW1]
   have hB1 : Below w.heap.size w W1 := by rw [hW1]; exact ((Below.refl _ _).alloc (Nat.le_refl _) _).alloc (by simp) _
   have iA1 : Is W1 w.heap.size 86 #[.string B, .int .i64 a] := by rw [hW1]; exact heap_alloc2_old w _ _
   have iR1 : Is W1 (w.heap.size + 1) 86 #[.string ⟨#[]⟩, .int .i64 0] := by rw [hW1]; exact heap_alloc2_new w _ _
   clear hW1
   refine (C.out _).mono ?_
   rintro e W2 ⟨rfl, hb⟩
   have hB2 := hB1.trans (hb.mono hB1.size)
   have iA2 := iA1.below hb iA1.lt
   have iR2 := iR1.below hb iR1.lt
   clear hb hB1 iA1 iR1
   have cA0 : W2.cell? ⟨w.heap.size, 0, none⟩ = some (.string B) := iA2.cell 0
   have cA1 : W2.cell? ⟨w.heap.size, 1, none⟩ = some (.int .i64 a) := iA2.cell 1
   have cR0 : W2.cell? ⟨w.heap.size + 1, 0, none⟩ = some (.string ⟨#[]⟩) := iR2.cell 0
   have cR1 : W2.cell? ⟨w.heap.size + 1, 1, none⟩ = some (.int .i64 0) := iR2.cell 1
   have fR0 := iR2.frozen 0
   have fR1 := iR2.frozen 1
   go_wp2_with fail
   refine (HF.out _).mono ?_
   rintro e W3 ⟨A', c', rfl, hL, hb⟩
   have hB3 := hB2.trans (hb.mono hB2.size)
   have iA3 := iA2.below hb iA2.lt
   have iR3 := iR2.below hb iR2.lt
   clear hL
   clear cA0 cA1 cR0 cR1 fR0 fR1
   clear hb hB2 iA2 iR2
   have cA0 : W3.cell? ⟨w.heap.size, 0, none⟩ = some (.string B) := iA3.cell 0
   have cA1 : W3.cell? ⟨w.heap.size, 1, none⟩ = some (.int .i64 a) := iA3.cell 1
   have cR0 : W3.cell? ⟨w.heap.size + 1, 0, none⟩ = some (.string ⟨#[]⟩) := iR3.cell 0
   have cR1 : W3.cell? ⟨w.heap.size + 1, 1, none⟩ = some (.int .i64 0) := iR3.cell 1
   have fR0 := iR3.frozen 0
   have fR1 := iR3.frozen 1
   go_wp2
   go_region_held3 (fun w' => w'.cell? ⟨w.heap.size, 0, none⟩ = some (.string B) ∧ w'.cell? ⟨w.heap.size, 1, none⟩ = some (.int .i64 a)) (go_keep) (fail)
   go_wp2
   have iZ : Is (((W3.setCell ⟨w.heap.size + 1, 0, none⟩ (.string B)).setCell ⟨w.heap.size + 1, 1, none⟩ (.int .i64 a)).drew) (w.heap.size + 1) 86 #[.string B, .int .i64 a] := (iR3.pair10 (.string B) (.int .i64 a)).drewN 1
   exact bodyPost_ret (results_tct10 Tryz.results118 _ _ _ (w.heap.size + 1) 86 #[.string B, .int .i64 a] (0, 0) _ rfl iZ Tryz.underlying86 infoCur10) rfl ⟨none, 0, by rw [HR.out]; rfl, by rw [HV.out]; exact Lst10.nil _ _, below_pair10 hB3 (by omega) _ _⟩
 | false =>
  have hv := tl_wrong10 hr
  have HV := Lib.hid hv
  have HR := Lib.hid (show tlR10 B a none 0 = .tuple #[.slice none 0 0, .agg #[.string B, .int .i64 a], .int .i64 1] by rw [tlR10, hv]; rfl)
  rw [hr] at C
  clear hr hv
  go_enter Tryz.func118, Tryz.ntmps118
  go_wp2_with fail
  rw [← hW1]
  have hB1 : Below w.heap.size w W1 := by rw [hW1]; exact ((Below.refl _ _).alloc (Nat.le_refl _) _).alloc (by simp) _
  have iA1 : Is W1 w.heap.size 86 #[.string B, .int .i64 a] := by rw [hW1]; exact heap_alloc2_old w _ _
  have iR1 : Is W1 (w.heap.size + 1) 86 #[.string ⟨#[]⟩, .int .i64 0] := by rw [hW1]; exact heap_alloc2_new w _ _
  clear hW1
  refine (C.out _).mono ?_
  rintro e W2 ⟨rfl, hb⟩
  have hB2 := hB1.trans (hb.mono hB1.size)
  have iA2 := iA1.below hb iA1.lt
  have iR2 := iR1.below hb iR1.lt
  clear hb hB1 iA1 iR1
  have cA0 : W2.cell? ⟨w.heap.size, 0, none⟩ = some (.string B) := iA2.cell 0
  have cA1 : W2.cell? ⟨w.heap.size, 1, none⟩ = some (.int .i64 a) := iA2.cell 1
  have cR0 : W2.cell? ⟨w.heap.size + 1, 0, none⟩ = some (.string ⟨#[]⟩) := iR2.cell 0
  have cR1 : W2.cell? ⟨w.heap.size + 1, 1, none⟩ = some (.int .i64 0) := iR2.cell 1
  have fR0 := iR2.frozen 0
  have fR1 := iR2.frozen 1
  go_wp2
  go_region_held3 (fun w' => w'.cell? ⟨w.heap.size, 0, none⟩ = some (.string B) ∧ w'.cell? ⟨w.heap.size, 1, none⟩ = some (.int .i64 a)) (go_keep) (fail)
  go_wp2
  have iZ : Is (((W2.setCell ⟨w.heap.size + 1, 0, none⟩ (.string B)).setCell ⟨w.heap.size + 1, 1, none⟩ (.int .i64 a)).drew) (w.heap.size + 1) 86 #[.string B, .int .i64 a] := (iR2.pair10 (.string B) (.int .i64 a)).drewN 1
  exact bodyPost_ret (results_tct10 Tryz.results118 _ _ _ (w.heap.size + 1) 86 #[.string B, .int .i64 a] (0, 0) _ rfl iZ Tryz.underlying86 infoCur10) rfl ⟨none, 0, by rw [HR.out]; rfl, by rw [HV.out]; exact Lst10.nil _ _, below_pair10 hB2 (by omega) _ _⟩
end Go.Proofs.YtmggbbmpckcleaaGreat
namespace Go.Proofs.YtmggbbmpckcleaaGreat
open Go.RowKit Go.Shelf
theorem cn_any10 (B : ByteArray) (a : Int) (w : World) :
  Calls Tryz.prog 95 #[.agg #[.string B, .int .i64 a]] w fun e w' => e = .returned (tnR10 B a) ∧ Below w.heap.size w w' := by
 have C := Lib.hid (take_n10 B a)
 obtain ⟨W1, hW1⟩ : ∃ W1, W1 = (w.alloc (.cells #[.string B, .int .i64 a] 86)).alloc (.cells #[.string ⟨#[]⟩, .int .i64 0] 86) := ⟨_, rfl⟩
 rw [tnR10] at C ⊢
 generalize tnV10 B a = V at *
 obtain ⟨x, p, e0⟩ := V
 simp only at C ⊢
 go_enter Tryz.func95, Tryz.ntmps95
 go_wp2_with fail
 rw [← hW1]
 have hB1 : Below w.heap.size w W1 := by rw [hW1]; exact ((Below.refl _ _).alloc (Nat.le_refl _) _).alloc (by simp) _
 have iA1 : Is W1 w.heap.size 86 #[.string B, .int .i64 a] := by rw [hW1]; exact heap_alloc2_old w _ _
 have iR1 : Is W1 (w.heap.size + 1) 86 #[.string ⟨#[]⟩, .int .i64 0] := by rw [hW1]; exact heap_alloc2_new w _ _
 clear hW1
 refine (C.out _).mono ?_
 rintro e W2 ⟨rfl, hb⟩
 have hB2 := hB1.trans (hb.mono hB1.size)
 have iA2 := iA1.below hb iA1.lt
 have iR2 := iR1.below hb iR1.lt
 clear hb hB1 iA1 iR1
 have cA0 : W2.cell? ⟨w.heap.size, 0, none⟩ = some (.string B) := iA2.cell 0
 have cA1 : W2.cell? ⟨w.heap.size, 1, none⟩ = some (.int .i64 a) := iA2.cell 1
 have cR0 : W2.cell? ⟨w.heap.size + 1, 0, none⟩ = some (.string ⟨#[]⟩) := iR2.cell 0
 have cR1 : W2.cell? ⟨w.heap.size + 1, 1, none⟩ = some (.int .i64 0) := iR2.cell 1
 have fR0 := iR2.frozen 0
 have fR1 := iR2.frozen 1
 go_wp2
 have iZ : Is ((W2.setCell ⟨w.heap.size + 1, 0, none⟩ (.string B)).setCell ⟨w.heap.size + 1, 1, none⟩ (.int .i64 p)) (w.heap.size + 1) 86 #[.string B, .int .i64 p] := iR2.pair10 _ _
 exact bodyPost_ret (results_tct10 Tryz.results95 _ _ _ (w.heap.size + 1) 86 #[.string B, .int .i64 p] (0, 0) _ rfl iZ Tryz.underlying86 infoCur10) rfl ⟨rfl, (hB2.setCell (p := ⟨w.heap.size + 1, 0, none⟩) (by simp) _).setCell (p := ⟨w.heap.size + 1, 1, none⟩) (by simp) _⟩
theorem cl_any10 (B : ByteArray) (a : Int) (w : World) :
  Calls Tryz.prog 97 #[.agg #[.string B, .int .i64 a]] w fun e w' => ∃ A c, e = .returned (tlR10 B a A c) ∧ Lst10 w.heap.size w' A (tlV10 B a).1 ∧ Below w.heap.size w w' := by
 have C := Lib.hid (take_l10 B a)
 obtain ⟨W1, hW1⟩ : ∃ W1, W1 = (w.alloc (.cells #[.string B, .int .i64 a] 86)).alloc (.cells #[.string ⟨#[]⟩, .int .i64 0] 86) := ⟨_, rfl⟩
 simp only [tlR10] at C ⊢
 generalize tlV10 B a = V at *
 obtain ⟨x, p, e0⟩ := V
 simp only at C ⊢
 go_enter Tryz.func97, Tryz.ntmps97
 go_wp2_with fail
 rw [← hW1]
 have hB1 : Below w.heap.size w W1 := by rw [hW1]; exact ((Below.refl _ _).alloc (Nat.le_refl _) _).alloc (by simp) _
 have iA1 : Is W1 w.heap.size 86 #[.string B, .int .i64 a] := by rw [hW1]; exact heap_alloc2_old w _ _
 have iR1 : Is W1 (w.heap.size + 1) 86 #[.string ⟨#[]⟩, .int .i64 0] := by rw [hW1]; exact heap_alloc2_new w _ _
 clear hW1
 refine (C.out _).mono ?_
 rintro e W2 ⟨A', c', rfl, hL, hb⟩
 have hB2 := hB1.trans (hb.mono hB1.size)
 have iA2 := iA1.below hb iA1.lt
 have iR2 := iR1.below hb iR1.lt
 have hL2 : Lst10 W1.heap.size W2 A' x := hL
 have hB1s := hB1.size
 have hRl := iR1.lt
 clear hL
 clear hb hB1 iA1 iR1
 have cA0 : W2.cell? ⟨w.heap.size, 0, none⟩ = some (.string B) := iA2.cell 0
 have cA1 : W2.cell? ⟨w.heap.size, 1, none⟩ = some (.int .i64 a) := iA2.cell 1
 have cR0 : W2.cell? ⟨w.heap.size + 1, 0, none⟩ = some (.string ⟨#[]⟩) := iR2.cell 0
 have cR1 : W2.cell? ⟨w.heap.size + 1, 1, none⟩ = some (.int .i64 0) := iR2.cell 1
 have fR0 := iR2.frozen 0
 have fR1 := iR2.frozen 1
 go_wp2
 have iZ : Is ((W2.setCell ⟨w.heap.size + 1, 0, none⟩ (.string B)).setCell ⟨w.heap.size + 1, 1, none⟩ (.int .i64 p)) (w.heap.size + 1) 86 #[.string B, .int .i64 p] := iR2.pair10 _ _
 exact bodyPost_ret (results_tct10 Tryz.results97 _ _ _ (w.heap.size + 1) 86 #[.string B, .int .i64 p] (0, 0) _ rfl iZ Tryz.underlying86 infoCur10) rfl ⟨A', c', rfl, (((hL2.far (p := ⟨w.heap.size + 1, 0, none⟩) hRl _).far (p := ⟨w.heap.size + 1, 1, none⟩) hRl _)).mono hB1s, (hB2.setCell (p := ⟨w.heap.size + 1, 0, none⟩) (by simp) _).setCell (p := ⟨w.heap.size + 1, 1, none⟩) (by simp) _⟩
theorem cend_any10 (B : ByteArray) (a : Int) (w : World) :
  Calls Tryz.prog 98 #[.agg #[.string B, .int .i64 a]] w fun e w' => e = .returned (.int .i64 (endV10 B a)) ∧ Below w.heap.size w w' := by
 have C := Lib.hid (cright_any10 B a)
 have hB : Below w.heap.size w (w.alloc (.cells #[.string B, .int .i64 a] 86)) := (Below.refl _ _).alloc (Nat.le_refl _) _
 have i1 := Is.new w 86 #[.string B, .int .i64 a]
 obtain ⟨W1, hW1⟩ : ∃ W1, W1 = w.alloc (.cells #[.string B, .int .i64 a] 86) := ⟨_, rfl⟩
 rw [← hW1] at hB i1
 cases hr : rightV B a with
 | true =>
  rw [hr] at C
  by_cases h : a < (B.size : Int)
  ·
   have hv : endV10 B a = 13 := by rw [endV10, if_pos hr, if_pos h]
   rw [hv]
   clear hr hv
   go_enter Tryz.func98, Tryz.ntmps98
   go_wp2_with fail
   rw [← hW1]
   clear hW1
   refine (C.out _).mono ?_
   rintro e W2 ⟨rfl, hb⟩
   have i2 := i1.below hb i1.lt
   have c0 : W2.cell? ⟨w.heap.size, 0, none⟩ = some (.string B) := i2.cell 0
   have c1 : W2.cell? ⟨w.heap.size, 1, none⟩ = some (.int .i64 a) := i2.cell 1
   go_wp2
   go_ret
   exact ⟨rfl, hB.trans (hb.mono hB.size)⟩
  ·
   have hv : endV10 B a = 0 := by rw [endV10, if_pos hr, if_neg h]
   rw [hv]
   clear hr hv
   go_enter Tryz.func98, Tryz.ntmps98
   go_wp2_with fail
   rw [← hW1]
   clear hW1
   refine (C.out _).mono ?_
   rintro e W2 ⟨rfl, hb⟩
   have i2 := i1.below hb i1.lt
   have c0 : W2.cell? ⟨w.heap.size, 0, none⟩ = some (.string B) := i2.cell 0
   have c1 : W2.cell? ⟨w.heap.size, 1, none⟩ = some (.int .i64 a) := i2.cell 1
   go_wp2
   go_ret
   exact ⟨rfl, hB.trans (hb.mono hB.size)⟩
 | false =>
  rw [hr] at C
  have hv : endV10 B a = 1 := by rw [endV10, if_neg (by rw [hr]; decide)]
  rw [hv]
  clear hr hv
  go_enter Tryz.func98, Tryz.ntmps98
  go_wp2_with fail
  rw [← hW1]
  clear hW1
  refine (C.out _).mono ?_
  rintro e W2 ⟨rfl, hb⟩
  go_wp2
  go_ret
  exact ⟨rfl, hB.trans (hb.mono hB.size)⟩
end Go.Proofs.YtmggbbmpckcleaaGreat
namespace Go.Proofs.YtmggbbmpckcleaaGreat
open Go.RowKit Go.Shelf
end Go.Proofs.YtmggbbmpckcleaaGreat
namespace Go.Proofs.YtmggbbmpckcleaaGreat
open Go.RowKit Go.Shelf
end Go.Proofs.YtmggbbmpckcleaaGreat
namespace Go.Proofs.YtmggbbmpckcleaaGreat
open Go.RowKit Go.Shelf
theorem RowV.lst10 {W : World} {n c m : Nat} {A : Option Addr} {l : List ByteArray} (h : RowV W n 9 1 A c m (tL10 l)) : Lst10 n W A l := ⟨h.inV, fun p e => by
 subst e
 rcases h.2 with ⟨h0, _⟩ | ⟨g, cap, cur, h0, hb, _⟩
 · cases h0
 · cases h0; exact hb⟩
end Go.Proofs.YtmggbbmpckcleaaGreat
namespace Go.Proofs.YtmggbbmpckcleaaGreat
open Go.RowKit Go.Shelf
theorem exec_append10 {P : Program} {o : Oper} {a : Act} {s x : Operand} {t : TypeId} {v u r : Value} {w w' : World} (ho : o.op = .call { callee := .builtin .append, args := #[s, x], argTypes := #[t, t] }) (hs : a.eval s = v) (hx : a.eval x = u)
  (hr : (Builtin.append_ #[t, t] o.type #[v, u]).run P w = .ok r w') : (execOp a.eval o).run P w = .ok (.value r) w' := by
 simp [execOp, ho, resolve, invoke, builtin, hs, hx, hr, Result.andThen]
end Go.Proofs.YtmggbbmpckcleaaGreat
namespace Go.Proofs.YtmggbbmpckcleaaGreat
open Go.RowKit Go.Shelf
end Go.Proofs.YtmggbbmpckcleaaGreat
namespace Go.Proofs.YtmggbbmpckcleaaGreat
open Go.RowKit Go.Shelf
section
variable {P : Program} {md : Region.Mode} {ops : Array Oper} {Q : Exit → Act → World → Prop} {S : World → Prop} {fuel i : Nat} {listed : Array Bool} {a : Act} {w w' : World} {o : Oper}
theorem arm10_call {f : FuncId} {args : Array Value} (hw : Region.wanted o (yielded ops a.tmps) = true) (hx : ∀ w, (execOp a.eval o).run P w = .ok (.enter f args) w)
  (h : Calls P f args w fun e w' => ∃ v, e = .returned v ∧ S w' ∧ wpAnyH P md ops Q S fuel (listed.setIfInBounds i true) (a.put o.dst v) w') :
  ∀ K' : Act → World → Prop, Shut (∀ a w, S w → (S w → wpAnyH P md ops Q S fuel (listed.setIfInBounds i true) a w) → K' a w) → if Region.wanted o (yielded ops a.tmps) = true then Oper.wp P o a w K' Q else K' (a.put o.dst undef) w := fun K' hK => by
 rw [if_pos hw]
 unfold Oper.wp
 rw [hx, Oper.upon_enter]
 exact h.mono fun e w' ⟨v, he, hS, hn⟩ => by subst he; exact hK.out _ _ hS fun _ => hn
theorem arm10_value {v : Value} (hw : Region.wanted o (yielded ops a.tmps) = true) (hx : (execOp a.eval o).run P w = .ok (.value v) w') (hS : S w')
  (h : wpAnyH P md ops Q S fuel (listed.setIfInBounds i true) (a.put o.dst v) w') :
  ∀ K' : Act → World → Prop, Shut (∀ a w, S w → (S w → wpAnyH P md ops Q S fuel (listed.setIfInBounds i true) a w) → K' a w) → if Region.wanted o (yielded ops a.tmps) = true then Oper.wp P o a w K' Q else K' (a.put o.dst undef) w := fun K' hK => by
 rw [if_pos hw]
 unfold Oper.wp
 rw [hx]
 exact hK.out _ _ hS fun _ => h
theorem arm10_skip (hw : Region.wanted o (yielded ops a.tmps) = true) (hx : (execOp a.eval o).run P w = .ok .skip w') (hS : S w')
  (h : wpAnyH P md ops Q S fuel (listed.setIfInBounds i true) (a.put o.dst undef) w') :
  ∀ K' : Act → World → Prop, Shut (∀ a w, S w → (S w → wpAnyH P md ops Q S fuel (listed.setIfInBounds i true) a w) → K' a w) → if Region.wanted o (yielded ops a.tmps) = true then Oper.wp P o a w K' Q else K' (a.put o.dst undef) w := fun K' hK => by
 rw [if_pos hw]
 unfold Oper.wp
 rw [hx]
 exact hK.out _ _ hS fun _ => h
end
section
variable {P : Program} {ops : Array Oper} {Q : Exit → Act → World → Prop} {i : Nat} {a : Act} {w : World} {o : Oper}
theorem drop_nth10 {ops : Array Oper} {i : Nat} {o : Oper} (h : ops[i]? = some o) : ops.toList.drop i = o :: ops.toList.drop (i + 1) := by
 obtain ⟨h1, h2⟩ := Array.getElem?_eq_some_iff.1 h
 rw [List.drop_eq_getElem_cons (by simpa using h1), ← h2]
 rfl
structure Line10 (P : Program) (ops : Array Oper) (Q : Exit → Act → World → Prop) (i : Nat) (a : Act) (w : World) : Prop where
 out : wpList P ops Q (ops.toList.drop i) a w
theorem line_pure {v : Value} (hi : ops[i]? = some o) (hw : Region.wanted o (yielded ops a.tmps) = true) (hx : (execOp a.eval o).run P w = .ok (.value v) w)
  (h : Line10 P ops Q (i + 1) (a.put o.dst v) w) : Line10 P ops Q i a w := by
 refine ⟨?_⟩
 rw [drop_nth10 hi]
 refine wpList_step fun K hK => ?_
 rw [if_pos hw]
 unfold Oper.wp
 rw [hx, Oper.upon_value]
 exact hK _ _ h.out
theorem line_off (hi : ops[i]? = some o) (hw : Region.wanted o (yielded ops a.tmps) = false) (h : Line10 P ops Q (i + 1) (a.put o.dst undef) w) : Line10 P ops Q i a w := by
 refine ⟨?_⟩
 rw [drop_nth10 hi]
 exact wpList_skip hw h.out
theorem lineP {v : Value} (hi : nthO ops.toList i = some o) (hx : (execOp a.eval o).run P w = .ok (.value v) w) (h : Line10 P ops Q (i + 1) (a.put o.dst v) w) (hw : Region.wanted o (yielded ops a.tmps) = true := by kernel_rfl) : Line10 P ops Q i a w := line_pure (at_nth hi) hw hx h
theorem lineO (hi : nthO ops.toList i = some o) (h : Line10 P ops Q (i + 1) (a.put o.dst undef) w) (hw : Region.wanted o (yielded ops a.tmps) = false := by kernel_rfl) : Line10 P ops Q i a w := line_off (at_nth hi) hw h
theorem line_done (hn : ops.size ≤ i) (h : Q .normal a w) : Line10 P ops Q i a w := by
 refine ⟨?_⟩
 rw [List.drop_of_length_le (by simpa using hn)]
 exact h
theorem line_start (h : Line10 P ops Q 0 a w) : wpList P ops Q ops.toList a w := h.out
end
theorem exec_load10 {P : Program} {w : World} {o : Oper} {ev : Operand → Value} {ty : TypeId} {x : Operand} {p : Addr} {v : Value} (ho : o.op = .load ty x) (hx : ev x = .pointer (some p)) (hv : (loadVar ty p).run P w = .ok v w) : (execOp ev o).run P w = .ok (.value v) w := by
 simp only [execOp, ho, hx, Instr.loadAt, Instr.sureAddr, Sem.run_bind, Sem.run_pure, Result.andThen_ok, hv]
theorem exec_bin10 {P : Program} {w : World} {o : Oper} {ev : Operand → Value} {op : BinOp} {t t2 : TypeId} {x y : Operand} {u v r : Value} (ho : o.op = .binOp op t x y t2) (hx : ev x = u) (hy : ev y = v) (hv : (binOp op t u v).run P w = .ok r w) (hg : (eqGuard op t x y u v).run P w = .ok () w) : (execOp ev o).run P w = .ok (.value r) w := by
 simp [execOp, ho, hx, hy, hv, hg, Result.andThen]
theorem eqI10 (a b : Int) (W : World) : (binOp .eql 3 (.int .i64 a) (.int .i64 b)).run Tryz.prog W = .ok (.bool (a == b)) W := by
 go_simp
theorem neI10 (a b : Int) (W : World) : (binOp .neq 3 (.int .i64 a) (.int .i64 b)).run Tryz.prog W = .ok (.bool (a != b)) W := by
 go_simp
theorem eqI_yes10 {a b : Int} (h : a = b) (W : World) : (binOp .eql 3 (.int .i64 a) (.int .i64 b)).run Tryz.prog W = .ok (.bool true) W := by rw [h, eqI10, beq_self_eq_true]
theorem neI_no10 {a b : Int} (h : a = b) (W : World) : (binOp .neq 3 (.int .i64 a) (.int .i64 b)).run Tryz.prog W = .ok (.bool false) W := by rw [h, neI10, bne_self_eq_false]
theorem addI10 {a b : Int} (h : -9223372036854775808 ≤ a + b ∧ a + b ≤ 9223372036854775807) (W : World) : (binOp .add 3 (.int .i64 a) (.int .i64 b)).run Tryz.prog W = .ok (.int .i64 (a + b)) W := by
 have w1 := IntWalk.i64_in (a + b) (by omega)
 go_simp
theorem subI10 {a b : Int} (h : -9223372036854775808 ≤ a - b ∧ a - b ≤ 9223372036854775807) (W : World) : (binOp .sub 3 (.int .i64 a) (.int .i64 b)).run Tryz.prog W = .ok (.int .i64 (a - b)) W := by
 have w1 := IntWalk.i64_in (a - b) (by omega)
 go_simp
theorem run_row10 {P : Program} {W : World} {o : Oper} {a : Act} {ty : TypeId} {x y : Operand} (ho : o.op = .store ty x y) {g : Nat} {t : TypeId} {old cs : Array Value} (hx : a.eval x = .pointer (some ⟨g, 0, none⟩)) (hy : a.eval y = .agg cs) (hg : Is W g t old) (hi : (P.info? ty).map (·.size) = some cs.size)
  (hs : old.size = cs.size) (h1 : cs.all (·.oneCell') = true) : (execOp a.eval o).run P W = .ok .skip (W.setRow g cs) := by
 simp only [execOp, ho, hx, hy, Instr.storeAt, Instr.sureAddr, Sem.run_bind, Sem.run_pure, Result.andThen_ok, run_storeVar_row W g t ty old cs hg hi hs h1]
end Go.Proofs.YtmggbbmpckcleaaGreat
namespace Go.Proofs.YtmggbbmpckcleaaGreat
open Go.RowKit Go.Shelf
theorem infoThree10 {P : Program} {t : TypeId} {z : Value} {s b : Nat} (h : (P.info? t).map (fun i => (i.zero, i.size, i.bytes)) = some (some z, s, b)) : ∃ i, P.info? t = some i ∧ i.zero = some z ∧ i.size = s ∧ i.bytes = b := by
 cases hq : P.info? t with
 | none => rw [hq] at h; cases h
 | some i =>
  rw [hq] at h
  simp only [Option.map_some, Option.some.injEq, Prod.mk.injEq] at h
  exact ⟨i, rfl, h.1, h.2.1, h.2.2⟩
def nulN10 (n : Nat) : ByteArray := strOfNums (List.replicate n 0)
def nulC10 (n : Nat) : Array Value := (List.replicate n (Value.int .u8 0)).toArray
theorem run_makeN10 (W : World) (n : Nat) (h : n ≤ 2000000) :
  (Instr.makeSlice 93 (.int .i64 (n : Int)) (.int .i64 (n : Int))).run Tryz.prog W = .ok (.slice (some ⟨W.heap.size, 0, none⟩) n n) (W.alloc (.cells (nulC10 n) 5)) := by
 obtain ⟨i0, hi, hz0, hz1, hz2⟩ := infoThree10 infoU8x
 have h1 := run_make (P := Tryz.prog) W 93 5 i0 (.int .u8 0) Tryz.underlying93 hi hz0 .i64 .i64 (n : Int) (n : Int) (by omega) (by omega) (by rw [hz2]; omega) (by omega)
 rw [hz1, Int.toNat_natCast, Nat.mul_one] at h1
 have e : madeCells (Value.int .u8 0).cells n = nulC10 n := by
  apply Array.toList_inj.1
  show (madeCells #[.int .u8 0] n).toList = _
  rw [toList_madeCells_one]
  simp [nulC10]
 rw [e] at h1
 exact h1
theorem run_convN10 {W : World} {g n : Nat} (h : Is W g 5 (nulC10 n)) :
  (convert 93 9 (.slice (some ⟨g, 0, none⟩) n n)).run Tryz.prog W = .ok (.string (nulN10 n)) W :=
 run_convert_bytes_arg (P := Tryz.prog) W 93 5 Tryz.underlying93 Tryz.underlying5 g 0 n n (List.replicate n 0) (by simp) (fun i hi => by
  rw [Nat.zero_add, h.cell, nulC10]
  simp [hi]) 9 Tryz.underlying9
def emp10 (n : Nat) : List ByteArray := List.replicate n ⟨#[]⟩
def empC10 (n : Nat) : Array Value := (List.replicate n (Value.string ⟨#[]⟩)).toArray
theorem run_makeS10 (W : World) (n : Nat) (h : n ≤ 100000) :
  (Instr.makeSlice 24 (.int .i64 (n : Int)) (.int .i64 (n : Int))).run Tryz.prog W = .ok (.slice (some ⟨W.heap.size, 0, none⟩) n n) (W.alloc (.cells (empC10 n) 9)) := by
 obtain ⟨i0, hi, hz0, hz1, hz2⟩ := infoThree10 infoTxt10
 have h1 := run_make (P := Tryz.prog) W 24 9 i0 (.string ⟨#[]⟩) Tryz.underlying24 hi hz0 .i64 .i64 (n : Int) (n : Int) (by omega) (by omega) (by rw [hz2]; omega) (by omega)
 rw [hz1, Int.toNat_natCast, Nat.mul_one] at h1
 have e : madeCells (Value.string ⟨#[]⟩).cells n = empC10 n := by
  apply Array.toList_inj.1
  show (madeCells #[.string ⟨#[]⟩] n).toList = _
  rw [toList_madeCells_one]
  simp [empC10]
 rw [e] at h1
 exact h1
theorem one_in10 (W : World) (s : ByteArray) : InV (W.alloc (.cells #[.string s] 9)) (some ⟨W.heap.size, 0, none⟩) (tL10 [s]) := fun j u hj => by
 have hD := Is.new W 9 #[.string s]
 refine ⟨W.heap.size, 0, rfl, hD.lt, ?_⟩
 rw [Nat.zero_add, hD.cell j]
 rw [← hj]
 simp [tL10]
end Go.Proofs.YtmggbbmpckcleaaGreat
