/-
  Contracts of tape.Right, tape.Left, tape.Take, tape.Number, and of the document's own: both answer what the plain functions say, errors and all. No conditions.
-/
import Derived.Test.YtfgdcpolfekgjaaGreatGTp
import Derived.Test.YtfgdcpolfekgjaaGreatGKit
import Derived.Test.YtfgdcpolfekgjaaGreatChecked
namespace Go.Proofs.YtfgdcpolfekgjaaGreat
open Go.RowKit Go.Shelf

/-- what is taken, and the tape behind it. -/
def takeR (B : ByteArray) (a n : Int) : Value := .tuple #[.string (takeS B a n), .agg #[.string B, .int .i64 (takeA B a n)], .int .i64 (takeE B a n)]
theorem infoTape : (Tryz.prog.info? 23).map (·.size) = some 2 := by kernel_rfl
theorem results_tct {fn : Func} {s p u : Tmp} {ty : TypeId} (h : fn.results = #[.tmp s, .cell p ty, .tmp u]) (tmps : Array Value) (P : Program) (w : World) (g : Nat) (t : TypeId) (cs : Array Value) (fr : Nat × Nat) (fs : Array Field)
    (hp : tmps.getD p undef = .pointer (some ⟨g, 0, none⟩)) (hg : w.heap[g]? = some (.cells cs t fr))
    (hu : P.underlying ty = some (.struct fs)) (hi : (P.info? ty).map (·.size) = some cs.size) :
    (results fn tmps).run P w = .ok (.tuple #[tmps.getD s undef, .agg cs, tmps.getD u undef]) w := by
  have e : (results fn tmps).run P w = ((asAddr (tmps.getD p undef)).run P w).andThen fun a w1 => ((loadVar ty a).run P w1).andThen fun v w2 => .ok (.tuple #[tmps.getD s undef, v, tmps.getD u undef]) w2 := by
    simp only [results, h]
    simp [Sem.run_bind, Result.andThen]
  rw [e, hp]
  simp [asAddr, run_loadVar_row w g t ty cs fr _ hg hu rfl hi]
/-- two cells, written. -/
theorem Is.pair {W : World} {g : Nat} {t : TypeId} {x y : Value} (h : Is W g t #[x, y]) (u v : Value) : Is ((W.setCell ⟨g, 0, none⟩ u).setCell ⟨g, 1, none⟩ v) g t #[u, v] := (h.set 0 u).set 1 v
theorem below_pair {B : Nat} {W0 W : World} (h : Below B W0 W) {g : Nat} (hg : B ≤ g) (u v : Value) : Below B W0 ((W.setCell ⟨g, 0, none⟩ u).setCell ⟨g, 1, none⟩ v) := (h.setCell (p := ⟨g, 0, none⟩) hg u).setCell (p := ⟨g, 1, none⟩) hg v
theorem below_pairN {B : Nat} {W0 W : World} (h : Below B W0 W) {g : Nat} (hg : B ≤ g) (u v : Value) : Below B W0 ((W.setCell ⟨g, 0, none⟩ u).setCell ⟨g, 1, none⟩ v).drew := belowN (below_pair h hg u v) 1

set_option maxRecDepth 100000 in
set_option maxHeartbeats 1000000 in
theorem tright_any (B : ByteArray) (a : Int) (w : World) :
    Calls Tryz.prog 52 #[.agg #[.string B, .int .i64 a]] w fun e w' => e = .returned (.bool (rightV B a)) ∧ Below w.heap.size w w' := by
  have HD : Hid (rightV B a = (decide ((B.size : Int) ≤ 65536) && (decide (0 ≤ a) && decide (a ≤ (B.size : Int))))) := Lib.hid rfl
  generalize rightV B a = R at *
  have hB : Below w.heap.size w (w.alloc (.cells #[.string B, .int .i64 a] 23)) := (Below.refl _ _).alloc (Nat.le_refl _) _
  have i1 := Is.new w 23 #[.string B, .int .i64 a]
  have c0 : (w.alloc (.cells #[.string B, .int .i64 a] 23)).cell? ⟨w.heap.size, 0, none⟩ = some (.string B) := i1.cell 0
  have c1 : (w.alloc (.cells #[.string B, .int .i64 a] 23)).cell? ⟨w.heap.size, 1, none⟩ = some (.int .i64 a) := i1.cell 1
  clear i1
  by_cases h1 : (B.size : Int) ≤ 65536
  · by_cases h2 : 0 ≤ a
    · by_cases h3 : a ≤ (B.size : Int)
      · obtain rfl : R = true := by rw [HD.out]; simp [h1, h2, h3]
        go_enter Tryz.func52, Tryz.ntmps52
        go_wp2
        go_ret
        exact ⟨rfl, hB⟩
      · obtain rfl : R = false := by rw [HD.out]; simp [h3]
        go_enter Tryz.func52, Tryz.ntmps52
        go_wp2
        go_ret
        exact ⟨rfl, hB⟩
    · obtain rfl : R = false := by rw [HD.out]; simp [h2]
      go_enter Tryz.func52, Tryz.ntmps52
      go_wp2
      go_ret
      exact ⟨rfl, hB⟩
  · obtain rfl : R = false := by rw [HD.out]; simp [h1]
    go_enter Tryz.func52, Tryz.ntmps52
    go_wp2
    go_ret
    exact ⟨rfl, hB⟩

set_option maxRecDepth 100000 in
set_option maxHeartbeats 1000000 in
theorem tleft_any (B : ByteArray) (a : Int) (w : World) :
    Calls Tryz.prog 151 #[.agg #[.string B, .int .i64 a]] w fun e w' => e = .returned (.int .i64 (leftV B a)) ∧ Below w.heap.size w w' := by
  have C := Lib.hid (tright_any B a)
  have hB : Below w.heap.size w (w.alloc (.cells #[.string B, .int .i64 a] 23)) := (Below.refl _ _).alloc (Nat.le_refl _) _
  have i1 := Is.new w 23 #[.string B, .int .i64 a]
  obtain ⟨W1, hW1⟩ : ∃ W1, W1 = w.alloc (.cells #[.string B, .int .i64 a] 23) := ⟨_, rfl⟩
  rw [← hW1] at hB i1
  cases hr : rightV B a with
  | true =>
    obtain ⟨h1, h2, h3⟩ := rightV_iff.1 hr
    have hl : leftV B a = (B.size : Int) - a := by rw [leftV, if_pos hr]
    rw [hr] at C
    rw [hl]
    clear hr hl
    have w1i := IntWalk.i64_in ((B.size : Int) - a) (by omega)
    go_enter Tryz.func151, Tryz.ntmps151
    go_wp2_with fail
    rw [← hW1]
    clear hW1
    refine (C.out _).mono ?_
    rintro e W2 ⟨rfl, hb⟩
    have i2 := i1.below hb i1.lt
    have c0 : W2.cell? ⟨w.heap.size, 0, none⟩ = some (.string B) := i2.cell 0
    have c1 : W2.cell? ⟨w.heap.size, 1, none⟩ = some (.int .i64 a) := i2.cell 1
    go_wp2
    go_ret
    exact ⟨rfl, hB.trans (hb.mono hB.size)⟩
  | false =>
    have hl : leftV B a = 0 := by rw [leftV, if_neg (by rw [hr]; decide)]
    rw [hr] at C
    rw [hl]
    clear hr hl
    go_enter Tryz.func151, Tryz.ntmps151
    go_wp2_with fail
    rw [← hW1]
    clear hW1
    refine (C.out _).mono ?_
    rintro e W2 ⟨rfl, hb⟩
    go_wp2
    go_ret
    exact ⟨rfl, hB.trans (hb.mono hB.size)⟩

set_option maxRecDepth 100000 in
set_option maxHeartbeats 2000000 in
theorem ttake_any (B : ByteArray) (a n : Int) (w : World) :
    Calls Tryz.prog 137 #[.agg #[.string B, .int .i64 a], .int .i64 n] w fun e w' => e = .returned (takeR B a n) ∧ Below w.heap.size w w' := by
  have C := Lib.hid (tright_any B a)
  have L := Lib.hid (tleft_any B a)
  obtain ⟨W1, hW1⟩ : ∃ W1, W1 = (w.alloc (.cells #[.string B, .int .i64 a] 23)).alloc (.cells #[.string ⟨#[]⟩, .int .i64 0] 23) := ⟨_, rfl⟩
  cases hr : rightV B a with
  | true =>
    obtain ⟨h1, h2, h3⟩ := rightV_iff.1 hr
    have hl : leftV B a = (B.size : Int) - a := by rw [leftV, if_pos hr]
    rw [hr] at C
    rw [hl] at L
    by_cases hn : 0 ≤ n
    · have hE : takeE B a n = if (B.size : Int) - a < n then 12 else 0 := by rw [takeE, hr, hl]; simp [hn]
      by_cases hm : (B.size : Int) - a < n
      · have hR : takeR B a n = .tuple #[.string ⟨#[]⟩, .agg #[.string B, .int .i64 a], .int .i64 12] := by
          rw [takeR, takeS, takeA, hE, if_pos hm]; rfl
        rw [hR]
        clear hr hl hE hR
        go_enter Tryz.func137, Tryz.ntmps137
        go_wp2_with fail
        rw [← hW1]
        have hB1 : Below w.heap.size w W1 := by rw [hW1]; exact ((Below.refl _ _).alloc (Nat.le_refl _) _).alloc (by simp) _
        have iA1 : Is W1 w.heap.size 23 #[.string B, .int .i64 a] := by rw [hW1]; exact heap_alloc2_old w _ _
        have iR1 : Is W1 (w.heap.size + 1) 23 #[.string ⟨#[]⟩, .int .i64 0] := by rw [hW1]; exact heap_alloc2_new w _ _
        clear hW1
        refine (C.out _).mono ?_
        rintro e W2 ⟨rfl, hb⟩
        have hB2 := hB1.trans (hb.mono hB1.size)
        have iA2 := iA1.below hb iA1.lt
        have iR2 := iR1.below hb iR1.lt
        clear hb hB1 iA1 iR1
        have cA0 : W2.cell? ⟨w.heap.size, 0, none⟩ = some (.string B) := iA2.cell 0
        have cA1 : W2.cell? ⟨w.heap.size, 1, none⟩ = some (.int .i64 a) := iA2.cell 1
        have cR0 : W2.cell? ⟨w.heap.size + 1, 0, none⟩ = some (.string ⟨#[]⟩) := iR2.cell 0
        have cR1 : W2.cell? ⟨w.heap.size + 1, 1, none⟩ = some (.int .i64 0) := iR2.cell 1
        have fR0 := iR2.frozen 0
        have fR1 := iR2.frozen 1
        go_wp2_with fail
        refine (L.out _).mono ?_
        rintro e W3 ⟨rfl, hb⟩
        have hB3 := hB2.trans (hb.mono hB2.size)
        have iA3 := iA2.below hb iA2.lt
        have iR3 := iR2.below hb iR2.lt
        clear cA0 cA1 cR0 cR1 fR0 fR1
        clear hb hB2 iA2 iR2
        have cA0 : W3.cell? ⟨w.heap.size, 0, none⟩ = some (.string B) := iA3.cell 0
        have cA1 : W3.cell? ⟨w.heap.size, 1, none⟩ = some (.int .i64 a) := iA3.cell 1
        have cR0 : W3.cell? ⟨w.heap.size + 1, 0, none⟩ = some (.string ⟨#[]⟩) := iR3.cell 0
        have cR1 : W3.cell? ⟨w.heap.size + 1, 1, none⟩ = some (.int .i64 0) := iR3.cell 1
        have fR0 := iR3.frozen 0
        have fR1 := iR3.frozen 1
        go_wp2
        go_region_held3 (fun w' => w'.cell? ⟨w.heap.size, 0, none⟩ = some (.string B) ∧ w'.cell? ⟨w.heap.size, 1, none⟩ = some (.int .i64 a)) (go_keep) (fail)
        go_wp2
        have iZ : Is (((W3.setCell ⟨w.heap.size + 1, 0, none⟩ (.string B)).setCell ⟨w.heap.size + 1, 1, none⟩ (.int .i64 a)).drew) (w.heap.size + 1) 23 #[.string B, .int .i64 a] := (iR3.pair (.string B) (.int .i64 a)).drewN 1
        exact bodyPost_ret (results_tct Tryz.results137 _ _ _ (w.heap.size + 1) 23 #[.string B, .int .i64 a] (0, 0) _ rfl iZ Tryz.underlying23 infoTape) rfl ⟨rfl, below_pairN hB3 (by omega) _ _⟩
      · have hR : takeR B a n = .tuple #[.string (B.extract a.toNat (a + n).toNat), .agg #[.string B, .int .i64 (a + n)], .int .i64 0] := by
          rw [takeR, takeS, takeA, hE, if_neg hm]; rfl
        have h4 : a ≤ a + n := by omega
        have h5 : a + n ≤ (B.size : Int) := by omega
        have w1i := IntWalk.i64_in (a + n) (by omega)
        have HR := Lib.hid hR
        have hsl := fun wx : World => run_slice_string (P := Tryz.prog) wx 9 B .i64 .i64 a (a + n) Tryz.underlying9 h2 h4 h5
        generalize takeR B a n = R at *
        clear hr hl hE hR
        go_enter Tryz.func137, Tryz.ntmps137
        go_wp2_with fail
        rw [← hW1]
        have hB1 : Below w.heap.size w W1 := by rw [hW1]; exact ((Below.refl _ _).alloc (Nat.le_refl _) _).alloc (by simp) _
        have iA1 : Is W1 w.heap.size 23 #[.string B, .int .i64 a] := by rw [hW1]; exact heap_alloc2_old w _ _
        have iR1 : Is W1 (w.heap.size + 1) 23 #[.string ⟨#[]⟩, .int .i64 0] := by rw [hW1]; exact heap_alloc2_new w _ _
        clear hW1
        refine (C.out _).mono ?_
        rintro e W2 ⟨rfl, hb⟩
        have hB2 := hB1.trans (hb.mono hB1.size)
        have iA2 := iA1.below hb iA1.lt
        have iR2 := iR1.below hb iR1.lt
        clear hb hB1 iA1 iR1
        have cA0 : W2.cell? ⟨w.heap.size, 0, none⟩ = some (.string B) := iA2.cell 0
        have cA1 : W2.cell? ⟨w.heap.size, 1, none⟩ = some (.int .i64 a) := iA2.cell 1
        have cR0 : W2.cell? ⟨w.heap.size + 1, 0, none⟩ = some (.string ⟨#[]⟩) := iR2.cell 0
        have cR1 : W2.cell? ⟨w.heap.size + 1, 1, none⟩ = some (.int .i64 0) := iR2.cell 1
        have fR0 := iR2.frozen 0
        have fR1 := iR2.frozen 1
        go_wp2_with fail
        refine (L.out _).mono ?_
        rintro e W3 ⟨rfl, hb⟩
        have hB3 := hB2.trans (hb.mono hB2.size)
        have iA3 := iA2.below hb iA2.lt
        have iR3 := iR2.below hb iR2.lt
        clear cA0 cA1 cR0 cR1 fR0 fR1
        clear hb hB2 iA2 iR2
        have cA0 : W3.cell? ⟨w.heap.size, 0, none⟩ = some (.string B) := iA3.cell 0
        have cA1 : W3.cell? ⟨w.heap.size, 1, none⟩ = some (.int .i64 a) := iA3.cell 1
        have cR0 : W3.cell? ⟨w.heap.size + 1, 0, none⟩ = some (.string ⟨#[]⟩) := iR3.cell 0
        have cR1 : W3.cell? ⟨w.heap.size + 1, 1, none⟩ = some (.int .i64 0) := iR3.cell 1
        have fR0 := iR3.frozen 0
        have fR1 := iR3.frozen 1
        go_wp2
        go_region_held3 (fun w' => w'.cell? ⟨w.heap.size, 0, none⟩ = some (.string B) ∧ w'.cell? ⟨w.heap.size, 1, none⟩ = some (.int .i64 a)) (go_keep) (fail)
        go_wp2
        have iZ : Is (((W3.setCell ⟨w.heap.size + 1, 0, none⟩ (.string B)).setCell ⟨w.heap.size + 1, 1, none⟩ (.int .i64 (a + n))).drew) (w.heap.size + 1) 23 #[.string B, .int .i64 (a + n)] := (iR3.pair (.string B) (.int .i64 (a + n))).drewN 1
        exact bodyPost_ret (results_tct Tryz.results137 _ _ _ (w.heap.size + 1) 23 #[.string B, .int .i64 (a + n)] (0, 0) _ rfl iZ Tryz.underlying23 infoTape) rfl ⟨by rw [HR.out]; rfl, below_pairN hB3 (by omega) _ _⟩
    · have hR : takeR B a n = .tuple #[.string ⟨#[]⟩, .agg #[.string B, .int .i64 a], .int .i64 1] := by
        have hE : takeE B a n = 1 := by rw [takeE, hr]; simp [hn]
        rw [takeR, takeS, takeA, hE]; rfl
      rw [hR]
      clear hr hl hR
      go_enter Tryz.func137, Tryz.ntmps137
      go_wp2_with fail
      rw [← hW1]
      have hB1 : Below w.heap.size w W1 := by rw [hW1]; exact ((Below.refl _ _).alloc (Nat.le_refl _) _).alloc (by simp) _
      have iA1 : Is W1 w.heap.size 23 #[.string B, .int .i64 a] := by rw [hW1]; exact heap_alloc2_old w _ _
      have iR1 : Is W1 (w.heap.size + 1) 23 #[.string ⟨#[]⟩, .int .i64 0] := by rw [hW1]; exact heap_alloc2_new w _ _
      clear hW1
      refine (C.out _).mono ?_
      rintro e W2 ⟨rfl, hb⟩
      have hB2 := hB1.trans (hb.mono hB1.size)
      have iA2 := iA1.below hb iA1.lt
      have iR2 := iR1.below hb iR1.lt
      clear hb hB1 iA1 iR1
      have cA0 : W2.cell? ⟨w.heap.size, 0, none⟩ = some (.string B) := iA2.cell 0
      have cA1 : W2.cell? ⟨w.heap.size, 1, none⟩ = some (.int .i64 a) := iA2.cell 1
      have cR0 : W2.cell? ⟨w.heap.size + 1, 0, none⟩ = some (.string ⟨#[]⟩) := iR2.cell 0
      have cR1 : W2.cell? ⟨w.heap.size + 1, 1, none⟩ = some (.int .i64 0) := iR2.cell 1
      have fR0 := iR2.frozen 0
      have fR1 := iR2.frozen 1
      go_wp2
      go_region_held3 (fun w' => w'.cell? ⟨w.heap.size, 0, none⟩ = some (.string B) ∧ w'.cell? ⟨w.heap.size, 1, none⟩ = some (.int .i64 a)) (go_keep) (fail)
      go_wp2
      have iZ : Is (((W2.setCell ⟨w.heap.size + 1, 0, none⟩ (.string B)).setCell ⟨w.heap.size + 1, 1, none⟩ (.int .i64 a)).drew) (w.heap.size + 1) 23 #[.string B, .int .i64 a] := (iR2.pair (.string B) (.int .i64 a)).drewN 1
      exact bodyPost_ret (results_tct Tryz.results137 _ _ _ (w.heap.size + 1) 23 #[.string B, .int .i64 a] (0, 0) _ rfl iZ Tryz.underlying23 infoTape) rfl ⟨rfl, below_pairN hB2 (by omega) _ _⟩
  | false =>
    have hR : takeR B a n = .tuple #[.string ⟨#[]⟩, .agg #[.string B, .int .i64 a], .int .i64 1] := by
      have hE : takeE B a n = 1 := by rw [takeE, hr]; rfl
      rw [takeR, takeS, takeA, hE]; rfl
    rw [hR]
    rw [hr] at C
    clear hr hR
    go_enter Tryz.func137, Tryz.ntmps137
    go_wp2_with fail
    rw [← hW1]
    have hB1 : Below w.heap.size w W1 := by rw [hW1]; exact ((Below.refl _ _).alloc (Nat.le_refl _) _).alloc (by simp) _
    have iA1 : Is W1 w.heap.size 23 #[.string B, .int .i64 a] := by rw [hW1]; exact heap_alloc2_old w _ _
    have iR1 : Is W1 (w.heap.size + 1) 23 #[.string ⟨#[]⟩, .int .i64 0] := by rw [hW1]; exact heap_alloc2_new w _ _
    clear hW1
    refine (C.out _).mono ?_
    rintro e W2 ⟨rfl, hb⟩
    have hB2 := hB1.trans (hb.mono hB1.size)
    have iA2 := iA1.below hb iA1.lt
    have iR2 := iR1.below hb iR1.lt
    clear hb hB1 iA1 iR1
    have cA0 : W2.cell? ⟨w.heap.size, 0, none⟩ = some (.string B) := iA2.cell 0
    have cA1 : W2.cell? ⟨w.heap.size, 1, none⟩ = some (.int .i64 a) := iA2.cell 1
    have cR0 : W2.cell? ⟨w.heap.size + 1, 0, none⟩ = some (.string ⟨#[]⟩) := iR2.cell 0
    have cR1 : W2.cell? ⟨w.heap.size + 1, 1, none⟩ = some (.int .i64 0) := iR2.cell 1
    have fR0 := iR2.frozen 0
    have fR1 := iR2.frozen 1
    go_wp2
    go_region_held3 (fun w' => w'.cell? ⟨w.heap.size, 0, none⟩ = some (.string B) ∧ w'.cell? ⟨w.heap.size, 1, none⟩ = some (.int .i64 a)) (go_keep) (fail)
    go_wp2
    have iZ : Is (((W2.setCell ⟨w.heap.size + 1, 0, none⟩ (.string B)).setCell ⟨w.heap.size + 1, 1, none⟩ (.int .i64 a)).drew) (w.heap.size + 1) 23 #[.string B, .int .i64 a] := (iR2.pair (.string B) (.int .i64 a)).drewN 1
    exact bodyPost_ret (results_tct Tryz.results137 _ _ _ (w.heap.size + 1) 23 #[.string B, .int .i64 a] (0, 0) _ rfl iZ Tryz.underlying23 infoTape) rfl ⟨rfl, below_pairN hB2 (by omega) _ _⟩

set_option maxRecDepth 100000 in
set_option maxHeartbeats 1000000 in
theorem tdright_any (B : ByteArray) (a : Int) (w : World) :
    Calls Tryz.prog 49 #[.agg #[.string B, .int .i64 a]] w fun e w' => e = .returned (.bool (rightV B a)) ∧ Below w.heap.size w w' := by
  have HD : Hid (rightV B a = (decide ((B.size : Int) ≤ 65536) && (decide (0 ≤ a) && decide (a ≤ (B.size : Int))))) := Lib.hid rfl
  generalize rightV B a = R at *
  have hB : Below w.heap.size w (w.alloc (.cells #[.string B, .int .i64 a] 23)) := (Below.refl _ _).alloc (Nat.le_refl _) _
  have i1 := Is.new w 23 #[.string B, .int .i64 a]
  have c0 : (w.alloc (.cells #[.string B, .int .i64 a] 23)).cell? ⟨w.heap.size, 0, none⟩ = some (.string B) := i1.cell 0
  have c1 : (w.alloc (.cells #[.string B, .int .i64 a] 23)).cell? ⟨w.heap.size, 1, none⟩ = some (.int .i64 a) := i1.cell 1
  clear i1
  by_cases h1 : (B.size : Int) ≤ 65536
  · by_cases h2 : 0 ≤ a
    · by_cases h3 : a ≤ (B.size : Int)
      · obtain rfl : R = true := by rw [HD.out]; simp [h1, h2, h3]
        go_enter Tryz.func49, Tryz.ntmps49
        go_wp2
        go_ret
        exact ⟨rfl, hB⟩
      · obtain rfl : R = false := by rw [HD.out]; simp [h3]
        go_enter Tryz.func49, Tryz.ntmps49
        go_wp2
        go_ret
        exact ⟨rfl, hB⟩
    · obtain rfl : R = false := by rw [HD.out]; simp [h2]
      go_enter Tryz.func49, Tryz.ntmps49
      go_wp2
      go_ret
      exact ⟨rfl, hB⟩
  · obtain rfl : R = false := by rw [HD.out]; simp [h1]
    go_enter Tryz.func49, Tryz.ntmps49
    go_wp2
    go_ret
    exact ⟨rfl, hB⟩

end Go.Proofs.YtfgdcpolfekgjaaGreat

