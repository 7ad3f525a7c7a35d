/-
  Layer 8: contract of ideal.sized, the program's. Condition: the ideal's lists lie where its slices point to.
-/
import Derived.Test.YtdbdoammbnogaaaIdeE
namespace Go.Proofs.Ytdbdoammbnogaaa
open Go.RowKit Go.Shelf
attribute [local go_sem] Oper.semAt_some

theorem okN_iff {x : Nam8} : okN x = true ↔ (x.1.size : Int) ≤ 100 ∧ (x.2.size : Int) = 16 := by
  simp only [okN, Bool.and_eq_true, decide_eq_true_eq]; omega
theorem okK_iff {x : Cel8} : okK x = true ↔ (x.1.size : Int) = 16 ∧ (x.2.1.size : Int) = 24 ∧ (x.2.2.size : Int) = 40 := by
  simp only [okK, Bool.and_eq_true, decide_eq_true_eq]; omega
structure All8 {α : Type} (p : α → Bool) (l : List α) : Prop where
  out : l.all p = true
structure Not8 {α : Type} (p : α → Bool) (l : List α) : Prop where
  out : l.all p = false
theorem dfr8 {B : Nat} {X Y : World} {row : Option Nat} {D : Nat} {o : Obj} (h : X.heap[D]? = some o) (hD : D < B) (hg : X.grownBy Y row) (hr : ∀ r, row = some r → B ≤ r ∧ ∃ o : Obj, X.heap[r]? = some o ∧ o.isCells = false) : Y.heap[D]? = some o :=
  (hg.block D (Array.getElem?_eq_some_iff.1 h).1 (fun e => by have := (hr D e.symm).1; omega)).trans h

set_option maxRecDepth 100000 in
set_option maxHeartbeats 4000000 in
theorem sized_many (d : Ide) (A : Option Addr) (c : Nat) (A' : Option Addr) (c' : Nat) (w : World) (hs : ¬ (d.N.length ≤ 2000 ∧ d.K.length ≤ 2000)) :
    Calls Try.prog 36 #[ideV d A c A' c'] w fun e w' => e = .returned (.bool (sized8 d)) ∧ Below w.heap.size w w' := by
  have hz : sized8 d = false := by
    simp only [sized8, Bool.and_eq_false_imp, Bool.and_eq_true, decide_eq_true_eq]
    intro h
    exact absurd h hs
  rw [hz]
  clear hz
  have j2 : Is ((w.alloc (.cells (ideL d A c A' c') 30)).alloc (.cells #[.bool false] 4)) (w.heap.size + 1) 4 #[.bool false] := heap_alloc2_new w _ _
  have j1 : Is ((w.alloc (.cells (ideL d A c A' c') 30)).alloc (.cells #[.bool false] 4)) w.heap.size 30 (ideL d A c A' c') := heap_alloc2_old w _ _
  have c2 : ((w.alloc (.cells (ideL d A c A' c') 30)).alloc (.cells #[.bool false] 4)).cell? ⟨w.heap.size, 2, none⟩ = some (.slice A d.N.length c) := j1.cell 2
  have c3 : ((w.alloc (.cells (ideL d A c A' c') 30)).alloc (.cells #[.bool false] 4)).cell? ⟨w.heap.size, 3, none⟩ = some (.slice A' d.K.length c') := j1.cell 3
  have q2 := j2.frozen 0
  have r2 : ((w.alloc (.cells (ideL d A c A' c') 30)).alloc (.cells #[.bool false] 4)).cell? ⟨w.heap.size + 1, 0, none⟩ = some (.bool false) := j2.cell 0
  have hB : Below w.heap.size w ((w.alloc (.cells (ideL d A c A' c') 30)).alloc (.cells #[.bool false] 4)) := ((Below.refl _ _).alloc (Nat.le_refl _) _).alloc (by simp) _
  by_cases hN : d.N.length ≤ 2000
  · have hN1 : ¬ (2000 < (d.N.length : Int)) := by omega
    have hK1 : 2000 < (d.K.length : Int) := by omega
    go_enter Try.func36, Try.ntmps36
    go_wp2
    exact bodyPost_ret (results_c8 Try.results36 _ _ _ (w.heap.size + 1) (.bool false) 4 rfl j2 (aggB8 _)) rfl ⟨rfl, hB⟩
  · have hN1 : 2000 < (d.N.length : Int) := by omega
    go_enter Try.func36, Try.ntmps36
    go_wp2
    exact bodyPost_ret (results_c8 Try.results36 _ _ _ (w.heap.size + 1) (.bool false) 4 rfl j2 (aggB8 _)) rfl ⟨rfl, hB⟩

set_option maxRecDepth 100000 in
set_option maxHeartbeats 4000000 in
theorem sized_few (d : Ide) (A : Option Addr) (c : Nat) (A' : Option Addr) (c' : Nat) (w : World) (h : InI w d A c A' c') (hs : d.N.length ≤ 2000 ∧ d.K.length ≤ 2000) :
    Calls Try.prog 36 #[ideV d A c A' c'] w fun e w' => e = .returned (.bool (sized8 d)) ∧ Below w.heap.size w w' := by
  have hz : sized8 d = (d.N.all okN && d.K.all okK) := by simp [sized8, hs.1, hs.2]
  rw [hz]
  have hN1 : ¬ (2000 < (d.N.length : Int)) := by omega
  have hK1 : ¬ (2000 < (d.K.length : Int)) := by omega
  have HI := Lib.hid h
  clear hz hs h
  refine (callsIn_wide (n := 5)).1 ?_
  refine callsIn_of_wp_marks Try.func36 rfl trivial ?_ rfl
  simp only [Try.ntmps36, List.size_toArray, List.length_cons, List.length_nil, Nat.reduceAdd, Nat.reduceSub, Array.replicate_succ, Array.replicate_zero, List.push_toArray, List.append_toArray, List.nil_append, List.cons_append]
  have j2 : Is ((w.alloc (.cells (ideL d A c A' c') 30)).alloc (.cells #[.bool false] 4)) (w.heap.size + 1) 4 #[.bool false] := heap_alloc2_new w _ _
  have j1 : Is ((w.alloc (.cells (ideL d A c A' c') 30)).alloc (.cells #[.bool false] 4)) w.heap.size 30 (ideL d A c A' c') := heap_alloc2_old w _ _
  have hB : Below w.heap.size w ((w.alloc (.cells (ideL d A c A' c') 30)).alloc (.cells #[.bool false] 4)) := ((Below.refl _ _).alloc (Nat.le_refl _) _).alloc (by simp) _
  obtain ⟨W1, hW1⟩ : ∃ W1, W1 = (w.alloc (.cells (ideL d A c A' c') 30)).alloc (.cells #[.bool false] 4) := ⟨_, rfl⟩
  rw [← hW1] at j1 j2 hB
  gi_wp2_with fail
  rw [← hW1]
  clear hW1
  have c2 : W1.cell? ⟨w.heap.size, 2, none⟩ = some (.slice A d.N.length c) := j1.cell 2
  have c3 : W1.cell? ⟨w.heap.size, 3, none⟩ = some (.slice A' d.K.length c') := j1.cell 3
  gi_wp2_with (refine wpListIn_load_rowI rfl 30 _ rfl w.heap.size rfl j1 Try.underlying30 rfl infoIde ?_)
  refine ⟨trivial, (callsIn_wide.2 (names_any _ _ _ _ _ _)).mono ?_⟩
  rintro e W' ⟨rfl, rfl⟩
  gi_wp2_with fail
  have i1 := j1.alloc (.cells (ideL d A c A' c') 30)
  have i2 := j2.alloc (.cells (ideL d A c A' c') 30)
  have iN : Is (W1.alloc (.cells (ideL d A c A' c') 30)) W1.heap.size 30 (ideL d A c A' c') := Is.new _ _ _
  have hb := hB.alloc hB.size (.cells (ideL d A c A' c') 30)
  have hsz : W1.heap.size < (W1.alloc (.cells (ideL d A c A' c') 30)).heap.size := by simp
  have hs1 := j2.lt
  clear j1 j2 hB c2 c3
  generalize W1.alloc (.cells (ideL d A c A' c') 30) = W2 at *
  generalize W1.heap.size = BN at *
  refine wpIn_rangeL rfl (by omega) (gf := 44) (lb := #[.pointer (some ⟨BN, 0, none⟩)]) rfl trivial (enters_of Try.func44 (by kernel_rfl) rfl) (S := fun k => k < w.heap.size ∨ k = BN)
    (names_seq 4 (by omega) BN _ _ _ _ _ A c d.N W2 iN rfl (HI.out.n.keep hb) (by have := HI.out.fit; omega) _ (.inr rfl) (fun p e hn => .inl (HI.out.n.blkN p e hn)))
    (Stay.refl _ _) (fun k hk => by have := hb.size; omega) (fun _ => rfl)
    (fun i W => Below w.heap.size w W ∧ Is W w.heap.size 30 (ideL d A c A' c') ∧ Is W (w.heap.size + 1) 4 #[.bool false] ∧ All8 okN (d.N.take i))
    (fun c _ W => c = .ret ∧ Below w.heap.size w W ∧ Is W (w.heap.size + 1) 4 #[.bool false] ∧ Not8 okN d.N)
    (fun s X Y row hs hg hr => ⟨belowOwn8 hs.1 hs.1.size (by omega) hg hr, isOwn8 hs.2.1 hg hr, isOwn8 hs.2.2.1 hg hr, hs.2.2.2⟩)
    (fun c s X Y row hs hg hr => ⟨hs.1, belowOwn8 hs.2.1 hs.2.1.size (by omega) hg hr, isOwn8 hs.2.2.1 hg hr, hs.2.2.2⟩)
    ⟨hb, i1, i2, ⟨rfl⟩⟩ ?round ?done ?stop
  case round =>
    rintro l i ⟨x1, x2⟩ W hl hlt hx ⟨hb, k1, k2, hn⟩
    gi_wp2
    refine ⟨Stay.refl _ _, ⟨hb, k1, k2, hn⟩, fun _ => True, fun _ _ _ _ _ _ _ => trivial, trivial, ?_⟩
    clear hb k1 k2 hn
    rintro W4 hl4 ⟨hb, k1, k2, hn⟩ _
    have q2 := k2.frozen 0
    have r2 : W4.cell? ⟨w.heap.size + 1, 0, none⟩ = some (.bool false) := k2.cell 0
    by_cases he : okN (x1, x2) = true
    · have ht : All8 okN (d.N.take (i + 1)) := ⟨all_take hx hn.out he⟩
      obtain ⟨e1, e2⟩ := okN_iff.1 he
      have e3 : ¬ (100 < (x1.size : Int)) := by simp only [] at e1; omega
      simp only [] at e2
      clear hx hn he e1
      gi_wp2
      exact ⟨Stay.refl _ _, hb, k1, k2, ht⟩
    · have hm := Lib.hid (Not8.mk (all_miss hx (by simpa using he)))
      by_cases e1 : 100 < (x1.size : Int)
      · clear hx hn he
        gi_wp2
        exact ⟨(Stay.refl _ _).grown (grownSetG _ _ _) (fun r e => by cases e; exact .inl (by simp only []; omega)), rfl, hb.setCell (p := ⟨w.heap.size + 1, 0, none⟩) (by simp) _, k2.set 0 _, hm.out⟩
      · have e2 : ¬ ((x2.size : Int) = 16) := fun e2 => he (okN_iff.2 ⟨by simp only []; omega, e2⟩)
        clear hx hn he
        gi_wp2
        exact ⟨(Stay.refl _ _).grown (grownSetG _ _ _) (fun r e => by cases e; exact .inl (by simp only []; omega)), rfl, hb.setCell (p := ⟨w.heap.size + 1, 0, none⟩) (by simp) _, k2.set 0 _, hm.out⟩
  case stop =>
    rintro D c1 i W hD ⟨rfl, hb, k2, HM⟩ hK
    gi_wp2
    refine ⟨by simp, .inl ⟨_, _, rfl, run_takeDeferred hK, ?_⟩⟩
    have hgr := grownBy_putObj' W D (.deferred none)
    have hrr : ∀ r, some D = some r → W2.heap.size ≤ r ∧ ∃ o : Obj, W.heap[r]? = some o ∧ o.isCells = false := fun r e => by cases e; exact ⟨hD, _, hK, rfl⟩
    exact ⟨_, results_c8 Try.results36 _ _ _ (w.heap.size + 1) (.bool false) 4 rfl (isOwn8 k2 hgr hrr) (aggB8 _), by rw [HM.out]; rfl, belowOwn8 hb hb.size (by omega) hgr hrr⟩
  case done =>
    rintro D W hD ⟨hb, k1, k2, hn⟩ hK
    have HNN : All8 okN d.N := by have HN := hn.out; rw [List.take_length] at HN; exact ⟨HN⟩
    clear hn i1 i2 iN
    gi_wp2_with (refine wpListIn_load_rowI rfl 30 _ rfl w.heap.size rfl k1 Try.underlying30 rfl infoIde ?_)
    refine ⟨trivial, (callsIn_wide.2 (cells_any _ _ _ _ _ _)).mono ?_⟩
    rintro e W' ⟨rfl, rfl⟩
    gi_wp2_with fail
    have m2 := k2.alloc (.cells (ideL d A c A' c') 30)
    have iN : Is (W.alloc (.cells (ideL d A c A' c') 30)) W.heap.size 30 (ideL d A c A' c') := Is.new _ _ _
    have hb2 := hb.alloc hb.size (.cells (ideL d A c A' c') 30)
    have hD0 : D < W.heap.size := (Array.getElem?_eq_some_iff.1 hK).1
    have hK2 : (W.alloc (.cells (ideL d A c A' c') 30)).heap[D]? = some (.deferred (some [])) := (Below.heap_alloc W _ D hD0).trans hK
    have hsz2 : W.heap.size < (W.alloc (.cells (ideL d A c A' c') 30)).heap.size := by simp
    have hs2 := k2.lt
    clear k1 k2 hb hK
    generalize W.alloc (.cells (ideL d A c A' c') 30) = W3 at *
    generalize W.heap.size = BK at *
    clear W
    refine wpIn_rangeL rfl (by omega) (gf := 50) (lb := #[.pointer (some ⟨BK, 0, none⟩)]) rfl trivial (enters_of Try.func50 (by kernel_rfl) rfl) (S := fun k => k < w.heap.size ∨ k = BK)
      (cells_seq 4 (by omega) BK _ _ _ _ _ A' c' d.K W3 iN rfl (HI.out.k.keep hb2) (by have := HI.out.fitK; omega) _ (.inr rfl) (fun p e hn => .inl (HI.out.k.blkK p e hn)))
      (Stay.refl _ _) (fun k hk => by have := hb2.size; omega) (fun _ => rfl)
      (fun i W => Below w.heap.size w W ∧ Is W (w.heap.size + 1) 4 #[.bool false] ∧ W.heap[D]? = some (.deferred (some [])) ∧ All8 okK (d.K.take i))
      (fun c _ W => c = .ret ∧ Below w.heap.size w W ∧ Is W (w.heap.size + 1) 4 #[.bool false] ∧ W.heap[D]? = some (.deferred (some [])) ∧ Not8 okK d.K)
      (fun s X Y row hs hg hr => ⟨belowOwn8 hs.1 hs.1.size (by omega) hg hr, isOwn8 hs.2.1 hg hr, dfr8 hs.2.2.1 (by omega) hg hr, hs.2.2.2⟩)
      (fun c s X Y row hs hg hr => ⟨hs.1, belowOwn8 hs.2.1 hs.2.1.size (by omega) hg hr, isOwn8 hs.2.2.1 hg hr, dfr8 hs.2.2.2.1 (by omega) hg hr, hs.2.2.2.2⟩)
      ⟨hb2, m2, hK2, ⟨rfl⟩⟩ ?round2 ?done2 ?stop2
    case round2 =>
      rintro l i x W hl hlt hx ⟨hb, k2, hK, hn⟩
      obtain ⟨⟨x1, x2, x3⟩, hy, rfl⟩ := (show ∃ y, d.K[i]? = some y ∧ askK y = x by rw [List.getElem?_map] at hx; cases hy : d.K[i]? with | none => rw [hy] at hx; cases hx | some y => rw [hy] at hx; cases hx; exact ⟨y, rfl, rfl⟩)
      simp only [askK]
      clear hx
      gi_wp2
      refine ⟨(Stay.refl _ _).grown (World.grownBy_alloc _ _ none) (fun r e => by cases e), ⟨hb.alloc hb.size _, k2.alloc _, (Below.heap_alloc W _ D (Array.getElem?_eq_some_iff.1 hK).1).trans hK, hn⟩, fun W' => Is W' W.heap.size 72 #[.string x1, .string x2], fun _ X Y row hs hg hr => isOwn8 hs hg hr, Is.new _ _ _, ?_⟩
      clear hb k2 hn hK
      rintro W4 hl4 ⟨hb, k2, hK, hn⟩ hax
      have q2 := k2.frozen 0
      have r2 : W4.cell? ⟨w.heap.size + 1, 0, none⟩ = some (.bool false) := k2.cell 0
      have s0 : W4.cell? ⟨W.heap.size, 0, none⟩ = some (.string x1) := hax.cell 0
      have s1 : W4.cell? ⟨W.heap.size, 1, none⟩ = some (.string x2) := hax.cell 1
      have hw : w.heap.size + 1 ≠ D := by omega
      by_cases he : okK (x1, x2, x3) = true
      · have ht : All8 okK (d.K.take (i + 1)) := ⟨all_take hy hn.out he⟩
        obtain ⟨e1, e2, e3⟩ := okK_iff.1 he
        simp only [] at e1 e2 e3
        clear hy hn he
        gi_wp2
        exact ⟨Stay.refl _ _, hb, k2, hK, ht⟩
      · have hm := Lib.hid (Not8.mk (all_miss hy (by simpa using he)))
        have zz := (Stay.refl (fun k => (k < w.heap.size ∨ k = BK) ∨ W3.heap.size ≤ k) W4).grown (grownSetG W4 ⟨w.heap.size + 1, 0, none⟩ (.bool false)) (fun r e => by cases e; exact .inl (by simp only []; omega))
        have zK : (W4.setCell ⟨w.heap.size + 1, 0, none⟩ (.bool false)).heap[D]? = some (.deferred (some [])) := (heap_setCell_other _ _ D _ (by simp only []; omega)).trans hK
        by_cases e1 : (x1.size : Int) = 16
        · by_cases e2 : (x2.size : Int) = 24
          · have e3 : ¬ ((x3.size : Int) = 40) := fun e3 => he (okK_iff.2 ⟨e1, e2, e3⟩)
            clear hy hn he
            gi_wp2
            exact ⟨zz, rfl, hb.setCell (p := ⟨w.heap.size + 1, 0, none⟩) (by simp) _, k2.set 0 _, zK, hm.out⟩
          · clear hy hn he
            gi_wp2
            exact ⟨zz, rfl, hb.setCell (p := ⟨w.heap.size + 1, 0, none⟩) (by simp) _, k2.set 0 _, zK, hm.out⟩
        · clear hy hn he
          gi_wp2
          exact ⟨zz, rfl, hb.setCell (p := ⟨w.heap.size + 1, 0, none⟩) (by simp) _, k2.set 0 _, zK, hm.out⟩
    case stop2 =>
      rintro D2 c i W hD2 ⟨rfl, hb, k2, hK, HM⟩ hKK
      gi_wp2
      have hgr := grownBy_putObj' W D2 (.deferred none)
      have hrr : ∀ r, some D2 = some r → W3.heap.size ≤ r ∧ ∃ o : Obj, W.heap[r]? = some o ∧ o.isCells = false := fun r e => by cases e; exact ⟨hD2, _, hKK, rfl⟩
      have hK3 := dfr8 hK (by omega) hgr hrr
      refine ⟨by simp, .inl ⟨_, _, rfl, run_takeDeferred hKK, by simp, .inl ⟨_, _, rfl, run_takeDeferred hK3, ?_⟩⟩⟩
      have hgr2 := grownBy_putObj' (W.putObj D2 (.deferred none)) D (.deferred none)
      have hrr2 : ∀ r, some D = some r → D ≤ r ∧ ∃ o : Obj, (W.putObj D2 (.deferred none)).heap[r]? = some o ∧ o.isCells = false := fun r e => by cases e; exact ⟨Nat.le_refl _, _, hK3, rfl⟩
      have zb := belowOwn8 hb hb.size (by omega) hgr hrr
      exact ⟨_, results_c8 Try.results36 _ _ _ (w.heap.size + 1) (.bool false) 4 rfl (isOwn8 (isOwn8 k2 hgr hrr) hgr2 hrr2) (aggB8 _), by rw [HM.out, Bool.and_false], belowOwn8 zb zb.size (by omega) hgr2 hrr2⟩
    case done2 =>
      rintro D2 W hD2 ⟨hb, k2, hK, hn⟩ hKK
      have HKK : All8 okK d.K := by have HN := hn.out; rw [List.length_map, List.take_length] at HN; exact ⟨HN⟩
      have q2 := k2.frozen 0
      have r2 : W.cell? ⟨w.heap.size + 1, 0, none⟩ = some (.bool false) := k2.cell 0
      have zK : (W.setCell ⟨w.heap.size + 1, 0, none⟩ (.bool true)).heap[D]? = some (.deferred (some [])) := (heap_setCell_other _ _ D _ (by simp only []; omega)).trans hK
      have zKK : (W.setCell ⟨w.heap.size + 1, 0, none⟩ (.bool true)).heap[D2]? = some (.deferred (some [])) := (heap_setCell_other _ _ D2 _ (by simp only []; omega)).trans hKK
      have zb := hb.setCell (p := ⟨w.heap.size + 1, 0, none⟩) (by simp) (.bool true)
      have z2 : Is (W.setCell ⟨w.heap.size + 1, 0, none⟩ (.bool true)) (w.heap.size + 1) 4 #[.bool true] := k2.set 0 _
      clear hn hK hb
      gi_wp2
      clear k2 q2 r2 hKK
      generalize W.setCell ⟨w.heap.size + 1, 0, none⟩ (.bool true) = WZ at *
      have hgr := grownBy_putObj' WZ D2 (.deferred none)
      have hrr : ∀ r, some D2 = some r → W3.heap.size ≤ r ∧ ∃ o : Obj, WZ.heap[r]? = some o ∧ o.isCells = false := fun r e => by cases e; exact ⟨hD2, _, zKK, rfl⟩
      have hK3 := dfr8 zK (by omega) hgr hrr
      refine ⟨by simp, .inl ⟨_, _, rfl, run_takeDeferred zKK, by simp, .inl ⟨_, _, rfl, run_takeDeferred hK3, ?_⟩⟩⟩
      have hgr2 := grownBy_putObj' (WZ.putObj D2 (.deferred none)) D (.deferred none)
      have hrr2 : ∀ r, some D = some r → D ≤ r ∧ ∃ o : Obj, (WZ.putObj D2 (.deferred none)).heap[r]? = some o ∧ o.isCells = false := fun r e => by cases e; exact ⟨Nat.le_refl _, _, hK3, rfl⟩
      have zb2 := belowOwn8 zb zb.size (by omega) hgr hrr
      exact ⟨_, results_c8 Try.results36 _ _ _ (w.heap.size + 1) (.bool true) 4 rfl (isOwn8 (isOwn8 z2 hgr hrr) hgr2 hrr2) (aggB8 _), by rw [HNN.out, HKK.out]; rfl, belowOwn8 zb2 zb2.size (by omega) hgr2 hrr2⟩
end Go.Proofs.Ytdbdoammbnogaaa
