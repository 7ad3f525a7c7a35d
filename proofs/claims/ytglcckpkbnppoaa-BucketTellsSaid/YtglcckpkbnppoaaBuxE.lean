/-
  Layer 12: contract of bucket.room: where a label goes that is not there. Conditions: the store lies where its slice points to; it has buckets, and no more than 4096.
-/
import Derived.Test.YtglcckpkbnppoaaBuxD
namespace Go.Proofs.Ytglcckpkbnppoaa
open Go.RowKit Go.Shelf
attribute [local go_sem] Oper.semAt_some

theorem way_next12 (h n i : Nat) : (way12 h n i + 1) % n = way12 h n (i + 1) := by
  rw [way12, way12, Nat.mod_add_mod, Nat.add_assoc]
theorem room_hit12 {B : List Bkt12} {l : ByteArray} {i : Nat} {p : Nat × Bkt12} (hx : (wys12 B l)[i]? = some p) (hn : ((wys12 B l).take i).find? (fun p => decide (p.2.st = 2)) = none) (hh : p.2.st = 2) : room12 B l = p.1 := by
  have hi : i < (wys12 B l).length := (List.getElem?_eq_some_iff.1 hx).1
  have hd : (wys12 B l).drop i = p :: (wys12 B l).drop (i + 1) := by
    rw [List.drop_eq_getElem_cons hi]
    rw [List.getElem?_eq_getElem hi] at hx
    rw [Option.some.inj hx]
  rw [room12, ← List.take_append_drop i (wys12 B l), List.find?_append, hn, hd]
  simp [hh]

set_option maxRecDepth 100000 in
set_option maxHeartbeats 4000000 in
theorem room_any12 (s : Sto12) (A : Option Addr) (c : Nat) (l : ByteArray) (w : World) (h : InS w s A c) (h0 : 0 < s.B.length) (hf : s.B.length ≤ 4096) :
    Calls Try.prog 58 #[stoV s A c, .string l] w fun e w' => e = .returned (.int .i64 (room12 s.B l : Int)) ∧ Below w.heap.size w w' := by
  have HI := Lib.hid h
  have H0 := Lib.hid h0
  have HF := Lib.hid hf
  have HH := Lib.hid (fun W : World => by
    have := home_any12 l (s.B.length : Int) W (by omega)
    rw [homV_nat12 l h0] at this
    exact this)
  have hHl := hom_lt12 l h0
  have hw0 := Lib.hid (show hom12 l s.B.length = way12 (hom12 l s.B.length) s.B.length 0 by rw [way12, Nat.add_zero, Nat.mod_eq_of_lt hHl])
  clear h h0 hf
  refine (callsIn_wide (n := 5)).1 ?_
  refine callsIn_of_wp_marks Try.func58 rfl trivial ?_ rfl
  simp only [Try.ntmps58, List.size_toArray, List.length_cons, List.length_nil, Nat.reduceAdd, Nat.reduceSub, Array.replicate_succ, Array.replicate_zero, List.push_toArray, List.append_toArray, List.nil_append, List.cons_append]
  obtain ⟨W1, hW1⟩ : ∃ W1, W1 = (w.alloc (.cells (stoA s A c) 31)).alloc (.cells #[.int .i64 0] 3) := ⟨_, rfl⟩
  have j1 : Is W1 w.heap.size 31 (stoA s A c) := by rw [hW1]; exact heap_alloc2_old _ _ _
  have j2 : Is W1 (w.heap.size + 1) 3 #[.int .i64 0] := by rw [hW1]; exact heap_alloc2_new _ _ _
  have hB : Below w.heap.size w W1 := by rw [hW1]; exact ((Below.refl _ _).alloc (Nat.le_refl _) _).alloc (by simp) _
  gi_wp2_with fail
  rw [← hW1]
  have hsz : W1.heap.size = w.heap.size + 1 + 1 := by rw [hW1]; simp
  clear hW1
  have c0 : W1.cell? ⟨w.heap.size, 0, none⟩ = some (.slice A s.B.length c) := j1.cell 0
  gi_wp2_with fail
  refine ⟨trivial, (callsIn_wide.2 (HH.out _)).mono ?_⟩
  rintro e W' ⟨rfl, rfl⟩
  have k1 := j1.alloc (.cells #[.int .i64 (hom12 l s.B.length : Int)] 3)
  have k2 := j2.alloc (.cells #[.int .i64 (hom12 l s.B.length : Int)] 3)
  have k3 : Is (W1.alloc (.cells #[.int .i64 (hom12 l s.B.length : Int)] 3)) (w.heap.size + 1 + 1) 3 #[.int .i64 (hom12 l s.B.length : Int)] := by rw [← hsz]; exact Is.new _ _ _
  have hB1 := hB.alloc hB.size (.cells #[.int .i64 (hom12 l s.B.length : Int)] 3)
  clear j1 j2 hB c0
  gi_wp2_with (refine wpListIn_load_rowI rfl 31 _ rfl w.heap.size rfl k1 Try.underlying31 rfl infoSto12 ?_)
  generalize W1.alloc (.cells #[.int .i64 (hom12 l s.B.length : Int)] 3) = W2 at *
  clear hsz
  refine ⟨trivial, (callsIn_wide.2 (way_any12 _ _ _ _ _)).mono ?_⟩
  rintro e W' ⟨rfl, rfl⟩
  gi_wp2_with fail
  have i1 := (k1.alloc (.cells (stoA s A c) 31)).alloc (.cells #[.string l] 9)
  have i2 := (k2.alloc (.cells (stoA s A c) 31)).alloc (.cells #[.string l] 9)
  have i3 := (k3.alloc (.cells (stoA s A c) 31)).alloc (.cells #[.string l] 9)
  have iN : Is ((W2.alloc (.cells (stoA s A c) 31)).alloc (.cells #[.string l] 9)) W2.heap.size 31 (stoA s A c) := heap_alloc2_old _ _ _
  have iL : Is ((W2.alloc (.cells (stoA s A c) 31)).alloc (.cells #[.string l] 9)) (W2.heap.size + 1) 9 #[.string l] := heap_alloc2_new _ _ _
  have hb := (hB1.alloc hB1.size (.cells (stoA s A c) 31)).alloc (by have := hB1.size; simp; omega) (.cells #[.string l] 9)
  have hs1 := k3.lt
  have hs2 := i3.lt
  clear k1 k2 k3 hB1
  generalize (W2.alloc (.cells (stoA s A c) 31)).alloc (.cells #[.string l] 9) = W3 at *
  generalize W2.heap.size = BN at *
  rw [hw0.out] at i3
  refine wpIn_rangeL rfl (by omega) (gf := 71) (lb := #[.pointer (some ⟨BN, 0, none⟩), .pointer (some ⟨BN + 1, 0, none⟩)]) rfl trivial (enters_of Try.func71 (by kernel_rfl) rfl) (S := fun k => k < w.heap.size ∨ k = BN ∨ k = BN + 1)
    (way_seq12 4 (by omega) BN (BN + 1) _ _ A c s.B l W3 iN iL (HI.out.b.keep hb) H0.out HF.out _ (.inr (.inl rfl)) (.inr (.inr rfl)) (fun p e hn => .inl (HI.out.b.blkB p e hn)) (fun k hk => by have := hb.size; have := iN.lt; have := iL.lt; omega))
    (Stay.refl _ _) (fun k hk => by have := hb.size; have := iN.lt; have := iL.lt; omega) (fun _ => rfl)
    (fun i W => Below w.heap.size w W ∧ Is W w.heap.size 31 (stoA s A c) ∧ Is W (w.heap.size + 1) 3 #[.int .i64 0] ∧ Is W (w.heap.size + 1 + 1) 3 #[.int .i64 (way12 (hom12 l s.B.length) s.B.length i : Int)] ∧ ((wys12 s.B l).take i).find? (fun p => decide (p.2.st = 2)) = none)
    (fun c _ W => c = .ret ∧ Below w.heap.size w W ∧ Is W (w.heap.size + 1) 3 #[.int .i64 (room12 s.B l : Int)])
    (fun s X Y row hs hg hr => ⟨belowOwn12 hs.1 hs.1.size (by omega) hg hr, isOwn12 hs.2.1 hg hr, isOwn12 hs.2.2.1 hg hr, isOwn12 hs.2.2.2.1 hg hr, hs.2.2.2.2⟩)
    (fun c s X Y row hs hg hr => ⟨hs.1, belowOwn12 hs.2.1 hs.2.1.size (by omega) hg hr, isOwn12 hs.2.2 hg hr⟩)
    ⟨hb, i1, i2, i3, rfl⟩ ?round ?done ?stop
  case round =>
    rintro l2 i ⟨p, st, xl, xc⟩ W hl hlt hx ⟨hb, j1, j2, j3, hn⟩
    gi_wp2
    refine ⟨(Stay.refl _ _).grown (World.grownBy_alloc _ _ none) (fun r e => by cases e), ⟨hb.alloc hb.size _, j1.alloc _, j2.alloc _, j3.alloc _, hn⟩, fun W' => Is W' W.heap.size 25 #[.int .i64 st, .string xl, .string xc], fun _ X Y row hs hg hr => isOwn12 hs hg hr, Is.new _ _ _, ?_⟩
    clear hb j1 j2 j3 hn
    rintro W4 hl4 ⟨hb, j1, j2, j3, hn⟩ iX
    have q0 : W4.cell? ⟨W.heap.size, 0, none⟩ = some (.int .i64 st) := iX.cell 0
    have r1 : W4.cell? ⟨w.heap.size, 0, none⟩ = some (.slice A s.B.length c) := j1.cell 0
    have f2 := j2.frozen 0
    have f3 := j3.frozen 0
    have r2 : W4.cell? ⟨w.heap.size + 1, 0, none⟩ = some (.int .i64 0) := j2.cell 0
    have r3 : W4.cell? ⟨w.heap.size + 1 + 1, 0, none⟩ = some (.int .i64 (way12 (hom12 l s.B.length) s.B.length i : Int)) := j3.cell 0
    clear iX
    by_cases h1 : st = 2
    · subst h1
      have HR := Lib.hid (room_hit12 hx hn rfl)
      clear hx hn
      gi_wp2_with (with_reducible refine And.intro (fun f e => (by cases e)) ?_)
      exact ⟨(Stay.refl _ _).grown (grownSetG _ _ _) (fun r e => by cases e; exact .inl (by simp only []; omega)), rfl, hb.setCell (p := ⟨w.heap.size + 1, 0, none⟩) (by simp) _, by rw [HR.out]; exact j2.set 0 _⟩
    · have hn2 := Lib.hid (find_take12 hx hn (show decide ((p, (⟨st, xl, xc⟩ : Bkt12)).2.st = 2) = false by simp [h1]))
      have hil : i < (wys12 s.B l).length := (List.getElem?_eq_some_iff.1 hx).1
      have hpp : p = way12 (hom12 l s.B.length) s.B.length i := by
        rw [wys_at12 hil] at hx
        exact (congrArg Prod.fst (Option.some.inj hx)).symm
      have hpl : p < s.B.length := by rw [hpp]; exact way_lt12 _ _ H0.out
      have hnx : ((p + 1) % s.B.length : Nat) = way12 (hom12 l s.B.length) s.B.length (i + 1) := by rw [hpp, way_next12]
      have hmod : Int.tmod ((p : Int) + 1) (s.B.length : Int) = ((way12 (hom12 l s.B.length) s.B.length (i + 1) : Nat) : Int) := by
        rw [← hnx, Int.tmod_eq_emod_of_nonneg (by omega)]; rfl
      have hnl := way_lt12 (hom12 l s.B.length) (i + 1) H0.out
      have HM := Lib.hid hmod
      have hf := HF.out
      clear hx hn hpp hnx
      obtain ⟨nx, hnx⟩ : ∃ nx, nx = way12 (hom12 l s.B.length) s.B.length (i + 1) := ⟨_, rfl⟩
      rw [← hnx] at hnl hmod
      have HNX := Lib.hid hnx
      clear hnx HM
      have w1 := IntWalk.i64_in ((p : Int) + 1) (by omega)
      have w2 := IntWalk.i64_in (nx : Int) (by omega)
      have hne0 : ¬ ((s.B.length : Int) = 0) := by omega
      gi_wp2_with (with_reducible refine And.intro (fun f e => (by cases e)) ?_)
      exact ⟨(Stay.refl _ _).grown (grownSetG _ _ _) (fun r e => by cases e; exact .inl (by simp only []; omega)), hb.setCell (p := ⟨w.heap.size + 1 + 1, 0, none⟩) (by simp; omega) _, j1.far (by simp; omega) _, j2.far (by simp) _, by rw [← HNX.out]; exact j3.set 0 _, hn2.out⟩
  case done =>
    rintro D W hD ⟨hb, j1, j2, j3, hn⟩ hK
    rw [List.take_length] at hn
    have hp : room12 s.B l = way12 (hom12 l s.B.length) s.B.length (wys12 s.B l).length := by rw [room12, hn]
    rw [← hp] at j3
    have f2 := j2.frozen 0
    have r2 : W.cell? ⟨w.heap.size + 1, 0, none⟩ = some (.int .i64 0) := j2.cell 0
    have r3 : W.cell? ⟨w.heap.size + 1 + 1, 0, none⟩ = some (.int .i64 (room12 s.B l : Int)) := j3.cell 0
    have hK2 : (W.setCell ⟨w.heap.size + 1, 0, none⟩ (.int .i64 (room12 s.B l : Int))).heap[D]? = some (.deferred (some [])) := (heap_setCell_other _ _ D _ (by simp only []; omega)).trans hK
    have HK := Lib.hid hK2
    clear hn hp hK hK2
    gi_wp2
    refine ⟨by simp, .inl ⟨_, _, rfl, run_takeDeferred HK.out, ?_⟩⟩
    have hgr := grownBy_putObj' (W.setCell ⟨w.heap.size + 1, 0, none⟩ (.int .i64 (room12 s.B l : Int))) D (.deferred none)
    have hrr : ∀ r, some D = some r → W3.heap.size ≤ r ∧ ∃ o : Obj, (W.setCell ⟨w.heap.size + 1, 0, none⟩ (.int .i64 (room12 s.B l : Int))).heap[r]? = some o ∧ o.isCells = false := fun r e => by cases e; exact ⟨hD, _, HK.out, rfl⟩
    have zb : Below w.heap.size w (W.setCell ⟨w.heap.size + 1, 0, none⟩ (.int .i64 (room12 s.B l : Int))) := hb.setCell (p := ⟨w.heap.size + 1, 0, none⟩) (by simp) _
    exact ⟨_, results_c12 Try.results58 _ _ _ (w.heap.size + 1) _ 3 rfl (isOwn12 (j2.set 0 _) hgr hrr) (aggI12 _), rfl, belowOwn12 zb zb.size (by omega) hgr hrr⟩
  case stop =>
    rintro D c2 i W hD ⟨rfl, hb, j2⟩ hK
    gi_wp2
    refine ⟨by simp, .inl ⟨_, _, rfl, run_takeDeferred hK, ?_⟩⟩
    have hgr := grownBy_putObj' W D (.deferred none)
    have hrr : ∀ r, some D = some r → W3.heap.size ≤ r ∧ ∃ o : Obj, W.heap[r]? = some o ∧ o.isCells = false := fun r e => by cases e; exact ⟨hD, _, hK, rfl⟩
    exact ⟨_, results_c12 Try.results58 _ _ _ (w.heap.size + 1) _ 3 rfl (isOwn12 j2 hgr hrr) (aggI12 _), rfl, belowOwn12 hb hb.size (by omega) hgr hrr⟩
end Go.Proofs.Ytglcckpkbnppoaa
