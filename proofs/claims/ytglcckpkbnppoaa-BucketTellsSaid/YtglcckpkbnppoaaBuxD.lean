/-
  Layer 12: contracts of bucket.find and bucket.room: where a label stands; where one goes that is not there. Conditions: the store lies where its slice points to; it has buckets, and no more than 4096.
-/
import Derived.Test.YtglcckpkbnppoaaBuxC
namespace Go.Proofs.Ytglcckpkbnppoaa
open Go.RowKit Go.Shelf
attribute [local go_sem] Oper.semAt_some

def plcN12 (B : List Bkt12) (l : ByteArray) : Nat := (plc12 B l).getD 0
def plcB12 (B : List Bkt12) (l : ByteArray) : Bool := (plc12 B l).isSome
theorem aggI12 (w : World) : (isAgg 3).run Try.prog w = .ok false w := by go_simp
theorem aggBo12 (w : World) : (isAgg 4).run Try.prog w = .ok false w := by go_simp
theorem find_take12 {α : Type} {q : α → Bool} {l : List α} {i : Nat} {x : α} (hx : l[i]? = some x) (hn : (l.take i).find? q = none) (hne : q x = false) : (l.take (i + 1)).find? q = none := by
  rw [List.take_add_one, List.find?_append, hn, hx]
  simp [hne]

set_option maxRecDepth 100000 in
set_option maxHeartbeats 4000000 in
theorem find_any12 (s : Sto12) (A : Option Addr) (c : Nat) (l : ByteArray) (w : World) (h : InS w s A c) (h0 : 0 < s.B.length) (hf : s.B.length ≤ 4096) :
    Calls Try.prog 44 #[stoV s A c, .string l] w fun e w' => e = .returned (.tuple #[.int .i64 (plcN12 s.B l : Int), .bool (plcB12 s.B l)]) ∧ Below w.heap.size w w' := by
  have HI := Lib.hid h
  have H0 := Lib.hid h0
  have HF := Lib.hid hf
  clear h h0 hf
  refine (callsIn_wide (n := 5)).1 ?_
  refine callsIn_of_wp_marks Try.func44 rfl trivial ?_ rfl
  simp only [Try.ntmps44, List.size_toArray, List.length_cons, List.length_nil, Nat.reduceAdd, Nat.reduceSub, Array.replicate_succ, Array.replicate_zero, List.push_toArray, List.append_toArray, List.nil_append, List.cons_append]
  obtain ⟨W1, hW1⟩ : ∃ W1, W1 = (((w.alloc (.cells (stoA s A c) 31)).alloc (.cells #[.string l] 9)).alloc (.cells #[.int .i64 0] 3)).alloc (.cells #[.bool false] 4) := ⟨_, rfl⟩
  have j1 : Is W1 w.heap.size 31 (stoA s A c) := by rw [hW1]; exact (((Is.new w _ _).alloc _).alloc _).alloc _
  have j2 : Is W1 (w.heap.size + 1) 9 #[.string l] := by rw [hW1]; exact (Is.alloc (heap_alloc2_new w _ _) _).alloc _
  have j3 : Is W1 (w.heap.size + 1 + 1) 3 #[.int .i64 0] := by
    have := (Is.new ((w.alloc (.cells (stoA s A c) 31)).alloc (.cells #[.string l] 9)) 3 #[.int .i64 0]).alloc (.cells #[.bool false] 4)
    rw [hW1]; simpa using this
  have j4 : Is W1 (w.heap.size + 1 + 1 + 1) 4 #[.bool false] := by
    have := Is.new (((w.alloc (.cells (stoA s A c) 31)).alloc (.cells #[.string l] 9)).alloc (.cells #[.int .i64 0] 3)) 4 #[.bool false]
    rw [hW1]; simpa using this
  have hB : Below w.heap.size w W1 := by rw [hW1]; exact ((((Below.refl _ _).alloc (Nat.le_refl _) _).alloc (by simp) _).alloc (by simp; omega) _).alloc (by simp; omega) _
  gi_wp2_with fail
  rw [← hW1]
  clear hW1
  have c2 : W1.cell? ⟨w.heap.size + 1, 0, none⟩ = some (.string l) := j2.cell 0
  gi_wp2_with (refine wpListIn_load_rowI rfl 31 _ rfl w.heap.size rfl j1 Try.underlying31 rfl infoSto12 ?_)
  refine ⟨trivial, (callsIn_wide.2 (way_any12 _ _ _ _ _)).mono ?_⟩
  rintro e W' ⟨rfl, rfl⟩
  gi_wp2_with fail
  have i2 := (j2.alloc (.cells (stoA s A c) 31)).alloc (.cells #[.string l] 9)
  have i3 := (j3.alloc (.cells (stoA s A c) 31)).alloc (.cells #[.string l] 9)
  have i4 := (j4.alloc (.cells (stoA s A c) 31)).alloc (.cells #[.string l] 9)
  have iN : Is ((W1.alloc (.cells (stoA s A c) 31)).alloc (.cells #[.string l] 9)) W1.heap.size 31 (stoA s A c) := heap_alloc2_old _ _ _
  have iL : Is ((W1.alloc (.cells (stoA s A c) 31)).alloc (.cells #[.string l] 9)) (W1.heap.size + 1) 9 #[.string l] := heap_alloc2_new _ _ _
  have hb := (hB.alloc hB.size (.cells (stoA s A c) 31)).alloc (by have := hB.size; simp; omega) (.cells #[.string l] 9)
  have hs1 := j4.lt
  have hs2 := i4.lt
  clear j1 j2 j3 j4 hB c2
  generalize (W1.alloc (.cells (stoA s A c) 31)).alloc (.cells #[.string l] 9) = W2 at *
  generalize W1.heap.size = BN at *
  refine wpIn_rangeL rfl (by omega) (gf := 71) (lb := #[.pointer (some ⟨BN, 0, none⟩), .pointer (some ⟨BN + 1, 0, none⟩)]) rfl trivial (enters_of Try.func71 (by kernel_rfl) rfl) (S := fun k => k < w.heap.size ∨ k = BN ∨ k = BN + 1)
    (way_seq12 4 (by omega) BN (BN + 1) _ _ A c s.B l W2 iN iL (HI.out.b.keep hb) H0.out HF.out _ (.inr (.inl rfl)) (.inr (.inr rfl)) (fun p e hn => .inl (HI.out.b.blkB p e hn)) (fun k hk => by have := hb.size; have := iN.lt; have := iL.lt; omega))
    (Stay.refl _ _) (fun k hk => by have := hb.size; have := iN.lt; have := iL.lt; omega) (fun _ => rfl)
    (fun i W => Below w.heap.size w W ∧ Is W (w.heap.size + 1) 9 #[.string l] ∧ Is W (w.heap.size + 1 + 1) 3 #[.int .i64 0] ∧ Is W (w.heap.size + 1 + 1 + 1) 4 #[.bool false] ∧ ((wys12 s.B l).take i).find? (fun p => hit12 l p.2) = none)
    (fun c _ W => c = .ret ∧ Below w.heap.size w W ∧ Is W (w.heap.size + 1 + 1) 3 #[.int .i64 (plcN12 s.B l : Int)] ∧ Is W (w.heap.size + 1 + 1 + 1) 4 #[.bool (plcB12 s.B l)])
    (fun s X Y row hs hg hr => ⟨belowOwn12 hs.1 hs.1.size (by omega) hg hr, isOwn12 hs.2.1 hg hr, isOwn12 hs.2.2.1 hg hr, isOwn12 hs.2.2.2.1 hg hr, hs.2.2.2.2⟩)
    (fun c s X Y row hs hg hr => ⟨hs.1, belowOwn12 hs.2.1 hs.2.1.size (by omega) hg hr, isOwn12 hs.2.2.1 hg hr, isOwn12 hs.2.2.2 hg hr⟩)
    ⟨hb, i2, i3, i4, rfl⟩ ?round ?done ?stop
  case round =>
    rintro l2 i ⟨p, st, xl, xc⟩ W hl hlt hx ⟨hb, j2, j3, j4, hn⟩
    gi_wp2
    refine ⟨(Stay.refl _ _).grown (World.grownBy_alloc _ _ none) (fun r e => by cases e), ⟨hb.alloc hb.size _, j2.alloc _, j3.alloc _, j4.alloc _, hn⟩, fun W' => Is W' W.heap.size 25 #[.int .i64 st, .string xl, .string xc], fun _ X Y row hs hg hr => isOwn12 hs hg hr, Is.new _ _ _, ?_⟩
    clear hb j2 j3 j4 hn
    rintro W4 hl4 ⟨hb, j2, j3, j4, hn⟩ iX
    have q0 : W4.cell? ⟨W.heap.size, 0, none⟩ = some (.int .i64 st) := iX.cell 0
    have q1 : W4.cell? ⟨W.heap.size, 1, none⟩ = some (.string xl) := iX.cell 1
    have r2 : W4.cell? ⟨w.heap.size + 1, 0, none⟩ = some (.string l) := j2.cell 0
    have f3 := j3.frozen 0
    have f4 := j4.frozen 0
    have r3 : W4.cell? ⟨w.heap.size + 1 + 1, 0, none⟩ = some (.int .i64 0) := j3.cell 0
    have r4 : W4.cell? ⟨w.heap.size + 1 + 1 + 1, 0, none⟩ = some (.bool false) := j4.cell 0
    clear iX
    by_cases h1 : st = 1
    · subst h1
      by_cases h2 : xl = l
      · subst h2
        have hp := plc_way12 hx hn (hit_iff12.2 ⟨rfl, rfl⟩)
        have HN := Lib.hid (show plcN12 s.B xl = p by rw [plcN12, hp]; rfl)
        have HB := Lib.hid (show plcB12 s.B xl = true by rw [plcB12, hp]; rfl)
        clear hx hn hp
        gi_wp2_with (with_reducible refine And.intro (fun f e => (by cases e)) ?_)
        refine ⟨((Stay.refl _ _).grown (grownSetG _ _ _) (fun r e => by cases e; exact .inl (by simp only []; omega))).grown (grownSetG _ _ _) (fun r e => by cases e; exact .inl (by simp only []; omega)), rfl,
          (hb.setCell (p := ⟨w.heap.size + 1 + 1, 0, none⟩) (by simp; omega) _).setCell (p := ⟨w.heap.size + 1 + 1 + 1, 0, none⟩) (by simp; omega) _, ?_, ?_⟩
        · rw [HN.out]; exact (j3.set 0 _).far (by simp) _
        · rw [HB.out]; exact (j4.far (p := ⟨w.heap.size + 1 + 1, 0, none⟩) (by simp) _).set 0 _
      · have hne := ne7 h2
        have hbe := beq7 h2
        have hn2 := Lib.hid (find_take12 hx hn (show hit12 l (p, (⟨1, xl, xc⟩ : Bkt12)).2 = false by simp [hit12, h2]))
        clear hx hn h2
        gi_wp2_with (with_reducible refine And.intro (fun f e => (by cases e)) ?_)
        exact ⟨Stay.refl _ _, hb, j2, j3, j4, hn2.out⟩
    · have hn2 := Lib.hid (find_take12 hx hn (show hit12 l (p, (⟨st, xl, xc⟩ : Bkt12)).2 = false by simp [hit12, h1]))
      clear hx hn
      gi_wp2_with (with_reducible refine And.intro (fun f e => (by cases e)) ?_)
      exact ⟨Stay.refl _ _, hb, j2, j3, j4, hn2.out⟩
  case done =>
    rintro D W hD ⟨hb, j2, j3, j4, hn⟩ hK
    rw [List.take_length] at hn
    have hp := plc_none12 hn
    have f3 := j3.frozen 0
    have f4 := j4.frozen 0
    have r3 : W.cell? ⟨w.heap.size + 1 + 1, 0, none⟩ = some (.int .i64 0) := j3.cell 0
    have r4 : W.cell? ⟨w.heap.size + 1 + 1 + 1, 0, none⟩ = some (.bool false) := j4.cell 0
    have HP1 := Lib.hid (show plcN12 s.B l = 0 by rw [plcN12, hp]; rfl)
    have HP2 := Lib.hid (show plcB12 s.B l = false by rw [plcB12, hp]; rfl)
    have hK2 : ((W.setCell ⟨w.heap.size + 1 + 1, 0, none⟩ (.int .i64 0)).setCell ⟨w.heap.size + 1 + 1 + 1, 0, none⟩ (.bool false)).heap[D]? = some (.deferred (some [])) := (heap_setCell_other _ _ D _ (by simp only []; omega)).trans ((heap_setCell_other _ _ D _ (by simp only []; omega)).trans hK)
    have HK := Lib.hid hK2
    clear hn hp hK hK2
    gi_wp2
    refine ⟨by simp, .inl ⟨_, _, rfl, run_takeDeferred HK.out, ?_⟩⟩
    have hgr := grownBy_putObj' ((W.setCell ⟨w.heap.size + 1 + 1, 0, none⟩ (.int .i64 0)).setCell ⟨w.heap.size + 1 + 1 + 1, 0, none⟩ (.bool false)) D (.deferred none)
    have hrr : ∀ r, some D = some r → W2.heap.size ≤ r ∧ ∃ o : Obj, ((W.setCell ⟨w.heap.size + 1 + 1, 0, none⟩ (.int .i64 0)).setCell ⟨w.heap.size + 1 + 1 + 1, 0, none⟩ (.bool false)).heap[r]? = some o ∧ o.isCells = false := fun r e => by cases e; exact ⟨hD, _, HK.out, rfl⟩
    have zb : Below w.heap.size w ((W.setCell ⟨w.heap.size + 1 + 1, 0, none⟩ (.int .i64 0)).setCell ⟨w.heap.size + 1 + 1 + 1, 0, none⟩ (.bool false)) := (hb.setCell (p := ⟨w.heap.size + 1 + 1, 0, none⟩) (by simp; omega) _).setCell (p := ⟨w.heap.size + 1 + 1 + 1, 0, none⟩) (by simp; omega) _
    have z3 : Is ((W.setCell ⟨w.heap.size + 1 + 1, 0, none⟩ (.int .i64 0)).setCell ⟨w.heap.size + 1 + 1 + 1, 0, none⟩ (.bool false)) (w.heap.size + 1 + 1) 3 #[.int .i64 0] := (j3.set 0 _).far (by simp) _
    have z4 : Is ((W.setCell ⟨w.heap.size + 1 + 1, 0, none⟩ (.int .i64 0)).setCell ⟨w.heap.size + 1 + 1 + 1, 0, none⟩ (.bool false)) (w.heap.size + 1 + 1 + 1) 4 #[.bool false] := (j4.far (p := ⟨w.heap.size + 1 + 1, 0, none⟩) (by simp) _).set 0 _
    exact ⟨_, results_cc12 Try.results44 _ _ _ (w.heap.size + 1 + 1) (w.heap.size + 1 + 1 + 1) (.int .i64 0) (.bool false) 3 4 rfl rfl (isOwn12 z3 hgr hrr) (isOwn12 z4 hgr hrr) (aggI12 _) (aggBo12 _), by rw [HP1.out, HP2.out]; rfl, belowOwn12 zb zb.size (by omega) hgr hrr⟩
  case stop =>
    rintro D c2 i W hD ⟨rfl, hb, j3, j4⟩ hK
    gi_wp2
    refine ⟨by simp, .inl ⟨_, _, rfl, run_takeDeferred hK, ?_⟩⟩
    have hgr := grownBy_putObj' W D (.deferred none)
    have hrr : ∀ r, some D = some r → W2.heap.size ≤ r ∧ ∃ o : Obj, W.heap[r]? = some o ∧ o.isCells = false := fun r e => by cases e; exact ⟨hD, _, hK, rfl⟩
    exact ⟨_, results_cc12 Try.results44 _ _ _ (w.heap.size + 1 + 1) (w.heap.size + 1 + 1 + 1) _ _ 3 4 rfl rfl (isOwn12 j3 hgr hrr) (isOwn12 j4 hgr hrr) (aggI12 _) (aggBo12 _), rfl, belowOwn12 hb hb.size (by omega) hgr hrr⟩
end Go.Proofs.Ytglcckpkbnppoaa
