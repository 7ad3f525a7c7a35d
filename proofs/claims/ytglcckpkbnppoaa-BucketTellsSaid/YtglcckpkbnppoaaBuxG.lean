/-
  Layer 12: contract of bucket.twice: whether there are fewer unlike labels than cells. Conditions: the store lies where its slice points to; it has no more than 4096 buckets; its labels are no longer than texts may be.
-/
import Derived.Test.YtglcckpkbnppoaaBuxE
import Derived.Maps.OwnSet
import Derived.Maps.Views
namespace Go.Proofs.Ytglcckpkbnppoaa
open Go.RowKit Go.Shelf Go.Maps Go.WideMaps
attribute [local go_sem] Oper.semAt_some

theorem lawS12 : Keyed Try.prog 9 := string_keyed Try.underlying9
theorem keyS12 {s : ByteArray} (h : s.size ≤ maxLen) : ∃ l, keyOf Try.prog 9 (.string s) = some l := ⟨_, keyOf_string_mk Try.underlying9 h⟩
/-- a set that has just these labels, and as many things as there are unlike ones. -/
structure Told12 (D : DataW Unit) (L : List ByteArray) (i : Nat) : Prop where
  tidy : Tidy D
  has : ∀ x v, x.size ≤ maxLen → keyOf Try.prog 9 (.string x) = some v → Maps.has D v = (L.take i).any fun y => decide (y = x)
  size : Maps.size D = dst12 L i
theorem told_nil12 (L : List ByteArray) : Told12 (.map []) L 0 := ⟨tidy_empty, fun _ _ _ _ => rfl, rfl⟩
theorem told_put12 {D : DataW Unit} {L : List ByteArray} {i : Nat} (h : Told12 D L i) {x : ByteArray} (hx : L[i]? = some x) (hs : x.size ≤ maxLen) {v : Lit} (hv : keyOf Try.prog 9 (.string x) = some v) : Told12 (D.put v (.agg [])) L (i + 1) := by
  have ht : L.take (i + 1) = L.take i ++ [x] := by rw [List.take_add_one, hx]; rfl
  have hg : L.getD i ⟨#[]⟩ = x := by rw [List.getD_eq_getElem?_getD, hx]; rfl
  refine ⟨h.tidy.put (lawS12.key hv) _, fun y u hy hu => ?_, ?_⟩
  · rw [ht, List.any_append]
    by_cases e : x = y
    · subst e
      rw [hu] at hv
      cases hv
      rw [has_put_same h.tidy.isMap (lawS12.key hu)]
      simp
    · have hne : u ≠ v := fun e2 => by
        subst e2
        have := lawS12.inj hv hu
        cases this
        exact e rfl
      rw [has_put_other hne, h.has y u hy hu]
      simp [e]
  · rw [size_put h.tidy, h.has x v hs hv, dst12, hg, h.size]

set_option maxRecDepth 100000 in
set_option maxHeartbeats 4000000 in
theorem twice_any12 (s : Sto12) (A : Option Addr) (c : Nat) (w : World) (h : InS w s A c) (hf : s.B.length ≤ 4096) (hl : ∀ b ∈ us12 s.B, b.l.size ≤ maxLen) :
    Calls Try.prog 37 #[stoV s A c] w fun e w' => e = .returned (.bool (decide ((dst12 (labs12 s.B) (labs12 s.B).length : Int) < s.many))) ∧ Below w.heap.size w w' := by
  have HI := Lib.hid h
  have HF := Lib.hid hf
  have HL := Lib.hid hl
  have HUL := Lib.hid (show (us12 s.B).length ≤ 4096 by rw [us_len12]; have := List.countP_le_length (p := fun b : Bkt12 => decide (b.st = 1)) (l := s.B); unfold cnt12; omega)
  have HLL := Lib.hid (show (labs12 s.B).length = (us12 s.B).length by rw [labs12, List.length_map])
  clear h hf hl
  have hmm : ∀ (w : World) (m : Int), (Instr.makeMap 75 (some (.int .i64 m))).run Try.prog w = .ok (.map (some w.heap.size)) (w.alloc (.map #[] 0)) := fun w m => by kernel_rfl
  refine (callsIn_wide (n := 5)).1 ?_
  refine callsIn_of_wp_marks Try.func37 rfl trivial ?_ rfl
  simp only [Try.ntmps37, List.size_toArray, List.length_cons, List.length_nil, Nat.reduceAdd, Nat.reduceSub, Array.replicate_succ, Array.replicate_zero, List.push_toArray, List.append_toArray, List.nil_append, List.cons_append]
  have j1 : Is (w.alloc (.cells (stoA s A c) 31)) w.heap.size 31 (stoA s A c) := Is.new _ _ _
  have hB : Below w.heap.size w (w.alloc (.cells (stoA s A c) 31)) := (Below.refl _ _).alloc (Nat.le_refl _) _
  gi_wp2_with fail
  have hsz : (w.alloc (.cells (stoA s A c) 31)).heap.size = w.heap.size + 1 := by simp
  generalize w.alloc (.cells (stoA s A c) 31) = W1 at *
  have c1 : W1.cell? ⟨w.heap.size, 1, none⟩ = some (.int .i64 s.many) := j1.cell 1
  have k1 : Is ((W1.alloc (.map #[] 0)).alloc (.cells #[.map (some (w.heap.size + 1))] 75)) w.heap.size 31 (stoA s A c) := (j1.alloc _).alloc _
  have k2 : Is ((W1.alloc (.map #[] 0)).alloc (.cells #[.map (some (w.heap.size + 1))] 75)) (w.heap.size + 1 + 1) 75 #[.map (some (w.heap.size + 1))] := by
    have := Is.new (W1.alloc (.map #[] 0)) 75 #[.map (some (w.heap.size + 1))]
    rwa [World.size_alloc, hsz] at this
  have hM : ((W1.alloc (.map #[] 0)).alloc (.cells #[.map (some (w.heap.size + 1))] 75)).ownsMap Try.prog 9 (unitElem (H := Unit)) (w.heap.size + 1) 0 (.map []) := by
    have := World.ownsMap_made W1 Try.prog 9 (unitElem (H := Unit))
    rw [hsz] at this
    exact this.alloc _
  have hB1 : Below w.heap.size w ((W1.alloc (.map #[] 0)).alloc (.cells #[.map (some (w.heap.size + 1))] 75)) := (hB.alloc hB.size _).alloc (by have := hB.size; simp; omega) _
  gi_wp2_with fail
  refine ⟨trivial, (callsIn_wide.2 (used_any12 _ _ _ _)).mono ?_⟩
  rintro e W' ⟨rfl, rfl⟩
  gi_wp2_with fail
  have i1 := k1.alloc (.cells (stoA s A c) 31)
  have i2 := k2.alloc (.cells (stoA s A c) 31)
  have hM2 := hM.alloc (.cells (stoA s A c) 31)
  have hs1 := k2.lt
  have hs2 := i2.lt
  have hb := hB1.alloc hB1.size (.cells (stoA s A c) 31)
  have iN : Is (((W1.alloc (.map #[] 0)).alloc (.cells #[.map (some (w.heap.size + 1))] 75)).alloc (.cells (stoA s A c) 31)) ((W1.alloc (.map #[] 0)).alloc (.cells #[.map (some (w.heap.size + 1))] 75)).heap.size 31 (stoA s A c) := Is.new _ _ _
  have hsz2 : W1.heap.size + 1 + 1 = ((W1.alloc (.map #[] 0)).alloc (.cells #[.map (some (w.heap.size + 1))] 75)).heap.size := by simp
  rw [hsz] at hsz2
  clear k1 k2 hM hB1 j1 hB c1
  rw [← hsz2] at hs1 iN
  clear hsz2 hsz
  generalize ((W1.alloc (.map #[] 0)).alloc (.cells #[.map (some (w.heap.size + 1))] 75)).alloc (.cells (stoA s A c) 31) = W2 at *
  refine wpIn_rangeL rfl (by omega) (gf := 52) (lb := #[.pointer (some ⟨w.heap.size + 1 + 1 + 1, 0, none⟩)]) rfl trivial (enters_of Try.func52 (by kernel_rfl) rfl) (S := fun k => k < w.heap.size ∨ k = w.heap.size + 1 + 1 + 1)
    (used_seq12 4 (by omega) (w.heap.size + 1 + 1 + 1) _ _ _ A c s.B W2 iN rfl (HI.out.b.keep hb) (by have := HF.out; omega) _ (.inr rfl) (fun p e hn => .inl (HI.out.b.blkB p e hn)))
    (Stay.refl _ _) (fun k hk => by have := hb.size; have := iN.lt; omega) (fun _ => rfl)
    (fun i W => Below w.heap.size w W ∧ Is W w.heap.size 31 (stoA s A c) ∧ Is W (w.heap.size + 1 + 1) 75 #[.map (some (w.heap.size + 1))] ∧ ∃ D, W.ownsMap Try.prog 9 (unitElem (H := Unit)) (w.heap.size + 1) i D ∧ Told12 D (labs12 s.B) i)
    (fun _ _ _ => False)
    (fun s X Y row hs hg hr => ⟨belowOwn12 hs.1 hs.1.size (by omega) hg hr, isOwn12 hs.2.1 hg hr, isOwn12 hs.2.2.1 hg hr, by
      obtain ⟨D, h1, h2⟩ := hs.2.2.2
      exact ⟨D, h1.kept hg (fun e => by have := (hr _ e.symm).1; omega), h2⟩⟩)
    (fun c s X Y row hs hg hr => hs.elim)
    ⟨hb, i1, i2, .map [], hM2, told_nil12 _⟩ ?round ?done ?stop
  case round =>
    rintro l i ⟨st, xl, xc⟩ W hl hlt hx ⟨hb, j1, j2, D, hown, ht⟩
    gi_wp2
    refine ⟨(Stay.refl _ _).grown (World.grownBy_alloc _ _ none) (fun r e => by cases e), ⟨hb.alloc hb.size _, j1.alloc _, j2.alloc _, D, hown.alloc _, ht⟩, fun W' => Is W' W.heap.size 25 #[.int .i64 st, .string xl, .string xc], fun _ X Y row hs hg hr => isOwn12 hs hg hr, Is.new _ _ _, ?_⟩
    clear hb j1 j2 hown ht D
    rintro W4 hl4 ⟨hb, j1, j2, D, hown, ht⟩ iX
    have hokx := HL.out _ (List.mem_of_getElem? hx)
    simp only at hokx
    obtain ⟨v, hv⟩ := keyS12 hokx
    have hm : (labs12 s.B)[i]? = some xl := by rw [labs12, List.getElem?_map, hx]; rfl
    have hi : i < (us12 s.B).length := (List.getElem?_eq_some_iff.1 hx).1
    have him : i < maxLen := by have := HUL.out; unfold maxLen; omega
    have q1 : W4.cell? ⟨W.heap.size, 1, none⟩ = some (.string xl) := iX.cell 1
    have r2 : W4.cell? ⟨w.heap.size + 1 + 1, 0, none⟩ = some (.map (some (w.heap.size + 1))) := j2.cell 0
    have HV := Lib.hid hv
    have ht2 := Lib.hid (told_put12 ht hm hokx hv)
    clear iX hm hx hv ht hokx
    gi_wp2_with (first | (refine wpListIn_mapUpdate_own _ rfl _ _ _ 75 rfl 9 76 lawS12 Try.underlying75 _ (w.heap.size + 1) i D rfl hown him _ _ v rfl rfl HV.out (.agg []) [] unitElem_mk ?_; intro w1 hown1 hgrow1))
    exact ⟨(Stay.refl _ _).grown hgrow1 (fun r e => by cases e; exact .inl (by omega)), hb.grown hgrow1 hb.size (fun k e => by cases e; omega),
        (hgrow1.block _ j1.lt (by intro e; have := Option.some.inj e; omega)).trans j1, (hgrow1.block _ j2.lt (by intro e; have := Option.some.inj e; omega)).trans j2, _, hown1, ht2.out⟩
  case done =>
    rintro D W hD ⟨hb, j1, j2, Dm, hown, ht⟩ hK
    have hsm := ht.size
    rw [← HLL.out] at hsm
    have hlen := hown.len Try.underlying75 3
    rw [hsm] at hlen
    have c1 : W.cell? ⟨w.heap.size, 1, none⟩ = some (.int .i64 s.many) := j1.cell 1
    have r2 : W.cell? ⟨w.heap.size + 1 + 1, 0, none⟩ = some (.map (some (w.heap.size + 1))) := j2.cell 0
    have HK := Lib.hid hK
    clear hsm hown ht j1 j2 hK
    obtain ⟨p, hp⟩ : ∃ p, p = dst12 (labs12 s.B) (labs12 s.B).length := ⟨_, rfl⟩
    obtain ⟨m, hm⟩ : ∃ m, m = s.many := ⟨_, rfl⟩
    have D1 := Lib.hid (show decide ((dst12 (labs12 s.B) (labs12 s.B).length : Int) < s.many) = decide ((p : Int) < m) by rw [hp, hm])
    rw [← hp] at hlen
    rw [← hm] at c1
    clear hp hm
    by_cases e1 : (p : Int) < m
    · have E1 := Lib.hid (decide_eq_true e1)
      gi_wp2
      refine ⟨by simp, .inl ⟨_, _, rfl, run_takeDeferred HK.out, ?_⟩⟩
      have hgr := grownBy_putObj' W D (.deferred none)
      have hrr : ∀ r, some D = some r → W2.heap.size ≤ r ∧ ∃ o : Obj, W.heap[r]? = some o ∧ o.isCells = false := fun r e => by cases e; exact ⟨hD, _, HK.out, rfl⟩
      exact ⟨_, results_tmp Try.results37 _ _ _, by rw [D1.out, E1.out]; rfl, belowOwn12 hb hb.size (by omega) hgr hrr⟩
    · have E1 := Lib.hid (decide_eq_false e1)
      gi_wp2
      refine ⟨by simp, .inl ⟨_, _, rfl, run_takeDeferred HK.out, ?_⟩⟩
      have hgr := grownBy_putObj' W D (.deferred none)
      have hrr : ∀ r, some D = some r → W2.heap.size ≤ r ∧ ∃ o : Obj, W.heap[r]? = some o ∧ o.isCells = false := fun r e => by cases e; exact ⟨hD, _, HK.out, rfl⟩
      exact ⟨_, results_tmp Try.results37 _ _ _, by rw [D1.out, E1.out]; rfl, belowOwn12 hb hb.size (by omega) hgr hrr⟩
  case stop => exact fun _ _ _ _ _ h => h.elim
end Go.Proofs.Ytglcckpkbnppoaa
