/-
  Layer 8: contracts of ideal.find, the program's: what is told first of what is asked, of whatever tells a list. Condition: it tells that list.
-/
import Derived.Test.YtdbdoammbnogaaaIdeB
namespace Go.Proofs.Ytdbdoammbnogaaa
open Go.RowKit Go.Shelf
attribute [local go_sem] Oper.semAt_some

def find8 {κ : Type} [DecidableEq κ] (l : List (κ × ByteArray)) (k : κ) : ByteArray × Bool :=
  match l.find? fun x => decide (x.1 = k) with
  | some x => (x.2, true)
  | none => (⟨#[]⟩, false)
theorem find8_hit {κ : Type} [DecidableEq κ] {l : List (κ × ByteArray)} {k : κ} {i : Nat} {y : ByteArray} (hx : l[i]? = some (k, y)) (hn : (l.take i).find? (fun x => decide (x.1 = k)) = none) : find8 l k = (y, true) := by
  have h : l.find? (fun x => decide (x.1 = k)) = some (k, y) := by
    have hi : i < l.length := (List.getElem?_eq_some_iff.1 hx).1
    have hd : l.drop i = (k, y) :: l.drop (i + 1) := by
      rw [List.drop_eq_getElem_cons hi]
      rw [List.getElem?_eq_getElem hi] at hx
      rw [Option.some.inj hx]
    rw [← List.take_append_drop i l, List.find?_append, hn, hd]
    simp
  rw [find8, h]
theorem find8_miss {κ : Type} [DecidableEq κ] {l : List (κ × ByteArray)} {k : κ} (hn : l.find? (fun x => decide (x.1 = k)) = none) : find8 l k = (⟨#[]⟩, false) := by
  rw [find8, hn]
theorem take_none {κ : Type} [DecidableEq κ] {l : List (κ × ByteArray)} {k : κ} {i : Nat} {x : κ × ByteArray} (hx : l[i]? = some x) (hn : (l.take i).find? (fun x => decide (x.1 = k)) = none) (hne : x.1 ≠ k) : (l.take (i + 1)).find? (fun x => decide (x.1 = k)) = none := by
  have hi : i < l.length := (List.getElem?_eq_some_iff.1 hx).1
  rw [List.getElem?_eq_getElem hi] at hx
  rw [List.take_add_one, List.find?_append, hn, List.getElem?_eq_getElem hi]
  cases hx
  simp [hne]
theorem results_cc {fn : Func} {s p : Tmp} {t0 t1 : TypeId} (h : fn.results = #[.cell s t0, .cell p t1]) (tmps : Array Value) (P : Program) (w : World) (g0 g1 : Nat) (y0 y1 : Value) (T0 T1 : TypeId)
    (hs : tmps.getD s undef = .pointer (some ⟨g0, 0, none⟩)) (hp : tmps.getD p undef = .pointer (some ⟨g1, 0, none⟩))
    (i0 : Is w g0 T0 #[y0]) (i1 : Is w g1 T1 #[y1]) (a0 : (isAgg t0).run P w = .ok false w) (a1 : (isAgg t1).run P w = .ok false w) :
    (results fn tmps).run P w = .ok (.tuple #[y0, y1]) w := by
  have e : (results fn tmps).run P w = ((asAddr (tmps.getD s undef)).run P w).andThen fun b w0 => ((loadVar t0 b).run P w0).andThen fun v0 w1 => ((asAddr (tmps.getD p undef)).run P w1).andThen fun b w2 => ((loadVar t1 b).run P w2).andThen fun v1 w3 => .ok (.tuple #[v0, v1]) w3 := by
    simp only [results, h]
    simp [Sem.run_bind, Result.andThen]
  have c0 := i0.cell 0
  have c1 := i1.cell 0
  have l0 : (loadVar t0 ⟨g0, 0, none⟩).run P w = .ok y0 w := by
    simp only [loadVar, Sem.run_bind, a0, Result.andThen_ok]
    simp [go_sem, c0]
  have l1 : (loadVar t1 ⟨g1, 0, none⟩).run P w = .ok y1 w := by
    simp only [loadVar, Sem.run_bind, a1, Result.andThen_ok]
    simp [go_sem, c1]
  rw [e, hs, hp]
  simp [asAddr, l0, l1]
theorem aggS8 (w : World) : (isAgg 9).run Try.prog w = .ok false w := by go_simp
theorem aggB8 (w : World) : (isAgg 4).run Try.prog w = .ok false w := by go_simp
theorem eqS8 (a b c d : ByteArray) (w : World) : (binOp .eql 72 (.agg #[.string a, .string b]) (.agg #[.string c, .string d])).run Try.prog w = .ok (.bool (decide ((a, b) = (c, d)))) w := by
  by_cases h1 : a = c
  · by_cases h2 : b = d
    · subst h1; subst h2; rw [decide_eq_true rfl]; go_simp
    · have n1 := ne7 h2
      have n2 := beq7 h2
      rw [decide_eq_false (fun e => h2 (Prod.mk.inj e).2)]; subst h1; go_simp
  · have n1 := ne7 h1
    have n2 := beq7 h1
    rw [decide_eq_false (fun e => h1 (Prod.mk.inj e).1)]; go_simp
theorem eqO8 (a b c d : ByteArray) (w : World) : (binOp .eql 79 (.agg #[.string a, .string b]) (.agg #[.string c, .string d])).run Try.prog w = .ok (.bool (decide ((a, b) = (c, d)))) w := by
  by_cases h1 : a = c
  · by_cases h2 : b = d
    · subst h1; subst h2; rw [decide_eq_true rfl]; go_simp
    · have n1 := ne7 h2
      have n2 := beq7 h2
      rw [decide_eq_false (fun e => h2 (Prod.mk.inj e).2)]; subst h1; go_simp
  · have n1 := ne7 h1
    have n2 := beq7 h1
    rw [decide_eq_false (fun e => h1 (Prod.mk.inj e).1)]; go_simp
/-- a block of one's own that a range does not turn. -/
theorem isOwn8 {B : Nat} {g : Nat} {t : TypeId} {cs : Array Value} {X Y : World} {row : Option Nat} (h : Is X g t cs) (hg : X.grownBy Y row) (hr : ∀ r, row = some r → B ≤ r ∧ ∃ o : Obj, X.heap[r]? = some o ∧ o.isCells = false) : Is Y g t cs :=
  (grownBy_keeps_cells hg (fun r e => (hr r e).2) h rfl).trans h
theorem belowOwn8 {n B : Nat} {w X Y : World} {row : Option Nat} (h : Below n w X) (hx : n ≤ X.heap.size) (hn : n ≤ B) (hg : X.grownBy Y row) (hr : ∀ r, row = some r → B ≤ r ∧ ∃ o : Obj, X.heap[r]? = some o ∧ o.isCells = false) : Below n w Y :=
  h.grown hg hx (fun k e => Nat.le_trans hn (hr k e).1)

set_option maxRecDepth 100000 in
set_option maxHeartbeats 4000000 in
theorem findS_any (gf : Nat) (lb : Array Value) (xs : List Nam8) (s : ByteArray) (w : World) (eg : ∀ args w, (callFunc gf args).run Try.prog w = .ok (.enter gf args) w)
    (hseq : SeqL Fence.wide 4 Try.prog gf lb encN8 xs (fun k => k < w.heap.size) w) :
    Calls Try.prog 28 #[.func (.func gf) #[] lb, .string s] w fun e w' => e = .returned (.tuple #[.string (find8 xs s).1, .bool (find8 xs s).2]) ∧ Below w.heap.size w w' := by
  have HS := Lib.hid hseq
  clear hseq
  refine (callsIn_wide (n := 5)).1 ?_
  refine callsIn_of_wp_marks Try.func28 rfl trivial ?_ rfl
  simp only [Try.ntmps28, List.size_toArray, List.length_cons, List.length_nil, Nat.reduceAdd, Nat.reduceSub, Array.replicate_succ, Array.replicate_zero, List.push_toArray, List.append_toArray, List.nil_append, List.cons_append]
  gi_wp2_with fail
  have i3 : Is (((w.alloc (.cells #[.string s] 9)).alloc (.cells #[.string ⟨#[]⟩] 9)).alloc (.cells #[.bool false] 4)) w.heap.size 9 #[.string s] := ((Is.new w _ _).alloc _).alloc _
  have i4 : Is (((w.alloc (.cells #[.string s] 9)).alloc (.cells #[.string ⟨#[]⟩] 9)).alloc (.cells #[.bool false] 4)) (w.heap.size + 1) 9 #[.string ⟨#[]⟩] := Is.alloc (heap_alloc2_new w _ _) _
  have i5 : Is (((w.alloc (.cells #[.string s] 9)).alloc (.cells #[.string ⟨#[]⟩] 9)).alloc (.cells #[.bool false] 4)) (w.heap.size + 1 + 1) 4 #[.bool false] := by
    have := Is.new ((w.alloc (.cells #[.string s] 9)).alloc (.cells #[.string ⟨#[]⟩] 9)) 4 #[.bool false]
    simpa using this
  have hB : Below w.heap.size w (((w.alloc (.cells #[.string s] 9)).alloc (.cells #[.string ⟨#[]⟩] 9)).alloc (.cells #[.bool false] 4)) := (((Below.refl _ _).alloc (Nat.le_refl _) _).alloc (by simp) _).alloc (by simp; omega) _
  have hsz : (((w.alloc (.cells #[.string s] 9)).alloc (.cells #[.string ⟨#[]⟩] 9)).alloc (.cells #[.bool false] 4)).heap.size = w.heap.size + 3 := by simp
  generalize ((w.alloc (.cells #[.string s] 9)).alloc (.cells #[.string ⟨#[]⟩] 9)).alloc (.cells #[.bool false] 4) = W0 at *
  refine wpIn_rangeL rfl (by omega) (gf := gf) (lb := lb) rfl trivial eg HS.out (Stay.below hB) (fun k hk => by omega) (fun _ => rfl)
    (fun i W => Below w.heap.size w W ∧ Is W w.heap.size 9 #[.string s] ∧ Is W (w.heap.size + 1) 9 #[.string ⟨#[]⟩] ∧ Is W (w.heap.size + 1 + 1) 4 #[.bool false] ∧ (xs.take i).find? (fun x => decide (x.1 = s)) = none)
    (fun c _ W => c = .ret ∧ Below w.heap.size w W ∧ Is W (w.heap.size + 1) 9 #[.string (find8 xs s).1] ∧ Is W (w.heap.size + 1 + 1) 4 #[.bool (find8 xs s).2])
    (fun s X Y row hs hg hr => ⟨belowOwn8 hs.1 hs.1.size (by omega) hg hr, isOwn8 hs.2.1 hg hr, isOwn8 hs.2.2.1 hg hr, isOwn8 hs.2.2.2.1 hg hr, hs.2.2.2.2⟩)
    (fun c s X Y row hs hg hr => ⟨hs.1, belowOwn8 hs.2.1 hs.2.1.size (by omega) hg hr, isOwn8 hs.2.2.1 hg hr, isOwn8 hs.2.2.2 hg hr⟩)
    ⟨hB, i3, i4, i5, rfl⟩ ?round ?done ?stop
  case round =>
    rintro l i ⟨x, y⟩ W hl hlt hx ⟨hb, j3, j4, j5, hn⟩
    gi_wp2
    refine ⟨Stay.refl _ _, ⟨hb, j3, j4, j5, hn⟩, fun _ => True, fun _ _ _ _ _ _ _ => trivial, trivial, ?_⟩
    clear hb j3 j4 j5
    rintro W4 hl4 ⟨hb, j3, j4, j5, _⟩ hax
    have hi := Lib.hid hx
    have HN := Lib.hid hn
    have q4 := j4.frozen 0
    have q5 := j5.frozen 0
    have r4 : W4.cell? ⟨w.heap.size + 1, 0, none⟩ = some (.string ⟨#[]⟩) := j4.cell 0
    have r5 : W4.cell? ⟨w.heap.size + 1 + 1, 0, none⟩ = some (.bool false) := j5.cell 0
    have q3 : W4.cell? ⟨w.heap.size, 0, none⟩ = some (.string s) := j3.cell 0
    by_cases he : x = s
    · subst he
      have hf := Lib.hid (find8_hit hx hn)
      clear hx hn
      gi_wp2_with fail
      refine ⟨((Stay.refl _ _).grown (grownSetG _ _ _) (fun r e => by cases e; exact .inl (by simp only []; omega))).grown (grownSetG _ _ _) (fun r e => by cases e; exact .inl (by simp only []; omega)), rfl,
        (hb.setCell (p := ⟨w.heap.size + 1, 0, none⟩) (by simp) _).setCell (p := ⟨w.heap.size + 1 + 1, 0, none⟩) (by simp; omega) _, ?_, ?_⟩
      · rw [hf.out]; exact (j4.set 0 _).far (p := ⟨w.heap.size + 1 + 1, 0, none⟩) (by simp) _
      · rw [hf.out]; exact (j5.far (p := ⟨w.heap.size + 1, 0, none⟩) (by simp) _).set 0 _
    · have n1 := ne7 he
      have n2 := beq7 he
      have hf := Lib.hid (take_none hx hn he)
      clear hx hn
      gi_wp2_with fail
      exact ⟨Stay.refl _ _, hb, j3, j4, j5, hf.out⟩
  case done =>
    rintro D W hD ⟨hb, j3, j4, j5, hn⟩ hK
    rw [List.take_length] at hn
    have hf := Lib.hid (find8_miss hn)
    have q4 := j4.frozen 0
    have q5 := j5.frozen 0
    have r4 : W.cell? ⟨w.heap.size + 1, 0, none⟩ = some (.string ⟨#[]⟩) := j4.cell 0
    have r5 : W.cell? ⟨w.heap.size + 1 + 1, 0, none⟩ = some (.bool false) := j5.cell 0
    have hK2 : ((W.setCell ⟨w.heap.size + 1, 0, none⟩ (.string ⟨#[]⟩)).setCell ⟨w.heap.size + 1 + 1, 0, none⟩ (.bool false)).heap[D]? = some (.deferred (some [])) :=
      ((heap_setCell_other _ _ D _ (by simp only []; omega)).trans (heap_setCell_other _ _ D _ (by simp only []; omega))).trans hK
    have HK := Lib.hid hK2
    clear hn hK hK2
    gi_wp2
    refine ⟨by simp, .inl ⟨_, _, rfl, run_takeDeferred HK.out, ?_⟩⟩
    have hgr := grownBy_putObj' ((W.setCell ⟨w.heap.size + 1, 0, none⟩ (.string ⟨#[]⟩)).setCell ⟨w.heap.size + 1 + 1, 0, none⟩ (.bool false)) D (.deferred none)
    have hrr : ∀ r, some D = some r → W0.heap.size ≤ r ∧ ∃ o : Obj, ((W.setCell ⟨w.heap.size + 1, 0, none⟩ (.string ⟨#[]⟩)).setCell ⟨w.heap.size + 1 + 1, 0, none⟩ (.bool false)).heap[r]? = some o ∧ o.isCells = false := fun r e => by cases e; exact ⟨hD, _, HK.out, rfl⟩
    have z4 : Is ((W.setCell ⟨w.heap.size + 1, 0, none⟩ (.string ⟨#[]⟩)).setCell ⟨w.heap.size + 1 + 1, 0, none⟩ (.bool false)) (w.heap.size + 1) 9 #[.string ⟨#[]⟩] := (j4.set 0 _).far (p := ⟨w.heap.size + 1 + 1, 0, none⟩) (by simp) _
    have z5 : Is ((W.setCell ⟨w.heap.size + 1, 0, none⟩ (.string ⟨#[]⟩)).setCell ⟨w.heap.size + 1 + 1, 0, none⟩ (.bool false)) (w.heap.size + 1 + 1) 4 #[.bool false] := (j5.far (p := ⟨w.heap.size + 1, 0, none⟩) (by simp) _).set 0 _
    have zb : Below w.heap.size w ((W.setCell ⟨w.heap.size + 1, 0, none⟩ (.string ⟨#[]⟩)).setCell ⟨w.heap.size + 1 + 1, 0, none⟩ (.bool false)) := (hb.setCell (p := ⟨w.heap.size + 1, 0, none⟩) (by simp) _).setCell (p := ⟨w.heap.size + 1 + 1, 0, none⟩) (by simp; omega) _
    exact ⟨_, results_cc Try.results28 _ _ _ (w.heap.size + 1) (w.heap.size + 1 + 1) (.string ⟨#[]⟩) (.bool false) 9 4 rfl rfl (isOwn8 z4 hgr hrr) (isOwn8 z5 hgr hrr) (aggS8 _) (aggB8 _), by rw [hf.out], belowOwn8 zb zb.size (by omega) hgr hrr⟩
  case stop =>
    rintro D c i W hD ⟨rfl, hb, j4, j5⟩ hK
    gi_wp2
    refine ⟨by simp, .inl ⟨_, _, rfl, run_takeDeferred hK, ?_⟩⟩
    have hgr := grownBy_putObj' W D (.deferred none)
    have hrr : ∀ r, some D = some r → W0.heap.size ≤ r ∧ ∃ o : Obj, W.heap[r]? = some o ∧ o.isCells = false := fun r e => by cases e; exact ⟨hD, _, hK, rfl⟩
    exact ⟨_, results_cc Try.results28 _ _ _ (w.heap.size + 1) (w.heap.size + 1 + 1) _ _ 9 4 rfl rfl (isOwn8 j4 hgr hrr) (isOwn8 j5 hgr hrr) (aggS8 _) (aggB8 _), rfl, belowOwn8 hb hb.size (by omega) hgr hrr⟩

set_option maxRecDepth 100000 in
set_option maxHeartbeats 4000000 in
theorem findK_any (gf : Nat) (lb : Array Value) (xs : List ((ByteArray × ByteArray) × ByteArray)) (s1 s2 : ByteArray) (w : World) (eg : ∀ args w, (callFunc gf args).run Try.prog w = .ok (.enter gf args) w)
    (hseq : SeqL Fence.wide 4 Try.prog gf lb encP8 xs (fun k => k < w.heap.size) w) :
    Calls Try.prog 41 #[.func (.func gf) #[] lb, .agg #[.string s1, .string s2]] w fun e w' => e = .returned (.tuple #[.string (find8 xs (s1, s2)).1, .bool (find8 xs (s1, s2)).2]) ∧ Below w.heap.size w w' := by
  have HS := Lib.hid hseq
  clear hseq
  refine (callsIn_wide (n := 5)).1 ?_
  refine callsIn_of_wp_marks Try.func41 rfl trivial ?_ rfl
  simp only [Try.ntmps41, List.size_toArray, List.length_cons, List.length_nil, Nat.reduceAdd, Nat.reduceSub, Array.replicate_succ, Array.replicate_zero, List.push_toArray, List.append_toArray, List.nil_append, List.cons_append]
  gi_wp2_with fail
  have i3 : Is (((w.alloc (.cells #[.string s1, .string s2] 72)).alloc (.cells #[.string ⟨#[]⟩] 9)).alloc (.cells #[.bool false] 4)) w.heap.size 72 #[.string s1, .string s2] := ((Is.new w _ _).alloc _).alloc _
  have i4 : Is (((w.alloc (.cells #[.string s1, .string s2] 72)).alloc (.cells #[.string ⟨#[]⟩] 9)).alloc (.cells #[.bool false] 4)) (w.heap.size + 1) 9 #[.string ⟨#[]⟩] := Is.alloc (heap_alloc2_new w _ _) _
  have i5 : Is (((w.alloc (.cells #[.string s1, .string s2] 72)).alloc (.cells #[.string ⟨#[]⟩] 9)).alloc (.cells #[.bool false] 4)) (w.heap.size + 1 + 1) 4 #[.bool false] := by
    have := Is.new ((w.alloc (.cells #[.string s1, .string s2] 72)).alloc (.cells #[.string ⟨#[]⟩] 9)) 4 #[.bool false]
    simpa using this
  have hB : Below w.heap.size w (((w.alloc (.cells #[.string s1, .string s2] 72)).alloc (.cells #[.string ⟨#[]⟩] 9)).alloc (.cells #[.bool false] 4)) := (((Below.refl _ _).alloc (Nat.le_refl _) _).alloc (by simp) _).alloc (by simp; omega) _
  have hsz : (((w.alloc (.cells #[.string s1, .string s2] 72)).alloc (.cells #[.string ⟨#[]⟩] 9)).alloc (.cells #[.bool false] 4)).heap.size = w.heap.size + 3 := by simp
  generalize ((w.alloc (.cells #[.string s1, .string s2] 72)).alloc (.cells #[.string ⟨#[]⟩] 9)).alloc (.cells #[.bool false] 4) = W0 at *
  refine wpIn_rangeL rfl (by omega) (gf := gf) (lb := lb) rfl trivial eg HS.out (Stay.below hB) (fun k hk => by omega) (fun _ => rfl)
    (fun i W => Below w.heap.size w W ∧ Is W w.heap.size 72 #[.string s1, .string s2] ∧ Is W (w.heap.size + 1) 9 #[.string ⟨#[]⟩] ∧ Is W (w.heap.size + 1 + 1) 4 #[.bool false] ∧ (xs.take i).find? (fun x => decide (x.1 = (s1, s2))) = none)
    (fun c _ W => c = .ret ∧ Below w.heap.size w W ∧ Is W (w.heap.size + 1) 9 #[.string (find8 xs (s1, s2)).1] ∧ Is W (w.heap.size + 1 + 1) 4 #[.bool (find8 xs (s1, s2)).2])
    (fun s X Y row hs hg hr => ⟨belowOwn8 hs.1 hs.1.size (by omega) hg hr, isOwn8 hs.2.1 hg hr, isOwn8 hs.2.2.1 hg hr, isOwn8 hs.2.2.2.1 hg hr, hs.2.2.2.2⟩)
    (fun c s X Y row hs hg hr => ⟨hs.1, belowOwn8 hs.2.1 hs.2.1.size (by omega) hg hr, isOwn8 hs.2.2.1 hg hr, isOwn8 hs.2.2.2 hg hr⟩)
    ⟨hB, i3, i4, i5, rfl⟩ ?round ?done ?stop
  case round =>
    rintro l i ⟨⟨x1, x2⟩, y⟩ W hl hlt hx ⟨hb, j3, j4, j5, hn⟩
    gi_wp2
    refine ⟨(Stay.refl _ _).grown (World.grownBy_alloc _ _ none) (fun r e => by cases e), ⟨hb.alloc hb.size _, j3.alloc _, j4.alloc _, j5.alloc _, hn⟩, fun W' => Is W' W.heap.size 72 #[.string x1, .string x2], fun _ X Y row hs hg hr => isOwn8 hs hg hr, Is.new _ _ _, ?_⟩
    clear hb j3 j4 j5
    rintro W4 hl4 ⟨hb, j3, j4, j5, _⟩ hax
    have hi := Lib.hid hx
    have HN := Lib.hid hn
    have q4 := j4.frozen 0
    have q5 := j5.frozen 0
    have r4 : W4.cell? ⟨w.heap.size + 1, 0, none⟩ = some (.string ⟨#[]⟩) := j4.cell 0
    have r5 : W4.cell? ⟨w.heap.size + 1 + 1, 0, none⟩ = some (.bool false) := j5.cell 0
    have qe := eqS8 x1 x2 s1 s2
    by_cases he : (x1, x2) = (s1, s2)
    · obtain ⟨rfl, rfl⟩ := Prod.mk.inj he
      have hd : decide ((x1, x2) = (x1, x2)) = true := decide_eq_true rfl
      have hf := Lib.hid (find8_hit hx hn)
      clear hx hn
      gi_wp2_with (first | (refine wpListIn_load_rowI rfl 72 _ rfl W.heap.size rfl hax Try.underlying72 rfl infoAsk ?_) | (refine wpListIn_load_rowI rfl 72 _ rfl w.heap.size rfl j3 Try.underlying72 rfl infoAsk ?_))
      refine ⟨((Stay.refl _ _).grown (grownSetG _ _ _) (fun r e => by cases e; exact .inl (by simp only []; omega))).grown (grownSetG _ _ _) (fun r e => by cases e; exact .inl (by simp only []; omega)), rfl,
        (hb.setCell (p := ⟨w.heap.size + 1, 0, none⟩) (by simp) _).setCell (p := ⟨w.heap.size + 1 + 1, 0, none⟩) (by simp; omega) _, ?_, ?_⟩
      · rw [hf.out]; exact (j4.set 0 _).far (p := ⟨w.heap.size + 1 + 1, 0, none⟩) (by simp) _
      · rw [hf.out]; exact (j5.far (p := ⟨w.heap.size + 1, 0, none⟩) (by simp) _).set 0 _
    · have hd : decide ((x1, x2) = (s1, s2)) = false := decide_eq_false he
      have hf := Lib.hid (take_none hx hn he)
      clear hx hn
      gi_wp2_with (first | (refine wpListIn_load_rowI rfl 72 _ rfl W.heap.size rfl hax Try.underlying72 rfl infoAsk ?_) | (refine wpListIn_load_rowI rfl 72 _ rfl w.heap.size rfl j3 Try.underlying72 rfl infoAsk ?_))
      exact ⟨Stay.refl _ _, hb, j3, j4, j5, hf.out⟩
  case done =>
    rintro D W hD ⟨hb, j3, j4, j5, hn⟩ hK
    rw [List.take_length] at hn
    have hf := Lib.hid (find8_miss hn)
    have q4 := j4.frozen 0
    have q5 := j5.frozen 0
    have r4 : W.cell? ⟨w.heap.size + 1, 0, none⟩ = some (.string ⟨#[]⟩) := j4.cell 0
    have r5 : W.cell? ⟨w.heap.size + 1 + 1, 0, none⟩ = some (.bool false) := j5.cell 0
    have hK2 : ((W.setCell ⟨w.heap.size + 1, 0, none⟩ (.string ⟨#[]⟩)).setCell ⟨w.heap.size + 1 + 1, 0, none⟩ (.bool false)).heap[D]? = some (.deferred (some [])) :=
      ((heap_setCell_other _ _ D _ (by simp only []; omega)).trans (heap_setCell_other _ _ D _ (by simp only []; omega))).trans hK
    have HK := Lib.hid hK2
    clear hn hK hK2
    gi_wp2
    refine ⟨by simp, .inl ⟨_, _, rfl, run_takeDeferred HK.out, ?_⟩⟩
    have hgr := grownBy_putObj' ((W.setCell ⟨w.heap.size + 1, 0, none⟩ (.string ⟨#[]⟩)).setCell ⟨w.heap.size + 1 + 1, 0, none⟩ (.bool false)) D (.deferred none)
    have hrr : ∀ r, some D = some r → W0.heap.size ≤ r ∧ ∃ o : Obj, ((W.setCell ⟨w.heap.size + 1, 0, none⟩ (.string ⟨#[]⟩)).setCell ⟨w.heap.size + 1 + 1, 0, none⟩ (.bool false)).heap[r]? = some o ∧ o.isCells = false := fun r e => by cases e; exact ⟨hD, _, HK.out, rfl⟩
    have z4 : Is ((W.setCell ⟨w.heap.size + 1, 0, none⟩ (.string ⟨#[]⟩)).setCell ⟨w.heap.size + 1 + 1, 0, none⟩ (.bool false)) (w.heap.size + 1) 9 #[.string ⟨#[]⟩] := (j4.set 0 _).far (p := ⟨w.heap.size + 1 + 1, 0, none⟩) (by simp) _
    have z5 : Is ((W.setCell ⟨w.heap.size + 1, 0, none⟩ (.string ⟨#[]⟩)).setCell ⟨w.heap.size + 1 + 1, 0, none⟩ (.bool false)) (w.heap.size + 1 + 1) 4 #[.bool false] := (j5.far (p := ⟨w.heap.size + 1, 0, none⟩) (by simp) _).set 0 _
    have zb : Below w.heap.size w ((W.setCell ⟨w.heap.size + 1, 0, none⟩ (.string ⟨#[]⟩)).setCell ⟨w.heap.size + 1 + 1, 0, none⟩ (.bool false)) := (hb.setCell (p := ⟨w.heap.size + 1, 0, none⟩) (by simp) _).setCell (p := ⟨w.heap.size + 1 + 1, 0, none⟩) (by simp; omega) _
    exact ⟨_, results_cc Try.results41 _ _ _ (w.heap.size + 1) (w.heap.size + 1 + 1) (.string ⟨#[]⟩) (.bool false) 9 4 rfl rfl (isOwn8 z4 hgr hrr) (isOwn8 z5 hgr hrr) (aggS8 _) (aggB8 _), by rw [hf.out], belowOwn8 zb zb.size (by omega) hgr hrr⟩
  case stop =>
    rintro D c i W hD ⟨rfl, hb, j4, j5⟩ hK
    gi_wp2
    refine ⟨by simp, .inl ⟨_, _, rfl, run_takeDeferred hK, ?_⟩⟩
    have hgr := grownBy_putObj' W D (.deferred none)
    have hrr : ∀ r, some D = some r → W0.heap.size ≤ r ∧ ∃ o : Obj, W.heap[r]? = some o ∧ o.isCells = false := fun r e => by cases e; exact ⟨hD, _, hK, rfl⟩
    exact ⟨_, results_cc Try.results41 _ _ _ (w.heap.size + 1) (w.heap.size + 1 + 1) _ _ 9 4 rfl rfl (isOwn8 j4 hgr hrr) (isOwn8 j5 hgr hrr) (aggS8 _) (aggB8 _), rfl, belowOwn8 hb hb.size (by omega) hgr hrr⟩

set_option maxRecDepth 100000 in
set_option maxHeartbeats 4000000 in
theorem findO_any (gf : Nat) (lb : Array Value) (xs : List ((ByteArray × ByteArray) × ByteArray)) (s1 s2 : ByteArray) (w : World) (eg : ∀ args w, (callFunc gf args).run Try.prog w = .ok (.enter gf args) w)
    (hseq : SeqL Fence.wide 4 Try.prog gf lb encP8 xs (fun k => k < w.heap.size) w) :
    Calls Try.prog 42 #[.func (.func gf) #[] lb, .agg #[.string s1, .string s2]] w fun e w' => e = .returned (.tuple #[.string (find8 xs (s1, s2)).1, .bool (find8 xs (s1, s2)).2]) ∧ Below w.heap.size w w' := by
  have HS := Lib.hid hseq
  clear hseq
  refine (callsIn_wide (n := 5)).1 ?_
  refine callsIn_of_wp_marks Try.func42 rfl trivial ?_ rfl
  simp only [Try.ntmps42, List.size_toArray, List.length_cons, List.length_nil, Nat.reduceAdd, Nat.reduceSub, Array.replicate_succ, Array.replicate_zero, List.push_toArray, List.append_toArray, List.nil_append, List.cons_append]
  gi_wp2_with fail
  have i3 : Is (((w.alloc (.cells #[.string s1, .string s2] 79)).alloc (.cells #[.string ⟨#[]⟩] 9)).alloc (.cells #[.bool false] 4)) w.heap.size 79 #[.string s1, .string s2] := ((Is.new w _ _).alloc _).alloc _
  have i4 : Is (((w.alloc (.cells #[.string s1, .string s2] 79)).alloc (.cells #[.string ⟨#[]⟩] 9)).alloc (.cells #[.bool false] 4)) (w.heap.size + 1) 9 #[.string ⟨#[]⟩] := Is.alloc (heap_alloc2_new w _ _) _
  have i5 : Is (((w.alloc (.cells #[.string s1, .string s2] 79)).alloc (.cells #[.string ⟨#[]⟩] 9)).alloc (.cells #[.bool false] 4)) (w.heap.size + 1 + 1) 4 #[.bool false] := by
    have := Is.new ((w.alloc (.cells #[.string s1, .string s2] 79)).alloc (.cells #[.string ⟨#[]⟩] 9)) 4 #[.bool false]
    simpa using this
  have hB : Below w.heap.size w (((w.alloc (.cells #[.string s1, .string s2] 79)).alloc (.cells #[.string ⟨#[]⟩] 9)).alloc (.cells #[.bool false] 4)) := (((Below.refl _ _).alloc (Nat.le_refl _) _).alloc (by simp) _).alloc (by simp; omega) _
  have hsz : (((w.alloc (.cells #[.string s1, .string s2] 79)).alloc (.cells #[.string ⟨#[]⟩] 9)).alloc (.cells #[.bool false] 4)).heap.size = w.heap.size + 3 := by simp
  generalize ((w.alloc (.cells #[.string s1, .string s2] 79)).alloc (.cells #[.string ⟨#[]⟩] 9)).alloc (.cells #[.bool false] 4) = W0 at *
  refine wpIn_rangeL rfl (by omega) (gf := gf) (lb := lb) rfl trivial eg HS.out (Stay.below hB) (fun k hk => by omega) (fun _ => rfl)
    (fun i W => Below w.heap.size w W ∧ Is W w.heap.size 79 #[.string s1, .string s2] ∧ Is W (w.heap.size + 1) 9 #[.string ⟨#[]⟩] ∧ Is W (w.heap.size + 1 + 1) 4 #[.bool false] ∧ (xs.take i).find? (fun x => decide (x.1 = (s1, s2))) = none)
    (fun c _ W => c = .ret ∧ Below w.heap.size w W ∧ Is W (w.heap.size + 1) 9 #[.string (find8 xs (s1, s2)).1] ∧ Is W (w.heap.size + 1 + 1) 4 #[.bool (find8 xs (s1, s2)).2])
    (fun s X Y row hs hg hr => ⟨belowOwn8 hs.1 hs.1.size (by omega) hg hr, isOwn8 hs.2.1 hg hr, isOwn8 hs.2.2.1 hg hr, isOwn8 hs.2.2.2.1 hg hr, hs.2.2.2.2⟩)
    (fun c s X Y row hs hg hr => ⟨hs.1, belowOwn8 hs.2.1 hs.2.1.size (by omega) hg hr, isOwn8 hs.2.2.1 hg hr, isOwn8 hs.2.2.2 hg hr⟩)
    ⟨hB, i3, i4, i5, rfl⟩ ?round ?done ?stop
  case round =>
    rintro l i ⟨⟨x1, x2⟩, y⟩ W hl hlt hx ⟨hb, j3, j4, j5, hn⟩
    gi_wp2
    refine ⟨(Stay.refl _ _).grown (World.grownBy_alloc _ _ none) (fun r e => by cases e), ⟨hb.alloc hb.size _, j3.alloc _, j4.alloc _, j5.alloc _, hn⟩, fun W' => Is W' W.heap.size 79 #[.string x1, .string x2], fun _ X Y row hs hg hr => isOwn8 hs hg hr, Is.new _ _ _, ?_⟩
    clear hb j3 j4 j5
    rintro W4 hl4 ⟨hb, j3, j4, j5, _⟩ hax
    have hi := Lib.hid hx
    have HN := Lib.hid hn
    have q4 := j4.frozen 0
    have q5 := j5.frozen 0
    have r4 : W4.cell? ⟨w.heap.size + 1, 0, none⟩ = some (.string ⟨#[]⟩) := j4.cell 0
    have r5 : W4.cell? ⟨w.heap.size + 1 + 1, 0, none⟩ = some (.bool false) := j5.cell 0
    have qe := eqO8 x1 x2 s1 s2
    by_cases he : (x1, x2) = (s1, s2)
    · obtain ⟨rfl, rfl⟩ := Prod.mk.inj he
      have hd : decide ((x1, x2) = (x1, x2)) = true := decide_eq_true rfl
      have hf := Lib.hid (find8_hit hx hn)
      clear hx hn
      gi_wp2_with (first | (refine wpListIn_load_rowI rfl 79 _ rfl W.heap.size rfl hax Try.underlying79 rfl infoOpn ?_) | (refine wpListIn_load_rowI rfl 79 _ rfl w.heap.size rfl j3 Try.underlying79 rfl infoOpn ?_))
      refine ⟨((Stay.refl _ _).grown (grownSetG _ _ _) (fun r e => by cases e; exact .inl (by simp only []; omega))).grown (grownSetG _ _ _) (fun r e => by cases e; exact .inl (by simp only []; omega)), rfl,
        (hb.setCell (p := ⟨w.heap.size + 1, 0, none⟩) (by simp) _).setCell (p := ⟨w.heap.size + 1 + 1, 0, none⟩) (by simp; omega) _, ?_, ?_⟩
      · rw [hf.out]; exact (j4.set 0 _).far (p := ⟨w.heap.size + 1 + 1, 0, none⟩) (by simp) _
      · rw [hf.out]; exact (j5.far (p := ⟨w.heap.size + 1, 0, none⟩) (by simp) _).set 0 _
    · have hd : decide ((x1, x2) = (s1, s2)) = false := decide_eq_false he
      have hf := Lib.hid (take_none hx hn he)
      clear hx hn
      gi_wp2_with (first | (refine wpListIn_load_rowI rfl 79 _ rfl W.heap.size rfl hax Try.underlying79 rfl infoOpn ?_) | (refine wpListIn_load_rowI rfl 79 _ rfl w.heap.size rfl j3 Try.underlying79 rfl infoOpn ?_))
      exact ⟨Stay.refl _ _, hb, j3, j4, j5, hf.out⟩
  case done =>
    rintro D W hD ⟨hb, j3, j4, j5, hn⟩ hK
    rw [List.take_length] at hn
    have hf := Lib.hid (find8_miss hn)
    have q4 := j4.frozen 0
    have q5 := j5.frozen 0
    have r4 : W.cell? ⟨w.heap.size + 1, 0, none⟩ = some (.string ⟨#[]⟩) := j4.cell 0
    have r5 : W.cell? ⟨w.heap.size + 1 + 1, 0, none⟩ = some (.bool false) := j5.cell 0
    have hK2 : ((W.setCell ⟨w.heap.size + 1, 0, none⟩ (.string ⟨#[]⟩)).setCell ⟨w.heap.size + 1 + 1, 0, none⟩ (.bool false)).heap[D]? = some (.deferred (some [])) :=
      ((heap_setCell_other _ _ D _ (by simp only []; omega)).trans (heap_setCell_other _ _ D _ (by simp only []; omega))).trans hK
    have HK := Lib.hid hK2
    clear hn hK hK2
    gi_wp2
    refine ⟨by simp, .inl ⟨_, _, rfl, run_takeDeferred HK.out, ?_⟩⟩
    have hgr := grownBy_putObj' ((W.setCell ⟨w.heap.size + 1, 0, none⟩ (.string ⟨#[]⟩)).setCell ⟨w.heap.size + 1 + 1, 0, none⟩ (.bool false)) D (.deferred none)
    have hrr : ∀ r, some D = some r → W0.heap.size ≤ r ∧ ∃ o : Obj, ((W.setCell ⟨w.heap.size + 1, 0, none⟩ (.string ⟨#[]⟩)).setCell ⟨w.heap.size + 1 + 1, 0, none⟩ (.bool false)).heap[r]? = some o ∧ o.isCells = false := fun r e => by cases e; exact ⟨hD, _, HK.out, rfl⟩
    have z4 : Is ((W.setCell ⟨w.heap.size + 1, 0, none⟩ (.string ⟨#[]⟩)).setCell ⟨w.heap.size + 1 + 1, 0, none⟩ (.bool false)) (w.heap.size + 1) 9 #[.string ⟨#[]⟩] := (j4.set 0 _).far (p := ⟨w.heap.size + 1 + 1, 0, none⟩) (by simp) _
    have z5 : Is ((W.setCell ⟨w.heap.size + 1, 0, none⟩ (.string ⟨#[]⟩)).setCell ⟨w.heap.size + 1 + 1, 0, none⟩ (.bool false)) (w.heap.size + 1 + 1) 4 #[.bool false] := (j5.far (p := ⟨w.heap.size + 1, 0, none⟩) (by simp) _).set 0 _
    have zb : Below w.heap.size w ((W.setCell ⟨w.heap.size + 1, 0, none⟩ (.string ⟨#[]⟩)).setCell ⟨w.heap.size + 1 + 1, 0, none⟩ (.bool false)) := (hb.setCell (p := ⟨w.heap.size + 1, 0, none⟩) (by simp) _).setCell (p := ⟨w.heap.size + 1 + 1, 0, none⟩) (by simp; omega) _
    exact ⟨_, results_cc Try.results42 _ _ _ (w.heap.size + 1) (w.heap.size + 1 + 1) (.string ⟨#[]⟩) (.bool false) 9 4 rfl rfl (isOwn8 z4 hgr hrr) (isOwn8 z5 hgr hrr) (aggS8 _) (aggB8 _), by rw [hf.out], belowOwn8 zb zb.size (by omega) hgr hrr⟩
  case stop =>
    rintro D c i W hD ⟨rfl, hb, j4, j5⟩ hK
    gi_wp2
    refine ⟨by simp, .inl ⟨_, _, rfl, run_takeDeferred hK, ?_⟩⟩
    have hgr := grownBy_putObj' W D (.deferred none)
    have hrr : ∀ r, some D = some r → W0.heap.size ≤ r ∧ ∃ o : Obj, W.heap[r]? = some o ∧ o.isCells = false := fun r e => by cases e; exact ⟨hD, _, hK, rfl⟩
    exact ⟨_, results_cc Try.results42 _ _ _ (w.heap.size + 1) (w.heap.size + 1 + 1) _ _ 9 4 rfl rfl (isOwn8 j4 hgr hrr) (isOwn8 j5 hgr hrr) (aggS8 _) (aggB8 _), rfl, belowOwn8 hb hb.size (by omega) hgr hrr⟩
end Go.Proofs.Ytdbdoammbnogaaa
