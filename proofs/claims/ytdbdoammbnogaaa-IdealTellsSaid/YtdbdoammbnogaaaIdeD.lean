/-
  Layer 8: contracts of ideal.twice, the program's: whether a thing is told twice, of whatever tells a list. Conditions: it tells that list; its things are no longer than texts may be.
-/
import Derived.Test.YtdbdoammbnogaaaIdeC
import Derived.Maps.OwnIn
import Derived.DeepKeys4
import Derived.StringKeys
namespace Go.Proofs.Ytdbdoammbnogaaa
open Go.RowKit Go.Shelf Go.Maps Go.WideMaps
attribute [local go_sem] Oper.semAt_some

theorem results_c8 {fn : Func} {s : Tmp} {t0 : TypeId} (h : fn.results = #[.cell s t0]) (tmps : Array Value) (P : Program) (w : World) (g0 : Nat) (y0 : Value) (T0 : TypeId)
    (hs : tmps.getD s undef = .pointer (some ⟨g0, 0, none⟩)) (i0 : Is w g0 T0 #[y0]) (a0 : (isAgg t0).run P w = .ok false w) :
    (results fn tmps).run P w = .ok y0 w := by
  have e : (results fn tmps).run P w = ((asAddr (tmps.getD s undef)).run P w).andThen fun b w0 => (loadVar t0 b).run P w0 := by
    simp only [results, h]
    simp [Sem.run_bind, Result.andThen]
  have c0 := i0.cell 0
  have l0 : (loadVar t0 ⟨g0, 0, none⟩).run P w = .ok y0 w := by
    simp only [loadVar, Sem.run_bind, a0, Result.andThen_ok]
    simp [go_sem, c0]
  rw [e, hs]
  simp [asAddr, l0]
theorem laidOut8 : laidOutB Try.prog = true := by kernel_rfl
theorem lawS8 : Keyed Try.prog 9 := string_keyed Try.underlying9
theorem lawK8 : Keyed Try.prog 72 := Keyed.of_law (deep_law_laid laidOut8 (m := 3) (by omega) (of_decide_eq_true (by kernel_rfl)) (by kernel_rfl) (by kernel_rfl))
theorem lawO8 : Keyed Try.prog 79 := Keyed.of_law (deep_law_laid laidOut8 (m := 3) (by omega) (of_decide_eq_true (by kernel_rfl)) (by kernel_rfl) (by kernel_rfl))
theorem zeroU8 (w : World) : (zeroValue 88).run Try.prog w = .ok (.agg #[]) w := by kernel_rfl
theorem typesSz8 : ∃ m, Try.prog.types.size = m + 1 := ⟨Try.prog.types.size - 1, by kernel_rfl⟩
theorem keyS8 {s : ByteArray} (h : s.size ≤ maxLen) : ∃ l, keyOf Try.prog 9 (.string s) = some l := ⟨_, keyOf_string_mk Try.underlying9 h⟩
theorem keyK8 {a b : ByteArray} (ha : a.size ≤ maxLen) (hb : b.size ≤ maxLen) : ∃ l, keyOf Try.prog 72 (.agg #[.string a, .string b]) = some l := by
  have kt : Try.prog.keyType 72 = true := by kernel_rfl
  have kf : (Value.agg #[.string a, .string b]).formed Try.prog 72 = true := by simp [Value.formed, Try.underlying72, show Try.prog.cellsOf 72 = 2 from by kernel_rfl]
  obtain ⟨m, hm⟩ := typesSz8
  simp only [keyOf, Try.underlying72, kt, kf, Bool.and_self, if_true]
  refine ⟨.string (keyBytes [.string a.data.toList, .string b.data.toList]), ?_⟩
  rw [hm]
  simp [Program.keyLits, Try.underlying72, Try.underlying9, show Try.prog.cellsOf 72 = 2 from by kernel_rfl, show Try.prog.cellsOf 9 = 1 from by kernel_rfl, ha, hb, Value.cells]
theorem keyO8 {a b : ByteArray} (ha : a.size ≤ maxLen) (hb : b.size ≤ maxLen) : ∃ l, keyOf Try.prog 79 (.agg #[.string a, .string b]) = some l := by
  have kt : Try.prog.keyType 79 = true := by kernel_rfl
  have kf : (Value.agg #[.string a, .string b]).formed Try.prog 79 = true := by simp [Value.formed, Try.underlying79, show Try.prog.cellsOf 79 = 2 from by kernel_rfl]
  obtain ⟨m, hm⟩ := typesSz8
  simp only [keyOf, Try.underlying79, kt, kf, Bool.and_self, if_true]
  refine ⟨.string (keyBytes [.string a.data.toList, .string b.data.toList]), ?_⟩
  rw [hm]
  simp [Program.keyLits, Try.underlying79, Try.underlying9, show Try.prog.cellsOf 79 = 2 from by kernel_rfl, show Try.prog.cellsOf 9 = 1 from by kernel_rfl, ha, hb, Value.cells]
/-- a thing that is told a second time. -/
def twice8 {κ : Type} [DecidableEq κ] (l : List κ) : Bool := pairs8 (fun x y => decide (x = y)) l
theorem twice8_take {κ : Type} [DecidableEq κ] {l : List κ} {i : Nat} {x : κ} (hx : l[i]? = some x) : twice8 (l.take (i + 1)) = (twice8 (l.take i) || (l.take i).any fun y => decide (y = x)) := by
  rw [List.take_add_one, hx]
  exact pairs8_snoc _ _ _
theorem pairs8_left {α : Type} (f : α → α → Bool) (l r : List α) (h : pairs8 f l = true) : pairs8 f (l ++ r) = true := by
  induction l with
  | nil => cases h
  | cons x l ih =>
    show ((l ++ r).any (f x) || pairs8 f (l ++ r)) = true
    have h' : (l.any (f x) || pairs8 f l) = true := h
    rw [Bool.or_eq_true] at h' ⊢
    rcases h' with h' | h'
    · rw [List.any_append, h']; exact .inl rfl
    · exact .inr (ih h')
theorem twice8_hit {κ : Type} [DecidableEq κ] {l : List κ} {i : Nat} {x : κ} (hx : l[i]? = some x) (h : ((l.take i).any fun y => decide (y = x)) = true) : twice8 l = true := by
  have := twice8_take hx
  rw [h, Bool.or_true] at this
  have h2 := pairs8_left _ _ (l.drop (i + 1)) this
  rwa [List.take_append_drop] at h2
/-- a set that has just what was told so far. -/
def Told {κ : Type} [DecidableEq κ] (T : TypeId) (kv : κ → Value) (ok : κ → Prop) (D : DataW Unit) (l : List κ) : Prop :=
  IsMap D ∧ ∀ x v, ok x → keyOf Try.prog T (kv x) = some v → Maps.has D v = l.any fun y => decide (y = x)
theorem told_nil {κ : Type} [DecidableEq κ] (T : TypeId) (kv : κ → Value) (ok : κ → Prop) : Told T kv ok (.map []) ([] : List κ) := ⟨⟨_, rfl⟩, fun _ _ _ _ => rfl⟩
theorem told_put {κ : Type} [DecidableEq κ] {T : TypeId} (K : Keyed Try.prog T) {kv : κ → Value} (hinj : ∀ x y, kv x = kv y → x = y) {ok : κ → Prop} {D : DataW Unit} {l : List κ} (h : Told T kv ok D l) {x : κ} {v : Lit} (hv : keyOf Try.prog T (kv x) = some v) :
    Told T kv ok (D.put v (.agg [])) (l ++ [x]) := by
  refine ⟨h.1.put _ _, fun y u hy hu => ?_⟩
  rw [List.any_append]
  by_cases e : x = y
  · subst e
    rw [hu] at hv
    cases hv
    rw [has_put_same h.1 (K.key hu)]
    simp
  · have hne : u ≠ v := fun e2 => by
      subst e2
      exact e (hinj _ _ (K.inj hv hu))
    rw [has_put_other hne, h.2 y u hy hu]
    simp [e]

set_option maxRecDepth 100000 in
set_option maxHeartbeats 4000000 in
theorem twiceS_any (gf : Nat) (lb : Array Value) (xs : List Nam8) (m : Int) (w : World) (eg : ∀ args w, (callFunc gf args).run Try.prog w = .ok (.enter gf args) w)
    (hseq : SeqL Fence.wide 4 Try.prog gf lb encN8 xs (fun k => k < w.heap.size) w) (hok : ∀ x ∈ xs, x.1.size ≤ maxLen) (hlen : xs.length < maxLen) :
    Calls Try.prog 37 #[.func (.func gf) #[] lb, .int .i64 m] w fun e w' => e = .returned (.bool (twice8 (xs.map Prod.fst))) ∧ Below w.heap.size w w' := by
  have HS := Lib.hid hseq
  have HO := Lib.hid hok
  have HL := Lib.hid hlen
  clear hseq hok hlen
  have hmm : ∀ (w : World) (m : Int), (Instr.makeMap 87 (some (.int .i64 m))).run Try.prog w = .ok (.map (some w.heap.size)) (w.alloc (.map #[] 0)) := fun w m => by kernel_rfl
  refine (callsIn_wide (n := 5)).1 ?_
  refine callsIn_of_wp_marks Try.func37 rfl trivial ?_ rfl
  simp only [Try.ntmps37, List.size_toArray, List.length_cons, List.length_nil, Nat.reduceAdd, Nat.reduceSub, Array.replicate_succ, Array.replicate_zero, List.push_toArray, List.append_toArray, List.nil_append, List.cons_append]
  gi_wp2_with fail
  have i4 : Is (((w.alloc (.cells #[.bool false] 4)).alloc (.map #[] 0)).alloc (.cells #[.map (some (w.heap.size + 1))] 87)) w.heap.size 4 #[.bool false] := ((Is.new w _ _).alloc _).alloc _
  have i5 : Is (((w.alloc (.cells #[.bool false] 4)).alloc (.map #[] 0)).alloc (.cells #[.map (some (w.heap.size + 1))] 87)) (w.heap.size + 1 + 1) 87 #[.map (some (w.heap.size + 1))] := by
    have := Is.new ((w.alloc (.cells #[.bool false] 4)).alloc (.map #[] 0)) 87 #[.map (some (w.heap.size + 1))]
    simpa using this
  have hM : (((w.alloc (.cells #[.bool false] 4)).alloc (.map #[] 0)).alloc (.cells #[.map (some (w.heap.size + 1))] 87)).ownsMap Try.prog 9 (unitElem (H := Unit)) (w.heap.size + 1) 0 (.map []) := by
    have := World.ownsMap_made (w.alloc (.cells #[.bool false] 4)) Try.prog 9 (unitElem (H := Unit))
    rw [World.size_alloc] at this
    exact this.alloc _
  have hB : Below w.heap.size w (((w.alloc (.cells #[.bool false] 4)).alloc (.map #[] 0)).alloc (.cells #[.map (some (w.heap.size + 1))] 87)) := (((Below.refl _ _).alloc (Nat.le_refl _) _).alloc (by simp) _).alloc (by simp; omega) _
  have hsz : (((w.alloc (.cells #[.bool false] 4)).alloc (.map #[] 0)).alloc (.cells #[.map (some (w.heap.size + 1))] 87)).heap.size = w.heap.size + 3 := by simp
  generalize ((w.alloc (.cells #[.bool false] 4)).alloc (.map #[] 0)).alloc (.cells #[.map (some (w.heap.size + 1))] 87) = W0 at *
  refine wpIn_rangeL rfl (by omega) (gf := gf) (lb := lb) rfl trivial eg HS.out (Stay.below hB) (fun k hk => by omega) (fun _ => rfl)
    (fun i W => Below w.heap.size w W ∧ Is W w.heap.size 4 #[.bool false] ∧ Is W (w.heap.size + 1 + 1) 87 #[.map (some (w.heap.size + 1))] ∧ ∃ D, W.ownsMap Try.prog 9 (unitElem (H := Unit)) (w.heap.size + 1) i D ∧ Told 9 Value.string (fun s => s.size ≤ maxLen) D ((xs.map Prod.fst).take i) ∧ twice8 ((xs.map Prod.fst).take i) = false)
    (fun c _ W => c = .ret ∧ Below w.heap.size w W ∧ Is W w.heap.size 4 #[.bool true] ∧ twice8 (xs.map Prod.fst) = true)
    (fun s X Y row hs hg hr => ⟨belowOwn8 hs.1 hs.1.size (by omega) hg hr, isOwn8 hs.2.1 hg hr, isOwn8 hs.2.2.1 hg hr, by
      obtain ⟨D, h1, h2⟩ := hs.2.2.2
      exact ⟨D, h1.kept hg (fun e => by have := (hr _ e.symm).1; omega), h2⟩⟩)
    (fun c s X Y row hs hg hr => ⟨hs.1, belowOwn8 hs.2.1 hs.2.1.size (by omega) hg hr, isOwn8 hs.2.2.1 hg hr, hs.2.2.2⟩)
    ⟨hB, i4, i5, .map [], hM, told_nil _ _ _, rfl⟩ ?round ?done ?stop
  case round =>
    rintro l i ⟨x, y⟩ W hl hlt hx ⟨hb, j4, j5, D, hown, ht, hn⟩
    gi_wp2
    refine ⟨Stay.refl _ _, ⟨hb, j4, j5, D, hown, ht, hn⟩, fun _ => True, fun _ _ _ _ _ _ _ => trivial, trivial, ?_⟩
    clear hb j4 j5 hown ht hn D
    rintro W4 hl4 ⟨hb, j4, j5, D, hown, ht, hn⟩ hax
    have hokx := HO.out _ (List.mem_of_getElem? hx)
    obtain ⟨v, hv⟩ := keyS8 hokx
    have hm : (xs.map Prod.fst)[i]? = some x := by rw [List.getElem?_map, hx]; rfl
    have hh := ht.2 x v hokx hv
    have hi : i < xs.length := (List.getElem?_eq_some_iff.1 hx).1
    have him : i < maxLen := Nat.lt_trans hi HL.out
    have q4 := j4.frozen 0
    have r4 : W4.cell? ⟨w.heap.size, 0, none⟩ = some (.bool false) := j4.cell 0
    have r5 : W4.cell? ⟨w.heap.size + 1 + 1, 0, none⟩ = some (.map (some (w.heap.size + 1))) := j5.cell 0
    have r5' : (W4.alloc (.cells #[] 88)).cell? ⟨w.heap.size + 1 + 1, 0, none⟩ = some (.map (some (w.heap.size + 1))) := (j5.alloc _).cell 0
    have q4' : (W4.alloc (.cells #[] 88)).frozen? ⟨w.heap.size, 0, none⟩ = false := (j4.alloc _).frozen 0
    have r4' : (W4.alloc (.cells #[] 88)).cell? ⟨w.heap.size, 0, none⟩ = some (.bool false) := (j4.alloc _).cell 0
    have HV := Lib.hid hv
    have HT := Lib.hid ht
    by_cases he : (((xs.map Prod.fst).take i).any fun y => decide (y = x)) = true
    · rw [he] at hh
      have hT := Lib.hid (twice8_hit hm he)
      clear he hm hx hv ht hn
      gi_wp2_with (first  | (refine wpListIn_lookup_own_unit _ rfl _ _ 87 rfl 9 88 lawS8 Try.underlying87 (zeroU8 _) (w.heap.size + 1) i D rfl hown _ v rfl HV.out ?_) | (refine wpListIn_mapUpdate_own _ rfl _ _ _ 87 rfl 9 88 lawS8 Try.underlying87 _ (w.heap.size + 1) i D rfl (hown.alloc _) him _ _ v rfl rfl HV.out (.agg []) [] unitElem_mk ?_; intro w1 hown1 hgrow1))
      exact ⟨((Stay.refl _ _).grown (World.grownBy_alloc _ _ none) (fun r e => by cases e)).grown (grownSetG _ _ _) (fun r e => by cases e; exact .inl (by simp only []; omega)), rfl,
        (hb.alloc hb.size _).setCell (p := ⟨w.heap.size, 0, none⟩) (by simp) _, (j4.alloc _).set 0 _, hT.out⟩
    · rw [Bool.not_eq_true] at he
      have ht2 := Lib.hid (told_put lawS8 (fun a b e => by cases e; rfl) ht hv)
      have hn2 := Lib.hid (show twice8 ((xs.map Prod.fst).take (i + 1)) = false by rw [twice8_take hm, hn, he]; rfl)
      have htk := Lib.hid (show (xs.map Prod.fst).take (i + 1) = (xs.map Prod.fst).take i ++ [x] by rw [List.take_add_one, hm]; rfl)
      rw [he] at hh
      clear he hm hx hv ht hn
      gi_wp2_with (first  | (refine wpListIn_lookup_own_unit _ rfl _ _ 87 rfl 9 88 lawS8 Try.underlying87 (zeroU8 _) (w.heap.size + 1) i D rfl hown _ v rfl HV.out ?_) | (refine wpListIn_mapUpdate_own _ rfl _ _ _ 87 rfl 9 88 lawS8 Try.underlying87 _ (w.heap.size + 1) i D rfl (hown.alloc _) him _ _ v rfl rfl HV.out (.agg []) [] unitElem_mk ?_; intro w1 hown1 hgrow1))
      refine ⟨((Stay.refl _ _).grown (World.grownBy_alloc _ _ none) (fun r e => by cases e)).grown hgrow1 (fun r e => by cases e; exact .inl (by omega)), (hb.alloc hb.size _).grown hgrow1 (by have := hb.size; simp; omega) (fun k e => by cases e; omega),
        (hgrow1.block _ (j4.alloc _).lt (by intro e; have := Option.some.inj e; omega)).trans (j4.alloc _), (hgrow1.block _ (j5.alloc _).lt (by intro e; have := Option.some.inj e; omega)).trans (j5.alloc _), _, hown1, ?_, hn2.out⟩
      rw [htk.out]
      exact ht2.out
  case done =>
    rintro D W hD ⟨hb, j4, j5, _, _, _, hn⟩ hK
    have hln : (xs.map Prod.fst).take xs.length = xs.map Prod.fst := by rw [← List.length_map (f := Prod.fst), List.take_length]
    rw [hln] at hn
    have q4 := j4.frozen 0
    have r4 : W.cell? ⟨w.heap.size, 0, none⟩ = some (.bool false) := j4.cell 0
    have hK2 : (W.setCell ⟨w.heap.size, 0, none⟩ (.bool false)).heap[D]? = some (.deferred (some [])) := (heap_setCell_other _ _ D _ (by simp only []; omega)).trans hK
    have HK := Lib.hid hK2
    have hf := Lib.hid hn
    clear hn hK hK2
    gi_wp2
    refine ⟨by simp, .inl ⟨_, _, rfl, run_takeDeferred HK.out, ?_⟩⟩
    have hgr := grownBy_putObj' (W.setCell ⟨w.heap.size, 0, none⟩ (.bool false)) D (.deferred none)
    have hrr : ∀ r, some D = some r → W0.heap.size ≤ r ∧ ∃ o : Obj, (W.setCell ⟨w.heap.size, 0, none⟩ (.bool false)).heap[r]? = some o ∧ o.isCells = false := fun r e => by cases e; exact ⟨hD, _, HK.out, rfl⟩
    have zb : Below w.heap.size w (W.setCell ⟨w.heap.size, 0, none⟩ (.bool false)) := hb.setCell (p := ⟨w.heap.size, 0, none⟩) (by simp) _
    exact ⟨_, results_c8 Try.results37 _ _ _ w.heap.size (.bool false) 4 rfl (isOwn8 (j4.set 0 _) hgr hrr) (aggB8 _), by rw [hf.out], belowOwn8 zb zb.size (by omega) hgr hrr⟩
  case stop =>
    rintro D c i W hD ⟨rfl, hb, j4, hT⟩ hK
    have HT := Lib.hid hT
    clear hT
    gi_wp2
    refine ⟨by simp, .inl ⟨_, _, rfl, run_takeDeferred hK, ?_⟩⟩
    have hgr := grownBy_putObj' W D (.deferred none)
    have hrr : ∀ r, some D = some r → W0.heap.size ≤ r ∧ ∃ o : Obj, W.heap[r]? = some o ∧ o.isCells = false := fun r e => by cases e; exact ⟨hD, _, hK, rfl⟩
    exact ⟨_, results_c8 Try.results37 _ _ _ w.heap.size (.bool true) 4 rfl (isOwn8 j4 hgr hrr) (aggB8 _), by rw [HT.out], belowOwn8 hb hb.size (by omega) hgr hrr⟩

set_option maxRecDepth 100000 in
set_option maxHeartbeats 4000000 in
theorem twiceK_any (gf : Nat) (lb : Array Value) (xs : List ((ByteArray × ByteArray) × ByteArray)) (m : Int) (w : World) (eg : ∀ args w, (callFunc gf args).run Try.prog w = .ok (.enter gf args) w)
    (hseq : SeqL Fence.wide 4 Try.prog gf lb encP8 xs (fun k => k < w.heap.size) w) (hok : ∀ x ∈ xs, x.1.1.size ≤ maxLen ∧ x.1.2.size ≤ maxLen) (hlen : xs.length < maxLen) :
    Calls Try.prog 38 #[.func (.func gf) #[] lb, .int .i64 m] w fun e w' => e = .returned (.bool (twice8 (xs.map Prod.fst))) ∧ Below w.heap.size w w' := by
  have HS := Lib.hid hseq
  have HO := Lib.hid hok
  have HL := Lib.hid hlen
  clear hseq hok hlen
  have hmm : ∀ (w : World) (m : Int), (Instr.makeMap 90 (some (.int .i64 m))).run Try.prog w = .ok (.map (some w.heap.size)) (w.alloc (.map #[] 0)) := fun w m => by kernel_rfl
  refine (callsIn_wide (n := 5)).1 ?_
  refine callsIn_of_wp_marks Try.func38 rfl trivial ?_ rfl
  simp only [Try.ntmps38, List.size_toArray, List.length_cons, List.length_nil, Nat.reduceAdd, Nat.reduceSub, Array.replicate_succ, Array.replicate_zero, List.push_toArray, List.append_toArray, List.nil_append, List.cons_append]
  gi_wp2_with fail
  have i4 : Is (((w.alloc (.cells #[.bool false] 4)).alloc (.map #[] 0)).alloc (.cells #[.map (some (w.heap.size + 1))] 90)) w.heap.size 4 #[.bool false] := ((Is.new w _ _).alloc _).alloc _
  have i5 : Is (((w.alloc (.cells #[.bool false] 4)).alloc (.map #[] 0)).alloc (.cells #[.map (some (w.heap.size + 1))] 90)) (w.heap.size + 1 + 1) 90 #[.map (some (w.heap.size + 1))] := by
    have := Is.new ((w.alloc (.cells #[.bool false] 4)).alloc (.map #[] 0)) 90 #[.map (some (w.heap.size + 1))]
    simpa using this
  have hM : (((w.alloc (.cells #[.bool false] 4)).alloc (.map #[] 0)).alloc (.cells #[.map (some (w.heap.size + 1))] 90)).ownsMap Try.prog 72 (unitElem (H := Unit)) (w.heap.size + 1) 0 (.map []) := by
    have := World.ownsMap_made (w.alloc (.cells #[.bool false] 4)) Try.prog 72 (unitElem (H := Unit))
    rw [World.size_alloc] at this
    exact this.alloc _
  have hB : Below w.heap.size w (((w.alloc (.cells #[.bool false] 4)).alloc (.map #[] 0)).alloc (.cells #[.map (some (w.heap.size + 1))] 90)) := (((Below.refl _ _).alloc (Nat.le_refl _) _).alloc (by simp) _).alloc (by simp; omega) _
  have hsz : (((w.alloc (.cells #[.bool false] 4)).alloc (.map #[] 0)).alloc (.cells #[.map (some (w.heap.size + 1))] 90)).heap.size = w.heap.size + 3 := by simp
  generalize ((w.alloc (.cells #[.bool false] 4)).alloc (.map #[] 0)).alloc (.cells #[.map (some (w.heap.size + 1))] 90) = W0 at *
  refine wpIn_rangeL rfl (by omega) (gf := gf) (lb := lb) rfl trivial eg HS.out (Stay.below hB) (fun k hk => by omega) (fun _ => rfl)
    (fun i W => Below w.heap.size w W ∧ Is W w.heap.size 4 #[.bool false] ∧ Is W (w.heap.size + 1 + 1) 90 #[.map (some (w.heap.size + 1))] ∧ ∃ D, W.ownsMap Try.prog 72 (unitElem (H := Unit)) (w.heap.size + 1) i D ∧ Told 72 (fun (k : ByteArray × ByteArray) => Value.agg #[.string k.1, .string k.2]) (fun k => k.1.size ≤ maxLen ∧ k.2.size ≤ maxLen) D ((xs.map Prod.fst).take i) ∧ twice8 ((xs.map Prod.fst).take i) = false)
    (fun c _ W => c = .ret ∧ Below w.heap.size w W ∧ Is W w.heap.size 4 #[.bool true] ∧ twice8 (xs.map Prod.fst) = true)
    (fun s X Y row hs hg hr => ⟨belowOwn8 hs.1 hs.1.size (by omega) hg hr, isOwn8 hs.2.1 hg hr, isOwn8 hs.2.2.1 hg hr, by
      obtain ⟨D, h1, h2⟩ := hs.2.2.2
      exact ⟨D, h1.kept hg (fun e => by have := (hr _ e.symm).1; omega), h2⟩⟩)
    (fun c s X Y row hs hg hr => ⟨hs.1, belowOwn8 hs.2.1 hs.2.1.size (by omega) hg hr, isOwn8 hs.2.2.1 hg hr, hs.2.2.2⟩)
    ⟨hB, i4, i5, .map [], hM, told_nil _ _ _, rfl⟩ ?round ?done ?stop
  case round =>
    rintro l i ⟨⟨x1, x2⟩, y⟩ W hl hlt hx ⟨hb, j4, j5, D, hown, ht, hn⟩
    gi_wp2
    refine ⟨(Stay.refl _ _).grown (World.grownBy_alloc _ _ none) (fun r e => by cases e), ⟨hb.alloc hb.size _, j4.alloc _, j5.alloc _, D, hown.alloc _, ht, hn⟩, fun W' => Is W' W.heap.size 72 #[.string x1, .string x2], fun _ X Y row hs hg hr => isOwn8 hs hg hr, Is.new _ _ _, ?_⟩
    clear hb j4 j5 hown ht hn D
    rintro W4 hl4 ⟨hb, j4, j5, D, hown, ht, hn⟩ hax
    have hokx := HO.out _ (List.mem_of_getElem? hx)
    obtain ⟨v, hv⟩ := keyK8 hokx.1 hokx.2
    have hm : (xs.map Prod.fst)[i]? = some (x1, x2) := by rw [List.getElem?_map, hx]; rfl
    have hh := ht.2 (x1, x2) v hokx hv
    have hi : i < xs.length := (List.getElem?_eq_some_iff.1 hx).1
    have him : i < maxLen := Nat.lt_trans hi HL.out
    have q4 := j4.frozen 0
    have r4 : W4.cell? ⟨w.heap.size, 0, none⟩ = some (.bool false) := j4.cell 0
    have r5 : W4.cell? ⟨w.heap.size + 1 + 1, 0, none⟩ = some (.map (some (w.heap.size + 1))) := j5.cell 0
    have r5' : (W4.alloc (.cells #[] 88)).cell? ⟨w.heap.size + 1 + 1, 0, none⟩ = some (.map (some (w.heap.size + 1))) := (j5.alloc _).cell 0
    have q4' : (W4.alloc (.cells #[] 88)).frozen? ⟨w.heap.size, 0, none⟩ = false := (j4.alloc _).frozen 0
    have r4' : (W4.alloc (.cells #[] 88)).cell? ⟨w.heap.size, 0, none⟩ = some (.bool false) := (j4.alloc _).cell 0
    have HV := Lib.hid hv
    have HT := Lib.hid ht
    by_cases he : (((xs.map Prod.fst).take i).any fun y => decide (y = (x1, x2))) = true
    · rw [he] at hh
      have hT := Lib.hid (twice8_hit hm he)
      clear he hm hx hv ht hn
      gi_wp2_with (first | (refine wpListIn_load_rowI rfl 72 _ rfl W.heap.size rfl hax Try.underlying72 rfl infoAsk ?_) | (refine wpListIn_load_rowI rfl 72 _ rfl W.heap.size rfl (hax.alloc _) Try.underlying72 rfl infoAsk ?_) | (refine wpListIn_lookup_own_unit _ rfl _ _ 90 rfl 72 88 lawK8 Try.underlying90 (zeroU8 _) (w.heap.size + 1) i D rfl hown _ v rfl HV.out ?_) | (refine wpListIn_mapUpdate_own _ rfl _ _ _ 90 rfl 72 88 lawK8 Try.underlying90 _ (w.heap.size + 1) i D rfl (hown.alloc _) him _ _ v rfl rfl HV.out (.agg []) [] unitElem_mk ?_; intro w1 hown1 hgrow1))
      exact ⟨((Stay.refl _ _).grown (World.grownBy_alloc _ _ none) (fun r e => by cases e)).grown (grownSetG _ _ _) (fun r e => by cases e; exact .inl (by simp only []; omega)), rfl,
        (hb.alloc hb.size _).setCell (p := ⟨w.heap.size, 0, none⟩) (by simp) _, (j4.alloc _).set 0 _, hT.out⟩
    · rw [Bool.not_eq_true] at he
      have ht2 := Lib.hid (told_put lawK8 (fun a b e => by obtain ⟨a1, a2⟩ := a; obtain ⟨b1, b2⟩ := b; cases e; rfl) ht hv)
      have hn2 := Lib.hid (show twice8 ((xs.map Prod.fst).take (i + 1)) = false by rw [twice8_take hm, hn, he]; rfl)
      have htk := Lib.hid (show (xs.map Prod.fst).take (i + 1) = (xs.map Prod.fst).take i ++ [(x1, x2)] by rw [List.take_add_one, hm]; rfl)
      rw [he] at hh
      clear he hm hx hv ht hn
      gi_wp2_with (first | (refine wpListIn_load_rowI rfl 72 _ rfl W.heap.size rfl hax Try.underlying72 rfl infoAsk ?_) | (refine wpListIn_load_rowI rfl 72 _ rfl W.heap.size rfl (hax.alloc _) Try.underlying72 rfl infoAsk ?_) | (refine wpListIn_lookup_own_unit _ rfl _ _ 90 rfl 72 88 lawK8 Try.underlying90 (zeroU8 _) (w.heap.size + 1) i D rfl hown _ v rfl HV.out ?_) | (refine wpListIn_mapUpdate_own _ rfl _ _ _ 90 rfl 72 88 lawK8 Try.underlying90 _ (w.heap.size + 1) i D rfl (hown.alloc _) him _ _ v rfl rfl HV.out (.agg []) [] unitElem_mk ?_; intro w1 hown1 hgrow1))
      refine ⟨((Stay.refl _ _).grown (World.grownBy_alloc _ _ none) (fun r e => by cases e)).grown hgrow1 (fun r e => by cases e; exact .inl (by omega)), (hb.alloc hb.size _).grown hgrow1 (by have := hb.size; simp; omega) (fun k e => by cases e; omega),
        (hgrow1.block _ (j4.alloc _).lt (by intro e; have := Option.some.inj e; omega)).trans (j4.alloc _), (hgrow1.block _ (j5.alloc _).lt (by intro e; have := Option.some.inj e; omega)).trans (j5.alloc _), _, hown1, ?_, hn2.out⟩
      rw [htk.out]
      exact ht2.out
  case done =>
    rintro D W hD ⟨hb, j4, j5, _, _, _, hn⟩ hK
    have hln : (xs.map Prod.fst).take xs.length = xs.map Prod.fst := by rw [← List.length_map (f := Prod.fst), List.take_length]
    rw [hln] at hn
    have q4 := j4.frozen 0
    have r4 : W.cell? ⟨w.heap.size, 0, none⟩ = some (.bool false) := j4.cell 0
    have hK2 : (W.setCell ⟨w.heap.size, 0, none⟩ (.bool false)).heap[D]? = some (.deferred (some [])) := (heap_setCell_other _ _ D _ (by simp only []; omega)).trans hK
    have HK := Lib.hid hK2
    have hf := Lib.hid hn
    clear hn hK hK2
    gi_wp2
    refine ⟨by simp, .inl ⟨_, _, rfl, run_takeDeferred HK.out, ?_⟩⟩
    have hgr := grownBy_putObj' (W.setCell ⟨w.heap.size, 0, none⟩ (.bool false)) D (.deferred none)
    have hrr : ∀ r, some D = some r → W0.heap.size ≤ r ∧ ∃ o : Obj, (W.setCell ⟨w.heap.size, 0, none⟩ (.bool false)).heap[r]? = some o ∧ o.isCells = false := fun r e => by cases e; exact ⟨hD, _, HK.out, rfl⟩
    have zb : Below w.heap.size w (W.setCell ⟨w.heap.size, 0, none⟩ (.bool false)) := hb.setCell (p := ⟨w.heap.size, 0, none⟩) (by simp) _
    exact ⟨_, results_c8 Try.results38 _ _ _ w.heap.size (.bool false) 4 rfl (isOwn8 (j4.set 0 _) hgr hrr) (aggB8 _), by rw [hf.out], belowOwn8 zb zb.size (by omega) hgr hrr⟩
  case stop =>
    rintro D c i W hD ⟨rfl, hb, j4, hT⟩ hK
    have HT := Lib.hid hT
    clear hT
    gi_wp2
    refine ⟨by simp, .inl ⟨_, _, rfl, run_takeDeferred hK, ?_⟩⟩
    have hgr := grownBy_putObj' W D (.deferred none)
    have hrr : ∀ r, some D = some r → W0.heap.size ≤ r ∧ ∃ o : Obj, W.heap[r]? = some o ∧ o.isCells = false := fun r e => by cases e; exact ⟨hD, _, hK, rfl⟩
    exact ⟨_, results_c8 Try.results38 _ _ _ w.heap.size (.bool true) 4 rfl (isOwn8 j4 hgr hrr) (aggB8 _), by rw [HT.out], belowOwn8 hb hb.size (by omega) hgr hrr⟩

set_option maxRecDepth 100000 in
set_option maxHeartbeats 4000000 in
theorem twiceO_any (gf : Nat) (lb : Array Value) (xs : List ((ByteArray × ByteArray) × ByteArray)) (m : Int) (w : World) (eg : ∀ args w, (callFunc gf args).run Try.prog w = .ok (.enter gf args) w)
    (hseq : SeqL Fence.wide 4 Try.prog gf lb encP8 xs (fun k => k < w.heap.size) w) (hok : ∀ x ∈ xs, x.1.1.size ≤ maxLen ∧ x.1.2.size ≤ maxLen) (hlen : xs.length < maxLen) :
    Calls Try.prog 51 #[.func (.func gf) #[] lb, .int .i64 m] w fun e w' => e = .returned (.bool (twice8 (xs.map Prod.fst))) ∧ Below w.heap.size w w' := by
  have HS := Lib.hid hseq
  have HO := Lib.hid hok
  have HL := Lib.hid hlen
  clear hseq hok hlen
  have hmm : ∀ (w : World) (m : Int), (Instr.makeMap 94 (some (.int .i64 m))).run Try.prog w = .ok (.map (some w.heap.size)) (w.alloc (.map #[] 0)) := fun w m => by kernel_rfl
  refine (callsIn_wide (n := 5)).1 ?_
  refine callsIn_of_wp_marks Try.func51 rfl trivial ?_ rfl
  simp only [Try.ntmps51, List.size_toArray, List.length_cons, List.length_nil, Nat.reduceAdd, Nat.reduceSub, Array.replicate_succ, Array.replicate_zero, List.push_toArray, List.append_toArray, List.nil_append, List.cons_append]
  gi_wp2_with fail
  have i4 : Is (((w.alloc (.cells #[.bool false] 4)).alloc (.map #[] 0)).alloc (.cells #[.map (some (w.heap.size + 1))] 94)) w.heap.size 4 #[.bool false] := ((Is.new w _ _).alloc _).alloc _
  have i5 : Is (((w.alloc (.cells #[.bool false] 4)).alloc (.map #[] 0)).alloc (.cells #[.map (some (w.heap.size + 1))] 94)) (w.heap.size + 1 + 1) 94 #[.map (some (w.heap.size + 1))] := by
    have := Is.new ((w.alloc (.cells #[.bool false] 4)).alloc (.map #[] 0)) 94 #[.map (some (w.heap.size + 1))]
    simpa using this
  have hM : (((w.alloc (.cells #[.bool false] 4)).alloc (.map #[] 0)).alloc (.cells #[.map (some (w.heap.size + 1))] 94)).ownsMap Try.prog 79 (unitElem (H := Unit)) (w.heap.size + 1) 0 (.map []) := by
    have := World.ownsMap_made (w.alloc (.cells #[.bool false] 4)) Try.prog 79 (unitElem (H := Unit))
    rw [World.size_alloc] at this
    exact this.alloc _
  have hB : Below w.heap.size w (((w.alloc (.cells #[.bool false] 4)).alloc (.map #[] 0)).alloc (.cells #[.map (some (w.heap.size + 1))] 94)) := (((Below.refl _ _).alloc (Nat.le_refl _) _).alloc (by simp) _).alloc (by simp; omega) _
  have hsz : (((w.alloc (.cells #[.bool false] 4)).alloc (.map #[] 0)).alloc (.cells #[.map (some (w.heap.size + 1))] 94)).heap.size = w.heap.size + 3 := by simp
  generalize ((w.alloc (.cells #[.bool false] 4)).alloc (.map #[] 0)).alloc (.cells #[.map (some (w.heap.size + 1))] 94) = W0 at *
  refine wpIn_rangeL rfl (by omega) (gf := gf) (lb := lb) rfl trivial eg HS.out (Stay.below hB) (fun k hk => by omega) (fun _ => rfl)
    (fun i W => Below w.heap.size w W ∧ Is W w.heap.size 4 #[.bool false] ∧ Is W (w.heap.size + 1 + 1) 94 #[.map (some (w.heap.size + 1))] ∧ ∃ D, W.ownsMap Try.prog 79 (unitElem (H := Unit)) (w.heap.size + 1) i D ∧ Told 79 (fun (k : ByteArray × ByteArray) => Value.agg #[.string k.1, .string k.2]) (fun k => k.1.size ≤ maxLen ∧ k.2.size ≤ maxLen) D ((xs.map Prod.fst).take i) ∧ twice8 ((xs.map Prod.fst).take i) = false)
    (fun c _ W => c = .ret ∧ Below w.heap.size w W ∧ Is W w.heap.size 4 #[.bool true] ∧ twice8 (xs.map Prod.fst) = true)
    (fun s X Y row hs hg hr => ⟨belowOwn8 hs.1 hs.1.size (by omega) hg hr, isOwn8 hs.2.1 hg hr, isOwn8 hs.2.2.1 hg hr, by
      obtain ⟨D, h1, h2⟩ := hs.2.2.2
      exact ⟨D, h1.kept hg (fun e => by have := (hr _ e.symm).1; omega), h2⟩⟩)
    (fun c s X Y row hs hg hr => ⟨hs.1, belowOwn8 hs.2.1 hs.2.1.size (by omega) hg hr, isOwn8 hs.2.2.1 hg hr, hs.2.2.2⟩)
    ⟨hB, i4, i5, .map [], hM, told_nil _ _ _, rfl⟩ ?round ?done ?stop
  case round =>
    rintro l i ⟨⟨x1, x2⟩, y⟩ W hl hlt hx ⟨hb, j4, j5, D, hown, ht, hn⟩
    gi_wp2
    refine ⟨(Stay.refl _ _).grown (World.grownBy_alloc _ _ none) (fun r e => by cases e), ⟨hb.alloc hb.size _, j4.alloc _, j5.alloc _, D, hown.alloc _, ht, hn⟩, fun W' => Is W' W.heap.size 79 #[.string x1, .string x2], fun _ X Y row hs hg hr => isOwn8 hs hg hr, Is.new _ _ _, ?_⟩
    clear hb j4 j5 hown ht hn D
    rintro W4 hl4 ⟨hb, j4, j5, D, hown, ht, hn⟩ hax
    have hokx := HO.out _ (List.mem_of_getElem? hx)
    obtain ⟨v, hv⟩ := keyO8 hokx.1 hokx.2
    have hm : (xs.map Prod.fst)[i]? = some (x1, x2) := by rw [List.getElem?_map, hx]; rfl
    have hh := ht.2 (x1, x2) v hokx hv
    have hi : i < xs.length := (List.getElem?_eq_some_iff.1 hx).1
    have him : i < maxLen := Nat.lt_trans hi HL.out
    have q4 := j4.frozen 0
    have r4 : W4.cell? ⟨w.heap.size, 0, none⟩ = some (.bool false) := j4.cell 0
    have r5 : W4.cell? ⟨w.heap.size + 1 + 1, 0, none⟩ = some (.map (some (w.heap.size + 1))) := j5.cell 0
    have r5' : (W4.alloc (.cells #[] 88)).cell? ⟨w.heap.size + 1 + 1, 0, none⟩ = some (.map (some (w.heap.size + 1))) := (j5.alloc _).cell 0
    have q4' : (W4.alloc (.cells #[] 88)).frozen? ⟨w.heap.size, 0, none⟩ = false := (j4.alloc _).frozen 0
    have r4' : (W4.alloc (.cells #[] 88)).cell? ⟨w.heap.size, 0, none⟩ = some (.bool false) := (j4.alloc _).cell 0
    have HV := Lib.hid hv
    have HT := Lib.hid ht
    by_cases he : (((xs.map Prod.fst).take i).any fun y => decide (y = (x1, x2))) = true
    · rw [he] at hh
      have hT := Lib.hid (twice8_hit hm he)
      clear he hm hx hv ht hn
      gi_wp2_with (first | (refine wpListIn_load_rowI rfl 79 _ rfl W.heap.size rfl hax Try.underlying79 rfl infoOpn ?_) | (refine wpListIn_load_rowI rfl 79 _ rfl W.heap.size rfl (hax.alloc _) Try.underlying79 rfl infoOpn ?_) | (refine wpListIn_lookup_own_unit _ rfl _ _ 94 rfl 79 88 lawO8 Try.underlying94 (zeroU8 _) (w.heap.size + 1) i D rfl hown _ v rfl HV.out ?_) | (refine wpListIn_mapUpdate_own _ rfl _ _ _ 94 rfl 79 88 lawO8 Try.underlying94 _ (w.heap.size + 1) i D rfl (hown.alloc _) him _ _ v rfl rfl HV.out (.agg []) [] unitElem_mk ?_; intro w1 hown1 hgrow1))
      exact ⟨((Stay.refl _ _).grown (World.grownBy_alloc _ _ none) (fun r e => by cases e)).grown (grownSetG _ _ _) (fun r e => by cases e; exact .inl (by simp only []; omega)), rfl,
        (hb.alloc hb.size _).setCell (p := ⟨w.heap.size, 0, none⟩) (by simp) _, (j4.alloc _).set 0 _, hT.out⟩
    · rw [Bool.not_eq_true] at he
      have ht2 := Lib.hid (told_put lawO8 (fun a b e => by obtain ⟨a1, a2⟩ := a; obtain ⟨b1, b2⟩ := b; cases e; rfl) ht hv)
      have hn2 := Lib.hid (show twice8 ((xs.map Prod.fst).take (i + 1)) = false by rw [twice8_take hm, hn, he]; rfl)
      have htk := Lib.hid (show (xs.map Prod.fst).take (i + 1) = (xs.map Prod.fst).take i ++ [(x1, x2)] by rw [List.take_add_one, hm]; rfl)
      rw [he] at hh
      clear he hm hx hv ht hn
      gi_wp2_with (first | (refine wpListIn_load_rowI rfl 79 _ rfl W.heap.size rfl hax Try.underlying79 rfl infoOpn ?_) | (refine wpListIn_load_rowI rfl 79 _ rfl W.heap.size rfl (hax.alloc _) Try.underlying79 rfl infoOpn ?_) | (refine wpListIn_lookup_own_unit _ rfl _ _ 94 rfl 79 88 lawO8 Try.underlying94 (zeroU8 _) (w.heap.size + 1) i D rfl hown _ v rfl HV.out ?_) | (refine wpListIn_mapUpdate_own _ rfl _ _ _ 94 rfl 79 88 lawO8 Try.underlying94 _ (w.heap.size + 1) i D rfl (hown.alloc _) him _ _ v rfl rfl HV.out (.agg []) [] unitElem_mk ?_; intro w1 hown1 hgrow1))
      refine ⟨((Stay.refl _ _).grown (World.grownBy_alloc _ _ none) (fun r e => by cases e)).grown hgrow1 (fun r e => by cases e; exact .inl (by omega)), (hb.alloc hb.size _).grown hgrow1 (by have := hb.size; simp; omega) (fun k e => by cases e; omega),
        (hgrow1.block _ (j4.alloc _).lt (by intro e; have := Option.some.inj e; omega)).trans (j4.alloc _), (hgrow1.block _ (j5.alloc _).lt (by intro e; have := Option.some.inj e; omega)).trans (j5.alloc _), _, hown1, ?_, hn2.out⟩
      rw [htk.out]
      exact ht2.out
  case done =>
    rintro D W hD ⟨hb, j4, j5, _, _, _, hn⟩ hK
    have hln : (xs.map Prod.fst).take xs.length = xs.map Prod.fst := by rw [← List.length_map (f := Prod.fst), List.take_length]
    rw [hln] at hn
    have q4 := j4.frozen 0
    have r4 : W.cell? ⟨w.heap.size, 0, none⟩ = some (.bool false) := j4.cell 0
    have hK2 : (W.setCell ⟨w.heap.size, 0, none⟩ (.bool false)).heap[D]? = some (.deferred (some [])) := (heap_setCell_other _ _ D _ (by simp only []; omega)).trans hK
    have HK := Lib.hid hK2
    have hf := Lib.hid hn
    clear hn hK hK2
    gi_wp2
    refine ⟨by simp, .inl ⟨_, _, rfl, run_takeDeferred HK.out, ?_⟩⟩
    have hgr := grownBy_putObj' (W.setCell ⟨w.heap.size, 0, none⟩ (.bool false)) D (.deferred none)
    have hrr : ∀ r, some D = some r → W0.heap.size ≤ r ∧ ∃ o : Obj, (W.setCell ⟨w.heap.size, 0, none⟩ (.bool false)).heap[r]? = some o ∧ o.isCells = false := fun r e => by cases e; exact ⟨hD, _, HK.out, rfl⟩
    have zb : Below w.heap.size w (W.setCell ⟨w.heap.size, 0, none⟩ (.bool false)) := hb.setCell (p := ⟨w.heap.size, 0, none⟩) (by simp) _
    exact ⟨_, results_c8 Try.results51 _ _ _ w.heap.size (.bool false) 4 rfl (isOwn8 (j4.set 0 _) hgr hrr) (aggB8 _), by rw [hf.out], belowOwn8 zb zb.size (by omega) hgr hrr⟩
  case stop =>
    rintro D c i W hD ⟨rfl, hb, j4, hT⟩ hK
    have HT := Lib.hid hT
    clear hT
    gi_wp2
    refine ⟨by simp, .inl ⟨_, _, rfl, run_takeDeferred hK, ?_⟩⟩
    have hgr := grownBy_putObj' W D (.deferred none)
    have hrr : ∀ r, some D = some r → W0.heap.size ≤ r ∧ ∃ o : Obj, W.heap[r]? = some o ∧ o.isCells = false := fun r e => by cases e; exact ⟨hD, _, hK, rfl⟩
    exact ⟨_, results_c8 Try.results51 _ _ _ w.heap.size (.bool true) 4 rfl (isOwn8 j4 hgr hrr) (aggB8 _), by rw [HT.out], belowOwn8 hb hb.size (by omega) hgr hrr⟩
end Go.Proofs.Ytdbdoammbnogaaa
