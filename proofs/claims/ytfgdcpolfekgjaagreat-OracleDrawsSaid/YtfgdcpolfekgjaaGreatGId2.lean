/-
  Layer 8: contracts of ideal.twice, the program's: whether a thing is told twice, of whatever tells a list. Conditions: it tells that list; its things are no longer than texts may be.
  Layer 8: contract of ideal.sized, the program's: whether there are no more things than may be, each of the bytes that it must have. Condition: the ideal's lists lie where its slices point to.
  Layer 8: contract of ideal.sized, the program's. Condition: the ideal's lists lie where its slices point to.
  Layer 8: contracts of ideal.clashes and ideal.Right, the program's. Condition: the ideal's lists lie where its slices point to.
  Layer 8: contract of ideal.Right, the program's. Condition: the ideal's lists lie where its slices point to.
  Layer 8: contracts of slices.Clone at names and cells, and of ideal.copyOf, the program's: copies in new memory. Conditions: the lists lie where the slices point to; they are no longer than memory has bytes.
  Layer 8: contract of ideal.copyOf, the program's: an ideal whose lists are in new memory. Condition: its lists lie where the slices point to.
  Layer 8: contracts of ideal.New and ideal.Open, the program's, whatever they are asked. Condition (Open): the ideal's lists lie where the slices point to.
-/
import Derived.Test.YtfgdcpolfekgjaaGreatGId1
import Derived.Test.YtfgdcpolfekgjaaGreatGKit
import Derived.Maps.OwnIn
import Derived.DeepKeys4
import Derived.StringKeys
import Derived.Lib.SliceRun
namespace Go.Proofs.YtfgdcpolfekgjaaGreat
open Go.RowKit Go.Shelf Go.Maps Go.WideMaps
attribute [local go_sem] Oper.semAt_some

theorem results_c8 {fn : Func} {s : Tmp} {t0 : TypeId} (h : fn.results = #[.cell s t0]) (tmps : Array Value) (P : Program) (w : World) (g0 : Nat) (y0 : Value) (T0 : TypeId)
    (hs : tmps.getD s undef = .pointer (some ⟨g0, 0, none⟩)) (i0 : Is w g0 T0 #[y0]) (a0 : (isAgg t0).run P w = .ok false w) :
    (results fn tmps).run P w = .ok y0 w := by
  have e : (results fn tmps).run P w = ((asAddr (tmps.getD s undef)).run P w).andThen fun b w0 => (loadVar t0 b).run P w0 := by
    simp only [results, h]
    simp [Sem.run_bind, Result.andThen]
  have c0 := i0.cell 0
  have l0 : (loadVar t0 ⟨g0, 0, none⟩).run P w = .ok y0 w := by
    simp only [loadVar, Sem.run_bind, a0, Result.andThen_ok]
    simp [go_sem, c0]
  rw [e, hs]
  simp [asAddr, l0]
theorem laidOut8 : laidOutB Tryz.prog = true := by kernel_rfl
theorem lawS8 : Keyed Tryz.prog 9 := string_keyed Tryz.underlying9
theorem lawK8 : Keyed Tryz.prog 104 := Keyed.of_law (deep_law_laid laidOut8 (m := 3) (by omega) (of_decide_eq_true (by kernel_rfl)) (by kernel_rfl) (by kernel_rfl))
theorem lawO8 : Keyed Tryz.prog 122 := Keyed.of_law (deep_law_laid laidOut8 (m := 3) (by omega) (of_decide_eq_true (by kernel_rfl)) (by kernel_rfl) (by kernel_rfl))
theorem zeroU8 (w : World) : (zeroValue 115).run Tryz.prog w = .ok (.agg #[]) w := by kernel_rfl
theorem typesSz8 : ∃ m, Tryz.prog.types.size = m + 1 := ⟨Tryz.prog.types.size - 1, by kernel_rfl⟩
theorem keyS8 {s : ByteArray} (h : s.size ≤ maxLen) : ∃ l, keyOf Tryz.prog 9 (.string s) = some l := ⟨_, keyOf_string_mk Tryz.underlying9 h⟩
theorem keyK8 {a b : ByteArray} (ha : a.size ≤ maxLen) (hb : b.size ≤ maxLen) : ∃ l, keyOf Tryz.prog 104 (.agg #[.string a, .string b]) = some l := by
  have kt : Tryz.prog.keyType 104 = true := by kernel_rfl
  have kf : (Value.agg #[.string a, .string b]).formed Tryz.prog 104 = true := by simp [Value.formed, Tryz.underlying104, show Tryz.prog.cellsOf 104 = 2 from by kernel_rfl]
  obtain ⟨m, hm⟩ := typesSz8
  simp only [keyOf, Tryz.underlying104, kt, kf, Bool.and_self, if_true]
  refine ⟨.string (keyBytes [.string a.data.toList, .string b.data.toList]), ?_⟩
  rw [hm]
  simp [Program.keyLits, Tryz.underlying104, Tryz.underlying9, show Tryz.prog.cellsOf 104 = 2 from by kernel_rfl, show Tryz.prog.cellsOf 9 = 1 from by kernel_rfl, ha, hb, Value.cells]
theorem keyO8 {a b : ByteArray} (ha : a.size ≤ maxLen) (hb : b.size ≤ maxLen) : ∃ l, keyOf Tryz.prog 122 (.agg #[.string a, .string b]) = some l := by
  have kt : Tryz.prog.keyType 122 = true := by kernel_rfl
  have kf : (Value.agg #[.string a, .string b]).formed Tryz.prog 122 = true := by simp [Value.formed, Tryz.underlying122, show Tryz.prog.cellsOf 122 = 2 from by kernel_rfl]
  obtain ⟨m, hm⟩ := typesSz8
  simp only [keyOf, Tryz.underlying122, kt, kf, Bool.and_self, if_true]
  refine ⟨.string (keyBytes [.string a.data.toList, .string b.data.toList]), ?_⟩
  rw [hm]
  simp [Program.keyLits, Tryz.underlying122, Tryz.underlying9, show Tryz.prog.cellsOf 122 = 2 from by kernel_rfl, show Tryz.prog.cellsOf 9 = 1 from by kernel_rfl, ha, hb, Value.cells]
/-- a thing that is told a second time. -/
def twice8 {κ : Type} [DecidableEq κ] (l : List κ) : Bool := pairs8 (fun x y => decide (x = y)) l
theorem twice8_take {κ : Type} [DecidableEq κ] {l : List κ} {i : Nat} {x : κ} (hx : l[i]? = some x) : twice8 (l.take (i + 1)) = (twice8 (l.take i) || (l.take i).any fun y => decide (y = x)) := by
  rw [List.take_add_one, hx]
  exact pairs8_snoc _ _ _
theorem pairs8_left {α : Type} (f : α → α → Bool) (l r : List α) (h : pairs8 f l = true) : pairs8 f (l ++ r) = true := by
  induction l with
  | nil => cases h
  | cons x l ih =>
    show ((l ++ r).any (f x) || pairs8 f (l ++ r)) = true
    have h' : (l.any (f x) || pairs8 f l) = true := h
    rw [Bool.or_eq_true] at h' ⊢
    rcases h' with h' | h'
    · rw [List.any_append, h']; exact .inl rfl
    · exact .inr (ih h')
theorem twice8_hit {κ : Type} [DecidableEq κ] {l : List κ} {i : Nat} {x : κ} (hx : l[i]? = some x) (h : ((l.take i).any fun y => decide (y = x)) = true) : twice8 l = true := by
  have := twice8_take hx
  rw [h, Bool.or_true] at this
  have h2 := pairs8_left _ _ (l.drop (i + 1)) this
  rwa [List.take_append_drop] at h2
/-- a set that has just what was told so far. -/
def Told {κ : Type} [DecidableEq κ] (T : TypeId) (kv : κ → Value) (ok : κ → Prop) (D : DataW Unit) (l : List κ) : Prop :=
  IsMap D ∧ ∀ x v, ok x → keyOf Tryz.prog T (kv x) = some v → Maps.has D v = l.any fun y => decide (y = x)
theorem told_nil {κ : Type} [DecidableEq κ] (T : TypeId) (kv : κ → Value) (ok : κ → Prop) : Told T kv ok (.map []) ([] : List κ) := ⟨⟨_, rfl⟩, fun _ _ _ _ => rfl⟩
theorem told_put {κ : Type} [DecidableEq κ] {T : TypeId} (K : Keyed Tryz.prog T) {kv : κ → Value} (hinj : ∀ x y, kv x = kv y → x = y) {ok : κ → Prop} {D : DataW Unit} {l : List κ} (h : Told T kv ok D l) {x : κ} {v : Lit} (hv : keyOf Tryz.prog T (kv x) = some v) :
    Told T kv ok (D.put v (.agg [])) (l ++ [x]) := by
  refine ⟨h.1.put _ _, fun y u hy hu => ?_⟩
  rw [List.any_append]
  by_cases e : x = y
  · subst e
    rw [hu] at hv
    cases hv
    rw [has_put_same h.1 (K.key hu)]
    simp
  · have hne : u ≠ v := fun e2 => by
      subst e2
      exact e (hinj _ _ (K.inj hv hu))
    rw [has_put_other hne, h.2 y u hy hu]
    simp [e]

set_option maxRecDepth 100000 in
set_option maxHeartbeats 4000000 in
theorem twiceS_any (gf : Nat) (lb : Array Value) (xs : List Nam8) (m : Int) (w : World) (eg : ∀ args w, (callFunc gf args).run Tryz.prog w = .ok (.enter gf args) w)
    (hseq : SeqL Fence.wide 4 Tryz.prog gf lb encN8 xs (fun k => k < w.heap.size) w) (hok : ∀ x ∈ xs, x.1.size ≤ maxLen) (hlen : xs.length < maxLen) :
    Calls Tryz.prog 57 #[.func (.func gf) #[] lb, .int .i64 m] w fun e w' => e = .returned (.bool (twice8 (xs.map Prod.fst))) ∧ Below w.heap.size w w' := by
  have HS := Lib.hid hseq
  have HO := Lib.hid hok
  have HL := Lib.hid hlen
  clear hseq hok hlen
  have hmm : ∀ (w : World) (m : Int), (Instr.makeMap 114 (some (.int .i64 m))).run Tryz.prog w = .ok (.map (some w.heap.size)) (w.alloc (.map #[] 0)) := fun w m => by kernel_rfl
  refine (callsIn_wide (n := 5)).1 ?_
  refine callsIn_of_wp_marks Tryz.func57 rfl trivial ?_ rfl
  simp only [Tryz.ntmps57, List.size_toArray, List.length_cons, List.length_nil, Nat.reduceAdd, Nat.reduceSub, Array.replicate_succ, Array.replicate_zero, List.push_toArray, List.append_toArray, List.nil_append, List.cons_append]
  gi_wp2_with fail
  have i4 : Is (((w.alloc (.cells #[.bool false] 4)).alloc (.map #[] 0)).alloc (.cells #[.map (some (w.heap.size + 1))] 114)) w.heap.size 4 #[.bool false] := ((Is.new w _ _).alloc _).alloc _
  have i5 : Is (((w.alloc (.cells #[.bool false] 4)).alloc (.map #[] 0)).alloc (.cells #[.map (some (w.heap.size + 1))] 114)) (w.heap.size + 1 + 1) 114 #[.map (some (w.heap.size + 1))] := by
    have := Is.new ((w.alloc (.cells #[.bool false] 4)).alloc (.map #[] 0)) 114 #[.map (some (w.heap.size + 1))]
    simpa using this
  have hM : (((w.alloc (.cells #[.bool false] 4)).alloc (.map #[] 0)).alloc (.cells #[.map (some (w.heap.size + 1))] 114)).ownsMap Tryz.prog 9 (unitElem (H := Unit)) (w.heap.size + 1) 0 (.map []) := by
    have := World.ownsMap_made (w.alloc (.cells #[.bool false] 4)) Tryz.prog 9 (unitElem (H := Unit))
    rw [World.size_alloc] at this
    exact this.alloc _
  have hB : Below w.heap.size w (((w.alloc (.cells #[.bool false] 4)).alloc (.map #[] 0)).alloc (.cells #[.map (some (w.heap.size + 1))] 114)) := (((Below.refl _ _).alloc (Nat.le_refl _) _).alloc (by simp) _).alloc (by simp; omega) _
  have hsz : (((w.alloc (.cells #[.bool false] 4)).alloc (.map #[] 0)).alloc (.cells #[.map (some (w.heap.size + 1))] 114)).heap.size = w.heap.size + 3 := by simp
  generalize ((w.alloc (.cells #[.bool false] 4)).alloc (.map #[] 0)).alloc (.cells #[.map (some (w.heap.size + 1))] 114) = W0 at *
  refine wpIn_rangeL rfl (by omega) (gf := gf) (lb := lb) rfl trivial eg HS.out (Stay.below hB) (fun k hk => by omega) (fun _ => rfl)
    (fun i W => Below w.heap.size w W ∧ Is W w.heap.size 4 #[.bool false] ∧ Is W (w.heap.size + 1 + 1) 114 #[.map (some (w.heap.size + 1))] ∧ ∃ D, W.ownsMap Tryz.prog 9 (unitElem (H := Unit)) (w.heap.size + 1) i D ∧ Told 9 Value.string (fun s => s.size ≤ maxLen) D ((xs.map Prod.fst).take i) ∧ twice8 ((xs.map Prod.fst).take i) = false)
    (fun c _ W => c = .ret ∧ Below w.heap.size w W ∧ Is W w.heap.size 4 #[.bool true] ∧ twice8 (xs.map Prod.fst) = true)
    (fun s X Y row hs hg hr => ⟨belowOwn8 hs.1 hs.1.size (by omega) hg hr, isOwn8 hs.2.1 hg hr, isOwn8 hs.2.2.1 hg hr, by
      obtain ⟨D, h1, h2⟩ := hs.2.2.2
      exact ⟨D, h1.kept hg (fun e => by have := (hr _ e.symm).1; omega), h2⟩⟩)
    (fun c s X Y row hs hg hr => ⟨hs.1, belowOwn8 hs.2.1 hs.2.1.size (by omega) hg hr, isOwn8 hs.2.2.1 hg hr, hs.2.2.2⟩)
    ⟨hB, i4, i5, .map [], hM, told_nil _ _ _, rfl⟩ ?round ?done ?stop
  case round =>
    rintro l i ⟨x, y⟩ W hl hlt hx ⟨hb, j4, j5, D, hown, ht, hn⟩
    gi_wp2
    refine ⟨Stay.refl _ _, ⟨hb, j4, j5, D, hown, ht, hn⟩, fun _ => True, fun _ _ _ _ _ _ _ => trivial, trivial, ?_⟩
    clear hb j4 j5 hown ht hn D
    rintro W4 hl4 ⟨hb, j4, j5, D, hown, ht, hn⟩ hax
    have hokx := HO.out _ (List.mem_of_getElem? hx)
    obtain ⟨v, hv⟩ := keyS8 hokx
    have hm : (xs.map Prod.fst)[i]? = some x := by rw [List.getElem?_map, hx]; rfl
    have hh := ht.2 x v hokx hv
    have hi : i < xs.length := (List.getElem?_eq_some_iff.1 hx).1
    have him : i < maxLen := Nat.lt_trans hi HL.out
    have q4 := j4.frozen 0
    have r4 : W4.cell? ⟨w.heap.size, 0, none⟩ = some (.bool false) := j4.cell 0
    have r5 : W4.cell? ⟨w.heap.size + 1 + 1, 0, none⟩ = some (.map (some (w.heap.size + 1))) := j5.cell 0
    have r5' : (W4.alloc (.cells #[] 115)).cell? ⟨w.heap.size + 1 + 1, 0, none⟩ = some (.map (some (w.heap.size + 1))) := (j5.alloc _).cell 0
    have q4' : (W4.alloc (.cells #[] 115)).frozen? ⟨w.heap.size, 0, none⟩ = false := (j4.alloc _).frozen 0
    have r4' : (W4.alloc (.cells #[] 115)).cell? ⟨w.heap.size, 0, none⟩ = some (.bool false) := (j4.alloc _).cell 0
    have HV := Lib.hid hv
    have HT := Lib.hid ht
    by_cases he : (((xs.map Prod.fst).take i).any fun y => decide (y = x)) = true
    · rw [he] at hh
      have hT := Lib.hid (twice8_hit hm he)
      clear he hm hx hv ht hn
      gi_wp2_with (first  | (refine wpListIn_lookup_own_unit _ rfl _ _ 114 rfl 9 115 lawS8 Tryz.underlying114 (zeroU8 _) (w.heap.size + 1) i D rfl hown _ v rfl HV.out ?_) | (refine wpListIn_mapUpdate_own _ rfl _ _ _ 114 rfl 9 115 lawS8 Tryz.underlying114 _ (w.heap.size + 1) i D rfl (hown.alloc _) him _ _ v rfl rfl HV.out (.agg []) [] unitElem_mk ?_; intro w1 hown1 hgrow1))
      exact ⟨((Stay.refl _ _).grown (World.grownBy_alloc _ _ none) (fun r e => by cases e)).grown (grownSetG _ _ _) (fun r e => by cases e; exact .inl (by simp only []; omega)), rfl,
        (hb.alloc hb.size _).setCell (p := ⟨w.heap.size, 0, none⟩) (by simp) _, (j4.alloc _).set 0 _, hT.out⟩
    · rw [Bool.not_eq_true] at he
      have ht2 := Lib.hid (told_put lawS8 (fun a b e => by cases e; rfl) ht hv)
      have hn2 := Lib.hid (show twice8 ((xs.map Prod.fst).take (i + 1)) = false by rw [twice8_take hm, hn, he]; rfl)
      have htk := Lib.hid (show (xs.map Prod.fst).take (i + 1) = (xs.map Prod.fst).take i ++ [x] by rw [List.take_add_one, hm]; rfl)
      rw [he] at hh
      clear he hm hx hv ht hn
      gi_wp2_with (first  | (refine wpListIn_lookup_own_unit _ rfl _ _ 114 rfl 9 115 lawS8 Tryz.underlying114 (zeroU8 _) (w.heap.size + 1) i D rfl hown _ v rfl HV.out ?_) | (refine wpListIn_mapUpdate_own _ rfl _ _ _ 114 rfl 9 115 lawS8 Tryz.underlying114 _ (w.heap.size + 1) i D rfl (hown.alloc _) him _ _ v rfl rfl HV.out (.agg []) [] unitElem_mk ?_; intro w1 hown1 hgrow1))
      refine ⟨((Stay.refl _ _).grown (World.grownBy_alloc _ _ none) (fun r e => by cases e)).grown hgrow1 (fun r e => by cases e; exact .inl (by omega)), (hb.alloc hb.size _).grown hgrow1 (by have := hb.size; simp; omega) (fun k e => by cases e; omega),
        (hgrow1.block _ (j4.alloc _).lt (by intro e; have := Option.some.inj e; omega)).trans (j4.alloc _), (hgrow1.block _ (j5.alloc _).lt (by intro e; have := Option.some.inj e; omega)).trans (j5.alloc _), _, hown1, ?_, hn2.out⟩
      rw [htk.out]
      exact ht2.out
  case done =>
    rintro D W hD ⟨hb, j4, j5, _, _, _, hn⟩ hK
    have hln : (xs.map Prod.fst).take xs.length = xs.map Prod.fst := by rw [← List.length_map (f := Prod.fst), List.take_length]
    rw [hln] at hn
    have q4 := j4.frozen 0
    have r4 : W.cell? ⟨w.heap.size, 0, none⟩ = some (.bool false) := j4.cell 0
    have hK2 : (W.setCell ⟨w.heap.size, 0, none⟩ (.bool false)).heap[D]? = some (.deferred (some [])) := (heap_setCell_other _ _ D _ (by simp only []; omega)).trans hK
    have HK := Lib.hid hK2
    have hf := Lib.hid hn
    clear hn hK hK2
    gi_wp2
    refine ⟨by simp, .inl ⟨_, _, rfl, run_takeDeferred HK.out, ?_⟩⟩
    have hgr := grownBy_putObj' (W.setCell ⟨w.heap.size, 0, none⟩ (.bool false)) D (.deferred none)
    have hrr : ∀ r, some D = some r → W0.heap.size ≤ r ∧ ∃ o : Obj, (W.setCell ⟨w.heap.size, 0, none⟩ (.bool false)).heap[r]? = some o ∧ o.isCells = false := fun r e => by cases e; exact ⟨hD, _, HK.out, rfl⟩
    have zb : Below w.heap.size w (W.setCell ⟨w.heap.size, 0, none⟩ (.bool false)) := hb.setCell (p := ⟨w.heap.size, 0, none⟩) (by simp) _
    exact ⟨_, results_c8 Tryz.results57 _ _ _ w.heap.size (.bool false) 4 rfl (isOwn8 (j4.set 0 _) hgr hrr) (aggB8 _), by rw [hf.out], belowOwn8 zb zb.size (by omega) hgr hrr⟩
  case stop =>
    rintro D c i W hD ⟨rfl, hb, j4, hT⟩ hK
    have HT := Lib.hid hT
    clear hT
    gi_wp2
    refine ⟨by simp, .inl ⟨_, _, rfl, run_takeDeferred hK, ?_⟩⟩
    have hgr := grownBy_putObj' W D (.deferred none)
    have hrr : ∀ r, some D = some r → W0.heap.size ≤ r ∧ ∃ o : Obj, W.heap[r]? = some o ∧ o.isCells = false := fun r e => by cases e; exact ⟨hD, _, hK, rfl⟩
    exact ⟨_, results_c8 Tryz.results57 _ _ _ w.heap.size (.bool true) 4 rfl (isOwn8 j4 hgr hrr) (aggB8 _), by rw [HT.out], belowOwn8 hb hb.size (by omega) hgr hrr⟩

set_option maxRecDepth 100000 in
set_option maxHeartbeats 4000000 in
theorem twiceK_any (gf : Nat) (lb : Array Value) (xs : List ((ByteArray × ByteArray) × ByteArray)) (m : Int) (w : World) (eg : ∀ args w, (callFunc gf args).run Tryz.prog w = .ok (.enter gf args) w)
    (hseq : SeqL Fence.wide 4 Tryz.prog gf lb encP8 xs (fun k => k < w.heap.size) w) (hok : ∀ x ∈ xs, x.1.1.size ≤ maxLen ∧ x.1.2.size ≤ maxLen) (hlen : xs.length < maxLen) :
    Calls Tryz.prog 59 #[.func (.func gf) #[] lb, .int .i64 m] w fun e w' => e = .returned (.bool (twice8 (xs.map Prod.fst))) ∧ Below w.heap.size w w' := by
  have HS := Lib.hid hseq
  have HO := Lib.hid hok
  have HL := Lib.hid hlen
  clear hseq hok hlen
  have hmm : ∀ (w : World) (m : Int), (Instr.makeMap 118 (some (.int .i64 m))).run Tryz.prog w = .ok (.map (some w.heap.size)) (w.alloc (.map #[] 0)) := fun w m => by kernel_rfl
  refine (callsIn_wide (n := 5)).1 ?_
  refine callsIn_of_wp_marks Tryz.func59 rfl trivial ?_ rfl
  simp only [Tryz.ntmps59, List.size_toArray, List.length_cons, List.length_nil, Nat.reduceAdd, Nat.reduceSub, Array.replicate_succ, Array.replicate_zero, List.push_toArray, List.append_toArray, List.nil_append, List.cons_append]
  gi_wp2_with fail
  have i4 : Is (((w.alloc (.cells #[.bool false] 4)).alloc (.map #[] 0)).alloc (.cells #[.map (some (w.heap.size + 1))] 118)) w.heap.size 4 #[.bool false] := ((Is.new w _ _).alloc _).alloc _
  have i5 : Is (((w.alloc (.cells #[.bool false] 4)).alloc (.map #[] 0)).alloc (.cells #[.map (some (w.heap.size + 1))] 118)) (w.heap.size + 1 + 1) 118 #[.map (some (w.heap.size + 1))] := by
    have := Is.new ((w.alloc (.cells #[.bool false] 4)).alloc (.map #[] 0)) 118 #[.map (some (w.heap.size + 1))]
    simpa using this
  have hM : (((w.alloc (.cells #[.bool false] 4)).alloc (.map #[] 0)).alloc (.cells #[.map (some (w.heap.size + 1))] 118)).ownsMap Tryz.prog 104 (unitElem (H := Unit)) (w.heap.size + 1) 0 (.map []) := by
    have := World.ownsMap_made (w.alloc (.cells #[.bool false] 4)) Tryz.prog 104 (unitElem (H := Unit))
    rw [World.size_alloc] at this
    exact this.alloc _
  have hB : Below w.heap.size w (((w.alloc (.cells #[.bool false] 4)).alloc (.map #[] 0)).alloc (.cells #[.map (some (w.heap.size + 1))] 118)) := (((Below.refl _ _).alloc (Nat.le_refl _) _).alloc (by simp) _).alloc (by simp; omega) _
  have hsz : (((w.alloc (.cells #[.bool false] 4)).alloc (.map #[] 0)).alloc (.cells #[.map (some (w.heap.size + 1))] 118)).heap.size = w.heap.size + 3 := by simp
  generalize ((w.alloc (.cells #[.bool false] 4)).alloc (.map #[] 0)).alloc (.cells #[.map (some (w.heap.size + 1))] 118) = W0 at *
  refine wpIn_rangeL rfl (by omega) (gf := gf) (lb := lb) rfl trivial eg HS.out (Stay.below hB) (fun k hk => by omega) (fun _ => rfl)
    (fun i W => Below w.heap.size w W ∧ Is W w.heap.size 4 #[.bool false] ∧ Is W (w.heap.size + 1 + 1) 118 #[.map (some (w.heap.size + 1))] ∧ ∃ D, W.ownsMap Tryz.prog 104 (unitElem (H := Unit)) (w.heap.size + 1) i D ∧ Told 104 (fun (k : ByteArray × ByteArray) => Value.agg #[.string k.1, .string k.2]) (fun k => k.1.size ≤ maxLen ∧ k.2.size ≤ maxLen) D ((xs.map Prod.fst).take i) ∧ twice8 ((xs.map Prod.fst).take i) = false)
    (fun c _ W => c = .ret ∧ Below w.heap.size w W ∧ Is W w.heap.size 4 #[.bool true] ∧ twice8 (xs.map Prod.fst) = true)
    (fun s X Y row hs hg hr => ⟨belowOwn8 hs.1 hs.1.size (by omega) hg hr, isOwn8 hs.2.1 hg hr, isOwn8 hs.2.2.1 hg hr, by
      obtain ⟨D, h1, h2⟩ := hs.2.2.2
      exact ⟨D, h1.kept hg (fun e => by have := (hr _ e.symm).1; omega), h2⟩⟩)
    (fun c s X Y row hs hg hr => ⟨hs.1, belowOwn8 hs.2.1 hs.2.1.size (by omega) hg hr, isOwn8 hs.2.2.1 hg hr, hs.2.2.2⟩)
    ⟨hB, i4, i5, .map [], hM, told_nil _ _ _, rfl⟩ ?round ?done ?stop
  case round =>
    rintro l i ⟨⟨x1, x2⟩, y⟩ W hl hlt hx ⟨hb, j4, j5, D, hown, ht, hn⟩
    gi_wp2
    refine ⟨(Stay.refl _ _).grown (World.grownBy_alloc _ _ none) (fun r e => by cases e), ⟨hb.alloc hb.size _, j4.alloc _, j5.alloc _, D, hown.alloc _, ht, hn⟩, fun W' => Is W' W.heap.size 104 #[.string x1, .string x2], fun _ X Y row hs hg hr => isOwn8 hs hg hr, Is.new _ _ _, ?_⟩
    clear hb j4 j5 hown ht hn D
    rintro W4 hl4 ⟨hb, j4, j5, D, hown, ht, hn⟩ hax
    have hokx := HO.out _ (List.mem_of_getElem? hx)
    obtain ⟨v, hv⟩ := keyK8 hokx.1 hokx.2
    have hm : (xs.map Prod.fst)[i]? = some (x1, x2) := by rw [List.getElem?_map, hx]; rfl
    have hh := ht.2 (x1, x2) v hokx hv
    have hi : i < xs.length := (List.getElem?_eq_some_iff.1 hx).1
    have him : i < maxLen := Nat.lt_trans hi HL.out
    have q4 := j4.frozen 0
    have r4 : W4.cell? ⟨w.heap.size, 0, none⟩ = some (.bool false) := j4.cell 0
    have r5 : W4.cell? ⟨w.heap.size + 1 + 1, 0, none⟩ = some (.map (some (w.heap.size + 1))) := j5.cell 0
    have r5' : (W4.alloc (.cells #[] 115)).cell? ⟨w.heap.size + 1 + 1, 0, none⟩ = some (.map (some (w.heap.size + 1))) := (j5.alloc _).cell 0
    have q4' : (W4.alloc (.cells #[] 115)).frozen? ⟨w.heap.size, 0, none⟩ = false := (j4.alloc _).frozen 0
    have r4' : (W4.alloc (.cells #[] 115)).cell? ⟨w.heap.size, 0, none⟩ = some (.bool false) := (j4.alloc _).cell 0
    have HV := Lib.hid hv
    have HT := Lib.hid ht
    by_cases he : (((xs.map Prod.fst).take i).any fun y => decide (y = (x1, x2))) = true
    · rw [he] at hh
      have hT := Lib.hid (twice8_hit hm he)
      clear he hm hx hv ht hn
      gi_wp2_with (first | (refine wpListIn_load_rowI rfl 104 _ rfl W.heap.size rfl hax Tryz.underlying104 rfl infoAsk ?_) | (refine wpListIn_load_rowI rfl 104 _ rfl W.heap.size rfl (hax.alloc _) Tryz.underlying104 rfl infoAsk ?_) | (refine wpListIn_lookup_own_unit _ rfl _ _ 118 rfl 104 115 lawK8 Tryz.underlying118 (zeroU8 _) (w.heap.size + 1) i D rfl hown _ v rfl HV.out ?_) | (refine wpListIn_mapUpdate_own _ rfl _ _ _ 118 rfl 104 115 lawK8 Tryz.underlying118 _ (w.heap.size + 1) i D rfl (hown.alloc _) him _ _ v rfl rfl HV.out (.agg []) [] unitElem_mk ?_; intro w1 hown1 hgrow1))
      exact ⟨((Stay.refl _ _).grown (World.grownBy_alloc _ _ none) (fun r e => by cases e)).grown (grownSetG _ _ _) (fun r e => by cases e; exact .inl (by simp only []; omega)), rfl,
        (hb.alloc hb.size _).setCell (p := ⟨w.heap.size, 0, none⟩) (by simp) _, (j4.alloc _).set 0 _, hT.out⟩
    · rw [Bool.not_eq_true] at he
      have ht2 := Lib.hid (told_put lawK8 (fun a b e => by obtain ⟨a1, a2⟩ := a; obtain ⟨b1, b2⟩ := b; cases e; rfl) ht hv)
      have hn2 := Lib.hid (show twice8 ((xs.map Prod.fst).take (i + 1)) = false by rw [twice8_take hm, hn, he]; rfl)
      have htk := Lib.hid (show (xs.map Prod.fst).take (i + 1) = (xs.map Prod.fst).take i ++ [(x1, x2)] by rw [List.take_add_one, hm]; rfl)
      rw [he] at hh
      clear he hm hx hv ht hn
      gi_wp2_with (first | (refine wpListIn_load_rowI rfl 104 _ rfl W.heap.size rfl hax Tryz.underlying104 rfl infoAsk ?_) | (refine wpListIn_load_rowI rfl 104 _ rfl W.heap.size rfl (hax.alloc _) Tryz.underlying104 rfl infoAsk ?_) | (refine wpListIn_lookup_own_unit _ rfl _ _ 118 rfl 104 115 lawK8 Tryz.underlying118 (zeroU8 _) (w.heap.size + 1) i D rfl hown _ v rfl HV.out ?_) | (refine wpListIn_mapUpdate_own _ rfl _ _ _ 118 rfl 104 115 lawK8 Tryz.underlying118 _ (w.heap.size + 1) i D rfl (hown.alloc _) him _ _ v rfl rfl HV.out (.agg []) [] unitElem_mk ?_; intro w1 hown1 hgrow1))
      refine ⟨((Stay.refl _ _).grown (World.grownBy_alloc _ _ none) (fun r e => by cases e)).grown hgrow1 (fun r e => by cases e; exact .inl (by omega)), (hb.alloc hb.size _).grown hgrow1 (by have := hb.size; simp; omega) (fun k e => by cases e; omega),
        (hgrow1.block _ (j4.alloc _).lt (by intro e; have := Option.some.inj e; omega)).trans (j4.alloc _), (hgrow1.block _ (j5.alloc _).lt (by intro e; have := Option.some.inj e; omega)).trans (j5.alloc _), _, hown1, ?_, hn2.out⟩
      rw [htk.out]
      exact ht2.out
  case done =>
    rintro D W hD ⟨hb, j4, j5, _, _, _, hn⟩ hK
    have hln : (xs.map Prod.fst).take xs.length = xs.map Prod.fst := by rw [← List.length_map (f := Prod.fst), List.take_length]
    rw [hln] at hn
    have q4 := j4.frozen 0
    have r4 : W.cell? ⟨w.heap.size, 0, none⟩ = some (.bool false) := j4.cell 0
    have hK2 : (W.setCell ⟨w.heap.size, 0, none⟩ (.bool false)).heap[D]? = some (.deferred (some [])) := (heap_setCell_other _ _ D _ (by simp only []; omega)).trans hK
    have HK := Lib.hid hK2
    have hf := Lib.hid hn
    clear hn hK hK2
    gi_wp2
    refine ⟨by simp, .inl ⟨_, _, rfl, run_takeDeferred HK.out, ?_⟩⟩
    have hgr := grownBy_putObj' (W.setCell ⟨w.heap.size, 0, none⟩ (.bool false)) D (.deferred none)
    have hrr : ∀ r, some D = some r → W0.heap.size ≤ r ∧ ∃ o : Obj, (W.setCell ⟨w.heap.size, 0, none⟩ (.bool false)).heap[r]? = some o ∧ o.isCells = false := fun r e => by cases e; exact ⟨hD, _, HK.out, rfl⟩
    have zb : Below w.heap.size w (W.setCell ⟨w.heap.size, 0, none⟩ (.bool false)) := hb.setCell (p := ⟨w.heap.size, 0, none⟩) (by simp) _
    exact ⟨_, results_c8 Tryz.results59 _ _ _ w.heap.size (.bool false) 4 rfl (isOwn8 (j4.set 0 _) hgr hrr) (aggB8 _), by rw [hf.out], belowOwn8 zb zb.size (by omega) hgr hrr⟩
  case stop =>
    rintro D c i W hD ⟨rfl, hb, j4, hT⟩ hK
    have HT := Lib.hid hT
    clear hT
    gi_wp2
    refine ⟨by simp, .inl ⟨_, _, rfl, run_takeDeferred hK, ?_⟩⟩
    have hgr := grownBy_putObj' W D (.deferred none)
    have hrr : ∀ r, some D = some r → W0.heap.size ≤ r ∧ ∃ o : Obj, W.heap[r]? = some o ∧ o.isCells = false := fun r e => by cases e; exact ⟨hD, _, hK, rfl⟩
    exact ⟨_, results_c8 Tryz.results59 _ _ _ w.heap.size (.bool true) 4 rfl (isOwn8 j4 hgr hrr) (aggB8 _), by rw [HT.out], belowOwn8 hb hb.size (by omega) hgr hrr⟩

set_option maxRecDepth 100000 in
set_option maxHeartbeats 4000000 in
theorem twiceO_any (gf : Nat) (lb : Array Value) (xs : List ((ByteArray × ByteArray) × ByteArray)) (m : Int) (w : World) (eg : ∀ args w, (callFunc gf args).run Tryz.prog w = .ok (.enter gf args) w)
    (hseq : SeqL Fence.wide 4 Tryz.prog gf lb encP8 xs (fun k => k < w.heap.size) w) (hok : ∀ x ∈ xs, x.1.1.size ≤ maxLen ∧ x.1.2.size ≤ maxLen) (hlen : xs.length < maxLen) :
    Calls Tryz.prog 72 #[.func (.func gf) #[] lb, .int .i64 m] w fun e w' => e = .returned (.bool (twice8 (xs.map Prod.fst))) ∧ Below w.heap.size w w' := by
  have HS := Lib.hid hseq
  have HO := Lib.hid hok
  have HL := Lib.hid hlen
  clear hseq hok hlen
  have hmm : ∀ (w : World) (m : Int), (Instr.makeMap 130 (some (.int .i64 m))).run Tryz.prog w = .ok (.map (some w.heap.size)) (w.alloc (.map #[] 0)) := fun w m => by kernel_rfl
  refine (callsIn_wide (n := 5)).1 ?_
  refine callsIn_of_wp_marks Tryz.func72 rfl trivial ?_ rfl
  simp only [Tryz.ntmps72, List.size_toArray, List.length_cons, List.length_nil, Nat.reduceAdd, Nat.reduceSub, Array.replicate_succ, Array.replicate_zero, List.push_toArray, List.append_toArray, List.nil_append, List.cons_append]
  gi_wp2_with fail
  have i4 : Is (((w.alloc (.cells #[.bool false] 4)).alloc (.map #[] 0)).alloc (.cells #[.map (some (w.heap.size + 1))] 130)) w.heap.size 4 #[.bool false] := ((Is.new w _ _).alloc _).alloc _
  have i5 : Is (((w.alloc (.cells #[.bool false] 4)).alloc (.map #[] 0)).alloc (.cells #[.map (some (w.heap.size + 1))] 130)) (w.heap.size + 1 + 1) 130 #[.map (some (w.heap.size + 1))] := by
    have := Is.new ((w.alloc (.cells #[.bool false] 4)).alloc (.map #[] 0)) 130 #[.map (some (w.heap.size + 1))]
    simpa using this
  have hM : (((w.alloc (.cells #[.bool false] 4)).alloc (.map #[] 0)).alloc (.cells #[.map (some (w.heap.size + 1))] 130)).ownsMap Tryz.prog 122 (unitElem (H := Unit)) (w.heap.size + 1) 0 (.map []) := by
    have := World.ownsMap_made (w.alloc (.cells #[.bool false] 4)) Tryz.prog 122 (unitElem (H := Unit))
    rw [World.size_alloc] at this
    exact this.alloc _
  have hB : Below w.heap.size w (((w.alloc (.cells #[.bool false] 4)).alloc (.map #[] 0)).alloc (.cells #[.map (some (w.heap.size + 1))] 130)) := (((Below.refl _ _).alloc (Nat.le_refl _) _).alloc (by simp) _).alloc (by simp; omega) _
  have hsz : (((w.alloc (.cells #[.bool false] 4)).alloc (.map #[] 0)).alloc (.cells #[.map (some (w.heap.size + 1))] 130)).heap.size = w.heap.size + 3 := by simp
  generalize ((w.alloc (.cells #[.bool false] 4)).alloc (.map #[] 0)).alloc (.cells #[.map (some (w.heap.size + 1))] 130) = W0 at *
  refine wpIn_rangeL rfl (by omega) (gf := gf) (lb := lb) rfl trivial eg HS.out (Stay.below hB) (fun k hk => by omega) (fun _ => rfl)
    (fun i W => Below w.heap.size w W ∧ Is W w.heap.size 4 #[.bool false] ∧ Is W (w.heap.size + 1 + 1) 130 #[.map (some (w.heap.size + 1))] ∧ ∃ D, W.ownsMap Tryz.prog 122 (unitElem (H := Unit)) (w.heap.size + 1) i D ∧ Told 122 (fun (k : ByteArray × ByteArray) => Value.agg #[.string k.1, .string k.2]) (fun k => k.1.size ≤ maxLen ∧ k.2.size ≤ maxLen) D ((xs.map Prod.fst).take i) ∧ twice8 ((xs.map Prod.fst).take i) = false)
    (fun c _ W => c = .ret ∧ Below w.heap.size w W ∧ Is W w.heap.size 4 #[.bool true] ∧ twice8 (xs.map Prod.fst) = true)
    (fun s X Y row hs hg hr => ⟨belowOwn8 hs.1 hs.1.size (by omega) hg hr, isOwn8 hs.2.1 hg hr, isOwn8 hs.2.2.1 hg hr, by
      obtain ⟨D, h1, h2⟩ := hs.2.2.2
      exact ⟨D, h1.kept hg (fun e => by have := (hr _ e.symm).1; omega), h2⟩⟩)
    (fun c s X Y row hs hg hr => ⟨hs.1, belowOwn8 hs.2.1 hs.2.1.size (by omega) hg hr, isOwn8 hs.2.2.1 hg hr, hs.2.2.2⟩)
    ⟨hB, i4, i5, .map [], hM, told_nil _ _ _, rfl⟩ ?round ?done ?stop
  case round =>
    rintro l i ⟨⟨x1, x2⟩, y⟩ W hl hlt hx ⟨hb, j4, j5, D, hown, ht, hn⟩
    gi_wp2
    refine ⟨(Stay.refl _ _).grown (World.grownBy_alloc _ _ none) (fun r e => by cases e), ⟨hb.alloc hb.size _, j4.alloc _, j5.alloc _, D, hown.alloc _, ht, hn⟩, fun W' => Is W' W.heap.size 122 #[.string x1, .string x2], fun _ X Y row hs hg hr => isOwn8 hs hg hr, Is.new _ _ _, ?_⟩
    clear hb j4 j5 hown ht hn D
    rintro W4 hl4 ⟨hb, j4, j5, D, hown, ht, hn⟩ hax
    have hokx := HO.out _ (List.mem_of_getElem? hx)
    obtain ⟨v, hv⟩ := keyO8 hokx.1 hokx.2
    have hm : (xs.map Prod.fst)[i]? = some (x1, x2) := by rw [List.getElem?_map, hx]; rfl
    have hh := ht.2 (x1, x2) v hokx hv
    have hi : i < xs.length := (List.getElem?_eq_some_iff.1 hx).1
    have him : i < maxLen := Nat.lt_trans hi HL.out
    have q4 := j4.frozen 0
    have r4 : W4.cell? ⟨w.heap.size, 0, none⟩ = some (.bool false) := j4.cell 0
    have r5 : W4.cell? ⟨w.heap.size + 1 + 1, 0, none⟩ = some (.map (some (w.heap.size + 1))) := j5.cell 0
    have r5' : (W4.alloc (.cells #[] 115)).cell? ⟨w.heap.size + 1 + 1, 0, none⟩ = some (.map (some (w.heap.size + 1))) := (j5.alloc _).cell 0
    have q4' : (W4.alloc (.cells #[] 115)).frozen? ⟨w.heap.size, 0, none⟩ = false := (j4.alloc _).frozen 0
    have r4' : (W4.alloc (.cells #[] 115)).cell? ⟨w.heap.size, 0, none⟩ = some (.bool false) := (j4.alloc _).cell 0
    have HV := Lib.hid hv
    have HT := Lib.hid ht
    by_cases he : (((xs.map Prod.fst).take i).any fun y => decide (y = (x1, x2))) = true
    · rw [he] at hh
      have hT := Lib.hid (twice8_hit hm he)
      clear he hm hx hv ht hn
      gi_wp2_with (first | (refine wpListIn_load_rowI rfl 122 _ rfl W.heap.size rfl hax Tryz.underlying122 rfl infoOpn ?_) | (refine wpListIn_load_rowI rfl 122 _ rfl W.heap.size rfl (hax.alloc _) Tryz.underlying122 rfl infoOpn ?_) | (refine wpListIn_lookup_own_unit _ rfl _ _ 130 rfl 122 115 lawO8 Tryz.underlying130 (zeroU8 _) (w.heap.size + 1) i D rfl hown _ v rfl HV.out ?_) | (refine wpListIn_mapUpdate_own _ rfl _ _ _ 130 rfl 122 115 lawO8 Tryz.underlying130 _ (w.heap.size + 1) i D rfl (hown.alloc _) him _ _ v rfl rfl HV.out (.agg []) [] unitElem_mk ?_; intro w1 hown1 hgrow1))
      exact ⟨((Stay.refl _ _).grown (World.grownBy_alloc _ _ none) (fun r e => by cases e)).grown (grownSetG _ _ _) (fun r e => by cases e; exact .inl (by simp only []; omega)), rfl,
        (hb.alloc hb.size _).setCell (p := ⟨w.heap.size, 0, none⟩) (by simp) _, (j4.alloc _).set 0 _, hT.out⟩
    · rw [Bool.not_eq_true] at he
      have ht2 := Lib.hid (told_put lawO8 (fun a b e => by obtain ⟨a1, a2⟩ := a; obtain ⟨b1, b2⟩ := b; cases e; rfl) ht hv)
      have hn2 := Lib.hid (show twice8 ((xs.map Prod.fst).take (i + 1)) = false by rw [twice8_take hm, hn, he]; rfl)
      have htk := Lib.hid (show (xs.map Prod.fst).take (i + 1) = (xs.map Prod.fst).take i ++ [(x1, x2)] by rw [List.take_add_one, hm]; rfl)
      rw [he] at hh
      clear he hm hx hv ht hn
      gi_wp2_with (first | (refine wpListIn_load_rowI rfl 122 _ rfl W.heap.size rfl hax Tryz.underlying122 rfl infoOpn ?_) | (refine wpListIn_load_rowI rfl 122 _ rfl W.heap.size rfl (hax.alloc _) Tryz.underlying122 rfl infoOpn ?_) | (refine wpListIn_lookup_own_unit _ rfl _ _ 130 rfl 122 115 lawO8 Tryz.underlying130 (zeroU8 _) (w.heap.size + 1) i D rfl hown _ v rfl HV.out ?_) | (refine wpListIn_mapUpdate_own _ rfl _ _ _ 130 rfl 122 115 lawO8 Tryz.underlying130 _ (w.heap.size + 1) i D rfl (hown.alloc _) him _ _ v rfl rfl HV.out (.agg []) [] unitElem_mk ?_; intro w1 hown1 hgrow1))
      refine ⟨((Stay.refl _ _).grown (World.grownBy_alloc _ _ none) (fun r e => by cases e)).grown hgrow1 (fun r e => by cases e; exact .inl (by omega)), (hb.alloc hb.size _).grown hgrow1 (by have := hb.size; simp; omega) (fun k e => by cases e; omega),
        (hgrow1.block _ (j4.alloc _).lt (by intro e; have := Option.some.inj e; omega)).trans (j4.alloc _), (hgrow1.block _ (j5.alloc _).lt (by intro e; have := Option.some.inj e; omega)).trans (j5.alloc _), _, hown1, ?_, hn2.out⟩
      rw [htk.out]
      exact ht2.out
  case done =>
    rintro D W hD ⟨hb, j4, j5, _, _, _, hn⟩ hK
    have hln : (xs.map Prod.fst).take xs.length = xs.map Prod.fst := by rw [← List.length_map (f := Prod.fst), List.take_length]
    rw [hln] at hn
    have q4 := j4.frozen 0
    have r4 : W.cell? ⟨w.heap.size, 0, none⟩ = some (.bool false) := j4.cell 0
    have hK2 : (W.setCell ⟨w.heap.size, 0, none⟩ (.bool false)).heap[D]? = some (.deferred (some [])) := (heap_setCell_other _ _ D _ (by simp only []; omega)).trans hK
    have HK := Lib.hid hK2
    have hf := Lib.hid hn
    clear hn hK hK2
    gi_wp2
    refine ⟨by simp, .inl ⟨_, _, rfl, run_takeDeferred HK.out, ?_⟩⟩
    have hgr := grownBy_putObj' (W.setCell ⟨w.heap.size, 0, none⟩ (.bool false)) D (.deferred none)
    have hrr : ∀ r, some D = some r → W0.heap.size ≤ r ∧ ∃ o : Obj, (W.setCell ⟨w.heap.size, 0, none⟩ (.bool false)).heap[r]? = some o ∧ o.isCells = false := fun r e => by cases e; exact ⟨hD, _, HK.out, rfl⟩
    have zb : Below w.heap.size w (W.setCell ⟨w.heap.size, 0, none⟩ (.bool false)) := hb.setCell (p := ⟨w.heap.size, 0, none⟩) (by simp) _
    exact ⟨_, results_c8 Tryz.results72 _ _ _ w.heap.size (.bool false) 4 rfl (isOwn8 (j4.set 0 _) hgr hrr) (aggB8 _), by rw [hf.out], belowOwn8 zb zb.size (by omega) hgr hrr⟩
  case stop =>
    rintro D c i W hD ⟨rfl, hb, j4, hT⟩ hK
    have HT := Lib.hid hT
    clear hT
    gi_wp2
    refine ⟨by simp, .inl ⟨_, _, rfl, run_takeDeferred hK, ?_⟩⟩
    have hgr := grownBy_putObj' W D (.deferred none)
    have hrr : ∀ r, some D = some r → W0.heap.size ≤ r ∧ ∃ o : Obj, W.heap[r]? = some o ∧ o.isCells = false := fun r e => by cases e; exact ⟨hD, _, hK, rfl⟩
    exact ⟨_, results_c8 Tryz.results72 _ _ _ w.heap.size (.bool true) 4 rfl (isOwn8 j4 hgr hrr) (aggB8 _), by rw [HT.out], belowOwn8 hb hb.size (by omega) hgr hrr⟩
end Go.Proofs.YtfgdcpolfekgjaaGreat
namespace Go.Proofs.YtfgdcpolfekgjaaGreat
open Go.RowKit Go.Shelf
attribute [local go_sem] Oper.semAt_some

def sized8 (d : Ide) : Bool := (decide (d.N.length ≤ 2000) && decide (d.K.length ≤ 2000)) && (d.N.all okN && d.K.all okK)
theorem all_take {α : Type} {p : α → Bool} {l : List α} {i : Nat} {x : α} (hx : l[i]? = some x) (h : (l.take i).all p = true) (hp : p x = true) : (l.take (i + 1)).all p = true := by
  rw [List.take_add_one, hx, List.all_append, h]
  simp [hp]
theorem all_miss {α : Type} {p : α → Bool} {l : List α} {i : Nat} {x : α} (hx : l[i]? = some x) (hp : p x = false) : l.all p = false := by
  rw [List.all_eq_false]
  exact ⟨x, List.mem_of_getElem? hx, by rw [hp]; decide⟩
theorem InV.blkN {W : World} {A : Option Addr} {N : List Nam8} (h : InV W A (flN N)) : ∀ p, A = some p → N ≠ [] → p.block < W.heap.size := fun p e hn => by
  cases N with
  | nil => exact absurd rfl hn
  | cons x r =>
    obtain ⟨b, off, e2, hb, _⟩ := h 0 (.string x.1) rfl
    rw [e] at e2
    cases e2
    exact hb
theorem InV.blkK {W : World} {A : Option Addr} {N : List Cel8} (h : InV W A (flK N)) : ∀ p, A = some p → N ≠ [] → p.block < W.heap.size := fun p e hn => by
  cases N with
  | nil => exact absurd rfl hn
  | cons x r =>
    obtain ⟨b, off, e2, hb, _⟩ := h 0 (.string x.1) rfl
    rw [e] at e2
    cases e2
    exact hb
section
variable {w W : World} {d : Ide} {A : Option Addr} {c : Nat} {A' : Option Addr} {c' : Nat} (h : InI w d A c A' c') (n : Nat) (Bd : Nat) (hb : Below w.heap.size w W) (hBd : Is W Bd 29 (ideL d A c A' c'))
include h hb hBd
theorem InI.seqN (hn : 1 ≤ n) : SeqL Fence.wide n Tryz.prog 69 #[.pointer (some ⟨Bd, 0, none⟩)] encN8 d.N (fun k => k < W.heap.size) W :=
  names_seq n hn Bd _ _ _ _ _ A c d.N W hBd rfl (h.n.keep hb) (by have := h.fit; omega) _ hBd.lt (h.n.keep hb).blkN
theorem InI.seqK (hn : 1 ≤ n) : SeqL Fence.wide n Tryz.prog 70 #[.pointer (some ⟨Bd, 0, none⟩)] encP8 (d.K.map askK) (fun k => k < W.heap.size) W :=
  cells_seq n hn Bd _ _ _ _ _ A' c' d.K W hBd rfl (h.k.keep hb) (by have := h.fitK; omega) _ hBd.lt (h.k.keep hb).blkK
theorem InI.seqO (hn : 3 ≤ n) : SeqL Fence.wide n Tryz.prog 78 #[.pointer (some ⟨Bd, 0, none⟩)] encN8 (d.N.map outN) (fun k => k < W.heap.size) W :=
  outs_seq n hn Bd _ _ _ _ _ A c d.N W hBd rfl (h.n.keep hb) (by have := h.fit; omega) _ hBd.lt (h.n.keep hb).blkN (fun _ h => h)
theorem InI.seqT (hn : 3 ≤ n) : SeqL Fence.wide n Tryz.prog 79 #[.pointer (some ⟨Bd, 0, none⟩)] encP8 (d.K.map opnK) (fun k => k < W.heap.size) W :=
  texts_seq n hn Bd _ _ _ _ _ A' c' d.K W hBd rfl (h.k.keep hb) (by have := h.fitK; omega) _ hBd.lt (h.k.keep hb).blkK (fun _ h => h)
end
end Go.Proofs.YtfgdcpolfekgjaaGreat
namespace Go.Proofs.YtfgdcpolfekgjaaGreat
open Go.RowKit Go.Shelf
attribute [local go_sem] Oper.semAt_some

theorem okN_iff {x : Nam8} : okN x = true ↔ (x.1.size : Int) ≤ 100 ∧ (x.2.size : Int) = 16 := by
  simp only [okN, Bool.and_eq_true, decide_eq_true_eq]; omega
theorem okK_iff {x : Cel8} : okK x = true ↔ (x.1.size : Int) = 16 ∧ (x.2.1.size : Int) = 24 ∧ (x.2.2.size : Int) = 40 := by
  simp only [okK, Bool.and_eq_true, decide_eq_true_eq]; omega
structure All8 {α : Type} (p : α → Bool) (l : List α) : Prop where
  out : l.all p = true
structure Not8 {α : Type} (p : α → Bool) (l : List α) : Prop where
  out : l.all p = false
theorem dfr8 {B : Nat} {X Y : World} {row : Option Nat} {D : Nat} {o : Obj} (h : X.heap[D]? = some o) (hD : D < B) (hg : X.grownBy Y row) (hr : ∀ r, row = some r → B ≤ r ∧ ∃ o : Obj, X.heap[r]? = some o ∧ o.isCells = false) : Y.heap[D]? = some o :=
  (hg.block D (Array.getElem?_eq_some_iff.1 h).1 (fun e => by have := (hr D e.symm).1; omega)).trans h

set_option maxRecDepth 100000 in
set_option maxHeartbeats 4000000 in
theorem sized_many (d : Ide) (A : Option Addr) (c : Nat) (A' : Option Addr) (c' : Nat) (w : World) (hs : ¬ (d.N.length ≤ 2000 ∧ d.K.length ≤ 2000)) :
    Calls Tryz.prog 56 #[ideV d A c A' c'] w fun e w' => e = .returned (.bool (sized8 d)) ∧ Below w.heap.size w w' := by
  have hz : sized8 d = false := by
    simp only [sized8, Bool.and_eq_false_imp, Bool.and_eq_true, decide_eq_true_eq]
    intro h
    exact absurd h hs
  rw [hz]
  clear hz
  have j2 : Is ((w.alloc (.cells (ideL d A c A' c') 29)).alloc (.cells #[.bool false] 4)) (w.heap.size + 1) 4 #[.bool false] := heap_alloc2_new w _ _
  have j1 : Is ((w.alloc (.cells (ideL d A c A' c') 29)).alloc (.cells #[.bool false] 4)) w.heap.size 29 (ideL d A c A' c') := heap_alloc2_old w _ _
  have c2 : ((w.alloc (.cells (ideL d A c A' c') 29)).alloc (.cells #[.bool false] 4)).cell? ⟨w.heap.size, 2, none⟩ = some (.slice A d.N.length c) := j1.cell 2
  have c3 : ((w.alloc (.cells (ideL d A c A' c') 29)).alloc (.cells #[.bool false] 4)).cell? ⟨w.heap.size, 3, none⟩ = some (.slice A' d.K.length c') := j1.cell 3
  have q2 := j2.frozen 0
  have r2 : ((w.alloc (.cells (ideL d A c A' c') 29)).alloc (.cells #[.bool false] 4)).cell? ⟨w.heap.size + 1, 0, none⟩ = some (.bool false) := j2.cell 0
  have hB : Below w.heap.size w ((w.alloc (.cells (ideL d A c A' c') 29)).alloc (.cells #[.bool false] 4)) := ((Below.refl _ _).alloc (Nat.le_refl _) _).alloc (by simp) _
  by_cases hN : d.N.length ≤ 2000
  · have hN1 : ¬ (2000 < (d.N.length : Int)) := by omega
    have hK1 : 2000 < (d.K.length : Int) := by omega
    go_enter Tryz.func56, Tryz.ntmps56
    go_wp2
    exact bodyPost_ret (results_c8 Tryz.results56 _ _ _ (w.heap.size + 1) (.bool false) 4 rfl j2 (aggB8 _)) rfl ⟨rfl, hB⟩
  · have hN1 : 2000 < (d.N.length : Int) := by omega
    go_enter Tryz.func56, Tryz.ntmps56
    go_wp2
    exact bodyPost_ret (results_c8 Tryz.results56 _ _ _ (w.heap.size + 1) (.bool false) 4 rfl j2 (aggB8 _)) rfl ⟨rfl, hB⟩

set_option maxRecDepth 100000 in
set_option maxHeartbeats 4000000 in
theorem sized_few (d : Ide) (A : Option Addr) (c : Nat) (A' : Option Addr) (c' : Nat) (w : World) (h : InI w d A c A' c') (hs : d.N.length ≤ 2000 ∧ d.K.length ≤ 2000) :
    Calls Tryz.prog 56 #[ideV d A c A' c'] w fun e w' => e = .returned (.bool (sized8 d)) ∧ Below w.heap.size w w' := by
  have hz : sized8 d = (d.N.all okN && d.K.all okK) := by simp [sized8, hs.1, hs.2]
  rw [hz]
  have hN1 : ¬ (2000 < (d.N.length : Int)) := by omega
  have hK1 : ¬ (2000 < (d.K.length : Int)) := by omega
  have HI := Lib.hid h
  clear hz hs h
  refine (callsIn_wide (n := 5)).1 ?_
  refine callsIn_of_wp_marks Tryz.func56 rfl trivial ?_ rfl
  simp only [Tryz.ntmps56, List.size_toArray, List.length_cons, List.length_nil, Nat.reduceAdd, Nat.reduceSub, Array.replicate_succ, Array.replicate_zero, List.push_toArray, List.append_toArray, List.nil_append, List.cons_append]
  have j2 : Is ((w.alloc (.cells (ideL d A c A' c') 29)).alloc (.cells #[.bool false] 4)) (w.heap.size + 1) 4 #[.bool false] := heap_alloc2_new w _ _
  have j1 : Is ((w.alloc (.cells (ideL d A c A' c') 29)).alloc (.cells #[.bool false] 4)) w.heap.size 29 (ideL d A c A' c') := heap_alloc2_old w _ _
  have hB : Below w.heap.size w ((w.alloc (.cells (ideL d A c A' c') 29)).alloc (.cells #[.bool false] 4)) := ((Below.refl _ _).alloc (Nat.le_refl _) _).alloc (by simp) _
  obtain ⟨W1, hW1⟩ : ∃ W1, W1 = (w.alloc (.cells (ideL d A c A' c') 29)).alloc (.cells #[.bool false] 4) := ⟨_, rfl⟩
  rw [← hW1] at j1 j2 hB
  gi_wp2_with fail
  rw [← hW1]
  clear hW1
  have c2 : W1.cell? ⟨w.heap.size, 2, none⟩ = some (.slice A d.N.length c) := j1.cell 2
  have c3 : W1.cell? ⟨w.heap.size, 3, none⟩ = some (.slice A' d.K.length c') := j1.cell 3
  gi_wp2_with (refine wpListIn_load_rowI rfl 29 _ rfl w.heap.size rfl j1 Tryz.underlying29 rfl infoIde ?_)
  refine ⟨trivial, (callsIn_wide.2 (names_any _ _ _ _ _ _)).mono ?_⟩
  rintro e W' ⟨rfl, rfl⟩
  gi_wp2_with fail
  have i1 := j1.alloc (.cells (ideL d A c A' c') 29)
  have i2 := j2.alloc (.cells (ideL d A c A' c') 29)
  have iN : Is (W1.alloc (.cells (ideL d A c A' c') 29)) W1.heap.size 29 (ideL d A c A' c') := Is.new _ _ _
  have hb := hB.alloc hB.size (.cells (ideL d A c A' c') 29)
  have hsz : W1.heap.size < (W1.alloc (.cells (ideL d A c A' c') 29)).heap.size := by simp
  have hs1 := j2.lt
  clear j1 j2 hB c2 c3
  generalize W1.alloc (.cells (ideL d A c A' c') 29) = W2 at *
  generalize W1.heap.size = BN at *
  refine wpIn_rangeL rfl (by omega) (gf := 69) (lb := #[.pointer (some ⟨BN, 0, none⟩)]) rfl trivial (enters_of Tryz.func69 (by kernel_rfl) rfl) (S := fun k => k < w.heap.size ∨ k = BN)
    (names_seq 4 (by omega) BN _ _ _ _ _ A c d.N W2 iN rfl (HI.out.n.keep hb) (by have := HI.out.fit; omega) _ (.inr rfl) (fun p e hn => .inl (HI.out.n.blkN p e hn)))
    (Stay.refl _ _) (fun k hk => by have := hb.size; omega) (fun _ => rfl)
    (fun i W => Below w.heap.size w W ∧ Is W w.heap.size 29 (ideL d A c A' c') ∧ Is W (w.heap.size + 1) 4 #[.bool false] ∧ All8 okN (d.N.take i))
    (fun c _ W => c = .ret ∧ Below w.heap.size w W ∧ Is W (w.heap.size + 1) 4 #[.bool false] ∧ Not8 okN d.N)
    (fun s X Y row hs hg hr => ⟨belowOwn8 hs.1 hs.1.size (by omega) hg hr, isOwn8 hs.2.1 hg hr, isOwn8 hs.2.2.1 hg hr, hs.2.2.2⟩)
    (fun c s X Y row hs hg hr => ⟨hs.1, belowOwn8 hs.2.1 hs.2.1.size (by omega) hg hr, isOwn8 hs.2.2.1 hg hr, hs.2.2.2⟩)
    ⟨hb, i1, i2, ⟨rfl⟩⟩ ?round ?done ?stop
  case round =>
    rintro l i ⟨x1, x2⟩ W hl hlt hx ⟨hb, k1, k2, hn⟩
    gi_wp2
    refine ⟨Stay.refl _ _, ⟨hb, k1, k2, hn⟩, fun _ => True, fun _ _ _ _ _ _ _ => trivial, trivial, ?_⟩
    clear hb k1 k2 hn
    rintro W4 hl4 ⟨hb, k1, k2, hn⟩ _
    have q2 := k2.frozen 0
    have r2 : W4.cell? ⟨w.heap.size + 1, 0, none⟩ = some (.bool false) := k2.cell 0
    by_cases he : okN (x1, x2) = true
    · have ht : All8 okN (d.N.take (i + 1)) := ⟨all_take hx hn.out he⟩
      obtain ⟨e1, e2⟩ := okN_iff.1 he
      have e3 : ¬ (100 < (x1.size : Int)) := by simp only [] at e1; omega
      simp only [] at e2
      clear hx hn he e1
      gi_wp2
      exact ⟨Stay.refl _ _, hb, k1, k2, ht⟩
    · have hm := Lib.hid (Not8.mk (all_miss hx (by simpa using he)))
      by_cases e1 : 100 < (x1.size : Int)
      · clear hx hn he
        gi_wp2
        exact ⟨(Stay.refl _ _).grown (grownSetG _ _ _) (fun r e => by cases e; exact .inl (by simp only []; omega)), rfl, hb.setCell (p := ⟨w.heap.size + 1, 0, none⟩) (by simp) _, k2.set 0 _, hm.out⟩
      · have e2 : ¬ ((x2.size : Int) = 16) := fun e2 => he (okN_iff.2 ⟨by simp only []; omega, e2⟩)
        clear hx hn he
        gi_wp2
        exact ⟨(Stay.refl _ _).grown (grownSetG _ _ _) (fun r e => by cases e; exact .inl (by simp only []; omega)), rfl, hb.setCell (p := ⟨w.heap.size + 1, 0, none⟩) (by simp) _, k2.set 0 _, hm.out⟩
  case stop =>
    rintro D c1 i W hD ⟨rfl, hb, k2, HM⟩ hK
    gi_wp2
    refine ⟨by simp, .inl ⟨_, _, rfl, run_takeDeferred hK, ?_⟩⟩
    have hgr := grownBy_putObj' W D (.deferred none)
    have hrr : ∀ r, some D = some r → W2.heap.size ≤ r ∧ ∃ o : Obj, W.heap[r]? = some o ∧ o.isCells = false := fun r e => by cases e; exact ⟨hD, _, hK, rfl⟩
    exact ⟨_, results_c8 Tryz.results56 _ _ _ (w.heap.size + 1) (.bool false) 4 rfl (isOwn8 k2 hgr hrr) (aggB8 _), by rw [HM.out]; rfl, belowOwn8 hb hb.size (by omega) hgr hrr⟩
  case done =>
    rintro D W hD ⟨hb, k1, k2, hn⟩ hK
    have HNN : All8 okN d.N := by have HN := hn.out; rw [List.take_length] at HN; exact ⟨HN⟩
    clear hn i1 i2 iN
    gi_wp2_with (refine wpListIn_load_rowI rfl 29 _ rfl w.heap.size rfl k1 Tryz.underlying29 rfl infoIde ?_)
    refine ⟨trivial, (callsIn_wide.2 (cells_any _ _ _ _ _ _)).mono ?_⟩
    rintro e W' ⟨rfl, rfl⟩
    gi_wp2_with fail
    have m2 := k2.alloc (.cells (ideL d A c A' c') 29)
    have iN : Is (W.alloc (.cells (ideL d A c A' c') 29)) W.heap.size 29 (ideL d A c A' c') := Is.new _ _ _
    have hb2 := hb.alloc hb.size (.cells (ideL d A c A' c') 29)
    have hD0 : D < W.heap.size := (Array.getElem?_eq_some_iff.1 hK).1
    have hK2 : (W.alloc (.cells (ideL d A c A' c') 29)).heap[D]? = some (.deferred (some [])) := (Below.heap_alloc W _ D hD0).trans hK
    have hsz2 : W.heap.size < (W.alloc (.cells (ideL d A c A' c') 29)).heap.size := by simp
    have hs2 := k2.lt
    clear k1 k2 hb hK
    generalize W.alloc (.cells (ideL d A c A' c') 29) = W3 at *
    generalize W.heap.size = BK at *
    clear W
    refine wpIn_rangeL rfl (by omega) (gf := 70) (lb := #[.pointer (some ⟨BK, 0, none⟩)]) rfl trivial (enters_of Tryz.func70 (by kernel_rfl) rfl) (S := fun k => k < w.heap.size ∨ k = BK)
      (cells_seq 4 (by omega) BK _ _ _ _ _ A' c' d.K W3 iN rfl (HI.out.k.keep hb2) (by have := HI.out.fitK; omega) _ (.inr rfl) (fun p e hn => .inl (HI.out.k.blkK p e hn)))
      (Stay.refl _ _) (fun k hk => by have := hb2.size; omega) (fun _ => rfl)
      (fun i W => Below w.heap.size w W ∧ Is W (w.heap.size + 1) 4 #[.bool false] ∧ W.heap[D]? = some (.deferred (some [])) ∧ All8 okK (d.K.take i))
      (fun c _ W => c = .ret ∧ Below w.heap.size w W ∧ Is W (w.heap.size + 1) 4 #[.bool false] ∧ W.heap[D]? = some (.deferred (some [])) ∧ Not8 okK d.K)
      (fun s X Y row hs hg hr => ⟨belowOwn8 hs.1 hs.1.size (by omega) hg hr, isOwn8 hs.2.1 hg hr, dfr8 hs.2.2.1 (by omega) hg hr, hs.2.2.2⟩)
      (fun c s X Y row hs hg hr => ⟨hs.1, belowOwn8 hs.2.1 hs.2.1.size (by omega) hg hr, isOwn8 hs.2.2.1 hg hr, dfr8 hs.2.2.2.1 (by omega) hg hr, hs.2.2.2.2⟩)
      ⟨hb2, m2, hK2, ⟨rfl⟩⟩ ?round2 ?done2 ?stop2
    case round2 =>
      rintro l i x W hl hlt hx ⟨hb, k2, hK, hn⟩
      obtain ⟨⟨x1, x2, x3⟩, hy, rfl⟩ := (show ∃ y, d.K[i]? = some y ∧ askK y = x by rw [List.getElem?_map] at hx; cases hy : d.K[i]? with | none => rw [hy] at hx; cases hx | some y => rw [hy] at hx; cases hx; exact ⟨y, rfl, rfl⟩)
      simp only [askK]
      clear hx
      gi_wp2
      refine ⟨(Stay.refl _ _).grown (World.grownBy_alloc _ _ none) (fun r e => by cases e), ⟨hb.alloc hb.size _, k2.alloc _, (Below.heap_alloc W _ D (Array.getElem?_eq_some_iff.1 hK).1).trans hK, hn⟩, fun W' => Is W' W.heap.size 104 #[.string x1, .string x2], fun _ X Y row hs hg hr => isOwn8 hs hg hr, Is.new _ _ _, ?_⟩
      clear hb k2 hn hK
      rintro W4 hl4 ⟨hb, k2, hK, hn⟩ hax
      have q2 := k2.frozen 0
      have r2 : W4.cell? ⟨w.heap.size + 1, 0, none⟩ = some (.bool false) := k2.cell 0
      have s0 : W4.cell? ⟨W.heap.size, 0, none⟩ = some (.string x1) := hax.cell 0
      have s1 : W4.cell? ⟨W.heap.size, 1, none⟩ = some (.string x2) := hax.cell 1
      have hw : w.heap.size + 1 ≠ D := by omega
      by_cases he : okK (x1, x2, x3) = true
      · have ht : All8 okK (d.K.take (i + 1)) := ⟨all_take hy hn.out he⟩
        obtain ⟨e1, e2, e3⟩ := okK_iff.1 he
        simp only [] at e1 e2 e3
        clear hy hn he
        gi_wp2
        exact ⟨Stay.refl _ _, hb, k2, hK, ht⟩
      · have hm := Lib.hid (Not8.mk (all_miss hy (by simpa using he)))
        have zz := (Stay.refl (fun k => (k < w.heap.size ∨ k = BK) ∨ W3.heap.size ≤ k) W4).grown (grownSetG W4 ⟨w.heap.size + 1, 0, none⟩ (.bool false)) (fun r e => by cases e; exact .inl (by simp only []; omega))
        have zK : (W4.setCell ⟨w.heap.size + 1, 0, none⟩ (.bool false)).heap[D]? = some (.deferred (some [])) := (heap_setCell_other _ _ D _ (by simp only []; omega)).trans hK
        by_cases e1 : (x1.size : Int) = 16
        · by_cases e2 : (x2.size : Int) = 24
          · have e3 : ¬ ((x3.size : Int) = 40) := fun e3 => he (okK_iff.2 ⟨e1, e2, e3⟩)
            clear hy hn he
            gi_wp2
            exact ⟨zz, rfl, hb.setCell (p := ⟨w.heap.size + 1, 0, none⟩) (by simp) _, k2.set 0 _, zK, hm.out⟩
          · clear hy hn he
            gi_wp2
            exact ⟨zz, rfl, hb.setCell (p := ⟨w.heap.size + 1, 0, none⟩) (by simp) _, k2.set 0 _, zK, hm.out⟩
        · clear hy hn he
          gi_wp2
          exact ⟨zz, rfl, hb.setCell (p := ⟨w.heap.size + 1, 0, none⟩) (by simp) _, k2.set 0 _, zK, hm.out⟩
    case stop2 =>
      rintro D2 c i W hD2 ⟨rfl, hb, k2, hK, HM⟩ hKK
      gi_wp2
      have hgr := grownBy_putObj' W D2 (.deferred none)
      have hrr : ∀ r, some D2 = some r → W3.heap.size ≤ r ∧ ∃ o : Obj, W.heap[r]? = some o ∧ o.isCells = false := fun r e => by cases e; exact ⟨hD2, _, hKK, rfl⟩
      have hK3 := dfr8 hK (by omega) hgr hrr
      refine ⟨by simp, .inl ⟨_, _, rfl, run_takeDeferred hKK, by simp, .inl ⟨_, _, rfl, run_takeDeferred hK3, ?_⟩⟩⟩
      have hgr2 := grownBy_putObj' (W.putObj D2 (.deferred none)) D (.deferred none)
      have hrr2 : ∀ r, some D = some r → D ≤ r ∧ ∃ o : Obj, (W.putObj D2 (.deferred none)).heap[r]? = some o ∧ o.isCells = false := fun r e => by cases e; exact ⟨Nat.le_refl _, _, hK3, rfl⟩
      have zb := belowOwn8 hb hb.size (by omega) hgr hrr
      exact ⟨_, results_c8 Tryz.results56 _ _ _ (w.heap.size + 1) (.bool false) 4 rfl (isOwn8 (isOwn8 k2 hgr hrr) hgr2 hrr2) (aggB8 _), by rw [HM.out, Bool.and_false], belowOwn8 zb zb.size (by omega) hgr2 hrr2⟩
    case done2 =>
      rintro D2 W hD2 ⟨hb, k2, hK, hn⟩ hKK
      have HKK : All8 okK d.K := by have HN := hn.out; rw [List.length_map, List.take_length] at HN; exact ⟨HN⟩
      have q2 := k2.frozen 0
      have r2 : W.cell? ⟨w.heap.size + 1, 0, none⟩ = some (.bool false) := k2.cell 0
      have zK : (W.setCell ⟨w.heap.size + 1, 0, none⟩ (.bool true)).heap[D]? = some (.deferred (some [])) := (heap_setCell_other _ _ D _ (by simp only []; omega)).trans hK
      have zKK : (W.setCell ⟨w.heap.size + 1, 0, none⟩ (.bool true)).heap[D2]? = some (.deferred (some [])) := (heap_setCell_other _ _ D2 _ (by simp only []; omega)).trans hKK
      have zb := hb.setCell (p := ⟨w.heap.size + 1, 0, none⟩) (by simp) (.bool true)
      have z2 : Is (W.setCell ⟨w.heap.size + 1, 0, none⟩ (.bool true)) (w.heap.size + 1) 4 #[.bool true] := k2.set 0 _
      clear hn hK hb
      gi_wp2
      clear k2 q2 r2 hKK
      generalize W.setCell ⟨w.heap.size + 1, 0, none⟩ (.bool true) = WZ at *
      have hgr := grownBy_putObj' WZ D2 (.deferred none)
      have hrr : ∀ r, some D2 = some r → W3.heap.size ≤ r ∧ ∃ o : Obj, WZ.heap[r]? = some o ∧ o.isCells = false := fun r e => by cases e; exact ⟨hD2, _, zKK, rfl⟩
      have hK3 := dfr8 zK (by omega) hgr hrr
      refine ⟨by simp, .inl ⟨_, _, rfl, run_takeDeferred zKK, by simp, .inl ⟨_, _, rfl, run_takeDeferred hK3, ?_⟩⟩⟩
      have hgr2 := grownBy_putObj' (WZ.putObj D2 (.deferred none)) D (.deferred none)
      have hrr2 : ∀ r, some D = some r → D ≤ r ∧ ∃ o : Obj, (WZ.putObj D2 (.deferred none)).heap[r]? = some o ∧ o.isCells = false := fun r e => by cases e; exact ⟨Nat.le_refl _, _, hK3, rfl⟩
      have zb2 := belowOwn8 zb zb.size (by omega) hgr hrr
      exact ⟨_, results_c8 Tryz.results56 _ _ _ (w.heap.size + 1) (.bool true) 4 rfl (isOwn8 (isOwn8 z2 hgr hrr) hgr2 hrr2) (aggB8 _), by rw [HNN.out, HKK.out]; rfl, belowOwn8 zb2 zb2.size (by omega) hgr2 hrr2⟩
end Go.Proofs.YtfgdcpolfekgjaaGreat
namespace Go.Proofs.YtfgdcpolfekgjaaGreat
open Go.RowKit Go.Shelf

theorem exec_load {P : Program} {w : World} {o : Oper} {ev : Operand → Value} {ty : TypeId} {x : Operand} {p : Addr} {v : Value} (ho : o.op = .load ty x) (hx : ev x = .pointer (some p)) (hv : (loadVar ty p).run P w = .ok v w) : (execOp ev o).run P w = .ok (.value v) w := by
  simp only [execOp, ho, hx, Instr.loadAt, Instr.sureAddr, Sem.run_bind, Sem.run_pure, Result.andThen_ok, hv]
theorem twice_out {N : List Nam8} : twice8 ((N.map outN).map Prod.fst) = pairs8 sameOut N := by
  induction N with
  | nil => rfl
  | cons x r ih =>
    show (((r.map outN).map Prod.fst).any (fun y => decide (x.2 = y)) || twice8 ((r.map outN).map Prod.fst)) = (r.any (sameOut x) || pairs8 sameOut r)
    rw [ih]
    congr 1
    simp [outN, Function.comp_def]
    rfl
theorem twice_in {N : List Nam8} : twice8 (N.map Prod.fst) = pairs8 sameIn N := by
  induction N with
  | nil => rfl
  | cons x r ih =>
    show ((r.map Prod.fst).any (fun y => decide (x.1 = y)) || twice8 (r.map Prod.fst)) = (r.any (sameIn x) || pairs8 sameIn r)
    rw [ih]
    congr 1
    simp [Function.comp_def]
    rfl
theorem twice_ask {K : List Cel8} : twice8 ((K.map askK).map Prod.fst) = pairs8 sameAsk K := by
  induction K with
  | nil => rfl
  | cons x r ih =>
    show (((r.map askK).map Prod.fst).any (fun y => decide ((x.1, x.2.1) = y)) || twice8 ((r.map askK).map Prod.fst)) = (r.any (sameAsk x) || pairs8 sameAsk r)
    rw [ih]
    congr 1
    simp [askK, Function.comp_def]
    rfl
theorem twice_opn {K : List Cel8} : twice8 ((K.map opnK).map Prod.fst) = pairs8 sameCel K := by
  induction K with
  | nil => rfl
  | cons x r ih =>
    show (((r.map opnK).map Prod.fst).any (fun y => decide ((x.1, x.2.2) = y)) || twice8 ((r.map opnK).map Prod.fst)) = (r.any (sameCel x) || pairs8 sameCel r)
    rw [ih]
    congr 1
    simp [opnK, Function.comp_def]
    rfl
theorem sized8_N {d : Ide} (h : sized8 d = true) : d.N.all okN = true := by
  simp only [sized8, Bool.and_eq_true] at h
  exact h.2.1
theorem sized8_K {d : Ide} (h : sized8 d = true) : d.K.all okK = true := by
  simp only [sized8, Bool.and_eq_true] at h
  exact h.2.2
theorem okN_max {N : List Nam8} (h : N.all okN = true) {x : Nam8} (hx : x ∈ N) : x.1.size ≤ maxLen ∧ x.2.size ≤ maxLen := by
  have h1 := List.all_eq_true.1 h x hx
  obtain ⟨e1, e2⟩ := okN_iff.1 h1
  unfold maxLen
  omega
theorem okK_max {K : List Cel8} (h : K.all okK = true) {x : Cel8} (hx : x ∈ K) : x.1.size ≤ maxLen ∧ x.2.1.size ≤ maxLen ∧ x.2.2.size ≤ maxLen := by
  have h1 := List.all_eq_true.1 h x hx
  obtain ⟨e1, e2, e3⟩ := okK_iff.1 h1
  unfold maxLen
  omega
section
variable {w W : World} {d : Ide} {A : Option Addr} {c : Nat} {A' : Option Addr} {c' : Nat} (h : InI w d A c A' c') (Bd : Nat) (hb : Below w.heap.size w W) (hBd : Is W Bd 29 (ideL d A c A' c'))
include h hb hBd
theorem InI.twO (hn : d.N.all okN = true) (m : Int) {v : Bool} (hv : pairs8 sameOut d.N = v) : Calls Tryz.prog 57 #[.func (.func 78) #[] #[.pointer (some ⟨Bd, 0, none⟩)], .int .i64 m] W fun e w' => e = .returned (.bool v) ∧ Below W.heap.size W w' := by
  have := twiceS_any 78 #[.pointer (some ⟨Bd, 0, none⟩)] (d.N.map outN) m W (enters_of Tryz.func78 (by kernel_rfl) rfl) (h.seqO 4 Bd hb hBd (by omega))
    (fun x hx => by obtain ⟨y, hy, rfl⟩ := List.mem_map.1 hx; exact (okN_max hn hy).2) (by have := h.fit; rw [List.length_map]; unfold maxLen; omega)
  rwa [twice_out, hv] at this
theorem InI.twN (hn : d.N.all okN = true) (m : Int) {v : Bool} (hv : pairs8 sameIn d.N = v) : Calls Tryz.prog 57 #[.func (.func 69) #[] #[.pointer (some ⟨Bd, 0, none⟩)], .int .i64 m] W fun e w' => e = .returned (.bool v) ∧ Below W.heap.size W w' := by
  have := twiceS_any 69 #[.pointer (some ⟨Bd, 0, none⟩)] d.N m W (enters_of Tryz.func69 (by kernel_rfl) rfl) (h.seqN 4 Bd hb hBd (by omega))
    (fun x hx => (okN_max hn hx).1) (by have := h.fit; unfold maxLen; omega)
  rwa [twice_in, hv] at this
theorem InI.twK (hn : d.K.all okK = true) (m : Int) {v : Bool} (hv : pairs8 sameAsk d.K = v) : Calls Tryz.prog 59 #[.func (.func 70) #[] #[.pointer (some ⟨Bd, 0, none⟩)], .int .i64 m] W fun e w' => e = .returned (.bool v) ∧ Below W.heap.size W w' := by
  have := twiceK_any 70 #[.pointer (some ⟨Bd, 0, none⟩)] (d.K.map askK) m W (enters_of Tryz.func70 (by kernel_rfl) rfl) (h.seqK 4 Bd hb hBd (by omega))
    (fun x hx => by obtain ⟨y, hy, rfl⟩ := List.mem_map.1 hx; have := okK_max hn hy; exact ⟨this.1, this.2.1⟩) (by have := h.fitK; rw [List.length_map]; unfold maxLen; omega)
  rwa [twice_ask, hv] at this
theorem InI.twT (hn : d.K.all okK = true) (m : Int) {v : Bool} (hv : pairs8 sameCel d.K = v) : Calls Tryz.prog 72 #[.func (.func 79) #[] #[.pointer (some ⟨Bd, 0, none⟩)], .int .i64 m] W fun e w' => e = .returned (.bool v) ∧ Below W.heap.size W w' := by
  have := twiceO_any 79 #[.pointer (some ⟨Bd, 0, none⟩)] (d.K.map opnK) m W (enters_of Tryz.func79 (by kernel_rfl) rfl) (h.seqT 4 Bd hb hBd (by omega))
    (fun x hx => by obtain ⟨y, hy, rfl⟩ := List.mem_map.1 hx; have := okK_max hn hy; exact ⟨this.1, this.2.2⟩) (by have := h.fitK; rw [List.length_map]; unfold maxLen; omega)
  rwa [twice_opn, hv] at this
end

set_option maxRecDepth 100000 in
set_option maxHeartbeats 1000000 in
theorem outs_any (c0 c1 c2 c3 c4 : Value) (w : World) :
    Calls Tryz.prog 71 #[.agg #[c0, c1, c2, c3, c4]] w fun e w' => e = .returned (.func (.func 78) #[] #[.pointer (some ⟨w.heap.size, 0, none⟩)]) ∧ w' = w.alloc (.cells #[c0, c1, c2, c3, c4] 29) := by
  go_enter Tryz.func71, Tryz.ntmps71
  go_wp2
  go_ret
  exact ⟨rfl, rfl⟩

set_option maxRecDepth 100000 in
set_option maxHeartbeats 1000000 in
theorem texts_any (c0 c1 c2 c3 c4 : Value) (w : World) :
    Calls Tryz.prog 73 #[.agg #[c0, c1, c2, c3, c4]] w fun e w' => e = .returned (.func (.func 79) #[] #[.pointer (some ⟨w.heap.size, 0, none⟩)]) ∧ w' = w.alloc (.cells #[c0, c1, c2, c3, c4] 29) := by
  go_enter Tryz.func73, Tryz.ntmps73
  go_wp2
  go_ret
  exact ⟨rfl, rfl⟩

set_option maxRecDepth 100000 in
set_option maxHeartbeats 4000000 in
theorem clashes_any (d : Ide) (A : Option Addr) (c : Nat) (A' : Option Addr) (c' : Nat) (w : World) (h : InI w d A c A' c') (hN : d.N.all okN = true) (hK : d.K.all okK = true) :
    Calls Tryz.prog 61 #[ideV d A c A' c'] w fun e w' => e = .returned (.bool (clash8 d.N d.K)) ∧ Below w.heap.size w w' := by
  have HI := Lib.hid h
  have HN := Lib.hid hN
  have HK := Lib.hid hK
  clear h hN hK
  obtain ⟨W0, hW0⟩ : ∃ W, W = w.alloc (.cells (ideL d A c A' c') 29) := ⟨_, rfl⟩
  have i0 : Is W0 w.heap.size 29 (ideL d A c A' c') := by rw [hW0]; exact Is.new _ _ _
  have hbW : Below w.heap.size w W0 := by rw [hW0]; exact (Below.refl _ _).alloc (Nat.le_refl _) _
  cases ho : pairs8 sameOut d.N with
  | true =>
    have hz : clash8 d.N d.K = true := by rw [clash8, ho]; rfl
    rw [hz]
    clear hz
    go_enter Tryz.func61, Tryz.ntmps61
    go_wp2_with fail
    rw [← hW0]
    clear hW0
    refine wp_region_held_drew (S := fun W => Below W0.heap.size W0 W) (by kernel_rfl) (belowN (Below.refl _ _) 1) (fun hS => ?_)
    change wpAnyH _ _ (opsOf Tryz.f61 1) _ _ 15 (Array.replicate 15 false) _ _
    have hB0 : Below W0.heap.size W0 W0.drew := hS
    have hb0 : Below w.heap.size w W0.drew := hbW.trans (hB0.mono hbW.size)
    clear hS
    generalize W0.drew = V0 at *
    refine wpAnyH_pure (i := 0) (v := .agg #[.string d.B, .int .i64 d.a, .slice A d.N.length c, .slice A' d.K.length c', .bool d.c]) (at_nth rfl) (by kernel_rfl) (by kernel_rfl) (by kernel_rfl) (fun _ _ _ h => h) (by kernel_rfl) (fun w hSw => by exact exec_load rfl rfl (run_loadVar_row _ _ 29 29 _ (0, 0) _ (i0.below hSw i0.lt) Tryz.underlying29 rfl infoIde)) hB0 ?_
    simp only [Act.put, List.setIfInBounds_toArray, List.set_cons_succ, List.set_cons_zero]
    refine wpAnyH_pure (i := 2) (v := .pointer (some ⟨w.heap.size, 2, none⟩)) (at_nth rfl) (by kernel_rfl) (by kernel_rfl) (by kernel_rfl) (fun _ _ _ h => h) (by kernel_rfl) (fun w hSw => by go_simp) hB0 ?_
    simp only [Act.put, List.setIfInBounds_toArray, List.set_cons_succ, List.set_cons_zero]
    refine wpAnyH_pure (i := 3) (v := .slice A d.N.length c) (at_nth rfl) (by kernel_rfl) (by kernel_rfl) (by kernel_rfl) (fun _ _ _ h => h) (by kernel_rfl) (fun w hSw => by (have hc := (i0.below hSw i0.lt).cell 2; go_simp)) hB0 ?_
    simp only [Act.put, List.setIfInBounds_toArray, List.set_cons_succ, List.set_cons_zero]
    refine wpAnyH_pure (i := 4) (v := .int .i64 (d.N.length : Int)) (at_nth rfl) (by kernel_rfl) (by kernel_rfl) (by kernel_rfl) (fun _ _ _ h => h) (by kernel_rfl) (fun w hSw => by go_simp) hB0 ?_
    simp only [Act.put, List.setIfInBounds_toArray, List.set_cons_succ, List.set_cons_zero]
    refine wpAnyH_call (i := 1) (by kernel_rfl) (at_nth rfl) (by kernel_rfl) (fun w => by kernel_rfl) ((outs_any (.string d.B) (.int .i64 d.a) (.slice A d.N.length c) (.slice A' d.K.length c') (.bool d.c) V0).mono ?_)
    rintro e W ⟨rfl, rfl⟩
    obtain ⟨V1, hW1⟩ : ∃ W, W = V0.alloc (.cells (ideL d A c A' c') 29) := ⟨_, rfl⟩
    have iC1 : Is V1 V0.heap.size 29 (ideL d A c A' c') := by rw [hW1]; exact Is.new _ _ _
    have hB1 : Below W0.heap.size W0 V1 := by rw [hW1]; exact hB0.alloc hB0.size _
    have hb1 : Below w.heap.size w V1 := hbW.trans (hB1.mono hbW.size)
    rw [← hW1]
    clear hW1
    refine ⟨_, rfl, hB1, ?_⟩
    try simp only [Act.put, List.setIfInBounds_toArray, List.set_cons_succ, List.set_cons_zero]
    refine wpAnyH_call (i := 5) (by kernel_rfl) (at_nth rfl) (by kernel_rfl) (fun w => by kernel_rfl) (((HI.out.twO (W := V1) (V0.heap.size) hb1 iC1 HN.out (d.N.length : Int) ho)).mono ?_)
    rintro e V2 ⟨rfl, hx2⟩
    have hB2 : Below W0.heap.size W0 V2 := hB1.trans (hx2.mono hB1.size)
    have hb2 : Below w.heap.size w V2 := hbW.trans (hB2.mono hbW.size)
    refine ⟨_, rfl, hB2, ?_⟩
    try simp only [Act.put, List.setIfInBounds_toArray, List.set_cons_succ, List.set_cons_zero]
    refine wpAnyH_pure (i := 6) (v := .bool true) (at_nth rfl) (by kernel_rfl) (by kernel_rfl) (by kernel_rfl) (fun _ _ _ h => h) (by kernel_rfl) (fun w hSw => by kernel_rfl) hB2 ?_
    simp only [Act.put, List.setIfInBounds_toArray, List.set_cons_succ, List.set_cons_zero]
    refine wpAnyH_take (i := 7) (v := undef) (at_nth rfl) (by kernel_rfl) (by kernel_rfl) (by kernel_rfl) (fun _ _ _ h => h) (Or.inr ⟨by kernel_rfl, rfl⟩) hB2 ?_
    simp only [Act.put, List.setIfInBounds_toArray, List.set_cons_succ, List.set_cons_zero]
    refine wpAnyH_take (i := 9) (v := undef) (at_nth rfl) (by kernel_rfl) (by kernel_rfl) (by kernel_rfl) (fun _ _ _ h => h) (Or.inr ⟨by kernel_rfl, rfl⟩) hB2 ?_
    simp only [Act.put, List.setIfInBounds_toArray, List.set_cons_succ, List.set_cons_zero]
    refine wpAnyH_take (i := 10) (v := undef) (at_nth rfl) (by kernel_rfl) (by kernel_rfl) (by kernel_rfl) (fun _ _ _ h => h) (Or.inr ⟨by kernel_rfl, rfl⟩) hB2 ?_
    simp only [Act.put, List.setIfInBounds_toArray, List.set_cons_succ, List.set_cons_zero]
    refine wpAnyH_take (i := 11) (v := undef) (at_nth rfl) (by kernel_rfl) (by kernel_rfl) (by kernel_rfl) (fun _ _ _ h => h) (Or.inr ⟨by kernel_rfl, rfl⟩) hB2 ?_
    simp only [Act.put, List.setIfInBounds_toArray, List.set_cons_succ, List.set_cons_zero]
    refine wpAnyH_take (i := 8) (v := undef) (at_nth rfl) (by kernel_rfl) (by kernel_rfl) (by kernel_rfl) (fun _ _ _ h => h) (Or.inr ⟨by kernel_rfl, rfl⟩) hB2 ?_
    simp only [Act.put, List.setIfInBounds_toArray, List.set_cons_succ, List.set_cons_zero]
    refine wpAnyH_take (i := 12) (v := undef) (at_nth rfl) (by kernel_rfl) (by kernel_rfl) (by kernel_rfl) (fun _ _ _ h => h) (Or.inr ⟨by kernel_rfl, rfl⟩) hB2 ?_
    simp only [Act.put, List.setIfInBounds_toArray, List.set_cons_succ, List.set_cons_zero]
    refine wpAnyH_pure (i := 13) (v := .bool true) (at_nth rfl) (by kernel_rfl) (by kernel_rfl) (by kernel_rfl) (fun _ _ _ h => h) (by kernel_rfl) (fun w hSw => by kernel_rfl) hB2 ?_
    simp only [Act.put, List.setIfInBounds_toArray, List.set_cons_succ, List.set_cons_zero]
    refine wpAnyH_pure (i := 14) (v := .bool true) (at_nth rfl) (by kernel_rfl) (by kernel_rfl) (by kernel_rfl) (fun _ _ _ h => h) (by kernel_rfl) (fun w hSw => by kernel_rfl) hB2 ?_
    simp only [Act.put, List.setIfInBounds_toArray, List.set_cons_succ, List.set_cons_zero]
    refine wpAnyH_done (by kernel_rfl) ?_ _
    go_wp2
    go_ret
    exact ⟨rfl, hb2⟩
  | false =>
    have hz : clash8 d.N d.K = pairs8 sameCel d.K := by rw [clash8, ho]; rfl
    rw [hz]
    clear hz
    go_enter Tryz.func61, Tryz.ntmps61
    go_wp2_with fail
    rw [← hW0]
    clear hW0
    refine wp_region_held_drew (S := fun W => Below W0.heap.size W0 W) (by kernel_rfl) (belowN (Below.refl _ _) 1) (fun hS => ?_)
    change wpAnyH _ _ (opsOf Tryz.f61 1) _ _ 15 (Array.replicate 15 false) _ _
    have hB0 : Below W0.heap.size W0 W0.drew := hS
    have hb0 : Below w.heap.size w W0.drew := hbW.trans (hB0.mono hbW.size)
    clear hS
    generalize W0.drew = V0 at *
    refine wpAnyH_pure (i := 0) (v := .agg #[.string d.B, .int .i64 d.a, .slice A d.N.length c, .slice A' d.K.length c', .bool d.c]) (at_nth rfl) (by kernel_rfl) (by kernel_rfl) (by kernel_rfl) (fun _ _ _ h => h) (by kernel_rfl) (fun w hSw => by exact exec_load rfl rfl (run_loadVar_row _ _ 29 29 _ (0, 0) _ (i0.below hSw i0.lt) Tryz.underlying29 rfl infoIde)) hB0 ?_
    simp only [Act.put, List.setIfInBounds_toArray, List.set_cons_succ, List.set_cons_zero]
    refine wpAnyH_pure (i := 2) (v := .pointer (some ⟨w.heap.size, 2, none⟩)) (at_nth rfl) (by kernel_rfl) (by kernel_rfl) (by kernel_rfl) (fun _ _ _ h => h) (by kernel_rfl) (fun w hSw => by go_simp) hB0 ?_
    simp only [Act.put, List.setIfInBounds_toArray, List.set_cons_succ, List.set_cons_zero]
    refine wpAnyH_pure (i := 3) (v := .slice A d.N.length c) (at_nth rfl) (by kernel_rfl) (by kernel_rfl) (by kernel_rfl) (fun _ _ _ h => h) (by kernel_rfl) (fun w hSw => by (have hc := (i0.below hSw i0.lt).cell 2; go_simp)) hB0 ?_
    simp only [Act.put, List.setIfInBounds_toArray, List.set_cons_succ, List.set_cons_zero]
    refine wpAnyH_pure (i := 4) (v := .int .i64 (d.N.length : Int)) (at_nth rfl) (by kernel_rfl) (by kernel_rfl) (by kernel_rfl) (fun _ _ _ h => h) (by kernel_rfl) (fun w hSw => by go_simp) hB0 ?_
    simp only [Act.put, List.setIfInBounds_toArray, List.set_cons_succ, List.set_cons_zero]
    refine wpAnyH_call (i := 1) (by kernel_rfl) (at_nth rfl) (by kernel_rfl) (fun w => by kernel_rfl) ((outs_any (.string d.B) (.int .i64 d.a) (.slice A d.N.length c) (.slice A' d.K.length c') (.bool d.c) V0).mono ?_)
    rintro e W ⟨rfl, rfl⟩
    obtain ⟨V1, hW1⟩ : ∃ W, W = V0.alloc (.cells (ideL d A c A' c') 29) := ⟨_, rfl⟩
    have iC1 : Is V1 V0.heap.size 29 (ideL d A c A' c') := by rw [hW1]; exact Is.new _ _ _
    have hB1 : Below W0.heap.size W0 V1 := by rw [hW1]; exact hB0.alloc hB0.size _
    have hb1 : Below w.heap.size w V1 := hbW.trans (hB1.mono hbW.size)
    rw [← hW1]
    clear hW1
    refine ⟨_, rfl, hB1, ?_⟩
    try simp only [Act.put, List.setIfInBounds_toArray, List.set_cons_succ, List.set_cons_zero]
    refine wpAnyH_call (i := 5) (by kernel_rfl) (at_nth rfl) (by kernel_rfl) (fun w => by kernel_rfl) (((HI.out.twO (W := V1) (V0.heap.size) hb1 iC1 HN.out (d.N.length : Int) ho)).mono ?_)
    rintro e V2 ⟨rfl, hx2⟩
    have hB2 : Below W0.heap.size W0 V2 := hB1.trans (hx2.mono hB1.size)
    have hb2 : Below w.heap.size w V2 := hbW.trans (hB2.mono hbW.size)
    refine ⟨_, rfl, hB2, ?_⟩
    try simp only [Act.put, List.setIfInBounds_toArray, List.set_cons_succ, List.set_cons_zero]
    refine wpAnyH_pure (i := 6) (v := .bool false) (at_nth rfl) (by kernel_rfl) (by kernel_rfl) (by kernel_rfl) (fun _ _ _ h => h) (by kernel_rfl) (fun w hSw => by kernel_rfl) hB2 ?_
    simp only [Act.put, List.setIfInBounds_toArray, List.set_cons_succ, List.set_cons_zero]
    refine wpAnyH_pure (i := 7) (v := .agg #[.string d.B, .int .i64 d.a, .slice A d.N.length c, .slice A' d.K.length c', .bool d.c]) (at_nth rfl) (by kernel_rfl) (by kernel_rfl) (by kernel_rfl) (fun _ _ _ h => h) (by kernel_rfl) (fun w hSw => by exact exec_load rfl rfl (run_loadVar_row _ _ 29 29 _ (0, 0) _ (i0.below hSw i0.lt) Tryz.underlying29 rfl infoIde)) hB2 ?_
    simp only [Act.put, List.setIfInBounds_toArray, List.set_cons_succ, List.set_cons_zero]
    refine wpAnyH_pure (i := 9) (v := .pointer (some ⟨w.heap.size, 3, none⟩)) (at_nth rfl) (by kernel_rfl) (by kernel_rfl) (by kernel_rfl) (fun _ _ _ h => h) (by kernel_rfl) (fun w hSw => by go_simp) hB2 ?_
    simp only [Act.put, List.setIfInBounds_toArray, List.set_cons_succ, List.set_cons_zero]
    refine wpAnyH_pure (i := 10) (v := .slice A' d.K.length c') (at_nth rfl) (by kernel_rfl) (by kernel_rfl) (by kernel_rfl) (fun _ _ _ h => h) (by kernel_rfl) (fun w hSw => by (have hc := (i0.below hSw i0.lt).cell 3; go_simp)) hB2 ?_
    simp only [Act.put, List.setIfInBounds_toArray, List.set_cons_succ, List.set_cons_zero]
    refine wpAnyH_pure (i := 11) (v := .int .i64 (d.K.length : Int)) (at_nth rfl) (by kernel_rfl) (by kernel_rfl) (by kernel_rfl) (fun _ _ _ h => h) (by kernel_rfl) (fun w hSw => by go_simp) hB2 ?_
    simp only [Act.put, List.setIfInBounds_toArray, List.set_cons_succ, List.set_cons_zero]
    refine wpAnyH_call (i := 8) (by kernel_rfl) (at_nth rfl) (by kernel_rfl) (fun w => by kernel_rfl) ((texts_any (.string d.B) (.int .i64 d.a) (.slice A d.N.length c) (.slice A' d.K.length c') (.bool d.c) V2).mono ?_)
    rintro e W ⟨rfl, rfl⟩
    obtain ⟨V3, hW3⟩ : ∃ W, W = V2.alloc (.cells (ideL d A c A' c') 29) := ⟨_, rfl⟩
    have iC3 : Is V3 V2.heap.size 29 (ideL d A c A' c') := by rw [hW3]; exact Is.new _ _ _
    have hB3 : Below W0.heap.size W0 V3 := by rw [hW3]; exact hB2.alloc hB2.size _
    have hb3 : Below w.heap.size w V3 := hbW.trans (hB3.mono hbW.size)
    rw [← hW3]
    clear hW3
    refine ⟨_, rfl, hB3, ?_⟩
    try simp only [Act.put, List.setIfInBounds_toArray, List.set_cons_succ, List.set_cons_zero]
    refine wpAnyH_call (i := 12) (by kernel_rfl) (at_nth rfl) (by kernel_rfl) (fun w => by kernel_rfl) (((HI.out.twT (W := V3) (V2.heap.size) hb3 iC3 HK.out (d.K.length : Int) rfl)).mono ?_)
    rintro e V4 ⟨rfl, hx4⟩
    have hB4 : Below W0.heap.size W0 V4 := hB3.trans (hx4.mono hB3.size)
    have hb4 : Below w.heap.size w V4 := hbW.trans (hB4.mono hbW.size)
    refine ⟨_, rfl, hB4, ?_⟩
    try simp only [Act.put, List.setIfInBounds_toArray, List.set_cons_succ, List.set_cons_zero]
    refine wpAnyH_pure (i := 13) (v := .bool (pairs8 sameCel d.K)) (at_nth rfl) (by kernel_rfl) (by kernel_rfl) (by kernel_rfl) (fun _ _ _ h => h) (by kernel_rfl) (fun w hSw => by kernel_rfl) hB4 ?_
    simp only [Act.put, List.setIfInBounds_toArray, List.set_cons_succ, List.set_cons_zero]
    refine wpAnyH_pure (i := 14) (v := .bool (pairs8 sameCel d.K)) (at_nth rfl) (by kernel_rfl) (by kernel_rfl) (by kernel_rfl) (fun _ _ _ h => h) (by kernel_rfl) (fun w hSw => by kernel_rfl) hB4 ?_
    simp only [Act.put, List.setIfInBounds_toArray, List.set_cons_succ, List.set_cons_zero]
    refine wpAnyH_done (by kernel_rfl) ?_ _
    go_wp2
    go_ret
    exact ⟨rfl, hb4⟩
end Go.Proofs.YtfgdcpolfekgjaaGreat
namespace Go.Proofs.YtfgdcpolfekgjaaGreat
open Go.RowKit Go.Shelf

theorem sized_any (d : Ide) (A : Option Addr) (c : Nat) (A' : Option Addr) (c' : Nat) (w : World) (h : InI w d A c A' c') :
    Calls Tryz.prog 56 #[ideV d A c A' c'] w fun e w' => e = .returned (.bool (sized8 d)) ∧ Below w.heap.size w w' := by
  by_cases hs : d.N.length ≤ 2000 ∧ d.K.length ≤ 2000
  · exact sized_few d A c A' c' w h hs
  · exact sized_many d A c A' c' w hs

set_option maxRecDepth 100000 in
set_option maxHeartbeats 4000000 in
theorem right_a (d : Ide) (A : Option Addr) (c : Nat) (A' : Option Addr) (c' : Nat) (w : World) (h : InI w d A c A' c') (hr : rightV d.B d.a = false) :
    Calls Tryz.prog 42 #[ideV d A c A' c'] w fun e w' => e = .returned (.bool false) ∧ Below w.heap.size w w' := by
  have HI := Lib.hid h
  have HT := Lib.hid (fun W => (tright_any d.B d.a W))
  have HZ := Lib.hid (fun (W : World) (hw : InI W d A c A' c') => sized_any d A c A' c' W hw)
  rw [hr] at HT
  clear hr
  clear h
  obtain ⟨W0, hW0⟩ : ∃ W, W = w.alloc (.cells (ideL d A c A' c') 29) := ⟨_, rfl⟩
  have i0 : Is W0 w.heap.size 29 (ideL d A c A' c') := by rw [hW0]; exact Is.new _ _ _
  have hbW : Below w.heap.size w W0 := by rw [hW0]; exact (Below.refl _ _).alloc (Nat.le_refl _) _
  have HE := Lib.hid hW0
  clear hW0
  go_enter Tryz.func42, Tryz.ntmps42
  go_wp2_with fail
  rw [← HE.out]
  refine wp_region_held_drew (S := fun W => Below W0.heap.size W0 W) (by kernel_rfl) (belowN (Below.refl _ _) 1) (fun hS => ?_)
  change wpAnyH _ _ (opsOf Tryz.f42 1) _ _ 33 (Array.replicate 33 false) _ _
  have hB0 : Below W0.heap.size W0 W0.drew := hS
  have hb0 : Below w.heap.size w W0.drew := hbW.trans (hB0.mono hbW.size)
  clear hS
  generalize W0.drew = V0 at *
  refine wpAnyH_pure (i := 0) (v := .pointer (some ⟨w.heap.size, 0, none⟩)) (at_nth rfl) (by kernel_rfl) (by kernel_rfl) (by kernel_rfl) (fun _ _ _ h => h) (by kernel_rfl) (fun w hSw => by go_simp) hB0 ?_
  simp only [Act.put, List.setIfInBounds_toArray, List.set_cons_succ, List.set_cons_zero]
  refine wpAnyH_pure (i := 1) (v := .agg #[.string d.B, .int .i64 d.a]) (at_nth rfl) (by kernel_rfl) (by kernel_rfl) (by kernel_rfl) (fun _ _ _ h => h) (by kernel_rfl) (fun w hSw => by exact exec_load rfl rfl (run_loadVar_mid _ _ 0 23 [.string d.B, .int .i64 d.a] _ (World.rangeAt_of_block (i0.below hSw i0.lt) 0 2) Tryz.underlying23 rfl infoTape)) hB0 ?_
  simp only [Act.put, List.setIfInBounds_toArray, List.set_cons_succ, List.set_cons_zero]
  refine wpAnyH_call (i := 2) (by kernel_rfl) (at_nth rfl) (by kernel_rfl) (fun w => by kernel_rfl) (((HT.out V0)).mono ?_)
  rintro e V1 ⟨rfl, hx1⟩
  have hB1 : Below W0.heap.size W0 V1 := hB0.trans (hx1.mono hB0.size)
  have hb1 : Below w.heap.size w V1 := hbW.trans (hB1.mono hbW.size)
  refine ⟨_, rfl, hB1, ?_⟩
  try simp only [Act.put, List.setIfInBounds_toArray, List.set_cons_succ, List.set_cons_zero]
  refine wpAnyH_pure (i := 3) (v := .bool false) (at_nth rfl) (by kernel_rfl) (by kernel_rfl) (by kernel_rfl) (fun _ _ _ h => h) (by kernel_rfl) (fun w hSw => by kernel_rfl) hB1 ?_
  simp only [Act.put, List.setIfInBounds_toArray, List.set_cons_succ, List.set_cons_zero]
  refine wpAnyH_take (i := 4) (v := undef) (at_nth rfl) (by kernel_rfl) (by kernel_rfl) (by kernel_rfl) (fun _ _ _ h => h) (Or.inr ⟨by kernel_rfl, rfl⟩) hB1 ?_
  simp only [Act.put, List.setIfInBounds_toArray, List.set_cons_succ, List.set_cons_zero]
  refine wpAnyH_take (i := 5) (v := undef) (at_nth rfl) (by kernel_rfl) (by kernel_rfl) (by kernel_rfl) (fun _ _ _ h => h) (Or.inr ⟨by kernel_rfl, rfl⟩) hB1 ?_
  simp only [Act.put, List.setIfInBounds_toArray, List.set_cons_succ, List.set_cons_zero]
  refine wpAnyH_pure (i := 6) (v := .bool false) (at_nth rfl) (by kernel_rfl) (by kernel_rfl) (by kernel_rfl) (fun _ _ _ h => h) (by kernel_rfl) (fun w hSw => by kernel_rfl) hB1 ?_
  simp only [Act.put, List.setIfInBounds_toArray, List.set_cons_succ, List.set_cons_zero]
  refine wpAnyH_pure (i := 7) (v := .bool false) (at_nth rfl) (by kernel_rfl) (by kernel_rfl) (by kernel_rfl) (fun _ _ _ h => h) (by kernel_rfl) (fun w hSw => by kernel_rfl) hB1 ?_
  simp only [Act.put, List.setIfInBounds_toArray, List.set_cons_succ, List.set_cons_zero]
  refine wpAnyH_take (i := 8) (v := undef) (at_nth rfl) (by kernel_rfl) (by kernel_rfl) (by kernel_rfl) (fun _ _ _ h => h) (Or.inr ⟨by kernel_rfl, rfl⟩) hB1 ?_
  simp only [Act.put, List.setIfInBounds_toArray, List.set_cons_succ, List.set_cons_zero]
  refine wpAnyH_take (i := 10) (v := undef) (at_nth rfl) (by kernel_rfl) (by kernel_rfl) (by kernel_rfl) (fun _ _ _ h => h) (Or.inr ⟨by kernel_rfl, rfl⟩) hB1 ?_
  simp only [Act.put, List.setIfInBounds_toArray, List.set_cons_succ, List.set_cons_zero]
  refine wpAnyH_take (i := 11) (v := undef) (at_nth rfl) (by kernel_rfl) (by kernel_rfl) (by kernel_rfl) (fun _ _ _ h => h) (Or.inr ⟨by kernel_rfl, rfl⟩) hB1 ?_
  simp only [Act.put, List.setIfInBounds_toArray, List.set_cons_succ, List.set_cons_zero]
  refine wpAnyH_take (i := 12) (v := undef) (at_nth rfl) (by kernel_rfl) (by kernel_rfl) (by kernel_rfl) (fun _ _ _ h => h) (Or.inr ⟨by kernel_rfl, rfl⟩) hB1 ?_
  simp only [Act.put, List.setIfInBounds_toArray, List.set_cons_succ, List.set_cons_zero]
  refine wpAnyH_take (i := 9) (v := undef) (at_nth rfl) (by kernel_rfl) (by kernel_rfl) (by kernel_rfl) (fun _ _ _ h => h) (Or.inr ⟨by kernel_rfl, rfl⟩) hB1 ?_
  simp only [Act.put, List.setIfInBounds_toArray, List.set_cons_succ, List.set_cons_zero]
  refine wpAnyH_take (i := 13) (v := undef) (at_nth rfl) (by kernel_rfl) (by kernel_rfl) (by kernel_rfl) (fun _ _ _ h => h) (Or.inr ⟨by kernel_rfl, rfl⟩) hB1 ?_
  simp only [Act.put, List.setIfInBounds_toArray, List.set_cons_succ, List.set_cons_zero]
  refine wpAnyH_take (i := 14) (v := undef) (at_nth rfl) (by kernel_rfl) (by kernel_rfl) (by kernel_rfl) (fun _ _ _ h => h) (Or.inr ⟨by kernel_rfl, rfl⟩) hB1 ?_
  simp only [Act.put, List.setIfInBounds_toArray, List.set_cons_succ, List.set_cons_zero]
  refine wpAnyH_pure (i := 15) (v := .bool false) (at_nth rfl) (by kernel_rfl) (by kernel_rfl) (by kernel_rfl) (fun _ _ _ h => h) (by kernel_rfl) (fun w hSw => by kernel_rfl) hB1 ?_
  simp only [Act.put, List.setIfInBounds_toArray, List.set_cons_succ, List.set_cons_zero]
  refine wpAnyH_pure (i := 16) (v := .bool false) (at_nth rfl) (by kernel_rfl) (by kernel_rfl) (by kernel_rfl) (fun _ _ _ h => h) (by kernel_rfl) (fun w hSw => by kernel_rfl) hB1 ?_
  simp only [Act.put, List.setIfInBounds_toArray, List.set_cons_succ, List.set_cons_zero]
  refine wpAnyH_take (i := 17) (v := undef) (at_nth rfl) (by kernel_rfl) (by kernel_rfl) (by kernel_rfl) (fun _ _ _ h => h) (Or.inr ⟨by kernel_rfl, rfl⟩) hB1 ?_
  simp only [Act.put, List.setIfInBounds_toArray, List.set_cons_succ, List.set_cons_zero]
  refine wpAnyH_take (i := 19) (v := undef) (at_nth rfl) (by kernel_rfl) (by kernel_rfl) (by kernel_rfl) (fun _ _ _ h => h) (Or.inr ⟨by kernel_rfl, rfl⟩) hB1 ?_
  simp only [Act.put, List.setIfInBounds_toArray, List.set_cons_succ, List.set_cons_zero]
  refine wpAnyH_take (i := 20) (v := undef) (at_nth rfl) (by kernel_rfl) (by kernel_rfl) (by kernel_rfl) (fun _ _ _ h => h) (Or.inr ⟨by kernel_rfl, rfl⟩) hB1 ?_
  simp only [Act.put, List.setIfInBounds_toArray, List.set_cons_succ, List.set_cons_zero]
  refine wpAnyH_take (i := 21) (v := undef) (at_nth rfl) (by kernel_rfl) (by kernel_rfl) (by kernel_rfl) (fun _ _ _ h => h) (Or.inr ⟨by kernel_rfl, rfl⟩) hB1 ?_
  simp only [Act.put, List.setIfInBounds_toArray, List.set_cons_succ, List.set_cons_zero]
  refine wpAnyH_take (i := 18) (v := undef) (at_nth rfl) (by kernel_rfl) (by kernel_rfl) (by kernel_rfl) (fun _ _ _ h => h) (Or.inr ⟨by kernel_rfl, rfl⟩) hB1 ?_
  simp only [Act.put, List.setIfInBounds_toArray, List.set_cons_succ, List.set_cons_zero]
  refine wpAnyH_take (i := 22) (v := undef) (at_nth rfl) (by kernel_rfl) (by kernel_rfl) (by kernel_rfl) (fun _ _ _ h => h) (Or.inr ⟨by kernel_rfl, rfl⟩) hB1 ?_
  simp only [Act.put, List.setIfInBounds_toArray, List.set_cons_succ, List.set_cons_zero]
  refine wpAnyH_take (i := 23) (v := undef) (at_nth rfl) (by kernel_rfl) (by kernel_rfl) (by kernel_rfl) (fun _ _ _ h => h) (Or.inr ⟨by kernel_rfl, rfl⟩) hB1 ?_
  simp only [Act.put, List.setIfInBounds_toArray, List.set_cons_succ, List.set_cons_zero]
  refine wpAnyH_pure (i := 24) (v := .bool false) (at_nth rfl) (by kernel_rfl) (by kernel_rfl) (by kernel_rfl) (fun _ _ _ h => h) (by kernel_rfl) (fun w hSw => by kernel_rfl) hB1 ?_
  simp only [Act.put, List.setIfInBounds_toArray, List.set_cons_succ, List.set_cons_zero]
  refine wpAnyH_pure (i := 25) (v := .bool false) (at_nth rfl) (by kernel_rfl) (by kernel_rfl) (by kernel_rfl) (fun _ _ _ h => h) (by kernel_rfl) (fun w hSw => by kernel_rfl) hB1 ?_
  simp only [Act.put, List.setIfInBounds_toArray, List.set_cons_succ, List.set_cons_zero]
  refine wpAnyH_take (i := 26) (v := undef) (at_nth rfl) (by kernel_rfl) (by kernel_rfl) (by kernel_rfl) (fun _ _ _ h => h) (Or.inr ⟨by kernel_rfl, rfl⟩) hB1 ?_
  simp only [Act.put, List.setIfInBounds_toArray, List.set_cons_succ, List.set_cons_zero]
  refine wpAnyH_take (i := 27) (v := undef) (at_nth rfl) (by kernel_rfl) (by kernel_rfl) (by kernel_rfl) (fun _ _ _ h => h) (Or.inr ⟨by kernel_rfl, rfl⟩) hB1 ?_
  simp only [Act.put, List.setIfInBounds_toArray, List.set_cons_succ, List.set_cons_zero]
  refine wpAnyH_take (i := 28) (v := undef) (at_nth rfl) (by kernel_rfl) (by kernel_rfl) (by kernel_rfl) (fun _ _ _ h => h) (Or.inr ⟨by kernel_rfl, rfl⟩) hB1 ?_
  simp only [Act.put, List.setIfInBounds_toArray, List.set_cons_succ, List.set_cons_zero]
  refine wpAnyH_take (i := 29) (v := undef) (at_nth rfl) (by kernel_rfl) (by kernel_rfl) (by kernel_rfl) (fun _ _ _ h => h) (Or.inr ⟨by kernel_rfl, rfl⟩) hB1 ?_
  simp only [Act.put, List.setIfInBounds_toArray, List.set_cons_succ, List.set_cons_zero]
  refine wpAnyH_take (i := 30) (v := undef) (at_nth rfl) (by kernel_rfl) (by kernel_rfl) (by kernel_rfl) (fun _ _ _ h => h) (Or.inr ⟨by kernel_rfl, rfl⟩) hB1 ?_
  simp only [Act.put, List.setIfInBounds_toArray, List.set_cons_succ, List.set_cons_zero]
  refine wpAnyH_pure (i := 31) (v := .bool false) (at_nth rfl) (by kernel_rfl) (by kernel_rfl) (by kernel_rfl) (fun _ _ _ h => h) (by kernel_rfl) (fun w hSw => by kernel_rfl) hB1 ?_
  simp only [Act.put, List.setIfInBounds_toArray, List.set_cons_succ, List.set_cons_zero]
  refine wpAnyH_pure (i := 32) (v := .bool false) (at_nth rfl) (by kernel_rfl) (by kernel_rfl) (by kernel_rfl) (fun _ _ _ h => h) (by kernel_rfl) (fun w hSw => by kernel_rfl) hB1 ?_
  simp only [Act.put, List.setIfInBounds_toArray, List.set_cons_succ, List.set_cons_zero]
  refine wpAnyH_done (by kernel_rfl) ?_ _
  go_wp2
  go_ret
  exact ⟨rfl, hb1⟩

set_option maxRecDepth 100000 in
set_option maxHeartbeats 4000000 in
theorem right_b (d : Ide) (A : Option Addr) (c : Nat) (A' : Option Addr) (c' : Nat) (w : World) (h : InI w d A c A' c') (hr : rightV d.B d.a = true) (hz : sized8 d = false) :
    Calls Tryz.prog 42 #[ideV d A c A' c'] w fun e w' => e = .returned (.bool false) ∧ Below w.heap.size w w' := by
  have HI := Lib.hid h
  have HT := Lib.hid (fun W => (tright_any d.B d.a W))
  have HZ := Lib.hid (fun (W : World) (hw : InI W d A c A' c') => sized_any d A c A' c' W hw)
  rw [hr] at HT
  rw [hz] at HZ
  clear hr hz
  clear h
  obtain ⟨W0, hW0⟩ : ∃ W, W = w.alloc (.cells (ideL d A c A' c') 29) := ⟨_, rfl⟩
  have i0 : Is W0 w.heap.size 29 (ideL d A c A' c') := by rw [hW0]; exact Is.new _ _ _
  have hbW : Below w.heap.size w W0 := by rw [hW0]; exact (Below.refl _ _).alloc (Nat.le_refl _) _
  have HE := Lib.hid hW0
  clear hW0
  go_enter Tryz.func42, Tryz.ntmps42
  go_wp2_with fail
  rw [← HE.out]
  refine wp_region_held_drew (S := fun W => Below W0.heap.size W0 W) (by kernel_rfl) (belowN (Below.refl _ _) 1) (fun hS => ?_)
  change wpAnyH _ _ (opsOf Tryz.f42 1) _ _ 33 (Array.replicate 33 false) _ _
  have hB0 : Below W0.heap.size W0 W0.drew := hS
  have hb0 : Below w.heap.size w W0.drew := hbW.trans (hB0.mono hbW.size)
  clear hS
  generalize W0.drew = V0 at *
  refine wpAnyH_pure (i := 0) (v := .pointer (some ⟨w.heap.size, 0, none⟩)) (at_nth rfl) (by kernel_rfl) (by kernel_rfl) (by kernel_rfl) (fun _ _ _ h => h) (by kernel_rfl) (fun w hSw => by go_simp) hB0 ?_
  simp only [Act.put, List.setIfInBounds_toArray, List.set_cons_succ, List.set_cons_zero]
  refine wpAnyH_pure (i := 1) (v := .agg #[.string d.B, .int .i64 d.a]) (at_nth rfl) (by kernel_rfl) (by kernel_rfl) (by kernel_rfl) (fun _ _ _ h => h) (by kernel_rfl) (fun w hSw => by exact exec_load rfl rfl (run_loadVar_mid _ _ 0 23 [.string d.B, .int .i64 d.a] _ (World.rangeAt_of_block (i0.below hSw i0.lt) 0 2) Tryz.underlying23 rfl infoTape)) hB0 ?_
  simp only [Act.put, List.setIfInBounds_toArray, List.set_cons_succ, List.set_cons_zero]
  refine wpAnyH_call (i := 2) (by kernel_rfl) (at_nth rfl) (by kernel_rfl) (fun w => by kernel_rfl) (((HT.out V0)).mono ?_)
  rintro e V1 ⟨rfl, hx1⟩
  have hB1 : Below W0.heap.size W0 V1 := hB0.trans (hx1.mono hB0.size)
  have hb1 : Below w.heap.size w V1 := hbW.trans (hB1.mono hbW.size)
  refine ⟨_, rfl, hB1, ?_⟩
  try simp only [Act.put, List.setIfInBounds_toArray, List.set_cons_succ, List.set_cons_zero]
  refine wpAnyH_pure (i := 3) (v := .bool true) (at_nth rfl) (by kernel_rfl) (by kernel_rfl) (by kernel_rfl) (fun _ _ _ h => h) (by kernel_rfl) (fun w hSw => by kernel_rfl) hB1 ?_
  simp only [Act.put, List.setIfInBounds_toArray, List.set_cons_succ, List.set_cons_zero]
  refine wpAnyH_pure (i := 4) (v := .agg #[.string d.B, .int .i64 d.a, .slice A d.N.length c, .slice A' d.K.length c', .bool d.c]) (at_nth rfl) (by kernel_rfl) (by kernel_rfl) (by kernel_rfl) (fun _ _ _ h => h) (by kernel_rfl) (fun w hSw => by exact exec_load rfl rfl (run_loadVar_row _ _ 29 29 _ (0, 0) _ (i0.below hSw i0.lt) Tryz.underlying29 rfl infoIde)) hB1 ?_
  simp only [Act.put, List.setIfInBounds_toArray, List.set_cons_succ, List.set_cons_zero]
  refine wpAnyH_call (i := 5) (by kernel_rfl) (at_nth rfl) (by kernel_rfl) (fun w => by kernel_rfl) (((HZ.out V1 (HI.out.keep hb1))).mono ?_)
  rintro e V2 ⟨rfl, hx2⟩
  have hB2 : Below W0.heap.size W0 V2 := hB1.trans (hx2.mono hB1.size)
  have hb2 : Below w.heap.size w V2 := hbW.trans (hB2.mono hbW.size)
  refine ⟨_, rfl, hB2, ?_⟩
  try simp only [Act.put, List.setIfInBounds_toArray, List.set_cons_succ, List.set_cons_zero]
  refine wpAnyH_pure (i := 6) (v := .bool false) (at_nth rfl) (by kernel_rfl) (by kernel_rfl) (by kernel_rfl) (fun _ _ _ h => h) (by kernel_rfl) (fun w hSw => by kernel_rfl) hB2 ?_
  simp only [Act.put, List.setIfInBounds_toArray, List.set_cons_succ, List.set_cons_zero]
  refine wpAnyH_pure (i := 7) (v := .bool false) (at_nth rfl) (by kernel_rfl) (by kernel_rfl) (by kernel_rfl) (fun _ _ _ h => h) (by kernel_rfl) (fun w hSw => by kernel_rfl) hB2 ?_
  simp only [Act.put, List.setIfInBounds_toArray, List.set_cons_succ, List.set_cons_zero]
  refine wpAnyH_take (i := 8) (v := undef) (at_nth rfl) (by kernel_rfl) (by kernel_rfl) (by kernel_rfl) (fun _ _ _ h => h) (Or.inr ⟨by kernel_rfl, rfl⟩) hB2 ?_
  simp only [Act.put, List.setIfInBounds_toArray, List.set_cons_succ, List.set_cons_zero]
  refine wpAnyH_take (i := 10) (v := undef) (at_nth rfl) (by kernel_rfl) (by kernel_rfl) (by kernel_rfl) (fun _ _ _ h => h) (Or.inr ⟨by kernel_rfl, rfl⟩) hB2 ?_
  simp only [Act.put, List.setIfInBounds_toArray, List.set_cons_succ, List.set_cons_zero]
  refine wpAnyH_take (i := 11) (v := undef) (at_nth rfl) (by kernel_rfl) (by kernel_rfl) (by kernel_rfl) (fun _ _ _ h => h) (Or.inr ⟨by kernel_rfl, rfl⟩) hB2 ?_
  simp only [Act.put, List.setIfInBounds_toArray, List.set_cons_succ, List.set_cons_zero]
  refine wpAnyH_take (i := 12) (v := undef) (at_nth rfl) (by kernel_rfl) (by kernel_rfl) (by kernel_rfl) (fun _ _ _ h => h) (Or.inr ⟨by kernel_rfl, rfl⟩) hB2 ?_
  simp only [Act.put, List.setIfInBounds_toArray, List.set_cons_succ, List.set_cons_zero]
  refine wpAnyH_take (i := 9) (v := undef) (at_nth rfl) (by kernel_rfl) (by kernel_rfl) (by kernel_rfl) (fun _ _ _ h => h) (Or.inr ⟨by kernel_rfl, rfl⟩) hB2 ?_
  simp only [Act.put, List.setIfInBounds_toArray, List.set_cons_succ, List.set_cons_zero]
  refine wpAnyH_take (i := 13) (v := undef) (at_nth rfl) (by kernel_rfl) (by kernel_rfl) (by kernel_rfl) (fun _ _ _ h => h) (Or.inr ⟨by kernel_rfl, rfl⟩) hB2 ?_
  simp only [Act.put, List.setIfInBounds_toArray, List.set_cons_succ, List.set_cons_zero]
  refine wpAnyH_take (i := 14) (v := undef) (at_nth rfl) (by kernel_rfl) (by kernel_rfl) (by kernel_rfl) (fun _ _ _ h => h) (Or.inr ⟨by kernel_rfl, rfl⟩) hB2 ?_
  simp only [Act.put, List.setIfInBounds_toArray, List.set_cons_succ, List.set_cons_zero]
  refine wpAnyH_pure (i := 15) (v := .bool false) (at_nth rfl) (by kernel_rfl) (by kernel_rfl) (by kernel_rfl) (fun _ _ _ h => h) (by kernel_rfl) (fun w hSw => by kernel_rfl) hB2 ?_
  simp only [Act.put, List.setIfInBounds_toArray, List.set_cons_succ, List.set_cons_zero]
  refine wpAnyH_pure (i := 16) (v := .bool false) (at_nth rfl) (by kernel_rfl) (by kernel_rfl) (by kernel_rfl) (fun _ _ _ h => h) (by kernel_rfl) (fun w hSw => by kernel_rfl) hB2 ?_
  simp only [Act.put, List.setIfInBounds_toArray, List.set_cons_succ, List.set_cons_zero]
  refine wpAnyH_take (i := 17) (v := undef) (at_nth rfl) (by kernel_rfl) (by kernel_rfl) (by kernel_rfl) (fun _ _ _ h => h) (Or.inr ⟨by kernel_rfl, rfl⟩) hB2 ?_
  simp only [Act.put, List.setIfInBounds_toArray, List.set_cons_succ, List.set_cons_zero]
  refine wpAnyH_take (i := 19) (v := undef) (at_nth rfl) (by kernel_rfl) (by kernel_rfl) (by kernel_rfl) (fun _ _ _ h => h) (Or.inr ⟨by kernel_rfl, rfl⟩) hB2 ?_
  simp only [Act.put, List.setIfInBounds_toArray, List.set_cons_succ, List.set_cons_zero]
  refine wpAnyH_take (i := 20) (v := undef) (at_nth rfl) (by kernel_rfl) (by kernel_rfl) (by kernel_rfl) (fun _ _ _ h => h) (Or.inr ⟨by kernel_rfl, rfl⟩) hB2 ?_
  simp only [Act.put, List.setIfInBounds_toArray, List.set_cons_succ, List.set_cons_zero]
  refine wpAnyH_take (i := 21) (v := undef) (at_nth rfl) (by kernel_rfl) (by kernel_rfl) (by kernel_rfl) (fun _ _ _ h => h) (Or.inr ⟨by kernel_rfl, rfl⟩) hB2 ?_
  simp only [Act.put, List.setIfInBounds_toArray, List.set_cons_succ, List.set_cons_zero]
  refine wpAnyH_take (i := 18) (v := undef) (at_nth rfl) (by kernel_rfl) (by kernel_rfl) (by kernel_rfl) (fun _ _ _ h => h) (Or.inr ⟨by kernel_rfl, rfl⟩) hB2 ?_
  simp only [Act.put, List.setIfInBounds_toArray, List.set_cons_succ, List.set_cons_zero]
  refine wpAnyH_take (i := 22) (v := undef) (at_nth rfl) (by kernel_rfl) (by kernel_rfl) (by kernel_rfl) (fun _ _ _ h => h) (Or.inr ⟨by kernel_rfl, rfl⟩) hB2 ?_
  simp only [Act.put, List.setIfInBounds_toArray, List.set_cons_succ, List.set_cons_zero]
  refine wpAnyH_take (i := 23) (v := undef) (at_nth rfl) (by kernel_rfl) (by kernel_rfl) (by kernel_rfl) (fun _ _ _ h => h) (Or.inr ⟨by kernel_rfl, rfl⟩) hB2 ?_
  simp only [Act.put, List.setIfInBounds_toArray, List.set_cons_succ, List.set_cons_zero]
  refine wpAnyH_pure (i := 24) (v := .bool false) (at_nth rfl) (by kernel_rfl) (by kernel_rfl) (by kernel_rfl) (fun _ _ _ h => h) (by kernel_rfl) (fun w hSw => by kernel_rfl) hB2 ?_
  simp only [Act.put, List.setIfInBounds_toArray, List.set_cons_succ, List.set_cons_zero]
  refine wpAnyH_pure (i := 25) (v := .bool false) (at_nth rfl) (by kernel_rfl) (by kernel_rfl) (by kernel_rfl) (fun _ _ _ h => h) (by kernel_rfl) (fun w hSw => by kernel_rfl) hB2 ?_
  simp only [Act.put, List.setIfInBounds_toArray, List.set_cons_succ, List.set_cons_zero]
  refine wpAnyH_take (i := 26) (v := undef) (at_nth rfl) (by kernel_rfl) (by kernel_rfl) (by kernel_rfl) (fun _ _ _ h => h) (Or.inr ⟨by kernel_rfl, rfl⟩) hB2 ?_
  simp only [Act.put, List.setIfInBounds_toArray, List.set_cons_succ, List.set_cons_zero]
  refine wpAnyH_take (i := 27) (v := undef) (at_nth rfl) (by kernel_rfl) (by kernel_rfl) (by kernel_rfl) (fun _ _ _ h => h) (Or.inr ⟨by kernel_rfl, rfl⟩) hB2 ?_
  simp only [Act.put, List.setIfInBounds_toArray, List.set_cons_succ, List.set_cons_zero]
  refine wpAnyH_take (i := 28) (v := undef) (at_nth rfl) (by kernel_rfl) (by kernel_rfl) (by kernel_rfl) (fun _ _ _ h => h) (Or.inr ⟨by kernel_rfl, rfl⟩) hB2 ?_
  simp only [Act.put, List.setIfInBounds_toArray, List.set_cons_succ, List.set_cons_zero]
  refine wpAnyH_take (i := 29) (v := undef) (at_nth rfl) (by kernel_rfl) (by kernel_rfl) (by kernel_rfl) (fun _ _ _ h => h) (Or.inr ⟨by kernel_rfl, rfl⟩) hB2 ?_
  simp only [Act.put, List.setIfInBounds_toArray, List.set_cons_succ, List.set_cons_zero]
  refine wpAnyH_take (i := 30) (v := undef) (at_nth rfl) (by kernel_rfl) (by kernel_rfl) (by kernel_rfl) (fun _ _ _ h => h) (Or.inr ⟨by kernel_rfl, rfl⟩) hB2 ?_
  simp only [Act.put, List.setIfInBounds_toArray, List.set_cons_succ, List.set_cons_zero]
  refine wpAnyH_pure (i := 31) (v := .bool false) (at_nth rfl) (by kernel_rfl) (by kernel_rfl) (by kernel_rfl) (fun _ _ _ h => h) (by kernel_rfl) (fun w hSw => by kernel_rfl) hB2 ?_
  simp only [Act.put, List.setIfInBounds_toArray, List.set_cons_succ, List.set_cons_zero]
  refine wpAnyH_pure (i := 32) (v := .bool false) (at_nth rfl) (by kernel_rfl) (by kernel_rfl) (by kernel_rfl) (fun _ _ _ h => h) (by kernel_rfl) (fun w hSw => by kernel_rfl) hB2 ?_
  simp only [Act.put, List.setIfInBounds_toArray, List.set_cons_succ, List.set_cons_zero]
  refine wpAnyH_done (by kernel_rfl) ?_ _
  go_wp2
  go_ret
  exact ⟨rfl, hb2⟩

set_option maxRecDepth 100000 in
set_option maxHeartbeats 4000000 in
theorem right_c (d : Ide) (A : Option Addr) (c : Nat) (A' : Option Addr) (c' : Nat) (w : World) (h : InI w d A c A' c') (hr : rightV d.B d.a = true) (hz : sized8 d = true) (hi : pairs8 sameIn d.N = true) :
    Calls Tryz.prog 42 #[ideV d A c A' c'] w fun e w' => e = .returned (.bool false) ∧ Below w.heap.size w w' := by
  have HI := Lib.hid h
  have HT := Lib.hid (fun W => (tright_any d.B d.a W))
  have HZ := Lib.hid (fun (W : World) (hw : InI W d A c A' c') => sized_any d A c A' c' W hw)
  have HN := Lib.hid (sized8_N hz)
  have HK := Lib.hid (sized8_K hz)
  rw [hr] at HT
  rw [hz] at HZ
  clear hr hz
  clear h
  obtain ⟨W0, hW0⟩ : ∃ W, W = w.alloc (.cells (ideL d A c A' c') 29) := ⟨_, rfl⟩
  have i0 : Is W0 w.heap.size 29 (ideL d A c A' c') := by rw [hW0]; exact Is.new _ _ _
  have hbW : Below w.heap.size w W0 := by rw [hW0]; exact (Below.refl _ _).alloc (Nat.le_refl _) _
  have HE := Lib.hid hW0
  clear hW0
  go_enter Tryz.func42, Tryz.ntmps42
  go_wp2_with fail
  rw [← HE.out]
  refine wp_region_held_drew (S := fun W => Below W0.heap.size W0 W) (by kernel_rfl) (belowN (Below.refl _ _) 1) (fun hS => ?_)
  change wpAnyH _ _ (opsOf Tryz.f42 1) _ _ 33 (Array.replicate 33 false) _ _
  have hB0 : Below W0.heap.size W0 W0.drew := hS
  have hb0 : Below w.heap.size w W0.drew := hbW.trans (hB0.mono hbW.size)
  clear hS
  generalize W0.drew = V0 at *
  refine wpAnyH_pure (i := 0) (v := .pointer (some ⟨w.heap.size, 0, none⟩)) (at_nth rfl) (by kernel_rfl) (by kernel_rfl) (by kernel_rfl) (fun _ _ _ h => h) (by kernel_rfl) (fun w hSw => by go_simp) hB0 ?_
  simp only [Act.put, List.setIfInBounds_toArray, List.set_cons_succ, List.set_cons_zero]
  refine wpAnyH_pure (i := 1) (v := .agg #[.string d.B, .int .i64 d.a]) (at_nth rfl) (by kernel_rfl) (by kernel_rfl) (by kernel_rfl) (fun _ _ _ h => h) (by kernel_rfl) (fun w hSw => by exact exec_load rfl rfl (run_loadVar_mid _ _ 0 23 [.string d.B, .int .i64 d.a] _ (World.rangeAt_of_block (i0.below hSw i0.lt) 0 2) Tryz.underlying23 rfl infoTape)) hB0 ?_
  simp only [Act.put, List.setIfInBounds_toArray, List.set_cons_succ, List.set_cons_zero]
  refine wpAnyH_call (i := 2) (by kernel_rfl) (at_nth rfl) (by kernel_rfl) (fun w => by kernel_rfl) (((HT.out V0)).mono ?_)
  rintro e V1 ⟨rfl, hx1⟩
  have hB1 : Below W0.heap.size W0 V1 := hB0.trans (hx1.mono hB0.size)
  have hb1 : Below w.heap.size w V1 := hbW.trans (hB1.mono hbW.size)
  refine ⟨_, rfl, hB1, ?_⟩
  try simp only [Act.put, List.setIfInBounds_toArray, List.set_cons_succ, List.set_cons_zero]
  refine wpAnyH_pure (i := 3) (v := .bool true) (at_nth rfl) (by kernel_rfl) (by kernel_rfl) (by kernel_rfl) (fun _ _ _ h => h) (by kernel_rfl) (fun w hSw => by kernel_rfl) hB1 ?_
  simp only [Act.put, List.setIfInBounds_toArray, List.set_cons_succ, List.set_cons_zero]
  refine wpAnyH_pure (i := 4) (v := .agg #[.string d.B, .int .i64 d.a, .slice A d.N.length c, .slice A' d.K.length c', .bool d.c]) (at_nth rfl) (by kernel_rfl) (by kernel_rfl) (by kernel_rfl) (fun _ _ _ h => h) (by kernel_rfl) (fun w hSw => by exact exec_load rfl rfl (run_loadVar_row _ _ 29 29 _ (0, 0) _ (i0.below hSw i0.lt) Tryz.underlying29 rfl infoIde)) hB1 ?_
  simp only [Act.put, List.setIfInBounds_toArray, List.set_cons_succ, List.set_cons_zero]
  refine wpAnyH_call (i := 5) (by kernel_rfl) (at_nth rfl) (by kernel_rfl) (fun w => by kernel_rfl) (((HZ.out V1 (HI.out.keep hb1))).mono ?_)
  rintro e V2 ⟨rfl, hx2⟩
  have hB2 : Below W0.heap.size W0 V2 := hB1.trans (hx2.mono hB1.size)
  have hb2 : Below w.heap.size w V2 := hbW.trans (hB2.mono hbW.size)
  refine ⟨_, rfl, hB2, ?_⟩
  try simp only [Act.put, List.setIfInBounds_toArray, List.set_cons_succ, List.set_cons_zero]
  refine wpAnyH_pure (i := 6) (v := .bool true) (at_nth rfl) (by kernel_rfl) (by kernel_rfl) (by kernel_rfl) (fun _ _ _ h => h) (by kernel_rfl) (fun w hSw => by kernel_rfl) hB2 ?_
  simp only [Act.put, List.setIfInBounds_toArray, List.set_cons_succ, List.set_cons_zero]
  refine wpAnyH_pure (i := 7) (v := .bool true) (at_nth rfl) (by kernel_rfl) (by kernel_rfl) (by kernel_rfl) (fun _ _ _ h => h) (by kernel_rfl) (fun w hSw => by kernel_rfl) hB2 ?_
  simp only [Act.put, List.setIfInBounds_toArray, List.set_cons_succ, List.set_cons_zero]
  refine wpAnyH_pure (i := 8) (v := .agg #[.string d.B, .int .i64 d.a, .slice A d.N.length c, .slice A' d.K.length c', .bool d.c]) (at_nth rfl) (by kernel_rfl) (by kernel_rfl) (by kernel_rfl) (fun _ _ _ h => h) (by kernel_rfl) (fun w hSw => by exact exec_load rfl rfl (run_loadVar_row _ _ 29 29 _ (0, 0) _ (i0.below hSw i0.lt) Tryz.underlying29 rfl infoIde)) hB2 ?_
  simp only [Act.put, List.setIfInBounds_toArray, List.set_cons_succ, List.set_cons_zero]
  refine wpAnyH_pure (i := 10) (v := .pointer (some ⟨w.heap.size, 2, none⟩)) (at_nth rfl) (by kernel_rfl) (by kernel_rfl) (by kernel_rfl) (fun _ _ _ h => h) (by kernel_rfl) (fun w hSw => by go_simp) hB2 ?_
  simp only [Act.put, List.setIfInBounds_toArray, List.set_cons_succ, List.set_cons_zero]
  refine wpAnyH_pure (i := 11) (v := .slice A d.N.length c) (at_nth rfl) (by kernel_rfl) (by kernel_rfl) (by kernel_rfl) (fun _ _ _ h => h) (by kernel_rfl) (fun w hSw => by (have hc := (i0.below hSw i0.lt).cell 2; go_simp)) hB2 ?_
  simp only [Act.put, List.setIfInBounds_toArray, List.set_cons_succ, List.set_cons_zero]
  refine wpAnyH_pure (i := 12) (v := .int .i64 (d.N.length : Int)) (at_nth rfl) (by kernel_rfl) (by kernel_rfl) (by kernel_rfl) (fun _ _ _ h => h) (by kernel_rfl) (fun w hSw => by go_simp) hB2 ?_
  simp only [Act.put, List.setIfInBounds_toArray, List.set_cons_succ, List.set_cons_zero]
  refine wpAnyH_call (i := 9) (by kernel_rfl) (at_nth rfl) (by kernel_rfl) (fun w => by kernel_rfl) ((names_any (.string d.B) (.int .i64 d.a) (.slice A d.N.length c) (.slice A' d.K.length c') (.bool d.c) V2).mono ?_)
  rintro e W ⟨rfl, rfl⟩
  obtain ⟨V3, hW3⟩ : ∃ W, W = V2.alloc (.cells (ideL d A c A' c') 29) := ⟨_, rfl⟩
  have iC3 : Is V3 V2.heap.size 29 (ideL d A c A' c') := by rw [hW3]; exact Is.new _ _ _
  have hB3 : Below W0.heap.size W0 V3 := by rw [hW3]; exact hB2.alloc hB2.size _
  have hb3 : Below w.heap.size w V3 := hbW.trans (hB3.mono hbW.size)
  rw [← hW3]
  clear hW3
  refine ⟨_, rfl, hB3, ?_⟩
  try simp only [Act.put, List.setIfInBounds_toArray, List.set_cons_succ, List.set_cons_zero]
  refine wpAnyH_call (i := 13) (by kernel_rfl) (at_nth rfl) (by kernel_rfl) (fun w => by kernel_rfl) (((HI.out.twN (W := V3) (V2.heap.size) hb3 iC3 HN.out (d.N.length : Int) hi)).mono ?_)
  rintro e V4 ⟨rfl, hx4⟩
  have hB4 : Below W0.heap.size W0 V4 := hB3.trans (hx4.mono hB3.size)
  have hb4 : Below w.heap.size w V4 := hbW.trans (hB4.mono hbW.size)
  refine ⟨_, rfl, hB4, ?_⟩
  try simp only [Act.put, List.setIfInBounds_toArray, List.set_cons_succ, List.set_cons_zero]
  refine wpAnyH_pure (i := 14) (v := .bool false) (at_nth rfl) (by kernel_rfl) (by kernel_rfl) (by kernel_rfl) (fun _ _ _ h => h) (by kernel_rfl) (fun w hSw => by go_simp) hB4 ?_
  simp only [Act.put, List.setIfInBounds_toArray, List.set_cons_succ, List.set_cons_zero]
  refine wpAnyH_pure (i := 15) (v := .bool false) (at_nth rfl) (by kernel_rfl) (by kernel_rfl) (by kernel_rfl) (fun _ _ _ h => h) (by kernel_rfl) (fun w hSw => by kernel_rfl) hB4 ?_
  simp only [Act.put, List.setIfInBounds_toArray, List.set_cons_succ, List.set_cons_zero]
  refine wpAnyH_pure (i := 16) (v := .bool false) (at_nth rfl) (by kernel_rfl) (by kernel_rfl) (by kernel_rfl) (fun _ _ _ h => h) (by kernel_rfl) (fun w hSw => by kernel_rfl) hB4 ?_
  simp only [Act.put, List.setIfInBounds_toArray, List.set_cons_succ, List.set_cons_zero]
  refine wpAnyH_take (i := 17) (v := undef) (at_nth rfl) (by kernel_rfl) (by kernel_rfl) (by kernel_rfl) (fun _ _ _ h => h) (Or.inr ⟨by kernel_rfl, rfl⟩) hB4 ?_
  simp only [Act.put, List.setIfInBounds_toArray, List.set_cons_succ, List.set_cons_zero]
  refine wpAnyH_take (i := 19) (v := undef) (at_nth rfl) (by kernel_rfl) (by kernel_rfl) (by kernel_rfl) (fun _ _ _ h => h) (Or.inr ⟨by kernel_rfl, rfl⟩) hB4 ?_
  simp only [Act.put, List.setIfInBounds_toArray, List.set_cons_succ, List.set_cons_zero]
  refine wpAnyH_take (i := 20) (v := undef) (at_nth rfl) (by kernel_rfl) (by kernel_rfl) (by kernel_rfl) (fun _ _ _ h => h) (Or.inr ⟨by kernel_rfl, rfl⟩) hB4 ?_
  simp only [Act.put, List.setIfInBounds_toArray, List.set_cons_succ, List.set_cons_zero]
  refine wpAnyH_take (i := 21) (v := undef) (at_nth rfl) (by kernel_rfl) (by kernel_rfl) (by kernel_rfl) (fun _ _ _ h => h) (Or.inr ⟨by kernel_rfl, rfl⟩) hB4 ?_
  simp only [Act.put, List.setIfInBounds_toArray, List.set_cons_succ, List.set_cons_zero]
  refine wpAnyH_take (i := 18) (v := undef) (at_nth rfl) (by kernel_rfl) (by kernel_rfl) (by kernel_rfl) (fun _ _ _ h => h) (Or.inr ⟨by kernel_rfl, rfl⟩) hB4 ?_
  simp only [Act.put, List.setIfInBounds_toArray, List.set_cons_succ, List.set_cons_zero]
  refine wpAnyH_take (i := 22) (v := undef) (at_nth rfl) (by kernel_rfl) (by kernel_rfl) (by kernel_rfl) (fun _ _ _ h => h) (Or.inr ⟨by kernel_rfl, rfl⟩) hB4 ?_
  simp only [Act.put, List.setIfInBounds_toArray, List.set_cons_succ, List.set_cons_zero]
  refine wpAnyH_take (i := 23) (v := undef) (at_nth rfl) (by kernel_rfl) (by kernel_rfl) (by kernel_rfl) (fun _ _ _ h => h) (Or.inr ⟨by kernel_rfl, rfl⟩) hB4 ?_
  simp only [Act.put, List.setIfInBounds_toArray, List.set_cons_succ, List.set_cons_zero]
  refine wpAnyH_pure (i := 24) (v := .bool false) (at_nth rfl) (by kernel_rfl) (by kernel_rfl) (by kernel_rfl) (fun _ _ _ h => h) (by kernel_rfl) (fun w hSw => by kernel_rfl) hB4 ?_
  simp only [Act.put, List.setIfInBounds_toArray, List.set_cons_succ, List.set_cons_zero]
  refine wpAnyH_pure (i := 25) (v := .bool false) (at_nth rfl) (by kernel_rfl) (by kernel_rfl) (by kernel_rfl) (fun _ _ _ h => h) (by kernel_rfl) (fun w hSw => by kernel_rfl) hB4 ?_
  simp only [Act.put, List.setIfInBounds_toArray, List.set_cons_succ, List.set_cons_zero]
  refine wpAnyH_take (i := 26) (v := undef) (at_nth rfl) (by kernel_rfl) (by kernel_rfl) (by kernel_rfl) (fun _ _ _ h => h) (Or.inr ⟨by kernel_rfl, rfl⟩) hB4 ?_
  simp only [Act.put, List.setIfInBounds_toArray, List.set_cons_succ, List.set_cons_zero]
  refine wpAnyH_take (i := 27) (v := undef) (at_nth rfl) (by kernel_rfl) (by kernel_rfl) (by kernel_rfl) (fun _ _ _ h => h) (Or.inr ⟨by kernel_rfl, rfl⟩) hB4 ?_
  simp only [Act.put, List.setIfInBounds_toArray, List.set_cons_succ, List.set_cons_zero]
  refine wpAnyH_take (i := 28) (v := undef) (at_nth rfl) (by kernel_rfl) (by kernel_rfl) (by kernel_rfl) (fun _ _ _ h => h) (Or.inr ⟨by kernel_rfl, rfl⟩) hB4 ?_
  simp only [Act.put, List.setIfInBounds_toArray, List.set_cons_succ, List.set_cons_zero]
  refine wpAnyH_take (i := 29) (v := undef) (at_nth rfl) (by kernel_rfl) (by kernel_rfl) (by kernel_rfl) (fun _ _ _ h => h) (Or.inr ⟨by kernel_rfl, rfl⟩) hB4 ?_
  simp only [Act.put, List.setIfInBounds_toArray, List.set_cons_succ, List.set_cons_zero]
  refine wpAnyH_take (i := 30) (v := undef) (at_nth rfl) (by kernel_rfl) (by kernel_rfl) (by kernel_rfl) (fun _ _ _ h => h) (Or.inr ⟨by kernel_rfl, rfl⟩) hB4 ?_
  simp only [Act.put, List.setIfInBounds_toArray, List.set_cons_succ, List.set_cons_zero]
  refine wpAnyH_pure (i := 31) (v := .bool false) (at_nth rfl) (by kernel_rfl) (by kernel_rfl) (by kernel_rfl) (fun _ _ _ h => h) (by kernel_rfl) (fun w hSw => by kernel_rfl) hB4 ?_
  simp only [Act.put, List.setIfInBounds_toArray, List.set_cons_succ, List.set_cons_zero]
  refine wpAnyH_pure (i := 32) (v := .bool false) (at_nth rfl) (by kernel_rfl) (by kernel_rfl) (by kernel_rfl) (fun _ _ _ h => h) (by kernel_rfl) (fun w hSw => by kernel_rfl) hB4 ?_
  simp only [Act.put, List.setIfInBounds_toArray, List.set_cons_succ, List.set_cons_zero]
  refine wpAnyH_done (by kernel_rfl) ?_ _
  go_wp2
  go_ret
  exact ⟨rfl, hb4⟩

set_option maxRecDepth 100000 in
set_option maxHeartbeats 4000000 in
theorem right_d (d : Ide) (A : Option Addr) (c : Nat) (A' : Option Addr) (c' : Nat) (w : World) (h : InI w d A c A' c') (hr : rightV d.B d.a = true) (hz : sized8 d = true) (hi : pairs8 sameIn d.N = false) (hk : pairs8 sameAsk d.K = true) :
    Calls Tryz.prog 42 #[ideV d A c A' c'] w fun e w' => e = .returned (.bool false) ∧ Below w.heap.size w w' := by
  have HI := Lib.hid h
  have HT := Lib.hid (fun W => (tright_any d.B d.a W))
  have HZ := Lib.hid (fun (W : World) (hw : InI W d A c A' c') => sized_any d A c A' c' W hw)
  have HN := Lib.hid (sized8_N hz)
  have HK := Lib.hid (sized8_K hz)
  rw [hr] at HT
  rw [hz] at HZ
  clear hr hz
  clear h
  obtain ⟨W0, hW0⟩ : ∃ W, W = w.alloc (.cells (ideL d A c A' c') 29) := ⟨_, rfl⟩
  have i0 : Is W0 w.heap.size 29 (ideL d A c A' c') := by rw [hW0]; exact Is.new _ _ _
  have hbW : Below w.heap.size w W0 := by rw [hW0]; exact (Below.refl _ _).alloc (Nat.le_refl _) _
  have HE := Lib.hid hW0
  clear hW0
  go_enter Tryz.func42, Tryz.ntmps42
  go_wp2_with fail
  rw [← HE.out]
  refine wp_region_held_drew (S := fun W => Below W0.heap.size W0 W) (by kernel_rfl) (belowN (Below.refl _ _) 1) (fun hS => ?_)
  change wpAnyH _ _ (opsOf Tryz.f42 1) _ _ 33 (Array.replicate 33 false) _ _
  have hB0 : Below W0.heap.size W0 W0.drew := hS
  have hb0 : Below w.heap.size w W0.drew := hbW.trans (hB0.mono hbW.size)
  clear hS
  generalize W0.drew = V0 at *
  refine wpAnyH_pure (i := 0) (v := .pointer (some ⟨w.heap.size, 0, none⟩)) (at_nth rfl) (by kernel_rfl) (by kernel_rfl) (by kernel_rfl) (fun _ _ _ h => h) (by kernel_rfl) (fun w hSw => by go_simp) hB0 ?_
  simp only [Act.put, List.setIfInBounds_toArray, List.set_cons_succ, List.set_cons_zero]
  refine wpAnyH_pure (i := 1) (v := .agg #[.string d.B, .int .i64 d.a]) (at_nth rfl) (by kernel_rfl) (by kernel_rfl) (by kernel_rfl) (fun _ _ _ h => h) (by kernel_rfl) (fun w hSw => by exact exec_load rfl rfl (run_loadVar_mid _ _ 0 23 [.string d.B, .int .i64 d.a] _ (World.rangeAt_of_block (i0.below hSw i0.lt) 0 2) Tryz.underlying23 rfl infoTape)) hB0 ?_
  simp only [Act.put, List.setIfInBounds_toArray, List.set_cons_succ, List.set_cons_zero]
  refine wpAnyH_call (i := 2) (by kernel_rfl) (at_nth rfl) (by kernel_rfl) (fun w => by kernel_rfl) (((HT.out V0)).mono ?_)
  rintro e V1 ⟨rfl, hx1⟩
  have hB1 : Below W0.heap.size W0 V1 := hB0.trans (hx1.mono hB0.size)
  have hb1 : Below w.heap.size w V1 := hbW.trans (hB1.mono hbW.size)
  refine ⟨_, rfl, hB1, ?_⟩
  try simp only [Act.put, List.setIfInBounds_toArray, List.set_cons_succ, List.set_cons_zero]
  refine wpAnyH_pure (i := 3) (v := .bool true) (at_nth rfl) (by kernel_rfl) (by kernel_rfl) (by kernel_rfl) (fun _ _ _ h => h) (by kernel_rfl) (fun w hSw => by kernel_rfl) hB1 ?_
  simp only [Act.put, List.setIfInBounds_toArray, List.set_cons_succ, List.set_cons_zero]
  refine wpAnyH_pure (i := 4) (v := .agg #[.string d.B, .int .i64 d.a, .slice A d.N.length c, .slice A' d.K.length c', .bool d.c]) (at_nth rfl) (by kernel_rfl) (by kernel_rfl) (by kernel_rfl) (fun _ _ _ h => h) (by kernel_rfl) (fun w hSw => by exact exec_load rfl rfl (run_loadVar_row _ _ 29 29 _ (0, 0) _ (i0.below hSw i0.lt) Tryz.underlying29 rfl infoIde)) hB1 ?_
  simp only [Act.put, List.setIfInBounds_toArray, List.set_cons_succ, List.set_cons_zero]
  refine wpAnyH_call (i := 5) (by kernel_rfl) (at_nth rfl) (by kernel_rfl) (fun w => by kernel_rfl) (((HZ.out V1 (HI.out.keep hb1))).mono ?_)
  rintro e V2 ⟨rfl, hx2⟩
  have hB2 : Below W0.heap.size W0 V2 := hB1.trans (hx2.mono hB1.size)
  have hb2 : Below w.heap.size w V2 := hbW.trans (hB2.mono hbW.size)
  refine ⟨_, rfl, hB2, ?_⟩
  try simp only [Act.put, List.setIfInBounds_toArray, List.set_cons_succ, List.set_cons_zero]
  refine wpAnyH_pure (i := 6) (v := .bool true) (at_nth rfl) (by kernel_rfl) (by kernel_rfl) (by kernel_rfl) (fun _ _ _ h => h) (by kernel_rfl) (fun w hSw => by kernel_rfl) hB2 ?_
  simp only [Act.put, List.setIfInBounds_toArray, List.set_cons_succ, List.set_cons_zero]
  refine wpAnyH_pure (i := 7) (v := .bool true) (at_nth rfl) (by kernel_rfl) (by kernel_rfl) (by kernel_rfl) (fun _ _ _ h => h) (by kernel_rfl) (fun w hSw => by kernel_rfl) hB2 ?_
  simp only [Act.put, List.setIfInBounds_toArray, List.set_cons_succ, List.set_cons_zero]
  refine wpAnyH_pure (i := 8) (v := .agg #[.string d.B, .int .i64 d.a, .slice A d.N.length c, .slice A' d.K.length c', .bool d.c]) (at_nth rfl) (by kernel_rfl) (by kernel_rfl) (by kernel_rfl) (fun _ _ _ h => h) (by kernel_rfl) (fun w hSw => by exact exec_load rfl rfl (run_loadVar_row _ _ 29 29 _ (0, 0) _ (i0.below hSw i0.lt) Tryz.underlying29 rfl infoIde)) hB2 ?_
  simp only [Act.put, List.setIfInBounds_toArray, List.set_cons_succ, List.set_cons_zero]
  refine wpAnyH_pure (i := 10) (v := .pointer (some ⟨w.heap.size, 2, none⟩)) (at_nth rfl) (by kernel_rfl) (by kernel_rfl) (by kernel_rfl) (fun _ _ _ h => h) (by kernel_rfl) (fun w hSw => by go_simp) hB2 ?_
  simp only [Act.put, List.setIfInBounds_toArray, List.set_cons_succ, List.set_cons_zero]
  refine wpAnyH_pure (i := 11) (v := .slice A d.N.length c) (at_nth rfl) (by kernel_rfl) (by kernel_rfl) (by kernel_rfl) (fun _ _ _ h => h) (by kernel_rfl) (fun w hSw => by (have hc := (i0.below hSw i0.lt).cell 2; go_simp)) hB2 ?_
  simp only [Act.put, List.setIfInBounds_toArray, List.set_cons_succ, List.set_cons_zero]
  refine wpAnyH_pure (i := 12) (v := .int .i64 (d.N.length : Int)) (at_nth rfl) (by kernel_rfl) (by kernel_rfl) (by kernel_rfl) (fun _ _ _ h => h) (by kernel_rfl) (fun w hSw => by go_simp) hB2 ?_
  simp only [Act.put, List.setIfInBounds_toArray, List.set_cons_succ, List.set_cons_zero]
  refine wpAnyH_call (i := 9) (by kernel_rfl) (at_nth rfl) (by kernel_rfl) (fun w => by kernel_rfl) ((names_any (.string d.B) (.int .i64 d.a) (.slice A d.N.length c) (.slice A' d.K.length c') (.bool d.c) V2).mono ?_)
  rintro e W ⟨rfl, rfl⟩
  obtain ⟨V3, hW3⟩ : ∃ W, W = V2.alloc (.cells (ideL d A c A' c') 29) := ⟨_, rfl⟩
  have iC3 : Is V3 V2.heap.size 29 (ideL d A c A' c') := by rw [hW3]; exact Is.new _ _ _
  have hB3 : Below W0.heap.size W0 V3 := by rw [hW3]; exact hB2.alloc hB2.size _
  have hb3 : Below w.heap.size w V3 := hbW.trans (hB3.mono hbW.size)
  rw [← hW3]
  clear hW3
  refine ⟨_, rfl, hB3, ?_⟩
  try simp only [Act.put, List.setIfInBounds_toArray, List.set_cons_succ, List.set_cons_zero]
  refine wpAnyH_call (i := 13) (by kernel_rfl) (at_nth rfl) (by kernel_rfl) (fun w => by kernel_rfl) (((HI.out.twN (W := V3) (V2.heap.size) hb3 iC3 HN.out (d.N.length : Int) hi)).mono ?_)
  rintro e V4 ⟨rfl, hx4⟩
  have hB4 : Below W0.heap.size W0 V4 := hB3.trans (hx4.mono hB3.size)
  have hb4 : Below w.heap.size w V4 := hbW.trans (hB4.mono hbW.size)
  refine ⟨_, rfl, hB4, ?_⟩
  try simp only [Act.put, List.setIfInBounds_toArray, List.set_cons_succ, List.set_cons_zero]
  refine wpAnyH_pure (i := 14) (v := .bool true) (at_nth rfl) (by kernel_rfl) (by kernel_rfl) (by kernel_rfl) (fun _ _ _ h => h) (by kernel_rfl) (fun w hSw => by go_simp) hB4 ?_
  simp only [Act.put, List.setIfInBounds_toArray, List.set_cons_succ, List.set_cons_zero]
  refine wpAnyH_pure (i := 15) (v := .bool true) (at_nth rfl) (by kernel_rfl) (by kernel_rfl) (by kernel_rfl) (fun _ _ _ h => h) (by kernel_rfl) (fun w hSw => by kernel_rfl) hB4 ?_
  simp only [Act.put, List.setIfInBounds_toArray, List.set_cons_succ, List.set_cons_zero]
  refine wpAnyH_pure (i := 16) (v := .bool true) (at_nth rfl) (by kernel_rfl) (by kernel_rfl) (by kernel_rfl) (fun _ _ _ h => h) (by kernel_rfl) (fun w hSw => by kernel_rfl) hB4 ?_
  simp only [Act.put, List.setIfInBounds_toArray, List.set_cons_succ, List.set_cons_zero]
  refine wpAnyH_pure (i := 17) (v := .agg #[.string d.B, .int .i64 d.a, .slice A d.N.length c, .slice A' d.K.length c', .bool d.c]) (at_nth rfl) (by kernel_rfl) (by kernel_rfl) (by kernel_rfl) (fun _ _ _ h => h) (by kernel_rfl) (fun w hSw => by exact exec_load rfl rfl (run_loadVar_row _ _ 29 29 _ (0, 0) _ (i0.below hSw i0.lt) Tryz.underlying29 rfl infoIde)) hB4 ?_
  simp only [Act.put, List.setIfInBounds_toArray, List.set_cons_succ, List.set_cons_zero]
  refine wpAnyH_pure (i := 19) (v := .pointer (some ⟨w.heap.size, 3, none⟩)) (at_nth rfl) (by kernel_rfl) (by kernel_rfl) (by kernel_rfl) (fun _ _ _ h => h) (by kernel_rfl) (fun w hSw => by go_simp) hB4 ?_
  simp only [Act.put, List.setIfInBounds_toArray, List.set_cons_succ, List.set_cons_zero]
  refine wpAnyH_pure (i := 20) (v := .slice A' d.K.length c') (at_nth rfl) (by kernel_rfl) (by kernel_rfl) (by kernel_rfl) (fun _ _ _ h => h) (by kernel_rfl) (fun w hSw => by (have hc := (i0.below hSw i0.lt).cell 3; go_simp)) hB4 ?_
  simp only [Act.put, List.setIfInBounds_toArray, List.set_cons_succ, List.set_cons_zero]
  refine wpAnyH_pure (i := 21) (v := .int .i64 (d.K.length : Int)) (at_nth rfl) (by kernel_rfl) (by kernel_rfl) (by kernel_rfl) (fun _ _ _ h => h) (by kernel_rfl) (fun w hSw => by go_simp) hB4 ?_
  simp only [Act.put, List.setIfInBounds_toArray, List.set_cons_succ, List.set_cons_zero]
  refine wpAnyH_call (i := 18) (by kernel_rfl) (at_nth rfl) (by kernel_rfl) (fun w => by kernel_rfl) ((cells_any (.string d.B) (.int .i64 d.a) (.slice A d.N.length c) (.slice A' d.K.length c') (.bool d.c) V4).mono ?_)
  rintro e W ⟨rfl, rfl⟩
  obtain ⟨V5, hW5⟩ : ∃ W, W = V4.alloc (.cells (ideL d A c A' c') 29) := ⟨_, rfl⟩
  have iC5 : Is V5 V4.heap.size 29 (ideL d A c A' c') := by rw [hW5]; exact Is.new _ _ _
  have hB5 : Below W0.heap.size W0 V5 := by rw [hW5]; exact hB4.alloc hB4.size _
  have hb5 : Below w.heap.size w V5 := hbW.trans (hB5.mono hbW.size)
  rw [← hW5]
  clear hW5
  refine ⟨_, rfl, hB5, ?_⟩
  try simp only [Act.put, List.setIfInBounds_toArray, List.set_cons_succ, List.set_cons_zero]
  refine wpAnyH_call (i := 22) (by kernel_rfl) (at_nth rfl) (by kernel_rfl) (fun w => by kernel_rfl) (((HI.out.twK (W := V5) (V4.heap.size) hb5 iC5 HK.out (d.K.length : Int) hk)).mono ?_)
  rintro e V6 ⟨rfl, hx6⟩
  have hB6 : Below W0.heap.size W0 V6 := hB5.trans (hx6.mono hB5.size)
  have hb6 : Below w.heap.size w V6 := hbW.trans (hB6.mono hbW.size)
  refine ⟨_, rfl, hB6, ?_⟩
  try simp only [Act.put, List.setIfInBounds_toArray, List.set_cons_succ, List.set_cons_zero]
  refine wpAnyH_pure (i := 23) (v := .bool false) (at_nth rfl) (by kernel_rfl) (by kernel_rfl) (by kernel_rfl) (fun _ _ _ h => h) (by kernel_rfl) (fun w hSw => by go_simp) hB6 ?_
  simp only [Act.put, List.setIfInBounds_toArray, List.set_cons_succ, List.set_cons_zero]
  refine wpAnyH_pure (i := 24) (v := .bool false) (at_nth rfl) (by kernel_rfl) (by kernel_rfl) (by kernel_rfl) (fun _ _ _ h => h) (by kernel_rfl) (fun w hSw => by kernel_rfl) hB6 ?_
  simp only [Act.put, List.setIfInBounds_toArray, List.set_cons_succ, List.set_cons_zero]
  refine wpAnyH_pure (i := 25) (v := .bool false) (at_nth rfl) (by kernel_rfl) (by kernel_rfl) (by kernel_rfl) (fun _ _ _ h => h) (by kernel_rfl) (fun w hSw => by kernel_rfl) hB6 ?_
  simp only [Act.put, List.setIfInBounds_toArray, List.set_cons_succ, List.set_cons_zero]
  refine wpAnyH_take (i := 26) (v := undef) (at_nth rfl) (by kernel_rfl) (by kernel_rfl) (by kernel_rfl) (fun _ _ _ h => h) (Or.inr ⟨by kernel_rfl, rfl⟩) hB6 ?_
  simp only [Act.put, List.setIfInBounds_toArray, List.set_cons_succ, List.set_cons_zero]
  refine wpAnyH_take (i := 27) (v := undef) (at_nth rfl) (by kernel_rfl) (by kernel_rfl) (by kernel_rfl) (fun _ _ _ h => h) (Or.inr ⟨by kernel_rfl, rfl⟩) hB6 ?_
  simp only [Act.put, List.setIfInBounds_toArray, List.set_cons_succ, List.set_cons_zero]
  refine wpAnyH_take (i := 28) (v := undef) (at_nth rfl) (by kernel_rfl) (by kernel_rfl) (by kernel_rfl) (fun _ _ _ h => h) (Or.inr ⟨by kernel_rfl, rfl⟩) hB6 ?_
  simp only [Act.put, List.setIfInBounds_toArray, List.set_cons_succ, List.set_cons_zero]
  refine wpAnyH_take (i := 29) (v := undef) (at_nth rfl) (by kernel_rfl) (by kernel_rfl) (by kernel_rfl) (fun _ _ _ h => h) (Or.inr ⟨by kernel_rfl, rfl⟩) hB6 ?_
  simp only [Act.put, List.setIfInBounds_toArray, List.set_cons_succ, List.set_cons_zero]
  refine wpAnyH_take (i := 30) (v := undef) (at_nth rfl) (by kernel_rfl) (by kernel_rfl) (by kernel_rfl) (fun _ _ _ h => h) (Or.inr ⟨by kernel_rfl, rfl⟩) hB6 ?_
  simp only [Act.put, List.setIfInBounds_toArray, List.set_cons_succ, List.set_cons_zero]
  refine wpAnyH_pure (i := 31) (v := .bool false) (at_nth rfl) (by kernel_rfl) (by kernel_rfl) (by kernel_rfl) (fun _ _ _ h => h) (by kernel_rfl) (fun w hSw => by kernel_rfl) hB6 ?_
  simp only [Act.put, List.setIfInBounds_toArray, List.set_cons_succ, List.set_cons_zero]
  refine wpAnyH_pure (i := 32) (v := .bool false) (at_nth rfl) (by kernel_rfl) (by kernel_rfl) (by kernel_rfl) (fun _ _ _ h => h) (by kernel_rfl) (fun w hSw => by kernel_rfl) hB6 ?_
  simp only [Act.put, List.setIfInBounds_toArray, List.set_cons_succ, List.set_cons_zero]
  refine wpAnyH_done (by kernel_rfl) ?_ _
  go_wp2
  go_ret
  exact ⟨rfl, hb6⟩

set_option maxRecDepth 100000 in
set_option maxHeartbeats 4000000 in
theorem right_e (d : Ide) (A : Option Addr) (c : Nat) (A' : Option Addr) (c' : Nat) (w : World) (h : InI w d A c A' c') (hr : rightV d.B d.a = true) (hz : sized8 d = true) (hi : pairs8 sameIn d.N = false) (hk : pairs8 sameAsk d.K = false) :
    Calls Tryz.prog 42 #[ideV d A c A' c'] w fun e w' => e = .returned (.bool (d.c == clash8 d.N d.K)) ∧ Below w.heap.size w w' := by
  have HI := Lib.hid h
  have HT := Lib.hid (fun W => (tright_any d.B d.a W))
  have HZ := Lib.hid (fun (W : World) (hw : InI W d A c A' c') => sized_any d A c A' c' W hw)
  have HN := Lib.hid (sized8_N hz)
  have HK := Lib.hid (sized8_K hz)
  rw [hr] at HT
  rw [hz] at HZ
  clear hr hz
  clear h
  obtain ⟨W0, hW0⟩ : ∃ W, W = w.alloc (.cells (ideL d A c A' c') 29) := ⟨_, rfl⟩
  have i0 : Is W0 w.heap.size 29 (ideL d A c A' c') := by rw [hW0]; exact Is.new _ _ _
  have hbW : Below w.heap.size w W0 := by rw [hW0]; exact (Below.refl _ _).alloc (Nat.le_refl _) _
  have HE := Lib.hid hW0
  clear hW0
  go_enter Tryz.func42, Tryz.ntmps42
  go_wp2_with fail
  rw [← HE.out]
  refine wp_region_held_drew (S := fun W => Below W0.heap.size W0 W) (by kernel_rfl) (belowN (Below.refl _ _) 1) (fun hS => ?_)
  change wpAnyH _ _ (opsOf Tryz.f42 1) _ _ 33 (Array.replicate 33 false) _ _
  have hB0 : Below W0.heap.size W0 W0.drew := hS
  have hb0 : Below w.heap.size w W0.drew := hbW.trans (hB0.mono hbW.size)
  clear hS
  generalize W0.drew = V0 at *
  refine wpAnyH_pure (i := 0) (v := .pointer (some ⟨w.heap.size, 0, none⟩)) (at_nth rfl) (by kernel_rfl) (by kernel_rfl) (by kernel_rfl) (fun _ _ _ h => h) (by kernel_rfl) (fun w hSw => by go_simp) hB0 ?_
  simp only [Act.put, List.setIfInBounds_toArray, List.set_cons_succ, List.set_cons_zero]
  refine wpAnyH_pure (i := 1) (v := .agg #[.string d.B, .int .i64 d.a]) (at_nth rfl) (by kernel_rfl) (by kernel_rfl) (by kernel_rfl) (fun _ _ _ h => h) (by kernel_rfl) (fun w hSw => by exact exec_load rfl rfl (run_loadVar_mid _ _ 0 23 [.string d.B, .int .i64 d.a] _ (World.rangeAt_of_block (i0.below hSw i0.lt) 0 2) Tryz.underlying23 rfl infoTape)) hB0 ?_
  simp only [Act.put, List.setIfInBounds_toArray, List.set_cons_succ, List.set_cons_zero]
  refine wpAnyH_call (i := 2) (by kernel_rfl) (at_nth rfl) (by kernel_rfl) (fun w => by kernel_rfl) (((HT.out V0)).mono ?_)
  rintro e V1 ⟨rfl, hx1⟩
  have hB1 : Below W0.heap.size W0 V1 := hB0.trans (hx1.mono hB0.size)
  have hb1 : Below w.heap.size w V1 := hbW.trans (hB1.mono hbW.size)
  refine ⟨_, rfl, hB1, ?_⟩
  try simp only [Act.put, List.setIfInBounds_toArray, List.set_cons_succ, List.set_cons_zero]
  refine wpAnyH_pure (i := 3) (v := .bool true) (at_nth rfl) (by kernel_rfl) (by kernel_rfl) (by kernel_rfl) (fun _ _ _ h => h) (by kernel_rfl) (fun w hSw => by kernel_rfl) hB1 ?_
  simp only [Act.put, List.setIfInBounds_toArray, List.set_cons_succ, List.set_cons_zero]
  refine wpAnyH_pure (i := 4) (v := .agg #[.string d.B, .int .i64 d.a, .slice A d.N.length c, .slice A' d.K.length c', .bool d.c]) (at_nth rfl) (by kernel_rfl) (by kernel_rfl) (by kernel_rfl) (fun _ _ _ h => h) (by kernel_rfl) (fun w hSw => by exact exec_load rfl rfl (run_loadVar_row _ _ 29 29 _ (0, 0) _ (i0.below hSw i0.lt) Tryz.underlying29 rfl infoIde)) hB1 ?_
  simp only [Act.put, List.setIfInBounds_toArray, List.set_cons_succ, List.set_cons_zero]
  refine wpAnyH_call (i := 5) (by kernel_rfl) (at_nth rfl) (by kernel_rfl) (fun w => by kernel_rfl) (((HZ.out V1 (HI.out.keep hb1))).mono ?_)
  rintro e V2 ⟨rfl, hx2⟩
  have hB2 : Below W0.heap.size W0 V2 := hB1.trans (hx2.mono hB1.size)
  have hb2 : Below w.heap.size w V2 := hbW.trans (hB2.mono hbW.size)
  refine ⟨_, rfl, hB2, ?_⟩
  try simp only [Act.put, List.setIfInBounds_toArray, List.set_cons_succ, List.set_cons_zero]
  refine wpAnyH_pure (i := 6) (v := .bool true) (at_nth rfl) (by kernel_rfl) (by kernel_rfl) (by kernel_rfl) (fun _ _ _ h => h) (by kernel_rfl) (fun w hSw => by kernel_rfl) hB2 ?_
  simp only [Act.put, List.setIfInBounds_toArray, List.set_cons_succ, List.set_cons_zero]
  refine wpAnyH_pure (i := 7) (v := .bool true) (at_nth rfl) (by kernel_rfl) (by kernel_rfl) (by kernel_rfl) (fun _ _ _ h => h) (by kernel_rfl) (fun w hSw => by kernel_rfl) hB2 ?_
  simp only [Act.put, List.setIfInBounds_toArray, List.set_cons_succ, List.set_cons_zero]
  refine wpAnyH_pure (i := 8) (v := .agg #[.string d.B, .int .i64 d.a, .slice A d.N.length c, .slice A' d.K.length c', .bool d.c]) (at_nth rfl) (by kernel_rfl) (by kernel_rfl) (by kernel_rfl) (fun _ _ _ h => h) (by kernel_rfl) (fun w hSw => by exact exec_load rfl rfl (run_loadVar_row _ _ 29 29 _ (0, 0) _ (i0.below hSw i0.lt) Tryz.underlying29 rfl infoIde)) hB2 ?_
  simp only [Act.put, List.setIfInBounds_toArray, List.set_cons_succ, List.set_cons_zero]
  refine wpAnyH_pure (i := 10) (v := .pointer (some ⟨w.heap.size, 2, none⟩)) (at_nth rfl) (by kernel_rfl) (by kernel_rfl) (by kernel_rfl) (fun _ _ _ h => h) (by kernel_rfl) (fun w hSw => by go_simp) hB2 ?_
  simp only [Act.put, List.setIfInBounds_toArray, List.set_cons_succ, List.set_cons_zero]
  refine wpAnyH_pure (i := 11) (v := .slice A d.N.length c) (at_nth rfl) (by kernel_rfl) (by kernel_rfl) (by kernel_rfl) (fun _ _ _ h => h) (by kernel_rfl) (fun w hSw => by (have hc := (i0.below hSw i0.lt).cell 2; go_simp)) hB2 ?_
  simp only [Act.put, List.setIfInBounds_toArray, List.set_cons_succ, List.set_cons_zero]
  refine wpAnyH_pure (i := 12) (v := .int .i64 (d.N.length : Int)) (at_nth rfl) (by kernel_rfl) (by kernel_rfl) (by kernel_rfl) (fun _ _ _ h => h) (by kernel_rfl) (fun w hSw => by go_simp) hB2 ?_
  simp only [Act.put, List.setIfInBounds_toArray, List.set_cons_succ, List.set_cons_zero]
  refine wpAnyH_call (i := 9) (by kernel_rfl) (at_nth rfl) (by kernel_rfl) (fun w => by kernel_rfl) ((names_any (.string d.B) (.int .i64 d.a) (.slice A d.N.length c) (.slice A' d.K.length c') (.bool d.c) V2).mono ?_)
  rintro e W ⟨rfl, rfl⟩
  obtain ⟨V3, hW3⟩ : ∃ W, W = V2.alloc (.cells (ideL d A c A' c') 29) := ⟨_, rfl⟩
  have iC3 : Is V3 V2.heap.size 29 (ideL d A c A' c') := by rw [hW3]; exact Is.new _ _ _
  have hB3 : Below W0.heap.size W0 V3 := by rw [hW3]; exact hB2.alloc hB2.size _
  have hb3 : Below w.heap.size w V3 := hbW.trans (hB3.mono hbW.size)
  rw [← hW3]
  clear hW3
  refine ⟨_, rfl, hB3, ?_⟩
  try simp only [Act.put, List.setIfInBounds_toArray, List.set_cons_succ, List.set_cons_zero]
  refine wpAnyH_call (i := 13) (by kernel_rfl) (at_nth rfl) (by kernel_rfl) (fun w => by kernel_rfl) (((HI.out.twN (W := V3) (V2.heap.size) hb3 iC3 HN.out (d.N.length : Int) hi)).mono ?_)
  rintro e V4 ⟨rfl, hx4⟩
  have hB4 : Below W0.heap.size W0 V4 := hB3.trans (hx4.mono hB3.size)
  have hb4 : Below w.heap.size w V4 := hbW.trans (hB4.mono hbW.size)
  refine ⟨_, rfl, hB4, ?_⟩
  try simp only [Act.put, List.setIfInBounds_toArray, List.set_cons_succ, List.set_cons_zero]
  refine wpAnyH_pure (i := 14) (v := .bool true) (at_nth rfl) (by kernel_rfl) (by kernel_rfl) (by kernel_rfl) (fun _ _ _ h => h) (by kernel_rfl) (fun w hSw => by go_simp) hB4 ?_
  simp only [Act.put, List.setIfInBounds_toArray, List.set_cons_succ, List.set_cons_zero]
  refine wpAnyH_pure (i := 15) (v := .bool true) (at_nth rfl) (by kernel_rfl) (by kernel_rfl) (by kernel_rfl) (fun _ _ _ h => h) (by kernel_rfl) (fun w hSw => by kernel_rfl) hB4 ?_
  simp only [Act.put, List.setIfInBounds_toArray, List.set_cons_succ, List.set_cons_zero]
  refine wpAnyH_pure (i := 16) (v := .bool true) (at_nth rfl) (by kernel_rfl) (by kernel_rfl) (by kernel_rfl) (fun _ _ _ h => h) (by kernel_rfl) (fun w hSw => by kernel_rfl) hB4 ?_
  simp only [Act.put, List.setIfInBounds_toArray, List.set_cons_succ, List.set_cons_zero]
  refine wpAnyH_pure (i := 17) (v := .agg #[.string d.B, .int .i64 d.a, .slice A d.N.length c, .slice A' d.K.length c', .bool d.c]) (at_nth rfl) (by kernel_rfl) (by kernel_rfl) (by kernel_rfl) (fun _ _ _ h => h) (by kernel_rfl) (fun w hSw => by exact exec_load rfl rfl (run_loadVar_row _ _ 29 29 _ (0, 0) _ (i0.below hSw i0.lt) Tryz.underlying29 rfl infoIde)) hB4 ?_
  simp only [Act.put, List.setIfInBounds_toArray, List.set_cons_succ, List.set_cons_zero]
  refine wpAnyH_pure (i := 19) (v := .pointer (some ⟨w.heap.size, 3, none⟩)) (at_nth rfl) (by kernel_rfl) (by kernel_rfl) (by kernel_rfl) (fun _ _ _ h => h) (by kernel_rfl) (fun w hSw => by go_simp) hB4 ?_
  simp only [Act.put, List.setIfInBounds_toArray, List.set_cons_succ, List.set_cons_zero]
  refine wpAnyH_pure (i := 20) (v := .slice A' d.K.length c') (at_nth rfl) (by kernel_rfl) (by kernel_rfl) (by kernel_rfl) (fun _ _ _ h => h) (by kernel_rfl) (fun w hSw => by (have hc := (i0.below hSw i0.lt).cell 3; go_simp)) hB4 ?_
  simp only [Act.put, List.setIfInBounds_toArray, List.set_cons_succ, List.set_cons_zero]
  refine wpAnyH_pure (i := 21) (v := .int .i64 (d.K.length : Int)) (at_nth rfl) (by kernel_rfl) (by kernel_rfl) (by kernel_rfl) (fun _ _ _ h => h) (by kernel_rfl) (fun w hSw => by go_simp) hB4 ?_
  simp only [Act.put, List.setIfInBounds_toArray, List.set_cons_succ, List.set_cons_zero]
  refine wpAnyH_call (i := 18) (by kernel_rfl) (at_nth rfl) (by kernel_rfl) (fun w => by kernel_rfl) ((cells_any (.string d.B) (.int .i64 d.a) (.slice A d.N.length c) (.slice A' d.K.length c') (.bool d.c) V4).mono ?_)
  rintro e W ⟨rfl, rfl⟩
  obtain ⟨V5, hW5⟩ : ∃ W, W = V4.alloc (.cells (ideL d A c A' c') 29) := ⟨_, rfl⟩
  have iC5 : Is V5 V4.heap.size 29 (ideL d A c A' c') := by rw [hW5]; exact Is.new _ _ _
  have hB5 : Below W0.heap.size W0 V5 := by rw [hW5]; exact hB4.alloc hB4.size _
  have hb5 : Below w.heap.size w V5 := hbW.trans (hB5.mono hbW.size)
  rw [← hW5]
  clear hW5
  refine ⟨_, rfl, hB5, ?_⟩
  try simp only [Act.put, List.setIfInBounds_toArray, List.set_cons_succ, List.set_cons_zero]
  refine wpAnyH_call (i := 22) (by kernel_rfl) (at_nth rfl) (by kernel_rfl) (fun w => by kernel_rfl) (((HI.out.twK (W := V5) (V4.heap.size) hb5 iC5 HK.out (d.K.length : Int) hk)).mono ?_)
  rintro e V6 ⟨rfl, hx6⟩
  have hB6 : Below W0.heap.size W0 V6 := hB5.trans (hx6.mono hB5.size)
  have hb6 : Below w.heap.size w V6 := hbW.trans (hB6.mono hbW.size)
  refine ⟨_, rfl, hB6, ?_⟩
  try simp only [Act.put, List.setIfInBounds_toArray, List.set_cons_succ, List.set_cons_zero]
  refine wpAnyH_pure (i := 23) (v := .bool true) (at_nth rfl) (by kernel_rfl) (by kernel_rfl) (by kernel_rfl) (fun _ _ _ h => h) (by kernel_rfl) (fun w hSw => by go_simp) hB6 ?_
  simp only [Act.put, List.setIfInBounds_toArray, List.set_cons_succ, List.set_cons_zero]
  refine wpAnyH_pure (i := 24) (v := .bool true) (at_nth rfl) (by kernel_rfl) (by kernel_rfl) (by kernel_rfl) (fun _ _ _ h => h) (by kernel_rfl) (fun w hSw => by kernel_rfl) hB6 ?_
  simp only [Act.put, List.setIfInBounds_toArray, List.set_cons_succ, List.set_cons_zero]
  refine wpAnyH_pure (i := 25) (v := .bool true) (at_nth rfl) (by kernel_rfl) (by kernel_rfl) (by kernel_rfl) (fun _ _ _ h => h) (by kernel_rfl) (fun w hSw => by kernel_rfl) hB6 ?_
  simp only [Act.put, List.setIfInBounds_toArray, List.set_cons_succ, List.set_cons_zero]
  refine wpAnyH_pure (i := 26) (v := .pointer (some ⟨w.heap.size, 4, none⟩)) (at_nth rfl) (by kernel_rfl) (by kernel_rfl) (by kernel_rfl) (fun _ _ _ h => h) (by kernel_rfl) (fun w hSw => by go_simp) hB6 ?_
  simp only [Act.put, List.setIfInBounds_toArray, List.set_cons_succ, List.set_cons_zero]
  refine wpAnyH_pure (i := 27) (v := .bool d.c) (at_nth rfl) (by kernel_rfl) (by kernel_rfl) (by kernel_rfl) (fun _ _ _ h => h) (by kernel_rfl) (fun w hSw => by (have hc := (i0.below hSw i0.lt).cell 4; go_simp)) hB6 ?_
  simp only [Act.put, List.setIfInBounds_toArray, List.set_cons_succ, List.set_cons_zero]
  refine wpAnyH_pure (i := 28) (v := .agg #[.string d.B, .int .i64 d.a, .slice A d.N.length c, .slice A' d.K.length c', .bool d.c]) (at_nth rfl) (by kernel_rfl) (by kernel_rfl) (by kernel_rfl) (fun _ _ _ h => h) (by kernel_rfl) (fun w hSw => by exact exec_load rfl rfl (run_loadVar_row _ _ 29 29 _ (0, 0) _ (i0.below hSw i0.lt) Tryz.underlying29 rfl infoIde)) hB6 ?_
  simp only [Act.put, List.setIfInBounds_toArray, List.set_cons_succ, List.set_cons_zero]
  refine wpAnyH_call (i := 29) (by kernel_rfl) (at_nth rfl) (by kernel_rfl) (fun w => by kernel_rfl) (((clashes_any d A c A' c' V6 (HI.out.keep hb6) HN.out HK.out)).mono ?_)
  rintro e V7 ⟨rfl, hx7⟩
  have hB7 : Below W0.heap.size W0 V7 := hB6.trans (hx7.mono hB6.size)
  have hb7 : Below w.heap.size w V7 := hbW.trans (hB7.mono hbW.size)
  refine ⟨_, rfl, hB7, ?_⟩
  try simp only [Act.put, List.setIfInBounds_toArray, List.set_cons_succ, List.set_cons_zero]
  refine wpAnyH_pure (i := 30) (v := .bool (d.c == clash8 d.N d.K)) (at_nth rfl) (by kernel_rfl) (by kernel_rfl) (by kernel_rfl) (fun _ _ _ h => h) (by kernel_rfl) (fun w hSw => by go_simp) hB7 ?_
  simp only [Act.put, List.setIfInBounds_toArray, List.set_cons_succ, List.set_cons_zero]
  refine wpAnyH_pure (i := 31) (v := .bool (d.c == clash8 d.N d.K)) (at_nth rfl) (by kernel_rfl) (by kernel_rfl) (by kernel_rfl) (fun _ _ _ h => h) (by kernel_rfl) (fun w hSw => by kernel_rfl) hB7 ?_
  simp only [Act.put, List.setIfInBounds_toArray, List.set_cons_succ, List.set_cons_zero]
  refine wpAnyH_pure (i := 32) (v := .bool (d.c == clash8 d.N d.K)) (at_nth rfl) (by kernel_rfl) (by kernel_rfl) (by kernel_rfl) (fun _ _ _ h => h) (by kernel_rfl) (fun w hSw => by kernel_rfl) hB7 ?_
  simp only [Act.put, List.setIfInBounds_toArray, List.set_cons_succ, List.set_cons_zero]
  refine wpAnyH_done (by kernel_rfl) ?_ _
  go_wp2
  go_ret
  exact ⟨rfl, hb7⟩

/-- Right, whatever it is asked. -/
theorem iright_any (d : Ide) (A : Option Addr) (c : Nat) (A' : Option Addr) (c' : Nat) (w : World) (h : InI w d A c A' c') :
    Calls Tryz.prog 42 #[ideV d A c A' c'] w fun e w' => e = .returned (.bool (right8 d)) ∧ Below w.heap.size w w' := by
  have hr : right8 d = (rightV d.B d.a && (sized8 d && (!pairs8 sameIn d.N && (!pairs8 sameAsk d.K && (d.c == clash8 d.N d.K))))) := by
    unfold right8 sized8
    cases rightV d.B d.a <;> cases decide (d.N.length ≤ 2000) <;> cases decide (d.K.length ≤ 2000) <;> cases d.N.all okN <;> cases d.K.all okK <;> cases pairs8 sameIn d.N <;> cases pairs8 sameAsk d.K <;> rfl
  cases h1 : rightV d.B d.a with
  | false => rw [hr, h1]; exact right_a d A c A' c' w h h1
  | true =>
    cases h2 : sized8 d with
    | false => rw [hr, h1, h2]; exact right_b d A c A' c' w h h1 h2
    | true =>
      cases h3 : pairs8 sameIn d.N with
      | true => rw [hr, h1, h2, h3]; exact right_c d A c A' c' w h h1 h2 h3
      | false =>
        cases h4 : pairs8 sameAsk d.K with
        | true => rw [hr, h1, h2, h3, h4]; exact right_d d A c A' c' w h h1 h2 h3 h4
        | false => rw [hr, h1, h2, h3, h4]; exact right_e d A c A' c' w h h1 h2 h3 h4
end Go.Proofs.YtfgdcpolfekgjaaGreat
namespace Go.Proofs.YtfgdcpolfekgjaaGreat
open Go.RowKit Go.Shelf

theorem infoNam8 : (Tryz.prog.info? 89).map (fun i => (i.zero, i.size, i.bytes)) = some (some (.agg #[.string ⟨#[]⟩, .string ⟨#[]⟩]), 2, 32) := by kernel_rfl
theorem infoMad8 : (Tryz.prog.info? 91).map (fun i => (i.zero, i.size, i.bytes)) = some (some (.agg #[.string ⟨#[]⟩, .string ⟨#[]⟩, .string ⟨#[]⟩]), 3, 48) := by kernel_rfl

set_option maxHeartbeats 2000000 in
set_option maxRecDepth 100000 in
theorem cloneN_any (A : Option Addr) (cap : Nat) (L : List Nam8) (w : World) (hc : InV w A (flN L)) (hn : A = none → cap = 0) (hfit : L.length * 32 ≤ 140737488355328) :
    Calls Tryz.prog 149 #[.slice A L.length cap] w fun e w' => ∃ A' c', e = .returned (.slice A' L.length c') ∧ RowV w' w.heap.size 89 2 A' c' L.length (flN L) ∧ Below w.heap.size w w' := by
  obtain ⟨i0, hi, hz0, hz1, hz2⟩ := info_parts infoNam8
  have q22 : ∀ (w : World) (a : Option Addr) (n c n' c' : Nat), (binOp .eql 26 (.slice a n c) (.slice none n' c')).run Tryz.prog w = .ok (.bool a.isNone) w := fun w a n c n' c' => Lib.run_eql_slice_nil w _ _ a n c n' c' Tryz.underlying26
  cases A with
  | none =>
    have h0 : L = [] := by
      have := hc.nil_of
      cases L with
      | nil => rfl
      | cons x l => cases this
    subst h0
    obtain rfl : cap = 0 := hn rfl
    go_enter Tryz.func149, Tryz.ntmps149
    go_wp2
    go_ret
    exact ⟨_, _, rfl, RowV.nil _ _ _ _, Below.refl _ _⟩
  | some p =>
    have HC := Lib.hid hc
    have HL := Lib.hid (flN_len L)
    clear hc hn
    go_enter Tryz.func149, Tryz.ntmps149
    go_wp2_with (at_builtin; refine wpList_append_own _ rfl _ _ 26 rfl w.heap.size 89 i0 (.agg #[.string ⟨#[]⟩, .string ⟨#[]⟩]) 2 32 Tryz.underlying26 hi hz0 hz1 hz2 rfl (by decide) _ _ _ rfl (World.ownsRow_made w #[] 0 (Nat.le_refl _) (Nat.zero_le _) rfl) p L.length cap (flN L) rfl ?qc1 ?qc2 ?qc3 ?qc4 ?qc5 ?qc6 ?_)
    case qc1 => exact HL.out
    case qc2 =>
      intro j u hj
      obtain ⟨b, off, h1, _, h2⟩ := HC.out j u hj
      cases h1
      rw [Addr.add_lit]
      exact Lib.cell?_alloc_some _ h2
    case qc3 => exact flN_one L
    case qc4 => unfold maxLen; omega
    case qc5 => omega
    case qc6 => simp
    intro v' w1 hown hgrow hnil
    obtain ⟨A', c', rfl⟩ := owns_sliceG hown
    go_wp2
    go_ret
    refine ⟨A', c', rfl, hown, ?_⟩
    exact ((Below.refl _ w).alloc (Nat.le_refl _) _).grown hgrow (by simp) (by intro k hk; simp [Value.ownBlock] at hk; omega)

set_option maxHeartbeats 2000000 in
set_option maxRecDepth 100000 in
theorem cloneK_any (A : Option Addr) (cap : Nat) (L : List Cel8) (w : World) (hc : InV w A (flK L)) (hn : A = none → cap = 0) (hfit : L.length * 48 ≤ 140737488355328) :
    Calls Tryz.prog 150 #[.slice A L.length cap] w fun e w' => ∃ A' c', e = .returned (.slice A' L.length c') ∧ RowV w' w.heap.size 91 3 A' c' L.length (flK L) ∧ Below w.heap.size w w' := by
  obtain ⟨i0, hi, hz0, hz1, hz2⟩ := info_parts infoMad8
  have q22 : ∀ (w : World) (a : Option Addr) (n c n' c' : Nat), (binOp .eql 27 (.slice a n c) (.slice none n' c')).run Tryz.prog w = .ok (.bool a.isNone) w := fun w a n c n' c' => Lib.run_eql_slice_nil w _ _ a n c n' c' Tryz.underlying27
  cases A with
  | none =>
    have h0 : L = [] := by
      have := hc.nil_of
      cases L with
      | nil => rfl
      | cons x l => cases this
    subst h0
    obtain rfl : cap = 0 := hn rfl
    go_enter Tryz.func150, Tryz.ntmps150
    go_wp2
    go_ret
    exact ⟨_, _, rfl, RowV.nil _ _ _ _, Below.refl _ _⟩
  | some p =>
    have HC := Lib.hid hc
    have HL := Lib.hid (flK_len L)
    clear hc hn
    go_enter Tryz.func150, Tryz.ntmps150
    go_wp2_with (at_builtin; refine wpList_append_own _ rfl _ _ 27 rfl w.heap.size 91 i0 (.agg #[.string ⟨#[]⟩, .string ⟨#[]⟩, .string ⟨#[]⟩]) 3 48 Tryz.underlying27 hi hz0 hz1 hz2 rfl (by decide) _ _ _ rfl (World.ownsRow_made w #[] 0 (Nat.le_refl _) (Nat.zero_le _) rfl) p L.length cap (flK L) rfl ?qc1 ?qc2 ?qc3 ?qc4 ?qc5 ?qc6 ?_)
    case qc1 => exact HL.out
    case qc2 =>
      intro j u hj
      obtain ⟨b, off, h1, _, h2⟩ := HC.out j u hj
      cases h1
      rw [Addr.add_lit]
      exact Lib.cell?_alloc_some _ h2
    case qc3 => exact flK_one L
    case qc4 => unfold maxLen; omega
    case qc5 => omega
    case qc6 => simp
    intro v' w1 hown hgrow hnil
    obtain ⟨A', c', rfl⟩ := owns_sliceG hown
    go_wp2
    go_ret
    refine ⟨A', c', rfl, hown, ?_⟩
    exact ((Below.refl _ w).alloc (Nat.le_refl _) _).grown hgrow (by simp) (by intro k hk; simp [Value.ownBlock] at hk; omega)
end Go.Proofs.YtfgdcpolfekgjaaGreat
namespace Go.Proofs.YtfgdcpolfekgjaaGreat
open Go.RowKit Go.Shelf

theorem ideL_one (d : Ide) (A : Option Addr) (c : Nat) (A' : Option Addr) (c' : Nat) : (ideL d A c A' c').all (·.oneCell') = true := by
  rw [← Array.all_toList]
  rfl
set_option maxHeartbeats 2000000 in
set_option maxRecDepth 100000 in
theorem copy_any (d : Ide) (A : Option Addr) (c : Nat) (A' : Option Addr) (c' : Nat) (w : World) (h : InI w d A c A' c') :
    Calls Tryz.prog 136 #[ideV d A c A' c'] w fun e w' => ∃ A1 c1 A2 c2, e = .returned (ideV d A1 c1 A2 c2) ∧ RowV w' w.heap.size 89 2 A1 c1 d.N.length (flN d.N) ∧ RowV w' w.heap.size 91 3 A2 c2 d.K.length (flK d.K) ∧ Below w.heap.size w w' := by
  have HI := Lib.hid h
  have CN := Lib.hid (fun W (hb : Below w.heap.size w W) => cloneN_any A c d.N W (h.n.keep hb) h.nil h.fit)
  have CK := Lib.hid (fun W (hb : Below w.heap.size w W) => cloneK_any A' c' d.K W (h.k.keep hb) h.nilK h.fitK)
  clear h
  obtain ⟨W0, hW0⟩ : ∃ W, W = (w.alloc (.cells (ideL d A c A' c') 29)).alloc (.cells #[.string ⟨#[]⟩, .int .i64 0, .slice none 0 0, .slice none 0 0, .bool false] 29) := ⟨_, rfl⟩
  have i1 : Is W0 w.heap.size 29 (ideL d A c A' c') := by rw [hW0]; exact heap_alloc2_old w _ _
  have i2 : Is W0 (w.heap.size + 1) 29 #[.string ⟨#[]⟩, .int .i64 0, .slice none 0 0, .slice none 0 0, .bool false] := by rw [hW0]; exact heap_alloc2_new w _ _
  have hB0 : Below w.heap.size w W0 := by rw [hW0]; exact ((Below.refl _ _).alloc (Nat.le_refl _) _).alloc (by simp) _
  go_enter Tryz.func136, Tryz.ntmps136
  go_wp2_with fail
  rw [← hW0]
  clear hW0
  have c2 : W0.cell? ⟨w.heap.size, 2, none⟩ = some (.slice A d.N.length c) := i1.cell 2
  have c3 : W0.cell? ⟨w.heap.size, 3, none⟩ = some (.slice A' d.K.length c') := i1.cell 3
  have i1d : Is W0.drew w.heap.size 29 (ideL d A c A' c') := i1
  have i2d : Is W0.drew (w.heap.size + 1) 29 #[.string ⟨#[]⟩, .int .i64 0, .slice none 0 0, .slice none 0 0, .bool false] := i2
  have hB0d : Below w.heap.size w W0.drew := belowN hB0 1
  go_region_with (first
    | (go_at_call 149; refine (CN.out _ hB0d).mono ?_; rintro e W1 ⟨A1, c1, rfl, hr1, hb1⟩; have hB1 : Below w.heap.size w W1 := hB0d.trans (hb1.mono hB0d.size); have j1 := i1d.below hb1 i1d.lt; have j2 := i2d.below hb1 i2d.lt; have d3 : W1.cell? ⟨w.heap.size, 3, none⟩ = some (.slice A' d.K.length c') := j1.cell 3)
    | (go_at_call 150; refine (CK.out _ hB1).mono ?_; rintro e W2 ⟨A2, c4, rfl, hr2, hb2⟩; have hB2 : Below w.heap.size w W2 := hB1.trans (hb2.mono hB1.size); have k1 := j1.below hb2 j1.lt; have k2 := j2.below hb2 j2.lt; have hr1' := hr1.below hb2; have e2 : W2.cell? ⟨w.heap.size, 2, none⟩ = some (.slice A d.N.length c) := k1.cell 2; have e3 : W2.cell? ⟨w.heap.size, 3, none⟩ = some (.slice A' d.K.length c') := k1.cell 3; have f2 := k1.frozen 2; have f3 := k1.frozen 3))
  all_goals
    (have p1 := ((k1.set 2 (.slice A1 d.N.length c1)).set 3 (.slice A2 d.K.length c4))
     have p2 := ((k2.far (p := ⟨w.heap.size, 2, none⟩) (by simp) (.slice A1 d.N.length c1)).far (p := ⟨w.heap.size, 3, none⟩) (by simp) (.slice A2 d.K.length c4))
     have r1 := (hr1'.far (p := ⟨w.heap.size, 2, none⟩) k1 (by decide) (.slice A1 d.N.length c1)).far (p := ⟨w.heap.size, 3, none⟩) (k1.set 2 _) (by decide) (.slice A2 d.K.length c4)
     have r2 := (hr2.far (p := ⟨w.heap.size, 2, none⟩) k1 (by decide) (.slice A1 d.N.length c1)).far (p := ⟨w.heap.size, 3, none⟩) (k1.set 2 _) (by decide) (.slice A2 d.K.length c4)
     have z := (hB2.setCell (p := ⟨w.heap.size, 2, none⟩) (by simp) (.slice A1 d.N.length c1)).setCell (p := ⟨w.heap.size, 3, none⟩) (by simp) (.slice A2 d.K.length c4)
     have m1 : Is ((W2.setCell ⟨w.heap.size, 2, none⟩ (.slice A1 d.N.length c1)).setCell ⟨w.heap.size, 3, none⟩ (.slice A2 d.K.length c4)) w.heap.size 29 (ideL d A1 c1 A2 c4) := p1
     have g1 : w.heap.size ≤ W0.drew.heap.size := hB0d.size
     have g2 : w.heap.size ≤ W1.heap.size := hB1.size
     have R1 := Lib.hid (r1.mono g1)
     have R2 := Lib.hid (r2.mono g2)
     have Z := Lib.hid z
     clear p1 r1 r2 z hr1 hr1' hr2 e2 e3 f2 f3 d3 c2 c3 k1 k2 j1 j2 i1 i2 i1d i2d hb1 hb2 hB1 hB2 hB0d hB0
     go_wp2_with (first | (refine wpList_load_row rfl 29 _ rfl w.heap.size rfl 29 _ (0, 0) _ m1 Tryz.underlying29 rfl infoIde ?_) | (refine wpList_store_row rfl 29 _ _ rfl (w.heap.size + 1) (ideL d A1 c1 A2 c4) rfl rfl 29 _ p2 infoIde rfl (ideL_one _ _ _ _ _) ?_))
     exact bodyPost_ret (results_cell_row Tryz.results136 _ _ (w.heap.size + 1) 29 _ (0, 0) _ rfl (p2.row _) Tryz.underlying29 rfl infoIde) rfl ⟨A1, c1, A2, c4, rfl, R1.out.rowFar p2 (by decide) _, R2.out.rowFar p2 (by decide) _, belowRow Z.out (by simp) _⟩)
end Go.Proofs.YtfgdcpolfekgjaaGreat
namespace Go.Proofs.YtfgdcpolfekgjaaGreat
open Go.RowKit Go.Shelf

/-- an ideal of nothing. -/
abbrev zer8 : Array Value := #[.string ⟨#[]⟩, .int .i64 0, .slice none 0 0, .slice none 0 0, .bool false]
theorem find8_find {κ α : Type} [DecidableEq κ] (f : α → κ × ByteArray) (l : List α) (k : κ) : find8 (l.map f) k = match l.find? (fun x => decide ((f x).1 = k)) with | some x => ((f x).2, true) | none => (⟨#[]⟩, false) := by
  rw [find8, List.find?_map]
  show (match (l.find? fun x => decide ((f x).1 = k)).map f with | some x => (x.2, true) | none => (⟨#[]⟩, false)) = _
  cases l.find? fun x => decide ((f x).1 = k) <;> rfl
theorem ope8_of {d : Ide} {l c : ByteArray} (h : right8 d = true) : ope8 d l c = if (find8 (d.K.map opnK) (l, c)).2 then ((find8 (d.K.map opnK) (l, c)).1, 0) else (⟨#[]⟩, 11) := by
  rw [ope8, if_pos h, find8_find]
  have e : (fun x : Cel8 => decide ((opnK x).1 = (l, c))) = fun x => decide (x.1 = l) && decide (x.2.2 = c) := by
    funext x
    simp [opnK]
  rw [e]
  cases d.K.find? fun x => decide (x.1 = l) && decide (x.2.2 = c) <;> rfl
section
variable {w W : World} {d : Ide} {A : Option Addr} {c : Nat} {A' : Option Addr} {c' : Nat} (h : InI w d A c A' c') (Bd : Nat) (hb : Below w.heap.size w W) (hBd : Is W Bd 29 (ideL d A c A' c'))
include h hb hBd
theorem InI.fiO (s : ByteArray) : Calls Tryz.prog 142 #[.func (.func 78) #[] #[.pointer (some ⟨Bd, 0, none⟩)], .string s] W fun e w' => e = .returned (.tuple #[.string (find8 (d.N.map outN) s).1, .bool (find8 (d.N.map outN) s).2]) ∧ Below W.heap.size W w' :=
  findS_any 78 #[.pointer (some ⟨Bd, 0, none⟩)] (d.N.map outN) s W (enters_of Tryz.func78 (by kernel_rfl) rfl) (h.seqO 4 Bd hb hBd (by omega))
theorem InI.fiN (s : ByteArray) : Calls Tryz.prog 142 #[.func (.func 69) #[] #[.pointer (some ⟨Bd, 0, none⟩)], .string s] W fun e w' => e = .returned (.tuple #[.string (find8 d.N s).1, .bool (find8 d.N s).2]) ∧ Below W.heap.size W w' :=
  findS_any 69 #[.pointer (some ⟨Bd, 0, none⟩)] d.N s W (enters_of Tryz.func69 (by kernel_rfl) rfl) (h.seqN 4 Bd hb hBd (by omega))
theorem InI.fiK (s1 s2 : ByteArray) : Calls Tryz.prog 135 #[.func (.func 70) #[] #[.pointer (some ⟨Bd, 0, none⟩)], .agg #[.string s1, .string s2]] W fun e w' => e = .returned (.tuple #[.string (find8 (d.K.map askK) (s1, s2)).1, .bool (find8 (d.K.map askK) (s1, s2)).2]) ∧ Below W.heap.size W w' :=
  findK_any 70 #[.pointer (some ⟨Bd, 0, none⟩)] (d.K.map askK) s1 s2 W (enters_of Tryz.func70 (by kernel_rfl) rfl) (h.seqK 4 Bd hb hBd (by omega))
theorem InI.fiT (s1 s2 : ByteArray) : Calls Tryz.prog 138 #[.func (.func 79) #[] #[.pointer (some ⟨Bd, 0, none⟩)], .agg #[.string s1, .string s2]] W fun e w' => e = .returned (.tuple #[.string (find8 (d.K.map opnK) (s1, s2)).1, .bool (find8 (d.K.map opnK) (s1, s2)).2]) ∧ Below W.heap.size W w' :=
  findO_any 79 #[.pointer (some ⟨Bd, 0, none⟩)] (d.K.map opnK) s1 s2 W (enters_of Tryz.func79 (by kernel_rfl) rfl) (h.seqT 4 Bd hb hBd (by omega))
end

set_option maxRecDepth 100000 in
set_option maxHeartbeats 2000000 in
theorem inew_any (B : ByteArray) (a : Int) (w : World) :
    Calls Tryz.prog 32 #[.agg #[.string B, .int .i64 a]] w fun e w' => e = .returned (.tuple #[ideV (new8 B a).1 none 0 none 0, .int .i64 (new8 B a).2]) ∧ Below w.heap.size w w' := by
  have C := Lib.hid (tright_any B a)
  obtain ⟨W1, hW1⟩ : ∃ W, W = (w.alloc (.cells #[.string B, .int .i64 a] 23)).alloc (.cells zer8 29) := ⟨_, rfl⟩
  have i1 : Is W1 w.heap.size 23 #[.string B, .int .i64 a] := by rw [hW1]; exact heap_alloc2_old w _ _
  have i2 : Is W1 (w.heap.size + 1) 29 zer8 := by rw [hW1]; exact heap_alloc2_new w _ _
  have hB : Below w.heap.size w W1 := by rw [hW1]; exact ((Below.refl _ _).alloc (Nat.le_refl _) _).alloc (by simp) _
  have k0 : W1.cell? ⟨w.heap.size, 0, none⟩ = some (.string B) := i1.cell 0
  have k1 : W1.cell? ⟨w.heap.size, 1, none⟩ = some (.int .i64 a) := i1.cell 1
  cases hr : rightV B a with
  | false =>
    have hz : new8 B a = (⟨⟨#[]⟩, 0, [], [], false⟩, 1) := by rw [new8, hr]; rfl
    rw [hz]
    rw [hr] at C
    clear hz hr
    go_enter Tryz.func32, Tryz.ntmps32
    go_wp2_with fail
    rw [← hW1]
    clear hW1
    go_wp2_with fail
    refine (C.out _).mono ?_
    rintro e W2 ⟨rfl, hb⟩
    have j2 := i2.below hb i2.lt
    have hB2 := hB.trans (hb.mono hB.size)
    clear k0 k1
    go_wp2_with (first | (refine wpList_store_row rfl 29 _ _ rfl (w.heap.size + 1) zer8 rfl rfl 29 _ j2 infoIde rfl (by rw [← Array.all_toList]; rfl) ?_))
    exact bodyPost_ret (results_row_tmp Tryz.results32 _ _ (w.heap.size + 1) 29 _ (0, 0) _ rfl (j2.row _) Tryz.underlying29 rfl infoIde) rfl ⟨rfl, belowRow hB2 (by simp) _⟩
  | true =>
    have hz : new8 B a = (⟨B, a, [], [], false⟩, 0) := by rw [new8, hr]; rfl
    rw [hz]
    rw [hr] at C
    clear hz hr
    go_enter Tryz.func32, Tryz.ntmps32
    go_wp2_with fail
    rw [← hW1]
    clear hW1
    go_wp2_with fail
    refine (C.out _).mono ?_
    rintro e W2 ⟨rfl, hb⟩
    have j1 := i1.below hb i1.lt
    have j2 := i2.below hb i2.lt
    have hB2 := hB.trans (hb.mono hB.size)
    clear k0 k1
    have k0 : W2.cell? ⟨w.heap.size, 0, none⟩ = some (.string B) := j1.cell 0
    have k1 : W2.cell? ⟨w.heap.size, 1, none⟩ = some (.int .i64 a) := j1.cell 1
    go_wp2_with (first | (refine wpList_store_row rfl 29 _ _ rfl (w.heap.size + 1) #[.string B, .int .i64 a, .slice none 0 0, .slice none 0 0, .bool false] rfl rfl 29 _ j2 infoIde rfl (by rw [← Array.all_toList]; rfl) ?_))
    exact bodyPost_ret (results_row_tmp Tryz.results32 _ _ (w.heap.size + 1) 29 _ (0, 0) _ rfl (j2.row _) Tryz.underlying29 rfl infoIde) rfl ⟨rfl, belowRow hB2 (by simp) _⟩
set_option maxRecDepth 100000 in
set_option maxHeartbeats 2000000 in
theorem open_any (d : Ide) (A : Option Addr) (c : Nat) (A' : Option Addr) (c' : Nat) (l s : ByteArray) (w : World) (h : InI w d A c A' c') :
    Calls Tryz.prog 240 #[ideV d A c A' c', .string l, .string s] w fun e w' => e = .returned (.tuple #[.string (ope8 d l s).1, .int .i64 (ope8 d l s).2]) ∧ Below w.heap.size w w' := by
  have HI := Lib.hid h
  have C := Lib.hid (fun (W : World) (hw : InI W d A c A' c') => iright_any d A c A' c' W hw)
  clear h
  obtain ⟨W1, hW1⟩ : ∃ W, W = w.alloc (.cells (ideL d A c A' c') 29) := ⟨_, rfl⟩
  have i1 : Is W1 w.heap.size 29 (ideL d A c A' c') := by rw [hW1]; exact Is.new _ _ _
  have hB : Below w.heap.size w W1 := by rw [hW1]; exact (Below.refl _ _).alloc (Nat.le_refl _) _
  cases hr : right8 d with
  | false =>
    have hz : ope8 d l s = (⟨#[]⟩, 1) := by rw [ope8, hr]; rfl
    rw [hz]
    rw [hr] at C
    clear hz hr
    go_enter Tryz.func240, Tryz.ntmps240
    go_wp2_with fail
    rw [← hW1]
    clear hW1
    go_wp2_with (refine wpList_load_row rfl 29 _ rfl w.heap.size rfl 29 _ (0, 0) _ i1 Tryz.underlying29 rfl infoIde ?_)
    refine (C.out _ (HI.out.keep hB)).mono ?_
    rintro e W2 ⟨rfl, hb⟩
    go_wp2
    exact bodyPost_ret (results_tmp2 Tryz.results240 _ _ _) rfl ⟨rfl, hB.trans (hb.mono hB.size)⟩
  | true =>
    have hz := ope8_of (l := l) (c := s) hr
    have CF := Lib.hid (fun (W : World) (Bd : Nat) (hb : Below w.heap.size w W) (hBd : Is W Bd 29 (ideL d A c A' c')) => HI.out.fiT Bd hb hBd l s)
    rw [hz]
    rw [hr] at C
    clear hz hr
    generalize find8 (d.K.map opnK) (l, s) = F at *
    obtain ⟨x, is⟩ := F
    cases is with
    | false =>
      go_enter Tryz.func240, Tryz.ntmps240
      go_wp2_with fail
      rw [← hW1]
      clear hW1
      go_wp2_with (refine wpList_load_row rfl 29 _ rfl w.heap.size rfl 29 _ (0, 0) _ i1 Tryz.underlying29 rfl infoIde ?_)
      refine (C.out _ (HI.out.keep hB)).mono ?_
      rintro e W2 ⟨rfl, hb⟩
      have j1 := i1.below hb i1.lt
      have hB2 := hB.trans (hb.mono hB.size)
      go_wp2_with (refine wpList_load_row rfl 29 _ rfl w.heap.size rfl 29 _ (0, 0) _ j1 Tryz.underlying29 rfl infoIde ?_)
      refine (texts_any _ _ _ _ _ _).mono ?_
      rintro e W3 ⟨rfl, rfl⟩
      have k1 : Is (W2.alloc (.cells (ideL d A c A' c') 29)) W2.heap.size 29 (ideL d A c A' c') := Is.new _ _ _
      have hB3 := hB2.alloc hB2.size (.cells (ideL d A c A' c') 29)
      go_wp2_with fail
      refine (CF.out _ _ hB3 k1).mono ?_
      rintro e W4 ⟨rfl, hb4⟩
      go_wp2
      exact bodyPost_ret (results_tmp2 Tryz.results240 _ _ _) rfl ⟨rfl, hB3.trans (hb4.mono hB3.size)⟩
    | true =>
      go_enter Tryz.func240, Tryz.ntmps240
      go_wp2_with fail
      rw [← hW1]
      clear hW1
      go_wp2_with (refine wpList_load_row rfl 29 _ rfl w.heap.size rfl 29 _ (0, 0) _ i1 Tryz.underlying29 rfl infoIde ?_)
      refine (C.out _ (HI.out.keep hB)).mono ?_
      rintro e W2 ⟨rfl, hb⟩
      have j1 := i1.below hb i1.lt
      have hB2 := hB.trans (hb.mono hB.size)
      go_wp2_with (refine wpList_load_row rfl 29 _ rfl w.heap.size rfl 29 _ (0, 0) _ j1 Tryz.underlying29 rfl infoIde ?_)
      refine (texts_any _ _ _ _ _ _).mono ?_
      rintro e W3 ⟨rfl, rfl⟩
      have k1 : Is (W2.alloc (.cells (ideL d A c A' c') 29)) W2.heap.size 29 (ideL d A c A' c') := Is.new _ _ _
      have hB3 := hB2.alloc hB2.size (.cells (ideL d A c A' c') 29)
      go_wp2_with fail
      refine (CF.out _ _ hB3 k1).mono ?_
      rintro e W4 ⟨rfl, hb4⟩
      go_wp2
      exact bodyPost_ret (results_tmp2 Tryz.results240 _ _ _) rfl ⟨rfl, hB3.trans (hb4.mono hB3.size)⟩
end Go.Proofs.YtfgdcpolfekgjaaGreat

