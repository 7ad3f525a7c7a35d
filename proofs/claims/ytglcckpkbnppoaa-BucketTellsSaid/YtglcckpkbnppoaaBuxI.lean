/-
  Layer 12: contract of bucket.onTheirWays: one round from the first Free bucket on. Conditions: the store lies where its slice points to; it has no more than 4096 buckets, and a Free one.
-/
import Derived.Test.YtglcckpkbnppoaaBuxH
import Derived.Test.YtglcckpkbnppoaaBuxD
namespace Go.Proofs.Ytglcckpkbnppoaa
open Go.RowKit Go.Shelf
attribute [local go_sem] Oper.semAt_some

theorem remI12 {a b : Int} {d : Nat} (h : Int.tmod a b = (d : Int)) (hd : d < 1000000) (hb : b ≠ 0) (W : World) : (binOp .rem 3 (.int .i64 a) (.int .i64 b)).run Try.prog W = .ok (.int .i64 (d : Int)) W := by
  have w1 := IntWalk.i64_in (d : Int) (by omega)
  go_simp
theorem geI12 (a b : Int) (W : World) : (binOp .geq 3 (.int .i64 a) (.int .i64 b)).run Try.prog W = .ok (.bool (decide (b ≤ a))) W := by
  go_simp
section
variable {F : Fence} {n : Nat} {P : Program} {ops : Array Oper} {rest : List Oper} {o : Oper} {a : Act} {w : World} {Q : Exit → Act → World → Prop}
/-- a store of one cell. -/
theorem wpListIn_store_one12 (hgd : o.guard = none) (ty : TypeId) (x y : Operand) (ho : o.op = .store ty x y) (g : Nat) (v : Value) (hx : a.eval x = .pointer (some ⟨g, 0, none⟩)) (hy : a.eval y = v)
    {t : TypeId} {old : Value} (hg : Is w g t #[old]) (hi : (P.info? ty).map (·.size) = some 1) (h1 : v.oneCell' = true)
    (h : wpListIn F n P ops Q rest (a.put o.dst undef) (w.setRow g #[v])) : wpListIn F n P ops Q (o :: rest) a w := by
  refine wpListIn_plain hgd fun K hK' => ⟨by simp [Oper.about, ho], ?_⟩
  rw [Oper.semAt_plain F _ _ (by rw [ho]; intro c hc'; cases hc')]
  simp only [execOp, ho, hx, hy, Instr.storeAt, Instr.sureAddr, Sem.run_bind, Sem.run_pure, Result.andThen_ok, run_storeVar_one w g t ty old v hg hi h1]
  exact hK' _ _ h
end
theorem eqI10_no12 {a b : Int} (h : a ≠ b) (W : World) : (binOp .eql 3 (.int .i64 a) (.int .i64 b)).run Try.prog W = .ok (.bool false) W := by rw [eqI10, show (a == b) = false by simpa using h]
structure On12 (B : List Bkt12) (f i : Nat) : Prop where
  out : ∀ t, t < i → off12 B f t = false
theorem On12.zero (B : List Bkt12) (f : Nat) : On12 B f 0 := ⟨fun _ ht => absurd ht (Nat.not_lt_zero _)⟩
theorem On12.step {B : List Bkt12} {f i : Nat} (h : On12 B f i) (hi : off12 B f i = false) : On12 B f (i + 1) := ⟨fun t ht => by
  by_cases e : t = i
  · rw [e]; exact hi
  · exact h.out t (by omega)⟩
theorem On12.all {B : List Bkt12} {f : Nat} (h : On12 B f B.length) : onw12 B f = true := by
  rw [onw12, List.all_eq_true]
  intro t ht
  rw [h.out t (List.mem_range.1 ht)]; rfl
theorem onw_no12 {B : List Bkt12} {f i : Nat} (hi : i < B.length) (h : off12 B f i = true) : onw12 B f = false := by
  rw [onw12, List.all_eq_false]
  exact ⟨i, List.mem_range.2 hi, by rw [h]; simp⟩
/-- how far a bucket stands behind its home. -/
def dst_way12 (B : List Bkt12) (p : Nat) (l : ByteArray) : Nat := (p + B.length - hom12 l B.length) % B.length

set_option maxRecDepth 100000 in
set_option maxHeartbeats 8000000 in
theorem ways_any12 (s : Sto12) (A : Option Addr) (c : Nat) (w : World) (h : InS w s A c) (hf : s.B.length ≤ 4096) (h0 : 0 < cnt12 s.B 0) :
    Calls Try.prog 38 #[stoV s A c] w fun e w' => e = .returned (.bool (onw12 s.B (fre1st12 s.B))) ∧ Below w.heap.size w w' := by
  have HI := Lib.hid h
  have HF := Lib.hid hf
  have H0 := Lib.hid (fre1st_lt12 h0)
  have hn0 : 0 < s.B.length := by have := (fre1st_lt12 h0).1; omega
  have HN0 := Lib.hid hn0
  have HX := Lib.hid (fun (W : World) (hB : Below w.heap.size w W) => index_any12 s A c W (h.keep hB) hf h0)
  have hw0 : way12 (fre1st12 s.B) s.B.length 0 = fre1st12 s.B := by rw [way12, Nat.add_zero, Nat.mod_eq_of_lt (fre1st_lt12 h0).1]
  clear h hf h0 hn0
  refine (callsIn_wide (n := 5)).1 ?_
  refine callsIn_of_wp_marks Try.func38 rfl trivial ?_ rfl
  simp only [Try.ntmps38, List.size_toArray, List.length_cons, List.length_nil, Nat.reduceAdd, Nat.reduceSub, Array.replicate_succ, Array.replicate_zero, List.push_toArray, List.append_toArray, List.nil_append, List.cons_append]
  have hF : Is ((((w.alloc (.cells (stoA s A c) 31)).alloc (.cells #[.bool false] 4)).alloc (.cells #[.int .i64 (s.B.length : Int)] 3)).alloc (.cells #[.nilFunc] 77)) (w.heap.size + 1 + 1 + 1) 77 #[.nilFunc] := by
    have := Is.new (((w.alloc (.cells (stoA s A c) 31)).alloc (.cells #[.bool false] 4)).alloc (.cells #[.int .i64 (s.B.length : Int)] 3)) 77 #[.nilFunc]
    simpa using this
  have g1 : Is ((((w.alloc (.cells (stoA s A c) 31)).alloc (.cells #[.bool false] 4)).alloc (.cells #[.int .i64 (s.B.length : Int)] 3)).alloc (.cells #[.nilFunc] 77)) w.heap.size 31 (stoA s A c) := (((Is.new w _ _).alloc _).alloc _).alloc _
  have g2 : Is ((((w.alloc (.cells (stoA s A c) 31)).alloc (.cells #[.bool false] 4)).alloc (.cells #[.int .i64 (s.B.length : Int)] 3)).alloc (.cells #[.nilFunc] 77)) (w.heap.size + 1) 4 #[.bool false] := (Is.alloc (heap_alloc2_new w _ _) _).alloc _
  have g3 : Is ((((w.alloc (.cells (stoA s A c) 31)).alloc (.cells #[.bool false] 4)).alloc (.cells #[.int .i64 (s.B.length : Int)] 3)).alloc (.cells #[.nilFunc] 77)) (w.heap.size + 1 + 1) 3 #[.int .i64 (s.B.length : Int)] := by
    have := (Is.new ((w.alloc (.cells (stoA s A c) 31)).alloc (.cells #[.bool false] 4)) 3 #[.int .i64 (s.B.length : Int)]).alloc (.cells #[.nilFunc] 77)
    simpa using this
  have hB : Below w.heap.size w ((((w.alloc (.cells (stoA s A c) 31)).alloc (.cells #[.bool false] 4)).alloc (.cells #[.int .i64 (s.B.length : Int)] 3)).alloc (.cells #[.nilFunc] 77)) := ((((Below.refl _ _).alloc (Nat.le_refl _) _).alloc (by simp) _).alloc (by simp; omega) _).alloc (by simp; omega) _
  have hsz : ((((w.alloc (.cells (stoA s A c) 31)).alloc (.cells #[.bool false] 4)).alloc (.cells #[.int .i64 (s.B.length : Int)] 3)).alloc (.cells #[.nilFunc] 77)).heap.size = w.heap.size + 1 + 1 + 1 + 1 := by simp
  obtain ⟨W1, hW1⟩ : ∃ W1, W1 = (((w.alloc (.cells (stoA s A c) 31)).alloc (.cells #[.bool false] 4)).alloc (.cells #[.int .i64 (s.B.length : Int)] 3)).alloc (.cells #[.nilFunc] 77) := ⟨_, rfl⟩
  rw [← hW1] at hF g1 g2 g3 hB hsz
  gi_wp2_with (refine wpListIn_store_one12 rfl 77 _ _ rfl (w.heap.size + 1 + 1 + 1) _ rfl rfl (by rw [← hW1]; exact hF) (by kernel_rfl) rfl ?_)
  rw [← hW1]
  clear hW1
  have k1 := (g1.rowFar (k := w.heap.size + 1 + 1 + 1) (by omega) #[.func (.func 49) #[] #[]]).alloc (.cells #[.int .i64 0] 3)
  have k2 := (g2.rowFar (k := w.heap.size + 1 + 1 + 1) (by omega) #[.func (.func 49) #[] #[]]).alloc (.cells #[.int .i64 0] 3)
  have k3 := (g3.rowFar (k := w.heap.size + 1 + 1 + 1) (by omega) #[.func (.func 49) #[] #[]]).alloc (.cells #[.int .i64 0] 3)
  have k4 := (hF.row #[.func (.func 49) #[] #[]]).alloc (.cells #[.int .i64 0] 3)
  have k5 : Is ((W1.setRow (w.heap.size + 1 + 1 + 1) #[.func (.func 49) #[] #[]]).alloc (.cells #[.int .i64 0] 3)) (w.heap.size + 1 + 1 + 1 + 1) 3 #[.int .i64 0] := by
    have := Is.new (W1.setRow (w.heap.size + 1 + 1 + 1) #[.func (.func 49) #[] #[]]) 3 #[.int .i64 0]
    rwa [show (W1.setRow (w.heap.size + 1 + 1 + 1) #[.func (.func 49) #[] #[]]).heap.size = w.heap.size + 1 + 1 + 1 + 1 by simp [hsz]] at this
  have hB2 := (belowRow hB (g := w.heap.size + 1 + 1 + 1) (by omega) #[.func (.func 49) #[] #[]]).alloc (by have := hB.size; simp; omega) (.cells #[.int .i64 0] 3)
  clear hF g1 g2 g3 hB hsz
  generalize (W1.setRow (w.heap.size + 1 + 1 + 1) #[.func (.func 49) #[] #[]]).alloc (.cells #[.int .i64 0] 3) = W2 at *
  rw [wpIn_wide]
  refine Code.wp_mono ?_ (onw_reg12 W2 w.heap.size (w.heap.size + 1 + 1 + 1) s.B.length A c _ _ _ k1 k4 (Lib.hid fun W hb => HX.out W (hB2.trans (hb.mono hB2.size))) _ _ _ _ _ _ _ _ _ _ _ _ _ _ _ _ _ _ _ _ _ _ _ _ _ _ _ _ _ _ _ _ _ _ _ _ _ _ _)
  rintro ex ⟨T, D⟩ W3 ⟨rfl, hDf, DR, hT, hb3, iR, iF, hD⟩
  simp only at hT hDf
  subst hT
  subst hDf
  have hB3 := hB2.trans (hb3.mono hB2.size)
  have i2 := k2.below hb3 k2.lt
  have i3 := k3.below hb3 k3.lt
  have i4 := k4.below hb3 k4.lt
  have i5 := k5.below hb3 k5.lt
  have hs1 := k5.lt
  have hs2 := i5.lt
  clear k1 k2 k3 k4 k5 hB2 HX hb3
  gi_wp2_with fail
  refine wpIn_rangeL rfl (by omega) (gf := 59) (lb := #[.pointer (some ⟨DR, 0, none⟩), .pointer (some ⟨DR + 1, 0, none⟩)]) rfl trivial (enters_of Try.func59 (by kernel_rfl) rfl) (S := fun k => k < w.heap.size ∨ k = DR ∨ k = DR + 1)
    (round_seq12 4 (by omega) DR (DR + 1) _ _ _ A c (fre1st12 s.B) s.B W3 iR iF rfl (HI.out.b.keep hB3) HF.out (by have := H0.out.1; have := HF.out; omega) _ (.inr (.inl rfl)) (.inr (.inr rfl)) (fun p e hn => .inl (HI.out.b.blkB p e hn)))
    (Stay.refl _ _) (fun k hk => by have := hB3.size; have := iR.lt; have := iF.lt; omega) (fun _ => rfl)
    (fun i W => Below w.heap.size w W ∧ Is W (w.heap.size + 1) 4 #[.bool false] ∧ Is W (w.heap.size + 1 + 1) 3 #[.int .i64 (s.B.length : Int)] ∧ Is W (w.heap.size + 1 + 1 + 1) 77 #[.func (.func 49) #[] #[]] ∧ Is W (w.heap.size + 1 + 1 + 1 + 1) 3 #[.int .i64 (run12 s.B (fre1st12 s.B) i : Int)] ∧ On12 s.B (fre1st12 s.B) i)
    (fun c _ W => c = .ret ∧ Below w.heap.size w W ∧ Is W (w.heap.size + 1) 4 #[.bool false] ∧ Not12 (fun t => !off12 s.B (fre1st12 s.B) t) (List.range s.B.length))
    (fun s X Y row hs hg hr => ⟨belowOwn12 hs.1 hs.1.size (by omega) hg hr, isOwn12 hs.2.1 hg hr, isOwn12 hs.2.2.1 hg hr, isOwn12 hs.2.2.2.1 hg hr, isOwn12 hs.2.2.2.2.1 hg hr, hs.2.2.2.2.2⟩)
    (fun c s X Y row hs hg hr => ⟨hs.1, belowOwn12 hs.2.1 hs.2.1.size (by omega) hg hr, isOwn12 hs.2.2.1 hg hr, hs.2.2.2⟩)
    ⟨hB3, i2, i3, i4, i5, On12.zero _ _⟩ ?round ?done ?stop
  case round =>
    rintro l i ⟨p, st, xl, xc⟩ W hl hlt hx ⟨hb, j2, j3, j4, j5, ho⟩
    gi_wp2
    refine ⟨(Stay.refl _ _).grown (World.grownBy_alloc _ _ none) (fun r e => by cases e), ⟨hb.alloc hb.size _, j2.alloc _, j3.alloc _, j4.alloc _, j5.alloc _, ho⟩, fun W' => Is W' W.heap.size 25 #[.int .i64 st, .string xl, .string xc], fun _ X Y row hs hg hr => isOwn12 hs hg hr, Is.new _ _ _, ?_⟩
    clear hb j2 j3 j4 j5 ho
    rintro W4 hl4 ⟨hb, j2, j3, j4, j5, ho⟩ iX
    have hil : i < s.B.length := by have := (List.getElem?_eq_some_iff.1 hx).1; rwa [rnd_len12] at this
    have hxx := (rnd_at12 (B := s.B) (f := fre1st12 s.B) hil).symm.trans hx
    have hpp : p = way12 (fre1st12 s.B) s.B.length i := (congrArg Prod.fst (Option.some.inj hxx)).symm
    have hbb : at12 s.B (way12 (fre1st12 s.B) s.B.length i) = ⟨st, xl, xc⟩ := congrArg Prod.snd (Option.some.inj hxx)
    have hf := HF.out
    have hrl : run12 s.B (fre1st12 s.B) i ≤ 4096 := by have := run_le12 s.B (fre1st12 s.B) i; omega
    have hrs : run12 s.B (fre1st12 s.B) (i + 1) = if st = 0 then 0 else run12 s.B (fre1st12 s.B) i + 1 := by rw [run12, hbb]
    have hof : off12 s.B (fre1st12 s.B) i = (decide (st = 1) && decide (run12 s.B (fre1st12 s.B) (i + 1) ≤ (p + s.B.length - hom12 xl s.B.length) % s.B.length)) := by rw [off12, hbb, ← hpp]
    have hpl : p < s.B.length := by rw [hpp]; exact way_lt12 _ _ HN0.out
    have HO := Lib.hid ho
    have HOF := Lib.hid hof
    have HRS := Lib.hid hrs
    have HIL := Lib.hid hil
    clear hx hxx hpp hbb ho hof hrs hil
    obtain ⟨r, hr⟩ : ∃ r, r = run12 s.B (fre1st12 s.B) i := ⟨_, rfl⟩
    rw [← hr] at j5 hrl HRS
    clear hr
    have q0 : W4.cell? ⟨W.heap.size, 0, none⟩ = some (.int .i64 st) := iX.cell 0
    have q1 : W4.cell? ⟨W.heap.size, 1, none⟩ = some (.string xl) := iX.cell 1
    have q2 : W4.cell? ⟨W.heap.size, 2, none⟩ = some (.string xc) := iX.cell 2
    have c5 : W4.cell? ⟨w.heap.size + 1 + 1 + 1 + 1, 0, none⟩ = some (.int .i64 (r : Int)) := j5.cell 0
    have f5 := j5.frozen 0
    have c4 : W4.cell? ⟨w.heap.size + 1 + 1 + 1, 0, none⟩ = some (.func (.func 49) #[] #[]) := j4.cell 0
    have w1 := IntWalk.i64_in ((r : Int) + 1) (by omega)
    gi_wp2_with fail
    have st5 : Stay (fun k => (k < w.heap.size ∨ k = DR ∨ k = DR + 1) ∨ W3.heap.size ≤ k) W4 (W4.setCell ⟨w.heap.size + 1 + 1 + 1 + 1, 0, none⟩ (.int .i64 ((r : Int) + 1))) := (Stay.refl _ _).grown (grownSetG _ _ _) (fun r e => by cases e; exact .inl (by simp only []; omega))
    have hb5 := hb.setCell (p := ⟨w.heap.size + 1 + 1 + 1 + 1, 0, none⟩) (by simp; omega) (.int .i64 ((r : Int) + 1))
    have e2 := j2.far (p := ⟨w.heap.size + 1 + 1 + 1 + 1, 0, none⟩) (by simp) (.int .i64 ((r : Int) + 1))
    have e3 := j3.far (p := ⟨w.heap.size + 1 + 1 + 1 + 1, 0, none⟩) (by simp) (.int .i64 ((r : Int) + 1))
    have e4 := j4.far (p := ⟨w.heap.size + 1 + 1 + 1 + 1, 0, none⟩) (by simp) (.int .i64 ((r : Int) + 1))
    have eX := iX.far (p := ⟨w.heap.size + 1 + 1 + 1 + 1, 0, none⟩) (by simp only []; omega) (.int .i64 ((r : Int) + 1))
    have e5 : Is (W4.setCell ⟨w.heap.size + 1 + 1 + 1 + 1, 0, none⟩ (.int .i64 ((r : Int) + 1))) (w.heap.size + 1 + 1 + 1 + 1) 3 #[.int .i64 ((r : Int) + 1)] := j5.set 0 _
    clear q0 q1 q2 c4 c5 f5 j2 j3 j4 j5 iX hb
    generalize W4.setCell ⟨w.heap.size + 1 + 1 + 1 + 1, 0, none⟩ (.int .i64 ((r : Int) + 1)) = W5 at *
    refine ⟨trivial, (callsIn_round12 (isFree_any12 st xl xc _)).mono ?_⟩
    rintro e W6 ⟨rfl, hb6⟩
    have st6 : Stay (fun k => (k < w.heap.size ∨ k = DR ∨ k = DR + 1) ∨ W3.heap.size ≤ k) W4 W6 := st5.trans (Stay.below hb6)
    have hB6 := hb5.trans (hb6.mono hb5.size)
    replace e2 := e2.below hb6 e2.lt
    replace e3 := e3.below hb6 e3.lt
    replace e4 := e4.below hb6 e4.lt
    replace eX := eX.below hb6 eX.lt
    replace e5 := e5.below hb6 e5.lt
    have f5 := e5.frozen 0
    have c5 : W6.cell? ⟨w.heap.size + 1 + 1 + 1 + 1, 0, none⟩ = some (.int .i64 ((r : Int) + 1)) := e5.cell 0
    clear st5 hb5 hb6
    by_cases h0 : st = 0
    · subst h0
      have HOF2 := Lib.hid (show off12 s.B (fre1st12 s.B) i = false by rw [HOF.out]; simp)
      have HR2 := Lib.hid (show run12 s.B (fre1st12 s.B) (i + 1) = 0 by rw [HRS.out]; rfl)
      have s5 := e5.set 0 (.int .i64 0)
      have s2 := e2.far (p := ⟨w.heap.size + 1 + 1 + 1 + 1, 0, none⟩) (by simp) (.int .i64 0)
      have s3 := e3.far (p := ⟨w.heap.size + 1 + 1 + 1 + 1, 0, none⟩) (by simp) (.int .i64 0)
      have s4 := e4.far (p := ⟨w.heap.size + 1 + 1 + 1 + 1, 0, none⟩) (by simp) (.int .i64 0)
      have sX := eX.far (p := ⟨w.heap.size + 1 + 1 + 1 + 1, 0, none⟩) (by simp only []; omega) (.int .i64 0)
      have st7 := st6.grown (grownSetG W6 ⟨w.heap.size + 1 + 1 + 1 + 1, 0, none⟩ (.int .i64 0)) (fun r e => by cases e; exact .inl (by simp only []; omega))
      have hB7 := hB6.setCell (p := ⟨w.heap.size + 1 + 1 + 1 + 1, 0, none⟩) (by simp; omega) (.int .i64 0)
      gi_wp2_with fail
      refine wpIn_mono (onw_off12 l _ _ W.heap.size 0 xl xc sX (Lib.hid (eqI10_no12 (by decide))) _ _ _ _ _ _ _ _ _ _ _ _ _ _ _ _ _ _ _ _ _ _ _ _ _ _ _ _ _ _ _ _ _ _ _ _ _ _ _ _) ?_
      rintro ex ⟨T, D⟩ W8 ⟨rfl, hDf, _, hT, hb8⟩
      simp only at hT hDf
      subst hT
      subst hDf
      gi_wp2
      exact ⟨st7.trans (Stay.below hb8), hB7.trans (hb8.mono hB7.size), s2.below hb8 s2.lt, s3.below hb8 s3.lt, s4.below hb8 s4.lt, by rw [HR2.out]; exact s5.below hb8 s5.lt, HO.out.step HOF2.out⟩
    · have hbe : (st == 0) = false := by simpa using h0
      have hd0 : decide (st = 0) = false := decide_eq_false h0
      by_cases h1 : st = 1
      · subst h1
        have HR2 := Lib.hid (show run12 s.B (fre1st12 s.B) (i + 1) = r + 1 by rw [HRS.out, if_neg h0])
        have HH := Lib.hid (fun W : World => by
          have := home_any12 xl (s.B.length : Int) W (by omega)
          rw [homV_nat12 xl HN0.out] at this
          exact this)
        have hh := hom_lt12 xl HN0.out
        have hof : off12 s.B (fre1st12 s.B) i = decide (r + 1 ≤ (p + s.B.length - hom12 xl s.B.length) % s.B.length) := by rw [HOF.out, HR2.out]; simp
        have hdl : (p + s.B.length - hom12 xl s.B.length) % s.B.length < s.B.length := Nat.mod_lt _ HN0.out
        have htm : Int.tmod ((p : Int) - (hom12 xl s.B.length : Int) + (s.B.length : Int)) (s.B.length : Int) = (((p + s.B.length - hom12 xl s.B.length) % s.B.length : Nat) : Int) := by
          rw [Int.tmod_eq_emod_of_nonneg (by omega), Int.natCast_emod]
          congr 1
          omega
        obtain ⟨d, hd⟩ : ∃ d, d = (p + s.B.length - hom12 xl s.B.length) % s.B.length := ⟨_, rfl⟩
        rw [← hd] at hof hdl htm
        generalize hom12 xl s.B.length = h at *
        clear hd
        have hne : ((s.B.length : Nat) : Int) ≠ 0 := by have := HN0.out; omega
        gi_wp2_with fail
        refine wpIn_mono (onw_on12 l _ _ W.heap.size (w.heap.size + 1 + 1) (w.heap.size + 1 + 1 + 1 + 1) 1 (p : Int) (h : Int) (s.B.length : Int) (d : Int) ((r : Int) + 1) (decide ((r : Int) + 1 ≤ (d : Int))) xl xc eX e3 e5 (Lib.hid (eqI_yes10 rfl)) (Lib.hid (subI10 (by omega))) (Lib.hid (addI10 (by omega))) (Lib.hid (remI12 htm (by omega) hne)) (Lib.hid (geI12 _ _)) HH _ _ _ _ _ _ _ _ _ _ _ _ _ _ _ _ _ _ _ _ _ _ _ _ _ _ _ _ _ _ _ _ _ _ _ _ _) ?_
        rintro ex ⟨T, D⟩ W8 ⟨rfl, hDf, _, hT, hb8⟩
        simp only at hT hDf
        subst hT
        subst hDf
        have z2 := e2.below hb8 e2.lt
        have f2 := z2.frozen 0
        have c2 : W8.cell? ⟨w.heap.size + 1, 0, none⟩ = some (.bool false) := z2.cell 0
        have hb9 := hB6.trans (hb8.mono hB6.size)
        by_cases hg : r + 1 ≤ d
        · have hgi : decide ((r : Int) + 1 ≤ (d : Int)) = true := decide_eq_true (by omega)
          have HNO := Lib.hid (onw_no12 HIL.out (by rw [hof]; exact decide_eq_true hg))
          rw [hgi]
          clear hgi hg hof htm
          gi_wp2
          exact ⟨(st6.trans (Stay.below hb8)).grown (grownSetG _ _ _) (fun r e => by cases e; exact .inl (by simp only []; omega)), rfl, hb9.setCell (p := ⟨w.heap.size + 1, 0, none⟩) (by simp) _, z2.set 0 _, ⟨HNO.out⟩⟩
        · have hgi : decide ((r : Int) + 1 ≤ (d : Int)) = false := decide_eq_false (by omega)
          have HOF2 := Lib.hid (show off12 s.B (fre1st12 s.B) i = false by rw [hof]; exact decide_eq_false hg)
          rw [hgi]
          clear hgi hg hof htm
          gi_wp2
          exact ⟨st6.trans (Stay.below hb8), hb9, z2, e3.below hb8 e3.lt, e4.below hb8 e4.lt, by rw [HR2.out]; exact e5.below hb8 e5.lt, HO.out.step HOF2.out⟩
      · have HOF2 := Lib.hid (show off12 s.B (fre1st12 s.B) i = false by rw [HOF.out]; simp [h1])
        have H1 := Lib.hid h1
        have HR2 := Lib.hid (show run12 s.B (fre1st12 s.B) (i + 1) = r + 1 by rw [HRS.out, if_neg h0])
        clear h1
        gi_wp2_with fail
        refine wpIn_mono (onw_off12 l _ _ W.heap.size st xl xc eX (Lib.hid (eqI10_no12 H1.out)) _ _ _ _ _ _ _ _ _ _ _ _ _ _ _ _ _ _ _ _ _ _ _ _ _ _ _ _ _ _ _ _ _ _ _ _ _ _ _ _) ?_
        rintro ex ⟨T, D⟩ W8 ⟨rfl, hDf, _, hT, hb8⟩
        simp only at hT hDf
        subst hT
        subst hDf
        gi_wp2
        exact ⟨st6.trans (Stay.below hb8), hB6.trans (hb8.mono hB6.size), e2.below hb8 e2.lt, e3.below hb8 e3.lt, e4.below hb8 e4.lt, by rw [HR2.out]; exact e5.below hb8 e5.lt, HO.out.step HOF2.out⟩
  case done =>
    rintro D W hD2 ⟨hb, j2, j3, j4, j5, ho⟩ hK
    have HON := Lib.hid (show onw12 s.B (fre1st12 s.B) = true from On12.all (by have := ho; rwa [rnd_len12] at this))
    have f2 := j2.frozen 0
    have c2 : W.cell? ⟨w.heap.size + 1, 0, none⟩ = some (.bool false) := j2.cell 0
    have hK2 : (W.setCell ⟨w.heap.size + 1, 0, none⟩ (.bool true)).heap[D]? = some (.deferred (some [])) := (heap_setCell_other _ _ D _ (by simp only []; omega)).trans hK
    have HK := Lib.hid hK2
    clear ho hK hK2 j3 j4 j5
    gi_wp2
    refine ⟨by simp, .inl ⟨_, _, rfl, run_takeDeferred HK.out, ?_⟩⟩
    have hgr := grownBy_putObj' (W.setCell ⟨w.heap.size + 1, 0, none⟩ (.bool true)) D (.deferred none)
    have hrr : ∀ r, some D = some r → W3.heap.size ≤ r ∧ ∃ o : Obj, (W.setCell ⟨w.heap.size + 1, 0, none⟩ (.bool true)).heap[r]? = some o ∧ o.isCells = false := fun r e => by cases e; exact ⟨hD2, _, HK.out, rfl⟩
    have zb : Below w.heap.size w (W.setCell ⟨w.heap.size + 1, 0, none⟩ (.bool true)) := hb.setCell (p := ⟨w.heap.size + 1, 0, none⟩) (by simp) _
    exact ⟨_, results_c12 Try.results38 _ _ _ (w.heap.size + 1) (.bool true) 4 rfl (isOwn12 (j2.set 0 _) hgr hrr) (aggBo12 _), by rw [HON.out], belowOwn12 zb zb.size (by omega) hgr hrr⟩
  case stop =>
    rintro D c2 i W hD2 ⟨rfl, hb, j2, hno⟩ hK
    have HNO := Lib.hid (show onw12 s.B (fre1st12 s.B) = false from hno.out)
    clear hno
    gi_wp2
    refine ⟨by simp, .inl ⟨_, _, rfl, run_takeDeferred hK, ?_⟩⟩
    have hgr := grownBy_putObj' W D (.deferred none)
    have hrr : ∀ r, some D = some r → W3.heap.size ≤ r ∧ ∃ o : Obj, W.heap[r]? = some o ∧ o.isCells = false := fun r e => by cases e; exact ⟨hD2, _, hK, rfl⟩
    exact ⟨_, results_c12 Try.results38 _ _ _ (w.heap.size + 1) (.bool false) 4 rfl (isOwn12 j2 hgr hrr) (aggBo12 _), by rw [HNO.out], belowOwn12 hb hb.size (by omega) hgr hrr⟩
end Go.Proofs.Ytglcckpkbnppoaa
