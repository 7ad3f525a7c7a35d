/-
  Layer 12: contract of bucket.All: labels and cells, by labels. Condition: the store lies where its slice points to.
-/
import Derived.Test.YtglcckpkbnppoaaBuxQ
namespace Go.Proofs.Ytglcckpkbnppoaa
open Go.RowKit Go.Shelf
attribute [local go_sem] Oper.semAt_some

def par12 (b : Bkt12) : Par12 := (b.l, b.c)
def allV12 (s : Sto12) : List Par12 := if right12 s then all12 s.B else []
theorem ltP_ls12 (x y : Par12) : ltP12 x y = ls12 x.1 y.1 := by rw [ltP12, ls12, ByteArray.toList_eq, ByteArray.toList_eq]
theorem all_sorted12 {B : List Bkt12} (h : Ok12 B) {L : List Par12} (hp : L.Perm ((us12 B).map par12)) (hs : L.Pairwise fun x y => ltP12 y x = false) : L = all12 B := by
  have hd : L.Pairwise fun x y => x.1 ≠ y.1 := by
    have h1 : ((us12 B).map par12).Pairwise fun x y => x.1 ≠ y.1 := by rw [List.pairwise_map]; exact us_once12 h
    exact (hp.pairwise_iff (fun {a b} (e : a.1 ≠ b.1) => e.symm)).2 h1
  refine all_is12 h ?_ fun l c => ?_
  · rw [Srt12, List.pairwise_iff_getElem]
    intro i j hi hj hij
    have h1 := List.pairwise_iff_getElem.1 hs i j hi hj hij
    have h2 := List.pairwise_iff_getElem.1 hd i j hi hj hij
    rw [ltP_ls12] at h1
    exact ls_tot12 h1 (Ne.symm h2)
  · rw [hp.mem_iff, List.mem_map, mp_iff12 h]
    constructor
    · rintro ⟨b, hb, e⟩
      obtain ⟨i, hi, e1, e2⟩ := us_mem12.1 hb
      refine ⟨i, hi, ?_⟩
      rw [e1]
      obtain ⟨st, bl, bc⟩ := b
      simp only [par12, Prod.mk.injEq] at e e2
      rw [e.1, e.2, e2]
    · rintro ⟨i, hi, e⟩
      exact ⟨⟨1, l, c⟩, us_mem12.2 ⟨i, hi, e, rfl⟩, rfl⟩
theorem Is.row_of12 {A B : World} {g g' : Nat} {t : TypeId} {cs : Array Value} (hg : A.grownBy B (some g)) (h : Is A g' t cs) (hne : g' ≠ g) : Is B g' t cs := (hg.block _ h.lt (by intro e; exact hne (Option.some.inj e))).trans h
theorem infoPair12 : (Try.prog.info? 53).map (fun i => (i.zero, i.size, i.bytes)) = some (some (.agg #[.string ⟨#[]⟩, .string ⟨#[]⟩]), 2, 32) := by kernel_rfl

set_option maxRecDepth 100000 in
set_option maxHeartbeats 4000000 in
theorem ball_no12 (s : Sto12) (A : Option Addr) (c : Nat) (w : World) (h : InS w s A c) (hr : right12 s = false) :
    Calls Try.prog 21 #[stoV s A c] w fun e w' => e = .returned (.slice none 0 0) ∧ Below w.heap.size w w' := by
  have HB := Lib.hid (fun W (hB : Below w.heap.size w W) => bright_any12 s A c W (h.keep hB))
  rw [hr] at HB
  have i0 := Is.new w 31 (stoA s A c)
  have hB0 : Below w.heap.size w (w.alloc (.cells (stoA s A c) 31)) := (Below.refl _ _).alloc (Nat.le_refl _) _
  clear hr h
  go_enter Try.func21, Try.ntmps21
  go_wp2_with (first | (refine wpList_load_row rfl 31 _ rfl w.heap.size rfl _ _ _ _ i0 Try.underlying31 rfl infoSto12 ?_) | (go_at_call 18; refine (HB.out _ hB0).mono ?_; rintro e w1 ⟨rfl, hb⟩))
  go_ret
  exact ⟨rfl, hB0.trans (hb.mono hB0.size)⟩

set_option maxRecDepth 100000 in
set_option maxHeartbeats 8000000 in
theorem ball_yes12 (s : Sto12) (A : Option Addr) (c : Nat) (w : World) (h : InS w s A c) (hr : right12 s = true) :
    Calls Try.prog 21 #[stoV s A c] w fun e w' => ∃ A1 c1, e = .returned (.slice A1 (all12 s.B).length c1) ∧ InV w' A1 (flP (all12 s.B)) ∧ Below w.heap.size w w' := by
  have HB := Lib.hid (fun W (hB : Below w.heap.size w W) => bright_any12 s A c W (h.keep hB))
  rw [hr] at HB
  have hrt := right_iff12.1 hr
  have HI := Lib.hid h
  have hul : ((us12 s.B).length : Int) = s.many := by rw [us_len12]; exact hrt.many
  have hu4 : (us12 s.B).length ≤ 4096 := by have := hrt.bnd.many; omega
  have HU4 := Lib.hid hu4
  have HUL := Lib.hid hul
  have HOK := Lib.hid hrt.ok
  obtain ⟨it, hi, hz0, hz1, hz2⟩ := infoThree10 infoPair12
  obtain ⟨k, hk⟩ : ∃ k, k = (us12 s.B).length := ⟨_, rfl⟩
  rw [← hk] at hul hu4
  obtain ⟨M, hM⟩ : ∃ M, M = madeCells #[.string ⟨#[]⟩, .string ⟨#[]⟩] (k * 2) := ⟨_, rfl⟩
  have hMs : M.size = k * 2 := by rw [hM]; exact size_madeCells _ _
  have hmk : ∀ W : World, (Instr.makeSlice 42 (.int .i64 0) (.int .i64 s.many)).run Try.prog W = .ok (.slice (some ⟨W.heap.size, 0, none⟩) 0 k) (W.alloc (.cells M 53)) := fun W => by
    have h1 := run_make (P := Try.prog) W 42 53 it (.agg #[.string ⟨#[]⟩, .string ⟨#[]⟩]) Try.underlying42 hi hz0 .i64 .i64 0 (k : Int) (by omega) (by omega) (by rw [hz2]; omega) (by omega)
    rw [hz1, Int.toNat_natCast, ← hul] at *
    rw [hM]
    exact h1
  have HMK := Lib.hid hmk
  have HINF := Lib.hid hi
  have HZ1 := Lib.hid hz1
  have HK := Lib.hid hk
  clear hr h hrt hul hu4 hmk hi hz0 hz1 hz2 hM hk
  refine (callsIn_wide (n := 5)).1 ?_
  refine callsIn_of_wp_marks Try.func21 rfl trivial ?_ rfl
  simp only [Try.ntmps21, List.size_toArray, List.length_cons, List.length_nil, Nat.reduceAdd, Nat.reduceSub, Array.replicate_succ, Array.replicate_zero, List.push_toArray, List.append_toArray, List.nil_append, List.cons_append]
  have i0 := Is.new w 31 (stoA s A c)
  have hB0 : Below w.heap.size w (w.alloc (.cells (stoA s A c) 31)) := (Below.refl _ _).alloc (Nat.le_refl _) _
  gi_wp2_with (refine wpListIn_load_rowI rfl 31 _ rfl w.heap.size rfl i0 Try.underlying31 rfl infoSto12 ?_)
  refine ⟨trivial, (callsIn_wide.2 (HB.out _ hB0)).mono ?_⟩
  rintro e W1 ⟨rfl, hb⟩
  have i1 := i0.below hb i0.lt
  have hB1 := hB0.trans (hb.mono hB0.size)
  have hl1 := i1.lt
  clear i0 hB0 hb HB
  have c1 : W1.cell? ⟨w.heap.size, 1, none⟩ = some (.int .i64 s.many) := i1.cell 1
  have hmk := HMK.out
  have k1 : Is ((W1.alloc (.cells M 53)).alloc (.cells #[.slice (some ⟨W1.heap.size, 0, none⟩) 0 k] 42)) w.heap.size 31 (stoA s A c) := (i1.alloc _).alloc _
  have k3 : Is ((W1.alloc (.cells M 53)).alloc (.cells #[.slice (some ⟨W1.heap.size, 0, none⟩) 0 k] 42)) (W1.heap.size + 1) 42 #[.slice (some ⟨W1.heap.size, 0, none⟩) 0 k] := heap_alloc2_new _ _ _
  have kR : RowP ((W1.alloc (.cells M 53)).alloc (.cells #[.slice (some ⟨W1.heap.size, 0, none⟩) 0 k] 42)) w.heap.size (some ⟨W1.heap.size, 0, none⟩) k [] := by
    have h1 : RowV (W1.alloc (.cells M 53)) w.heap.size 53 2 (some ⟨W1.heap.size, 0, none⟩) k 0 [] := World.ownsRow_made W1 M k hB1.size (by have := HU4.out; have := HK.out; unfold maxLen; omega) hMs
    exact RowV.alloc h1 _
  have hB2 := (hB1.alloc hB1.size (.cells M 53)).alloc (by have := hB1.size; simp; omega) (.cells #[.slice (some ⟨W1.heap.size, 0, none⟩) 0 k] 42)
  have hsz : ((W1.alloc (.cells M 53)).alloc (.cells #[.slice (some ⟨W1.heap.size, 0, none⟩) 0 k] 42)).heap.size = W1.heap.size + 1 + 1 := by simp
  clear i1 hB1
  gi_wp2_with (refine wpListIn_load_rowI rfl 31 _ rfl w.heap.size rfl k1 Try.underlying31 rfl infoSto12 ?_)
  clear c1 hmk
  obtain ⟨D1, hD1⟩ : ∃ D1, D1 = W1.heap.size := ⟨_, rfl⟩
  rw [← hD1] at k3 kR hl1 hsz
  obtain ⟨W2, hW2⟩ : ∃ W2, W2 = (W1.alloc (.cells M 53)).alloc (.cells #[.slice (some ⟨W1.heap.size, 0, none⟩) 0 k] 42) := ⟨_, rfl⟩
  rw [← hD1] at hW2 k1 hB2 ⊢
  rw [← hW2] at k1 k3 kR hB2 hsz ⊢
  have hgb : w.heap.size ≤ D1 := by omega
  clear hW2 hD1
  refine ⟨trivial, (callsIn_wide.2 (used_any12 _ _ _ _)).mono ?_⟩
  rintro e W' ⟨rfl, rfl⟩
  gi_wp2_with fail
  have i3 := k3.alloc (.cells (stoA s A c) 31)
  have iR : RowP (W2.alloc (.cells (stoA s A c) 31)) w.heap.size (some ⟨D1, 0, none⟩) k [] := RowV.alloc kR (.cells (stoA s A c) 31)
  have iN : Is (W2.alloc (.cells (stoA s A c) 31)) (D1 + 1 + 1) 31 (stoA s A c) := by rw [← hsz]; exact Is.new _ _ _
  have hb := hB2.alloc (by rw [hsz]; omega) (.cells (stoA s A c) 31)
  have hs3 := iN.lt
  clear k1 k3 kR hB2 hsz
  generalize W2.alloc (.cells (stoA s A c) 31) = W3 at *
  refine wpIn_rangeL rfl (by omega) (gf := 52) (lb := #[.pointer (some ⟨D1 + 1 + 1, 0, none⟩)]) rfl trivial (enters_of Try.func52 (by kernel_rfl) rfl) (S := fun j => j < w.heap.size ∨ j = D1 + 1 + 1)
    (used_seq12 4 (by omega) (D1 + 1 + 1) _ _ _ A c s.B W3 iN rfl (HI.out.b.keep hb) (by have := HI.out.fit; omega) _ (.inr rfl) (fun p e hn => .inl (HI.out.b.blkB p e hn)))
    (Stay.refl _ _) (fun k hk => by have := hb.size; omega) (fun _ => rfl)
    (fun i W => Below w.heap.size w W ∧ Is W (D1 + 1) 42 #[.slice (some ⟨D1, 0, none⟩) i k] ∧ RowV W w.heap.size 53 2 (some ⟨D1, 0, none⟩) k i (flP (((us12 s.B).take i).map par12)))
    (fun _ _ _ => False)
    (fun s X Y row hs hg hr => ⟨belowOwn12 hs.1 hs.1.size (by omega) hg hr, isOwn12 hs.2.1 hg hr, RowV.keptT hs.2.2 hg (fun r e => (hr r e).2)⟩)
    (fun c s X Y row hs hg hr => hs.elim)
    ⟨hb, i3, iR⟩ ?round ?done ?stop
  case round =>
    rintro l i ⟨st, xl, xc⟩ W hl hlt hx ⟨hb, j3, jR⟩
    gi_wp2
    refine ⟨(Stay.refl _ _).grown (World.grownBy_alloc _ _ none) (fun r e => by cases e), ⟨hb.alloc hb.size _, j3.alloc _, RowV.alloc jR _⟩, fun W' => Is W' W.heap.size 25 #[.int .i64 st, .string xl, .string xc], fun _ X Y row hs hg hr => isOwn12 hs hg hr, Is.new _ _ _, ?_⟩
    clear hb j3 jR
    rintro W4 hl4 ⟨hb, j3, jR⟩ iX
    have hil : i < (us12 s.B).length := (List.getElem?_eq_some_iff.1 hx).1
    have htk : ((us12 s.B).take (i + 1)).map par12 = ((us12 s.B).take i).map par12 ++ [(xl, xc)] := by rw [List.take_add_one, hx, List.map_append]; rfl
    have HTK := Lib.hid (show flP (((us12 s.B).take (i + 1)).map par12) = flP (((us12 s.B).take i).map par12) ++ [.string xl, .string xc] by rw [htk, flP_app]; rfl)
    have hik : i + 1 ≤ k := by have := HK.out; omega
    have q1 : W4.cell? ⟨W.heap.size, 1, none⟩ = some (.string xl) := iX.cell 1
    have q2 : W4.cell? ⟨W.heap.size, 2, none⟩ = some (.string xc) := iX.cell 2
    have c3 : W4.cell? ⟨D1 + 1, 0, none⟩ = some (.slice (some ⟨D1, 0, none⟩) i k) := j3.cell 0
    have iP : Is (W4.alloc (.cells #[.string xl, .string xc] 53)) W4.heap.size 53 #[.string xl, .string xc] := Is.new _ _ _
    have j3' := j3.alloc (.cells #[.string xl, .string xc] 53)
    have jR' : RowV (W4.alloc (.cells #[.string xl, .string xc] 53)) w.heap.size 53 2 (some ⟨D1, 0, none⟩) k i (flP (((us12 s.B).take i).map par12)) := RowV.alloc jR _
    have hb' := hb.alloc hb.size (.cells #[.string xl, .string xc] 53)
    have HJ3 := Lib.hid j3'
    have HIP := Lib.hid iP
    have HJR := Lib.hid jR'
    have hw4 : (W4.alloc (.cells #[.string xl, .string xc] 53)).heap.size = W4.heap.size + 1 := by simp
    have HW4 := Lib.hid hw4
    clear hx htk iX j3 jR iP j3' jR' hb hil hw4
    gi_wp2_with (gi_at_builtin; refine wpListIn_append_fits _ rfl _ _ 42 rfl w.heap.size 53 it 2 Try.underlying42 HINF.out HZ1.out D1 i k (flP (((us12 s.B).take i).map par12)) rfl HJR.out ⟨W4.heap.size, 0, none⟩ 1 1 [.string xl, .string xc] rfl rfl ?qa ?qb hik ?_)
    case qa =>
      intro j u hj
      rw [Addr.add_lit, Nat.zero_add, HIP.out.cell, ← Array.getElem?_toList]
      exact hj
    case qb =>
      intro u hu
      simp only [List.mem_cons, List.not_mem_nil, or_false] at hu
      rcases hu with rfl | rfl <;> rfl
    intro W5 hR5 hg5
    have k3 := Is.row_of12 hg5 HJ3.out (by omega)
    have f3 := k3.frozen 0
    have c5 : W5.cell? ⟨D1 + 1, 0, none⟩ = some (.slice (some ⟨D1, 0, none⟩) i k) := k3.cell 0
    have hw4 := HW4.out
    have hB5 := hb'.grown hg5 hb'.size (fun q e => by cases e; omega)
    have s5 : Stay (fun j => (j < w.heap.size ∨ j = D1 + 1 + 1) ∨ W3.heap.size ≤ j) W4 W5 := ((Stay.refl _ W4).grown (World.grownBy_alloc _ (.cells #[.string xl, .string xc] 53) none) (fun r e => by cases e)).grown hg5 (fun r e => by cases e; exact .inl (by show ¬ ((D1 < w.heap.size ∨ D1 = D1 + 1 + 1) ∨ W3.heap.size ≤ D1); omega))
    have HR5 := Lib.hid hR5
    clear hR5
    gi_wp2
    exact ⟨s5.grown (grownSetG _ _ _) (fun r e => by cases e; exact .inl (by show ¬ ((D1 + 1 < w.heap.size ∨ D1 + 1 = D1 + 1 + 1) ∨ W3.heap.size ≤ D1 + 1); omega)), hB5.setCell (p := ⟨D1 + 1, 0, none⟩) (by simp only []; omega) _, k3.set 0 _, by rw [HTK.out]; exact RowV.far (by have := HR5.out; rwa [← List.map_take] at this) (p := ⟨D1 + 1, 0, none⟩) k3 (by decide) _⟩
  case done =>
    rintro D W hD ⟨hb, j3, jR⟩ hK
    rw [List.take_length] at jR
    rw [← HK.out] at j3 jR
    have hlk : ((us12 s.B).map par12).length = k := by rw [List.length_map]; exact HK.out.symm
    have HS := Lib.hid (sort_any12 (some ⟨D1, 0, none⟩) k w.heap.size ((us12 s.B).map par12) W (by rw [RowP, hlk]; exact jR) (by rw [hlk, HK.out]; exact HU4.out))
    rw [hlk] at HS
    have c3 : W.cell? ⟨D1 + 1, 0, none⟩ = some (.slice (some ⟨D1, 0, none⟩) k k) := j3.cell 0
    have HKK := Lib.hid hK
    clear jR hK
    gi_wp2_with fail
    refine ⟨trivial, (callsIn_wide.2 HS.out).mono ?_⟩
    rintro e W5 ⟨rfl, L', hl1', hp, hso, hin, hg5⟩
    have hg5 : W.grownBy W5 (some D1) := hg5
    have j5 := Is.row_of12 hg5 j3 (by omega)
    have c5 : W5.cell? ⟨D1 + 1, 0, none⟩ = some (.slice (some ⟨D1, 0, none⟩) k k) := j5.cell 0
    have hB5 := hb.grown hg5 hb.size (fun q e => by cases e; omega)
    have hL := all_sorted12 HOK.out hp hso
    subst hL
    have hl2 : (all12 s.B).length = k := hl1'
    have HL2 := Lib.hid hl2
    have hK5 : W5.heap[D]? = some (.deferred (some [])) := (hg5.block D (Array.getElem?_eq_some_iff.1 HKK.out).1 (by intro e; have := Option.some.inj e; omega)).trans HKK.out
    have HK5 := Lib.hid hK5
    have HIN := Lib.hid hin
    clear hp hso hin hl1' hl2 hK5 hlk
    gi_wp2
    refine ⟨by simp, .inl ⟨_, _, rfl, run_takeDeferred HK5.out, ?_⟩⟩
    have hgr := grownBy_putObj' W5 D (.deferred none)
    have hrr : ∀ r, some D = some r → W3.heap.size ≤ r ∧ ∃ o : Obj, W5.heap[r]? = some o ∧ o.isCells = false := fun r e => by cases e; exact ⟨hD, _, HK5.out, rfl⟩
    exact ⟨_, results_tmp Try.results21 _ _ _, some ⟨D1, 0, none⟩, k, by rw [HL2.out]; rfl, InV.stay12 HIN.out ((Stay.refl (fun j => j = D1) W5).grown hgr (fun r e => by cases e; exact .inl (by omega))) (fun p e _ => by cases e; rfl), belowOwn12 hB5 hB5.size (by omega) hgr hrr⟩
  case stop => exact fun _ _ _ _ _ h => h.elim
end Go.Proofs.Ytglcckpkbnppoaa
