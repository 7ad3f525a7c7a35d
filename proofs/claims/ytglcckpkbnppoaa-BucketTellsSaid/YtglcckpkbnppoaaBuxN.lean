/-
  Layer 12: contract of bucket.withRoom. Conditions: the store is right, and lies where its slice points to.
-/
import Derived.Test.YtglcckpkbnppoaaBuxM
import Derived.Test.YtglcckpkbnppoaaBuxF
import Derived.Test.YtglcckpkbnppoaaBuxG
namespace Go.Proofs.Ytglcckpkbnppoaa
open Go.RowKit Go.Shelf
attribute [local go_sem] Oper.semAt_some

theorem look_none12 {L : List Bkt12} {x : ByteArray} (h : ∀ b ∈ L, b.l ≠ x) : look12 L x = none := by
  rw [look12, Option.map_eq_none_iff, List.find?_eq_none]
  intro b hb
  simpa using h b hb
structure FoldAt12 (B : List Bkt12) (n i : Nat) (b : Bkt12) (k : Nat) : Prop where
  gap : gap12 (fold12 (new12 n) ((us12 B).take i)) b.l = some k
  st : (at12 (fold12 (new12 n) ((us12 B).take i)) k).st ≠ 2
  next : fold12 (new12 n) ((us12 B).take (i + 1)) = (fold12 (new12 n) ((us12 B).take i)).set k ⟨1, b.l, b.c⟩
  len : (fold12 (new12 n) ((us12 B).take i)).length = n
  all : ∀ j, j < (fold12 (new12 n) ((us12 B).take i)).length → (at12 (fold12 (new12 n) ((us12 B).take i)) j).st = 0 ∨ (at12 (fold12 (new12 n) ((us12 B).take i)) j).st = 1 ∨ (at12 (fold12 (new12 n) ((us12 B).take i)) j).st = 2
theorem us_part12 {B : List Bkt12} (h : Ok12 B) {n : Nat} (hn : cnt12 B 1 ≤ n) (i : Nat) : Fold12 (new12 n) (fold12 (new12 n) ((us12 B).take i)) ((us12 B).take i) := by
  refine fold_ok12 _ _ (new_ok12 n) (new_cnt12 n).2 ?_ (fun b hb => ?_) ((us_once12 h).sublist (List.take_sublist _ _))
  · rw [(new_cnt12 n).1, new_len12, List.length_take, us_len12]; omega
  · obtain ⟨j, hj, h1, h2⟩ := us_mem12.1 (List.mem_of_mem_take hb)
    rw [← h1] at h2 ⊢
    obtain ⟨u1, u2, _⟩ := h.used j hj h2
    exact ⟨u1, u2, mp_none12.2 (new_plc12 n _)⟩
theorem fold_step12 {B : List Bkt12} (h : Ok12 B) {n : Nat} (hn : cnt12 B 1 ≤ n) {i : Nat} {b : Bkt12} (hb : (us12 B)[i]? = some b) : ∃ k, FoldAt12 B n i b k := by
  have hf := us_part12 h hn i
  have hi : i < (us12 B).length := (List.getElem?_eq_some_iff.1 hb).1
  have hil : ((us12 B).take i).length = i := by rw [List.length_take]; omega
  have hlk : look12 ((us12 B).take i) b.l = none := by
    refine look_none12 fun x hx => ?_
    obtain ⟨j, hj⟩ := List.mem_iff_getElem?.1 hx
    have hjl := (List.getElem?_eq_some_iff.1 hj).1
    rw [hil] at hjl
    rw [List.getElem?_take_of_lt hjl] at hj
    have := List.pairwise_iff_getElem.1 (us_once12 h) j i (by omega) hi hjl
    rw [List.getElem?_eq_getElem (by omega)] at hj hb
    rw [Option.some.inj hj, Option.some.inj hb] at this
    exact this
  have hpl : plc12 (fold12 (new12 n) ((us12 B).take i)) b.l = none := by
    rw [← mp_none12, hf.mp, hlk, mp_none12.2 (new_plc12 n _)]; rfl
  obtain ⟨k, hk⟩ := hf.ok.gap hpl (by rw [hf.used, hf.len, new_len12, (new_cnt12 n).1, hil]; rw [us_len12] at hi; omega)
  refine ⟨k, hk, fun e => ?_, ?_, by rw [hf.len, new_len12], fun j hj => ?_⟩
  · have hkl := (gap_lt12 hk).1
    have : 0 < cnt12 (fold12 (new12 n) ((us12 B).take i)) 2 := by
      rw [cnt12, List.countP_pos_iff]
      exact ⟨_, by rw [at_get12 hkl] at e; exact List.getElem_mem hkl, by rw [at_get12 hkl] at e; simpa using e⟩
    rw [hf.gone] at this
    exact absurd this (Nat.lt_irrefl _)
  · rw [List.take_add_one, hb]
    show fold12 (new12 n) ((us12 B).take i ++ [b]) = _
    rw [fold12, List.foldl_append]
    show set12 (fold12 (new12 n) ((us12 B).take i)) b.l b.c = _
    rw [set12, hk]
  · by_cases h1 : (at12 (fold12 (new12 n) ((us12 B).take i)) j).st = 1
    · exact .inr (.inl h1)
    · rcases (hf.ok.not j hj h1).1 with h0 | h0
      · exact .inl h0
      · exact .inr (.inr h0)
def roomV12 (s : Sto12) : Sto12 × Int :=
  if 3 * (s.B.length : Int) < 4 * (s.many + s.gone + 1) then
    (if 4096 < grow12 s then (⟨[], 0, 0⟩, 20) else (⟨fold12 (new12 (grow12 s).toNat) (us12 s.B), s.many, 0⟩, 0))
  else (s, 0)
/-- what a store has to do with its cells. -/
structure Bnd12 (s : Sto12) : Prop where
  size : size12 (s.B.length : Int) = true
  len : 8 ≤ s.B.length ∧ s.B.length ≤ 4096
  many : 0 ≤ s.many ∧ s.many ≤ 4096
  gone : 0 ≤ s.gone ∧ s.gone ≤ 4096
theorem Rt12.bnd {s : Sto12} (h : Rt12 s) : Bnd12 s := by
  have h1 := size_bd12 h.size
  have h2 := h.many
  have h3 := h.gone
  have l1 := cnt_le12 s.B 1
  have l2 := cnt_le12 s.B 2
  exact ⟨h.size, by omega, by omega, by omega⟩

set_option maxRecDepth 100000 in
set_option maxHeartbeats 8000000 in
theorem with_no12 (s : Sto12) (A : Option Addr) (c : Nat) (w : World) (h : InS w s A c) (hr : Rt12 s) (hc : ¬ 3 * (s.B.length : Int) < 4 * (s.many + s.gone + 1)) :
    Calls Try.prog 46 #[stoV s A c] w fun e w' => ∃ A1 c1, e = .returned (.tuple #[stoV s A1 c1, .int .i64 0]) ∧ RowB w' w.heap.size A1 c1 s.B ∧ Below w.heap.size w w' := by
  have hb := hr.bnd
  have HW := Lib.hid (fun W => crowded_any12 A s.B.length c s.many s.gone 1 W (.inr rfl) hb.len.2 hb.many hb.gone)
  rw [decide_eq_false hc] at HW
  have HC := Lib.hid (fun W (hB : Below w.heap.size w W) => copy_any12 s A c W (h.keep hB))
  clear hc hr hb h
  obtain ⟨W0, hW0⟩ : ∃ W, W = (w.alloc (.cells (stoA s A c) 31)).alloc (.cells #[.slice none 0 0, .int .i64 0, .int .i64 0] 31) := ⟨_, rfl⟩
  have i1 : Is W0 w.heap.size 31 (stoA s A c) := by rw [hW0]; exact heap_alloc2_old w _ _
  have i2 : Is W0 (w.heap.size + 1) 31 #[.slice none 0 0, .int .i64 0, .int .i64 0] := by rw [hW0]; exact heap_alloc2_new w _ _
  have hB0 : Below w.heap.size w W0 := by rw [hW0]; exact ((Below.refl _ _).alloc (Nat.le_refl _) _).alloc (by simp) _
  go_enter Try.func46, Try.ntmps46
  go_wp2_with fail
  rw [← hW0]
  clear hW0
  go_wp2_with (refine wpList_load_row rfl 31 _ rfl w.heap.size rfl _ _ _ _ i1 Try.underlying31 rfl infoSto12 ?_)
  refine (HW.out _).mono ?_
  rintro e W1 ⟨rfl, hb1⟩
  have j1 := i1.below hb1 i1.lt
  have j2 := i2.below hb1 i2.lt
  have hB1 := hB0.trans (hb1.mono hB0.size)
  clear i1 i2 hB0 hb1 HW
  go_wp2_with (refine wpList_load_row rfl 31 _ rfl w.heap.size rfl _ _ _ _ j1 Try.underlying31 rfl infoSto12 ?_)
  refine (HC.out _ hB1).mono ?_
  rintro e W2 ⟨A1, c1, rfl, hr2, hb2⟩
  have k2 := j2.below hb2 j2.lt
  have hB2 := hB1.trans (hb2.mono hB1.size)
  have HONE := Lib.hid (stoA_one12 s A1 c1)
  have hr3 := hr2.mono hB1.size
  go_wp2_with (refine wpList_store_row rfl 31 _ _ rfl (w.heap.size + 1) (stoA s A1 c1) rfl rfl 31 _ k2 infoSto12 rfl HONE.out ?_)
  exact bodyPost_ret (results_row_tmp Try.results46 _ _ (w.heap.size + 1) 31 _ (0, 0) _ rfl (k2.row _) Try.underlying31 rfl infoSto12) rfl ⟨A1, c1, rfl, hr3.rowFar k2 (by decide) _, belowRow hB2 (by omega) _⟩
end Go.Proofs.Ytglcckpkbnppoaa
