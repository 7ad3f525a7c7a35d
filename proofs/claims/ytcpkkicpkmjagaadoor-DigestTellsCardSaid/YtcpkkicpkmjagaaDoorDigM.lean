/-
  Contract of digest.mix: what a block of 64 bytes makes of eight words. Conditions: the block has 64 bytes; the table of round words holds what its initialiser lays.
-/
import Derived.Test.YtcpkkicpkmjagaaDoorDigW
namespace Go.Proofs.YtcpkkicpkmjagaaDoor
open Go.RowKit

/-- eight words stored one by one. -/
abbrev set8 (w : World) (g : Nat) (s : S8) : World := ((((((((w.setCell ⟨g, 0, none⟩ (.int .u32 s.a)).setCell ⟨g, 1, none⟩ (.int .u32 s.b)).setCell ⟨g, 2, none⟩ (.int .u32 s.c)).setCell ⟨g, 3, none⟩ (.int .u32 s.d)).setCell ⟨g, 4, none⟩ (.int .u32 s.e)).setCell ⟨g, 5, none⟩ (.int .u32 s.f)).setCell ⟨g, 6, none⟩ (.int .u32 s.g)).setCell ⟨g, 7, none⟩ (.int .u32 s.h))
theorem Is.set8 {w : World} {g : Nat} {t : TypeId} {s : S8} (h : Is w g t s.arr) (s' : S8) : Is (set8 w g s') g t s'.arr := by
  have := (((((((h.set 0 (.int .u32 s'.a)).set 1 (.int .u32 s'.b)).set 2 (.int .u32 s'.c)).set 3 (.int .u32 s'.d)).set 4 (.int .u32 s'.e)).set 5 (.int .u32 s'.f)).set 6 (.int .u32 s'.g)).set 7 (.int .u32 s'.h)
  simpa using this
theorem heap_set8 (w : World) (g k : Nat) (s : S8) (h : k ≠ g) : (set8 w g s).heap[k]? = w.heap[k]? := by
  simp only [set8]
  repeat rw [heap_setCell_other _ _ _ _ (by simpa using h)]
theorem Is.far8 {w : World} {g : Nat} {t : TypeId} {cs : Array Value} (h : Is w g t cs) {k : Nat} (hk : g ≠ k) (s : S8) : Is (Go.Proofs.YtcpkkicpkmjagaaDoor.set8 w k s) g t cs := (heap_set8 w k g s hk).trans h
theorem below8 {B : Nat} {a w : World} (h : Below B a w) {g : Nat} (hg : B ≤ g) (s : S8) : Below B a (set8 w g s) :=
  (((((((h.setCell hg _).setCell hg _).setCell hg _).setCell hg _).setCell hg _).setCell hg _).setCell hg _).setCell hg _

/-- the tables hold what their initialisers lay. -/
structure Tab (w : World) : Prop where
  k : ∀ i, i < 64 → w.cell? ⟨1, i, none⟩ = some (.int .u32 (at_ KW i))
  h : ∀ i, i < 8 → w.cell? ⟨0, i, none⟩ = some (.int .u32 (H0.get i))
  two : 2 ≤ w.heap.size
theorem Tab.below {w w' : World} {B : Nat} (h : Tab w) (hb : Below B w w') (hB : 2 ≤ B) : Tab w' :=
  ⟨fun i hi => (hb.cell (p := ⟨1, i, none⟩) (by show 1 < B; omega)).trans (h.k i hi), fun i hi => (hb.cell (p := ⟨0, i, none⟩) (by show 0 < B; omega)).trans (h.h i hi), Nat.le_trans h.two hb.size⟩
theorem Tab.drewN {w : World} (h : Tab w) (n : Nat) : Tab (w.drewN n) := ⟨h.k, h.h, h.two⟩

set_option maxRecDepth 100000 in
set_option maxHeartbeats 400000 in
theorem mix_any (h : S8) (s : ByteArray) (w : World) (hs : s.size = 64) (hT : Tab w) :
    Calls Tryd.prog 35 #[.agg h.arr, .string s] w fun e w' => e = .returned (.agg (mixS h s).arr) ∧ Below w.heap.size w w' := by
  have HS := Lib.hid hs
  clear hs
  go_enter Tryd.func35, Tryd.ntmps35
  go_wp2_with fail
  refine (schedule_any _ _ HS.out).mono ?_
  rintro e w1 ⟨rfl, hb1⟩
  have hRs : (row64 (schN s 48)).size = 64 := row64_size _ (by rw [schN_length]; omega)
  have hRg : ∀ j, j < 64 → (row64 (schN s 48))[j]? = some (.int .u32 (at_ (schN s 48) j)) := fun j hj => row64_get _ _ (by rw [schN_length]; omega)
  have hRo := row64_one (schN s 48)
  generalize row64 (schN s 48) = R at *
  have h64 : (Tryd.prog.info? 58).map (·.size) = some R.size := by rw [hRs]; kernel_rfl
  have HRs := Lib.hid hRs
  have HRg := Lib.hid hRg
  have HRo := Lib.hid hRo
  have H64 := Lib.hid h64
  clear hRs hRg hRo h64
  have hA1 : Is w1 w.heap.size 23 h.arr := Is.below (heap_alloc2_old w _ _) hb1 (by simp; omega)
  have hZ1 : Is w1 (w.heap.size + 1) 23 (S8.mk 0 0 0 0 0 0 0 0).arr := Is.below (heap_alloc2_new w _ _) hb1 (by simp)
  have hB1 : Below w.heap.size w w1 := (((Below.refl _ _).alloc (Nat.le_refl _) _).alloc (by simp) _).trans (hb1.mono (by simp; omega))
  have hlt1 : w.heap.size + 1 < w1.heap.size := hZ1.lt
  clear hb1
  go_wp2_with (first
    | (refine wpList_store_row rfl 58 _ _ rfl w1.heap.size R rfl rfl _ _ (heap_alloc_new w1 _) H64.out (by rw [HRs.out]; rfl) HRo.out ?_; rw [World.setRow_alloc_new])
    | (refine wpList_load_row rfl 23 _ rfl w.heap.size rfl _ _ _ _ (hA1.alloc _) Tryd.underlying23 rfl (by kernel_rfl) ?_))
  go_loopw [12] (fun i wr => ∃ k : Nat, k ≤ 64 ∧ i = .int .i64 k ∧ Is wr (w1.heap.size + 1) 23 (rounds (schN s 48) k h).arr ∧ Is wr w1.heap.size 58 R ∧ Is wr w.heap.size 23 h.arr ∧ Is wr (w.heap.size + 1) 23 (S8.mk 0 0 0 0 0 0 0 0).arr ∧ Below w.heap.size w wr)
    (fun i _ => 64 - (intOf i).toNat)
  case atStart =>
    refine ⟨0, by omega, rfl, ?_, ?_, ?_, ?_, ?_⟩
    · exact heap_alloc2_new w1 _ _
    · exact heap_alloc2_old w1 _ _
    · exact (hA1.alloc _).alloc _
    · exact (hZ1.alloc _).alloc _
    · exact (hB1.alloc (by omega) _).alloc (by simp; omega) _
  case round =>
    obtain ⟨k, hk, rfl, hS, hW, hA, hZ, hB⟩ := hrel
    by_cases hlt : k < 64
    · have hTr : Tab wr := hT.below hB hT.two
      have cK := hTr.k k hlt
      have cW : wr.cell? ⟨w1.heap.size, k, none⟩ = some (.int .u32 (at_ (schN s 48) k)) := (hW.cell _).trans (HRg.out k hlt)
      generalize hsr : rounds (schN s 48) k h = sr at *
      have HSR := Lib.hid hsr
      clear hsr
      have c0 := hS.cell 0
      have c1 := hS.cell 1
      have c2 := hS.cell 2
      have c3 := hS.cell 3
      have c4 := hS.cell 4
      have c5 := hS.cell 5
      have c6 := hS.cell 6
      have c7 := hS.cell 7
      go_wp2
      refine wp_region_still_tail 8 (by kernel_rfl) (by kernel_rfl) ?_
      change wpStill _ _ (wr.drewN 1) (fun a' => wpList _ _ _ _ a' (wr.drewN 1)) _ _
      simp only [List.take_succ_cons, List.take_zero, List.drop_succ_cons, List.drop_zero]
      repeat still_step
      refine wpStill_nil ?_
      go_wp2_with fail
      refine (round_any sr _ _).mono ?_
      rintro e w2 ⟨rfl, hb2⟩
      have hS2 : Is w2 (w1.heap.size + 1) 23 sr.arr := Is.below (hS.drewN 1) hb2 hS.lt
      have hW2 : Is w2 w1.heap.size 58 R := Is.below (hW.drewN 1) hb2 hW.lt
      have hA2 : Is w2 w.heap.size 23 h.arr := Is.below (hA.drewN 1) hb2 hA.lt
      have hZ2 : Is w2 (w.heap.size + 1) 23 (S8.mk 0 0 0 0 0 0 0 0).arr := Is.below (hZ.drewN 1) hb2 hZ.lt
      have hB2 : Below w.heap.size w w2 := (belowN hB 1).trans (hb2.mono hB.size)
      clear hb2 cK cW c0 c1 c2 c3 c4 c5 c6 c7 hS hW hA hZ hB hTr
      go_wp2_with (refine wpList_store_row rfl 23 _ _ rfl (w1.heap.size + 1) (rnd sr ((at_ KW k + at_ (schN s 48) k) % 4294967296)).arr rfl rfl _ _ hS2 (by kernel_rfl) rfl (arr_one _) ?_)
      go_roundw
      case rel =>
        refine ⟨k + 1, by omega, by go_num, ?_, hW2.rowFar (by omega) _, hA2.rowFar (by omega) _, hZ2.rowFar (by omega) _, belowRow hB2 (by omega) _⟩
        rw [rounds_succ, HSR.out]
        exact hS2.row _
      case measure => simp [intOf]; omega
    · have hS0 : Is wr (w1.heap.size + 1) 23 (rounds (schN s 48) 64 h).arr := by
        have e : k = 64 := by omega
        rw [e] at hS
        exact hS
      clear hS
      generalize hsr : rounds (schN s 48) 64 h = sr at *
      have HSR := Lib.hid hsr
      clear hsr
      go_wp2
      go_loopw [25] (fun i wr => ∃ k : Nat, k ≤ 8 ∧ i = .int .i64 k ∧ Is wr (w1.heap.size + 1) 23 sr.arr ∧ Is wr w.heap.size 23 (arrF fun j => if j < k then (h.get j + sr.get j) % 4294967296 else h.get j) ∧ Is wr (w.heap.size + 1) 23 (S8.mk 0 0 0 0 0 0 0 0).arr ∧ Below w.heap.size w wr)
        (fun i _ => 8 - (intOf i).toNat)
      case atStart =>
        refine ⟨0, by omega, rfl, hS0, ?_, hZ, hB⟩
        rw [arr_arrF] at hA
        exact hA
      case round =>
        clear hS0 hA hZ hB hW
        obtain ⟨k, hk, rfl, hS, hA, hZ, hB⟩ := hrel
        by_cases hlt : k < 8
        · have cS : wr.cell? ⟨w1.heap.size + 1, k, none⟩ = some (.int .u32 (sr.get k)) := (hS.cell _).trans (by rw [arr_arrF]; exact arrF_get _ _ hlt)
          have cA : wr.cell? ⟨w.heap.size, k, none⟩ = some (.int .u32 (h.get k)) := (hA.cell _).trans (by rw [arrF_get _ _ hlt]; simp)
          have fA : wr.frozen? ⟨w.heap.size, k, none⟩ = false := hA.frozen k
          have HA := Lib.hid hA
          clear hA
          go_wp2
          refine wp_region_still_tail 8 (by kernel_rfl) (by kernel_rfl) ?_
          change wpStill _ _ (wr.drewN 1) (fun a' => wpList _ _ _ _ a' (wr.drewN 1)) _ _
          simp only [List.take_succ_cons, List.take_zero, List.drop_succ_cons, List.drop_zero]
          repeat still_step
          refine wpStill_nil ?_
          go_wp2
          go_roundw
          case rel =>
            refine ⟨k + 1, by omega, by go_num, (hS.far (by simp; omega) _), ?_, (hZ.far (by simp) _), (belowN hB _).setCell (by simp) _⟩
            have h1 := (HA.out.drewN 1).set k (.int .u32 ((h.get k + sr.get k) % 4294967296))
            rw [arrF_set] at h1
            have e : arrF (fun j => if j = k then (h.get k + sr.get k) % 4294967296 else if j < k then (h.get j + sr.get j) % 4294967296 else h.get j) = arrF (fun j => if j < k + 1 then (h.get j + sr.get j) % 4294967296 else h.get j) := by
              refine arrF_congr fun j _ => ?_
              by_cases e1 : j = k
              · subst e1; simp
              · rw [if_neg e1]
                by_cases e2 : j < k
                · rw [if_pos e2, if_pos (by omega)]
                · rw [if_neg e2, if_neg (by omega)]
            rw [e] at h1
            exact h1
          case measure => simp [intOf]; omega
        · have hA0 : Is wr w.heap.size 23 (mixS h s).arr := by
            have e : k = 8 := by omega
            subst e
            rw [arr_arrF]
            have e2 : arrF (mixS h s).get = arrF (fun j => if j < 8 then (h.get j + sr.get j) % 4294967296 else h.get j) := by
              refine arrF_congr fun j hj => ?_
              rw [if_pos hj, mixS, addS_get, HSR.out]
            rw [e2]
            exact hA
          clear hA
          generalize hmx : mixS h s = mx at hA0
          have HM := Lib.hid hmx
          clear hmx
          go_wp2_with (first
            | (refine wpList_load_row rfl 23 _ rfl w.heap.size rfl _ _ _ _ hA0 Tryd.underlying23 rfl (by kernel_rfl) ?_)
            | (refine wpList_store_row rfl 23 _ _ rfl (w.heap.size + 1) mx.arr rfl rfl _ _ hZ (by kernel_rfl) rfl (arr_one _) ?_))
          refine bodyPost_ret (results_cell_row Tryd.results35 _ _ (w.heap.size + 1) 23 mx.arr (0, 0) _ rfl (hZ.row _) Tryd.underlying23 rfl (by kernel_rfl)) rfl ⟨by rw [HM.out], ?_⟩
          exact belowRow hB (by omega) _
end Go.Proofs.YtcpkkicpkmjagaaDoor
