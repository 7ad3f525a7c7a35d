/-
  Contract of the document's own answer for layer 1: Compress. Conditions: the words are in their range.
-/
import Derived.Test.YtcpkkicpkmjagaaDoorRefA
import Derived.Test.YtcpkkicpkmjagaaDoorRefR
import Derived.Test.YtcpkkicpkmjagaaDoorRefP
namespace Go.Proofs.YtcpkkicpkmjagaaDoor
open Go.RowKit

set_option maxRecDepth 100000 in
set_option maxHeartbeats 1000000 in
theorem rcompress_arg (h : S8) (s : ByteArray) (w : World) (hs : ((s.size : Int) != 64) = true) :
    Calls Tryd.prog 12 #[.agg h.arr, .string s] w fun e w' => e = .returned (.tuple #[.agg (S8.mk 0 0 0 0 0 0 0 0).arr, .int .i64 1]) ∧ Below w.heap.size w w' := by
  go_enter Tryd.func12, Tryd.ntmps12
  go_wp2
  refine bodyPost_ret (results_row_tmp Tryd.results12 _ _ (w.heap.size + 1) 23 (S8.mk 0 0 0 0 0 0 0 0).arr (0, 0) _ rfl (heap_alloc2_new w _ _) Tryd.underlying23 rfl (by kernel_rfl)) rfl ⟨rfl, ?_⟩
  exact ((Below.refl _ _).alloc (Nat.le_refl _) _).alloc (by simp) _

set_option maxRecDepth 100000 in
set_option maxHeartbeats 8000000 in
theorem rcompress_ok (h : S8) (s : ByteArray) (w : World) (hs : s.size = 64) (hh : h.Ok) :
    Calls Tryd.prog 12 #[.agg h.arr, .string s] w fun e w' => e = .returned (.tuple #[.agg (mixS h s).arr, .int .i64 0]) ∧ Below w.heap.size w w' := by
  have hne : ((s.size : Int) != 64) = false := by rw [hs]; rfl
  have HS := Lib.hid hs
  have HH := Lib.hid hh
  clear hs hh
  go_enter Tryd.func12, Tryd.ntmps12
  go_wp2_with fail
  refine (rschedule_any _ _ HS.out).mono ?_
  rintro e w1 ⟨rfl, hb1⟩
  have hRs : (row64 (schN s 48)).size = 64 := row64_size _ (by rw [schN_length]; omega)
  have hRg : ∀ j, j < 64 → (row64 (schN s 48))[j]? = some (.int .u32 (at_ (schN s 48) j)) := fun j hj => row64_get _ _ (by rw [schN_length]; omega)
  have hRo := row64_one (schN s 48)
  generalize row64 (schN s 48) = R at *
  have h64 : (Tryd.prog.info? 58).map (·.size) = some R.size := by rw [hRs]; kernel_rfl
  have HRs := Lib.hid hRs
  have HRg := Lib.hid hRg
  have HRo := Lib.hid hRo
  have H64 := Lib.hid h64
  clear hRs hRg hRo h64
  have iA1 : Is w1 w.heap.size 23 h.arr := Is.below (heap_alloc2_old w _ _) hb1 (by simp; omega)
  have iZ1 : Is w1 (w.heap.size + 1) 23 (S8.mk 0 0 0 0 0 0 0 0).arr := Is.below (heap_alloc2_new w _ _) hb1 (by simp)
  have hB1 : Below w.heap.size w w1 := (((Below.refl _ _).alloc (Nat.le_refl _) _).alloc (by simp) _).trans (hb1.mono (by simp; omega))
  have hlt1 : w.heap.size + 1 < w1.heap.size := iZ1.lt
  clear hb1
  go_wp2_with (first
    | (refine wpList_store_row rfl 58 _ _ rfl w1.heap.size R rfl rfl _ _ (heap_alloc_new w1 _) H64.out (by rw [HRs.out]; rfl) HRo.out ?_; rw [World.setRow_alloc_new])
    | (fail))
  refine (rrounds_any _).mono ?_
  rintro e w2 ⟨rfl, hb2⟩
  have hKs : (row64 KW).size = 64 := by kernel_rfl
  have hKg : ∀ j, j < 64 → (row64 KW)[j]? = some (.int .u32 (at_ KW j)) := fun j hj => row64_get _ _ (by simpa [KW] using hj)
  have hKo := row64_one KW
  generalize row64 KW = T at *
  have h64k : (Tryd.prog.info? 58).map (·.size) = some T.size := by rw [hKs]; kernel_rfl
  have HKs := Lib.hid hKs
  have HKg := Lib.hid hKg
  have HKo := Lib.hid hKo
  have H64k := Lib.hid h64k
  clear hKs hKg hKo h64k
  have iW2 : Is w2 w1.heap.size 58 R := Is.below (heap_alloc_new w1 _) hb2 (by simp)
  have iA2 : Is w2 w.heap.size 23 h.arr := Is.below (iA1.alloc _) hb2 (by simp; omega)
  have iZ2 : Is w2 (w.heap.size + 1) 23 (S8.mk 0 0 0 0 0 0 0 0).arr := Is.below (iZ1.alloc _) hb2 (by simp; omega)
  have hB2 : Below w.heap.size w w2 := (hB1.alloc hB1.size _).trans (hb2.mono (by have := hB1.size; simp; omega))
  have hlt2 : w1.heap.size < w2.heap.size := iW2.lt
  clear hb2 iA1 iZ1 hB1
  go_wp2_with (first
    | (refine wpList_store_row rfl 58 _ _ rfl w2.heap.size T rfl rfl _ _ (heap_alloc_new w2 _) H64k.out (by rw [HKs.out]; rfl) HKo.out ?_; rw [World.setRow_alloc_new])
    | (refine wpList_load_row rfl 23 _ rfl w.heap.size rfl _ _ _ _ (iA2.alloc _) Tryd.underlying23 rfl (by kernel_rfl) ?_))
  go_loopw [9] (fun i wr => ∃ k : Nat, k ≤ 64 ∧ i = .int .i64 k ∧ Is wr (w2.heap.size + 1) 23 (rounds (schN s 48) k h).arr ∧ Is wr w1.heap.size 58 R ∧ Is wr w2.heap.size 58 T ∧ Is wr w.heap.size 23 h.arr ∧ Is wr (w.heap.size + 1) 23 (S8.mk 0 0 0 0 0 0 0 0).arr ∧ Below w.heap.size w wr)
    (fun i _ => 64 - (intOf i).toNat)
  case atStart =>
    refine ⟨0, by omega, rfl, ?_, ?_, ?_, ?_, ?_, ?_⟩
    · exact heap_alloc2_new w2 _ _
    · exact (iW2.alloc _).alloc _
    · exact heap_alloc2_old w2 _ _
    · exact (iA2.alloc _).alloc _
    · exact (iZ2.alloc _).alloc _
    · exact (hB2.alloc hB2.size _).alloc (by have := hB2.size; simp; omega) _
  case round =>
    clear iW2 iA2 iZ2 hB2
    obtain ⟨k, hk, rfl, iS, iW, iK, iA, iZ, hB⟩ := hrel
    by_cases hlt : k < 64
    · have cK : wr.cell? ⟨w2.heap.size, k, none⟩ = some (.int .u32 (at_ KW k)) := (iK.cell _).trans (HKg.out k hlt)
      have cW : wr.cell? ⟨w1.heap.size, k, none⟩ = some (.int .u32 (at_ (schN s 48) k)) := (iW.cell _).trans (HRg.out k hlt)
      have hok := rounds_ok HH.out (schN s 48) k
      generalize hsr : rounds (schN s 48) k h = sr at *
      have HSR := Lib.hid hsr
      have HOK := Lib.hid hok
      obtain ⟨he0, he1⟩ := hok.e
      clear hsr hok
      have hk64 : (k : Int) < 64 := by omega
      have hdk : decide ((k : Int) < 64) = true := by simp; omega
      have c0 : wr.cell? ⟨w2.heap.size + 1, 0, none⟩ = some (.int .u32 sr.a) := iS.cell 0
      have c1 : wr.cell? ⟨w2.heap.size + 1, 1, none⟩ = some (.int .u32 sr.b) := iS.cell 1
      have c2 : wr.cell? ⟨w2.heap.size + 1, 2, none⟩ = some (.int .u32 sr.c) := iS.cell 2
      have c3 : wr.cell? ⟨w2.heap.size + 1, 3, none⟩ = some (.int .u32 sr.d) := iS.cell 3
      have c4 : wr.cell? ⟨w2.heap.size + 1, 4, none⟩ = some (.int .u32 sr.e) := iS.cell 4
      have c5 : wr.cell? ⟨w2.heap.size + 1, 5, none⟩ = some (.int .u32 sr.f) := iS.cell 5
      have c6 : wr.cell? ⟨w2.heap.size + 1, 6, none⟩ = some (.int .u32 sr.g) := iS.cell 6
      have c7 : wr.cell? ⟨w2.heap.size + 1, 7, none⟩ = some (.int .u32 sr.h) := iS.cell 7
      have f0 := iS.frozen 0
      have f1 := iS.frozen 1
      have f2 := iS.frozen 2
      have f3 := iS.frozen 3
      have f4 := iS.frozen 4
      have f5 := iS.frozen 5
      have f6 := iS.frozen 6
      have f7 := iS.frozen 7
      go_wp2
      go_quiet ((go_at_call 38; exact Calls.quiet_of (rturn_any _ _ _ (by decide) (by decide))))
      go_wp2_with (go_at_call 38; refine (rturn_any _ _ _ (by decide) (by decide)).mono ?_; rintro e w' ⟨rfl, m, rfl⟩)
      go_roundw
      case rel =>
        refine ⟨k + 1, by omega, by go_num, ?_, ?_, ?_, ?_, ?_, ?_⟩
        · rw [rounds_succ, HSR.out, ← rndR_rnd HOK.out]
          exact (iS.set8 (rndR sr (at_ KW k) (at_ (schN s 48) k))).drewN _
        · exact (iW.far8 (by omega) (rndR sr (at_ KW k) (at_ (schN s 48) k))).drewN _
        · exact (iK.far8 (by omega) (rndR sr (at_ KW k) (at_ (schN s 48) k))).drewN _
        · exact (iA.far8 (by omega) (rndR sr (at_ KW k) (at_ (schN s 48) k))).drewN _
        · exact (iZ.far8 (by omega) (rndR sr (at_ KW k) (at_ (schN s 48) k))).drewN _
        · exact belowN (below8 hB (by omega) (rndR sr (at_ KW k) (at_ (schN s 48) k))) _
      case measure => simp [intOf]; omega
    · have iS0 : Is wr (w2.heap.size + 1) 23 (rounds (schN s 48) 64 h).arr := by
        have e : k = 64 := by omega
        rw [e] at iS
        exact iS
      clear iS
      generalize hsr : rounds (schN s 48) 64 h = sr at *
      have HSR := Lib.hid hsr
      clear hsr
      have hdk : decide ((k : Int) < 64) = false := by simp; omega
      obtain ⟨wo, rfl⟩ : ∃ wo, wo = wr := ⟨_, rfl⟩
      have hszr := hB.size
      have hltS : w2.heap.size + 1 < wo.heap.size := iS0.lt
      go_wp2
      go_loopw [17] (fun i wq => ∃ k : Nat, k ≤ 8 ∧ i = .int .i64 k ∧ Is wq wo.heap.size 23 (arrF fun j => if j < k then (h.get j + sr.get j) % 4294967296 else 0) ∧ Is wq (w2.heap.size + 1) 23 sr.arr ∧ Is wq w.heap.size 23 h.arr ∧ Is wq (w.heap.size + 1) 23 (S8.mk 0 0 0 0 0 0 0 0).arr ∧ Below w.heap.size w wq)
        (fun i _ => 8 - (intOf i).toNat)
      case atStart =>
        refine ⟨0, by omega, rfl, ?_, iS0.alloc _, iA.alloc _, iZ.alloc _, hB.alloc hB.size _⟩
        exact heap_alloc_new wo _
      case round =>
        clear iS0 iA iZ hB iW iK
        obtain ⟨k, hk, rfl, iO, iS, iA, iZ, hB⟩ := hrel
        by_cases hlt : k < 8
        · have cS : wr.cell? ⟨w2.heap.size + 1, k, none⟩ = some (.int .u32 (sr.get k)) := (iS.cell _).trans (by rw [arr_arrF]; exact arrF_get _ _ hlt)
          have cA : wr.cell? ⟨w.heap.size, k, none⟩ = some (.int .u32 (h.get k)) := (iA.cell _).trans (by rw [arr_arrF]; exact arrF_get _ _ hlt)
          have cO : wr.cell? ⟨wo.heap.size, k, none⟩ = some (.int .u32 0) := (iO.cell _).trans (by rw [arrF_get _ _ hlt]; simp)
          have fO : wr.frozen? ⟨wo.heap.size, k, none⟩ = false := iO.frozen k
          have hk8 : (k : Int) < 8 := by omega
          have IO_ := Lib.hid iO
          clear iO
          go_wp2
          refine wp_region_still_tail 9 (by kernel_rfl) (by kernel_rfl) ?_
          change wpStill _ _ (wr.drewN 1) (fun a' => wpList _ _ _ _ a' (wr.drewN 1)) _ _
          simp only [List.take_succ_cons, List.take_zero, List.drop_succ_cons, List.drop_zero]
          repeat still_step
          refine wpStill_nil ?_
          go_wp2
          go_roundw
          case rel =>
            refine ⟨k + 1, by omega, by go_num, ?_, (iS.far (by simp; omega) _), (iA.far (by simp; omega) _), (iZ.far (by simp; omega) _), (belowN hB _).setCell (by simp; omega) _⟩
            have h1 := (IO_.out.drewN 1).set k (.int .u32 ((h.get k + sr.get k) % 4294967296))
            rw [arrF_set] at h1
            have e : arrF (fun j => if j = k then (h.get k + sr.get k) % 4294967296 else if j < k then (h.get j + sr.get j) % 4294967296 else 0) = arrF (fun j => if j < k + 1 then (h.get j + sr.get j) % 4294967296 else 0) := by
              refine arrF_congr fun j _ => ?_
              by_cases e1 : j = k
              · subst e1; simp
              · rw [if_neg e1]
                by_cases e2 : j < k
                · rw [if_pos e2, if_pos (by omega)]
                · rw [if_neg e2, if_neg (by omega)]
            rw [e] at h1
            exact h1
          case measure => simp [intOf]; omega
        · have iM : Is wr wo.heap.size 23 (mixS h s).arr := by
            have e : k = 8 := by omega
            subst e
            rw [arr_arrF]
            have e2 : arrF (mixS h s).get = arrF (fun j => if j < 8 then (h.get j + sr.get j) % 4294967296 else 0) := by
              refine arrF_congr fun j hj => ?_
              rw [if_pos hj, mixS, addS_get, HSR.out]
            rw [e2]
            exact iO
          clear iO
          generalize hmx : mixS h s = mx at iM
          have HM := Lib.hid hmx
          clear hmx
          have hdk8 : decide ((k : Int) < 8) = false := by simp; omega
          go_wp2_with (first
            | (refine wpList_load_row rfl 23 _ rfl wo.heap.size rfl _ _ _ _ iM Tryd.underlying23 rfl (by kernel_rfl) ?_)
            | (refine wpList_store_row rfl 23 _ _ rfl (w.heap.size + 1) mx.arr rfl rfl _ _ iZ (by kernel_rfl) rfl (arr_one _) ?_))
          exact bodyPost_ret (results_row_tmp Tryd.results12 _ _ (w.heap.size + 1) 23 mx.arr (0, 0) _ rfl (iZ.row _) Tryd.underlying23 rfl (by kernel_rfl)) rfl ⟨by rw [HM.out]; rfl, belowRow hB (by omega) _⟩
end Go.Proofs.YtcpkkicpkmjagaaDoor
