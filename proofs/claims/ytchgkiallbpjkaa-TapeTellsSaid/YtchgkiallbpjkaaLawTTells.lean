/-
  TapeTells: the walk of the statement's function.
-/
import Derived.Test.YtchgkiallbpjkaaTapY
namespace Go.Proofs.Ytchgkiallbpjkaa
open Go.RowKit Go.Shelf

theorem turnV_le (B : ByteArray) (a : Int) (l : List Int) : (turnV B a l).length ≤ l.length := by
  by_cases h : turnE B a l = 0
  · rw [(turnV_perm B a l h).length_eq]; exact Nat.le_refl _
  · rw [turnV, if_neg h]; exact Nat.zero_le _
theorem InL.take {W : World} {A : Option Addr} {L : List Int} (h : InL W A L) (n : Nat) : InL W A (L.take n) := fun j hj => by
  have hj2 : j < L.length := by rw [List.length_take] at hj; omega
  have hj3 : j < n := by rw [List.length_take] at hj; omega
  obtain ⟨b, off, h1, h2, h3⟩ := h j hj2
  refine ⟨b, off, h1, h2, ?_⟩
  rw [h3, List.getD_eq_getElem?_getD, List.getD_eq_getElem?_getD, List.getElem?_take, if_pos hj3]
theorem run_cut7 (A : Option Addr) (cap : Nat) (L : List Int) (hl : L.length ≤ cap) (wx : World) :
    (Instr.slice 24 (.slice A L.length cap) none (some (.int .i64 (min (L.length : Int) 60))) none).run Try.prog wx = .ok (.slice A (L.take 60).length cap) wx := by
  obtain ⟨m, hm⟩ : ∃ m : Nat, m = min 60 L.length := ⟨_, rfl⟩
  have e : min (L.length : Int) 60 = (m : Int) := by omega
  rw [e, List.length_take, ← hm]
  have hm2 : (m : Int) ≤ (cap : Int) := by omega
  clear hm hl e
  cases A with
  | none => go_simp
  | some p => go_simp
set_option maxRecDepth 100000 in
set_option maxHeartbeats 8000000 in
theorem ttells_walk (s : ByteArray) (at_ : Int) (Bo : ByteArray) (ao n : Int) (A : Option Addr) (cap : Nat) (L : List Int) (w : World) (_hs : s.size ≤ maxLen) (ha : -9223372036854775808 ≤ at_ ∧ at_ ≤ 9223372036854775807) (_hso : Bo.size ≤ maxLen) (_hao : -9223372036854775808 ≤ ao ∧ ao ≤ 9223372036854775807) (hn : -9223372036854775808 ≤ n ∧ n ≤ 9223372036854775807)
    (hl : L.length ≤ maxLen ∧ L.length ≤ cap) (hnc : A = none → cap = 0) (hc : InL w A L) (_hb : ∀ y ∈ L, -9223372036854775808 ≤ y ∧ y ≤ 9223372036854775807) :
    Calls Try.prog 3 #[.string s, .int .i64 at_, .agg #[.string Bo, .int .i64 ao], .int .i64 n, .slice A L.length cap] w fun e w' => e = .returned (.bool true) ∧ Below w.heap.size w w' := by
  have HSL := Lib.hid (fun wx => run_cut7 A cap L hl.2 wx)
  have hsl := HSL.out
  have M1 := Lib.hid (fun w => tape7_any s at_ w ha)
  have hr := at7_right s at_
  generalize at7 s at_ = t0 at *
  generalize cut7 s = C at *
  have HR := Lib.hid hr
  have MP := Lib.hid (fun w => pick7_any n 9 w hn.1 hn.2 (by omega) (by omega))
  generalize pickN n 9 = p at *
  have HX := Lib.hid (hc.take 60)
  have HXL := Lib.hid (show (L.take 60).length ≤ 60 by rw [List.length_take]; omega)
  generalize L.take 60 = X at *
  have HN := Lib.hid hnc
  clear hr ha hn hl hnc hc _hb HSL
  obtain ⟨W0, hW0⟩ : ∃ W0, W0 = w.alloc (.cells #[.string Bo, .int .i64 ao] 23) := ⟨_, rfl⟩
  go_enter Try.func3, Try.ntmps3
  go_wp2_with fail
  rw [← hW0]
  have iO0 : Is W0 w.heap.size 23 #[.string Bo, .int .i64 ao] := by rw [hW0]; exact Is.new w _ _
  have hB0 : Below w.heap.size w W0 := by rw [hW0]; exact (Below.refl _ _).alloc (Nat.le_refl _) _
  clear hW0
  refine (awake7_any _).mono ?_
  rintro e W1 ⟨rfl, hb⟩
  have iO1 := iO0.below hb iO0.lt
  have hB1 := hB0.trans (hb.mono hB0.size)
  clear hb iO0 hB0
  have cO0 : W1.cell? ⟨w.heap.size, 0, none⟩ = some (.string Bo) := iO1.cell 0
  have cO1 : W1.cell? ⟨w.heap.size, 1, none⟩ = some (.int .i64 ao) := iO1.cell 1
  have hOl := iO1.lt
  have nO := World.new_ne _ _ cO0
  go_wp2_with fail
  go_region_held3 (fun w' => w'.cell? ⟨w.heap.size, 0, none⟩ = some (.string Bo) ∧ w'.cell? ⟨w.heap.size, 1, none⟩ = some (.int .i64 ao)) (go_keep)
    (first | (go_at_call 9; refine (M1.out _).mono ?_; rintro e W2 ⟨rfl, hb2⟩; have c50 : W2.cell? ⟨w.heap.size, 0, none⟩ = some (.string Bo) := (hb2.cell (p := ⟨w.heap.size, 0, none⟩) hOl).trans (by go_keep); have c51 : W2.cell? ⟨w.heap.size, 1, none⟩ = some (.int .i64 ao) := (hb2.cell (p := ⟨w.heap.size, 1, none⟩) hOl).trans (by go_keep); have n5 := World.new_ne _ _ c50))
  have hB2 : Below w.heap.size w W2 := (belowN hB1 1).trans (hb2.mono hB1.size)
  have hB3 := hB2.alloc hB2.size (.cells #[.string C, .int .i64 t0, .string Bo, .int .i64 ao] 23)
  have iS : Is (W2.alloc (.cells #[.string C, .int .i64 t0, .string Bo, .int .i64 ao] 23)) W2.heap.size 23 #[.string C, .int .i64 t0, .string Bo, .int .i64 ao] := Is.new W2 _ _
  have hSW : w.heap.size ≤ W2.heap.size := hB2.size
  clear hb2 cO0 cO1 hOl nO iO1 hB1 hB2 c50 c51 n5
  generalize W2.alloc (.cells #[.string C, .int .i64 t0, .string Bo, .int .i64 ao] 23) = W3 at *
  generalize W2.heap.size = DS at *
  go_wp2
  go_loopw [50] (fun i wr => ∃ k : Nat, k ≤ 2 ∧ i = .int .i64 (k : Int) ∧ Is wr DS 23 #[.string C, .int .i64 t0, .string Bo, .int .i64 ao] ∧ Below w.heap.size w wr) (fun i _ => 2 - (intOf i).toNat)
  case atStart => exact ⟨0, by omega, rfl, iS, hB3⟩
  case round =>
    clear iS hB3
    obtain ⟨k, hk, rfl, iS, hB⟩ := hrel
    by_cases hlt : k < 2
    · have l1 : (k : Int) < 2 := by omega
      obtain ⟨B, a, hS0, hS1⟩ : ∃ (B : ByteArray) (a : Int), wr.cell? ⟨DS, k * 2, none⟩ = some (.string B) ∧ wr.cell? ⟨DS, k * 2 + 1, none⟩ = some (.int .i64 a) := by
        rcases (show k = 0 ∨ k = 1 by omega) with rfl | rfl
        · exact ⟨C, t0, iS.cell 0, iS.cell 1⟩
        · exact ⟨Bo, ao, iS.cell 2, iS.cell 3⟩
      have w0i := IntWalk.i64_in ((k : Int) + 1) (by omega)
      have hk1 : k + 1 ≤ 2 := by omega
      by_cases hbig : (500 : Int) < (B.size : Int)
      · have iS2 := iS.alloc (.cells #[.string B, .int .i64 a] 23)
        have hB2 := hB.alloc hB.size (.cells #[.string B, .int .i64 a] 23)
        go_wp2
        go_roundw
        case rel => exact ⟨k + 1, hk1, by go_num, iS2, hB2⟩
        case measure => simp [intOf]; omega
      · have iT := Is.new wr 23 #[.string B, .int .i64 a]
        have iS2 := iS.alloc (.cells #[.string B, .int .i64 a] 23)
        have hB2 := hB.alloc hB.size (.cells #[.string B, .int .i64 a] 23)
        have hWD : w.heap.size ≤ wr.heap.size := hB.size
        have hDS : DS < wr.heap.size := iS.lt
        have RT := Lib.hid (fun w => tright_any B a w)
        have RD := Lib.hid (fun w => dright_any B a w)
        have LT := Lib.hid (fun w => tleft_any B a w)
        have LD := Lib.hid (fun w => dleft_any B a w)
        generalize rightV B a = rv at *
        generalize leftV B a = lv at *
        go_wp2
        clear iS hB hS0 hS1
        generalize wr.alloc (.cells #[.string B, .int .i64 a] 23) = W4 at *
        generalize wr.heap.size = D at *
        have hDl := iT.lt
        have c0 : W4.cell? ⟨D, 0, none⟩ = some (.string B) := iT.cell 0
        have c1 : W4.cell? ⟨D, 1, none⟩ = some (.int .i64 a) := iT.cell 1
        go_region_held3 (fun w' => w'.cell? ⟨D, 0, none⟩ = some (.string B) ∧ w'.cell? ⟨D, 1, none⟩ = some (.int .i64 a)) (go_keep)
          (first
            | (go_at_call 10; refine (RT.out _).mono ?_; rintro e V1 ⟨rfl, hv1⟩; have d0_1 : V1.cell? ⟨D, 0, none⟩ = some (.string B) := (hv1.cell (p := ⟨D, 0, none⟩) hDl).trans (by go_keep); have d1_1 : V1.cell? ⟨D, 1, none⟩ = some (.int .i64 a) := (hv1.cell (p := ⟨D, 1, none⟩) hDl).trans (by go_keep); have hDl1 : D < V1.heap.size := Nat.lt_of_lt_of_le hDl hv1.size)
            | (go_at_call 11; refine (RD.out _).mono ?_; rintro e V2 ⟨rfl, hv2⟩; have d0_2 : V2.cell? ⟨D, 0, none⟩ = some (.string B) := (hv2.cell (p := ⟨D, 0, none⟩) hDl1).trans (by go_keep); have d1_2 : V2.cell? ⟨D, 1, none⟩ = some (.int .i64 a) := (hv2.cell (p := ⟨D, 1, none⟩) hDl1).trans (by go_keep); have hDl2 : D < V2.heap.size := Nat.lt_of_lt_of_le hDl1 hv2.size)
            | (go_at_call 12; refine (LT.out _).mono ?_; rintro e V3 ⟨rfl, hv3⟩; have d0_3 : V3.cell? ⟨D, 0, none⟩ = some (.string B) := (hv3.cell (p := ⟨D, 0, none⟩) hDl2).trans (by go_keep); have d1_3 : V3.cell? ⟨D, 1, none⟩ = some (.int .i64 a) := (hv3.cell (p := ⟨D, 1, none⟩) hDl2).trans (by go_keep); have hDl3 : D < V3.heap.size := Nat.lt_of_lt_of_le hDl2 hv3.size)
            | (go_at_call 13; refine (LD.out _).mono ?_; rintro e V4 ⟨rfl, hv4⟩; have d0_4 : V4.cell? ⟨D, 0, none⟩ = some (.string B) := (hv4.cell (p := ⟨D, 0, none⟩) hDl3).trans (by go_keep); have d1_4 : V4.cell? ⟨D, 1, none⟩ = some (.int .i64 a) := (hv4.cell (p := ⟨D, 1, none⟩) hDl3).trans (by go_keep); have hDl4 : D < V4.heap.size := Nat.lt_of_lt_of_le hDl3 hv4.size))
        have hV : Below W4.heap.size W4 V4 := (((belowN (Below.refl _ _) 1).trans hv1).trans (hv2.mono hv1.size)).trans ((hv3.mono (Nat.le_trans hv1.size hv2.size)).trans (hv4.mono (Nat.le_trans (Nat.le_trans hv1.size hv2.size) hv3.size)))
        have iT4 := iT.below hV iT.lt
        have iS4 := iS2.below hV iS2.lt
        have hB4 := hB2.trans (hV.mono hB2.size)
        clear hV hv1 hv2 hv3 hv4 d0_1 d1_1 d0_2 d1_2 d0_3 d1_3 d0_4 d1_4 hDl hDl1 hDl2 hDl3 hDl4 c0 c1 iT iS2 hB2 RT RD LT LD
        go_wp2_with fail
        refine (MP.out _).mono ?_
        rintro e w' ⟨rfl, rfl⟩
        have iE : Is (V4.alloc (.cells #[.int .i64 n, .int .i64 p] 3)) V4.heap.size 3 #[.int .i64 n, .int .i64 p] := Is.new V4 _ _
        have iT5 := iT4.alloc (.cells #[.int .i64 n, .int .i64 p] 3)
        have iS5 := iS4.alloc (.cells #[.int .i64 n, .int .i64 p] 3)
        have hB5 := hB4.alloc hB4.size (.cells #[.int .i64 n, .int .i64 p] 3)
        clear iT4 iS4 hB4
        go_wp2
        generalize V4.alloc (.cells #[.int .i64 n, .int .i64 p] 3) = V5 at *
        generalize V4.heap.size = E at *
        go_loopw [75] (fun i wr => ∃ j : Nat, j ≤ 2 ∧ i = .int .i64 (j : Int) ∧ Is wr E 3 #[.int .i64 n, .int .i64 p] ∧ Is wr D 23 #[.string B, .int .i64 a] ∧ Is wr DS 23 #[.string C, .int .i64 t0, .string Bo, .int .i64 ao] ∧ Below w.heap.size w wr) (fun i _ => 2 - (intOf i).toNat)
        case atStart => exact ⟨0, by omega, rfl, iE, iT5, iS5, hB5⟩
        case round =>
          clear iE iT5 iS5 hB5
          obtain ⟨j, hj, rfl, iE_0, iT_0, iS_0, hB0⟩ := hrel
          by_cases hlt2 : j < 2
          · have l2 : (j : Int) < 2 := by omega
            obtain ⟨kk, hkk⟩ : ∃ kk : Int, wr.cell? ⟨E, j, none⟩ = some (.int .i64 kk) := by
              rcases (show j = 0 ∨ j = 1 by omega) with rfl | rfl
              · exact ⟨n, iE_0.cell 0⟩
              · exact ⟨p, iE_0.cell 1⟩
            have w6i := IntWalk.i64_in ((j : Int) + 1) (by omega)
            have hj1 : j + 1 ≤ 2 := by omega
            have KT := Lib.hid (fun w => ttake_any B a kk w)
            have KD := Lib.hid (fun w => dtake_any B a kk w)
            have NT := Lib.hid (fun w => tnum_any B a kk w)
            have ND := Lib.hid (fun w => dnum_any B a kk w)
            rw [takeR] at KT KD
            rw [numR] at NT ND
            generalize takeS B a kk = S1 at *
            generalize takeA B a kk = A1 at *
            generalize takeE B a kk = E1 at *
            generalize numV B a kk = N2 at *
            generalize numA B a kk = A2 at *
            generalize numE B a kk = E2 at *
            have cT0 : wr.cell? ⟨D, 0, none⟩ = some (.string B) := iT_0.cell 0
            have cT1 : wr.cell? ⟨D, 1, none⟩ = some (.int .i64 a) := iT_0.cell 1
            go_wp2_with fail
            clear cT0 cT1
            clear hkk
            refine (KT.out _).mono ?_
            rintro e Y1 ⟨rfl, hb⟩
            have iE_1 := iE_0.below hb iE_0.lt
            have iT_1 := iT_0.below hb iT_0.lt
            have iS_1 := iS_0.below hb iS_0.lt
            have hB1 := hB0.trans (hb.mono hB0.size)
            have HN1 := Lib.hid hb
            clear hb hB0 iE_0 iT_0 iS_0
            have cT0 : (Y1.alloc (.cells #[.string B, .int .i64 (A1)] 23)).cell? ⟨D, 0, none⟩ = some (.string B) := (iT_1.alloc _).cell 0
            have cT1 : (Y1.alloc (.cells #[.string B, .int .i64 (A1)] 23)).cell? ⟨D, 1, none⟩ = some (.int .i64 a) := (iT_1.alloc _).cell 1
            go_wp2_with fail
            clear cT0 cT1
            obtain ⟨Y2, hW2⟩ : ∃ W, W = Y1.alloc (.cells #[.string B, .int .i64 (A1)] 23) := ⟨_, rfl⟩
            have iE_2 : Is Y2 E 3 #[.int .i64 n, .int .i64 p] := by rw [hW2]; exact iE_1.alloc _
            have iT_2 : Is Y2 D 23 #[.string B, .int .i64 a] := by rw [hW2]; exact iT_1.alloc _
            have iS_2 : Is Y2 DS 23 #[.string C, .int .i64 t0, .string Bo, .int .i64 ao] := by rw [hW2]; exact iS_1.alloc _
            obtain ⟨DP, hDP⟩ : ∃ D, D = Y1.heap.size := ⟨_, rfl⟩
            have iP_2 : Is Y2 DP 23 #[.string B, .int .i64 (A1)] := by rw [hW2, hDP]; exact Is.new _ _ _
            have hB2 : Below w.heap.size w Y2 := by rw [hW2]; exact hB1.alloc hB1.size _
            have HS2 := Lib.hid (show Y2.heap.size = Y1.heap.size + 1 by rw [hW2]; exact World.size_alloc _ _)
            have HN2 : Hid (Below Y1.heap.size Y1 Y2) := Lib.hid (by rw [hW2]; exact (Below.refl _ _).alloc (Nat.le_refl _) _)
            rw [← hW2]
            try rw [← hDP]
            clear hB1 iE_1 iT_1 iS_1 hW2
            have HDP := Lib.hid hDP
            clear hDP
            refine (KD.out _).mono ?_
            rintro e Y3 ⟨rfl, hb⟩
            have iE_3 := iE_2.below hb iE_2.lt
            have iT_3 := iT_2.below hb iT_2.lt
            have iS_3 := iS_2.below hb iS_2.lt
            have iP_3 := iP_2.below hb iP_2.lt
            have hB3 := hB2.trans (hb.mono hB2.size)
            have HN3 := Lib.hid hb
            clear hb hB2 iE_2 iT_2 iS_2 iP_2
            have cT0 : (Y3.alloc (.cells #[.string B, .int .i64 (A1)] 23)).cell? ⟨D, 0, none⟩ = some (.string B) := (iT_3.alloc _).cell 0
            have cT1 : (Y3.alloc (.cells #[.string B, .int .i64 (A1)] 23)).cell? ⟨D, 1, none⟩ = some (.int .i64 a) := (iT_3.alloc _).cell 1
            go_wp2_with fail
            clear cT0 cT1
            obtain ⟨Y4, hW4⟩ : ∃ W, W = Y3.alloc (.cells #[.string B, .int .i64 (A1)] 23) := ⟨_, rfl⟩
            have iE_4 : Is Y4 E 3 #[.int .i64 n, .int .i64 p] := by rw [hW4]; exact iE_3.alloc _
            have iT_4 : Is Y4 D 23 #[.string B, .int .i64 a] := by rw [hW4]; exact iT_3.alloc _
            have iS_4 : Is Y4 DS 23 #[.string C, .int .i64 t0, .string Bo, .int .i64 ao] := by rw [hW4]; exact iS_3.alloc _
            have iP_4 : Is Y4 DP 23 #[.string B, .int .i64 (A1)] := by rw [hW4]; exact iP_3.alloc _
            obtain ⟨DQ, hDQ⟩ : ∃ D, D = Y3.heap.size := ⟨_, rfl⟩
            have iQ_4 : Is Y4 DQ 23 #[.string B, .int .i64 (A1)] := by rw [hW4, hDQ]; exact Is.new _ _ _
            have hB4 : Below w.heap.size w Y4 := by rw [hW4]; exact hB3.alloc hB3.size _
            have HS4 := Lib.hid (show Y4.heap.size = Y3.heap.size + 1 by rw [hW4]; exact World.size_alloc _ _)
            have HN4 : Hid (Below Y3.heap.size Y3 Y4) := Lib.hid (by rw [hW4]; exact (Below.refl _ _).alloc (Nat.le_refl _) _)
            rw [← hW4]
            try rw [← hDQ]
            clear hB3 iE_3 iT_3 iS_3 iP_3 hW4
            have HDQ := Lib.hid hDQ
            clear hDQ
            refine (NT.out _).mono ?_
            rintro e Y5 ⟨rfl, hb⟩
            have iE_5 := iE_4.below hb iE_4.lt
            have iT_5 := iT_4.below hb iT_4.lt
            have iS_5 := iS_4.below hb iS_4.lt
            have iP_5 := iP_4.below hb iP_4.lt
            have iQ_5 := iQ_4.below hb iQ_4.lt
            have hB5 := hB4.trans (hb.mono hB4.size)
            have HN5 := Lib.hid hb
            clear hb hB4 iE_4 iT_4 iS_4 iP_4 iQ_4
            have cT0 : (Y5.alloc (.cells #[.string B, .int .i64 (A2)] 23)).cell? ⟨D, 0, none⟩ = some (.string B) := (iT_5.alloc _).cell 0
            have cT1 : (Y5.alloc (.cells #[.string B, .int .i64 (A2)] 23)).cell? ⟨D, 1, none⟩ = some (.int .i64 a) := (iT_5.alloc _).cell 1
            go_wp2_with fail
            clear cT0 cT1
            obtain ⟨Y6, hW6⟩ : ∃ W, W = Y5.alloc (.cells #[.string B, .int .i64 (A2)] 23) := ⟨_, rfl⟩
            have iE_6 : Is Y6 E 3 #[.int .i64 n, .int .i64 p] := by rw [hW6]; exact iE_5.alloc _
            have iT_6 : Is Y6 D 23 #[.string B, .int .i64 a] := by rw [hW6]; exact iT_5.alloc _
            have iS_6 : Is Y6 DS 23 #[.string C, .int .i64 t0, .string Bo, .int .i64 ao] := by rw [hW6]; exact iS_5.alloc _
            have iP_6 : Is Y6 DP 23 #[.string B, .int .i64 (A1)] := by rw [hW6]; exact iP_5.alloc _
            have iQ_6 : Is Y6 DQ 23 #[.string B, .int .i64 (A1)] := by rw [hW6]; exact iQ_5.alloc _
            obtain ⟨DR, hDR⟩ : ∃ D, D = Y5.heap.size := ⟨_, rfl⟩
            have iR_6 : Is Y6 DR 23 #[.string B, .int .i64 (A2)] := by rw [hW6, hDR]; exact Is.new _ _ _
            have hB6 : Below w.heap.size w Y6 := by rw [hW6]; exact hB5.alloc hB5.size _
            have HS6 := Lib.hid (show Y6.heap.size = Y5.heap.size + 1 by rw [hW6]; exact World.size_alloc _ _)
            have HN6 : Hid (Below Y5.heap.size Y5 Y6) := Lib.hid (by rw [hW6]; exact (Below.refl _ _).alloc (Nat.le_refl _) _)
            rw [← hW6]
            try rw [← hDR]
            clear hB5 iE_5 iT_5 iS_5 iP_5 iQ_5 hW6
            have HDR := Lib.hid hDR
            clear hDR
            refine (ND.out _).mono ?_
            rintro e Y7 ⟨rfl, hb⟩
            have iE_7 := iE_6.below hb iE_6.lt
            have iT_7 := iT_6.below hb iT_6.lt
            have iS_7 := iS_6.below hb iS_6.lt
            have iP_7 := iP_6.below hb iP_6.lt
            have iQ_7 := iQ_6.below hb iQ_6.lt
            have iR_7 := iR_6.below hb iR_6.lt
            have hB7 := hB6.trans (hb.mono hB6.size)
            have HN7 := Lib.hid hb
            clear hb hB6 iE_6 iT_6 iS_6 iP_6 iQ_6 iR_6
            have cP0 : (Y7.alloc (.cells #[.string B, .int .i64 (A2)] 23)).cell? ⟨DP, 0, none⟩ = some (.string B) := (iP_7.alloc _).cell 0
            have cP1 : (Y7.alloc (.cells #[.string B, .int .i64 (A2)] 23)).cell? ⟨DP, 1, none⟩ = some (.int .i64 (A1)) := (iP_7.alloc _).cell 1
            have cQ0 : (Y7.alloc (.cells #[.string B, .int .i64 (A2)] 23)).cell? ⟨DQ, 0, none⟩ = some (.string B) := (iQ_7.alloc _).cell 0
            have cQ1 : (Y7.alloc (.cells #[.string B, .int .i64 (A2)] 23)).cell? ⟨DQ, 1, none⟩ = some (.int .i64 (A1)) := (iQ_7.alloc _).cell 1
            have cR0 : (Y7.alloc (.cells #[.string B, .int .i64 (A2)] 23)).cell? ⟨DR, 0, none⟩ = some (.string B) := (iR_7.alloc _).cell 0
            have cR1 : (Y7.alloc (.cells #[.string B, .int .i64 (A2)] 23)).cell? ⟨DR, 1, none⟩ = some (.int .i64 (A2)) := (iR_7.alloc _).cell 1
            have iE_z := iE_7.alloc (.cells #[.string B, .int .i64 (A2)] 23)
            have iT_z := iT_7.alloc (.cells #[.string B, .int .i64 (A2)] 23)
            have iS_z := iS_7.alloc (.cells #[.string B, .int .i64 (A2)] 23)
            have hBz := hB7.alloc hB7.size (.cells #[.string B, .int .i64 (A2)] 23)
            go_wp2
            go_roundw
            case rel => exact ⟨j + 1, hj1, by go_num, iE_z, iT_z, iS_z, hBz⟩
            case measure => simp [intOf]; omega
          · have l2 : ¬ (j : Int) < 2 := by omega
            have hX := HX.out
            have hXl := HXL.out
            have hVl := turnV_le B a X
            have TT := Lib.hid (fun w h => tturn_any B a A cap X w h)
            have TD := Lib.hid (fun w h => dturn_any B a A cap X w h HN.out)
            generalize turnV B a X = V at *
            generalize turnA B a X = TA at *
            generalize turnE B a X = TE at *
            clear iE_0
            have cT0 : wr.cell? ⟨D, 0, none⟩ = some (.string B) := iT_0.cell 0
            have cT1 : wr.cell? ⟨D, 1, none⟩ = some (.int .i64 a) := iT_0.cell 1
            go_wp2_with fail
            clear cT0 cT1
            refine (TT.out _ (hX.keep hB0)).mono ?_
            rintro e Y1 ⟨G1, q1, rfl, hR1, hb⟩
            have iT_1 := iT_0.below hb iT_0.lt
            have iS_1 := iS_0.below hb iS_0.lt
            have hB1 := hB0.trans (hb.mono hB0.size)
            have HN1 := Lib.hid hb
            clear hb hB0 iT_0 iS_0
            have cT0 : (Y1.alloc (.cells #[.string B, .int .i64 (TA)] 23)).cell? ⟨D, 0, none⟩ = some (.string B) := (iT_1.alloc _).cell 0
            have cT1 : (Y1.alloc (.cells #[.string B, .int .i64 (TA)] 23)).cell? ⟨D, 1, none⟩ = some (.int .i64 a) := (iT_1.alloc _).cell 1
            go_wp2_with fail
            clear cT0 cT1
            obtain ⟨Y2, hW2⟩ : ∃ W, W = Y1.alloc (.cells #[.string B, .int .i64 (TA)] 23) := ⟨_, rfl⟩
            have iT_2 : Is Y2 D 23 #[.string B, .int .i64 a] := by rw [hW2]; exact iT_1.alloc _
            have iS_2 : Is Y2 DS 23 #[.string C, .int .i64 t0, .string Bo, .int .i64 ao] := by rw [hW2]; exact iS_1.alloc _
            obtain ⟨DP, hDP⟩ : ∃ D, D = Y1.heap.size := ⟨_, rfl⟩
            have iP_2 : Is Y2 DP 23 #[.string B, .int .i64 (TA)] := by rw [hW2, hDP]; exact Is.new _ _ _
            have hB2 : Below w.heap.size w Y2 := by rw [hW2]; exact hB1.alloc hB1.size _
            have HS2 := Lib.hid (show Y2.heap.size = Y1.heap.size + 1 by rw [hW2]; exact World.size_alloc _ _)
            have HN2 : Hid (Below Y1.heap.size Y1 Y2) := Lib.hid (by rw [hW2]; exact (Below.refl _ _).alloc (Nat.le_refl _) _)
            rw [← hW2]
            try rw [← hDP]
            clear hB1 iT_1 iS_1 hW2
            have HDP := Lib.hid hDP
            clear hDP
            refine (TD.out _ (hX.keep hB2)).mono ?_
            rintro e Y3 ⟨G2, q2, rfl, hR2, hb⟩
            have iT_3 := iT_2.below hb iT_2.lt
            have iS_3 := iS_2.below hb iS_2.lt
            have iP_3 := iP_2.below hb iP_2.lt
            have hB3 := hB2.trans (hb.mono hB2.size)
            have HN3 := Lib.hid hb
            clear hb hB2 iT_2 iS_2 iP_2
            go_wp2_with fail
            obtain ⟨Y4, hW4⟩ : ∃ W, W = Y3.alloc (.cells #[.string B, .int .i64 (TA)] 23) := ⟨_, rfl⟩
            have iT_4 : Is Y4 D 23 #[.string B, .int .i64 a] := by rw [hW4]; exact iT_3.alloc _
            have iS_4 : Is Y4 DS 23 #[.string C, .int .i64 t0, .string Bo, .int .i64 ao] := by rw [hW4]; exact iS_3.alloc _
            have iP_4 : Is Y4 DP 23 #[.string B, .int .i64 (TA)] := by rw [hW4]; exact iP_3.alloc _
            obtain ⟨DQ, hDQ⟩ : ∃ D, D = Y3.heap.size := ⟨_, rfl⟩
            have iQ_4 : Is Y4 DQ 23 #[.string B, .int .i64 (TA)] := by rw [hW4, hDQ]; exact Is.new _ _ _
            have hB4 : Below w.heap.size w Y4 := by rw [hW4]; exact hB3.alloc hB3.size _
            have HS4 := Lib.hid (show Y4.heap.size = Y3.heap.size + 1 by rw [hW4]; exact World.size_alloc _ _)
            have HN4 : Hid (Below Y3.heap.size Y3 Y4) := Lib.hid (by rw [hW4]; exact (Below.refl _ _).alloc (Nat.le_refl _) _)
            rw [← hW4]
            try rw [← hDQ]
            clear hB3 iT_3 iS_3 iP_3 hW4
            have HDQ := Lib.hid hDQ
            clear hDQ
            have r1 := (((RowD.below hR1 HN2.out).below HN3.out).below HN4.out).inL
            have r2 := (RowD.below hR2 HN4.out).inL
            refine (ints_same G1 G2 q1 q2 V _ (by omega) r1 r2).mono ?_
            rintro e Y5 ⟨rfl, hb⟩
            have iT_5 := iT_4.below hb iT_4.lt
            have iS_5 := iS_4.below hb iS_4.lt
            have iP_5 := iP_4.below hb iP_4.lt
            have iQ_5 := iQ_4.below hb iQ_4.lt
            have hB5 := hB4.trans (hb.mono hB4.size)
            have HN5 := Lib.hid hb
            clear hb hB4 iT_4 iS_4 iP_4 iQ_4
            have cP0 : Y5.cell? ⟨DP, 0, none⟩ = some (.string B) := iP_5.cell 0
            have cP1 : Y5.cell? ⟨DP, 1, none⟩ = some (.int .i64 (TA)) := iP_5.cell 1
            have cQ0 : Y5.cell? ⟨DQ, 0, none⟩ = some (.string B) := iQ_5.cell 0
            have cQ1 : Y5.cell? ⟨DQ, 1, none⟩ = some (.int .i64 (TA)) := iQ_5.cell 1
            go_wp2
            go_roundw
            case rel => exact ⟨k + 1, hk1, by go_num, iS_5, hB5⟩
            case measure => simp [intOf]; omega
    · have l1 : ¬ (k : Int) < 2 := by omega
      clear l1 iS
      go_wp2
      refine Code.wp_mono ?_ (tells_last s at_ t0 C HR.out M1.out w wr hB _ _ _ _ _ _ _ _ _ _ _ _ _ _ _ _ _ _ _ _ _ _ _ _ _ _ _ _ _ _ _ _ _ _ _ _ _ _ _ _ _ _ _ _ _ _ _ _ _ _ _ _ _ _ _ _ _ _ _ _ _ _ _ _ _ _ _ _ _ _ _ _ _ _ _ _ _ _ _ _ _ _ _ _ _ _ _ _ _ _ _ _ _ _ _ _ _ _ _ _ _ _ _ _ _ _ _ _ _ _ _ _ _ _ _ _ _ _ _ _ _ _ _ _ _ _ _ _ _ _ _ _ _ _ _ _ _ _ _ _ _ _ _ _ _ _ _ _ _ _ _ _ _ _ _ _ _ _ _ _ _ _ _ _ _ _ _ _ _ _ _ _ _ _ _ _ _)
      rintro e a' WZ ⟨rfl, hd, ⟨G, q, DD, MM, hT⟩, hBz⟩
      obtain ⟨T, D⟩ := a'
      subst hT
      obtain rfl : D = [] := hd
      go_wp2
      go_ret
      exact ⟨rfl, hBz⟩
end Go.Proofs.Ytchgkiallbpjkaa
