/-
  BucketRoom: the walk of the statement's function.
-/
import Derived.Test.YtglcckpkbnppoaaBRmR
namespace Go.Proofs.Ytglcckpkbnppoaa
open Go.RowKit Go.Shelf

theorem label_size12 (c : Int) : (label12 c).size = 16 := by rw [label_lab12, lab_size12]
set_option maxRecDepth 100000 in
set_option maxHeartbeats 8000000 in
theorem broom_walk (A0 : Option Addr) (cp0 : Nat) (L : List Int) (w : World) (hm : L.length ≤ maxLen) (hc : InV w A0 (iV12 L)) (hb : Big12 L) :
    Calls Try.prog 6 #[.slice A0 L.length cp0] w fun e w' => e = .returned (.bool true) ∧ Below w.heap.size w w' := by
  have AW := Lib.hid awake12_any
  have HN := Lib.hid (fun W => by have := bnew_any12 8 W; rwa [ex_new] at this)
  have HC := Lib.hid hc
  have HBG := Lib.hid hb
  unfold maxLen at hm
  clear hc hb
  go_enter Try.func6, Try.ntmps6
  go_wp2_with fail
  refine (AW.out _).mono ?_
  rintro e W1 ⟨rfl, hb1⟩
  go_wp2_with fail
  refine (HN.out _).mono ?_
  rintro e W2 ⟨A1, c1, rfl, hr2, hb2⟩
  have hB2 := hb1.trans (hb2.mono hb1.size)
  have hin2 : InS W2 exS0 A1 c1 := RowB.inS hr2 (by show (8 : Nat) ≤ 4096; omega)
  clear hr2 hb2 hb1 AW HN
  have iD0 := Is.new W2 31 (stoA exS0 A1 c1)
  have hin3 := hin2.keep ((Below.refl _ _).alloc (Nat.le_refl _) (.cells (stoA exS0 A1 c1) 31))
  have hB3 := hB2.alloc hB2.size (.cells (stoA exS0 A1 c1) 31)
  have hgd := hB2.size
  clear hin2 hB2
  go_upto_region 3 with (fail)
  generalize W2.alloc (.cells (stoA exS0 A1 c1) 31) = W3 at *
  generalize W2.heap.size = D4 at *
  go_wp2
  go_loopw [6] (fun i wr => ∃ (k : Nat) (s : Sto12) (A : Option Addr) (c : Nat), k ≤ L.length ∧ k ≤ 150 ∧ i = .int .i64 (k : Int) ∧ Room12 s ∧ InS wr s A c ∧ Is wr D4 31 (stoA s A c) ∧ Below w.heap.size w wr) (fun i _ => 150 - (intOf i).toNat)
  case atStart => exact ⟨0, exS0, A1, c1, by omega, by omega, rfl, new_room12, hin3, iD0, hB3⟩
  case round =>
    clear hin3 iD0 hB3
    obtain ⟨k, s, A, c, hk, hk2, rfl, hrm, hin, iD, hB⟩ := hrel
    by_cases hlt : k < L.length ∧ k < 150
    · obtain ⟨hl1, hl2⟩ := hlt
      have q1 : (k : Int) < (L.length : Int) := by omega
      have q2 : (k : Int) < 150 := by omega
      obtain ⟨z, hz⟩ : ∃ z, L[k]? = some z := ⟨_, List.getElem?_eq_getElem hl1⟩
      have hzb := HBG.out z (List.mem_of_getElem? hz)
      obtain ⟨bR, oR, rfl, hbl, hcl⟩ := (HC.out.keep hB).num12 hz
      obtain ⟨p1, p2, p3⟩ := hrm.step (label_size12 z) (cell_size12 (k : Int))
      have HLb := Lib.hid (fun W => qlabel_any12 z W hzb)
      have HCe := Lib.hid (fun W => qcell_any12 (k : Int) W (by omega))
      generalize label12 z = l at *
      generalize cell12 (k : Int) = x at *
      obtain ⟨t, ht⟩ : ∃ t, putV12 s l x = (t, 0) := ⟨(putV12 s l x).1, Prod.ext rfl p1⟩
      rw [ht] at p2 p3
      obtain ⟨u, hu⟩ : ∃ u, delV12 t l = (u, true, 0) := ⟨(delV12 t l).1, Prod.ext rfl p2⟩
      rw [hu] at p3
      have HP := Lib.hid (fun A c W (h : InS W s A c) => by have := bput_any12 s A c l x W h; rwa [ht] at this)
      have HD := Lib.hid (fun A c W (h : InS W t A c) => by have := bdel_any12 t A c l W h; rwa [hu] at this)
      have p3 : Room12 u := p3
      clear p1 p2 ht hu hz hzb hrm
      go_upto_region 6 with (fail)
      refine Code.wp_mono ?_ (rm12_6 wr D4 s t A c bR oR L.length cp0 k z l x 0 iD hbl hcl hl1 HLb HCe (Lib.hid fun W h => HP.out A c W (hin.keep h)) _ _ _ _ _ _ _ _ _ _ _ _ _ _ _ _ _ _ _ _ _ _ _ _ _ _ _ _ _ _ _ _ _ _ _ _ _ _ _ _ _ _ _ _ _ _ _ _ _ _ _ _ _ _ _ _ _ _ _ _ _ _ _ _ _ _ _ _ _ _ _ _ _ _ _ _ _ _ _ _ _ _ _ _ _)
      rintro ex ⟨T, D⟩ W5 ⟨rfl, hDf, A5, c5, D7, hT, hb, hin5, hd5, i7⟩
      simp only at hT hDf
      subst hT
      subst hDf
      have iD5 := iD.below hb iD.lt
      have hbl5 := Nat.lt_of_lt_of_le hbl hb.size
      have hcl5 := cell_below12 hb hcl hbl
      have hB5 := hB.trans (hb.mono hB.size)
      clear iD hbl hcl hb hB hd5 hin HP HCe
      go_upto_region 7 with (fail)
      refine Code.wp_mono ?_ (rm12_7 W5 D7 t u A5 c5 bR oR L.length cp0 k z l true 0 i7 hbl5 hcl5 hl1 HLb (Lib.hid fun W h => HD.out A5 c5 W (hin5.keep h)) _ _ _ _ _ _ _ _ _ _ _ _ _ _ _ _ _ _ _ _ _ _ _ _ _ _ _ _ _ _ _ _ _ _ _ _ _ _ _ _ _ _ _ _ _ _ _ _ _ _ _ _ _ _ _ _ _ _ _ _ _ _ _ _ _ _ _ _ _ _ _ _ _ _ _ _ _ _ _ _ _ _ _ _ _)
      rintro ex ⟨T, D⟩ W6 ⟨rfl, hDf, A6, c6, D9, hT, hb, hin6, hd6, i9⟩
      simp only at hT hDf
      subst hT
      subst hDf
      have iD6 := iD5.below hb iD5.lt
      have hB6 := hB5.trans (hb.mono hB5.size)
      clear iD5 hbl5 hcl5 hb hB5 hd6 hin5 i7 HD HLb
      have d0 : W6.cell? ⟨D9, 0, none⟩ = some (.slice A6 u.B.length c6) := i9.cell 0
      have d1 : W6.cell? ⟨D9, 1, none⟩ = some (.int .i64 u.many) := i9.cell 1
      have d2 : W6.cell? ⟨D9, 2, none⟩ = some (.int .i64 u.gone) := i9.cell 2
      rw [p3.len] at d0
      rw [p3.many] at d1
      have hg6 : ¬ (6 < u.gone) := by have := p3.gone; omega
      have HONE := Lib.hid (stoA_one12 u A6 c6)
      go_upto_region 10 with (fail)
      clear d0 d1 d2
      go_wp2_with (first | (refine wpList_load_row rfl 31 _ rfl D9 rfl _ _ _ _ i9 Try.underlying31 rfl infoSto12 ?_) | (refine wpList_store_row rfl 31 _ _ rfl D4 (stoA u A6 c6) rfl rfl 31 _ iD6 infoSto12 rfl HONE.out ?_))
      go_roundw
      case rel => exact ⟨k + 1, u, A6, c6, by omega, by omega, by go_num, p3, hin6.far12 iD6 _, iD6.row _, belowRow hB6 hgd _⟩
      case measure => simp [intOf]; omega
    · have HL := Lib.hid (fun W (h : InS W s A c) => by have := ball_yes12 s A c W h (right_iff12.2 hrm.rt); simp only [hrm.empty, List.length_nil] at this; exact this)
      by_cases q1 : (k : Int) < (L.length : Int)
      · have q2 : ¬ (k : Int) < 150 := by omega
        clear hrm
        have d0 : wr.cell? ⟨D4, 0, none⟩ = some (.slice A s.B.length c) := iD.cell 0
        have d1 : wr.cell? ⟨D4, 1, none⟩ = some (.int .i64 s.many) := iD.cell 1
        have d2 : wr.cell? ⟨D4, 2, none⟩ = some (.int .i64 s.gone) := iD.cell 2
        go_wp2_with (go_at_call 21; refine (HL.out _ hin).mono ?_; rintro e W7 ⟨A7, c7, rfl, _, hb⟩)
        go_ret
        exact ⟨rfl, hB.trans (hb.mono hB.size)⟩
      · clear hrm
        have d0 : wr.cell? ⟨D4, 0, none⟩ = some (.slice A s.B.length c) := iD.cell 0
        have d1 : wr.cell? ⟨D4, 1, none⟩ = some (.int .i64 s.many) := iD.cell 1
        have d2 : wr.cell? ⟨D4, 2, none⟩ = some (.int .i64 s.gone) := iD.cell 2
        go_wp2_with (go_at_call 21; refine (HL.out _ hin).mono ?_; rintro e W7 ⟨A7, c7, rfl, _, hb⟩)
        go_ret
        exact ⟨rfl, hB.trans (hb.mono hB.size)⟩
end Go.Proofs.Ytglcckpkbnppoaa
