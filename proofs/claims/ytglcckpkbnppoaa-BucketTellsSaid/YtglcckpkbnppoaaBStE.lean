/-
  Contract of the statements' own Store: of raw steps, at most sixty, a store by the document.
-/
import Derived.Test.YtglcckpkbnppoaaBStR
import Derived.Test.YtglcckpkbnppoaaGBr2
namespace Go.Proofs.Ytglcckpkbnppoaa
open Go.RowKit Go.Shelf

set_option maxRecDepth 100000 in
set_option maxHeartbeats 16000000 in
theorem qstore_any12 (A0 : Option Addr) (cp0 : Nat) (L : List Raw12) (w : World) (hm : L.length ≤ 9223372036854775807) (hc : InV w A0 (flI12 L)) (hb : ∀ n ∈ L, Bigr12 n) :
    Calls Try.prog 16 #[.slice A0 L.length cp0] w fun e w' => ∃ s A c, e = .returned (stoV s A c) ∧ Inv12 s ∧ InS w' s A c ∧ Below w.heap.size w w' := by
  have HN := Lib.hid (fun W => by have := dnew_any12 8 W; rwa [ex_new] at this)
  have HC := Lib.hid hc
  have HBG := Lib.hid hb
  obtain ⟨W0, hW0⟩ : ∃ W, W = w.alloc (.cells #[.slice none 0 0, .int .i64 0, .int .i64 0] 31) := ⟨_, rfl⟩
  have j0 : Is W0 w.heap.size 31 #[.slice none 0 0, .int .i64 0, .int .i64 0] := by rw [hW0]; exact Is.new _ _ _
  have hB0 : Below w.heap.size w W0 := by rw [hW0]; exact (Below.refl _ _).alloc (Nat.le_refl _) _
  clear hc hb
  go_enter Try.func16, Try.ntmps16
  go_upto_region 1 with (fail)
  rw [← hW0]
  clear hW0
  go_wp2_with fail
  refine (HN.out _).mono ?_
  rintro e W2 ⟨A1, c1, rfl, hr2, hb2⟩
  have hB2 := hB0.trans (hb2.mono hB0.size)
  have hin2 : InS W2 exS0 A1 c1 := RowB.inS hr2 (by show (8 : Nat) ≤ 4096; omega)
  have j2 := j0.below hb2 j0.lt
  have hne : w.heap.size ≠ W2.heap.size := by have := j2.lt; omega
  clear hr2 hb2 HN j0 hB0
  have iD0 := Is.new W2 31 (stoA exS0 A1 c1)
  have hin3 := hin2.keep ((Below.refl _ _).alloc (Nat.le_refl _) (.cells (stoA exS0 A1 c1) 31))
  have hB3 := hB2.alloc hB2.size (.cells (stoA exS0 A1 c1) 31)
  have j3 := j2.alloc (.cells (stoA exS0 A1 c1) 31)
  have hgd := hB2.size
  clear hin2 hB2 j2
  go_upto_region 2 with (fail)
  generalize W2.alloc (.cells (stoA exS0 A1 c1) 31) = W3 at *
  generalize W2.heap.size = D4 at *
  go_wp2
  go_loopw [5] (fun i wr => ∃ (k : Nat) (s : Sto12) (A : Option Addr) (c : Nat), k ≤ L.length ∧ k ≤ 60 ∧ i = .int .i64 (k : Int) ∧ Inv12 s ∧ InS wr s A c ∧ Is wr D4 31 (stoA s A c) ∧ Is wr w.heap.size 31 #[.slice none 0 0, .int .i64 0, .int .i64 0] ∧ Below w.heap.size w wr) (fun i _ => 60 - (intOf i).toNat)
  case atStart => exact ⟨0, exS0, A1, c1, by omega, by omega, rfl, new_inv12 (.inl rfl), hin3, iD0, j3, hB3⟩
  case round =>
    clear hin3 iD0 hB3 j3
    obtain ⟨k, s, A, c, hk, hk2, rfl, hiv, hin, iD, jX, hB⟩ := hrel
    have hl64 : s.B.length ≤ 4096 := by have := hiv.len; omega
    by_cases hlt : k < L.length ∧ k < 60
    · obtain ⟨hl1, hl2⟩ := hlt
      have q1 : (k : Int) < (L.length : Int) := by omega
      have q2 : (k : Int) < 60 := by omega
      obtain ⟨x, hz⟩ : ∃ x, L[k]? = some x := ⟨_, List.getElem?_eq_getElem hl1⟩
      obtain ⟨zb0, zb1, zb2⟩ := HBG.out x (List.mem_of_getElem? hz)
      obtain ⟨bR, oR, rfl, hbl, hc0, hc1, hc2⟩ := HC.out.raw12 hz
      obtain ⟨z0, z1, z2⟩ := x
      simp only at hc0 hc1 hc2 zb0 zb1 zb2
      have hc0 := cell_below12 hB hc0 hbl
      have hc1 := cell_below12 hB hc1 hbl
      have hc2 := cell_below12 hB hc2 hbl
      have PK := Lib.hid (fun W => pick12_any z0 3 W zb0.1 zb0.2 (by omega) (by omega))
      have HLb := Lib.hid (fun W => qlabel_any12 z1 W zb1)
      have hpb := pickN_bd z1 40 (by omega)
      have w1i := IntWalk.i64_in ((k : Int) + 1) (by omega)
      by_cases hp : 0 < pickN z0 3
      · have HCe := Lib.hid (fun W => qcell_any12 z2 W zb2)
        obtain ⟨p1, p2, _, _⟩ := hiv.put (k := (pickN z1 40).toNat) (by omega) (cell_size12 z2)
        rw [← label_lab12] at p1 p2
        generalize label12 z1 = l at *
        generalize cell12 z2 = x at *
        obtain ⟨t, ht⟩ : ∃ t, putV12 s l x = (t, 0) := ⟨(putV12 s l x).1, Prod.ext rfl p1⟩
        rw [ht] at p2
        have HP := Lib.hid (fun W (h : InS W s A c) => by have := dput_any12 s A c l x W h hl64; rwa [ht] at this)
        have p2 : Inv12 t := p2
        generalize pickN z0 3 = p at *
        clear p1 ht hz zb0 zb1 zb2 hpb hiv
        go_upto_region 6 with (go_at_call 10; refine (PK.out _).mono ?_; rintro e wq ⟨rfl, rfl⟩)
        refine Code.wp_mono ?_ (sto12_6 wr w.heap.size D4 s t A c bR oR L.length cp0 k z1 z2 l x 0 hB.size hgd iD hin hbl hc1 hc2 hl1 w.heap.size jX hne HLb HCe HP _ _ _ _ _ _ _ _ _ _ _ _ _ _ _ _ _ _ _ _ _ _ _ _ _ _ _ _ _ _ _ _ _ _ _ _ _ _ _ _ _ _ _ _ _ _ _ _ _ _ _ _ _ _)
        rintro ex ⟨T, D⟩ W5 ⟨rfl, hDf, A5, c5, hT, hb, hin5, jX5, iE⟩
        simp only at hT hDf
        subst hT
        subst hDf
        have hB5 := hB.trans hb
        clear iD hbl hc0 hc1 hc2 hb hB hin HP HCe HLb PK jX
        go_wp2
        go_roundw
        case rel => exact ⟨k + 1, t, A5, c5, by omega, by omega, by go_num, p2, hin5, iE, jX5, hB5⟩
        case measure => simp [intOf]; omega
      · obtain ⟨p1, p2, _, _⟩ := hiv.del (label12 z1)
        generalize label12 z1 = l at *
        obtain ⟨t, was, ht⟩ : ∃ t was, delV12 s l = (t, was, 0) := ⟨(delV12 s l).1, (delV12 s l).2.1, Prod.ext rfl (Prod.ext rfl p1)⟩
        rw [ht] at p2
        have HP := Lib.hid (fun W (h : InS W s A c) => by have := ddel_any12 s A c l W h hl64; rwa [ht] at this)
        have p2 : Inv12 t := p2
        generalize pickN z0 3 = p at *
        clear p1 ht hz zb0 zb1 zb2 hpb hiv
        go_upto_region 7 with (go_at_call 10; refine (PK.out _).mono ?_; rintro e wq ⟨rfl, rfl⟩)
        refine Code.wp_mono ?_ (sto12_7 wr w.heap.size D4 s t A c bR oR L.length cp0 k z1 l was 0 hB.size hgd iD hin hbl hc1 hl1 w.heap.size jX hne HLb HP _ _ _ _ _ _ _ _ _ _ _ _ _ _ _ _ _ _ _ _ _ _ _ _ _ _ _ _ _ _ _ _ _ _ _ _ _ _ _ _ _ _ _ _ _ _ _ _ _ _ _ _ _ _)
        rintro ex ⟨T, D⟩ W5 ⟨rfl, hDf, A5, c5, hT, hb, hin5, jX5, iE⟩
        simp only at hT hDf
        subst hT
        subst hDf
        have hB5 := hB.trans hb
        clear iD hbl hc0 hc1 hc2 hb hB hin HP HLb PK jX
        go_wp2
        go_roundw
        case rel => exact ⟨k + 1, t, A5, c5, by omega, by omega, by go_num, p2, hin5, iE, jX5, hB5⟩
        case measure => simp [intOf]; omega
    · have HS := Lib.hid (stoA_one12 s A c)
      have hin9 := hin.far12 jX (stoA s A c)
      have HIN9 := Lib.hid hin9
      have HIV := Lib.hid hiv
      have hq : (k : Int) < (L.length : Int) ∧ ¬ (k : Int) < 60 ∨ ¬ (k : Int) < (L.length : Int) := by omega
      clear hin hiv hin9 hlt hk hk2 HC HBG hm hgd
      rcases hq with ⟨q1, q2⟩ | q1
      all_goals
        (go_wp2_with (first | (refine wpList_load_row rfl 31 _ rfl D4 rfl _ _ _ _ iD Try.underlying31 rfl infoSto12 ?_) | (refine wpList_store_row rfl 31 _ _ rfl w.heap.size (stoA s A c) rfl rfl 31 _ jX infoSto12 rfl HS.out ?_))
         exact bodyPost_ret (results_cell_row Try.results16 _ _ w.heap.size 31 _ (0, 0) _ rfl (jX.row _) Try.underlying31 rfl infoSto12) rfl ⟨s, A, c, rfl, HIV.out, HIN9.out, belowRow hB (Nat.le_refl _) _⟩)
end Go.Proofs.Ytglcckpkbnppoaa
