/-
  BucketLast: the walk of the statement's function.
-/
import Derived.Test.YtkajcnijkiindaaBLsR
import Derived.Test.YtkajcnijkiindaaLawBRoom
namespace Go.Proofs.Ytkajcnijkiindaa
open Go.RowKit Go.Shelf

/-- the table of what was put last, as it lies. -/
abbrev nowA12 (now : List ByteArray) : Array Value := (now.map Value.string).toArray
theorem now_set12 (now : List ByteArray) (k : Nat) (x : ByteArray) : (nowA12 now).setIfInBounds k (.string x) = nowA12 (now.set k x) := by
  rw [nowA12, List.setIfInBounds_toArray, ← List.map_set]
theorem now_at12 {W : World} {D : Nat} {t : TypeId} {now : List ByteArray} (i : Is W D t (nowA12 now)) {k : Nat} (hk : k < now.length) : W.cell? ⟨D, k, none⟩ = some (.string (now.getD k ⟨#[]⟩)) := by
  rw [i.cell, List.getElem?_toArray, List.getElem?_map, List.getD_eq_getElem?_getD, List.getElem?_eq_getElem hk]
  rfl
/-- a store's cells lie in no box of texts. -/
theorem InS.farT12 {W : World} {s : Sto12} {A : Option Addr} {c D : Nat} {t : TypeId} {now : List ByteArray} (h : InS W s A c) (i : Is W D t (nowA12 now)) (k : Nat) (v : Value) : InS (W.setCell ⟨D, k, none⟩ v) s A c := by
  refine ⟨fun j u hj => ?_, h.nil, h.cap, h.fit⟩
  obtain ⟨b, off, rfl, hb, hc⟩ := h.b j u hj
  have hne : b ≠ D := by
    rintro rfl
    cases hB : s.B with
    | nil => rw [hB] at hj; cases hj
    | cons x r =>
      obtain ⟨b2, off2, e, _, hc2⟩ := h.b 0 (.int .i64 x.st) (by rw [hB]; rfl)
      cases e
      rw [i.cell, List.getElem?_toArray, List.getElem?_map] at hc2
      obtain ⟨y, _, hy⟩ := Option.map_eq_some_iff.1 hc2
      cases hy
  refine ⟨b, off, rfl, by simpa [World.setCell] using hb, ?_⟩
  rw [← hc]
  simp only [World.cell?, heap_setCell_other W ⟨D, k, none⟩ b v hne]
theorem ne_isEmpty12 {x : ByteArray} (h : ¬ x = ⟨#[]⟩) : x.toList.isEmpty = false := by
  rw [ByteArray.toList_eq]
  obtain ⟨⟨l⟩⟩ := x
  cases l with
  | nil => exact absurd rfl h
  | cons a r => rfl
theorem pick_small12 {k : Nat} (hk : k < 40) : (pickN (k : Int) 40).toNat = k := by
  have : pickN (k : Int) 40 = (k : Int) := by
    rw [pickN, if_neg (by omega)]
    omega
  rw [this]; rfl
theorem cn_take12 {now : List ByteArray} {q : Nat} (hq : q < now.length) : cn12 (now.take (q + 1)) = cn12 (now.take q) + if now.getD q ⟨#[]⟩ = ⟨#[]⟩ then 0 else 1 := by
  rw [cn12, cn12, List.take_add_one, List.getElem?_eq_getElem hq, List.countP_append, List.getD_eq_getElem?_getD, List.getElem?_eq_getElem hq]
  by_cases h : now[q] = ⟨#[]⟩ <;> simp [h]
theorem srt_at12 {L : List (ByteArray × ByteArray)} (h : Srt12 L) {q : Nat} {x y : ByteArray × ByteArray} (hx : L[q]? = some x) (hy : L[q + 1]? = some y) : ls12 x.1 y.1 = true := by
  obtain ⟨h1, rfl⟩ := List.getElem?_eq_some_iff.1 hx
  obtain ⟨h2, rfl⟩ := List.getElem?_eq_some_iff.1 hy
  exact List.pairwise_iff_getElem.1 h q (q + 1) h1 h2 (by omega)
set_option maxRecDepth 100000 in
set_option maxHeartbeats 16000000 in
theorem blast_walk (A0 : Option Addr) (cp0 : Nat) (L : List Raw12) (w : World) (hm : L.length ≤ maxLen) (hc : InV w A0 (flI12 L)) (hb : ∀ n ∈ L, Bigr12 n) :
    Calls Try.prog 4 #[.slice A0 L.length cp0] w fun e w' => e = .returned (.bool true) ∧ Below w.heap.size w w' := by
  have AW := Lib.hid awake12_any
  have HN := Lib.hid (fun W => by have := bnew_any12 8 W; rwa [ex_new] at this)
  have HC := Lib.hid hc
  have HBG := Lib.hid hb
  unfold maxLen at hm
  clear hc hb
  go_enter Try.func4, Try.ntmps4
  go_wp2_with fail
  refine (AW.out _).mono ?_
  rintro e W1 ⟨rfl, hb1⟩
  go_wp2_with fail
  refine (HN.out _).mono ?_
  rintro e W2 ⟨A1, c1, rfl, hr2, hb2⟩
  have hB2 := hb1.trans (hb2.mono hb1.size)
  have hin2 : InS W2 exS0 A1 c1 := RowB.inS hr2 (by show (8 : Nat) ≤ 4096; omega)
  clear hr2 hb2 hb1 AW HN
  have iD0 := Is.new W2 31 (stoA exS0 A1 c1)
  have hin3 := hin2.keep ((Below.refl _ _).alloc (Nat.le_refl _) (.cells (stoA exS0 A1 c1) 31))
  have hB3 := hB2.alloc hB2.size (.cells (stoA exS0 A1 c1) 31)
  have hgd := hB2.size
  clear hin2 hB2
  go_upto_region 5 with (fail)
  generalize W2.alloc (.cells (stoA exS0 A1 c1) 31) = W3 at *
  generalize W2.heap.size = D4 at *
  obtain ⟨W4, hW4⟩ : ∃ W4, W4 = W3.alloc (.cells (nowA12 (List.replicate 40 ⟨#[]⟩)) 52) := ⟨_, rfl⟩
  have i60 : Is W4 W3.heap.size 52 (nowA12 (List.replicate 40 ⟨#[]⟩)) := by rw [hW4]; exact Is.new _ _ _
  have iD4 : Is W4 D4 31 (stoA exS0 A1 c1) := by rw [hW4]; exact iD0.alloc _
  have hin4 : InS W4 exS0 A1 c1 := by rw [hW4]; exact hin3.keep ((Below.refl _ _).alloc (Nat.le_refl _) _)
  have hB4 : Below w.heap.size w W4 := by rw [hW4]; exact hB3.alloc hB3.size _
  have hg6 : w.heap.size ≤ W3.heap.size := hB3.size
  have hne : W3.heap.size ≠ D4 := by have := iD0.lt; omega
  rw [show nowA12 (List.replicate 40 ⟨#[]⟩) = #[.string ⟨#[]⟩, .string ⟨#[]⟩, .string ⟨#[]⟩, .string ⟨#[]⟩, .string ⟨#[]⟩, .string ⟨#[]⟩, .string ⟨#[]⟩, .string ⟨#[]⟩, .string ⟨#[]⟩, .string ⟨#[]⟩, .string ⟨#[]⟩, .string ⟨#[]⟩, .string ⟨#[]⟩, .string ⟨#[]⟩, .string ⟨#[]⟩, .string ⟨#[]⟩, .string ⟨#[]⟩, .string ⟨#[]⟩, .string ⟨#[]⟩, .string ⟨#[]⟩, .string ⟨#[]⟩, .string ⟨#[]⟩, .string ⟨#[]⟩, .string ⟨#[]⟩, .string ⟨#[]⟩, .string ⟨#[]⟩, .string ⟨#[]⟩, .string ⟨#[]⟩, .string ⟨#[]⟩, .string ⟨#[]⟩, .string ⟨#[]⟩, .string ⟨#[]⟩, .string ⟨#[]⟩, .string ⟨#[]⟩, .string ⟨#[]⟩, .string ⟨#[]⟩, .string ⟨#[]⟩, .string ⟨#[]⟩, .string ⟨#[]⟩, .string ⟨#[]⟩] from rfl] at hW4
  clear hin3 iD0 hB3
  go_upto_region 6 with (fail)
  rw [← hW4]
  clear hW4
  generalize W3.heap.size = D6 at *
  go_wp2
  go_loopw [7] (fun i wr => ∃ (k : Nat) (s : Sto12) (A : Option Addr) (c : Nat) (now : List ByteArray), k ≤ L.length ∧ k ≤ 60 ∧ i = .int .i64 (k : Int) ∧ Last12 s now ∧ InS wr s A c ∧ Is wr D4 31 (stoA s A c) ∧ Is wr D6 52 (nowA12 now) ∧ Below w.heap.size w wr) (fun i _ => 60 - (intOf i).toNat)
  case atStart => exact ⟨0, exS0, A1, c1, List.replicate 40 ⟨#[]⟩, by omega, by omega, rfl, new_last12, hin4, iD4, i60, hB4⟩
  case round =>
    clear hin4 iD4 i60 hB4
    obtain ⟨k, s, A, c, now, hk, hk2, rfl, hlast, hin, iD, i6, hB⟩ := hrel
    have hnl := hlast.len
    by_cases hlt : k < L.length ∧ k < 60
    · obtain ⟨hl1, hl2⟩ := hlt
      have q1 : (k : Int) < (L.length : Int) := by omega
      have q2 : (k : Int) < 60 := by omega
      obtain ⟨x, hz⟩ : ∃ x, L[k]? = some x := ⟨_, List.getElem?_eq_getElem hl1⟩
      obtain ⟨zb0, zb1, zb2⟩ := HBG.out x (List.mem_of_getElem? hz)
      obtain ⟨bR, oR, rfl, hbl, hc0, hc1, hc2⟩ := HC.out.raw12 hz
      obtain ⟨z0, z1, z2⟩ := x
      simp only at hc0 hc1 hc2 zb0 zb1 zb2
      have hc0 := cell_below12 hB hc0 hbl
      have hc1 := cell_below12 hB hc1 hbl
      have hc2 := cell_below12 hB hc2 hbl
      have PK40 := Lib.hid (fun W => pick12_any z1 40 W zb1.1 zb1.2 (by omega) (by omega))
      have PK3 := Lib.hid (fun W => pick12_any z0 3 W zb0.1 zb0.2 (by omega) (by omega))
      have HLb := Lib.hid (fun W => qlabel_any12 z1 W zb1)
      have HCe := Lib.hid (fun W => qcell_any12 z2 W zb2)
      have hpb := pickN_bd z1 40 (by omega)
      have w1i := IntWalk.i64_in ((k : Int) + 1) (by omega)
      have hcs := cell_size12 z2
      have hll := label_lab12 z1
      obtain ⟨kk, hkk⟩ : ∃ kk : Nat, pickN z1 40 = (kk : Int) := ⟨(pickN z1 40).toNat, by omega⟩
      rw [hkk] at PK40 hpb hll
      have hkn : ((kk : Int)).toNat = kk := Int.toNat_natCast kk
      rw [hkn] at hll
      have hk40 : kk < 40 := by omega
      have hkl : kk < now.length := by omega
      have c6 := now_at12 i6 hkl
      clear hkk hz zb0 zb1 zb2
      generalize label12 z1 = l at *
      generalize cell12 z2 = x at *
      generalize pickN z0 3 = p at *
      have hk41 : (kk : Int) < 40 := by omega
      have hk42 : (0 : Int) ≤ (kk : Int) := by omega
      clear hpb
      go_upto_region 10 with (go_at_call 10; refine (PK40.out _).mono ?_; rintro e wq ⟨rfl, rfl⟩)
      clear PK40
      by_cases hp : 0 < p
      · have hput := hlast.put (k := kk) hk40 hcs
        rw [← hll] at hput
        obtain ⟨p1, p2⟩ := hput
        obtain ⟨t, ht⟩ : ∃ t, putV12 s l x = (t, 0) := ⟨(putV12 s l x).1, Prod.ext rfl p1⟩
        rw [ht] at p2
        have HP := Lib.hid (fun W (h : InS W s A c) => by have := bput_any12 s A c l x W h; rwa [ht] at this)
        have p2 : Last12 t (now.set kk x) := p2
        clear p1 ht hlast hcs hll
        go_upto_region 14 with (go_at_call 10; refine (PK3.out _).mono ?_; rintro e wq ⟨rfl, rfl⟩)
        clear c6
        refine Code.wp_mono ?_ (ls12_14 wr w.heap.size D4 s t A c bR oR L.length cp0 k z1 z2 l x 0 hB.size hgd iD hin hbl hc1 hc2 hl1 D6 (nowA12 now) i6 hne HLb HCe HP _ _ _ _ _ _ _ _ _ _ _ _ _ _ _ _ _ _ _ _ _ _ _ _ _ _ _ _ _ _ _ _ _ _ _ _ _ _ _ _ _ _ _ _ _ _ _ _ _ _ _ _ _ _ _ _ _ _ _ _ _ _ _ _ _ _ _ _ _ _ _ _ _ _ _ _ _ _ _ _ _ _ _ _ _ _ _ _ _ _ _ _ _ _ _ _ _ _ _ _ _ _ _ _ _ _ _ _ _ _ _ _ _ _ _ _ _ _ _ _ _ _ _ _ _ _ _ _ _ _ _ _ _ _ _ _ _ _ _ _ _ _ _ _ _ _ _ _ _ _ _ _ _ _ _ _ _ _ _ _ _ _ _ _ _ _ _)
        rintro ex ⟨T, D⟩ W5 ⟨rfl, hDf, A5, c5, hT, hb, hin5, i6, iE⟩
        simp only at hT hDf
        subst hT
        subst hDf
        have hB5 := hB.trans hb
        have hc1 := cell_belowB12 hb hc1 hbl
        have hc2 := cell_belowB12 hb hc2 hbl
        clear iD hc0 hb hB hin HP HLb PK3
        go_upto_region 15 with (fail)
        have c6 := now_at12 i6 (k := kk) (by omega)
        have HCe2 := HCe.out
        clear HCe
        go_upto_region 20 with (go_at_call 24; refine (HCe2 _).mono ?_; rintro e W6 ⟨rfl, hb⟩; have iE := iE.below hb iE.lt; have i6 := i6.below hb i6.lt; have hin5 := hin5.keep hb; have hB5 := hB5.trans (hb.mono hB5.size); have c6 := now_at12 i6 (k := kk) (by omega); have f6 := i6.frozen kk; clear hb)
        have i6 := i6.set kk (.string x)
        rw [now_set12] at i6
        have iE := iE.far (p := ⟨D6, kk, none⟩) hne.symm (.string x)
        have hin5 := hin5.farT12 (by assumption) kk (.string x)
        have hB5 := hB5.setCell (p := ⟨D6, kk, none⟩) hg6 (.string x)
        clear c6 f6 hc1 hc2
        generalize W6.setCell ⟨D6, kk, none⟩ (.string x) = W7 at *
        have d0 : W7.cell? ⟨D4, 0, none⟩ = some (.slice A5 t.B.length c5) := iE.cell 0
        have d1 : W7.cell? ⟨D4, 1, none⟩ = some (.int .i64 t.many) := iE.cell 1
        have d2 : W7.cell? ⟨D4, 2, none⟩ = some (.int .i64 t.gone) := iE.cell 2
        have HR := Lib.hid (fun W (h : InS W t A5 c5) => by have := bright_any12 t A5 c5 W h; rwa [right_iff12.2 p2.inv.rt] at this)
        go_wp2_with (go_at_call 18; refine (HR.out _ hin5).mono ?_; rintro e W9 ⟨rfl, hb9⟩)
        go_roundw
        case rel => exact ⟨k + 1, t, A5, c5, now.set kk x, by omega, by omega, by go_num, p2, hin5.keep hb9, iE.below hb9 iE.lt, i6.below hb9 i6.lt, hB5.trans (hb9.mono hB5.size)⟩
        case measure => simp [intOf]; omega
      · have hdel := hlast.del (k := kk) hk40
        rw [← hll] at hdel
        obtain ⟨p1, p3, p2⟩ := hdel
        obtain ⟨t, was, ht⟩ : ∃ t was, delV12 s l = (t, was, 0) := ⟨(delV12 s l).1, (delV12 s l).2.1, Prod.ext rfl (Prod.ext rfl p1)⟩
        rw [ht] at p2
        have HP := Lib.hid (fun W (h : InS W s A c) => by have := bdel_any12 s A c l W h; rwa [ht] at this)
        have p2 : Last12 t (now.set kk ⟨#[]⟩) := p2
        have p4 : was = decide (now.getD kk ⟨#[]⟩ ≠ ⟨#[]⟩) := by rw [← p3, ht]
        clear p3
        clear p1 ht hlast hcs hll HCe
        generalize ho : now.getD kk ⟨#[]⟩ = old at *
        have HO := Lib.hid ho
        clear ho
        by_cases he : old = ⟨#[]⟩
        · subst he
          have hw : was = false := p4
          clear p4
          subst hw
          go_upto_region 16 with (go_at_call 10; refine (PK3.out _).mono ?_; rintro e wq ⟨rfl, rfl⟩)
          clear c6
          refine Code.wp_mono ?_ (ls12_16 wr w.heap.size D4 s t A c bR oR L.length cp0 k z1 l false 0 hB.size hgd iD hin hbl hc1 hl1 D6 (nowA12 now) i6 hne HLb HP _ _ _ _ _ _ _ _ _ _ _ _ _ _ _ _ _ _ _ _ _ _ _ _ _ _ _ _ _ _ _ _ _ _ _ _ _ _ _ _ _ _ _ _ _ _ _ _ _ _ _ _ _ _ _ _ _ _ _ _ _ _ _ _ _ _ _ _ _ _ _ _ _ _ _ _ _ _ _ _ _ _ _ _ _ _ _ _ _ _ _ _ _ _ _ _ _ _ _ _ _ _ _ _ _ _ _ _ _ _ _ _ _ _ _ _ _ _ _ _ _ _ _ _ _ _ _ _ _ _ _ _ _ _ _ _ _ _ _ _ _ _ _ _ _ _ _ _ _ _ _ _ _ _ _ _ _ _ _ _ _ _ _ _ _ _ _)
          rintro ex ⟨T, D⟩ W5 ⟨rfl, hDf, A5, c5, hT, hb, hin5, i6, iE⟩
          simp only at hT hDf
          subst hT
          subst hDf
          have hB5 := hB.trans hb
          have hc1 := cell_belowB12 hb hc1 hbl
          have hc2 := cell_belowB12 hb hc2 hbl
          clear iD hc0 hb hB hin HP HLb PK3
          have c6 := now_at12 i6 (k := kk) (by omega)
          have f6 := i6.frozen kk
          go_upto_region 20 with (fail)
          have i6 := i6.set kk (.string ⟨#[]⟩)
          rw [now_set12] at i6
          have iE := iE.far (p := ⟨D6, kk, none⟩) hne.symm (.string ⟨#[]⟩)
          have hin5 := hin5.farT12 (by assumption) kk (.string ⟨#[]⟩)
          have hB5 := hB5.setCell (p := ⟨D6, kk, none⟩) hg6 (.string ⟨#[]⟩)
          clear c6 f6 hc1 hc2
          generalize W5.setCell ⟨D6, kk, none⟩ (.string ⟨#[]⟩) = W7 at *
          have d0 : W7.cell? ⟨D4, 0, none⟩ = some (.slice A5 t.B.length c5) := iE.cell 0
          have d1 : W7.cell? ⟨D4, 1, none⟩ = some (.int .i64 t.many) := iE.cell 1
          have d2 : W7.cell? ⟨D4, 2, none⟩ = some (.int .i64 t.gone) := iE.cell 2
          have HR := Lib.hid (fun W (h : InS W t A5 c5) => by have := bright_any12 t A5 c5 W h; rwa [right_iff12.2 p2.inv.rt] at this)
          go_wp2_with (go_at_call 18; refine (HR.out _ hin5).mono ?_; rintro e W9 ⟨rfl, hb9⟩)
          go_roundw
          case rel => exact ⟨k + 1, t, A5, c5, now.set kk ⟨#[]⟩, by omega, by omega, by go_num, p2, hin5.keep hb9, iE.below hb9 iE.lt, i6.below hb9 i6.lt, hB5.trans (hb9.mono hB5.size)⟩
          case measure => simp [intOf]; omega
        · have hie := ne_isEmpty12 he
          have hw : was = true := p4.trans (decide_eq_true he)
          clear p4
          subst hw
          go_upto_region 16 with (go_at_call 10; refine (PK3.out _).mono ?_; rintro e wq ⟨rfl, rfl⟩)
          clear c6
          refine Code.wp_mono ?_ (ls12_16 wr w.heap.size D4 s t A c bR oR L.length cp0 k z1 l true 0 hB.size hgd iD hin hbl hc1 hl1 D6 (nowA12 now) i6 hne HLb HP _ _ _ _ _ _ _ _ _ _ _ _ _ _ _ _ _ _ _ _ _ _ _ _ _ _ _ _ _ _ _ _ _ _ _ _ _ _ _ _ _ _ _ _ _ _ _ _ _ _ _ _ _ _ _ _ _ _ _ _ _ _ _ _ _ _ _ _ _ _ _ _ _ _ _ _ _ _ _ _ _ _ _ _ _ _ _ _ _ _ _ _ _ _ _ _ _ _ _ _ _ _ _ _ _ _ _ _ _ _ _ _ _ _ _ _ _ _ _ _ _ _ _ _ _ _ _ _ _ _ _ _ _ _ _ _ _ _ _ _ _ _ _ _ _ _ _ _ _ _ _ _ _ _ _ _ _ _ _ _ _ _ _ _ _ _ _)
          rintro ex ⟨T, D⟩ W5 ⟨rfl, hDf, A5, c5, hT, hb, hin5, i6, iE⟩
          simp only at hT hDf
          subst hT
          subst hDf
          have hB5 := hB.trans hb
          have hc1 := cell_belowB12 hb hc1 hbl
          have hc2 := cell_belowB12 hb hc2 hbl
          clear iD hc0 hb hB hin HP HLb PK3
          have c6 := now_at12 i6 (k := kk) (by omega)
          have f6 := i6.frozen kk
          go_upto_region 20 with (fail)
          have i6 := i6.set kk (.string ⟨#[]⟩)
          rw [now_set12] at i6
          have iE := iE.far (p := ⟨D6, kk, none⟩) hne.symm (.string ⟨#[]⟩)
          have hin5 := hin5.farT12 (by assumption) kk (.string ⟨#[]⟩)
          have hB5 := hB5.setCell (p := ⟨D6, kk, none⟩) hg6 (.string ⟨#[]⟩)
          clear c6 f6 hc1 hc2
          generalize W5.setCell ⟨D6, kk, none⟩ (.string ⟨#[]⟩) = W7 at *
          have d0 : W7.cell? ⟨D4, 0, none⟩ = some (.slice A5 t.B.length c5) := iE.cell 0
          have d1 : W7.cell? ⟨D4, 1, none⟩ = some (.int .i64 t.many) := iE.cell 1
          have d2 : W7.cell? ⟨D4, 2, none⟩ = some (.int .i64 t.gone) := iE.cell 2
          have HR := Lib.hid (fun W (h : InS W t A5 c5) => by have := bright_any12 t A5 c5 W h; rwa [right_iff12.2 p2.inv.rt] at this)
          go_wp2_with (go_at_call 18; refine (HR.out _ hin5).mono ?_; rintro e W9 ⟨rfl, hb9⟩)
          go_roundw
          case rel => exact ⟨k + 1, t, A5, c5, now.set kk ⟨#[]⟩, by omega, by omega, by go_num, p2, hin5.keep hb9, iE.below hb9 iE.lt, i6.below hb9 i6.lt, hB5.trans (hb9.mono hB5.size)⟩
          case measure => simp [intOf]; omega
    · have hq : (k : Int) < (L.length : Int) ∧ ¬ (k : Int) < 60 ∨ ¬ (k : Int) < (L.length : Int) := by omega
      have HG := Lib.hid (fun l W (h : InS W s A c) => bget_any12 s A c l W h)
      have HL := Lib.hid (fun W (h : InS W s A c) => ball_yes12 s A c W h (right_iff12.2 hlast.inv.rt))
      have HSR := Lib.hid (all_srt12 hlast.inv.rt.ok)
      have hal : (all12 s.B).length = cn12 now := by
        have h1 := all_len12 hlast.inv.rt.ok
        have h2 := hlast.inv.rt.many
        have h3 := hlast.many
        omega
      have hroom : 4 * cn12 now ≤ 3 * s.B.length := by
        have h2 := hlast.inv.rt.many
        have h3 := hlast.many
        have h4 := hlast.inv.rt.room
        omega
      have hl4 : s.B.length ≤ 64 := by have := hlast.inv.len; omega
      have hmany := hlast.many
      have HGT := Lib.hid (fun q (hq : q < 40) => hlast.get hq)
      have hiD4 := iD.lt
      clear hlast hlt hk hk2 HC HBG hm hgd
      obtain ⟨V, rfl⟩ : ∃ V, V = wr := ⟨_, rfl⟩
      have HIN := Lib.hid hin
      clear hin
      rcases hq with ⟨q1, q2⟩ | q1
      · go_wp2
        go_loopw [12, 13] (fun m i wr => ∃ q : Nat, q ≤ 40 ∧ i = .int .i64 (q : Int) ∧ m = .int .i64 (cn12 (now.take q) : Int) ∧ Below V.heap.size V wr) (fun _ i _ => 40 - (intOf i).toNat)
        case atStart => exact ⟨0, by omega, rfl, rfl, Below.refl _ _⟩
        case round =>
          obtain ⟨q, hq, rfl, rfl, hb2⟩ := hrel
          have iD2 := iD.below hb2 iD.lt
          have i62 := i6.below hb2 i6.lt
          have hcl : cn12 (now.take q) ≤ 40 := Nat.le_trans List.countP_le_length (by rw [List.length_take]; omega)
          by_cases hlt : q < 40
          · have q3 : (q : Int) < 40 := by omega
            have w1i := IntWalk.i64_in ((q : Int) + 1) (by omega)
            have w2i := IntWalk.i64_in ((cn12 (now.take q) : Int) + 1) (by omega)
            have HLb := Lib.hid (fun W => qlabel_any12 (q : Int) W (by omega))
            rw [label_lab12, pick_small12 hlt] at HLb
            have HG2 := Lib.hid (fun W (h : Below wr.heap.size wr W) => by have := HG.out (lab12 q) W (HIN.out.keep (hb2.trans (h.mono hb2.size))); rwa [HGT.out q hlt] at this)
            have HCN := Lib.hid (cn_take12 (now := now) (q := q) (by omega))
            generalize ho : now.getD q ⟨#[]⟩ = old at *
            have HO := Lib.hid ho
            clear ho
            generalize hcc : cn12 (now.take q) = C at *
            clear hcc
            go_upto_region 26 with (fail)
            by_cases he : old = ⟨#[]⟩
            · subst he
              have HG3 : Hid (∀ W, Below wr.heap.size wr W → Calls Try.prog 29 #[stoV s A c, .string (lab12 q)] W fun e w' => e = .returned (.tuple #[.string ⟨#[]⟩, .bool false]) ∧ Below W.heap.size W w') := HG2
              refine Code.wp_mono ?_ (ls12_26 wr D4 s A c q (lab12 q) ⟨#[]⟩ false iD2 HLb HG3 _ _ _ _ _ _ _ _ _ _ _ _ _ _ _ _ _ _ _ _ _ _ _ _ _ _ _ _ _ _ _ _ _ _ _ _ _ _ _ _ _ _ _ _ _ _ _ _ _ _ _ _ _ _ _ _ _ _ _ _ _ _ _ _ _ _ _ _ _ _ _ _ _ _ _ _ _ _ _ _ _ _ _ _ _ _ _ _ _ _ _ _ _ _ _ _ _ _ _ _ _ _ _ _ _ _ _ _ _ _ _ _ _ _ _ _ _ _ _ _ _ _ _ _ _ _ _ _ _ _ _ _ _ _ _ _ _ _ _ _ _ _ _ _ _ _ _ _ _ _ _ _ _ _ _ _ _ _ _ _ _ _ _ _ _ _ _ _)
              rintro ex ⟨T, D⟩ W5 ⟨rfl, hDf, _, hT, hb⟩
              simp only at hT hDf
              subst hT
              subst hDf
              have i63 := i62.below hb i62.lt
              have c6 := now_at12 i63 (k := q) (by omega)
              rw [HO.out] at c6
              have hb3 := hb2.trans (hb.mono hb2.size)
              clear HG HGT HL HLb HG2 HG3 iD2 i62 i63 hb hb2
              go_wp2
              go_roundw
              case rel => exact ⟨q + 1, by omega, by go_num, by rw [HCN.out]; rfl, hb3⟩
              case measure => simp [intOf]; omega
            · have hie := ne_isEmpty12 he
              have HG3 : Hid (∀ W, Below wr.heap.size wr W → Calls Try.prog 29 #[stoV s A c, .string (lab12 q)] W fun e w' => e = .returned (.tuple #[.string old, .bool true]) ∧ Below W.heap.size W w') := by rwa [decide_eq_true he] at HG2
              have HCU : Hid (cn12 (now.take (q + 1)) = C + 1) := Lib.hid (by rw [HCN.out, if_neg he])
              refine Code.wp_mono ?_ (ls12_26 wr D4 s A c q (lab12 q) old true iD2 HLb HG3 _ _ _ _ _ _ _ _ _ _ _ _ _ _ _ _ _ _ _ _ _ _ _ _ _ _ _ _ _ _ _ _ _ _ _ _ _ _ _ _ _ _ _ _ _ _ _ _ _ _ _ _ _ _ _ _ _ _ _ _ _ _ _ _ _ _ _ _ _ _ _ _ _ _ _ _ _ _ _ _ _ _ _ _ _ _ _ _ _ _ _ _ _ _ _ _ _ _ _ _ _ _ _ _ _ _ _ _ _ _ _ _ _ _ _ _ _ _ _ _ _ _ _ _ _ _ _ _ _ _ _ _ _ _ _ _ _ _ _ _ _ _ _ _ _ _ _ _ _ _ _ _ _ _ _ _ _ _ _ _ _ _ _ _ _ _ _ _)
              rintro ex ⟨T, D⟩ W5 ⟨rfl, hDf, _, hT, hb⟩
              simp only at hT hDf
              subst hT
              subst hDf
              have i63 := i62.below hb i62.lt
              have c6 := now_at12 i63 (k := q) (by omega)
              rw [HO.out] at c6
              have hb3 := hb2.trans (hb.mono hb2.size)
              clear HG HGT HL HLb HG2 HG3 iD2 i62 i63 hb hb2 HCN
              go_wp2
              go_roundw
              case rel => exact ⟨q + 1, by omega, by go_num, by rw [HCU.out]; go_num, hb3⟩
              case measure => simp [intOf]; omega
          · have hq40 : q = 40 := by omega
            subst hq40
            have e1 : now.take 40 = now := by rw [← hnl, List.take_length]
            rw [e1] at hcl ⊢
            generalize cn12 now = C at *
            generalize all12 s.B = R at *
            have d1 : wr.cell? ⟨D4, 1, none⟩ = some (.int .i64 s.many) := iD2.cell 1
            clear HG HGT i62 i6 iD e1
            have hin := HIN.out.keep hb2
            clear HIN
            go_wp2_with (first | (refine wpList_load_row rfl 31 _ rfl D4 rfl _ _ _ _ iD2 Try.underlying31 rfl infoSto12 ?_) | (go_at_call 21; refine (HL.out _ hin).mono ?_; rintro e W7 ⟨A7, c7, rfl, hI7, hb7⟩))
            have hb3 := hb2.trans (hb7.mono hb2.size)
            have iD3 := iD2.below hb7 iD2.lt
            clear HL hin iD2 hb2 hb7 d1
            have HI7 := Lib.hid hI7
            clear hI7
            subst hal
            have HMN := Lib.hid hmany
            clear hmany
            go_wp2
            go_loopw [17] (fun i wr => ∃ q : Nat, q ≤ R.length ∧ i = .int .i64 ((q : Int) + 1) ∧ Below W7.heap.size W7 wr) (fun i _ => R.length + 1 - (intOf i).toNat)
            case atStart => exact ⟨0, by omega, rfl, Below.refl _ _⟩
            case round =>
              obtain ⟨q, hq, rfl, hb4⟩ := hrel
              by_cases hlt : q + 1 < R.length
              · have q3 : (q : Int) + 1 < (R.length : Int) := by omega
                have w1i := IntWalk.i64_in ((q : Int) + 1 + 1) (by omega)
                obtain ⟨x, hx⟩ : ∃ x, R[q]? = some x := ⟨_, List.getElem?_eq_getElem (by omega)⟩
                obtain ⟨y, hy⟩ : ∃ y, R[q + 1]? = some y := ⟨_, List.getElem?_eq_getElem hlt⟩
                have hls := srt_at12 HSR.out hx hy
                obtain ⟨b, off, rfl, hbl, hc1⟩ := (HI7.out.keep hb4) (q * 2 + 0) (.string x.1) ((flP_at hx 0 (by omega)).trans rfl)
                obtain ⟨b2, off2, e2, _, hc2⟩ := (HI7.out.keep hb4) ((q + 1) * 2 + 0) (.string y.1) ((flP_at hy 0 (by omega)).trans rfl)
                cases e2
                clear hx hy
                go_upto_region 35 with (fail)
                refine Code.wp_mono ?_ (ls12_35 wr b off R.length c7 q x.1 y.1 hlt (by omega) hbl hc1 hc2 hls _ _ _ _ _ _ _ _ _ _ _ _ _ _ _ _ _ _ _ _ _ _ _ _ _ _ _ _ _ _ _ _ _ _ _ _ _ _ _ _ _ _ _ _ _ _ _ _ _ _ _ _ _ _ _ _ _ _ _ _ _ _ _ _ _ _ _ _ _ _ _ _ _ _ _ _ _ _ _ _ _ _ _ _ _ _ _ _ _ _ _ _ _ _ _ _ _ _ _ _ _ _ _ _ _ _ _ _ _ _ _ _ _ _ _ _ _ _ _ _ _ _ _ _ _ _ _ _ _ _ _ _ _ _ _ _ _ _ _ _ _ _ _ _ _ _ _ _ _ _ _ _ _ _ _ _ _ _ _ _ _ _ _ _ _ _ _ _)
                rintro ex ⟨T, D⟩ W8 ⟨rfl, hDf, _, hT, hb⟩
                simp only at hT hDf
                subst hT
                subst hDf
                have hb5 := hb4.trans (hb.mono hb4.size)
                clear hb hb4 hc1 hc2 hls hbl iD3 HSR HI7
                go_wp2
                go_roundw
                case rel => exact ⟨q + 1, by omega, by go_num, hb5⟩
                case measure => simp [intOf]; omega
              · have q3 : ¬ (q : Int) + 1 < (R.length : Int) := by omega
                have iD4 := iD3.below hb4 iD3.lt
                have d0 : wr.cell? ⟨D4, 0, none⟩ = some (.slice A s.B.length c) := iD4.cell 0
                have d1 : wr.cell? ⟨D4, 1, none⟩ = some (.int .i64 (R.length : Int)) := by have h : wr.cell? ⟨D4, 1, none⟩ = some (.int .i64 s.many) := iD4.cell 1; rwa [HMN.out] at h
                have w1i := IntWalk.i64_in (4 * (R.length : Int)) (by omega)
                have w2i := IntWalk.i64_in (3 * (s.B.length : Int)) (by omega)
                have hle : 4 * (R.length : Int) ≤ 3 * (s.B.length : Int) := by omega
                clear iD4 iD3 HSR HI7
                go_wp2
                go_ret
                exact ⟨rfl, hB.trans ((hb3.trans (hb4.mono hb3.size)).mono hB.size)⟩
      · go_wp2
        go_loopw [12, 13] (fun m i wr => ∃ q : Nat, q ≤ 40 ∧ i = .int .i64 (q : Int) ∧ m = .int .i64 (cn12 (now.take q) : Int) ∧ Below V.heap.size V wr) (fun _ i _ => 40 - (intOf i).toNat)
        case atStart => exact ⟨0, by omega, rfl, rfl, Below.refl _ _⟩
        case round =>
          obtain ⟨q, hq, rfl, rfl, hb2⟩ := hrel
          have iD2 := iD.below hb2 iD.lt
          have i62 := i6.below hb2 i6.lt
          have hcl : cn12 (now.take q) ≤ 40 := Nat.le_trans List.countP_le_length (by rw [List.length_take]; omega)
          by_cases hlt : q < 40
          · have q3 : (q : Int) < 40 := by omega
            have w1i := IntWalk.i64_in ((q : Int) + 1) (by omega)
            have w2i := IntWalk.i64_in ((cn12 (now.take q) : Int) + 1) (by omega)
            have HLb := Lib.hid (fun W => qlabel_any12 (q : Int) W (by omega))
            rw [label_lab12, pick_small12 hlt] at HLb
            have HG2 := Lib.hid (fun W (h : Below wr.heap.size wr W) => by have := HG.out (lab12 q) W (HIN.out.keep (hb2.trans (h.mono hb2.size))); rwa [HGT.out q hlt] at this)
            have HCN := Lib.hid (cn_take12 (now := now) (q := q) (by omega))
            generalize ho : now.getD q ⟨#[]⟩ = old at *
            have HO := Lib.hid ho
            clear ho
            generalize hcc : cn12 (now.take q) = C at *
            clear hcc
            go_upto_region 26 with (fail)
            by_cases he : old = ⟨#[]⟩
            · subst he
              have HG3 : Hid (∀ W, Below wr.heap.size wr W → Calls Try.prog 29 #[stoV s A c, .string (lab12 q)] W fun e w' => e = .returned (.tuple #[.string ⟨#[]⟩, .bool false]) ∧ Below W.heap.size W w') := HG2
              refine Code.wp_mono ?_ (ls12_26 wr D4 s A c q (lab12 q) ⟨#[]⟩ false iD2 HLb HG3 _ _ _ _ _ _ _ _ _ _ _ _ _ _ _ _ _ _ _ _ _ _ _ _ _ _ _ _ _ _ _ _ _ _ _ _ _ _ _ _ _ _ _ _ _ _ _ _ _ _ _ _ _ _ _ _ _ _ _ _ _ _ _ _ _ _ _ _ _ _ _ _ _ _ _ _ _ _ _ _ _ _ _ _ _ _ _ _ _ _ _ _ _ _ _ _ _ _ _ _ _ _ _ _ _ _ _ _ _ _ _ _ _ _ _ _ _ _ _ _ _ _ _ _ _ _ _ _ _ _ _ _ _ _ _ _ _ _ _ _ _ _ _ _ _ _ _ _ _ _ _ _ _ _ _ _ _ _ _ _ _ _ _ _ _ _ _ _)
              rintro ex ⟨T, D⟩ W5 ⟨rfl, hDf, _, hT, hb⟩
              simp only at hT hDf
              subst hT
              subst hDf
              have i63 := i62.below hb i62.lt
              have c6 := now_at12 i63 (k := q) (by omega)
              rw [HO.out] at c6
              have hb3 := hb2.trans (hb.mono hb2.size)
              clear HG HGT HL HLb HG2 HG3 iD2 i62 i63 hb hb2
              go_wp2
              go_roundw
              case rel => exact ⟨q + 1, by omega, by go_num, by rw [HCN.out]; rfl, hb3⟩
              case measure => simp [intOf]; omega
            · have hie := ne_isEmpty12 he
              have HG3 : Hid (∀ W, Below wr.heap.size wr W → Calls Try.prog 29 #[stoV s A c, .string (lab12 q)] W fun e w' => e = .returned (.tuple #[.string old, .bool true]) ∧ Below W.heap.size W w') := by rwa [decide_eq_true he] at HG2
              have HCU : Hid (cn12 (now.take (q + 1)) = C + 1) := Lib.hid (by rw [HCN.out, if_neg he])
              refine Code.wp_mono ?_ (ls12_26 wr D4 s A c q (lab12 q) old true iD2 HLb HG3 _ _ _ _ _ _ _ _ _ _ _ _ _ _ _ _ _ _ _ _ _ _ _ _ _ _ _ _ _ _ _ _ _ _ _ _ _ _ _ _ _ _ _ _ _ _ _ _ _ _ _ _ _ _ _ _ _ _ _ _ _ _ _ _ _ _ _ _ _ _ _ _ _ _ _ _ _ _ _ _ _ _ _ _ _ _ _ _ _ _ _ _ _ _ _ _ _ _ _ _ _ _ _ _ _ _ _ _ _ _ _ _ _ _ _ _ _ _ _ _ _ _ _ _ _ _ _ _ _ _ _ _ _ _ _ _ _ _ _ _ _ _ _ _ _ _ _ _ _ _ _ _ _ _ _ _ _ _ _ _ _ _ _ _ _ _ _ _)
              rintro ex ⟨T, D⟩ W5 ⟨rfl, hDf, _, hT, hb⟩
              simp only at hT hDf
              subst hT
              subst hDf
              have i63 := i62.below hb i62.lt
              have c6 := now_at12 i63 (k := q) (by omega)
              rw [HO.out] at c6
              have hb3 := hb2.trans (hb.mono hb2.size)
              clear HG HGT HL HLb HG2 HG3 iD2 i62 i63 hb hb2 HCN
              go_wp2
              go_roundw
              case rel => exact ⟨q + 1, by omega, by go_num, by rw [HCU.out]; go_num, hb3⟩
              case measure => simp [intOf]; omega
          · have hq40 : q = 40 := by omega
            subst hq40
            have e1 : now.take 40 = now := by rw [← hnl, List.take_length]
            rw [e1] at hcl ⊢
            generalize cn12 now = C at *
            generalize all12 s.B = R at *
            have d1 : wr.cell? ⟨D4, 1, none⟩ = some (.int .i64 s.many) := iD2.cell 1
            clear HG HGT i62 i6 iD e1
            have hin := HIN.out.keep hb2
            clear HIN
            go_wp2_with (first | (refine wpList_load_row rfl 31 _ rfl D4 rfl _ _ _ _ iD2 Try.underlying31 rfl infoSto12 ?_) | (go_at_call 21; refine (HL.out _ hin).mono ?_; rintro e W7 ⟨A7, c7, rfl, hI7, hb7⟩))
            have hb3 := hb2.trans (hb7.mono hb2.size)
            have iD3 := iD2.below hb7 iD2.lt
            clear HL hin iD2 hb2 hb7 d1
            have HI7 := Lib.hid hI7
            clear hI7
            subst hal
            have HMN := Lib.hid hmany
            clear hmany
            go_wp2
            go_loopw [17] (fun i wr => ∃ q : Nat, q ≤ R.length ∧ i = .int .i64 ((q : Int) + 1) ∧ Below W7.heap.size W7 wr) (fun i _ => R.length + 1 - (intOf i).toNat)
            case atStart => exact ⟨0, by omega, rfl, Below.refl _ _⟩
            case round =>
              obtain ⟨q, hq, rfl, hb4⟩ := hrel
              by_cases hlt : q + 1 < R.length
              · have q3 : (q : Int) + 1 < (R.length : Int) := by omega
                have w1i := IntWalk.i64_in ((q : Int) + 1 + 1) (by omega)
                obtain ⟨x, hx⟩ : ∃ x, R[q]? = some x := ⟨_, List.getElem?_eq_getElem (by omega)⟩
                obtain ⟨y, hy⟩ : ∃ y, R[q + 1]? = some y := ⟨_, List.getElem?_eq_getElem hlt⟩
                have hls := srt_at12 HSR.out hx hy
                obtain ⟨b, off, rfl, hbl, hc1⟩ := (HI7.out.keep hb4) (q * 2 + 0) (.string x.1) ((flP_at hx 0 (by omega)).trans rfl)
                obtain ⟨b2, off2, e2, _, hc2⟩ := (HI7.out.keep hb4) ((q + 1) * 2 + 0) (.string y.1) ((flP_at hy 0 (by omega)).trans rfl)
                cases e2
                clear hx hy
                go_upto_region 35 with (fail)
                refine Code.wp_mono ?_ (ls12_35 wr b off R.length c7 q x.1 y.1 hlt (by omega) hbl hc1 hc2 hls _ _ _ _ _ _ _ _ _ _ _ _ _ _ _ _ _ _ _ _ _ _ _ _ _ _ _ _ _ _ _ _ _ _ _ _ _ _ _ _ _ _ _ _ _ _ _ _ _ _ _ _ _ _ _ _ _ _ _ _ _ _ _ _ _ _ _ _ _ _ _ _ _ _ _ _ _ _ _ _ _ _ _ _ _ _ _ _ _ _ _ _ _ _ _ _ _ _ _ _ _ _ _ _ _ _ _ _ _ _ _ _ _ _ _ _ _ _ _ _ _ _ _ _ _ _ _ _ _ _ _ _ _ _ _ _ _ _ _ _ _ _ _ _ _ _ _ _ _ _ _ _ _ _ _ _ _ _ _ _ _ _ _ _ _ _ _ _)
                rintro ex ⟨T, D⟩ W8 ⟨rfl, hDf, _, hT, hb⟩
                simp only at hT hDf
                subst hT
                subst hDf
                have hb5 := hb4.trans (hb.mono hb4.size)
                clear hb hb4 hc1 hc2 hls hbl iD3 HSR HI7
                go_wp2
                go_roundw
                case rel => exact ⟨q + 1, by omega, by go_num, hb5⟩
                case measure => simp [intOf]; omega
              · have q3 : ¬ (q : Int) + 1 < (R.length : Int) := by omega
                have iD4 := iD3.below hb4 iD3.lt
                have d0 : wr.cell? ⟨D4, 0, none⟩ = some (.slice A s.B.length c) := iD4.cell 0
                have d1 : wr.cell? ⟨D4, 1, none⟩ = some (.int .i64 (R.length : Int)) := by have h : wr.cell? ⟨D4, 1, none⟩ = some (.int .i64 s.many) := iD4.cell 1; rwa [HMN.out] at h
                have w1i := IntWalk.i64_in (4 * (R.length : Int)) (by omega)
                have w2i := IntWalk.i64_in (3 * (s.B.length : Int)) (by omega)
                have hle : 4 * (R.length : Int) ≤ 3 * (s.B.length : Int) := by omega
                clear iD4 iD3 HSR HI7
                go_wp2
                go_ret
                exact ⟨rfl, hB.trans ((hb3.trans (hb4.mono hb3.size)).mono hB.size)⟩
end Go.Proofs.Ytkajcnijkiindaa
