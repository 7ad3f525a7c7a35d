/-
  BucketWays: the walk of the statement's function.
-/
import Derived.Test.YtkajcnijkiindaaBWyR
import Derived.Test.YtkajcnijkiindaaLawBRoom
namespace Go.Proofs.Ytkajcnijkiindaa
open Go.RowKit Go.Shelf

/-- which step of a way a place is. -/
def wayq12 (h n g : Nat) : Nat := (g + n - h) % n
theorem wayq_eq12 {h n q : Nat} (hh : h < n) (hq : q < n) : wayq12 h n (way12 h n q) = q := by
  have hm := way_lt12 h q (n := n) (by omega)
  rw [wayq12]
  by_cases hc : h + q < n
  · have e : way12 h n q = h + q := by rw [way12, Nat.mod_eq_of_lt hc]
    rw [e, show h + q + n - h = q + n by omega, Nat.add_mod_right, Nat.mod_eq_of_lt hq]
  · have e : way12 h n q = h + q - n := by rw [way12, Nat.mod_eq_sub_mod (by omega), Nat.mod_eq_of_lt (by omega)]
    rw [e, show h + q - n + n - h = q by omega, Nat.mod_eq_of_lt hq]
set_option maxRecDepth 100000 in
set_option maxHeartbeats 16000000 in
theorem bways_walk (A0 : Option Addr) (cp0 : Nat) (L : List Raw12) (w : World) (hm : L.length ≤ maxLen) (hc : InV w A0 (flI12 L)) (hb : ∀ n ∈ L, Bigr12 n) :
    Calls Try.prog 7 #[.slice A0 L.length cp0] w fun e w' => e = .returned (.bool true) ∧ Below w.heap.size w w' := by
  have AW := Lib.hid awake12_any
  have HN := Lib.hid (fun W => by have := bnew_any12 8 W; rwa [ex_new] at this)
  have HC := Lib.hid hc
  have HBG := Lib.hid hb
  unfold maxLen at hm
  clear hc hb
  go_enter Try.func7, Try.ntmps7
  go_wp2_with fail
  refine (AW.out _).mono ?_
  rintro e W1 ⟨rfl, hb1⟩
  go_wp2_with fail
  refine (HN.out _).mono ?_
  rintro e W2 ⟨A1, c1, rfl, hr2, hb2⟩
  have hB2 := hb1.trans (hb2.mono hb1.size)
  have hin2 : InS W2 exS0 A1 c1 := RowB.inS hr2 (by show (8 : Nat) ≤ 4096; omega)
  clear hr2 hb2 hb1 AW HN
  have iD0 := Is.new W2 31 (stoA exS0 A1 c1)
  have hin3 := hin2.keep ((Below.refl _ _).alloc (Nat.le_refl _) (.cells (stoA exS0 A1 c1) 31))
  have hB3 := hB2.alloc hB2.size (.cells (stoA exS0 A1 c1) 31)
  have hgd := hB2.size
  clear hin2 hB2
  go_upto_region 3 with (fail)
  generalize W2.alloc (.cells (stoA exS0 A1 c1) 31) = W3 at *
  generalize W2.heap.size = D4 at *
  go_wp2
  go_loopw [6] (fun i wr => ∃ (k : Nat) (s : Sto12) (A : Option Addr) (c : Nat), k ≤ L.length ∧ k ≤ 60 ∧ i = .int .i64 (k : Int) ∧ Inv12 s ∧ InS wr s A c ∧ Is wr D4 31 (stoA s A c) ∧ Below w.heap.size w wr) (fun i _ => 60 - (intOf i).toNat)
  case atStart => exact ⟨0, exS0, A1, c1, by omega, by omega, rfl, new_inv12 (.inl rfl), hin3, iD0, hB3⟩
  case round =>
    clear hin3 iD0 hB3
    obtain ⟨k, s, A, c, hk, hk2, rfl, hiv, hin, iD, hB⟩ := hrel
    by_cases hlt : k < L.length ∧ k < 60
    · obtain ⟨hl1, hl2⟩ := hlt
      have q1 : (k : Int) < (L.length : Int) := by omega
      have q2 : (k : Int) < 60 := by omega
      obtain ⟨x, hz⟩ : ∃ x, L[k]? = some x := ⟨_, List.getElem?_eq_getElem hl1⟩
      obtain ⟨zb0, zb1, zb2⟩ := HBG.out x (List.mem_of_getElem? hz)
      obtain ⟨bR, oR, rfl, hbl, hc0, hc1, hc2⟩ := HC.out.raw12 hz
      obtain ⟨z0, z1, z2⟩ := x
      simp only at hc0 hc1 hc2 zb0 zb1 zb2
      have hc0 := cell_below12 hB hc0 hbl
      have hc1 := cell_below12 hB hc1 hbl
      have hc2 := cell_below12 hB hc2 hbl
      have PK := Lib.hid (fun W => pick12_any z0 3 W zb0.1 zb0.2 (by omega) (by omega))
      have HLb := Lib.hid (fun W => qlabel_any12 z1 W zb1)
      have hpb := pickN_bd z1 40 (by omega)
      have w1i := IntWalk.i64_in ((k : Int) + 1) (by omega)
      by_cases hp : 0 < pickN z0 3
      · have HCe := Lib.hid (fun W => qcell_any12 z2 W zb2)
        obtain ⟨p1, p2, _, _⟩ := hiv.put (k := (pickN z1 40).toNat) (by omega) (cell_size12 z2)
        rw [← label_lab12] at p1 p2
        generalize label12 z1 = l at *
        generalize cell12 z2 = x at *
        obtain ⟨t, ht⟩ : ∃ t, putV12 s l x = (t, 0) := ⟨(putV12 s l x).1, Prod.ext rfl p1⟩
        rw [ht] at p2
        have HP := Lib.hid (fun W (h : InS W s A c) => by have := bput_any12 s A c l x W h; rwa [ht] at this)
        have p2 : Inv12 t := p2
        generalize pickN z0 3 = p at *
        clear p1 ht hz zb0 zb1 zb2 hpb hiv
        go_upto_region 8 with (go_at_call 10; refine (PK.out _).mono ?_; rintro e wq ⟨rfl, rfl⟩)
        refine Code.wp_mono ?_ (wy12_8 wr w.heap.size D4 s t A c bR oR L.length cp0 k z1 z2 l x 0 hB.size hgd iD hin hbl hc1 hc2 hl1 HLb HCe HP _ _ _ _ _ _ _ _ _ _ _ _ _ _ _ _ _ _ _ _ _ _ _ _ _ _ _ _ _ _ _ _ _ _ _ _ _ _ _ _ _ _ _ _ _ _ _ _ _ _ _ _ _ _ _ _ _ _ _ _ _ _ _ _ _ _ _ _ _ _ _ _ _ _ _ _ _ _ _ _ _ _ _ _ _ _ _ _ _ _ _ _ _ _ _ _ _ _ _ _ _ _ _ _ _ _ _ _ _ _ _ _ _ _ _ _ _ _ _ _ _ _ _ _ _ _ _ _ _ _ _ _ _ _ _ _)
        rintro ex ⟨T, D⟩ W5 ⟨rfl, hDf, A5, c5, hT, hb, hin5, iE⟩
        simp only at hT hDf
        subst hT
        subst hDf
        have hB5 := hB.trans hb
        clear iD hbl hc0 hc1 hc2 hb hB hin HP HCe HLb PK
        go_wp2
        go_roundw
        case rel => exact ⟨k + 1, t, A5, c5, by omega, by omega, by go_num, p2, hin5, iE, hB5⟩
        case measure => simp [intOf]; omega
      · obtain ⟨p1, p2, _, _⟩ := hiv.del (label12 z1)
        generalize label12 z1 = l at *
        obtain ⟨t, was, ht⟩ : ∃ t was, delV12 s l = (t, was, 0) := ⟨(delV12 s l).1, (delV12 s l).2.1, Prod.ext rfl (Prod.ext rfl p1)⟩
        rw [ht] at p2
        have HP := Lib.hid (fun W (h : InS W s A c) => by have := bdel_any12 s A c l W h; rwa [ht] at this)
        have p2 : Inv12 t := p2
        generalize pickN z0 3 = p at *
        clear p1 ht hz zb0 zb1 zb2 hpb hiv
        go_upto_region 9 with (go_at_call 10; refine (PK.out _).mono ?_; rintro e wq ⟨rfl, rfl⟩)
        refine Code.wp_mono ?_ (wy12_9 wr w.heap.size D4 s t A c bR oR L.length cp0 k z1 l was 0 hB.size hgd iD hin hbl hc1 hl1 HLb HP _ _ _ _ _ _ _ _ _ _ _ _ _ _ _ _ _ _ _ _ _ _ _ _ _ _ _ _ _ _ _ _ _ _ _ _ _ _ _ _ _ _ _ _ _ _ _ _ _ _ _ _ _ _ _ _ _ _ _ _ _ _ _ _ _ _ _ _ _ _ _ _ _ _ _ _ _ _ _ _ _ _ _ _ _ _ _ _ _ _ _ _ _ _ _ _ _ _ _ _ _ _ _ _ _ _ _ _ _ _ _ _ _ _ _ _ _ _ _ _ _ _ _ _ _ _ _ _ _ _ _ _ _ _ _ _)
        rintro ex ⟨T, D⟩ W5 ⟨rfl, hDf, A5, c5, hT, hb, hin5, iE⟩
        simp only at hT hDf
        subst hT
        subst hDf
        have hB5 := hB.trans hb
        clear iD hbl hc0 hc1 hc2 hb hB hin HP HLb PK
        go_wp2
        go_roundw
        case rel => exact ⟨k + 1, t, A5, c5, by omega, by omega, by go_num, p2, hin5, iE, hB5⟩
        case measure => simp [intOf]; omega
    · have d0 : wr.cell? ⟨D4, 0, none⟩ = some (.slice A s.B.length c) := iD.cell 0
      have hd4 := iD.lt
      have HIN := Lib.hid hin
      have hrt := Lib.hid hiv.rt
      have hlen := hiv.len
      have hq : (k : Int) < (L.length : Int) ∧ ¬ (k : Int) < 60 ∨ ¬ (k : Int) < (L.length : Int) := by omega
      clear iD hin hiv hlt hk hk2 HC HBG hm hgd
      rcases hlen with hn | hn | hn | hn <;> rcases hq with ⟨q1, q2⟩ | q1
      · rw [hn] at d0
        have HN := Lib.hid hn
        clear hn
        obtain ⟨V, rfl⟩ : ∃ V, V = wr := ⟨_, rfl⟩
        go_wp2
        go_loopw [9, 10] (fun free i wr => ∃ j : Nat, j ≤ 8 ∧ i = .int .i64 (j : Int) ∧ free = .int .i64 (cnt12 (s.B.take j) 0 : Int) ∧ Below V.heap.size V wr) (fun _ i _ => 8 - (intOf i).toNat)
        case atStart => exact ⟨0, by omega, rfl, rfl, Below.refl _ _⟩
        case round =>
          obtain ⟨j, hj, rfl, rfl, hb2⟩ := hrel
          have d0 := cell_below12 hb2 d0 hd4
          have HI := Lib.hid (HIN.out.keep hb2)
          have hd4' := Nat.lt_of_lt_of_le hd4 hb2.size
          have hcl := cnt_le12 (s.B.take j) 0
          rw [List.length_take] at hcl
          by_cases hlt : j < 8
          · have hlt' : j < s.B.length := by rw [HN.out]; exact hlt
            have q1 : (j : Int) < 8 := by omega
            have w1i := IntWalk.i64_in ((j : Int) + 1) (by omega)
            obtain ⟨x, hx⟩ : ∃ x, s.B[j]? = some x := ⟨_, List.getElem?_eq_getElem hlt'⟩
            have hxa : at12 s.B j = x := by rw [at_get12 hlt']; exact Option.some.inj ((List.getElem?_eq_getElem hlt').symm.trans hx)
            have HCT := Lib.hid (cnt_take12 hx 0)
            obtain ⟨b, off, rfl, hbb, hr⟩ := HI.out.b.bkt hx
            have HWY := Lib.hid (hrt.out.way hlt')
            rw [hxa] at HWY
            obtain ⟨st, xl, xc⟩ := x
            have iX := Is.new wr 25 (bktA ⟨st, xl, xc⟩)
            have x0 : (wr.alloc (.cells (bktA ⟨st, xl, xc⟩) 25)).cell? ⟨wr.heap.size, 0, none⟩ = some (.int .i64 st) := iX.cell 0
            have x1 : (wr.alloc (.cells (bktA ⟨st, xl, xc⟩) 25)).cell? ⟨wr.heap.size, 1, none⟩ = some (.string xl) := iX.cell 1
            have hb3 := hb2.alloc hb2.size (.cells (bktA ⟨st, xl, xc⟩) 25)
            have d0' := cell_below12 ((Below.refl _ _).alloc (Nat.le_refl _) (.cells (bktA ⟨st, xl, xc⟩) 25)) d0 hd4'
            have HI3 := Lib.hid (HI.out.keep ((Below.refl _ _).alloc (Nat.le_refl _) (.cells (bktA ⟨st, xl, xc⟩) 25)))
            clear hx hxa iX HI hb2
            by_cases h0 : st = 0
            · subst h0
              have w2i := IntWalk.i64_in ((cnt12 (s.B.take j) 0 : Int) + 1) (by omega)
              clear hcl HWY
              go_wp2_with (refine wpList_load_mid rfl 25 _ rfl b (off + j * 3) rfl _ _ hr Try.underlying25 rfl infoBkt12 ?_)
              go_roundw
              case rel => exact ⟨j + 1, by omega, by go_num, by rw [HCT.out]; go_num, hb3⟩
              case measure => simp [intOf]; omega
            · have hct : cnt12 (s.B.take (j + 1)) 0 = cnt12 (s.B.take j) 0 := by rw [HCT.out]; show cnt12 (s.B.take j) 0 + (if st = 0 then 1 else 0) = _; rw [if_neg h0, Nat.add_zero]
              have HCU := Lib.hid hct
              clear hct hcl HCT
              by_cases h1 : st = 1
              · subst h1
                clear h0
                obtain ⟨d, hd, hdi, hdb⟩ := HWY.out rfl
                have HDB := Lib.hid hdb
                have hhv : homV12 xl (8 : Int) = (hom12 xl 8 : Int) := homV_nat12 xl (n := 8) (by omega)
                have HH : Hid (∀ W, Calls Try.prog 14 #[.string xl, .int .i64 8] W fun e W' => e = .returned (.int .i64 (hom12 xl 8 : Int)) ∧ W = W') := Lib.hid (fun W => by have := home_any12 xl (8 : Int) W (by omega); rwa [hhv] at this)
                have hhl := hom_lt12 xl (n := s.B.length) (by omega)
                rw [HN.out] at hd hdi HDB hhl
                clear hdb HWY hhv
                go_wp2_with (first | (refine wpList_load_mid rfl 25 _ rfl b (off + j * 3) rfl _ _ hr Try.underlying25 rfl infoBkt12 ?_) | (go_at_call 14; refine (HH.out _).mono ?_; rintro e wq ⟨rfl, rfl⟩))
                clear HH
                generalize hho : hom12 xl 8 = h at *
                clear hho x1 x0
                have hw0 : h = way12 h 8 0 := by rw [way12, Nat.add_zero, Nat.mod_eq_of_lt hhl]
                go_loopw [12] (fun a wr3 => ∃ q : Nat, q ≤ d ∧ a = .int .i64 (way12 h 8 q : Int) ∧ wr3 = wr.alloc (.cells (bktA ⟨1, xl, xc⟩) 25)) (fun a _ => d - wayq12 h 8 (intOf a).toNat)
                case atStart => exact ⟨0, by omega, by rw [← hw0], rfl⟩
                case round =>
                  obtain ⟨q, hq, rfl, rfl⟩ := hrel
                  clear hr hw0
                  have hwl := way_lt12 h q (n := 8) (by omega)
                  by_cases hqd : q = d
                  · subst hqd
                    rw [hdi]
                    go_wp2
                    go_roundw
                    case rel => exact ⟨j + 1, by omega, by go_num, by rw [HCU.out], hb3⟩
                    case measure => simp [intOf]; omega
                  · have hne : ¬ ((way12 h 8 q : Nat) : Int) = (j : Int) := by
                      intro e
                      exact hqd (way_inj12 hhl (by omega) (by omega) ((Int.ofNat.inj e).trans hdi.symm))
                    have hst := HDB.out q (by omega)
                    have hwn := way_next12 h 8 q
                    have HQ := Lib.hid (wayq_eq12 hhl (show q < 8 by omega))
                    have HQ2 := Lib.hid (fun (h2 : q + 1 < 8) => wayq_eq12 hhl h2)
                    obtain ⟨y, hy⟩ : ∃ y, s.B[way12 h 8 q]? = some y := ⟨_, List.getElem?_eq_getElem (by rw [HN.out]; exact hwl)⟩
                    have hya : at12 s.B (way12 h 8 q) = y := by rw [at_get12 (by rw [HN.out]; exact hwl)]; exact Option.some.inj ((List.getElem?_eq_getElem (by rw [HN.out]; exact hwl)).symm.trans hy)
                    rw [hya] at hst
                    obtain ⟨b2, off2, e2, _, hr2⟩ := HI3.out.b.bkt hy
                    cases e2
                    have y0 := hr2 0 _ rfl
                    clear hr2
                    rw [Nat.add_zero] at y0
                    have hst : ¬ y.st = 0 := hst
                    generalize y.st = ys at *
                    generalize hgw : way12 h 8 q = g at *
                    have r1 : (((g : Nat) : Int) + 1).tmod 8 = ((way12 h 8 (q + 1) : Nat) : Int) := by rw [IntWalk.rem_in _ _ (by omega), ← hwn]; omega
                    have q2 : ¬ ((g : Nat) : Int) < 0 := by omega
                    have q3 : ((g : Nat) : Int) < 8 := by omega
                    have w2i := IntWalk.i64_in (((g : Nat) : Int) + 1) (by omega)
                    have HE := Lib.hid hgw
                    have hbe : (ys == 0) = false := beq_false_of_ne hst
                    have hbn : (((g : Nat) : Int) != ((j : Nat) : Int)) = true := bne_iff_ne.2 hne
                    clear hgw hwn hy hya hwl
                    go_wp2
                    go_roundw
                    case rel => exact ⟨q + 1, by omega, rfl, trivial⟩
                    case measure =>
                      rw [show (intOf (Value.int .i64 ((way12 h 8 (q + 1) : Nat) : Int))).toNat = way12 h 8 (q + 1) from rfl, show (intOf (Value.int .i64 ((g : Nat) : Int))).toNat = g from rfl, HQ.out, HQ2.out (by omega)]
                      omega
              · clear HWY
                go_wp2_with (refine wpList_load_mid rfl 25 _ rfl b (off + j * 3) rfl _ _ hr Try.underlying25 rfl infoBkt12 ?_)
                go_roundw
                case rel => exact ⟨j + 1, by omega, by go_num, by rw [HCU.out], hb3⟩
                case measure => simp [intOf]; omega
          · have hj8 : j = 8 := by omega
            subst hj8
            have e1 : s.B.take 8 = s.B := by rw [← HN.out, List.take_length]
            rw [e1] at hcl ⊢
            rw [HN.out] at hcl
            have hqt := hrt.out.quarter
            rw [HN.out] at hqt
            have w2i := IntWalk.i64_in (4 * (cnt12 s.B 0 : Int)) (by omega)
            have q4 : (8 : Int) ≤ 4 * (cnt12 s.B 0 : Int) := by omega
            generalize cnt12 s.B 0 = C at *
            go_wp2
            go_ret
            exact ⟨rfl, hB.trans (hb2.mono hB.size)⟩
      · rw [hn] at d0
        have HN := Lib.hid hn
        clear hn
        obtain ⟨V, rfl⟩ : ∃ V, V = wr := ⟨_, rfl⟩
        go_wp2
        go_loopw [9, 10] (fun free i wr => ∃ j : Nat, j ≤ 8 ∧ i = .int .i64 (j : Int) ∧ free = .int .i64 (cnt12 (s.B.take j) 0 : Int) ∧ Below V.heap.size V wr) (fun _ i _ => 8 - (intOf i).toNat)
        case atStart => exact ⟨0, by omega, rfl, rfl, Below.refl _ _⟩
        case round =>
          obtain ⟨j, hj, rfl, rfl, hb2⟩ := hrel
          have d0 := cell_below12 hb2 d0 hd4
          have HI := Lib.hid (HIN.out.keep hb2)
          have hd4' := Nat.lt_of_lt_of_le hd4 hb2.size
          have hcl := cnt_le12 (s.B.take j) 0
          rw [List.length_take] at hcl
          by_cases hlt : j < 8
          · have hlt' : j < s.B.length := by rw [HN.out]; exact hlt
            have q1 : (j : Int) < 8 := by omega
            have w1i := IntWalk.i64_in ((j : Int) + 1) (by omega)
            obtain ⟨x, hx⟩ : ∃ x, s.B[j]? = some x := ⟨_, List.getElem?_eq_getElem hlt'⟩
            have hxa : at12 s.B j = x := by rw [at_get12 hlt']; exact Option.some.inj ((List.getElem?_eq_getElem hlt').symm.trans hx)
            have HCT := Lib.hid (cnt_take12 hx 0)
            obtain ⟨b, off, rfl, hbb, hr⟩ := HI.out.b.bkt hx
            have HWY := Lib.hid (hrt.out.way hlt')
            rw [hxa] at HWY
            obtain ⟨st, xl, xc⟩ := x
            have iX := Is.new wr 25 (bktA ⟨st, xl, xc⟩)
            have x0 : (wr.alloc (.cells (bktA ⟨st, xl, xc⟩) 25)).cell? ⟨wr.heap.size, 0, none⟩ = some (.int .i64 st) := iX.cell 0
            have x1 : (wr.alloc (.cells (bktA ⟨st, xl, xc⟩) 25)).cell? ⟨wr.heap.size, 1, none⟩ = some (.string xl) := iX.cell 1
            have hb3 := hb2.alloc hb2.size (.cells (bktA ⟨st, xl, xc⟩) 25)
            have d0' := cell_below12 ((Below.refl _ _).alloc (Nat.le_refl _) (.cells (bktA ⟨st, xl, xc⟩) 25)) d0 hd4'
            have HI3 := Lib.hid (HI.out.keep ((Below.refl _ _).alloc (Nat.le_refl _) (.cells (bktA ⟨st, xl, xc⟩) 25)))
            clear hx hxa iX HI hb2
            by_cases h0 : st = 0
            · subst h0
              have w2i := IntWalk.i64_in ((cnt12 (s.B.take j) 0 : Int) + 1) (by omega)
              clear hcl HWY
              go_wp2_with (refine wpList_load_mid rfl 25 _ rfl b (off + j * 3) rfl _ _ hr Try.underlying25 rfl infoBkt12 ?_)
              go_roundw
              case rel => exact ⟨j + 1, by omega, by go_num, by rw [HCT.out]; go_num, hb3⟩
              case measure => simp [intOf]; omega
            · have hct : cnt12 (s.B.take (j + 1)) 0 = cnt12 (s.B.take j) 0 := by rw [HCT.out]; show cnt12 (s.B.take j) 0 + (if st = 0 then 1 else 0) = _; rw [if_neg h0, Nat.add_zero]
              have HCU := Lib.hid hct
              clear hct hcl HCT
              by_cases h1 : st = 1
              · subst h1
                clear h0
                obtain ⟨d, hd, hdi, hdb⟩ := HWY.out rfl
                have HDB := Lib.hid hdb
                have hhv : homV12 xl (8 : Int) = (hom12 xl 8 : Int) := homV_nat12 xl (n := 8) (by omega)
                have HH : Hid (∀ W, Calls Try.prog 14 #[.string xl, .int .i64 8] W fun e W' => e = .returned (.int .i64 (hom12 xl 8 : Int)) ∧ W = W') := Lib.hid (fun W => by have := home_any12 xl (8 : Int) W (by omega); rwa [hhv] at this)
                have hhl := hom_lt12 xl (n := s.B.length) (by omega)
                rw [HN.out] at hd hdi HDB hhl
                clear hdb HWY hhv
                go_wp2_with (first | (refine wpList_load_mid rfl 25 _ rfl b (off + j * 3) rfl _ _ hr Try.underlying25 rfl infoBkt12 ?_) | (go_at_call 14; refine (HH.out _).mono ?_; rintro e wq ⟨rfl, rfl⟩))
                clear HH
                generalize hho : hom12 xl 8 = h at *
                clear hho x1 x0
                have hw0 : h = way12 h 8 0 := by rw [way12, Nat.add_zero, Nat.mod_eq_of_lt hhl]
                go_loopw [12] (fun a wr3 => ∃ q : Nat, q ≤ d ∧ a = .int .i64 (way12 h 8 q : Int) ∧ wr3 = wr.alloc (.cells (bktA ⟨1, xl, xc⟩) 25)) (fun a _ => d - wayq12 h 8 (intOf a).toNat)
                case atStart => exact ⟨0, by omega, by rw [← hw0], rfl⟩
                case round =>
                  obtain ⟨q, hq, rfl, rfl⟩ := hrel
                  clear hr hw0
                  have hwl := way_lt12 h q (n := 8) (by omega)
                  by_cases hqd : q = d
                  · subst hqd
                    rw [hdi]
                    go_wp2
                    go_roundw
                    case rel => exact ⟨j + 1, by omega, by go_num, by rw [HCU.out], hb3⟩
                    case measure => simp [intOf]; omega
                  · have hne : ¬ ((way12 h 8 q : Nat) : Int) = (j : Int) := by
                      intro e
                      exact hqd (way_inj12 hhl (by omega) (by omega) ((Int.ofNat.inj e).trans hdi.symm))
                    have hst := HDB.out q (by omega)
                    have hwn := way_next12 h 8 q
                    have HQ := Lib.hid (wayq_eq12 hhl (show q < 8 by omega))
                    have HQ2 := Lib.hid (fun (h2 : q + 1 < 8) => wayq_eq12 hhl h2)
                    obtain ⟨y, hy⟩ : ∃ y, s.B[way12 h 8 q]? = some y := ⟨_, List.getElem?_eq_getElem (by rw [HN.out]; exact hwl)⟩
                    have hya : at12 s.B (way12 h 8 q) = y := by rw [at_get12 (by rw [HN.out]; exact hwl)]; exact Option.some.inj ((List.getElem?_eq_getElem (by rw [HN.out]; exact hwl)).symm.trans hy)
                    rw [hya] at hst
                    obtain ⟨b2, off2, e2, _, hr2⟩ := HI3.out.b.bkt hy
                    cases e2
                    have y0 := hr2 0 _ rfl
                    clear hr2
                    rw [Nat.add_zero] at y0
                    have hst : ¬ y.st = 0 := hst
                    generalize y.st = ys at *
                    generalize hgw : way12 h 8 q = g at *
                    have r1 : (((g : Nat) : Int) + 1).tmod 8 = ((way12 h 8 (q + 1) : Nat) : Int) := by rw [IntWalk.rem_in _ _ (by omega), ← hwn]; omega
                    have q2 : ¬ ((g : Nat) : Int) < 0 := by omega
                    have q3 : ((g : Nat) : Int) < 8 := by omega
                    have w2i := IntWalk.i64_in (((g : Nat) : Int) + 1) (by omega)
                    have HE := Lib.hid hgw
                    have hbe : (ys == 0) = false := beq_false_of_ne hst
                    have hbn : (((g : Nat) : Int) != ((j : Nat) : Int)) = true := bne_iff_ne.2 hne
                    clear hgw hwn hy hya hwl
                    go_wp2
                    go_roundw
                    case rel => exact ⟨q + 1, by omega, rfl, trivial⟩
                    case measure =>
                      rw [show (intOf (Value.int .i64 ((way12 h 8 (q + 1) : Nat) : Int))).toNat = way12 h 8 (q + 1) from rfl, show (intOf (Value.int .i64 ((g : Nat) : Int))).toNat = g from rfl, HQ.out, HQ2.out (by omega)]
                      omega
              · clear HWY
                go_wp2_with (refine wpList_load_mid rfl 25 _ rfl b (off + j * 3) rfl _ _ hr Try.underlying25 rfl infoBkt12 ?_)
                go_roundw
                case rel => exact ⟨j + 1, by omega, by go_num, by rw [HCU.out], hb3⟩
                case measure => simp [intOf]; omega
          · have hj8 : j = 8 := by omega
            subst hj8
            have e1 : s.B.take 8 = s.B := by rw [← HN.out, List.take_length]
            rw [e1] at hcl ⊢
            rw [HN.out] at hcl
            have hqt := hrt.out.quarter
            rw [HN.out] at hqt
            have w2i := IntWalk.i64_in (4 * (cnt12 s.B 0 : Int)) (by omega)
            have q4 : (8 : Int) ≤ 4 * (cnt12 s.B 0 : Int) := by omega
            generalize cnt12 s.B 0 = C at *
            go_wp2
            go_ret
            exact ⟨rfl, hB.trans (hb2.mono hB.size)⟩
      · rw [hn] at d0
        have HN := Lib.hid hn
        clear hn
        obtain ⟨V, rfl⟩ : ∃ V, V = wr := ⟨_, rfl⟩
        go_wp2
        go_loopw [9, 10] (fun free i wr => ∃ j : Nat, j ≤ 16 ∧ i = .int .i64 (j : Int) ∧ free = .int .i64 (cnt12 (s.B.take j) 0 : Int) ∧ Below V.heap.size V wr) (fun _ i _ => 16 - (intOf i).toNat)
        case atStart => exact ⟨0, by omega, rfl, rfl, Below.refl _ _⟩
        case round =>
          obtain ⟨j, hj, rfl, rfl, hb2⟩ := hrel
          have d0 := cell_below12 hb2 d0 hd4
          have HI := Lib.hid (HIN.out.keep hb2)
          have hd4' := Nat.lt_of_lt_of_le hd4 hb2.size
          have hcl := cnt_le12 (s.B.take j) 0
          rw [List.length_take] at hcl
          by_cases hlt : j < 16
          · have hlt' : j < s.B.length := by rw [HN.out]; exact hlt
            have q1 : (j : Int) < 16 := by omega
            have w1i := IntWalk.i64_in ((j : Int) + 1) (by omega)
            obtain ⟨x, hx⟩ : ∃ x, s.B[j]? = some x := ⟨_, List.getElem?_eq_getElem hlt'⟩
            have hxa : at12 s.B j = x := by rw [at_get12 hlt']; exact Option.some.inj ((List.getElem?_eq_getElem hlt').symm.trans hx)
            have HCT := Lib.hid (cnt_take12 hx 0)
            obtain ⟨b, off, rfl, hbb, hr⟩ := HI.out.b.bkt hx
            have HWY := Lib.hid (hrt.out.way hlt')
            rw [hxa] at HWY
            obtain ⟨st, xl, xc⟩ := x
            have iX := Is.new wr 25 (bktA ⟨st, xl, xc⟩)
            have x0 : (wr.alloc (.cells (bktA ⟨st, xl, xc⟩) 25)).cell? ⟨wr.heap.size, 0, none⟩ = some (.int .i64 st) := iX.cell 0
            have x1 : (wr.alloc (.cells (bktA ⟨st, xl, xc⟩) 25)).cell? ⟨wr.heap.size, 1, none⟩ = some (.string xl) := iX.cell 1
            have hb3 := hb2.alloc hb2.size (.cells (bktA ⟨st, xl, xc⟩) 25)
            have d0' := cell_below12 ((Below.refl _ _).alloc (Nat.le_refl _) (.cells (bktA ⟨st, xl, xc⟩) 25)) d0 hd4'
            have HI3 := Lib.hid (HI.out.keep ((Below.refl _ _).alloc (Nat.le_refl _) (.cells (bktA ⟨st, xl, xc⟩) 25)))
            clear hx hxa iX HI hb2
            by_cases h0 : st = 0
            · subst h0
              have w2i := IntWalk.i64_in ((cnt12 (s.B.take j) 0 : Int) + 1) (by omega)
              clear hcl HWY
              go_wp2_with (refine wpList_load_mid rfl 25 _ rfl b (off + j * 3) rfl _ _ hr Try.underlying25 rfl infoBkt12 ?_)
              go_roundw
              case rel => exact ⟨j + 1, by omega, by go_num, by rw [HCT.out]; go_num, hb3⟩
              case measure => simp [intOf]; omega
            · have hct : cnt12 (s.B.take (j + 1)) 0 = cnt12 (s.B.take j) 0 := by rw [HCT.out]; show cnt12 (s.B.take j) 0 + (if st = 0 then 1 else 0) = _; rw [if_neg h0, Nat.add_zero]
              have HCU := Lib.hid hct
              clear hct hcl HCT
              by_cases h1 : st = 1
              · subst h1
                clear h0
                obtain ⟨d, hd, hdi, hdb⟩ := HWY.out rfl
                have HDB := Lib.hid hdb
                have hhv : homV12 xl (16 : Int) = (hom12 xl 16 : Int) := homV_nat12 xl (n := 16) (by omega)
                have HH : Hid (∀ W, Calls Try.prog 14 #[.string xl, .int .i64 16] W fun e W' => e = .returned (.int .i64 (hom12 xl 16 : Int)) ∧ W = W') := Lib.hid (fun W => by have := home_any12 xl (16 : Int) W (by omega); rwa [hhv] at this)
                have hhl := hom_lt12 xl (n := s.B.length) (by omega)
                rw [HN.out] at hd hdi HDB hhl
                clear hdb HWY hhv
                go_wp2_with (first | (refine wpList_load_mid rfl 25 _ rfl b (off + j * 3) rfl _ _ hr Try.underlying25 rfl infoBkt12 ?_) | (go_at_call 14; refine (HH.out _).mono ?_; rintro e wq ⟨rfl, rfl⟩))
                clear HH
                generalize hho : hom12 xl 16 = h at *
                clear hho x1 x0
                have hw0 : h = way12 h 16 0 := by rw [way12, Nat.add_zero, Nat.mod_eq_of_lt hhl]
                go_loopw [12] (fun a wr3 => ∃ q : Nat, q ≤ d ∧ a = .int .i64 (way12 h 16 q : Int) ∧ wr3 = wr.alloc (.cells (bktA ⟨1, xl, xc⟩) 25)) (fun a _ => d - wayq12 h 16 (intOf a).toNat)
                case atStart => exact ⟨0, by omega, by rw [← hw0], rfl⟩
                case round =>
                  obtain ⟨q, hq, rfl, rfl⟩ := hrel
                  clear hr hw0
                  have hwl := way_lt12 h q (n := 16) (by omega)
                  by_cases hqd : q = d
                  · subst hqd
                    rw [hdi]
                    go_wp2
                    go_roundw
                    case rel => exact ⟨j + 1, by omega, by go_num, by rw [HCU.out], hb3⟩
                    case measure => simp [intOf]; omega
                  · have hne : ¬ ((way12 h 16 q : Nat) : Int) = (j : Int) := by
                      intro e
                      exact hqd (way_inj12 hhl (by omega) (by omega) ((Int.ofNat.inj e).trans hdi.symm))
                    have hst := HDB.out q (by omega)
                    have hwn := way_next12 h 16 q
                    have HQ := Lib.hid (wayq_eq12 hhl (show q < 16 by omega))
                    have HQ2 := Lib.hid (fun (h2 : q + 1 < 16) => wayq_eq12 hhl h2)
                    obtain ⟨y, hy⟩ : ∃ y, s.B[way12 h 16 q]? = some y := ⟨_, List.getElem?_eq_getElem (by rw [HN.out]; exact hwl)⟩
                    have hya : at12 s.B (way12 h 16 q) = y := by rw [at_get12 (by rw [HN.out]; exact hwl)]; exact Option.some.inj ((List.getElem?_eq_getElem (by rw [HN.out]; exact hwl)).symm.trans hy)
                    rw [hya] at hst
                    obtain ⟨b2, off2, e2, _, hr2⟩ := HI3.out.b.bkt hy
                    cases e2
                    have y0 := hr2 0 _ rfl
                    clear hr2
                    rw [Nat.add_zero] at y0
                    have hst : ¬ y.st = 0 := hst
                    generalize y.st = ys at *
                    generalize hgw : way12 h 16 q = g at *
                    have r1 : (((g : Nat) : Int) + 1).tmod 16 = ((way12 h 16 (q + 1) : Nat) : Int) := by rw [IntWalk.rem_in _ _ (by omega), ← hwn]; omega
                    have q2 : ¬ ((g : Nat) : Int) < 0 := by omega
                    have q3 : ((g : Nat) : Int) < 16 := by omega
                    have w2i := IntWalk.i64_in (((g : Nat) : Int) + 1) (by omega)
                    have HE := Lib.hid hgw
                    have hbe : (ys == 0) = false := beq_false_of_ne hst
                    have hbn : (((g : Nat) : Int) != ((j : Nat) : Int)) = true := bne_iff_ne.2 hne
                    clear hgw hwn hy hya hwl
                    go_wp2
                    go_roundw
                    case rel => exact ⟨q + 1, by omega, rfl, trivial⟩
                    case measure =>
                      rw [show (intOf (Value.int .i64 ((way12 h 16 (q + 1) : Nat) : Int))).toNat = way12 h 16 (q + 1) from rfl, show (intOf (Value.int .i64 ((g : Nat) : Int))).toNat = g from rfl, HQ.out, HQ2.out (by omega)]
                      omega
              · clear HWY
                go_wp2_with (refine wpList_load_mid rfl 25 _ rfl b (off + j * 3) rfl _ _ hr Try.underlying25 rfl infoBkt12 ?_)
                go_roundw
                case rel => exact ⟨j + 1, by omega, by go_num, by rw [HCU.out], hb3⟩
                case measure => simp [intOf]; omega
          · have hj8 : j = 16 := by omega
            subst hj8
            have e1 : s.B.take 16 = s.B := by rw [← HN.out, List.take_length]
            rw [e1] at hcl ⊢
            rw [HN.out] at hcl
            have hqt := hrt.out.quarter
            rw [HN.out] at hqt
            have w2i := IntWalk.i64_in (4 * (cnt12 s.B 0 : Int)) (by omega)
            have q4 : (16 : Int) ≤ 4 * (cnt12 s.B 0 : Int) := by omega
            generalize cnt12 s.B 0 = C at *
            go_wp2
            go_ret
            exact ⟨rfl, hB.trans (hb2.mono hB.size)⟩
      · rw [hn] at d0
        have HN := Lib.hid hn
        clear hn
        obtain ⟨V, rfl⟩ : ∃ V, V = wr := ⟨_, rfl⟩
        go_wp2
        go_loopw [9, 10] (fun free i wr => ∃ j : Nat, j ≤ 16 ∧ i = .int .i64 (j : Int) ∧ free = .int .i64 (cnt12 (s.B.take j) 0 : Int) ∧ Below V.heap.size V wr) (fun _ i _ => 16 - (intOf i).toNat)
        case atStart => exact ⟨0, by omega, rfl, rfl, Below.refl _ _⟩
        case round =>
          obtain ⟨j, hj, rfl, rfl, hb2⟩ := hrel
          have d0 := cell_below12 hb2 d0 hd4
          have HI := Lib.hid (HIN.out.keep hb2)
          have hd4' := Nat.lt_of_lt_of_le hd4 hb2.size
          have hcl := cnt_le12 (s.B.take j) 0
          rw [List.length_take] at hcl
          by_cases hlt : j < 16
          · have hlt' : j < s.B.length := by rw [HN.out]; exact hlt
            have q1 : (j : Int) < 16 := by omega
            have w1i := IntWalk.i64_in ((j : Int) + 1) (by omega)
            obtain ⟨x, hx⟩ : ∃ x, s.B[j]? = some x := ⟨_, List.getElem?_eq_getElem hlt'⟩
            have hxa : at12 s.B j = x := by rw [at_get12 hlt']; exact Option.some.inj ((List.getElem?_eq_getElem hlt').symm.trans hx)
            have HCT := Lib.hid (cnt_take12 hx 0)
            obtain ⟨b, off, rfl, hbb, hr⟩ := HI.out.b.bkt hx
            have HWY := Lib.hid (hrt.out.way hlt')
            rw [hxa] at HWY
            obtain ⟨st, xl, xc⟩ := x
            have iX := Is.new wr 25 (bktA ⟨st, xl, xc⟩)
            have x0 : (wr.alloc (.cells (bktA ⟨st, xl, xc⟩) 25)).cell? ⟨wr.heap.size, 0, none⟩ = some (.int .i64 st) := iX.cell 0
            have x1 : (wr.alloc (.cells (bktA ⟨st, xl, xc⟩) 25)).cell? ⟨wr.heap.size, 1, none⟩ = some (.string xl) := iX.cell 1
            have hb3 := hb2.alloc hb2.size (.cells (bktA ⟨st, xl, xc⟩) 25)
            have d0' := cell_below12 ((Below.refl _ _).alloc (Nat.le_refl _) (.cells (bktA ⟨st, xl, xc⟩) 25)) d0 hd4'
            have HI3 := Lib.hid (HI.out.keep ((Below.refl _ _).alloc (Nat.le_refl _) (.cells (bktA ⟨st, xl, xc⟩) 25)))
            clear hx hxa iX HI hb2
            by_cases h0 : st = 0
            · subst h0
              have w2i := IntWalk.i64_in ((cnt12 (s.B.take j) 0 : Int) + 1) (by omega)
              clear hcl HWY
              go_wp2_with (refine wpList_load_mid rfl 25 _ rfl b (off + j * 3) rfl _ _ hr Try.underlying25 rfl infoBkt12 ?_)
              go_roundw
              case rel => exact ⟨j + 1, by omega, by go_num, by rw [HCT.out]; go_num, hb3⟩
              case measure => simp [intOf]; omega
            · have hct : cnt12 (s.B.take (j + 1)) 0 = cnt12 (s.B.take j) 0 := by rw [HCT.out]; show cnt12 (s.B.take j) 0 + (if st = 0 then 1 else 0) = _; rw [if_neg h0, Nat.add_zero]
              have HCU := Lib.hid hct
              clear hct hcl HCT
              by_cases h1 : st = 1
              · subst h1
                clear h0
                obtain ⟨d, hd, hdi, hdb⟩ := HWY.out rfl
                have HDB := Lib.hid hdb
                have hhv : homV12 xl (16 : Int) = (hom12 xl 16 : Int) := homV_nat12 xl (n := 16) (by omega)
                have HH : Hid (∀ W, Calls Try.prog 14 #[.string xl, .int .i64 16] W fun e W' => e = .returned (.int .i64 (hom12 xl 16 : Int)) ∧ W = W') := Lib.hid (fun W => by have := home_any12 xl (16 : Int) W (by omega); rwa [hhv] at this)
                have hhl := hom_lt12 xl (n := s.B.length) (by omega)
                rw [HN.out] at hd hdi HDB hhl
                clear hdb HWY hhv
                go_wp2_with (first | (refine wpList_load_mid rfl 25 _ rfl b (off + j * 3) rfl _ _ hr Try.underlying25 rfl infoBkt12 ?_) | (go_at_call 14; refine (HH.out _).mono ?_; rintro e wq ⟨rfl, rfl⟩))
                clear HH
                generalize hho : hom12 xl 16 = h at *
                clear hho x1 x0
                have hw0 : h = way12 h 16 0 := by rw [way12, Nat.add_zero, Nat.mod_eq_of_lt hhl]
                go_loopw [12] (fun a wr3 => ∃ q : Nat, q ≤ d ∧ a = .int .i64 (way12 h 16 q : Int) ∧ wr3 = wr.alloc (.cells (bktA ⟨1, xl, xc⟩) 25)) (fun a _ => d - wayq12 h 16 (intOf a).toNat)
                case atStart => exact ⟨0, by omega, by rw [← hw0], rfl⟩
                case round =>
                  obtain ⟨q, hq, rfl, rfl⟩ := hrel
                  clear hr hw0
                  have hwl := way_lt12 h q (n := 16) (by omega)
                  by_cases hqd : q = d
                  · subst hqd
                    rw [hdi]
                    go_wp2
                    go_roundw
                    case rel => exact ⟨j + 1, by omega, by go_num, by rw [HCU.out], hb3⟩
                    case measure => simp [intOf]; omega
                  · have hne : ¬ ((way12 h 16 q : Nat) : Int) = (j : Int) := by
                      intro e
                      exact hqd (way_inj12 hhl (by omega) (by omega) ((Int.ofNat.inj e).trans hdi.symm))
                    have hst := HDB.out q (by omega)
                    have hwn := way_next12 h 16 q
                    have HQ := Lib.hid (wayq_eq12 hhl (show q < 16 by omega))
                    have HQ2 := Lib.hid (fun (h2 : q + 1 < 16) => wayq_eq12 hhl h2)
                    obtain ⟨y, hy⟩ : ∃ y, s.B[way12 h 16 q]? = some y := ⟨_, List.getElem?_eq_getElem (by rw [HN.out]; exact hwl)⟩
                    have hya : at12 s.B (way12 h 16 q) = y := by rw [at_get12 (by rw [HN.out]; exact hwl)]; exact Option.some.inj ((List.getElem?_eq_getElem (by rw [HN.out]; exact hwl)).symm.trans hy)
                    rw [hya] at hst
                    obtain ⟨b2, off2, e2, _, hr2⟩ := HI3.out.b.bkt hy
                    cases e2
                    have y0 := hr2 0 _ rfl
                    clear hr2
                    rw [Nat.add_zero] at y0
                    have hst : ¬ y.st = 0 := hst
                    generalize y.st = ys at *
                    generalize hgw : way12 h 16 q = g at *
                    have r1 : (((g : Nat) : Int) + 1).tmod 16 = ((way12 h 16 (q + 1) : Nat) : Int) := by rw [IntWalk.rem_in _ _ (by omega), ← hwn]; omega
                    have q2 : ¬ ((g : Nat) : Int) < 0 := by omega
                    have q3 : ((g : Nat) : Int) < 16 := by omega
                    have w2i := IntWalk.i64_in (((g : Nat) : Int) + 1) (by omega)
                    have HE := Lib.hid hgw
                    have hbe : (ys == 0) = false := beq_false_of_ne hst
                    have hbn : (((g : Nat) : Int) != ((j : Nat) : Int)) = true := bne_iff_ne.2 hne
                    clear hgw hwn hy hya hwl
                    go_wp2
                    go_roundw
                    case rel => exact ⟨q + 1, by omega, rfl, trivial⟩
                    case measure =>
                      rw [show (intOf (Value.int .i64 ((way12 h 16 (q + 1) : Nat) : Int))).toNat = way12 h 16 (q + 1) from rfl, show (intOf (Value.int .i64 ((g : Nat) : Int))).toNat = g from rfl, HQ.out, HQ2.out (by omega)]
                      omega
              · clear HWY
                go_wp2_with (refine wpList_load_mid rfl 25 _ rfl b (off + j * 3) rfl _ _ hr Try.underlying25 rfl infoBkt12 ?_)
                go_roundw
                case rel => exact ⟨j + 1, by omega, by go_num, by rw [HCU.out], hb3⟩
                case measure => simp [intOf]; omega
          · have hj8 : j = 16 := by omega
            subst hj8
            have e1 : s.B.take 16 = s.B := by rw [← HN.out, List.take_length]
            rw [e1] at hcl ⊢
            rw [HN.out] at hcl
            have hqt := hrt.out.quarter
            rw [HN.out] at hqt
            have w2i := IntWalk.i64_in (4 * (cnt12 s.B 0 : Int)) (by omega)
            have q4 : (16 : Int) ≤ 4 * (cnt12 s.B 0 : Int) := by omega
            generalize cnt12 s.B 0 = C at *
            go_wp2
            go_ret
            exact ⟨rfl, hB.trans (hb2.mono hB.size)⟩
      · rw [hn] at d0
        have HN := Lib.hid hn
        clear hn
        obtain ⟨V, rfl⟩ : ∃ V, V = wr := ⟨_, rfl⟩
        go_wp2
        go_loopw [9, 10] (fun free i wr => ∃ j : Nat, j ≤ 32 ∧ i = .int .i64 (j : Int) ∧ free = .int .i64 (cnt12 (s.B.take j) 0 : Int) ∧ Below V.heap.size V wr) (fun _ i _ => 32 - (intOf i).toNat)
        case atStart => exact ⟨0, by omega, rfl, rfl, Below.refl _ _⟩
        case round =>
          obtain ⟨j, hj, rfl, rfl, hb2⟩ := hrel
          have d0 := cell_below12 hb2 d0 hd4
          have HI := Lib.hid (HIN.out.keep hb2)
          have hd4' := Nat.lt_of_lt_of_le hd4 hb2.size
          have hcl := cnt_le12 (s.B.take j) 0
          rw [List.length_take] at hcl
          by_cases hlt : j < 32
          · have hlt' : j < s.B.length := by rw [HN.out]; exact hlt
            have q1 : (j : Int) < 32 := by omega
            have w1i := IntWalk.i64_in ((j : Int) + 1) (by omega)
            obtain ⟨x, hx⟩ : ∃ x, s.B[j]? = some x := ⟨_, List.getElem?_eq_getElem hlt'⟩
            have hxa : at12 s.B j = x := by rw [at_get12 hlt']; exact Option.some.inj ((List.getElem?_eq_getElem hlt').symm.trans hx)
            have HCT := Lib.hid (cnt_take12 hx 0)
            obtain ⟨b, off, rfl, hbb, hr⟩ := HI.out.b.bkt hx
            have HWY := Lib.hid (hrt.out.way hlt')
            rw [hxa] at HWY
            obtain ⟨st, xl, xc⟩ := x
            have iX := Is.new wr 25 (bktA ⟨st, xl, xc⟩)
            have x0 : (wr.alloc (.cells (bktA ⟨st, xl, xc⟩) 25)).cell? ⟨wr.heap.size, 0, none⟩ = some (.int .i64 st) := iX.cell 0
            have x1 : (wr.alloc (.cells (bktA ⟨st, xl, xc⟩) 25)).cell? ⟨wr.heap.size, 1, none⟩ = some (.string xl) := iX.cell 1
            have hb3 := hb2.alloc hb2.size (.cells (bktA ⟨st, xl, xc⟩) 25)
            have d0' := cell_below12 ((Below.refl _ _).alloc (Nat.le_refl _) (.cells (bktA ⟨st, xl, xc⟩) 25)) d0 hd4'
            have HI3 := Lib.hid (HI.out.keep ((Below.refl _ _).alloc (Nat.le_refl _) (.cells (bktA ⟨st, xl, xc⟩) 25)))
            clear hx hxa iX HI hb2
            by_cases h0 : st = 0
            · subst h0
              have w2i := IntWalk.i64_in ((cnt12 (s.B.take j) 0 : Int) + 1) (by omega)
              clear hcl HWY
              go_wp2_with (refine wpList_load_mid rfl 25 _ rfl b (off + j * 3) rfl _ _ hr Try.underlying25 rfl infoBkt12 ?_)
              go_roundw
              case rel => exact ⟨j + 1, by omega, by go_num, by rw [HCT.out]; go_num, hb3⟩
              case measure => simp [intOf]; omega
            · have hct : cnt12 (s.B.take (j + 1)) 0 = cnt12 (s.B.take j) 0 := by rw [HCT.out]; show cnt12 (s.B.take j) 0 + (if st = 0 then 1 else 0) = _; rw [if_neg h0, Nat.add_zero]
              have HCU := Lib.hid hct
              clear hct hcl HCT
              by_cases h1 : st = 1
              · subst h1
                clear h0
                obtain ⟨d, hd, hdi, hdb⟩ := HWY.out rfl
                have HDB := Lib.hid hdb
                have hhv : homV12 xl (32 : Int) = (hom12 xl 32 : Int) := homV_nat12 xl (n := 32) (by omega)
                have HH : Hid (∀ W, Calls Try.prog 14 #[.string xl, .int .i64 32] W fun e W' => e = .returned (.int .i64 (hom12 xl 32 : Int)) ∧ W = W') := Lib.hid (fun W => by have := home_any12 xl (32 : Int) W (by omega); rwa [hhv] at this)
                have hhl := hom_lt12 xl (n := s.B.length) (by omega)
                rw [HN.out] at hd hdi HDB hhl
                clear hdb HWY hhv
                go_wp2_with (first | (refine wpList_load_mid rfl 25 _ rfl b (off + j * 3) rfl _ _ hr Try.underlying25 rfl infoBkt12 ?_) | (go_at_call 14; refine (HH.out _).mono ?_; rintro e wq ⟨rfl, rfl⟩))
                clear HH
                generalize hho : hom12 xl 32 = h at *
                clear hho x1 x0
                have hw0 : h = way12 h 32 0 := by rw [way12, Nat.add_zero, Nat.mod_eq_of_lt hhl]
                go_loopw [12] (fun a wr3 => ∃ q : Nat, q ≤ d ∧ a = .int .i64 (way12 h 32 q : Int) ∧ wr3 = wr.alloc (.cells (bktA ⟨1, xl, xc⟩) 25)) (fun a _ => d - wayq12 h 32 (intOf a).toNat)
                case atStart => exact ⟨0, by omega, by rw [← hw0], rfl⟩
                case round =>
                  obtain ⟨q, hq, rfl, rfl⟩ := hrel
                  clear hr hw0
                  have hwl := way_lt12 h q (n := 32) (by omega)
                  by_cases hqd : q = d
                  · subst hqd
                    rw [hdi]
                    go_wp2
                    go_roundw
                    case rel => exact ⟨j + 1, by omega, by go_num, by rw [HCU.out], hb3⟩
                    case measure => simp [intOf]; omega
                  · have hne : ¬ ((way12 h 32 q : Nat) : Int) = (j : Int) := by
                      intro e
                      exact hqd (way_inj12 hhl (by omega) (by omega) ((Int.ofNat.inj e).trans hdi.symm))
                    have hst := HDB.out q (by omega)
                    have hwn := way_next12 h 32 q
                    have HQ := Lib.hid (wayq_eq12 hhl (show q < 32 by omega))
                    have HQ2 := Lib.hid (fun (h2 : q + 1 < 32) => wayq_eq12 hhl h2)
                    obtain ⟨y, hy⟩ : ∃ y, s.B[way12 h 32 q]? = some y := ⟨_, List.getElem?_eq_getElem (by rw [HN.out]; exact hwl)⟩
                    have hya : at12 s.B (way12 h 32 q) = y := by rw [at_get12 (by rw [HN.out]; exact hwl)]; exact Option.some.inj ((List.getElem?_eq_getElem (by rw [HN.out]; exact hwl)).symm.trans hy)
                    rw [hya] at hst
                    obtain ⟨b2, off2, e2, _, hr2⟩ := HI3.out.b.bkt hy
                    cases e2
                    have y0 := hr2 0 _ rfl
                    clear hr2
                    rw [Nat.add_zero] at y0
                    have hst : ¬ y.st = 0 := hst
                    generalize y.st = ys at *
                    generalize hgw : way12 h 32 q = g at *
                    have r1 : (((g : Nat) : Int) + 1).tmod 32 = ((way12 h 32 (q + 1) : Nat) : Int) := by rw [IntWalk.rem_in _ _ (by omega), ← hwn]; omega
                    have q2 : ¬ ((g : Nat) : Int) < 0 := by omega
                    have q3 : ((g : Nat) : Int) < 32 := by omega
                    have w2i := IntWalk.i64_in (((g : Nat) : Int) + 1) (by omega)
                    have HE := Lib.hid hgw
                    have hbe : (ys == 0) = false := beq_false_of_ne hst
                    have hbn : (((g : Nat) : Int) != ((j : Nat) : Int)) = true := bne_iff_ne.2 hne
                    clear hgw hwn hy hya hwl
                    go_wp2
                    go_roundw
                    case rel => exact ⟨q + 1, by omega, rfl, trivial⟩
                    case measure =>
                      rw [show (intOf (Value.int .i64 ((way12 h 32 (q + 1) : Nat) : Int))).toNat = way12 h 32 (q + 1) from rfl, show (intOf (Value.int .i64 ((g : Nat) : Int))).toNat = g from rfl, HQ.out, HQ2.out (by omega)]
                      omega
              · clear HWY
                go_wp2_with (refine wpList_load_mid rfl 25 _ rfl b (off + j * 3) rfl _ _ hr Try.underlying25 rfl infoBkt12 ?_)
                go_roundw
                case rel => exact ⟨j + 1, by omega, by go_num, by rw [HCU.out], hb3⟩
                case measure => simp [intOf]; omega
          · have hj8 : j = 32 := by omega
            subst hj8
            have e1 : s.B.take 32 = s.B := by rw [← HN.out, List.take_length]
            rw [e1] at hcl ⊢
            rw [HN.out] at hcl
            have hqt := hrt.out.quarter
            rw [HN.out] at hqt
            have w2i := IntWalk.i64_in (4 * (cnt12 s.B 0 : Int)) (by omega)
            have q4 : (32 : Int) ≤ 4 * (cnt12 s.B 0 : Int) := by omega
            generalize cnt12 s.B 0 = C at *
            go_wp2
            go_ret
            exact ⟨rfl, hB.trans (hb2.mono hB.size)⟩
      · rw [hn] at d0
        have HN := Lib.hid hn
        clear hn
        obtain ⟨V, rfl⟩ : ∃ V, V = wr := ⟨_, rfl⟩
        go_wp2
        go_loopw [9, 10] (fun free i wr => ∃ j : Nat, j ≤ 32 ∧ i = .int .i64 (j : Int) ∧ free = .int .i64 (cnt12 (s.B.take j) 0 : Int) ∧ Below V.heap.size V wr) (fun _ i _ => 32 - (intOf i).toNat)
        case atStart => exact ⟨0, by omega, rfl, rfl, Below.refl _ _⟩
        case round =>
          obtain ⟨j, hj, rfl, rfl, hb2⟩ := hrel
          have d0 := cell_below12 hb2 d0 hd4
          have HI := Lib.hid (HIN.out.keep hb2)
          have hd4' := Nat.lt_of_lt_of_le hd4 hb2.size
          have hcl := cnt_le12 (s.B.take j) 0
          rw [List.length_take] at hcl
          by_cases hlt : j < 32
          · have hlt' : j < s.B.length := by rw [HN.out]; exact hlt
            have q1 : (j : Int) < 32 := by omega
            have w1i := IntWalk.i64_in ((j : Int) + 1) (by omega)
            obtain ⟨x, hx⟩ : ∃ x, s.B[j]? = some x := ⟨_, List.getElem?_eq_getElem hlt'⟩
            have hxa : at12 s.B j = x := by rw [at_get12 hlt']; exact Option.some.inj ((List.getElem?_eq_getElem hlt').symm.trans hx)
            have HCT := Lib.hid (cnt_take12 hx 0)
            obtain ⟨b, off, rfl, hbb, hr⟩ := HI.out.b.bkt hx
            have HWY := Lib.hid (hrt.out.way hlt')
            rw [hxa] at HWY
            obtain ⟨st, xl, xc⟩ := x
            have iX := Is.new wr 25 (bktA ⟨st, xl, xc⟩)
            have x0 : (wr.alloc (.cells (bktA ⟨st, xl, xc⟩) 25)).cell? ⟨wr.heap.size, 0, none⟩ = some (.int .i64 st) := iX.cell 0
            have x1 : (wr.alloc (.cells (bktA ⟨st, xl, xc⟩) 25)).cell? ⟨wr.heap.size, 1, none⟩ = some (.string xl) := iX.cell 1
            have hb3 := hb2.alloc hb2.size (.cells (bktA ⟨st, xl, xc⟩) 25)
            have d0' := cell_below12 ((Below.refl _ _).alloc (Nat.le_refl _) (.cells (bktA ⟨st, xl, xc⟩) 25)) d0 hd4'
            have HI3 := Lib.hid (HI.out.keep ((Below.refl _ _).alloc (Nat.le_refl _) (.cells (bktA ⟨st, xl, xc⟩) 25)))
            clear hx hxa iX HI hb2
            by_cases h0 : st = 0
            · subst h0
              have w2i := IntWalk.i64_in ((cnt12 (s.B.take j) 0 : Int) + 1) (by omega)
              clear hcl HWY
              go_wp2_with (refine wpList_load_mid rfl 25 _ rfl b (off + j * 3) rfl _ _ hr Try.underlying25 rfl infoBkt12 ?_)
              go_roundw
              case rel => exact ⟨j + 1, by omega, by go_num, by rw [HCT.out]; go_num, hb3⟩
              case measure => simp [intOf]; omega
            · have hct : cnt12 (s.B.take (j + 1)) 0 = cnt12 (s.B.take j) 0 := by rw [HCT.out]; show cnt12 (s.B.take j) 0 + (if st = 0 then 1 else 0) = _; rw [if_neg h0, Nat.add_zero]
              have HCU := Lib.hid hct
              clear hct hcl HCT
              by_cases h1 : st = 1
              · subst h1
                clear h0
                obtain ⟨d, hd, hdi, hdb⟩ := HWY.out rfl
                have HDB := Lib.hid hdb
                have hhv : homV12 xl (32 : Int) = (hom12 xl 32 : Int) := homV_nat12 xl (n := 32) (by omega)
                have HH : Hid (∀ W, Calls Try.prog 14 #[.string xl, .int .i64 32] W fun e W' => e = .returned (.int .i64 (hom12 xl 32 : Int)) ∧ W = W') := Lib.hid (fun W => by have := home_any12 xl (32 : Int) W (by omega); rwa [hhv] at this)
                have hhl := hom_lt12 xl (n := s.B.length) (by omega)
                rw [HN.out] at hd hdi HDB hhl
                clear hdb HWY hhv
                go_wp2_with (first | (refine wpList_load_mid rfl 25 _ rfl b (off + j * 3) rfl _ _ hr Try.underlying25 rfl infoBkt12 ?_) | (go_at_call 14; refine (HH.out _).mono ?_; rintro e wq ⟨rfl, rfl⟩))
                clear HH
                generalize hho : hom12 xl 32 = h at *
                clear hho x1 x0
                have hw0 : h = way12 h 32 0 := by rw [way12, Nat.add_zero, Nat.mod_eq_of_lt hhl]
                go_loopw [12] (fun a wr3 => ∃ q : Nat, q ≤ d ∧ a = .int .i64 (way12 h 32 q : Int) ∧ wr3 = wr.alloc (.cells (bktA ⟨1, xl, xc⟩) 25)) (fun a _ => d - wayq12 h 32 (intOf a).toNat)
                case atStart => exact ⟨0, by omega, by rw [← hw0], rfl⟩
                case round =>
                  obtain ⟨q, hq, rfl, rfl⟩ := hrel
                  clear hr hw0
                  have hwl := way_lt12 h q (n := 32) (by omega)
                  by_cases hqd : q = d
                  · subst hqd
                    rw [hdi]
                    go_wp2
                    go_roundw
                    case rel => exact ⟨j + 1, by omega, by go_num, by rw [HCU.out], hb3⟩
                    case measure => simp [intOf]; omega
                  · have hne : ¬ ((way12 h 32 q : Nat) : Int) = (j : Int) := by
                      intro e
                      exact hqd (way_inj12 hhl (by omega) (by omega) ((Int.ofNat.inj e).trans hdi.symm))
                    have hst := HDB.out q (by omega)
                    have hwn := way_next12 h 32 q
                    have HQ := Lib.hid (wayq_eq12 hhl (show q < 32 by omega))
                    have HQ2 := Lib.hid (fun (h2 : q + 1 < 32) => wayq_eq12 hhl h2)
                    obtain ⟨y, hy⟩ : ∃ y, s.B[way12 h 32 q]? = some y := ⟨_, List.getElem?_eq_getElem (by rw [HN.out]; exact hwl)⟩
                    have hya : at12 s.B (way12 h 32 q) = y := by rw [at_get12 (by rw [HN.out]; exact hwl)]; exact Option.some.inj ((List.getElem?_eq_getElem (by rw [HN.out]; exact hwl)).symm.trans hy)
                    rw [hya] at hst
                    obtain ⟨b2, off2, e2, _, hr2⟩ := HI3.out.b.bkt hy
                    cases e2
                    have y0 := hr2 0 _ rfl
                    clear hr2
                    rw [Nat.add_zero] at y0
                    have hst : ¬ y.st = 0 := hst
                    generalize y.st = ys at *
                    generalize hgw : way12 h 32 q = g at *
                    have r1 : (((g : Nat) : Int) + 1).tmod 32 = ((way12 h 32 (q + 1) : Nat) : Int) := by rw [IntWalk.rem_in _ _ (by omega), ← hwn]; omega
                    have q2 : ¬ ((g : Nat) : Int) < 0 := by omega
                    have q3 : ((g : Nat) : Int) < 32 := by omega
                    have w2i := IntWalk.i64_in (((g : Nat) : Int) + 1) (by omega)
                    have HE := Lib.hid hgw
                    have hbe : (ys == 0) = false := beq_false_of_ne hst
                    have hbn : (((g : Nat) : Int) != ((j : Nat) : Int)) = true := bne_iff_ne.2 hne
                    clear hgw hwn hy hya hwl
                    go_wp2
                    go_roundw
                    case rel => exact ⟨q + 1, by omega, rfl, trivial⟩
                    case measure =>
                      rw [show (intOf (Value.int .i64 ((way12 h 32 (q + 1) : Nat) : Int))).toNat = way12 h 32 (q + 1) from rfl, show (intOf (Value.int .i64 ((g : Nat) : Int))).toNat = g from rfl, HQ.out, HQ2.out (by omega)]
                      omega
              · clear HWY
                go_wp2_with (refine wpList_load_mid rfl 25 _ rfl b (off + j * 3) rfl _ _ hr Try.underlying25 rfl infoBkt12 ?_)
                go_roundw
                case rel => exact ⟨j + 1, by omega, by go_num, by rw [HCU.out], hb3⟩
                case measure => simp [intOf]; omega
          · have hj8 : j = 32 := by omega
            subst hj8
            have e1 : s.B.take 32 = s.B := by rw [← HN.out, List.take_length]
            rw [e1] at hcl ⊢
            rw [HN.out] at hcl
            have hqt := hrt.out.quarter
            rw [HN.out] at hqt
            have w2i := IntWalk.i64_in (4 * (cnt12 s.B 0 : Int)) (by omega)
            have q4 : (32 : Int) ≤ 4 * (cnt12 s.B 0 : Int) := by omega
            generalize cnt12 s.B 0 = C at *
            go_wp2
            go_ret
            exact ⟨rfl, hB.trans (hb2.mono hB.size)⟩
      · rw [hn] at d0
        have HN := Lib.hid hn
        clear hn
        obtain ⟨V, rfl⟩ : ∃ V, V = wr := ⟨_, rfl⟩
        go_wp2
        go_loopw [9, 10] (fun free i wr => ∃ j : Nat, j ≤ 64 ∧ i = .int .i64 (j : Int) ∧ free = .int .i64 (cnt12 (s.B.take j) 0 : Int) ∧ Below V.heap.size V wr) (fun _ i _ => 64 - (intOf i).toNat)
        case atStart => exact ⟨0, by omega, rfl, rfl, Below.refl _ _⟩
        case round =>
          obtain ⟨j, hj, rfl, rfl, hb2⟩ := hrel
          have d0 := cell_below12 hb2 d0 hd4
          have HI := Lib.hid (HIN.out.keep hb2)
          have hd4' := Nat.lt_of_lt_of_le hd4 hb2.size
          have hcl := cnt_le12 (s.B.take j) 0
          rw [List.length_take] at hcl
          by_cases hlt : j < 64
          · have hlt' : j < s.B.length := by rw [HN.out]; exact hlt
            have q1 : (j : Int) < 64 := by omega
            have w1i := IntWalk.i64_in ((j : Int) + 1) (by omega)
            obtain ⟨x, hx⟩ : ∃ x, s.B[j]? = some x := ⟨_, List.getElem?_eq_getElem hlt'⟩
            have hxa : at12 s.B j = x := by rw [at_get12 hlt']; exact Option.some.inj ((List.getElem?_eq_getElem hlt').symm.trans hx)
            have HCT := Lib.hid (cnt_take12 hx 0)
            obtain ⟨b, off, rfl, hbb, hr⟩ := HI.out.b.bkt hx
            have HWY := Lib.hid (hrt.out.way hlt')
            rw [hxa] at HWY
            obtain ⟨st, xl, xc⟩ := x
            have iX := Is.new wr 25 (bktA ⟨st, xl, xc⟩)
            have x0 : (wr.alloc (.cells (bktA ⟨st, xl, xc⟩) 25)).cell? ⟨wr.heap.size, 0, none⟩ = some (.int .i64 st) := iX.cell 0
            have x1 : (wr.alloc (.cells (bktA ⟨st, xl, xc⟩) 25)).cell? ⟨wr.heap.size, 1, none⟩ = some (.string xl) := iX.cell 1
            have hb3 := hb2.alloc hb2.size (.cells (bktA ⟨st, xl, xc⟩) 25)
            have d0' := cell_below12 ((Below.refl _ _).alloc (Nat.le_refl _) (.cells (bktA ⟨st, xl, xc⟩) 25)) d0 hd4'
            have HI3 := Lib.hid (HI.out.keep ((Below.refl _ _).alloc (Nat.le_refl _) (.cells (bktA ⟨st, xl, xc⟩) 25)))
            clear hx hxa iX HI hb2
            by_cases h0 : st = 0
            · subst h0
              have w2i := IntWalk.i64_in ((cnt12 (s.B.take j) 0 : Int) + 1) (by omega)
              clear hcl HWY
              go_wp2_with (refine wpList_load_mid rfl 25 _ rfl b (off + j * 3) rfl _ _ hr Try.underlying25 rfl infoBkt12 ?_)
              go_roundw
              case rel => exact ⟨j + 1, by omega, by go_num, by rw [HCT.out]; go_num, hb3⟩
              case measure => simp [intOf]; omega
            · have hct : cnt12 (s.B.take (j + 1)) 0 = cnt12 (s.B.take j) 0 := by rw [HCT.out]; show cnt12 (s.B.take j) 0 + (if st = 0 then 1 else 0) = _; rw [if_neg h0, Nat.add_zero]
              have HCU := Lib.hid hct
              clear hct hcl HCT
              by_cases h1 : st = 1
              · subst h1
                clear h0
                obtain ⟨d, hd, hdi, hdb⟩ := HWY.out rfl
                have HDB := Lib.hid hdb
                have hhv : homV12 xl (64 : Int) = (hom12 xl 64 : Int) := homV_nat12 xl (n := 64) (by omega)
                have HH : Hid (∀ W, Calls Try.prog 14 #[.string xl, .int .i64 64] W fun e W' => e = .returned (.int .i64 (hom12 xl 64 : Int)) ∧ W = W') := Lib.hid (fun W => by have := home_any12 xl (64 : Int) W (by omega); rwa [hhv] at this)
                have hhl := hom_lt12 xl (n := s.B.length) (by omega)
                rw [HN.out] at hd hdi HDB hhl
                clear hdb HWY hhv
                go_wp2_with (first | (refine wpList_load_mid rfl 25 _ rfl b (off + j * 3) rfl _ _ hr Try.underlying25 rfl infoBkt12 ?_) | (go_at_call 14; refine (HH.out _).mono ?_; rintro e wq ⟨rfl, rfl⟩))
                clear HH
                generalize hho : hom12 xl 64 = h at *
                clear hho x1 x0
                have hw0 : h = way12 h 64 0 := by rw [way12, Nat.add_zero, Nat.mod_eq_of_lt hhl]
                go_loopw [12] (fun a wr3 => ∃ q : Nat, q ≤ d ∧ a = .int .i64 (way12 h 64 q : Int) ∧ wr3 = wr.alloc (.cells (bktA ⟨1, xl, xc⟩) 25)) (fun a _ => d - wayq12 h 64 (intOf a).toNat)
                case atStart => exact ⟨0, by omega, by rw [← hw0], rfl⟩
                case round =>
                  obtain ⟨q, hq, rfl, rfl⟩ := hrel
                  clear hr hw0
                  have hwl := way_lt12 h q (n := 64) (by omega)
                  by_cases hqd : q = d
                  · subst hqd
                    rw [hdi]
                    go_wp2
                    go_roundw
                    case rel => exact ⟨j + 1, by omega, by go_num, by rw [HCU.out], hb3⟩
                    case measure => simp [intOf]; omega
                  · have hne : ¬ ((way12 h 64 q : Nat) : Int) = (j : Int) := by
                      intro e
                      exact hqd (way_inj12 hhl (by omega) (by omega) ((Int.ofNat.inj e).trans hdi.symm))
                    have hst := HDB.out q (by omega)
                    have hwn := way_next12 h 64 q
                    have HQ := Lib.hid (wayq_eq12 hhl (show q < 64 by omega))
                    have HQ2 := Lib.hid (fun (h2 : q + 1 < 64) => wayq_eq12 hhl h2)
                    obtain ⟨y, hy⟩ : ∃ y, s.B[way12 h 64 q]? = some y := ⟨_, List.getElem?_eq_getElem (by rw [HN.out]; exact hwl)⟩
                    have hya : at12 s.B (way12 h 64 q) = y := by rw [at_get12 (by rw [HN.out]; exact hwl)]; exact Option.some.inj ((List.getElem?_eq_getElem (by rw [HN.out]; exact hwl)).symm.trans hy)
                    rw [hya] at hst
                    obtain ⟨b2, off2, e2, _, hr2⟩ := HI3.out.b.bkt hy
                    cases e2
                    have y0 := hr2 0 _ rfl
                    clear hr2
                    rw [Nat.add_zero] at y0
                    have hst : ¬ y.st = 0 := hst
                    generalize y.st = ys at *
                    generalize hgw : way12 h 64 q = g at *
                    have r1 : (((g : Nat) : Int) + 1).tmod 64 = ((way12 h 64 (q + 1) : Nat) : Int) := by rw [IntWalk.rem_in _ _ (by omega), ← hwn]; omega
                    have q2 : ¬ ((g : Nat) : Int) < 0 := by omega
                    have q3 : ((g : Nat) : Int) < 64 := by omega
                    have w2i := IntWalk.i64_in (((g : Nat) : Int) + 1) (by omega)
                    have HE := Lib.hid hgw
                    have hbe : (ys == 0) = false := beq_false_of_ne hst
                    have hbn : (((g : Nat) : Int) != ((j : Nat) : Int)) = true := bne_iff_ne.2 hne
                    clear hgw hwn hy hya hwl
                    go_wp2
                    go_roundw
                    case rel => exact ⟨q + 1, by omega, rfl, trivial⟩
                    case measure =>
                      rw [show (intOf (Value.int .i64 ((way12 h 64 (q + 1) : Nat) : Int))).toNat = way12 h 64 (q + 1) from rfl, show (intOf (Value.int .i64 ((g : Nat) : Int))).toNat = g from rfl, HQ.out, HQ2.out (by omega)]
                      omega
              · clear HWY
                go_wp2_with (refine wpList_load_mid rfl 25 _ rfl b (off + j * 3) rfl _ _ hr Try.underlying25 rfl infoBkt12 ?_)
                go_roundw
                case rel => exact ⟨j + 1, by omega, by go_num, by rw [HCU.out], hb3⟩
                case measure => simp [intOf]; omega
          · have hj8 : j = 64 := by omega
            subst hj8
            have e1 : s.B.take 64 = s.B := by rw [← HN.out, List.take_length]
            rw [e1] at hcl ⊢
            rw [HN.out] at hcl
            have hqt := hrt.out.quarter
            rw [HN.out] at hqt
            have w2i := IntWalk.i64_in (4 * (cnt12 s.B 0 : Int)) (by omega)
            have q4 : (64 : Int) ≤ 4 * (cnt12 s.B 0 : Int) := by omega
            generalize cnt12 s.B 0 = C at *
            go_wp2
            go_ret
            exact ⟨rfl, hB.trans (hb2.mono hB.size)⟩
      · rw [hn] at d0
        have HN := Lib.hid hn
        clear hn
        obtain ⟨V, rfl⟩ : ∃ V, V = wr := ⟨_, rfl⟩
        go_wp2
        go_loopw [9, 10] (fun free i wr => ∃ j : Nat, j ≤ 64 ∧ i = .int .i64 (j : Int) ∧ free = .int .i64 (cnt12 (s.B.take j) 0 : Int) ∧ Below V.heap.size V wr) (fun _ i _ => 64 - (intOf i).toNat)
        case atStart => exact ⟨0, by omega, rfl, rfl, Below.refl _ _⟩
        case round =>
          obtain ⟨j, hj, rfl, rfl, hb2⟩ := hrel
          have d0 := cell_below12 hb2 d0 hd4
          have HI := Lib.hid (HIN.out.keep hb2)
          have hd4' := Nat.lt_of_lt_of_le hd4 hb2.size
          have hcl := cnt_le12 (s.B.take j) 0
          rw [List.length_take] at hcl
          by_cases hlt : j < 64
          · have hlt' : j < s.B.length := by rw [HN.out]; exact hlt
            have q1 : (j : Int) < 64 := by omega
            have w1i := IntWalk.i64_in ((j : Int) + 1) (by omega)
            obtain ⟨x, hx⟩ : ∃ x, s.B[j]? = some x := ⟨_, List.getElem?_eq_getElem hlt'⟩
            have hxa : at12 s.B j = x := by rw [at_get12 hlt']; exact Option.some.inj ((List.getElem?_eq_getElem hlt').symm.trans hx)
            have HCT := Lib.hid (cnt_take12 hx 0)
            obtain ⟨b, off, rfl, hbb, hr⟩ := HI.out.b.bkt hx
            have HWY := Lib.hid (hrt.out.way hlt')
            rw [hxa] at HWY
            obtain ⟨st, xl, xc⟩ := x
            have iX := Is.new wr 25 (bktA ⟨st, xl, xc⟩)
            have x0 : (wr.alloc (.cells (bktA ⟨st, xl, xc⟩) 25)).cell? ⟨wr.heap.size, 0, none⟩ = some (.int .i64 st) := iX.cell 0
            have x1 : (wr.alloc (.cells (bktA ⟨st, xl, xc⟩) 25)).cell? ⟨wr.heap.size, 1, none⟩ = some (.string xl) := iX.cell 1
            have hb3 := hb2.alloc hb2.size (.cells (bktA ⟨st, xl, xc⟩) 25)
            have d0' := cell_below12 ((Below.refl _ _).alloc (Nat.le_refl _) (.cells (bktA ⟨st, xl, xc⟩) 25)) d0 hd4'
            have HI3 := Lib.hid (HI.out.keep ((Below.refl _ _).alloc (Nat.le_refl _) (.cells (bktA ⟨st, xl, xc⟩) 25)))
            clear hx hxa iX HI hb2
            by_cases h0 : st = 0
            · subst h0
              have w2i := IntWalk.i64_in ((cnt12 (s.B.take j) 0 : Int) + 1) (by omega)
              clear hcl HWY
              go_wp2_with (refine wpList_load_mid rfl 25 _ rfl b (off + j * 3) rfl _ _ hr Try.underlying25 rfl infoBkt12 ?_)
              go_roundw
              case rel => exact ⟨j + 1, by omega, by go_num, by rw [HCT.out]; go_num, hb3⟩
              case measure => simp [intOf]; omega
            · have hct : cnt12 (s.B.take (j + 1)) 0 = cnt12 (s.B.take j) 0 := by rw [HCT.out]; show cnt12 (s.B.take j) 0 + (if st = 0 then 1 else 0) = _; rw [if_neg h0, Nat.add_zero]
              have HCU := Lib.hid hct
              clear hct hcl HCT
              by_cases h1 : st = 1
              · subst h1
                clear h0
                obtain ⟨d, hd, hdi, hdb⟩ := HWY.out rfl
                have HDB := Lib.hid hdb
                have hhv : homV12 xl (64 : Int) = (hom12 xl 64 : Int) := homV_nat12 xl (n := 64) (by omega)
                have HH : Hid (∀ W, Calls Try.prog 14 #[.string xl, .int .i64 64] W fun e W' => e = .returned (.int .i64 (hom12 xl 64 : Int)) ∧ W = W') := Lib.hid (fun W => by have := home_any12 xl (64 : Int) W (by omega); rwa [hhv] at this)
                have hhl := hom_lt12 xl (n := s.B.length) (by omega)
                rw [HN.out] at hd hdi HDB hhl
                clear hdb HWY hhv
                go_wp2_with (first | (refine wpList_load_mid rfl 25 _ rfl b (off + j * 3) rfl _ _ hr Try.underlying25 rfl infoBkt12 ?_) | (go_at_call 14; refine (HH.out _).mono ?_; rintro e wq ⟨rfl, rfl⟩))
                clear HH
                generalize hho : hom12 xl 64 = h at *
                clear hho x1 x0
                have hw0 : h = way12 h 64 0 := by rw [way12, Nat.add_zero, Nat.mod_eq_of_lt hhl]
                go_loopw [12] (fun a wr3 => ∃ q : Nat, q ≤ d ∧ a = .int .i64 (way12 h 64 q : Int) ∧ wr3 = wr.alloc (.cells (bktA ⟨1, xl, xc⟩) 25)) (fun a _ => d - wayq12 h 64 (intOf a).toNat)
                case atStart => exact ⟨0, by omega, by rw [← hw0], rfl⟩
                case round =>
                  obtain ⟨q, hq, rfl, rfl⟩ := hrel
                  clear hr hw0
                  have hwl := way_lt12 h q (n := 64) (by omega)
                  by_cases hqd : q = d
                  · subst hqd
                    rw [hdi]
                    go_wp2
                    go_roundw
                    case rel => exact ⟨j + 1, by omega, by go_num, by rw [HCU.out], hb3⟩
                    case measure => simp [intOf]; omega
                  · have hne : ¬ ((way12 h 64 q : Nat) : Int) = (j : Int) := by
                      intro e
                      exact hqd (way_inj12 hhl (by omega) (by omega) ((Int.ofNat.inj e).trans hdi.symm))
                    have hst := HDB.out q (by omega)
                    have hwn := way_next12 h 64 q
                    have HQ := Lib.hid (wayq_eq12 hhl (show q < 64 by omega))
                    have HQ2 := Lib.hid (fun (h2 : q + 1 < 64) => wayq_eq12 hhl h2)
                    obtain ⟨y, hy⟩ : ∃ y, s.B[way12 h 64 q]? = some y := ⟨_, List.getElem?_eq_getElem (by rw [HN.out]; exact hwl)⟩
                    have hya : at12 s.B (way12 h 64 q) = y := by rw [at_get12 (by rw [HN.out]; exact hwl)]; exact Option.some.inj ((List.getElem?_eq_getElem (by rw [HN.out]; exact hwl)).symm.trans hy)
                    rw [hya] at hst
                    obtain ⟨b2, off2, e2, _, hr2⟩ := HI3.out.b.bkt hy
                    cases e2
                    have y0 := hr2 0 _ rfl
                    clear hr2
                    rw [Nat.add_zero] at y0
                    have hst : ¬ y.st = 0 := hst
                    generalize y.st = ys at *
                    generalize hgw : way12 h 64 q = g at *
                    have r1 : (((g : Nat) : Int) + 1).tmod 64 = ((way12 h 64 (q + 1) : Nat) : Int) := by rw [IntWalk.rem_in _ _ (by omega), ← hwn]; omega
                    have q2 : ¬ ((g : Nat) : Int) < 0 := by omega
                    have q3 : ((g : Nat) : Int) < 64 := by omega
                    have w2i := IntWalk.i64_in (((g : Nat) : Int) + 1) (by omega)
                    have HE := Lib.hid hgw
                    have hbe : (ys == 0) = false := beq_false_of_ne hst
                    have hbn : (((g : Nat) : Int) != ((j : Nat) : Int)) = true := bne_iff_ne.2 hne
                    clear hgw hwn hy hya hwl
                    go_wp2
                    go_roundw
                    case rel => exact ⟨q + 1, by omega, rfl, trivial⟩
                    case measure =>
                      rw [show (intOf (Value.int .i64 ((way12 h 64 (q + 1) : Nat) : Int))).toNat = way12 h 64 (q + 1) from rfl, show (intOf (Value.int .i64 ((g : Nat) : Int))).toNat = g from rfl, HQ.out, HQ2.out (by omega)]
                      omega
              · clear HWY
                go_wp2_with (refine wpList_load_mid rfl 25 _ rfl b (off + j * 3) rfl _ _ hr Try.underlying25 rfl infoBkt12 ?_)
                go_roundw
                case rel => exact ⟨j + 1, by omega, by go_num, by rw [HCU.out], hb3⟩
                case measure => simp [intOf]; omega
          · have hj8 : j = 64 := by omega
            subst hj8
            have e1 : s.B.take 64 = s.B := by rw [← HN.out, List.take_length]
            rw [e1] at hcl ⊢
            rw [HN.out] at hcl
            have hqt := hrt.out.quarter
            rw [HN.out] at hqt
            have w2i := IntWalk.i64_in (4 * (cnt12 s.B 0 : Int)) (by omega)
            have q4 : (64 : Int) ≤ 4 * (cnt12 s.B 0 : Int) := by omega
            generalize cnt12 s.B 0 = C at *
            go_wp2
            go_ret
            exact ⟨rfl, hB.trans (hb2.mono hB.size)⟩
end Go.Proofs.Ytkajcnijkiindaa
