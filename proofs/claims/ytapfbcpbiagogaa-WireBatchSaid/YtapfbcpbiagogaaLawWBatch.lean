/-
  WireBatch: the walk of the statement's function.
-/
import Derived.Test.YtapfbcpbiagogaaLWTR
import Derived.Test.YtapfbcpbiagogaaLawWLengths
import Derived.Test.YtapfbcpbiagogaaWirN
namespace Go.Proofs.Ytapfbcpbiagogaa
open Go.RowKit Go.Shelf

/-- a row that holds something, as a block. -/
theorem RowV.block11 {W : World} {base c n : Nat} {e : TypeId} {A : Option Addr} {xs : List Value} (h : RowV W base e 1 A c n xs) (hn : 0 < n) : ∃ g cur, A = some ⟨g, 0, none⟩ ∧ base ≤ g ∧ Is W g e cur ∧ ∀ (j : Nat) (u : Value), xs[j]? = some u → cur[j]? = some u := by
  rcases h.2 with ⟨_, h0⟩ | ⟨g, cap, cur, h0, hb, hi, h1, h2, h3, h4⟩
  · omega
  · cases h0
    refine ⟨g, cur, rfl, hb, hi, fun j u hj => ?_⟩
    rw [← h4, List.getElem?_take] at hj
    split at hj
    · rw [← Array.getElem?_toList]; exact hj
    · cases hj
theorem encno11 {D : Req11} (h : right11 D = false) : encR11 D = .tuple #[.string ⟨#[]⟩, .int .i64 1] := by rw [encR11, encV11, h]; rfl
theorem mem_cat11 : ∀ {l : List ByteArray} {s : ByteArray}, s ∈ l → s.size ≤ (cat10 l).size
  | a :: r, s, h => by
    rw [cat_cons10, ByteArray.size_append, txt_size10]
    rcases List.mem_cons.1 h with rfl | h
    · omega
    · have := mem_cat11 h; omega
theorem lst_mem11 {l : List ByteArray} {s : ByteArray} (h : s ∈ l) : s.size ≤ (lst10 l).size := by rw [lst_size10]; have := mem_cat11 h; omega
theorem set11 {W w : World} {bL cL m cC nC : Nat} {AC : Option Addr} {L : List ByteArray} {xs : List Value} {x y : ByteArray} (hrL : RowV W w.heap.size 9 1 (some ⟨bL, 0, none⟩) cL L.length (tL10 L)) (hrC : RowV W w.heap.size 9 1 AC cC nC xs) (hne : ∀ p p', (some ⟨bL, 0, none⟩ : Option Addr) = some p → AC = some p' → p.block ≠ p'.block) (hB : Below w.heap.size w W) (hx : L[m + 1]? = some x) (hy : L[m]? = some y) :
    W.cell? ⟨bL, m + 1, none⟩ = some (.string x) ∧ W.cell? ⟨bL, m, none⟩ = some (.string y) ∧ W.frozen? ⟨bL, m, none⟩ = false ∧ (W.drew.setCell ⟨bL, m, none⟩ (.string x)).cell? ⟨bL, m + 1, none⟩ = some (.string x) ∧ InV (W.drew.setCell ⟨bL, m, none⟩ (.string x)) (some ⟨bL, 0, none⟩) (tL10 (L.set m x)) ∧ InV (W.drew.setCell ⟨bL, m, none⟩ (.string x)) AC xs ∧ Below w.heap.size w (W.drew.setCell ⟨bL, m, none⟩ (.string x)) := by
  have hlen : 0 < L.length := by
    cases L with
    | nil => cases hy
    | cons a l => exact Nat.succ_pos _
  obtain ⟨g, cur, e, hbb, hcur, hat⟩ := hrL.block11 hlen
  cases e
  have h1 := hat (m + 1) (.string x) (by rw [tL10, List.getElem?_map, hx]; rfl)
  have h0 := hat m (.string y) (by rw [tL10, List.getElem?_map, hy]; rfl)
  have hm : m < cur.size := (Array.getElem?_eq_some_iff.1 h0).1
  have hcD : Is W.drew bL 9 cur := hcur.drewN 1
  have hS := hcD.set m (.string x)
  refine ⟨(hcur.cell _).trans h1, (hcur.cell _).trans h0, hcur.frozen _, ?_, ?_, ?_, (belowN hB 1).setCell (p := ⟨bL, m, none⟩) hbb _⟩
  · rw [hS.cell, Array.getElem?_setIfInBounds_ne (by omega)]; exact h1
  · intro j u hj
    refine ⟨bL, 0, rfl, hS.lt, ?_⟩
    rw [Nat.zero_add, hS.cell]
    rw [tL10, List.getElem?_map] at hj
    by_cases hjm : j = m
    · subst hjm
      rw [List.getElem?_set_self (by have := (List.getElem?_eq_some_iff.1 hy).1; exact this)] at hj
      rw [Array.getElem?_setIfInBounds_self_of_lt hm]
      exact hj
    · rw [List.getElem?_set_ne (by omega)] at hj
      rw [Array.getElem?_setIfInBounds_ne (by omega)]
      exact hat j u (by rw [tL10, List.getElem?_map]; exact hj)
  · exact InV.apart10 (W := W.drew) hrC.inV (grownSetG _ _ _) (fun p hp e => hne _ p rfl hp (Option.some.inj e))
def BatRel (w : World) (gq : Nat) (q : Int) (nn : Nat) (i : Value) (wr : World) : Prop := ∃ (j m : Nat) (AL : Option Addr) (cL : Nat) (AC : Option Addr) (cC : Nat), j ≤ nn ∧ i = .int .i64 (j : Int) ∧ (q = 1 ∧ m = j ∨ q ≠ 1 ∧ m = 0) ∧ Is wr gq 26 #[.int .i64 q, .slice AL j cL, .slice AC m cC] ∧ RowV wr w.heap.size 9 1 AL cL j (tL10 (manyL11 j)) ∧ RowV wr w.heap.size 9 1 AC cC m (tL10 (manyC11 m)) ∧ (∀ p p', AL = some p → AC = some p' → p.block ≠ p'.block) ∧ Below w.heap.size w wr
theorem BatRel.mk {w : World} {gq : Nat} {q : Int} {nn : Nat} {i : Value} {wr : World} (j m : Nat) (AL : Option Addr) (cL : Nat) (AC : Option Addr) (cC : Nat) (h1 : j ≤ nn) (h2 : i = .int .i64 (j : Int)) (h3 : q = 1 ∧ m = j ∨ q ≠ 1 ∧ m = 0) (h4 : Is wr gq 26 #[.int .i64 q, .slice AL j cL, .slice AC m cC]) (h5 : RowV wr w.heap.size 9 1 AL cL j (tL10 (manyL11 j))) (h6 : RowV wr w.heap.size 9 1 AC cC m (tL10 (manyC11 m))) (h7 : ∀ p p', AL = some p → AC = some p' → p.block ≠ p'.block) (h8 : Below w.heap.size w wr) : BatRel w gq q nn i wr := ⟨j, m, AL, cL, AC, cC, h1, h2, h3, h4, h5, h6, h7, h8⟩
set_option maxRecDepth 100000 in
set_option maxHeartbeats 16000000 in
theorem wbatch_walk (less kind at_ : Int) (w : World) (h1 : -9223372036854775808 ≤ less ∧ less ≤ 9223372036854775807) (h2 : -9223372036854775808 ≤ kind ∧ kind ≤ 9223372036854775807) (h3 : -9223372036854775808 ≤ at_ ∧ at_ ≤ 9223372036854775807) :
    Calls Try.prog 5 #[.int .i64 less, .int .i64 kind, .int .i64 at_] w fun e w' => e = .returned (.bool true) ∧ Below w.heap.size w w' := by
  obtain ⟨t0, hi, hz0, hz1, hz2⟩ := infoThree10 infoTxt10
  have AW := Lib.hid awake11_any
  have PK1 := Lib.hid (fun W => pick11_any less 5 W h1.1 h1.2 (by omega) (by omega))
  have PK2 := Lib.hid (fun W => pick11_any kind 3 W h2.1 h2.2 (by omega) (by omega))
  have hp1 := pickN_bd less 5 (by omega)
  have hp2 := pickN_bd kind 3 (by omega)
  generalize pickN less 5 = p1 at *
  generalize pickN kind 3 = p2 at *
  have w1 := IntWalk.i64_in (198 + p1) (by omega)
  have w2 := IntWalk.i64_in (1 + p2) (by omega)
  obtain ⟨nn, hnn⟩ : ∃ nn : Nat, (nn : Int) = 198 + p1 := ⟨(198 + p1).toNat, by omega⟩
  obtain ⟨q, hq⟩ : ∃ q : Int, q = 1 + p2 := ⟨_, rfl⟩
  have hn0 : 198 ≤ nn ∧ nn ≤ 202 := by omega
  have hq0 : 1 ≤ q ∧ q ≤ 3 := by omega
  have PA := Lib.hid (fun W => pick11_any at_ ((nn : Int) - 1) W h3.1 h3.2 (by omega) (by omega))
  have hpa := pickN_bd at_ ((nn : Int) - 1) (by omega)
  obtain ⟨mm, hmm⟩ : ∃ mm : Nat, (mm : Int) = pickN at_ ((nn : Int) - 1) := ⟨(pickN at_ ((nn : Int) - 1)).toNat, by omega⟩
  have hmn : mm + 1 < nn := by omega
  rw [← hmm] at PA
  clear hmm hpa
  have HNN := Lib.hid hnn
  have HQ := Lib.hid hq
  go_enter Try.func5, Try.ntmps5
  go_wp2_with fail
  refine (AW.out _).mono ?_
  rintro e W1 ⟨rfl, hB1⟩
  go_wp2_with fail
  refine (PK1.out _).mono ?_
  rintro e w1' ⟨rfl, rfl⟩
  go_wp2_with fail
  refine (PK2.out _).mono ?_
  rintro e w1' ⟨rfl, rfl⟩
  have iq0 : Is (W1.alloc (.cells #[.int .i64 (1 + p2), .slice none 0 0, .slice none 0 0] 26)) W1.heap.size 26 #[.int .i64 (1 + p2), .slice none 0 0, .slice none 0 0] := Is.new _ _ _
  have hB2 := hB1.alloc hB1.size (.cells #[.int .i64 (1 + p2), .slice none 0 0, .slice none 0 0] 26)
  have hwq := hB1.size
  go_wp2
  rw [← HNN.out]
  rw [← HQ.out] at *
  generalize W1.alloc (.cells #[.int .i64 q, .slice none 0 0, .slice none 0 0] 26) = X1 at *
  generalize W1.heap.size = gq at *
  have IQ0 := Lib.hid iq0
  have HB2 := Lib.hid hB2
  clear iq0 hB2 hB1 w1 w2 hnn AW PK1 PK2 hq HQ hp2
  go_loopw [10] (fun i wr => BatRel w gq q nn i wr)
    (fun i _ => nn - (intOf i).toNat)
  case atStart => exact BatRel.mk 0 0 none 0 none 0 (by omega) rfl (by omega) IQ0.out (RowV.nil _ _ _ _) (RowV.nil _ _ _ _) (fun p p' e => by cases e) HB2.out
  case round =>
    obtain ⟨j, m, AL, cL, AC, cC, hj, rfl, hm, iq, hrL, hrC, hne, hB⟩ := hrel
    by_cases hlt : j < nn
    · have q1 : (j : Int) < (nn : Int) := by omega
      have QL := Lib.hid (fun W => qlabel_any11 (j : Int) W (by omega))
      have QC := Lib.hid (fun W => qcell_any11 (j : Int) W (by omega))
      have HSL := Lib.hid (manyL_step11 j)
      have HSC := Lib.hid (manyC_step11 j)
      have HM := Lib.hid hm
      go_wp2
      refine Code.wp_mono ?_ (batch11_lab w wr gq j m cL cC AL AC q (label11 (j : Int)) (tL10 (manyL11 j)) (tL10 (manyC11 m)) t0 hi hz0 hz1 hz2 hwq (by omega) QL hB iq hrL hrC hne _ _ _ _ _ _ _ _ _ _ _ _ _ _ _ _ _ _ _ _ _ _ _ _ _ _ _ _ _ _ _ _ _ _ _ _ _ _ _ _ _ _ _ _ _ _ _ _ _ _ _ _ _ _ _ _ _ _ _ _ _ _ _ _ _ _ _ _ _ _ _ _ _ _ _ _ _ _ _ _ _ _ _ _ _ _ _ _ _ _ _ _ _ _ _ _ _ _ _ _ _ _ _ _ _ _ _ _ _ _ _ _ _ _ _ _ _ _ _ _ _)
      rintro ex ⟨T, Ds⟩ W3 ⟨rfl, hD, DP1, A3, c3, hT, hB, iq, hrL, hrC, hne⟩
      simp only at hT hD
      subst hT
      subst hD
      have k0 : W3.cell? ⟨gq, 0, none⟩ = some (.int .i64 q) := iq.cell 0
      by_cases hq1 : q = 1
      · have hmj : m = j := by rcases HM.out with ⟨_, h⟩ | ⟨h, _⟩; exact h; exact absurd hq1 h
        subst hmj
        have hq2 : (q == 1) = true := by simpa using hq1
        have HQ1 := Lib.hid hq1
        clear hm hq1
        go_wp2
        refine Code.wp_mono ?_ (batch11_cel w W3 gq m (m + 1) cC c3 AC A3 q (cell11 (m : Int)) (tL10 (manyC11 m)) (tL10 (manyL11 m) ++ [.string (label11 (m : Int))]) t0 hi hz0 hz1 hz2 hwq (by omega) QC hB iq hrC hrL (fun p p' e e' h => hne p' p e' e h.symm) _ _ _ _ _ _ _ _ _ _ _ _ _ _ _ _ _ _ _ _ _ _ _ _ _ _ _ _ _ _ _ _ _ _ _ _ _ _ _ _ _ _ _ _ _ _ _ _ _ _ _ _ _ _ _ _ _ _ _ _ _ _ _ _ _ _ _ _ _ _ _ _ _ _ _ _ _ _ _ _ _ _ _ _ _ _ _ _ _ _ _ _ _ _ _ _ _ _ _ _ _ _ _ _ _ _ _ _ _ _ _ _ _ _ _ _ _ _ _ _ _)
        rintro ex ⟨T, Ds⟩ W4 ⟨rfl, hD, DP2, A4, c4, hT, hB, iq, hrC, hrL, hne2⟩
        simp only at hT hD
        subst hT
        subst hD
        clear k0
        go_wp2
        go_roundw
        case rel =>
          exact BatRel.mk (m + 1) (m + 1) A3 c3 A4 c4 (by omega) (by go_num) (.inl ⟨HQ1.out, rfl⟩) iq (by rw [HSL.out, tL10, List.map_append]; exact hrL) (by rw [HSC.out, tL10, List.map_append]; exact hrC) (fun p p' e e' h => hne2 p' p e' e h.symm) hB
        case measure => simp [intOf]; omega
      · have hm0 : m = 0 := by rcases HM.out with ⟨h, _⟩ | ⟨_, h⟩; exact absurd h hq1; exact h
        subst hm0
        have hq2 : (q == 1) = false := by simpa using hq1
        clear hm
        go_wp2
        go_roundw
        case rel =>
          exact BatRel.mk (j + 1) 0 A3 c3 AC cC (by omega) (by go_num) (.inr ⟨hq1, rfl⟩) iq (by rw [HSL.out, tL10, List.map_append]; exact hrL) hrC hne hB
        case measure => simp [intOf]; omega
    · have q1 : ¬ (j : Int) < (nn : Int) := by omega
      obtain rfl : j = nn := by omega
      obtain ⟨L, hL⟩ : ∃ L, L = manyL11 j := ⟨_, rfl⟩
      obtain ⟨C, hC⟩ : ∃ C, C = (if q = 1 then manyC11 j else []) := ⟨_, rfl⟩
      have hCl : C.length = m ∧ tL10 (manyC11 m) = tL10 C := by
        rcases hm with ⟨h, rfl⟩ | ⟨h, rfl⟩
        · rw [hC, if_pos h]; exact ⟨manyC_len11 _, rfl⟩
        · rw [hC, if_neg h]; exact ⟨rfl, rfl⟩
      obtain ⟨hCl, hCt⟩ := hCl
      have hLl : L.length = j := by rw [hL]; exact manyL_len11 j
      rw [hCt] at hrC
      rw [← hL] at hrL
      have hD : (⟨q, L, C⟩ : Req11) = manyQ11 q j := by rw [hL, hC]; rfl
      have hD2 : (⟨q, L.set mm (label11 ((mm + 1 : Nat) : Int)), C⟩ : Req11) = twiceQ11 q j mm := by rw [hL, hC]; rfl
      have hno := twice_no11 (k := q) hmn
      have hsz := twice_size11 q (n := j) (m := mm) (by omega)
      have hx : L[mm + 1]? = some (label11 ((mm + 1 : Nat) : Int)) := by rw [hL, manyL11, List.getElem?_map, List.getElem?_range (by omega)]; rfl
      have hy : L[mm]? = some (label11 (mm : Int)) := by rw [hL, manyL11, List.getElem?_map, List.getElem?_range (by omega)]; rfl
      have hdec := dec_bytes11 (twiceQ11 q j mm) ⟨by show 0 ≤ q; omega, by show q ≤ 2147483647; omega⟩ (by omega) (by omega) hsz.2.2.1
      rw [hno, if_neg (by decide)] at hdec
      have hmany : j ≤ 200 → right11 ⟨q, L, C⟩ = true := fun h => by rw [hD]; exact many_right11 hq0 h
      have hmany2 : 200 < j → right11 ⟨q, L, C⟩ = false := fun h => by rw [hD]; exact many_no11 h
      rw [← hD2] at hno hsz hdec
      generalize label11 ((mm + 1 : Nat) : Int) = lab at *
      generalize label11 (mm : Int) = lab0 at *
      clear hD hD2 hL hC hCt hm hj
      subst hLl
      subst hCl
      obtain ⟨bL, cur, rfl, hbb, hcur, _⟩ := hrL.block11 (by omega)
      have hDb : gq ≠ bL := is_neG iq hcur ne_rq11
      clear hcur
      obtain ⟨hz1, hz2, hz3, hz4, hz5⟩ := hsz
      simp only at hz1 hz2
      replace hz5 : C.length ≤ L.length := hz5
      have hss : (lst10 (L.set mm lab)).size = (lst10 (L.set mm lab)).size := rfl
      have hq4 := num_size10 q
      have EX := Lib.hid (fun W h h' => wenc_any11 q (some ⟨bL, 0, none⟩) AC cL cC (L.set mm lab) C W (by rw [List.length_set]; omega) (by omega) h h')
      rw [show encR11 ⟨q, L.set mm lab, C⟩ = _ from encno11 hno, List.length_set] at EX
      have NN := Lib.hid (dnumS_any11 q)
      rw [numV_ok11 (by omega) (by omega)] at NN
      have NL := Lib.hid (fun W h => dwhole_any11 (some ⟨bL, 0, none⟩) cL (L.set mm lab) W (fun s hs => by have := lst_mem11 hs; omega) h)
      rw [List.length_set, lstV_ok11 (by rw [List.length_set]; omega) (by omega)] at NL
      have NC := Lib.hid (fun W h => dwhole_any11 AC cC C W (fun s hs => by have := lst_mem11 hs; omega) h)
      rw [lstV_ok11 (by omega) (by omega)] at NC
      have ND : Hid (∀ W, Calls Try.prog 16 #[.string (num10 q ++ lst10 (L.set mm lab) ++ lst10 C)] W fun e w' => ∃ V, e = .returned (.tuple #[V, .int .i64 13]) ∧ Below W.heap.size W w') := Lib.hid fun W => (wdec11 (reqB11 ⟨q, L.set mm lab, C⟩) W).mono (fun e w' h => by
        rw [hdec] at h
        obtain ⟨b1, d1, b2, d2, rfl, _, _, hb⟩ := h
        exact ⟨_, rfl, hb⟩)
      have G1 := Lib.hid (show ¬ 9223372036854775807 < (num10 q).size + (lst10 (L.set mm lab)).size by omega)
      have G2 := Lib.hid (show ¬ 9223372036854775807 < (num10 q ++ lst10 (L.set mm lab)).size + (lst10 C).size by rw [ByteArray.size_append]; omega)
      have G3 := Lib.hid (show ¬ 9223372036854775807 < (num10 q).size + (lst10 (L.set mm lab)).size + (lst10 C).size by omega)
      generalize lst10 (L.set mm lab) = s2 at *
      generalize lst10 C = s3 at *
      clear hz1 hz2 hz3 hz4 hss hq4 hno hdec
      by_cases h2 : L.length ≤ 200
      · have hr := hmany h2
        have EN := Lib.hid (fun W h h' => wenc_any11 q (some ⟨bL, 0, none⟩) AC cL cC L C W (by omega) (by omega) h h')
        rw [show encR11 ⟨q, L, C⟩ = _ from enc_ok11 hr] at EN
        have DE := Lib.hid (fun W => wdec11 (reqB11 ⟨q, L, C⟩) W)
        rw [dec_enc11 hr] at DE
        have SM := Lib.hid (fun W A B c d h1 h2 h3 h4 => same_any11 q q A B (some ⟨bL, 0, none⟩) AC c d cL cC L C L C W (by omega) (by omega) (by omega) (by omega) h1 h2 h3 h4)
        rw [show (decide (q = q) && (decide (L = L) && decide (C = C))) = true by simp] at SM
        clear hr hmany hmany2
        generalize reqB11 ⟨q, L, C⟩ = s at *
        have t1 : (L.length : Int) ≤ 200 := by omega
        have t2 : ¬ (200 : Int) < (L.length : Int) := by omega
        go_wp2_with (refine wpList_load_row rfl 26 _ rfl gq rfl _ _ _ _ iq Try.underlying26 rfl infoReq11 ?_)
        refine (EN.out _ hrL.inV hrC.inV).mono ?_
        rintro e W5 ⟨rfl, hb⟩
        have iq := iq.below hb iq.lt
        have hrL := hrL.below hb
        have hrC := hrC.below hb
        have hB := hB.trans (hb.mono hB.size)
        clear hb
        go_wp2_with fail
        refine (DE.out _).mono ?_
        rintro e W6 ⟨b1, d1, b2, d2, rfl, j1, j2, hb⟩
        simp only at j1 j2
        have iq := iq.below hb iq.lt
        have hrL := hrL.below hb
        have hrC := hrC.below hb
        have hB := hB.trans (hb.mono hB.size)
        clear hb
        have ib := Is.new W6 26 #[.int .i64 q, .slice b1 L.length d1, .slice b2 C.length d2]
        have hK := (Below.refl W6.heap.size W6).alloc (Nat.le_refl _) (.cells #[.int .i64 q, .slice b1 L.length d1, .slice b2 C.length d2] 26)
        have hB := hB.alloc hB.size (.cells #[.int .i64 q, .slice b1 L.length d1, .slice b2 C.length d2] 26)
        have iq := iq.alloc (.cells #[.int .i64 q, .slice b1 L.length d1, .slice b2 C.length d2] 26)
        have hrL := hrL.below hK
        have hrC := hrC.below hK
        have j1 := j1.keep hK
        have j2 := j2.keep hK
        clear hK
        go_wp2_with (first
          | (refine wpList_load_rowG11 (by kernel_rfl) 26 _ rfl W6.heap.size rfl 26 _ ib Try.underlying26 rfl infoReq11 ?_)
          | (refine wpList_load_rowG11 (by kernel_rfl) 26 _ rfl gq rfl 26 _ iq Try.underlying26 rfl infoReq11 ?_))
        generalize W6.alloc (.cells #[.int .i64 q, .slice b1 L.length d1, .slice b2 C.length d2] 26) = X6 at *
        generalize W6.heap.size = gb at *
        refine (SM.out _ _ _ _ _ j1 j2 hrL.inV hrC.inV).mono ?_
        rintro e W7 ⟨rfl, hb⟩
        have iq := iq.below hb iq.lt
        have hrL := hrL.below hb
        have hrC := hrC.below hb
        have hB := hB.trans (hb.mono hB.size)
        clear hb
        clear j1 j2 ib EN DE SM
        have hw9 : IntKind.i64.wrap ((mm : Int) + 1) = ((mm + 1 : Nat) : Int) := by have := IntWalk.i64_in ((mm : Int) + 1) (by omega); omega
        go_wp2_with fail
        refine (PA.out _).mono ?_
        rintro e0 w1 ⟨rfl, rfl⟩
        obtain ⟨hx1, hx0, hf, hC2, HLs, HCs, HBs⟩ := set11 hrL hrC hne hB hx hy
        go_wp2
        refine Code.wp_mono ?_ (batch11_set W7 gq bL mm (mm + 1) L.length cL cC C.length AC q lab lab0 (by omega) (by omega) hDb (Lib.hid hw9) iq hx1 hx0 hf (Lib.hid hC2) _ _ _ _ _ _ _ _ _ _ _ _ _ _ _ _ _ _ _ _ _ _ _ _ _ _ _ _ _ _ _ _ _ _ _ _ _ _ _ _ _ _ _ _ _ _ _ _ _ _ _ _ _ _ _ _ _ _ _ _ _ _ _ _ _ _ _ _ _ _ _ _ _ _ _ _ _ _ _ _ _ _ _ _ _ _ _ _ _ _ _ _ _ _ _ _ _ _ _ _ _ _ _ _ _ _ _ _ _ _ _ _ _ _ _ _ _ _ _ _ _)
        rintro ex ⟨T, Ds⟩ V0 ⟨rfl, hD, _, hT, hV⟩
        simp only at hT hD
        subst hT
        subst hD
        subst hV
        have iq : Is (W7.drew.setCell ⟨bL, mm, none⟩ (.string lab)) gq 26 #[.int .i64 q, .slice (some ⟨bL, 0, none⟩) L.length cL, .slice AC C.length cC] := (iq.drewN 1).far (p := ⟨bL, mm, none⟩) hDb (.string lab)
        clear hx1 hx0 hf hC2 hB hrL hrC hw9
        generalize W7.drew.setCell ⟨bL, mm, none⟩ (.string lab) = V at *
        go_wp2_with (refine wpList_load_row rfl 26 _ rfl gq rfl _ _ _ _ iq Try.underlying26 rfl infoReq11 ?_)
        refine (EX.out V HLs HCs).mono ?_
        rintro e0 V1 ⟨rfl, hb⟩
        have iq := iq.below hb iq.lt
        have hLs := HLs.keep hb
        have hCs := HCs.keep hb
        have hBs := HBs.trans (hb.mono HBs.size)
        clear hb HLs HCs HBs
        have HL9 := Lib.hid hLs
        have HC9 := Lib.hid hCs
        clear hLs hCs
        go_wp2
        refine Code.wp_mono ?_ (batch11_dec V1 gq q (some ⟨bL, 0, none⟩) AC cL cC L.length C.length (num10 q) s2 s3 13 G1 G2 G3 NN (Lib.hid fun W h => NL.out W (HL9.out.keep h)) (Lib.hid fun W h => NC.out W (HC9.out.keep h)) ND iq _ _ _ _ _ _ _ _ _ _ _ _ _ _ _ _ _ _ _ _ _ _ _ _ _ _ _ _ _ _ _ _ _ _ _ _ _ _ _ _ _ _ _ _ _ _ _ _ _ _ _ _ _ _ _ _ _ _ _ _ _ _ _ _ _ _ _ _ _ _ _ _ _ _ _ _ _ _ _ _ _ _ _ _ _ _ _ _ _ _ _ _ _ _ _ _ _ _ _ _ _ _ _ _ _ _ _ _ _ _ _ _ _ _ _ _ _ _ _ _ _ _)
        rintro ex ⟨T, Ds⟩ V2 ⟨rfl, hD, VQ, hT, hb⟩
        simp only at hT hD
        subst hT
        subst hD
        have hBs := hBs.trans (hb.mono hBs.size)
        clear hb
        go_wp2
        go_ret
        exact ⟨rfl, hBs⟩
      · have hr := hmany2 (by omega)
        have EN := Lib.hid (fun W h h' => wenc_any11 q (some ⟨bL, 0, none⟩) AC cL cC L C W (by omega) (by omega) h h')
        rw [show encR11 ⟨q, L, C⟩ = _ from encno11 hr] at EN
        have DE := Lib.hid (fun W => wdec11 ⟨#[]⟩ W)
        generalize decV11 ⟨#[]⟩ = T9 at *
        clear hr hmany hmany2
        have t1 : ¬ (L.length : Int) ≤ 200 := by omega
        have t2 : (200 : Int) < (L.length : Int) := by omega
        go_wp2_with (refine wpList_load_row rfl 26 _ rfl gq rfl _ _ _ _ iq Try.underlying26 rfl infoReq11 ?_)
        refine (EN.out _ hrL.inV hrC.inV).mono ?_
        rintro e W5 ⟨rfl, hb⟩
        have iq := iq.below hb iq.lt
        have hrL := hrL.below hb
        have hrC := hrC.below hb
        have hB := hB.trans (hb.mono hB.size)
        clear hb
        go_wp2_with fail
        refine (DE.out _).mono ?_
        rintro e W6 ⟨b1, d1, b2, d2, rfl, j1, j2, hb⟩
        have iq := iq.below hb iq.lt
        have hrL := hrL.below hb
        have hrC := hrC.below hb
        have hB := hB.trans (hb.mono hB.size)
        clear hb
        clear j1 j2 EN DE
        have hK := (Below.refl W6.heap.size W6).alloc (Nat.le_refl _) (.cells #[.int .i64 T9.1.k, .slice b1 T9.1.L.length d1, .slice b2 T9.1.C.length d2] 26)
        have hB := hB.alloc hB.size (.cells #[.int .i64 T9.1.k, .slice b1 T9.1.L.length d1, .slice b2 T9.1.C.length d2] 26)
        have iq := iq.alloc (.cells #[.int .i64 T9.1.k, .slice b1 T9.1.L.length d1, .slice b2 T9.1.C.length d2] 26)
        have hrL := hrL.below hK
        have hrC := hrC.below hK
        clear hK
        have hw9 : IntKind.i64.wrap ((mm : Int) + 1) = ((mm + 1 : Nat) : Int) := by have := IntWalk.i64_in ((mm : Int) + 1) (by omega); omega
        go_wp2_with fail
        generalize W6.alloc (.cells #[.int .i64 T9.1.k, .slice b1 T9.1.L.length d1, .slice b2 T9.1.C.length d2] 26) = X6 at *
        generalize W6.heap.size = gb at *
        refine (PA.out _).mono ?_
        rintro e0 w1 ⟨rfl, rfl⟩
        obtain ⟨hx1, hx0, hf, hC2, HLs, HCs, HBs⟩ := set11 hrL hrC hne hB hx hy
        go_wp2
        refine Code.wp_mono ?_ (batch11_set X6 gq bL mm (mm + 1) L.length cL cC C.length AC q lab lab0 (by omega) (by omega) hDb (Lib.hid hw9) iq hx1 hx0 hf (Lib.hid hC2) _ _ _ _ _ _ _ _ _ _ _ _ _ _ _ _ _ _ _ _ _ _ _ _ _ _ _ _ _ _ _ _ _ _ _ _ _ _ _ _ _ _ _ _ _ _ _ _ _ _ _ _ _ _ _ _ _ _ _ _ _ _ _ _ _ _ _ _ _ _ _ _ _ _ _ _ _ _ _ _ _ _ _ _ _ _ _ _ _ _ _ _ _ _ _ _ _ _ _ _ _ _ _ _ _ _ _ _ _ _ _ _ _ _ _ _ _ _ _ _ _)
        rintro ex ⟨T, Ds⟩ V0 ⟨rfl, hD, _, hT, hV⟩
        simp only at hT hD
        subst hT
        subst hD
        subst hV
        have iq : Is (X6.drew.setCell ⟨bL, mm, none⟩ (.string lab)) gq 26 #[.int .i64 q, .slice (some ⟨bL, 0, none⟩) L.length cL, .slice AC C.length cC] := (iq.drewN 1).far (p := ⟨bL, mm, none⟩) hDb (.string lab)
        clear hx1 hx0 hf hC2 hB hrL hrC hw9
        generalize X6.drew.setCell ⟨bL, mm, none⟩ (.string lab) = V at *
        go_wp2_with (refine wpList_load_row rfl 26 _ rfl gq rfl _ _ _ _ iq Try.underlying26 rfl infoReq11 ?_)
        refine (EX.out V HLs HCs).mono ?_
        rintro e0 V1 ⟨rfl, hb⟩
        have iq := iq.below hb iq.lt
        have hLs := HLs.keep hb
        have hCs := HCs.keep hb
        have hBs := HBs.trans (hb.mono HBs.size)
        clear hb HLs HCs HBs
        have HL9 := Lib.hid hLs
        have HC9 := Lib.hid hCs
        clear hLs hCs
        go_wp2
        refine Code.wp_mono ?_ (batch11_dec V1 gq q (some ⟨bL, 0, none⟩) AC cL cC L.length C.length (num10 q) s2 s3 13 G1 G2 G3 NN (Lib.hid fun W h => NL.out W (HL9.out.keep h)) (Lib.hid fun W h => NC.out W (HC9.out.keep h)) ND iq _ _ _ _ _ _ _ _ _ _ _ _ _ _ _ _ _ _ _ _ _ _ _ _ _ _ _ _ _ _ _ _ _ _ _ _ _ _ _ _ _ _ _ _ _ _ _ _ _ _ _ _ _ _ _ _ _ _ _ _ _ _ _ _ _ _ _ _ _ _ _ _ _ _ _ _ _ _ _ _ _ _ _ _ _ _ _ _ _ _ _ _ _ _ _ _ _ _ _ _ _ _ _ _ _ _ _ _ _ _ _ _ _ _ _ _ _ _ _ _ _ _)
        rintro ex ⟨T, Ds⟩ V2 ⟨rfl, hD, VQ, hT, hb⟩
        simp only at hT hD
        subst hT
        subst hD
        have hBs := hBs.trans (hb.mono hBs.size)
        clear hb
        go_wp2
        go_ret
        exact ⟨rfl, hBs⟩
end Go.Proofs.Ytapfbcpbiagogaa
