/-
  WireBack: the walk of the statement's function.
-/
import Derived.Test.YtapfbcpbiagogaaLWBR
import Derived.Test.YtapfbcpbiagogaaLawWKinds
import Derived.Test.YtapfbcpbiagogaaWirN
namespace Go.Proofs.Ytapfbcpbiagogaa
open Go.RowKit Go.Shelf

/-- of what was read without error these are the bytes. -/
theorem dec_again11 (y : ByteArray) : ((decV11 y).2 = 0 ∧ encR11 (decV11 y).1 = .tuple #[.string y, .int .i64 0]) ∨ ((decV11 y).2 ≠ 0 ∧ ∃ v e, encR11 (decV11 y).1 = .tuple #[.string v, .int .i64 e]) := by
  by_cases h : (decV11 y).2 = 0
  · obtain ⟨h1, h2⟩ := enc_dec11 h
    exact .inl ⟨h, by rw [enc_ok11 h1, h2]⟩
  · exact .inr ⟨h, _, _, rfl⟩
theorem read_again11 (y : ByteArray) : ((readV11 y).2 = 0 ∧ answR11 (readV11 y).1 = .tuple #[.string y, .int .i64 0]) ∨ ((readV11 y).2 ≠ 0 ∧ ∃ v e, answR11 (readV11 y).1 = .tuple #[.string v, .int .i64 e]) := by
  by_cases h : (readV11 y).2 = 0
  · obtain ⟨h1, h2⟩ := answ_read11 h
    exact .inl ⟨h, by rw [answ_ok11 h1, h2]⟩
  · exact .inr ⟨h, _, _, rfl⟩
theorem ite_few11 {P : Prop} [Decidable P] {r : Bool} {e : Int} {q : Req11} (h : q.L.length ≤ 1000 ∧ q.C.length ≤ 1000) : (if P then (zreq11, e) else if r = true then (q, 0) else (zreq11, 13)).1.L.length ≤ 1000 ∧ (if P then (zreq11, e) else if r = true then (q, 0) else (zreq11, 13)).1.C.length ≤ 1000 := by
  split
  · exact ⟨Nat.zero_le _, Nat.zero_le _⟩
  · split
    · exact h
    · exact ⟨Nat.zero_le _, Nat.zero_le _⟩
theorem ite_rfew11 {P : Prop} [Decidable P] {r : Bool} {e : Int} {q : Rsp11} (h : q.C.length ≤ 1000) : (if P then (zrsp11, e) else if r = true then (q, 0) else (zrsp11, 13)).1.C.length ≤ 1000 := by
  split
  · exact Nat.zero_le _
  · split
    · exact h
    · exact Nat.zero_le _
theorem dec_few11 (y : ByteArray) : (decV11 y).1.L.length ≤ 1000 ∧ (decV11 y).1.C.length ≤ 1000 := by
  rw [dec_prog11]
  exact ite_few11 ⟨nxL_len11 _ _ _, nxL_len11 _ _ _⟩
theorem read_few11 (y : ByteArray) : (readV11 y).1.C.length ≤ 1000 := by
  rw [read_prog11]
  exact ite_rfew11 (nxL_len11 _ _ _)
set_option maxRecDepth 100000 in
set_option maxHeartbeats 16000000 in
theorem wback_walk (kind : Int) (A1 : Option Addr) (p1 : Nat) (R1 : List Int) (n0 n1 n2 : Int) (any : ByteArray) (at_ : Int) (w : World) (hk : -9223372036854775808 ≤ kind ∧ kind ≤ 9223372036854775807)
    (hm1 : R1.length ≤ maxLen) (hc1 : InV w A1 (iV11 R1)) (hb1 : Big11 R1) (ha : -9223372036854775808 ≤ n0 ∧ n0 ≤ 9223372036854775807) (hb : -9223372036854775808 ≤ n1 ∧ n1 ≤ 9223372036854775807) (hcc : -9223372036854775808 ≤ n2 ∧ n2 ≤ 9223372036854775807) (_hany : any.size ≤ maxLen) (ho : -9223372036854775808 ≤ at_ ∧ at_ ≤ 9223372036854775807) :
    Calls Try.prog 4 #[.int .i64 kind, .slice A1 R1.length p1, .agg #[.int .i64 n0, .int .i64 n1, .int .i64 n2], .string any, .int .i64 at_] w fun e w' => e = .returned (.bool true) ∧ Below w.heap.size w w' := by
  have AW := Lib.hid awake11_any
  have Q1 := Lib.hid (fun W h => qreq_any11 kind A1 p1 R1 W hk (by unfold maxLen at hm1; omega) hb1 h)
  have Q2 := Lib.hid (fun W h => qrsp_any11 kind n0 n1 n2 A1 p1 R1 W hk ha hb hcc (by unfold maxLen at hm1; omega) hb1 h)
  have PK := Lib.hid (fun (n : Nat) W (h : 0 < n ∧ n ≤ 100000) => pick11_any at_ (n : Int) W ho.1 ho.2 (by omega) (by omega))
  have r1 := req_right11 kind R1
  have r2 := resp_may11 kind n0 n1 n2 R1
  generalize req11 kind R1 = D1 at *
  generalize resp11 kind n0 n1 n2 R1 = D2 at *
  have HC1 := Lib.hid hc1
  clear hc1 hb1
  obtain ⟨s1, l1, m1⟩ := load_short11 r1
  obtain ⟨v1, v2, v3, v4, l2, m2⟩ := may_sizes11 r2
  have s2 := rsp_size11 D2
  have E1 := Lib.hid (fun A c B d W h h' => wenc_any11 D1.k A B c d D1.L D1.C W (by omega) (by omega) h h')
  have E2 := Lib.hid (fun A c W h => wansw_any11 D2.k D2.st D2.many D2.room A c D2.C W (by omega) h)
  rw [show encR11 ⟨D1.k, D1.L, D1.C⟩ = _ from enc_ok11 r1] at E1
  rw [show answR11 ⟨D2.k, D2.st, D2.C, D2.many, D2.room⟩ = _ from answ_ok11 r2] at E2
  have N1 := Lib.hid (fun W => by have := wdec11 (reqB11 D1) W; rw [dec_enc11 r1] at this; exact this)
  have N2 := Lib.hid (fun W => by have := wread11 (rspB11 D2) W; rw [read_answ11 r2] at this; exact this)
  have hsz : 12 ≤ (reqB11 D1).size ∧ (reqB11 D1).size ≤ 100000 := by omega
  have htz : 12 ≤ (rspB11 D2).size ∧ (rspB11 D2).size ≤ 100000 := by omega
  have SM := Lib.hid (fun A1 A2 B1 B2 c1 c2 d1 d2 W h1 h2 h3 h4 => same_any11 D1.k D1.k A1 A2 B1 B2 c1 c2 d1 d2 D1.L D1.C D1.L D1.C W (by omega) (by omega) (by omega) (by omega) h1 h2 h3 h4)
  rw [show (decide (D1.k = D1.k) && (decide (D1.L = D1.L) && decide (D1.C = D1.C))) = true by simp] at SM
  have AL := Lib.hid (fun A B c d W h1 h2 => alike_any11 D2.k D2.st D2.many D2.room D2.k D2.st D2.many D2.room A B c d D2.C D2.C W (by omega) (by omega) h1 h2)
  rw [show (decide (D2.k = D2.k) && (decide (D2.st = D2.st) && (decide (D2.many = D2.many) && (decide (D2.room = D2.room) && decide (D2.C = D2.C))))) = true by simp] at AL
  generalize reqB11 D1 = s at *
  generalize rspB11 D2 = t at *
  have HS := Lib.hid hsz
  have HT := Lib.hid htz
  clear hsz htz s1 s2 m2 v1 v2 v3 v4 r1 r2
  have DN := Lib.hid (fun y W => wdec11 y W)
  have RN := Lib.hid (fun y W => wread11 y W)
  have DE := Lib.hid (fun y A B c d W h h' => wenc_any11 (decV11 y).1.k A B c d (decV11 y).1.L (decV11 y).1.C W (by have := (dec_few11 y).1; omega) (by have := (dec_few11 y).2; omega) h h')
  have RE := Lib.hid (fun y A c W h => wansw_any11 (readV11 y).1.k (readV11 y).1.st (readV11 y).1.many (readV11 y).1.room A c (readV11 y).1.C W (by have := read_few11 y; omega) h)
  obtain ⟨qk, L, C⟩ := D1
  obtain ⟨ak, ast, AC, am, ar⟩ := D2
  simp only at *
  go_enter Try.func4, Try.ntmps4
  go_wp2_with fail
  have iN0 := Is.new w 23 #[.int .i64 n0, .int .i64 n1, .int .i64 n2]
  have hB0 : Below w.heap.size w (w.alloc (.cells #[.int .i64 n0, .int .i64 n1, .int .i64 n2] 23)) := (Below.refl _ _).alloc (Nat.le_refl _) _
  generalize w.alloc (.cells #[.int .i64 n0, .int .i64 n1, .int .i64 n2] 23) = W0 at *
  refine (AW.out _).mono ?_
  rintro e W1 ⟨rfl, hb⟩
  have iN := iN0.below hb iN0.lt
  have hB1 := hB0.trans (hb.mono hB0.size)
  clear hb hB0 iN0
  go_wp2_with fail
  refine (Q1.out _ (HC1.out.keep hB1)).mono ?_
  rintro e W2 ⟨B1, d1, B2, d2, rfl, j1, j2, hb⟩
  have iN := (iN.below hb iN.lt).alloc (.cells #[.int .i64 qk, .slice B1 L.length d1, .slice B2 C.length d2] 26)
  have hB2 := hB1.trans (hb.mono hB1.size)
  clear hb hB1
  have iq := Is.new W2 26 #[.int .i64 qk, .slice B1 L.length d1, .slice B2 C.length d2]
  have hB2 := hB2.alloc hB2.size (.cells #[.int .i64 qk, .slice B1 L.length d1, .slice B2 C.length d2] 26)
  have hK := (Below.refl W2.heap.size W2).alloc (Nat.le_refl _) (.cells #[.int .i64 qk, .slice B1 L.length d1, .slice B2 C.length d2] 26)
  have j1 := j1.keep hK
  have j2 := j2.keep hK
  clear hK
  go_wp2_with (refine wpList_load_row rfl 23 _ rfl w.heap.size rfl _ _ _ _ iN Try.underlying23 rfl infoThr11 ?_)
  generalize W2.alloc (.cells #[.int .i64 qk, .slice B1 L.length d1, .slice B2 C.length d2] 26) = X2 at *
  generalize W2.heap.size = gq at *
  refine (Q2.out _ (HC1.out.keep hB2)).mono ?_
  rintro e W3 ⟨B3, d3, rfl, j3, hb⟩
  have iq := (iq.below hb iq.lt).alloc (.cells #[.int .i64 ak, .int .i64 ast, .slice B3 AC.length d3, .int .i64 am, .int .i64 ar] 28)
  have hK := (Below.refl W3.heap.size W3).alloc (Nat.le_refl _) (.cells #[.int .i64 ak, .int .i64 ast, .slice B3 AC.length d3, .int .i64 am, .int .i64 ar] 28)
  have j1 := (j1.keep hb).keep hK
  have j2 := (j2.keep hb).keep hK
  have j3 := j3.keep hK
  have hB3 := hB2.trans (hb.mono hB2.size)
  have hB3 := hB3.alloc hB3.size (.cells #[.int .i64 ak, .int .i64 ast, .slice B3 AC.length d3, .int .i64 am, .int .i64 ar] 28)
  have ia := Is.new W3 28 #[.int .i64 ak, .int .i64 ast, .slice B3 AC.length d3, .int .i64 am, .int .i64 ar]
  clear hb hB2 hK iN
  go_wp2_with (refine wpList_load_row rfl 26 _ rfl gq rfl _ _ _ _ iq Try.underlying26 rfl infoReq11 ?_)
  generalize W3.alloc (.cells #[.int .i64 ak, .int .i64 ast, .slice B3 AC.length d3, .int .i64 am, .int .i64 ar] 28) = X3 at *
  generalize W3.heap.size = ga at *
  refine (E1.out _ _ _ _ _ j1 j2).mono ?_
  rintro e W4 ⟨rfl, hb⟩
  have iq := iq.below hb iq.lt
  have ia := ia.below hb ia.lt
  have j1 := j1.keep hb
  have j2 := j2.keep hb
  have j3 := j3.keep hb
  have hB4 := hB3.trans (hb.mono hB3.size)
  clear hb hB3
  go_wp2_with (refine wpList_load_row rfl 28 _ rfl ga rfl _ _ _ _ ia Try.underlying28 rfl infoRsp11 ?_)
  refine (E2.out _ _ _ j3).mono ?_
  rintro e W5 ⟨rfl, hb⟩
  have iq := iq.below hb iq.lt
  have ia := ia.below hb ia.lt
  have j1 := j1.keep hb
  have j2 := j2.keep hb
  have j3 := j3.keep hb
  have hB5 := hB4.trans (hb.mono hB4.size)
  clear hb hB4
  clear AW Q1 Q2 E1 E2
  go_wp2_with fail
  refine (N1.out _).mono ?_
  rintro e W6 ⟨B4, d4, B5, d5, rfl, j4, j5, hb⟩
  have hK := (Below.refl W6.heap.size W6).alloc (Nat.le_refl _) (.cells #[.int .i64 qk, .slice B4 L.length d4, .slice B5 C.length d5] 26)
  have iq := (iq.below hb iq.lt).alloc (.cells #[.int .i64 qk, .slice B4 L.length d4, .slice B5 C.length d5] 26)
  have ia := (ia.below hb ia.lt).alloc (.cells #[.int .i64 qk, .slice B4 L.length d4, .slice B5 C.length d5] 26)
  have j1 := (j1.keep hb).keep hK
  have j2 := (j2.keep hb).keep hK
  have j3 := (j3.keep hb).keep hK
  have j4 := j4.keep hK
  have j5 := j5.keep hK
  have ib := Is.new W6 26 #[.int .i64 qk, .slice B4 L.length d4, .slice B5 C.length d5]
  have hB6 := hB5.trans (hb.mono hB5.size)
  have hB6 := hB6.alloc hB6.size (.cells #[.int .i64 qk, .slice B4 L.length d4, .slice B5 C.length d5] 26)
  clear hb hB5 hK
  go_wp2_with fail
  generalize W6.alloc (.cells #[.int .i64 qk, .slice B4 L.length d4, .slice B5 C.length d5] 26) = X6 at *
  generalize W6.heap.size = gb at *
  refine (N2.out _).mono ?_
  rintro e W7 ⟨B6, d6, rfl, j6, hb⟩
  have hK := (Below.refl W7.heap.size W7).alloc (Nat.le_refl _) (.cells #[.int .i64 ak, .int .i64 ast, .slice B6 AC.length d6, .int .i64 am, .int .i64 ar] 28)
  have iq := (iq.below hb iq.lt).alloc (.cells #[.int .i64 ak, .int .i64 ast, .slice B6 AC.length d6, .int .i64 am, .int .i64 ar] 28)
  have ia := (ia.below hb ia.lt).alloc (.cells #[.int .i64 ak, .int .i64 ast, .slice B6 AC.length d6, .int .i64 am, .int .i64 ar] 28)
  have ib := (ib.below hb ib.lt).alloc (.cells #[.int .i64 ak, .int .i64 ast, .slice B6 AC.length d6, .int .i64 am, .int .i64 ar] 28)
  have j1 := (j1.keep hb).keep hK
  have j2 := (j2.keep hb).keep hK
  have j3 := (j3.keep hb).keep hK
  have j4 := (j4.keep hb).keep hK
  have j5 := (j5.keep hb).keep hK
  have j6 := j6.keep hK
  have ic := Is.new W7 28 #[.int .i64 ak, .int .i64 ast, .slice B6 AC.length d6, .int .i64 am, .int .i64 ar]
  have hB7 := hB6.trans (hb.mono hB6.size)
  have hB7 := hB7.alloc hB7.size (.cells #[.int .i64 ak, .int .i64 ast, .slice B6 AC.length d6, .int .i64 am, .int .i64 ar] 28)
  clear hb hB6 hK
  go_wp2_with (first
    | (refine wpList_load_rowG11 (by kernel_rfl) 26 _ rfl gb rfl 26 _ ib Try.underlying26 rfl infoReq11 ?_)
    | (refine wpList_load_rowG11 (by kernel_rfl) 26 _ rfl gq rfl 26 _ iq Try.underlying26 rfl infoReq11 ?_))
  generalize W7.alloc (.cells #[.int .i64 ak, .int .i64 ast, .slice B6 AC.length d6, .int .i64 am, .int .i64 ar] 28) = X7 at *
  generalize W7.heap.size = gc at *
  refine (SM.out _ _ _ _ _ _ _ _ _ j4 j5 j1 j2).mono ?_
  rintro e W8 ⟨rfl, hb⟩
  have ia := ia.below hb ia.lt
  have ic := ic.below hb ic.lt
  have j3 := j3.keep hb
  have j6 := j6.keep hb
  have hB8 := hB7.trans (hb.mono hB7.size)
  clear hb hB7 j1 j2 j4 j5 iq ib SM
  go_wp2_with (first
    | (refine wpList_load_rowG11 (by kernel_rfl) 28 _ rfl gc rfl 28 _ ic Try.underlying28 rfl infoRsp11 ?_)
    | (refine wpList_load_rowG11 (by kernel_rfl) 28 _ rfl ga rfl 28 _ ia Try.underlying28 rfl infoRsp11 ?_))
  refine (AL.out _ _ _ _ _ j6 j3).mono ?_
  rintro e W9 ⟨rfl, hb⟩
  have hB9 := hB8.trans (hb.mono hB8.size)
  clear hb hB8 j3 j6 ia ic AL
  have iL9 := Is.new W9 9 #[.string s, .string t]
  have hB9 := hB9.alloc hB9.size (.cells #[.string s, .string t] 9)
  go_wp2
  have HLS : Hid (∀ (j : Nat) (x : ByteArray), ([s, t] : List ByteArray)[j]? = some x → 12 ≤ x.size ∧ x.size ≤ 100000) := Lib.hid (fun j x h => by
    match j, h with
    | 0, h => cases h; exact HS.out
    | 1, h => cases h; exact HT.out)
  clear HS HT N1 N2
  generalize any.extract 0 (min (any.size : Int) 500).toNat = m at *
  generalize W9.alloc (.cells #[.string s, .string t] 9) = X9 at *
  generalize W9.heap.size = gL at *
  have IL9 := Lib.hid iL9
  have HB9 := Lib.hid hB9
  clear iL9 hB9
  go_loopw [97] (fun i wr => ∃ j : Nat, j ≤ 2 ∧ i = .int .i64 (j : Int) ∧ Is wr gL 9 #[.string s, .string t] ∧ Below w.heap.size w wr) (fun i _ => 2 - (intOf i).toNat)
  case atStart => exact ⟨0, by omega, rfl, IL9.out, HB9.out⟩
  case round =>
    obtain ⟨j, hj, rfl, iL, hB⟩ := hrel
    by_cases hlt : j < 2
    · have q1 : (j : Int) < 2 := by omega
      obtain ⟨x, hx⟩ : ∃ x, ([s, t] : List ByteArray)[j]? = some x := ⟨_, List.getElem?_eq_getElem (show j < ([s, t] : List ByteArray).length from hlt)⟩
      have hxz := HLS.out j x hx
      have hcell : wr.cell? ⟨gL, j, none⟩ = some (.string x) := by
        rw [iL.cell]
        match j, hx with
        | 0, hx => cases hx; rfl
        | 1, hx => cases hx; rfl
      have PX := Lib.hid (fun W => PK.out x.size W ⟨by omega, hxz.2⟩)
      have hpx := pickN_bd at_ (x.size : Int) (by omega)
      clear hx
      generalize pickN at_ (x.size : Int) = k at *
      go_wp2_with fail
      refine (PX.out _).mono ?_
      rintro e0 w1 ⟨rfl, rfl⟩
      clear hcell PX
      have hml : 0 ≤ min (m.size : Int) 3 ∧ min (m.size : Int) 3 ≤ 3 ∧ min (m.size : Int) 3 ≤ (m.size : Int) := ⟨by omega, by omega, by omega⟩
      go_wp2
      generalize hl9 : min (m.size : Int) 3 = l at *
      have w1 := Lib.hid (IntWalk.i64_in (k + l) (by omega))
      have H1 := Lib.hid (run_high11 x k (by omega) (by omega))
      have H2 := Lib.hid (run_high11 m l (by omega) (by omega))
      have H3 := Lib.hid (run_low11 x (min (k + l) (x.size : Int)) (by omega) (by omega))
      have z1 : (x.extract 0 k.toNat).size ≤ x.size := by rw [ByteArray.size_extract]; omega
      have z2 : (m.extract 0 l.toNat).size ≤ 3 := by rw [ByteArray.size_extract]; omega
      have z3 : (x.extract (min (k + l) (x.size : Int)).toNat x.size).size ≤ x.size := by rw [ByteArray.size_extract]; omega
      have z4 : (x.extract 0 k.toNat ++ m.extract 0 l.toNat).size = (x.extract 0 k.toNat).size + (m.extract 0 l.toNat).size := ByteArray.size_append
      refine Code.wp_mono ?_ (back11_reg w wr gL #[.string s, .string t] x m (x.extract 0 k.toNat) (m.extract 0 l.toNat) (x.extract (min (k + l) (x.size : Int)).toNat x.size) k l H1 H2 H3 w1 (Lib.hid (by omega)) (Lib.hid (by omega)) (Lib.hid (by omega)) hB iL _ _ _ _ _ _ _ _ _ _ _ _ _ _ _ _ _ _ _ _ _ _ _ _ _ _ _ _ _ _ _ _ _ _ _ _ _ _ _ _ _ _ _ _ _ _ _ _ _ _ _ _ _ _ _ _ _ _ _ _ _ _ _ _ _ _ _ _ _ _ _ _ _ _ _ _ _ _ _ _ _ _ _ _ _ _ _ _ _ _ _ _ _ _ _ _ _ _ _ _ _ _ _ _ _ _ _ _ _ _ _ _ _ _ _ _ _ _ _ _ _ _ _ _ _ _ _ _ _ _ _ _ _ _ _ _ _ _ _ _ _ _ _ _ _ _ _ _ _ _ _ _ _ _ _ _ _ _ _ _ _ _ _ _ _ _ _ _ _ _ _ _)
      rintro ex ⟨T, Ds⟩ V0 ⟨rfl, hD, DD, hT, hB, iL, iD⟩
      simp only at hT hD
      subst hT
      subst hD
      clear z1 z2 z3 z4 H1 H2 H3 w1
      generalize x.extract 0 k.toNat ++ m.extract 0 l.toNat ++ x.extract (min (k + l) (x.size : Int)).toNat x.size = Y at *
      have ILb := Lib.hid iL
      have IDb := Lib.hid iD
      have HBb := Lib.hid hB
      clear iL iD hB hpx hml hl9 hxz
      go_wp2
      go_loopw [127] (fun i wr => ∃ n : Nat, n ≤ 2 ∧ i = .int .i64 (n : Int) ∧ Is wr gL 9 #[.string s, .string t] ∧ Is wr DD 9 #[.string m, .string Y] ∧ Below w.heap.size w wr) (fun i _ => 2 - (intOf i).toNat)
      case atStart => exact ⟨0, by omega, rfl, ILb.out, IDb.out, HBb.out⟩
      case round =>
        obtain ⟨n, hn, rfl, iL, iD, hB⟩ := hrel
        by_cases hnl : n < 2
        · have q2 : (n : Int) < 2 := by omega
          obtain ⟨y, hy⟩ : ∃ y, ([m, Y] : List ByteArray)[n]? = some y := ⟨_, List.getElem?_eq_getElem (show n < ([m, Y] : List ByteArray).length from hnl)⟩
          have hcell : wr.cell? ⟨DD, n, none⟩ = some (.string y) := by
            rw [iD.cell]
            match n, hy with
            | 0, hy => cases hy; rfl
            | 1, hy => cases hy; rfl
          have DN1 := Lib.hid (DN.out y)
          have RN1 := Lib.hid (RN.out y)
          have DE1 := DE.out y
          have RE1 := RE.out y
          rw [show (⟨(decV11 y).1.k, (decV11 y).1.L, (decV11 y).1.C⟩ : Req11) = (decV11 y).1 from rfl] at DE1
          rw [show (⟨(readV11 y).1.k, (readV11 y).1.st, (readV11 y).1.C, (readV11 y).1.many, (readV11 y).1.room⟩ : Rsp11) = (readV11 y).1 from rfl] at RE1
          obtain ⟨v1, e1, hv1, hc1⟩ : ∃ v1 e1, encR11 (decV11 y).1 = .tuple #[.string v1, .int .i64 e1] ∧ (((decV11 y).2 = 0 ∧ v1 = y ∧ e1 = 0) ∨ (decV11 y).2 ≠ 0) := by
            rcases dec_again11 y with ⟨h1, h2⟩ | ⟨h1, v, e, h2⟩
            · exact ⟨y, 0, h2, .inl ⟨h1, rfl, rfl⟩⟩
            · exact ⟨v, e, h2, .inr h1⟩
          obtain ⟨v2, e2, hv2, hc2⟩ : ∃ v2 e2, answR11 (readV11 y).1 = .tuple #[.string v2, .int .i64 e2] ∧ (((readV11 y).2 = 0 ∧ v2 = y ∧ e2 = 0) ∨ (readV11 y).2 ≠ 0) := by
            rcases read_again11 y with ⟨h1, h2⟩ | ⟨h1, v, e, h2⟩
            · exact ⟨y, 0, h2, .inl ⟨h1, rfl, rfl⟩⟩
            · exact ⟨v, e, h2, .inr h1⟩
          rw [hv1] at DE1
          rw [hv2] at RE1
          have DE2 := Lib.hid DE1
          have RE2 := Lib.hid RE1
          clear hy DE1 RE1 hv1 hv2
          generalize decV11 y = T1 at *
          generalize readV11 y = T2 at *
          have HC1b := Lib.hid hc1
          have HC2b := Lib.hid hc2
          clear hc1 hc2
          go_wp2_with fail
          clear hcell
          refine (DN1.out _).mono ?_
          rintro e0 U1 ⟨b1, c1, b2, c2, rfl, h1, h2, hb⟩
          have hK := (Below.refl U1.heap.size U1).alloc (Nat.le_refl _) (.cells #[.int .i64 T1.1.k, .slice b1 T1.1.L.length c1, .slice b2 T1.1.C.length c2] 26)
          have iD := (iD.below hb iD.lt).alloc (.cells #[.int .i64 T1.1.k, .slice b1 T1.1.L.length c1, .slice b2 T1.1.C.length c2] 26)
          have iL := (iL.below hb iL.lt).alloc (.cells #[.int .i64 T1.1.k, .slice b1 T1.1.L.length c1, .slice b2 T1.1.C.length c2] 26)
          have hB := hB.trans (hb.mono hB.size)
          have hB := hB.alloc hB.size (.cells #[.int .i64 T1.1.k, .slice b1 T1.1.L.length c1, .slice b2 T1.1.C.length c2] 26)
          have h1 := h1.keep hK
          have h2 := h2.keep hK
          have iU := Is.new U1 26 #[.int .i64 T1.1.k, .slice b1 T1.1.L.length c1, .slice b2 T1.1.C.length c2]
          clear hb hK
          go_wp2_with (refine wpList_load_row rfl 26 _ rfl U1.heap.size rfl _ _ _ _ iU Try.underlying26 rfl infoReq11 ?_)
          refine (DE2.out _ _ _ _ _ h1 h2).mono ?_
          rintro e0 U2 ⟨rfl, hb⟩
          have iD := iD.below hb iD.lt
          have iL := iL.below hb iL.lt
          have hB := hB.trans (hb.mono hB.size)
          clear hb iU h1 h2
          rcases HC1b.out with ⟨hd, rfl, rfl⟩ | hd
          · go_wp2_with fail
            refine (RN1.out _).mono ?_
            rintro e0 U3 ⟨b3, c3, rfl, h3, hb⟩
            have hK := (Below.refl U3.heap.size U3).alloc (Nat.le_refl _) (.cells #[.int .i64 T2.1.k, .int .i64 T2.1.st, .slice b3 T2.1.C.length c3, .int .i64 T2.1.many, .int .i64 T2.1.room] 28)
            have iD := (iD.below hb iD.lt).alloc (.cells #[.int .i64 T2.1.k, .int .i64 T2.1.st, .slice b3 T2.1.C.length c3, .int .i64 T2.1.many, .int .i64 T2.1.room] 28)
            have iL := (iL.below hb iL.lt).alloc (.cells #[.int .i64 T2.1.k, .int .i64 T2.1.st, .slice b3 T2.1.C.length c3, .int .i64 T2.1.many, .int .i64 T2.1.room] 28)
            have hB := hB.trans (hb.mono hB.size)
            have hB := hB.alloc hB.size (.cells #[.int .i64 T2.1.k, .int .i64 T2.1.st, .slice b3 T2.1.C.length c3, .int .i64 T2.1.many, .int .i64 T2.1.room] 28)
            have h3 := h3.keep hK
            have iV := Is.new U3 28 #[.int .i64 T2.1.k, .int .i64 T2.1.st, .slice b3 T2.1.C.length c3, .int .i64 T2.1.many, .int .i64 T2.1.room]
            clear hb hK
            go_wp2_with (refine wpList_load_row rfl 28 _ rfl U3.heap.size rfl _ _ _ _ iV Try.underlying28 rfl infoRsp11 ?_)
            refine (RE2.out _ _ _ h3).mono ?_
            rintro e0 U4 ⟨rfl, hb⟩
            have iD := iD.below hb iD.lt
            have iL := iL.below hb iL.lt
            have hB := hB.trans (hb.mono hB.size)
            clear hb iV h3
            rcases HC2b.out with ⟨hr, rfl, rfl⟩ | hr
            · go_wp2
              go_roundw
              case rel => exact ⟨n + 1, by omega, by go_num, iL, iD, hB⟩
              case measure => simp [intOf]; omega
            · go_wp2
              go_roundw
              case rel => exact ⟨n + 1, by omega, by go_num, iL, iD, hB⟩
              case measure => simp [intOf]; omega
          · go_wp2_with fail
            refine (RN1.out _).mono ?_
            rintro e0 U3 ⟨b3, c3, rfl, h3, hb⟩
            have hK := (Below.refl U3.heap.size U3).alloc (Nat.le_refl _) (.cells #[.int .i64 T2.1.k, .int .i64 T2.1.st, .slice b3 T2.1.C.length c3, .int .i64 T2.1.many, .int .i64 T2.1.room] 28)
            have iD := (iD.below hb iD.lt).alloc (.cells #[.int .i64 T2.1.k, .int .i64 T2.1.st, .slice b3 T2.1.C.length c3, .int .i64 T2.1.many, .int .i64 T2.1.room] 28)
            have iL := (iL.below hb iL.lt).alloc (.cells #[.int .i64 T2.1.k, .int .i64 T2.1.st, .slice b3 T2.1.C.length c3, .int .i64 T2.1.many, .int .i64 T2.1.room] 28)
            have hB := hB.trans (hb.mono hB.size)
            have hB := hB.alloc hB.size (.cells #[.int .i64 T2.1.k, .int .i64 T2.1.st, .slice b3 T2.1.C.length c3, .int .i64 T2.1.many, .int .i64 T2.1.room] 28)
            have h3 := h3.keep hK
            have iV := Is.new U3 28 #[.int .i64 T2.1.k, .int .i64 T2.1.st, .slice b3 T2.1.C.length c3, .int .i64 T2.1.many, .int .i64 T2.1.room]
            clear hb hK
            go_wp2_with (refine wpList_load_row rfl 28 _ rfl U3.heap.size rfl _ _ _ _ iV Try.underlying28 rfl infoRsp11 ?_)
            refine (RE2.out _ _ _ h3).mono ?_
            rintro e0 U4 ⟨rfl, hb⟩
            have iD := iD.below hb iD.lt
            have iL := iL.below hb iL.lt
            have hB := hB.trans (hb.mono hB.size)
            clear hb iV h3
            rcases HC2b.out with ⟨hr, rfl, rfl⟩ | hr
            · go_wp2
              go_roundw
              case rel => exact ⟨n + 1, by omega, by go_num, iL, iD, hB⟩
              case measure => simp [intOf]; omega
            · go_wp2
              go_roundw
              case rel => exact ⟨n + 1, by omega, by go_num, iL, iD, hB⟩
              case measure => simp [intOf]; omega
        · have q2 : ¬ (n : Int) < 2 := by omega
          go_wp2
          go_roundw
          case rel => exact ⟨j + 1, by omega, by go_num, iL, hB⟩
          case measure => simp [intOf]; omega
    · have q1 : ¬ (j : Int) < 2 := by omega
      go_wp2
      go_ret
      exact ⟨rfl, hB⟩
end Go.Proofs.Ytapfbcpbiagogaa
