/-
  WireLengths: the walk of the statement's function.
-/
import Derived.Test.YtapfbcpbiagogaaWirW
import Derived.Test.YtapfbcpbiagogaaWirN
namespace Go.Proofs.Ytapfbcpbiagogaa
open Go.RowKit Go.Shelf

theorem load_short11 {D : Req11} (h : right11 D = true) : (reqB11 D).size = 12 + 20 * D.L.length + 44 * D.C.length ∧ D.L.length ≤ 200 ∧ D.C.length ≤ 200 := by
  obtain ⟨_, _, _, h1, h2⟩ := right_sizes11 h
  exact ⟨req_size11 h, h1, h2⟩
theorem enc_ok11 {D : Req11} (h : right11 D = true) : encR11 D = .tuple #[.string (reqB11 D), .int .i64 0] := by rw [encR11, encV11, if_pos h]
/-- are two requests the same? -/
def sameQ11 (P Q : Req11) : Bool := decide (P.k = Q.k) && (decide (P.L = Q.L) && decide (P.C = Q.C))
theorem same_iff11 {P Q : Req11} : sameQ11 P Q = true ↔ P = Q := by
  obtain ⟨k, L, C⟩ := P
  obtain ⟨k2, L2, C2⟩ := Q
  simp only [sameQ11, Bool.and_eq_true, decide_eq_true_eq, Req11.mk.injEq]
set_option maxRecDepth 100000 in
set_option maxHeartbeats 8000000 in
theorem wlen_walk (one two : Int) (A1 : Option Addr) (p1 : Nat) (R1 : List Int) (A2 : Option Addr) (p2 : Nat) (R2 : List Int) (w : World) (h1 : -9223372036854775808 ≤ one ∧ one ≤ 9223372036854775807) (h2 : -9223372036854775808 ≤ two ∧ two ≤ 9223372036854775807)
    (hm1 : R1.length ≤ maxLen) (hc1 : InV w A1 (iV11 R1)) (hb1 : Big11 R1) (hm2 : R2.length ≤ maxLen) (hc2 : InV w A2 (iV11 R2)) (hb2 : Big11 R2) :
    Calls Try.prog 7 #[.int .i64 one, .int .i64 two, .slice A1 R1.length p1, .slice A2 R2.length p2] w fun e w' => e = .returned (.bool true) ∧ Below w.heap.size w w' := by
  have AW := Lib.hid awake11_any
  have Q1 := Lib.hid (fun W h => qreq_any11 one A1 p1 R1 W h1 (by unfold maxLen at hm1; omega) hb1 h)
  have Q2 := Lib.hid (fun W h => qreq_any11 two A2 p2 R2 W h2 (by unfold maxLen at hm2; omega) hb2 h)
  have r1 := req_right11 one R1
  have r2 := req_right11 two R2
  generalize req11 one R1 = D1 at *
  generalize req11 two R2 = D2 at *
  have HC1 := Lib.hid hc1
  have HC2 := Lib.hid hc2
  clear hc1 hc2 hb1 hb2
  obtain ⟨s1, l1, m1⟩ := load_short11 r1
  obtain ⟨s2, l2, m2⟩ := load_short11 r2
  have HINJ := Lib.hid (fun (h : reqB11 D1 = reqB11 D2) => req_inj11 r1 r2 h)
  have E1 := Lib.hid (fun A c B d W h h' => wenc_any11 D1.k A B c d D1.L D1.C W (by omega) (by omega) h h')
  have E2 := Lib.hid (fun A c B d W h h' => wenc_any11 D2.k A B c d D2.L D2.C W (by omega) (by omega) h h')
  rw [show encR11 ⟨D1.k, D1.L, D1.C⟩ = _ from enc_ok11 r1] at E1
  rw [show encR11 ⟨D2.k, D2.L, D2.C⟩ = _ from enc_ok11 r2] at E2
  have SM := Lib.hid (fun A1 A2 B1 B2 c1 c2 d1 d2 W h1 h2 h3 h4 => same_any11 D1.k D2.k A1 A2 B1 B2 c1 c2 d1 d2 D1.L D1.C D2.L D2.C W (by omega) (by omega) (by omega) (by omega) h1 h2 h3 h4)
  rw [show (decide (D1.k = D2.k) && (decide (D1.L = D2.L) && decide (D1.C = D2.C))) = sameQ11 D1 D2 from rfl] at SM
  have hS : (sameQ11 D1 D2 = true ∧ reqB11 D1 = reqB11 D2) ∨ (sameQ11 D1 D2 = false ∧ reqB11 D1 ≠ reqB11 D2) := by
    cases hs : sameQ11 D1 D2 with
    | true => exact .inl ⟨rfl, by rw [same_iff11.1 hs]⟩
    | false => exact .inr ⟨rfl, fun e => by
        have := same_iff11.2 (HINJ.out e)
        rw [hs] at this
        cases this⟩
  clear HINJ r1 r2
  generalize sameQ11 D1 D2 = SB at *
  generalize reqB11 D1 = s at *
  generalize reqB11 D2 = t at *
  obtain ⟨k1, L1, C1⟩ := D1
  obtain ⟨k2, L2, C2⟩ := D2
  simp only at *
  have HS := Lib.hid hS
  have S1 := Lib.hid s1
  clear hS s1 s2
  go_enter Try.func7, Try.ntmps7
  go_wp2_with fail
  refine (AW.out _).mono ?_
  rintro e W1 ⟨rfl, hB1⟩
  go_wp2_with fail
  refine (Q1.out _ (HC1.out.keep hB1)).mono ?_
  rintro e W2 ⟨B1, d1, B2, d2, rfl, j1, j2, hb⟩
  have hB2 := hB1.trans (hb.mono hB1.size)
  clear hb hB1
  go_wp2_with fail
  have i1 := Is.new W2 26 #[.int .i64 k1, .slice B1 L1.length d1, .slice B2 C1.length d2]
  have hB2 := hB2.alloc hB2.size (.cells #[.int .i64 k1, .slice B1 L1.length d1, .slice B2 C1.length d2] 26)
  have j1 := j1.keep ((Below.refl W2.heap.size W2).alloc (Nat.le_refl _) (.cells #[.int .i64 k1, .slice B1 L1.length d1, .slice B2 C1.length d2] 26))
  have j2 := j2.keep ((Below.refl W2.heap.size W2).alloc (Nat.le_refl _) (.cells #[.int .i64 k1, .slice B1 L1.length d1, .slice B2 C1.length d2] 26))
  generalize W2.alloc (.cells #[.int .i64 k1, .slice B1 L1.length d1, .slice B2 C1.length d2] 26) = X2 at *
  generalize W2.heap.size = g1 at *
  refine (Q2.out _ (HC2.out.keep hB2)).mono ?_
  rintro e W3 ⟨B3, d3, B4, d4, rfl, j3, j4, hb⟩
  have i1 := i1.below hb i1.lt
  have j1 := j1.keep hb
  have j2 := j2.keep hb
  have hB3 := hB2.trans (hb.mono hB2.size)
  clear hb hB2
  have i1 := i1.alloc (.cells #[.int .i64 k2, .slice B3 L2.length d3, .slice B4 C2.length d4] 26)
  have hK := (Below.refl W3.heap.size W3).alloc (Nat.le_refl _) (.cells #[.int .i64 k2, .slice B3 L2.length d3, .slice B4 C2.length d4] 26)
  have i2 := Is.new W3 26 #[.int .i64 k2, .slice B3 L2.length d3, .slice B4 C2.length d4]
  have hB3 := hB3.alloc hB3.size (.cells #[.int .i64 k2, .slice B3 L2.length d3, .slice B4 C2.length d4] 26)
  have j1 := j1.keep hK
  have j2 := j2.keep hK
  have j3 := j3.keep hK
  have j4 := j4.keep hK
  clear hK
  go_wp2_with (refine wpList_load_row rfl 26 _ rfl g1 rfl _ _ _ _ i1 Try.underlying26 rfl infoReq11 ?_)
  generalize W3.alloc (.cells #[.int .i64 k2, .slice B3 L2.length d3, .slice B4 C2.length d4] 26) = X3 at *
  generalize W3.heap.size = g2 at *
  refine (E1.out _ _ _ _ _ j1 j2).mono ?_
  rintro e W4 ⟨rfl, hb⟩
  have i1 := i1.below hb i1.lt
  have i2 := i2.below hb i2.lt
  have j1 := j1.keep hb
  have j2 := j2.keep hb
  have j3 := j3.keep hb
  have j4 := j4.keep hb
  have hB4 := hB3.trans (hb.mono hB3.size)
  clear hb hB3
  go_wp2_with (refine wpList_load_row rfl 26 _ rfl g2 rfl _ _ _ _ i2 Try.underlying26 rfl infoReq11 ?_)
  refine (E2.out _ _ _ _ _ j3 j4).mono ?_
  rintro e W5 ⟨rfl, hb⟩
  have i1 := i1.below hb i1.lt
  have i2 := i2.below hb i2.lt
  have j1 := j1.keep hb
  have j2 := j2.keep hb
  have j3 := j3.keep hb
  have j4 := j4.keep hb
  have hB5 := hB4.trans (hb.mono hB4.size)
  clear hb hB4
  have c1 : W5.cell? ⟨g1, 1, none⟩ = some (.slice B1 L1.length d1) := i1.cell 1
  have c2 : W5.cell? ⟨g1, 2, none⟩ = some (.slice B2 C1.length d2) := i1.cell 2
  have w1 := IntWalk.i64_in (20 * (L1.length : Int)) (by omega)
  have w2 := IntWalk.i64_in (12 + 20 * (L1.length : Int)) (by omega)
  have w3 := IntWalk.i64_in (44 * (C1.length : Int)) (by omega)
  have w4 := IntWalk.i64_in (12 + 20 * (L1.length : Int) + 44 * (C1.length : Int)) (by omega)
  have hs9 : (s.size : Int) = 12 + 20 * (L1.length : Int) + 44 * (C1.length : Int) := by have := S1.out; omega
  clear AW Q1 Q2 E1 E2 HC1 HC2 S1
  rcases HS.out with ⟨rfl, rfl⟩ | ⟨rfl, hne⟩
  · go_wp2_with (first
      | (refine wpList_load_rowG11 (by kernel_rfl) 26 _ rfl g1 rfl 26 _ i1 Try.underlying26 rfl infoReq11 ?_)
      | (refine wpList_load_rowG11 (by kernel_rfl) 26 _ rfl g2 rfl 26 _ i2 Try.underlying26 rfl infoReq11 ?_))
    refine (SM.out _ _ _ _ _ _ _ _ _ j1 j2 j3 j4).mono ?_
    rintro e W6 ⟨rfl, hb⟩
    have hB6 := hB5.trans (hb.mono hB5.size)
    clear hb
    go_wp2
    go_ret
    exact ⟨rfl, hB6⟩
  · have n1 := ne7 hne
    have n2 := beq7 hne
    go_wp2_with (first
      | (refine wpList_load_rowG11 (by kernel_rfl) 26 _ rfl g1 rfl 26 _ i1 Try.underlying26 rfl infoReq11 ?_)
      | (refine wpList_load_rowG11 (by kernel_rfl) 26 _ rfl g2 rfl 26 _ i2 Try.underlying26 rfl infoReq11 ?_))
    refine (SM.out _ _ _ _ _ _ _ _ _ j1 j2 j3 j4).mono ?_
    rintro e W6 ⟨rfl, hb⟩
    have hB6 := hB5.trans (hb.mono hB5.size)
    clear hb
    go_wp2
    go_ret
    exact ⟨rfl, hB6⟩
end Go.Proofs.Ytapfbcpbiagogaa
