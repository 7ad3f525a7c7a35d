/-
  ServerLimit: its walk.
-/
import Derived.Test.YtmggbbmpckcleaaSLmR
namespace Go.Proofs.Ytmggbbmpckcleaa
open Go.RowKit Go.Shelf

theorem InV.row13 {W : World} {A : Option Addr} {L : List Row13} (h : InV W A (grV13 L)) {k : Nat} {r : Row13} (hr : L[k]? = some r) : ∃ b off, A = some ⟨b, off, none⟩ ∧ b < W.heap.size ∧ W.cell? ⟨b, off + k, none⟩ = some (.slice r.1 r.2.1.length r.2.2) := h k _ (by rw [grV13, List.getElem?_map, hr]; rfl)
theorem new_rt13 {n : Int} (h0 : 0 ≤ n) (h1 : n ≤ 2000) : Rt13 ⟨⟨new12 8, 0, 0⟩, n⟩ := (new_kp13 h0 h1).rt
theorem newS_ok13 {n : Int} (h0 : 0 ≤ n) (h1 : n ≤ 2000) : newS13 n = (⟨⟨new12 8, 0, 0⟩, n⟩, 0) := by
  rw [newS13, show lim13 n = true by rw [lim13, decide_eq_true h0, decide_eq_true h1]; rfl]
  rfl
theorem req_long13 (R : List Int) : (req13 R).L.length ≤ 9223372036854775807 ∧ (req13 R).C.length ≤ 9223372036854775807 := by
  have := req_len13 (req_right13 R)
  omega
theorem stat_is13 {S : Sto12} {n : Int} (h : Rt13 ⟨S, n⟩) : do13 ⟨S, n⟩ ⟨4, [], []⟩ = (⟨S, n⟩, ⟨4, 0, [], S.many, n - S.many⟩) := do_stat13 (right_iff13.2 h) (by decide) rfl

set_option maxRecDepth 100000 in
set_option maxHeartbeats 8000000 in
theorem slimit_walk (x0 : Int) (A0 : Option Addr) (cp0 : Nat) (L : List Row13) (w : World) (hx : -9223372036854775808 ≤ x0 ∧ x0 ≤ 9223372036854775807) (hm : L.length ≤ maxLen) (hc : InV w A0 (grV13 L)) (hb : GrIn13 w L) :
    Calls Try.prog 4 #[.int .i64 x0, .slice A0 L.length cp0] w fun e w' => e = .returned (.bool true) ∧ Below w.heap.size w w' := by
  have HAW := Lib.hid (fun W => awake13_any W)
  have HPK := Lib.hid (fun W => pick13_any x0 40 W hx.1 hx.2 (by omega) (by omega))
  have hp := pickN_bd x0 40 (by omega)
  generalize pickN x0 40 = n at *
  have HN := Lib.hid (fun W => snew_any13 n W)
  rw [newS_ok13 hp.1 (by omega)] at HN
  have HRT := Lib.hid (new_rt13 hp.1 (by omega))
  have HC := Lib.hid hc
  have HB := Lib.hid hb
  have hmx : L.length ≤ 9223372036854775807 := Nat.le_trans hm (by decide)
  clear hc hb hx hm
  go_enter Try.func4, Try.ntmps4
  go_upto_region 3 with (first | (go_at_call 6; refine (HAW.out _).mono ?_; rintro e W1 ⟨rfl, hb1⟩) | (go_at_call 8; refine (HPK.out _).mono ?_; rintro e W2 ⟨rfl, rfl⟩))
  refine wp_region_list (lm13_3 W1 n HN _ _ _ _ _ _ _ _ _ _ _ _ _ _ _ _ _ _ _ _ _ _ _ _ _ _ _ _ _ _ _ _ _ _ _ _ _ _ _ _ _ _ _ _ _ _ _ _ _ _ _ _ _ _ _ _ _ _ _ _ _ _ _ _ _ _ _ _ _ _ _ _ _ _ _ _ _ _ _ _ _ _ _ _ _ (fun D7 A1 c1 W2 h2 => ?_))
  have hB2 := hb1.trans (h2.below.mono hb1.size)
  have hD7 : w.heap.size ≤ D7 := Nat.le_trans hb1.size h2.ge
  have i7 := h2.srv
  have hI := h2.inS
  clear hb1 h2 HN
  go_wp2_with fail
  go_loopw [9] (fun i wr => ∃ (k : Nat) (S : Sto12) (A : Option Addr) (c : Nat), k ≤ L.length ∧ k ≤ 12 ∧ i = .int .i64 (k : Int) ∧ Rt13 ⟨S, n⟩ ∧ InS wr S A c ∧ Is wr D7 28 (srvA ⟨S, n⟩ A c) ∧ Below w.heap.size w wr) (fun i _ => 13 - (intOf i).toNat)
  case atStart => exact ⟨0, ⟨new12 8, 0, 0⟩, A1, c1, by omega, by omega, rfl, HRT.out, hI, i7, hB2⟩
  case round =>
    clear hI i7 hB2
    obtain ⟨k, S, A, c, hk, hk2, rfl, hrt, hI, i7, hB⟩ := hrel
    by_cases hlt : k < L.length
    · have q1 : (k : Int) < (L.length : Int) := by omega
      by_cases hlt2 : k < 12
      · have q2 : (k : Int) < 12 := by omega
        have w1i := IntWalk.i64_in ((k : Int) + 1) (by omega)
        obtain ⟨r, hr⟩ : ∃ r, L[k]? = some r := ⟨_, List.getElem?_eq_getElem hlt⟩
        obtain ⟨g1, g2, g3, g4⟩ := HB.out r (List.mem_of_getElem? hr)
        obtain ⟨b, off, rfl, hbl, hcx⟩ := HC.out.row13 hr
        have hxc := (hB.cell (p := ⟨b, off + k, none⟩) hbl).trans hcx
        have HQ := Lib.hid (fun W (h : Below w.heap.size wr W) => qreq13_any r.1 r.2.2 r.2.1 W (Nat.le_trans g4 (by decide)) g3 g2 (g1.keep (hB.trans h)))
        have hql := req_long13 r.2.1
        have hrt2 := do_rt13 hrt (req13 r.2.1)
        have hlm := do_lim13 ⟨S, n⟩ (req13 r.2.1)
        clear hr g1 g2 g3 g4 hcx
        generalize req13 r.2.1 = q at *
        go_upto_region 7 with (fail)
        refine Code.wp_mono ?_ (lm13_7 wr w.heap.size D7 b off L.length cp0 k ⟨S, n⟩ A c q r.1 r.2.1.length r.2.2 HQ hql.1 hql.2 i7 hI hD7 hB.size hlt hbl hxc _ _ _ _ _ _ _ _ _ _ _ _ _ _ _ _ _ _ _ _ _ _ _ _ _ _ _ _ _ _ _ _ _ _ _ _ _ _ _ _ _ _ _ _ _ _ _ _ _ _ _ _ _ _ _ _ _ _ _ _ _ _ _ _ _ _ _ _ _ _ _ _ _ _ _ _ _ _ _ _ _ _)
        rintro ex ⟨T, Df⟩ W3 ⟨rfl, hDf, B1, d1, B2, d2, A2, c2, RX, rx, hT, hb3, _, hI3, j7⟩
        simp only at hT hDf
        subst hT
        subst hDf
        have hB3 := hB.trans hb3
        obtain ⟨Z, hZ⟩ : ∃ Z, Z = (do13 ⟨S, n⟩ q).1.S := ⟨_, rfl⟩
        have hZ2 : (do13 ⟨S, n⟩ q).1 = ⟨Z, n⟩ := by
          rw [hZ]
          generalize (do13 ⟨S, n⟩ q).1 = Y at *
          obtain ⟨Y1, Y2⟩ := Y
          simp only at hlm
          rw [hlm]
        rw [hZ2] at hrt2 j7
        rw [← hZ] at hI3
        clear hZ hZ2 hlm hI i7 hB hrt hb3 HQ hql hxc
        generalize do13 ⟨S, n⟩ q = DD at *
        go_upto_region 8 with (fail)
        refine wp_region_list (lm13_8 W3 D7 Z n A2 c2 j7 hI3 _ _ _ _ _ _ _ _ _ _ _ _ _ _ _ _ _ _ _ _ _ _ _ _ _ _ _ _ _ _ _ _ _ _ _ _ _ _ _ _ _ _ _ _ _ _ _ _ _ _ _ _ _ _ _ _ _ _ _ _ _ _ _ _ _ _ _ _ _ _ _ _ _ _ _ _ _ _ _ _ _ _ _ _ _ (fun DN DM A4 c4 RA rc W4 h4 => ?_))
        rw [stat_is13 hrt2] at h4
        have hb4 := h4.below
        have hB4 := hB3.trans (hb4.mono hB3.size)
        have i74 := j7.below hb4 j7.lt
        have hI4 := hI3.keep hb4
        have iN := h4.srv
        have iM := h4.rsp
        have hI5 := h4.inS
        clear h4 hb4 hB3 hI3 j7
        have hzl := hrt2.rt.bnd.len.2
        have hzm := hrt2.rt.bnd.many
        have hzn := hrt2.many
        go_upto_region 9 with (fail)
        refine wp_region_list (lm13_9 W4 D7 DN DM Z n A2 A4 RA c2 c4 rc hzl ⟨hzm.1, hzn⟩ (by omega) i74 iN iM hI4 hI5 _ _ _ _ _ _ _ _ _ _ _ _ _ _ _ _ _ _ _ _ _ _ _ _ _ _ _ _ _ _ _ _ _ _ _ _ _ _ _ _ _ _ _ _ _ _ _ _ _ _ _ _ _ _ _ _ _ _ _ _ _ _ _ _ _ _ _ _ _ _ _ _ _ _ _ _ _ _ _ _ _ _ (fun W5 hb5 => ?_))
        have hB5 := hB4.trans (hb5.mono hB4.size)
        have i75 := i74.below hb5 i74.lt
        have hI6 := hI4.keep hb5
        clear hB4 hb5 i74 hI4 iN iM hI5
        go_wp2
        go_roundw
        case rel => exact ⟨k + 1, Z, A2, c2, by omega, by omega, by go_num, hrt2, hI6, i75, hB5⟩
        case measure => simp [intOf]; omega
      · have q2 : ¬ (k : Int) < 12 := by omega
        have HBB := Lib.hid hB
        go_wp2
        go_ret
        exact ⟨rfl, HBB.out⟩
    · have q1 : ¬ (k : Int) < (L.length : Int) := by omega
      have HBB := Lib.hid hB
      go_wp2
      go_ret
      exact ⟨rfl, HBB.out⟩
end Go.Proofs.Ytmggbbmpckcleaa

