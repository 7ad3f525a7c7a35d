/-
  CodecBack: the walk of the statement's function.
-/
import Derived.Test.YtploljgamimlpaaLawCOrders
namespace Go.Proofs.Ytploljgamimlpaa
open Go.RowKit Go.Shelf

theorem end_more10 {T3 y : ByteArray} (hz : (T3 ++ y).size ≤ 65536) (h : y.size ≠ 0) : endV10 (T3 ++ y) (T3.size : Int) = 13 := by
  have := ByteArray.size_append (a := T3) (b := y)
  rw [endV10, if_pos (rightV_iff.2 ⟨hz, by omega, by omega⟩), if_pos (by omega)]
theorem end_none10 {T : ByteArray} (hz : T.size ≤ 65536) : endV10 T (T.size : Int) = 0 := by
  rw [endV10, if_pos (rightV_iff.2 ⟨hz, by omega, by omega⟩), if_neg (by omega)]
theorem empty_of10 {y : ByteArray} (h : y.size = 0) : y = ⟨#[]⟩ := by
  apply ByteArray.ext
  exact Array.eq_empty_of_size_eq_zero h

set_option maxRecDepth 100000 in
set_option maxHeartbeats 8000000 in
theorem cback_walk (n : Int) (A : Option Addr) (cap : Nat) (l : List ByteArray) (ahead behind : ByteArray) (w : World) (hn : -9223372036854775808 ≤ n ∧ n ≤ 9223372036854775807) (hl : l.length ≤ maxLen) (hc : InV w A (tL10 l)) (_h2 : ahead.size ≤ maxLen) (_h3 : behind.size ≤ maxLen) :
    Calls Try.prog 4 #[.int .i64 n, .slice A l.length cap, .string ahead, .string behind] w fun e w' => e = .returned (.bool true) ∧ Below w.heap.size w w' := by
  have HC := Lib.hid hc
  have AW := Lib.hid awake10_any
  have PN := Lib.hid (fun W => pick10_any n 2147483648 W hn.1 hn.2 (by omega) (by omega))
  have bk := pickN_bd n 2147483648 (by omega)
  generalize pickN n 2147483648 = k at *
  have NK := Lib.hid (fun W => by have := num_any10 k W; rwa [numR_ok10 (by omega) (by omega)] at this)
  have FW := Lib.hid (fun W h => few_any10 A cap l W (by unfold maxLen at hl; omega) h)
  have FL := Lib.hid (fun A c n W h => few_list10 A c l n W h)
  have hfl := few_len10 l
  have hls := cat_few10 hfl (few_sz10 l)
  generalize fewL10 l = f at *
  have HX := Lib.hid (show ∀ wx : World, (Instr.slice 9 (.string ahead) none (some (.int .i64 (min (ahead.size : Int) 50))) none).run Try.prog wx = .ok (.string (cut10 50 ahead)) wx from fun wx => run_cut10 50 ahead wx)
  have HY := Lib.hid (show ∀ wx : World, (Instr.slice 9 (.string behind) none (some (.int .i64 (min (behind.size : Int) 50))) none).run Try.prog wx = .ok (.string (cut10 50 behind)) wx from fun wx => run_cut10 50 behind wx)
  have hx := cut_size10 50 ahead
  have hy := cut_size10 50 behind
  generalize cut10 50 ahead = x at *
  generalize cut10 50 behind = y at *
  have TY := Lib.hid (fun W => by have := txt_any10 y W; rwa [txtR_ok10 (by omega)] at this)
  change Hid (∀ W, Calls _ _ _ W fun e w' => e = .returned (.tuple #[.string (txt10 y), .int .i64 0]) ∧ _) at TY
  have sa := num_size10 k
  have sb := txt_size10 y
  have z1 := ByteArray.size_append (a := x) (b := num10 k)
  have z2 := ByteArray.size_append (a := x ++ num10 k) (b := txt10 y)
  have z3 := ByteArray.size_append (a := x ++ num10 k ++ txt10 y) (b := lst10 f)
  have z4 := ByteArray.size_append (a := x ++ num10 k ++ txt10 y ++ lst10 f) (b := y)
  have h1n := tn_app10 x (txt10 y ++ lst10 f ++ y) (n := k) (by omega) (by rw [← ByteArray.append_assoc, ← ByteArray.append_assoc]; omega)
  rw [← ByteArray.append_assoc, ← ByteArray.append_assoc, show (x.size : Int) + 4 = ((x ++ num10 k).size : Int) by omega] at h1n
  have h2t := tt_app10 (x ++ num10 k) y (lst10 f ++ y) (by rw [← ByteArray.append_assoc]; omega)
  rw [← ByteArray.append_assoc, show ((x ++ num10 k).size : Int) + 4 + (y.size : Int) = ((x ++ num10 k ++ txt10 y).size : Int) by omega] at h2t
  have h3l := tl_app10 (x ++ num10 k ++ txt10 y) f y (by omega) (by omega)
  rw [show ((x ++ num10 k ++ txt10 y).size : Int) + ((lst10 f).size : Int) = ((x ++ num10 k ++ txt10 y ++ lst10 f).size : Int) by omega] at h3l
  have CN := Lib.hid (fun W => cn_any10 (x ++ num10 k ++ txt10 y ++ lst10 f ++ y) (x.size : Int) W)
  have CT := Lib.hid (fun W => ct_any10 (x ++ num10 k ++ txt10 y ++ lst10 f ++ y) ((x ++ num10 k).size : Int) W)
  have CL := Lib.hid (fun W => cl_any10 (x ++ num10 k ++ txt10 y ++ lst10 f ++ y) ((x ++ num10 k ++ txt10 y).size : Int) W)
  have CE := Lib.hid (fun W => cend_any10 (x ++ num10 k ++ txt10 y ++ lst10 f ++ y) ((x ++ num10 k ++ txt10 y ++ lst10 f).size : Int) W)
  rw [tnR10, h1n] at CN
  rw [ttR10, h2t] at CT
  simp only [tlR10, h3l] at CL
  have hend : (y = ⟨#[]⟩ ∧ endV10 (x ++ num10 k ++ txt10 y ++ lst10 f ++ y) ((x ++ num10 k ++ txt10 y ++ lst10 f).size : Int) = 0) ∨ (y ≠ ⟨#[]⟩ ∧ endV10 (x ++ num10 k ++ txt10 y ++ lst10 f ++ y) ((x ++ num10 k ++ txt10 y ++ lst10 f).size : Int) = 13) := by
    by_cases hy0 : y.size = 0
    · refine .inl ⟨empty_of10 hy0, ?_⟩
      rw [show ((x ++ num10 k ++ txt10 y ++ lst10 f).size : Int) = ((x ++ num10 k ++ txt10 y ++ lst10 f ++ y).size : Int) by omega]
      exact end_none10 (by omega)
    · exact .inr ⟨fun e => hy0 (by rw [e]; rfl), end_more10 (by omega) hy0⟩
  have HE := Lib.hid hend
  have q1 : ¬ 9223372036854775807 < x.size + (num10 k).size := by omega
  have q2 : ¬ 9223372036854775807 < (x ++ num10 k).size + (txt10 y).size := by omega
  have q3 : ¬ 9223372036854775807 < (x ++ num10 k ++ txt10 y).size + (lst10 f).size := by omega
  have q4 : ¬ 9223372036854775807 < (x ++ num10 k ++ txt10 y ++ lst10 f).size + y.size := by omega
  have q2' : ¬ 9223372036854775807 < x.size + (num10 k).size + (txt10 y).size := by omega
  have q3' : ¬ 9223372036854775807 < x.size + (num10 k).size + (txt10 y).size + (lst10 f).size := by omega
  have q4' : ¬ 9223372036854775807 < x.size + (num10 k).size + (txt10 y).size + (lst10 f).size + y.size := by omega
  obtain ⟨p1, hp1⟩ : ∃ p : Int, p = ((x ++ num10 k).size : Int) := ⟨_, rfl⟩
  obtain ⟨p2, hp2⟩ : ∃ p : Int, p = ((x ++ num10 k ++ txt10 y).size : Int) := ⟨_, rfl⟩
  obtain ⟨p3, hp3⟩ : ∃ p : Int, p = ((x ++ num10 k ++ txt10 y ++ lst10 f).size : Int) := ⟨_, rfl⟩
  rw [← hp1] at CN CT
  rw [← hp2] at CT CL
  simp only [← hp3] at CL CE
  rw [← hp3] at HE
  have HP3 := Lib.hid (show p3 = (x.size : Int) + ((num10 k).size : Int) + ((txt10 y).size : Int) + ((lst10 f).size : Int) by omega)
  clear hp1 hp2 hp3
  have TS := Lib.hid (fun A A2 c c2 W h h2 => texts_same10 A A2 c c2 f W (by omega) h h2)
  clear hc hn hl hend h1n h2t h3l z1 z2 z3 z4 sb hx hy sa hls
  generalize num10 k = a at *
  generalize txt10 y = b at *
  generalize lst10 f = c at *
  go_enter Try.func4, Try.ntmps4
  go_wp2_with fail
  refine (AW.out _).mono ?_
  rintro e W1 ⟨rfl, hB1⟩
  go_wp2_with fail
  refine (PN.out _).mono ?_
  rintro e w' ⟨rfl, rfl⟩
  go_wp2_with fail
  refine (FW.out _ (HC.out.keep hB1)).mono ?_
  rintro e W2 ⟨A4, c4, rfl, hL2, hb⟩
  have hB2 := hB1.trans (hb.mono hB1.size)
  clear hb hB1
  have hsx := HX.out
  have hsy := HY.out
  go_wp2_with fail
  clear hsx hsy
  refine (NK.out _).mono ?_
  rintro e W3 ⟨rfl, hb⟩
  have hB3 := hB2.trans (hb.mono hB2.size)
  have hL3 := hL2.below hb
  clear hb hB2 hL2
  go_wp2_with fail
  refine (TY.out _).mono ?_
  rintro e W4 ⟨rfl, hb⟩
  have hB4 := hB3.trans (hb.mono hB3.size)
  have hL4 := hL3.below hb
  clear hb hB3 hL3
  go_wp2_with fail
  refine (FL.out _ _ _ _ hL4).mono ?_
  rintro e W5 ⟨rfl, hb⟩
  have hB5 := hB4.trans (hb.mono hB4.size)
  have HL5 := Lib.hid (hL4.below hb).at'
  have iD6 := Is.new W5 24 #[.string (x ++ a ++ b ++ c ++ y), .int .i64 (x.size : Int)]
  have hB6 := hB5.alloc hB5.size (.cells #[.string (x ++ a ++ b ++ c ++ y), .int .i64 (x.size : Int)] 24)
  have hE6 : Below W5.heap.size W5 (W5.alloc (.cells #[.string (x ++ a ++ b ++ c ++ y), .int .i64 (x.size : Int)] 24)) := (Below.refl _ _).alloc (Nat.le_refl _) _
  have HDW := Lib.hid hB5.size
  clear hb hB4 hL4 hB5
  go_wp2_with fail
  generalize W5.alloc (.cells #[.string (x ++ a ++ b ++ c ++ y), .int .i64 (x.size : Int)] 24) = W6 at *
  obtain ⟨D, hD⟩ : ∃ D, D = W5.heap.size := ⟨_, rfl⟩
  have HDE := Lib.hid hD
  rw [← hD] at iD6 hE6 HDW ⊢
  clear hD
  refine (CN.out _).mono ?_
  rintro e W7 ⟨rfl, hb⟩
  have hBw7 := hB6.trans (hb.mono hB6.size)
  have hG7 := hE6.trans (hb.mono (by rw [HDE.out]; exact hE6.size))
  have iD7 := iD6.below hb iD6.lt
  have d0 : W7.cell? ⟨D, 0, none⟩ = some (.string (x ++ a ++ b ++ c ++ y)) := iD7.cell 0
  have d1 : W7.cell? ⟨D, 1, none⟩ = some (.int .i64 (x.size : Int)) := iD7.cell 1
  have f0 := iD7.frozen 0
  have f1 := iD7.frozen 1
  have iD7' : Is ((W7.setCell ⟨D, 0, none⟩ (.string (x ++ a ++ b ++ c ++ y))).setCell ⟨D, 1, none⟩ (.int .i64 p1)) D 24 #[.string (x ++ a ++ b ++ c ++ y), .int .i64 p1] := (iD7.set 0 _).set 1 _
  have hB7 : Below w.heap.size w ((W7.setCell ⟨D, 0, none⟩ (.string (x ++ a ++ b ++ c ++ y))).setCell ⟨D, 1, none⟩ (.int .i64 p1)) := (hBw7.setCell (p := ⟨D, 0, none⟩) HDW.out _).setCell (p := ⟨D, 1, none⟩) HDW.out _
  have hE7 : Below D W5 ((W7.setCell ⟨D, 0, none⟩ (.string (x ++ a ++ b ++ c ++ y))).setCell ⟨D, 1, none⟩ (.int .i64 p1)) := (hG7.setCell (p := ⟨D, 0, none⟩) (Nat.le_refl _) _).setCell (p := ⟨D, 1, none⟩) (Nat.le_refl _) _
  clear hb hB6 hE6 iD6 hBw7 hG7 iD7
  have iD7 := iD7'
  clear iD7'
  go_wp2_with fail
  clear d0 d1 f0 f1
  generalize ((W7.setCell ⟨D, 0, none⟩ (.string (x ++ a ++ b ++ c ++ y))).setCell ⟨D, 1, none⟩ (.int .i64 p1)) = V7 at *
  refine (CT.out _).mono ?_
  rintro e W8 ⟨rfl, hb⟩
  have hBw8 := hB7.trans (hb.mono hB7.size)
  have hG8 := hE7.trans (hb.mono (by rw [HDE.out]; exact hE7.size))
  have iD8 := iD7.below hb iD7.lt
  have d0 : W8.cell? ⟨D, 0, none⟩ = some (.string (x ++ a ++ b ++ c ++ y)) := iD8.cell 0
  have d1 : W8.cell? ⟨D, 1, none⟩ = some (.int .i64 p1) := iD8.cell 1
  have f0 := iD8.frozen 0
  have f1 := iD8.frozen 1
  have iD8' : Is ((W8.setCell ⟨D, 0, none⟩ (.string (x ++ a ++ b ++ c ++ y))).setCell ⟨D, 1, none⟩ (.int .i64 p2)) D 24 #[.string (x ++ a ++ b ++ c ++ y), .int .i64 p2] := (iD8.set 0 _).set 1 _
  have hB8 : Below w.heap.size w ((W8.setCell ⟨D, 0, none⟩ (.string (x ++ a ++ b ++ c ++ y))).setCell ⟨D, 1, none⟩ (.int .i64 p2)) := (hBw8.setCell (p := ⟨D, 0, none⟩) HDW.out _).setCell (p := ⟨D, 1, none⟩) HDW.out _
  have hE8 : Below D W5 ((W8.setCell ⟨D, 0, none⟩ (.string (x ++ a ++ b ++ c ++ y))).setCell ⟨D, 1, none⟩ (.int .i64 p2)) := (hG8.setCell (p := ⟨D, 0, none⟩) (Nat.le_refl _) _).setCell (p := ⟨D, 1, none⟩) (Nat.le_refl _) _
  clear hb hB7 hE7 iD7 hBw8 hG8 iD8
  have iD8 := iD8'
  clear iD8'
  go_wp2_with fail
  clear d0 d1 f0 f1
  generalize ((W8.setCell ⟨D, 0, none⟩ (.string (x ++ a ++ b ++ c ++ y))).setCell ⟨D, 1, none⟩ (.int .i64 p2)) = V8 at *
  refine (CL.out _).mono ?_
  rintro e W9 ⟨A7, c7, rfl, hR, hb⟩
  have hBw9 := hB8.trans (hb.mono hB8.size)
  have hG9 := hE8.trans (hb.mono (by rw [HDE.out]; exact hE8.size))
  have iD9 := iD8.below hb iD8.lt
  have d0 : W9.cell? ⟨D, 0, none⟩ = some (.string (x ++ a ++ b ++ c ++ y)) := iD9.cell 0
  have d1 : W9.cell? ⟨D, 1, none⟩ = some (.int .i64 p2) := iD9.cell 1
  have f0 := iD9.frozen 0
  have f1 := iD9.frozen 1
  have hR9 : Lst10 (D + 1) ((W9.setCell ⟨D, 0, none⟩ (.string (x ++ a ++ b ++ c ++ y))).setCell ⟨D, 1, none⟩ (.int .i64 p3)) A7 f := ((hR.mono iD8.lt).far (p := ⟨D, 0, none⟩) (by simp) _).far (p := ⟨D, 1, none⟩) (by simp) _
  have HRL := Lib.hid hR9.at'
  clear hR hR9
  have iD9' : Is ((W9.setCell ⟨D, 0, none⟩ (.string (x ++ a ++ b ++ c ++ y))).setCell ⟨D, 1, none⟩ (.int .i64 p3)) D 24 #[.string (x ++ a ++ b ++ c ++ y), .int .i64 p3] := (iD9.set 0 _).set 1 _
  have hB9 : Below w.heap.size w ((W9.setCell ⟨D, 0, none⟩ (.string (x ++ a ++ b ++ c ++ y))).setCell ⟨D, 1, none⟩ (.int .i64 p3)) := (hBw9.setCell (p := ⟨D, 0, none⟩) HDW.out _).setCell (p := ⟨D, 1, none⟩) HDW.out _
  have hE9 : Below D W5 ((W9.setCell ⟨D, 0, none⟩ (.string (x ++ a ++ b ++ c ++ y))).setCell ⟨D, 1, none⟩ (.int .i64 p3)) := (hG9.setCell (p := ⟨D, 0, none⟩) (Nat.le_refl _) _).setCell (p := ⟨D, 1, none⟩) (Nat.le_refl _) _
  clear hb hB8 hE8 iD8 hBw9 hG9 iD9
  have iD9 := iD9'
  clear iD9'
  go_wp2_with fail
  clear d0 d1 f0 f1
  generalize ((W9.setCell ⟨D, 0, none⟩ (.string (x ++ a ++ b ++ c ++ y))).setCell ⟨D, 1, none⟩ (.int .i64 p3)) = V9 at *
  have hE9' : Below W5.heap.size W5 V9 := by have := hE9; rwa [HDE.out] at this
  refine (TS.out A7 A4 _ _ _ HRL.out (HL5.out.keep hE9')).mono ?_
  rintro e W10 ⟨rfl, hb⟩
  have hB10 := hB9.trans (hb.mono hB9.size)
  have iD10 := iD9.below hb iD9.lt
  have d0 : W10.cell? ⟨D, 0, none⟩ = some (.string (x ++ a ++ b ++ c ++ y)) := iD10.cell 0
  have d1 : W10.cell? ⟨D, 1, none⟩ = some (.int .i64 p3) := iD10.cell 1
  have hbq : (p3 == (x.size : Int) + (a.size : Int) + (b.size : Int) + (c.size : Int)) = true := by rw [← HP3.out]; exact beq_self_eq_true _
  clear hb hB9 hE9 hE9' iD9 iD10 HRL
  rcases HE.out with ⟨hy0, he0⟩ | ⟨hy1, he1⟩
  · rw [he0] at CE
    subst hy0
    clear HE he0
    go_wp2_with fail
    refine (CE.out _).mono ?_
    rintro e W11 ⟨rfl, hb⟩
    clear d0 d1
    go_wp2
    go_ret
    exact ⟨rfl, hB10.trans (hb.mono hB10.size)⟩
  · rw [he1] at CE
    have n3 : y.toList.isEmpty = false := by
      have n1 := ne7 hy1
      rw [show (⟨#[]⟩ : ByteArray).toList = [] by rw [ByteArray.toList_eq]] at n1
      cases h : y.toList with
      | nil => exact absurd h n1
      | cons _ _ => rfl
    clear HE he1
    go_wp2_with fail
    refine (CE.out _).mono ?_
    rintro e W11 ⟨rfl, hb⟩
    clear d0 d1
    go_wp2
    go_ret
    exact ⟨rfl, hB10.trans (hb.mono hB10.size)⟩
end Go.Proofs.Ytploljgamimlpaa
