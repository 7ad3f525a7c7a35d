/-
  CodecLong: the walk of the statement's function.
-/
import Derived.Test.YtploljgamimlpaaCLgS
import Derived.Test.YtploljgamimlpaaCLgR1
import Derived.Test.YtploljgamimlpaaCLgR2
namespace Go.Proofs.Ytploljgamimlpaa
open Go.RowKit Go.Shelf

set_option maxRecDepth 100000 in
set_option maxHeartbeats 8000000 in
theorem clong_walk (many bytes : Int) (w : World) (hm : -9223372036854775808 ≤ many ∧ many ≤ 9223372036854775807) (hy : -9223372036854775808 ≤ bytes ∧ bytes ≤ 9223372036854775807) :
    Calls Try.prog 6 #[.int .i64 many, .int .i64 bytes] w fun e w' => e = .returned (.bool true) ∧ Below w.heap.size w w' := by
  have AW := Lib.hid awake10_any
  have PK := Lib.hid (fun W => pick10_any many 5 W hm.1 hm.2 (by omega) (by omega))
  have PK2 := Lib.hid (fun W => pick10_any bytes 20 W hy.1 hy.2 (by omega) (by omega))
  have hp := pickN_bd many 5 (by omega)
  have hq := pickN_bd bytes 20 (by omega)
  generalize pickN many 5 = p at *
  generalize pickN bytes 20 = q at *
  obtain ⟨n, hn⟩ : ∃ n : Nat, 998 + p = (n : Int) := ⟨(998 + p).toNat, by omega⟩
  obtain ⟨k, hk⟩ : ∃ k : Nat, 65526 + q = (k : Int) := ⟨(65526 + q).toNat, by omega⟩
  have hn2 : 998 ≤ n ∧ n ≤ 1002 := by omega
  have hk2 : 65526 ≤ k ∧ k ≤ 65545 := by omega
  have HN2 := Lib.hid hn2
  have HK2 := Lib.hid hk2
  have HN := Lib.hid hn
  have HK := Lib.hid hk
  have MS := Lib.hid (fun W => run_makeS10 W n (by omega))
  have MK := Lib.hid (fun W => run_makeN10 W k (by omega))
  have CV := Lib.hid (fun W : World => run_convN10 (Is.new W 5 (nulC10 k)))
  have hz : (nulN10 k).size = k := nulN10_size k
  have hln : (emp10 n).length = n := by simp [emp10]
  have LL := fun W : World => list_any10 (some ⟨W.heap.size, 0, none⟩) n (emp10 n) (W.alloc (.cells (empC10 n) 9)) (fun s hs => by rw [(List.mem_replicate.1 hs).2]; show 0 ≤ _; omega) (emp_in10 W n)
  have CT := fun W => txt_any10 (nulN10 k) W
  have L2 := fun W : World => list_any10 (some ⟨W.heap.size, 0, none⟩) 1 [nulN10 k] (W.alloc (.cells #[.string (nulN10 k)] 9)) (fun s hs => by rw [List.mem_singleton.1 hs, hz]; omega) (one_in10 W _)
  have CN := fun W => cn_any10 (nulN10 k) 0 W
  have CL := fun W => (cl_any10 (num10 (n : Int) ++ nulN10 (4 * n)) 0 W).mono fun e w' ⟨A, c, he, _, hb⟩ => (⟨A, c, he, trivial, hb⟩ : ∃ A c, e = Ending.returned (tlR10 (num10 (n : Int) ++ nulN10 (4 * n)) 0 A c) ∧ True ∧ Below W.heap.size W w')
  simp only [lstR10, hln] at LL
  simp only [lstR10, List.length_singleton] at L2
  simp only [txtR10] at CT
  simp only [tnR10] at CN
  simp only [tlR10] at CL
  have f1 : (n ≤ 1000 ∧ (lstV10 (emp10 n)).2 = 0 ∧ (lstV10 (emp10 n)).1.size = 4 + 4 * n) ∨ (1000 < n ∧ (lstV10 (emp10 n)).2 = 2) := by
    have h := emp_size10 n
    by_cases c : n ≤ 1000
    · exact .inl ⟨c, by rw [lstV10, if_pos ⟨by omega, by omega⟩], by rw [lstV10, if_pos ⟨by omega, by omega⟩]; exact h⟩
    · exact .inr ⟨by omega, by rw [lstV10, if_neg (by omega)]⟩
  have f2 : (k ≤ 65536 ∧ (txtV10 (nulN10 k)).2 = 0 ∧ (txtV10 (nulN10 k)).1.size = k + 4) ∨ (65536 < k ∧ (txtV10 (nulN10 k)).2 = 2) := by
    by_cases c : k ≤ 65536
    · exact .inl ⟨c, by rw [txtV10, if_pos (by omega)], by rw [txtV10, if_pos (by omega)]; show (txt10 _).size = _; rw [txt_size10]; omega⟩
    · exact .inr ⟨by omega, by rw [txtV10, if_neg (by omega)]⟩
  have f3 : (k + 8 ≤ 65536 ∧ (lstV10 [nulN10 k]).2 = 0 ∧ (lstV10 [nulN10 k]).1.size = k + 8) ∨ (65536 < k + 8 ∧ (lstV10 [nulN10 k]).2 = 2) := by
    have h := one_size10 (nulN10 k)
    by_cases c : k + 8 ≤ 65536
    · have g : [nulN10 k].length ≤ 1000 ∧ (lst10 [nulN10 k]).size ≤ 65536 := ⟨by simp, by omega⟩
      exact .inl ⟨c, by rw [lstV10, if_pos g], by rw [lstV10, if_pos g]; show (lst10 _).size = _; omega⟩
    · exact .inr ⟨by omega, by rw [lstV10, if_neg (by omega)]⟩
  have f4 : (n ≤ 1000 ∧ (tlV10 (num10 (n : Int) ++ nulN10 (4 * n)) 0).2.2 = 0) ∨ (1000 < n ∧ (tlV10 (num10 (n : Int) ++ nulN10 (4 * n)) 0).2.2 = 13) := by
    by_cases c : n ≤ 1000
    · exact .inl ⟨c, emp_take10 c⟩
    · exact .inr ⟨by omega, by rw [emp_long10 (by omega) (by omega)]⟩
  have f5 : (k ≤ 65536 ∧ (tnV10 (nulN10 k) 0).2.2 = 0) ∨ (65536 < k ∧ (tnV10 (nulN10 k) 0).2.2 = 1) := by
    by_cases c : k ≤ 65536
    · exact .inl ⟨c, nul_take10 (by omega) c⟩
    · exact .inr ⟨by omega, by rw [nul_long10 (by omega)]⟩
  generalize lstV10 (emp10 n) = V1 at *
  generalize txtV10 (nulN10 k) = V2 at *
  generalize lstV10 [nulN10 k] = V3 at *
  generalize tlV10 (num10 (n : Int) ++ nulN10 (4 * n)) 0 = V4 at *
  generalize tnV10 (nulN10 k) 0 = V5 at *
  obtain ⟨S1, e1⟩ := V1
  obtain ⟨S2, e2⟩ := V2
  obtain ⟨S3, e3⟩ := V3
  obtain ⟨l4, lp, e4⟩ := V4
  obtain ⟨n5, np, e5⟩ := V5
  simp only at f1 f2 f3 f4 f5 LL CT L2 CN CL
  have hll := LL
  clear LL
  have LL := Lib.hid hll
  clear hll
  have hct := CT
  clear CT
  have CT := Lib.hid hct
  clear hct
  have hl2 := L2
  clear L2
  have L2 := Lib.hid hl2
  clear hl2
  have hcn := CN
  clear CN
  have CN := Lib.hid hcn
  clear hcn
  have hcl := CL
  clear CL
  have CL := Lib.hid hcl
  clear hcl
  have F1 := Lib.hid f1
  have F2 := Lib.hid f2
  have F3 := Lib.hid f3
  have F4 := Lib.hid f4
  have F5 := Lib.hid f5
  have HQ := Lib.hid (show ¬ 9223372036854775807 < (num10 (n : Int)).size + (nulN10 (4 * n)).size by rw [num_size10, nulN10_size]; omega)
  have HU1 := Lib.hid (IntWalk.u8_in ((n : Int) / 256) (by omega))
  have HU2 := Lib.hid (IntWalk.u8_in ((n : Int) % 256) (by omega))
  have W1I := Lib.hid (IntWalk.i64_in (n : Int) (by omega))
  have W2I := Lib.hid (IntWalk.i64_in (k : Int) (by omega))
  clear f1 f2 f3 f4 f5 hn hk hp hq hm hy hz hln hn2 hk2
  generalize nulN10 k = NB at *
  go_enter Try.func6, Try.ntmps6
  go_wp2_with fail
  refine (AW.out _).mono ?_
  rintro e W1 ⟨rfl, hB1⟩
  go_wp2_with fail
  refine (PK.out _).mono ?_
  rintro e w' ⟨rfl, rfl⟩
  have hn := HN.out
  have w1i := W1I.out
  go_wp2_with fail
  clear hn w1i
  refine (PK2.out _).mono ?_
  rintro e w' ⟨rfl, rfl⟩
  have hk := HK.out
  have w2i := W2I.out
  have ms := MS.out
  go_wp2_with fail
  clear hk w2i ms
  refine (LL.out _).mono ?_
  rintro e W2 ⟨rfl, hb⟩
  have hB1a := hB1.alloc hB1.size (.cells (empC10 n) 9)
  have hB2 := hB1a.trans (hb.mono hB1a.size)
  clear hb hB1 hB1a
  have mk := MK.out
  have cv := CV.out
  go_wp2_with fail
  refine (CT.out _).mono ?_
  rintro e W3 ⟨rfl, hb⟩
  have hB2a := hB2.alloc hB2.size (.cells (nulC10 k) 5)
  have hB3 := hB2a.trans (hb.mono hB2a.size)
  clear hb hB2 hB2a
  go_wp2_with fail
  clear mk cv
  have l2 := L2.out (W3.alloc (.cells (nulC10 k) 5))
  rw [show (W3.alloc (.cells (nulC10 k) 5)).heap.size = W3.heap.size + 1 by simp] at l2
  refine l2.mono ?_
  clear l2
  rintro e W4 ⟨rfl, hb⟩
  rename ∀ (a : Act) (w : World), Code.wp _ _ _ a w → _ => hK0
  have HK0 := Lib.hid hK0
  clear hK0
  have hB3a := hB3.alloc hB3.size (.cells (nulC10 k) 5)
  have hB3b := hB3a.alloc hB3a.size (.cells #[.string NB] 9)
  have hB4 := hB3b.trans (hb.mono hB3b.size)
  clear hb hB3 hB3a hB3b
  go_wp2_with fail
  refine HK0.out _ _ ?_
  clear HK0
  refine wp_seq (Code.wp_mono ?_ (long10_take _ (n : Int) (4 * n) l4.length lp e4 (by have := HN2.out; omega) (by have := HN2.out; omega) (Lib.hid (show 4 * (n : Int) = ((4 * n : Nat) : Int) by omega)) HU1 HU2 HQ CL _ _ _ _ _ _ _ _ _ _ _ _ _ _ _ _ _ _ _ _ _ _ _ _ _ _ _ _ _ _ _ _ _ _ _ _ _ _ _ _ _ _ _ _ _ _ _ _ _ _ _ _ _ _ _ _ _ _ _ _ _ _ _ _ _ _ _ _ _ _ _ _ _ _ _ _ _ _ _ _ _ _ _ _ _ _ _ _ _ _ _ _ _ _ _ _ _ _ _ _ _ _ _ _ _ _ _ _ _ _ _ _ _ _ _ _ _ _ _ _ _ _ _ _ _ _ _ _ _ _ _ _ _ _ _ _ _ _ _ _ _ _ _ _ _ _ _ _ _ _ _ _ _ _ _ _ _ _ _ _))
  rintro e YY W5 ⟨rfl, hd, DB, DN, A', c', DD, hT0, hb, hDD⟩
  obtain ⟨T0, Dd⟩ := YY
  subst hT0
  obtain rfl : Dd = [] := hd
  have hB5 := hB4.trans (hb.mono hB4.size)
  clear hb hDD hB4 CL HU1 HU2 HQ
  have mk := MK.out
  have cv := CV.out
  go_wp2_with fail
  clear mk cv
  refine (CN.out _).mono ?_
  rintro e W6 ⟨rfl, hb⟩
  rename ∀ (a : Act) (w : World), Code.wp _ _ _ a w → _ => hK1
  have HK1 := Lib.hid hK1
  clear hK1
  have hB5a := hB5.alloc hB5.size (.cells (nulC10 k) 5)
  have hB6 := hB5a.trans (hb.mono hB5a.size)
  have HB := Lib.hid (hB6.alloc hB6.size (.cells #[.string NB, .int .i64 np] 24))
  clear hb hB5 hB5a hB6
  go_wp2_with fail
  refine HK1.out _ _ ?_
  have hn2 := HN2.out
  have hk2 := HK2.out
  rcases F1.out with ⟨n1, rfl, s1⟩ | ⟨n1, rfl⟩ <;> rcases F2.out with ⟨k2, rfl, s2⟩ | ⟨k2, rfl⟩ <;> rcases F3.out with ⟨k3, rfl, s3⟩ | ⟨k3, rfl⟩
  · obtain rfl : e4 = 0 := by rcases F4.out with ⟨_, h⟩ | ⟨_, h⟩ <;> first | exact h | omega
    obtain rfl : e5 = 0 := by rcases F5.out with ⟨_, h⟩ | ⟨_, h⟩ <;> first | exact h | omega
    refine wp_seq (wp_seq (wp_region_list (long10_nine _ (n : Int) (k : Int) 0 0 0 0 0 true true true ⟨by omega, by omega⟩ (decide_eq_true (by omega)) (decide_eq_true (by omega)) (decide_eq_true (by omega)) (by decide) (by decide) (by decide) (by decide) (by decide) _ _ _ _ _ _ _ _ _ _ _ _ _ _ _ _ _ _ _ _ _ _ _ _ _ _ _ _ _ _ _ _ _ _ _ _ _ _ _ _ _ _ _ _ _ _ _ _ _ _ _ _ _ _ _ _ _ _ _ _ _ _ _ _ _ _ _ _ _ _ _ _ _ _ _ _ _ _ _ _ _ _ _ _ _ _ _ _ _ _ _ _ _ _ _ _ _ _ _ _ _ _ _ _ _ _ _ _ _ _ _ _ _ _ _ _ _ _ _ _ _ _ _ _ _ _ _ _ _ _ _ _ _ _ _ _ _ _ _ _ _ _ _ _ _ _ _ _ _ _ _ _ _ _ _ ?_)))
    refine wp_cond_false (by kernel_rfl) (wp_skip ?_)
    refine wp_seq (wp_region_list (long10_end0 _ (n : Int) (k : Int) S1 S2 S3 ⟨by omega, by omega⟩ ⟨by omega, by omega⟩ (by omega) (by omega) (by omega) _ _ _ _ _ _ _ _ _ _ _ _ _ _ _ _ _ _ _ _ _ _ _ _ _ _ _ _ _ _ _ _ _ _ _ _ _ _ _ _ _ _ _ _ _ _ _ _ _ _ _ _ _ _ _ _ _ _ _ _ _ _ _ _ _ _ _ _ _ _ _ _ _ _ _ _ _ _ _ _ _ _ _ _ _ _ _ _ _ _ _ _ _ _ _ _ _ _ _ _ _ _ _ _ _ _ _ _ _ _ _ _ _ _ _ _ _ _ _ _ _ _ _ _ _ _ _ _ _ _ _ _ _ _ _ _ _ _ _ _ _ _ _ _ _ _ _ _ _ _ _ ?_))
    go_wp2
    go_ret
    exact ⟨rfl, HB.out⟩
  · obtain rfl : e4 = 0 := by rcases F4.out with ⟨_, h⟩ | ⟨_, h⟩ <;> first | exact h | omega
    obtain rfl : e5 = 0 := by rcases F5.out with ⟨_, h⟩ | ⟨_, h⟩ <;> first | exact h | omega
    refine wp_seq (wp_seq (wp_region_list (long10_nine _ (n : Int) (k : Int) 0 0 2 0 0 true true false ⟨by omega, by omega⟩ (decide_eq_true (by omega)) (decide_eq_true (by omega)) (decide_eq_false (by omega)) (by decide) (by decide) (by decide) (by decide) (by decide) _ _ _ _ _ _ _ _ _ _ _ _ _ _ _ _ _ _ _ _ _ _ _ _ _ _ _ _ _ _ _ _ _ _ _ _ _ _ _ _ _ _ _ _ _ _ _ _ _ _ _ _ _ _ _ _ _ _ _ _ _ _ _ _ _ _ _ _ _ _ _ _ _ _ _ _ _ _ _ _ _ _ _ _ _ _ _ _ _ _ _ _ _ _ _ _ _ _ _ _ _ _ _ _ _ _ _ _ _ _ _ _ _ _ _ _ _ _ _ _ _ _ _ _ _ _ _ _ _ _ _ _ _ _ _ _ _ _ _ _ _ _ _ _ _ _ _ _ _ _ _ _ _ _ _ ?_)))
    refine wp_cond_false (by kernel_rfl) (wp_skip ?_)
    refine wp_seq (wp_region_list (long10_end1 _ (n : Int) (k : Int) S1 S2 S3 ⟨by omega, by omega⟩ ⟨by omega, by omega⟩ (by omega) (by omega) _ _ _ _ _ _ _ _ _ _ _ _ _ _ _ _ _ _ _ _ _ _ _ _ _ _ _ _ _ _ _ _ _ _ _ _ _ _ _ _ _ _ _ _ _ _ _ _ _ _ _ _ _ _ _ _ _ _ _ _ _ _ _ _ _ _ _ _ _ _ _ _ _ _ _ _ _ _ _ _ _ _ _ _ _ _ _ _ _ _ _ _ _ _ _ _ _ _ _ _ _ _ _ _ _ _ _ _ _ _ _ _ _ _ _ _ _ _ _ _ _ _ _ _ _ _ _ _ _ _ _ _ _ _ _ _ _ _ _ _ _ _ _ _ _ _ _ _ _ _ _ ?_))
    go_wp2
    go_ret
    exact ⟨rfl, HB.out⟩
  · exact absurd k3 (by omega)
  · obtain rfl : e4 = 0 := by rcases F4.out with ⟨_, h⟩ | ⟨_, h⟩ <;> first | exact h | omega
    obtain rfl : e5 = 1 := by rcases F5.out with ⟨_, h⟩ | ⟨_, h⟩ <;> first | exact h | omega
    refine wp_seq (wp_seq (wp_region_list (long10_nine _ (n : Int) (k : Int) 0 2 2 0 1 true false false ⟨by omega, by omega⟩ (decide_eq_true (by omega)) (decide_eq_false (by omega)) (decide_eq_false (by omega)) (by decide) (by decide) (by decide) (by decide) (by decide) _ _ _ _ _ _ _ _ _ _ _ _ _ _ _ _ _ _ _ _ _ _ _ _ _ _ _ _ _ _ _ _ _ _ _ _ _ _ _ _ _ _ _ _ _ _ _ _ _ _ _ _ _ _ _ _ _ _ _ _ _ _ _ _ _ _ _ _ _ _ _ _ _ _ _ _ _ _ _ _ _ _ _ _ _ _ _ _ _ _ _ _ _ _ _ _ _ _ _ _ _ _ _ _ _ _ _ _ _ _ _ _ _ _ _ _ _ _ _ _ _ _ _ _ _ _ _ _ _ _ _ _ _ _ _ _ _ _ _ _ _ _ _ _ _ _ _ _ _ _ _ _ _ _ _ ?_)))
    refine wp_cond_false (by kernel_rfl) (wp_skip ?_)
    refine wp_seq (wp_region_list (long10_end2 _ (n : Int) (k : Int) S1 S2 S3 ⟨by omega, by omega⟩ ⟨by omega, by omega⟩ (by omega) _ _ _ _ _ _ _ _ _ _ _ _ _ _ _ _ _ _ _ _ _ _ _ _ _ _ _ _ _ _ _ _ _ _ _ _ _ _ _ _ _ _ _ _ _ _ _ _ _ _ _ _ _ _ _ _ _ _ _ _ _ _ _ _ _ _ _ _ _ _ _ _ _ _ _ _ _ _ _ _ _ _ _ _ _ _ _ _ _ _ _ _ _ _ _ _ _ _ _ _ _ _ _ _ _ _ _ _ _ _ _ _ _ _ _ _ _ _ _ _ _ _ _ _ _ _ _ _ _ _ _ _ _ _ _ _ _ _ _ _ _ _ _ _ _ _ _ _ _ _ _ ?_))
    go_wp2
    go_ret
    exact ⟨rfl, HB.out⟩
  · obtain rfl : e4 = 13 := by rcases F4.out with ⟨_, h⟩ | ⟨_, h⟩ <;> first | exact h | omega
    obtain rfl : e5 = 0 := by rcases F5.out with ⟨_, h⟩ | ⟨_, h⟩ <;> first | exact h | omega
    refine wp_seq (wp_seq (wp_region_list (long10_nine _ (n : Int) (k : Int) 2 0 0 13 0 false true true ⟨by omega, by omega⟩ (decide_eq_false (by omega)) (decide_eq_true (by omega)) (decide_eq_true (by omega)) (by decide) (by decide) (by decide) (by decide) (by decide) _ _ _ _ _ _ _ _ _ _ _ _ _ _ _ _ _ _ _ _ _ _ _ _ _ _ _ _ _ _ _ _ _ _ _ _ _ _ _ _ _ _ _ _ _ _ _ _ _ _ _ _ _ _ _ _ _ _ _ _ _ _ _ _ _ _ _ _ _ _ _ _ _ _ _ _ _ _ _ _ _ _ _ _ _ _ _ _ _ _ _ _ _ _ _ _ _ _ _ _ _ _ _ _ _ _ _ _ _ _ _ _ _ _ _ _ _ _ _ _ _ _ _ _ _ _ _ _ _ _ _ _ _ _ _ _ _ _ _ _ _ _ _ _ _ _ _ _ _ _ _ _ _ _ _ ?_)))
    refine wp_cond_false (by kernel_rfl) (wp_skip ?_)
    refine wp_seq (wp_region_list (long10_end3 _ (n : Int) (k : Int) S1 S2 S3 ⟨by omega, by omega⟩ ⟨by omega, by omega⟩ (by omega) (by omega) _ _ _ _ _ _ _ _ _ _ _ _ _ _ _ _ _ _ _ _ _ _ _ _ _ _ _ _ _ _ _ _ _ _ _ _ _ _ _ _ _ _ _ _ _ _ _ _ _ _ _ _ _ _ _ _ _ _ _ _ _ _ _ _ _ _ _ _ _ _ _ _ _ _ _ _ _ _ _ _ _ _ _ _ _ _ _ _ _ _ _ _ _ _ _ _ _ _ _ _ _ _ _ _ _ _ _ _ _ _ _ _ _ _ _ _ _ _ _ _ _ _ _ _ _ _ _ _ _ _ _ _ _ _ _ _ _ _ _ _ _ _ _ _ _ _ _ _ _ _ _ ?_))
    go_wp2
    go_ret
    exact ⟨rfl, HB.out⟩
  · obtain rfl : e4 = 13 := by rcases F4.out with ⟨_, h⟩ | ⟨_, h⟩ <;> first | exact h | omega
    obtain rfl : e5 = 0 := by rcases F5.out with ⟨_, h⟩ | ⟨_, h⟩ <;> first | exact h | omega
    refine wp_seq (wp_seq (wp_region_list (long10_nine _ (n : Int) (k : Int) 2 0 2 13 0 false true false ⟨by omega, by omega⟩ (decide_eq_false (by omega)) (decide_eq_true (by omega)) (decide_eq_false (by omega)) (by decide) (by decide) (by decide) (by decide) (by decide) _ _ _ _ _ _ _ _ _ _ _ _ _ _ _ _ _ _ _ _ _ _ _ _ _ _ _ _ _ _ _ _ _ _ _ _ _ _ _ _ _ _ _ _ _ _ _ _ _ _ _ _ _ _ _ _ _ _ _ _ _ _ _ _ _ _ _ _ _ _ _ _ _ _ _ _ _ _ _ _ _ _ _ _ _ _ _ _ _ _ _ _ _ _ _ _ _ _ _ _ _ _ _ _ _ _ _ _ _ _ _ _ _ _ _ _ _ _ _ _ _ _ _ _ _ _ _ _ _ _ _ _ _ _ _ _ _ _ _ _ _ _ _ _ _ _ _ _ _ _ _ _ _ _ _ ?_)))
    refine wp_cond_false (by kernel_rfl) (wp_skip ?_)
    refine wp_seq (wp_region_list (long10_end4 _ (n : Int) (k : Int) S1 S2 S3 ⟨by omega, by omega⟩ ⟨by omega, by omega⟩ (by omega) _ _ _ _ _ _ _ _ _ _ _ _ _ _ _ _ _ _ _ _ _ _ _ _ _ _ _ _ _ _ _ _ _ _ _ _ _ _ _ _ _ _ _ _ _ _ _ _ _ _ _ _ _ _ _ _ _ _ _ _ _ _ _ _ _ _ _ _ _ _ _ _ _ _ _ _ _ _ _ _ _ _ _ _ _ _ _ _ _ _ _ _ _ _ _ _ _ _ _ _ _ _ _ _ _ _ _ _ _ _ _ _ _ _ _ _ _ _ _ _ _ _ _ _ _ _ _ _ _ _ _ _ _ _ _ _ _ _ _ _ _ _ _ _ _ _ _ _ _ _ _ ?_))
    go_wp2
    go_ret
    exact ⟨rfl, HB.out⟩
  · exact absurd k3 (by omega)
  · obtain rfl : e4 = 13 := by rcases F4.out with ⟨_, h⟩ | ⟨_, h⟩ <;> first | exact h | omega
    obtain rfl : e5 = 1 := by rcases F5.out with ⟨_, h⟩ | ⟨_, h⟩ <;> first | exact h | omega
    refine wp_seq (wp_seq (wp_region_list (long10_nine _ (n : Int) (k : Int) 2 2 2 13 1 false false false ⟨by omega, by omega⟩ (decide_eq_false (by omega)) (decide_eq_false (by omega)) (decide_eq_false (by omega)) (by decide) (by decide) (by decide) (by decide) (by decide) _ _ _ _ _ _ _ _ _ _ _ _ _ _ _ _ _ _ _ _ _ _ _ _ _ _ _ _ _ _ _ _ _ _ _ _ _ _ _ _ _ _ _ _ _ _ _ _ _ _ _ _ _ _ _ _ _ _ _ _ _ _ _ _ _ _ _ _ _ _ _ _ _ _ _ _ _ _ _ _ _ _ _ _ _ _ _ _ _ _ _ _ _ _ _ _ _ _ _ _ _ _ _ _ _ _ _ _ _ _ _ _ _ _ _ _ _ _ _ _ _ _ _ _ _ _ _ _ _ _ _ _ _ _ _ _ _ _ _ _ _ _ _ _ _ _ _ _ _ _ _ _ _ _ _ ?_)))
    refine wp_cond_false (by kernel_rfl) (wp_skip ?_)
    refine wp_seq (wp_region_list (long10_end5 _ (n : Int) (k : Int) S1 S2 S3 ⟨by omega, by omega⟩ ⟨by omega, by omega⟩ _ _ _ _ _ _ _ _ _ _ _ _ _ _ _ _ _ _ _ _ _ _ _ _ _ _ _ _ _ _ _ _ _ _ _ _ _ _ _ _ _ _ _ _ _ _ _ _ _ _ _ _ _ _ _ _ _ _ _ _ _ _ _ _ _ _ _ _ _ _ _ _ _ _ _ _ _ _ _ _ _ _ _ _ _ _ _ _ _ _ _ _ _ _ _ _ _ _ _ _ _ _ _ _ _ _ _ _ _ _ _ _ _ _ _ _ _ _ _ _ _ _ _ _ _ _ _ _ _ _ _ _ _ _ _ _ _ _ _ _ _ _ _ _ _ _ _ _ _ _ _ ?_))
    go_wp2
    go_ret
    exact ⟨rfl, HB.out⟩
end Go.Proofs.Ytploljgamimlpaa
