/-
  Layer 12: contract of bucket.Right. Condition: the store lies where its slice points to.
-/
import Derived.Test.YtglcckpkbnppoaaBuxF
import Derived.Test.YtglcckpkbnppoaaBuxG
import Derived.Test.YtglcckpkbnppoaaBuxI
namespace Go.Proofs.Ytglcckpkbnppoaa
open Go.RowKit Go.Shelf

theorem pre_size12 {s : Sto12} (h : size12 (s.B.length : Int) = false) : right12 s = false := right_not12 fun hp => by rw [hp.size] at h; cases h
theorem pre_frm12 {s : Sto12} (h : s.B.all frm12 = false) : right12 s = false := right_not12 fun hp => by rw [hp.frm] at h; cases h
theorem pre_cnt12 {s : Sto12} (h : (decide ((cnt12 s.B 1 : Int) = s.many) && decide ((cnt12 s.B 2 : Int) = s.gone)) = false) : right12 s = false := right_not12 fun hp => by
  rw [decide_eq_true hp.many, decide_eq_true hp.gone] at h; cases h
theorem pre_room12 {s : Sto12} (h : 3 * (s.B.length : Int) < 4 * (s.many + s.gone + 0)) : right12 s = false := right_not12 fun hp => by
  have := hp.room; omega

set_option maxRecDepth 100000 in
set_option maxHeartbeats 4000000 in
theorem bright_any12 (s : Sto12) (A : Option Addr) (c : Nat) (w : World) (h : InS w s A c) :
    Calls Try.prog 18 #[stoV s A c] w fun e w' => e = .returned (.bool (right12 s)) ∧ Below w.heap.size w w' := by
  have i0 := Is.new w 31 (stoA s A c)
  have hB0 : Below w.heap.size w (w.alloc (.cells (stoA s A c) 31)) := (Below.refl _ _).alloc (Nat.le_refl _) _
  have c0 : (w.alloc (.cells (stoA s A c) 31)).cell? ⟨w.heap.size, 0, none⟩ = some (.slice A s.B.length c) := i0.cell 0
  have c1 : (w.alloc (.cells (stoA s A c) 31)).cell? ⟨w.heap.size, 1, none⟩ = some (.int .i64 s.many) := i0.cell 1
  have c2 : (w.alloc (.cells (stoA s A c) 31)).cell? ⟨w.heap.size, 2, none⟩ = some (.int .i64 s.gone) := i0.cell 2
  have HS := Lib.hid (isSize_any12 (s.B.length : Int) (w.alloc (.cells (stoA s A c) 31)))
  obtain ⟨R, hR⟩ : ∃ R, R = right12 s := ⟨_, rfl⟩
  rw [← hR]
  cases hs : size12 (s.B.length : Int) with
  | false =>
    have HR := Lib.hid (hR.trans (pre_size12 hs))
    rw [hs] at HS
    clear hs hR h
    go_enter Try.func18, Try.ntmps18
    go_wp2_with (first | (go_at_call 31; refine HS.out.mono ?_; rintro e w0 ⟨rfl, rfl⟩))
    go_ret
    exact ⟨by rw [HR.out]; rfl, hB0⟩
  | true =>
    rw [hs] at HS
    have hn := (size_bd12 hs)
    have hf : s.B.length ≤ 4096 := by omega
    have HF : Hid (∀ W, Below w.heap.size w W → Calls Try.prog 34 #[stoV s A c] W fun e w' => e = .returned (.bool (s.B.all frm12)) ∧ Below W.heap.size W w') := Lib.hid (fun W hB => formed_any12 s A c W (h.keep hB) hf)
    cases hfm : s.B.all frm12 with
    | false =>
      have HR := Lib.hid (hR.trans (pre_frm12 hfm))
      rw [hfm] at HF
      clear hs hR h hn hf hfm
      go_enter Try.func18, Try.ntmps18
      go_wp2_with (first | (go_at_call 31; refine HS.out.mono ?_; rintro e w0 ⟨rfl, rfl⟩) | (go_at_call 34; refine (HF.out _ hB0).mono ?_; rintro e w1 ⟨rfl, hb⟩; have hB1 := hB0.trans (hb.mono hB0.size); have i1 := i0.below hb i0.lt; clear hb; have c0_w1 : w1.cell? ⟨w.heap.size, 0, none⟩ = some (.slice A s.B.length c) := i1.cell 0; have c1_w1 : w1.cell? ⟨w.heap.size, 1, none⟩ = some (.int .i64 s.many) := i1.cell 1; have c2_w1 : w1.cell? ⟨w.heap.size, 2, none⟩ = some (.int .i64 s.gone) := i1.cell 2))
      go_ret
      exact ⟨by rw [HR.out]; rfl, hB1⟩
    | true =>
      rw [hfm] at HF
      have HC : Hid (∀ W, Below w.heap.size w W → Calls Try.prog 35 #[stoV s A c] W fun e w' => e = .returned (.bool (decide ((cnt12 s.B 1 : Int) = s.many) && decide ((cnt12 s.B 2 : Int) = s.gone))) ∧ Below W.heap.size W w') := Lib.hid (fun W hB => counted_any12 s A c W (h.keep hB) hf)
      cases hc : (decide ((cnt12 s.B 1 : Int) = s.many) && decide ((cnt12 s.B 2 : Int) = s.gone)) with
      | false =>
        have HR := Lib.hid (hR.trans (pre_cnt12 hc))
        rw [hc] at HC
        clear hs hR h hn hf hfm hc
        go_enter Try.func18, Try.ntmps18
        go_wp2_with (first | (go_at_call 31; refine HS.out.mono ?_; rintro e w0 ⟨rfl, rfl⟩) | (go_at_call 34; refine (HF.out _ hB0).mono ?_; rintro e w1 ⟨rfl, hb⟩; have hB1 := hB0.trans (hb.mono hB0.size); have i1 := i0.below hb i0.lt; clear hb; have c0_w1 : w1.cell? ⟨w.heap.size, 0, none⟩ = some (.slice A s.B.length c) := i1.cell 0; have c1_w1 : w1.cell? ⟨w.heap.size, 1, none⟩ = some (.int .i64 s.many) := i1.cell 1; have c2_w1 : w1.cell? ⟨w.heap.size, 2, none⟩ = some (.int .i64 s.gone) := i1.cell 2) | (go_at_call 35; refine (HC.out _ hB1).mono ?_; rintro e w2 ⟨rfl, hb⟩; have hB2 := hB1.trans (hb.mono hB1.size); have i2 := i1.below hb i1.lt; clear hb; have c0_w2 : w2.cell? ⟨w.heap.size, 0, none⟩ = some (.slice A s.B.length c) := i2.cell 0; have c1_w2 : w2.cell? ⟨w.heap.size, 1, none⟩ = some (.int .i64 s.many) := i2.cell 1; have c2_w2 : w2.cell? ⟨w.heap.size, 2, none⟩ = some (.int .i64 s.gone) := i2.cell 2))
        go_ret
        exact ⟨by rw [HR.out]; rfl, hB2⟩
      | true =>
        rw [hc] at HC
        have hcs := hc
        rw [Bool.and_eq_true, decide_eq_true_eq, decide_eq_true_eq] at hcs
        have l1 := cnt_le12 s.B 1
        have l2 := cnt_le12 s.B 2
        have HW : Hid (∀ W, Below w.heap.size w W → Calls Try.prog 36 #[stoV s A c, .int .i64 0] W fun e w' => e = .returned (.bool (decide (3 * (s.B.length : Int) < 4 * (s.many + s.gone + 0)))) ∧ Below W.heap.size W w') := Lib.hid (fun W hB => crowded_any12 A s.B.length c s.many s.gone 0 W (.inl rfl) hf (by omega) (by omega))
        by_cases hw : 3 * (s.B.length : Int) < 4 * (s.many + s.gone + 0)
        · have HR := Lib.hid (hR.trans (pre_room12 hw))
          rw [decide_eq_true hw] at HW
          clear hs hR h hn hf hfm hc hcs l1 l2 hw
          go_enter Try.func18, Try.ntmps18
          go_wp2_with (first | (go_at_call 31; refine HS.out.mono ?_; rintro e w0 ⟨rfl, rfl⟩) | (go_at_call 34; refine (HF.out _ hB0).mono ?_; rintro e w1 ⟨rfl, hb⟩; have hB1 := hB0.trans (hb.mono hB0.size); have i1 := i0.below hb i0.lt; clear hb; have c0_w1 : w1.cell? ⟨w.heap.size, 0, none⟩ = some (.slice A s.B.length c) := i1.cell 0; have c1_w1 : w1.cell? ⟨w.heap.size, 1, none⟩ = some (.int .i64 s.many) := i1.cell 1; have c2_w1 : w1.cell? ⟨w.heap.size, 2, none⟩ = some (.int .i64 s.gone) := i1.cell 2) | (go_at_call 35; refine (HC.out _ hB1).mono ?_; rintro e w2 ⟨rfl, hb⟩; have hB2 := hB1.trans (hb.mono hB1.size); have i2 := i1.below hb i1.lt; clear hb; have c0_w2 : w2.cell? ⟨w.heap.size, 0, none⟩ = some (.slice A s.B.length c) := i2.cell 0; have c1_w2 : w2.cell? ⟨w.heap.size, 1, none⟩ = some (.int .i64 s.many) := i2.cell 1; have c2_w2 : w2.cell? ⟨w.heap.size, 2, none⟩ = some (.int .i64 s.gone) := i2.cell 2) | (go_at_call 36; refine (HW.out _ hB2).mono ?_; rintro e w3 ⟨rfl, hb⟩; have hB3 := hB2.trans (hb.mono hB2.size); have i3 := i2.below hb i2.lt; clear hb; have c0_w3 : w3.cell? ⟨w.heap.size, 0, none⟩ = some (.slice A s.B.length c) := i3.cell 0; have c1_w3 : w3.cell? ⟨w.heap.size, 1, none⟩ = some (.int .i64 s.many) := i3.cell 1; have c2_w3 : w3.cell? ⟨w.heap.size, 2, none⟩ = some (.int .i64 s.gone) := i3.cell 2))
          go_ret
          exact ⟨by rw [HR.out]; rfl, hB3⟩
        · have hp : Pre12 s := ⟨hs, hfm, hcs.1, hcs.2, by omega⟩
          have hr := hR.trans (right_prog12 hp)
          rw [decide_eq_false hw] at HW
          have hfl : ∀ b ∈ us12 s.B, b.l.size ≤ maxLen := fun b hb => by
            obtain ⟨i, hi, e, h1⟩ := us_mem12.1 hb
            have := frm_all12 hfm hi
            rw [e, frm12, if_pos h1] at this
            simp only [Bool.and_eq_true, decide_eq_true_eq] at this
            unfold maxLen
            omega
          have hfr := hp.free
          have HT : Hid (∀ W, Below w.heap.size w W → Calls Try.prog 37 #[stoV s A c] W fun e w' => e = .returned (.bool (decide ((dst12 (labs12 s.B) (labs12 s.B).length : Int) < s.many))) ∧ Below W.heap.size W w') := Lib.hid (fun W hB => twice_any12 s A c W (h.keep hB) hf hfl)
          have HO : Hid (∀ W, Below w.heap.size w W → Calls Try.prog 38 #[stoV s A c] W fun e w' => e = .returned (.bool (onw12 s.B (fre1st12 s.B))) ∧ Below W.heap.size W w') := Lib.hid (fun W hB => ways_any12 s A c W (h.keep hB) hf hfr)
          generalize decide ((dst12 (labs12 s.B) (labs12 s.B).length : Int) < s.many) = T at *
          generalize onw12 s.B (fre1st12 s.B) = O at *
          clear hs hR h hn hf hfm hc hcs l1 l2 hw hp hfl hfr
          cases T with
          | true =>
            have HR := Lib.hid (show R = false by rw [hr]; rfl)
            clear hr
            go_enter Try.func18, Try.ntmps18
            go_wp2_with (first | (go_at_call 31; refine HS.out.mono ?_; rintro e w0 ⟨rfl, rfl⟩) | (go_at_call 34; refine (HF.out _ hB0).mono ?_; rintro e w1 ⟨rfl, hb⟩; have hB1 := hB0.trans (hb.mono hB0.size); have i1 := i0.below hb i0.lt; clear hb; have c0_w1 : w1.cell? ⟨w.heap.size, 0, none⟩ = some (.slice A s.B.length c) := i1.cell 0; have c1_w1 : w1.cell? ⟨w.heap.size, 1, none⟩ = some (.int .i64 s.many) := i1.cell 1; have c2_w1 : w1.cell? ⟨w.heap.size, 2, none⟩ = some (.int .i64 s.gone) := i1.cell 2) | (go_at_call 35; refine (HC.out _ hB1).mono ?_; rintro e w2 ⟨rfl, hb⟩; have hB2 := hB1.trans (hb.mono hB1.size); have i2 := i1.below hb i1.lt; clear hb; have c0_w2 : w2.cell? ⟨w.heap.size, 0, none⟩ = some (.slice A s.B.length c) := i2.cell 0; have c1_w2 : w2.cell? ⟨w.heap.size, 1, none⟩ = some (.int .i64 s.many) := i2.cell 1; have c2_w2 : w2.cell? ⟨w.heap.size, 2, none⟩ = some (.int .i64 s.gone) := i2.cell 2) | (go_at_call 36; refine (HW.out _ hB2).mono ?_; rintro e w3 ⟨rfl, hb⟩; have hB3 := hB2.trans (hb.mono hB2.size); have i3 := i2.below hb i2.lt; clear hb; have c0_w3 : w3.cell? ⟨w.heap.size, 0, none⟩ = some (.slice A s.B.length c) := i3.cell 0; have c1_w3 : w3.cell? ⟨w.heap.size, 1, none⟩ = some (.int .i64 s.many) := i3.cell 1; have c2_w3 : w3.cell? ⟨w.heap.size, 2, none⟩ = some (.int .i64 s.gone) := i3.cell 2) | (go_at_call 37; refine (HT.out _ hB3).mono ?_; rintro e w4 ⟨rfl, hb⟩; have hB4 := hB3.trans (hb.mono hB3.size); have i4 := i3.below hb i3.lt; clear hb; have c0_w4 : w4.cell? ⟨w.heap.size, 0, none⟩ = some (.slice A s.B.length c) := i4.cell 0; have c1_w4 : w4.cell? ⟨w.heap.size, 1, none⟩ = some (.int .i64 s.many) := i4.cell 1; have c2_w4 : w4.cell? ⟨w.heap.size, 2, none⟩ = some (.int .i64 s.gone) := i4.cell 2))
            go_ret
            exact ⟨by rw [HR.out]; rfl, hB4⟩
          | false =>
            cases O with
            | true =>
              have HR := Lib.hid (show R = true by rw [hr]; rfl)
              clear hr
              go_enter Try.func18, Try.ntmps18
              go_wp2_with (first | (go_at_call 31; refine HS.out.mono ?_; rintro e w0 ⟨rfl, rfl⟩) | (go_at_call 34; refine (HF.out _ hB0).mono ?_; rintro e w1 ⟨rfl, hb⟩; have hB1 := hB0.trans (hb.mono hB0.size); have i1 := i0.below hb i0.lt; clear hb; have c0_w1 : w1.cell? ⟨w.heap.size, 0, none⟩ = some (.slice A s.B.length c) := i1.cell 0; have c1_w1 : w1.cell? ⟨w.heap.size, 1, none⟩ = some (.int .i64 s.many) := i1.cell 1; have c2_w1 : w1.cell? ⟨w.heap.size, 2, none⟩ = some (.int .i64 s.gone) := i1.cell 2) | (go_at_call 35; refine (HC.out _ hB1).mono ?_; rintro e w2 ⟨rfl, hb⟩; have hB2 := hB1.trans (hb.mono hB1.size); have i2 := i1.below hb i1.lt; clear hb; have c0_w2 : w2.cell? ⟨w.heap.size, 0, none⟩ = some (.slice A s.B.length c) := i2.cell 0; have c1_w2 : w2.cell? ⟨w.heap.size, 1, none⟩ = some (.int .i64 s.many) := i2.cell 1; have c2_w2 : w2.cell? ⟨w.heap.size, 2, none⟩ = some (.int .i64 s.gone) := i2.cell 2) | (go_at_call 36; refine (HW.out _ hB2).mono ?_; rintro e w3 ⟨rfl, hb⟩; have hB3 := hB2.trans (hb.mono hB2.size); have i3 := i2.below hb i2.lt; clear hb; have c0_w3 : w3.cell? ⟨w.heap.size, 0, none⟩ = some (.slice A s.B.length c) := i3.cell 0; have c1_w3 : w3.cell? ⟨w.heap.size, 1, none⟩ = some (.int .i64 s.many) := i3.cell 1; have c2_w3 : w3.cell? ⟨w.heap.size, 2, none⟩ = some (.int .i64 s.gone) := i3.cell 2) | (go_at_call 37; refine (HT.out _ hB3).mono ?_; rintro e w4 ⟨rfl, hb⟩; have hB4 := hB3.trans (hb.mono hB3.size); have i4 := i3.below hb i3.lt; clear hb; have c0_w4 : w4.cell? ⟨w.heap.size, 0, none⟩ = some (.slice A s.B.length c) := i4.cell 0; have c1_w4 : w4.cell? ⟨w.heap.size, 1, none⟩ = some (.int .i64 s.many) := i4.cell 1; have c2_w4 : w4.cell? ⟨w.heap.size, 2, none⟩ = some (.int .i64 s.gone) := i4.cell 2) | (go_at_call 38; refine (HO.out _ hB4).mono ?_; rintro e w5 ⟨rfl, hb⟩; have hB5 := hB4.trans (hb.mono hB4.size); have i5 := i4.below hb i4.lt; clear hb; have c0_w5 : w5.cell? ⟨w.heap.size, 0, none⟩ = some (.slice A s.B.length c) := i5.cell 0; have c1_w5 : w5.cell? ⟨w.heap.size, 1, none⟩ = some (.int .i64 s.many) := i5.cell 1; have c2_w5 : w5.cell? ⟨w.heap.size, 2, none⟩ = some (.int .i64 s.gone) := i5.cell 2))
              go_ret
              exact ⟨by rw [HR.out]; rfl, hB5⟩
            | false =>
              have HR := Lib.hid (show R = false by rw [hr]; rfl)
              clear hr
              go_enter Try.func18, Try.ntmps18
              go_wp2_with (first | (go_at_call 31; refine HS.out.mono ?_; rintro e w0 ⟨rfl, rfl⟩) | (go_at_call 34; refine (HF.out _ hB0).mono ?_; rintro e w1 ⟨rfl, hb⟩; have hB1 := hB0.trans (hb.mono hB0.size); have i1 := i0.below hb i0.lt; clear hb; have c0_w1 : w1.cell? ⟨w.heap.size, 0, none⟩ = some (.slice A s.B.length c) := i1.cell 0; have c1_w1 : w1.cell? ⟨w.heap.size, 1, none⟩ = some (.int .i64 s.many) := i1.cell 1; have c2_w1 : w1.cell? ⟨w.heap.size, 2, none⟩ = some (.int .i64 s.gone) := i1.cell 2) | (go_at_call 35; refine (HC.out _ hB1).mono ?_; rintro e w2 ⟨rfl, hb⟩; have hB2 := hB1.trans (hb.mono hB1.size); have i2 := i1.below hb i1.lt; clear hb; have c0_w2 : w2.cell? ⟨w.heap.size, 0, none⟩ = some (.slice A s.B.length c) := i2.cell 0; have c1_w2 : w2.cell? ⟨w.heap.size, 1, none⟩ = some (.int .i64 s.many) := i2.cell 1; have c2_w2 : w2.cell? ⟨w.heap.size, 2, none⟩ = some (.int .i64 s.gone) := i2.cell 2) | (go_at_call 36; refine (HW.out _ hB2).mono ?_; rintro e w3 ⟨rfl, hb⟩; have hB3 := hB2.trans (hb.mono hB2.size); have i3 := i2.below hb i2.lt; clear hb; have c0_w3 : w3.cell? ⟨w.heap.size, 0, none⟩ = some (.slice A s.B.length c) := i3.cell 0; have c1_w3 : w3.cell? ⟨w.heap.size, 1, none⟩ = some (.int .i64 s.many) := i3.cell 1; have c2_w3 : w3.cell? ⟨w.heap.size, 2, none⟩ = some (.int .i64 s.gone) := i3.cell 2) | (go_at_call 37; refine (HT.out _ hB3).mono ?_; rintro e w4 ⟨rfl, hb⟩; have hB4 := hB3.trans (hb.mono hB3.size); have i4 := i3.below hb i3.lt; clear hb; have c0_w4 : w4.cell? ⟨w.heap.size, 0, none⟩ = some (.slice A s.B.length c) := i4.cell 0; have c1_w4 : w4.cell? ⟨w.heap.size, 1, none⟩ = some (.int .i64 s.many) := i4.cell 1; have c2_w4 : w4.cell? ⟨w.heap.size, 2, none⟩ = some (.int .i64 s.gone) := i4.cell 2) | (go_at_call 38; refine (HO.out _ hB4).mono ?_; rintro e w5 ⟨rfl, hb⟩; have hB5 := hB4.trans (hb.mono hB4.size); have i5 := i4.below hb i4.lt; clear hb; have c0_w5 : w5.cell? ⟨w.heap.size, 0, none⟩ = some (.slice A s.B.length c) := i5.cell 0; have c1_w5 : w5.cell? ⟨w.heap.size, 1, none⟩ = some (.int .i64 s.many) := i5.cell 1; have c2_w5 : w5.cell? ⟨w.heap.size, 2, none⟩ = some (.int .i64 s.gone) := i5.cell 2))
              go_ret
              exact ⟨by rw [HR.out]; rfl, hB5⟩
end Go.Proofs.Ytglcckpkbnppoaa
