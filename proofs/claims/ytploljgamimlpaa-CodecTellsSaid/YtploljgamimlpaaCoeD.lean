/-
  awake, the statements' own: it answers true.
-/
import Derived.Test.YtploljgamimlpaaCoeC
namespace Go.Proofs.Ytploljgamimlpaa
open Go.RowKit Go.Shelf

def awL10 : List ByteArray := [⟨#[97]⟩, ⟨#[]⟩]
theorem aw_list10 : lstR10 awL10 = .tuple #[.string ⟨#[0, 0, 0, 2, 0, 0, 0, 1, 97, 0, 0, 0, 0]⟩, .int .i64 0] := by kernel_rfl
theorem aw_tl10 : tlV10 ⟨#[0, 0, 0, 2, 0, 0, 0, 1, 97, 0, 0, 0, 0, 120]⟩ 0 = (awL10, 13, 0) := by kernel_rfl
theorem aw_tn10 : tnR10 ⟨#[120, 0, 0, 1, 2]⟩ 1 = .tuple #[.int .i64 258, .agg #[.string ⟨#[120, 0, 0, 1, 2]⟩, .int .i64 5], .int .i64 0] := by kernel_rfl
theorem aw_tt10 : ttR10 ⟨#[0, 0, 0, 1]⟩ 0 = .tuple #[.string ⟨#[]⟩, .agg #[.string ⟨#[0, 0, 0, 1]⟩, .int .i64 0], .int .i64 10] := by kernel_rfl
theorem aw_num10 : numR10 (-1) = .tuple #[.string ⟨#[]⟩, .int .i64 1] := by kernel_rfl
theorem aw_end10 : endV10 ⟨#[0, 0, 0, 2, 0, 0, 0, 1, 97, 0, 0, 0, 0, 120]⟩ 13 = 13 := by kernel_rfl
theorem aw_in10 {W : World} {g : Nat} (h : Is W g 9 #[.string ⟨#[97]⟩, .string ⟨#[]⟩]) : InV W (some ⟨g, 0, none⟩) (tL10 awL10) := fun j u hj => ⟨g, 0, rfl, h.lt, by
  rw [Nat.zero_add, h.cell]
  match j, hj with
  | 0, hj => exact hj
  | 1, hj => exact hj⟩

set_option maxRecDepth 100000 in
set_option maxHeartbeats 4000000 in
theorem awake10_any (w : World) :
    Calls Try.prog 9 #[] w fun e w' => e = .returned (.bool true) ∧ Below w.heap.size w w' := by
  have M1 := Lib.hid (fun g W (h : Is W g 9 #[.string ⟨#[97]⟩, .string ⟨#[]⟩]) => by
    have := list_any10 (some ⟨g, 0, none⟩) 2 awL10 W (fun s hs => by
      simp only [awL10, List.mem_cons, List.not_mem_nil, or_false] at hs
      rcases hs with rfl | rfl
      · show 1 ≤ _; omega
      · show 0 ≤ _; omega) (aw_in10 h)
    rw [aw_list10] at this
    exact this)
  have M2 := Lib.hid (fun W => by
    have := cl_any10 ⟨#[0, 0, 0, 2, 0, 0, 0, 1, 97, 0, 0, 0, 0, 120]⟩ 0 W
    simp only [tlR10, aw_tl10] at this
    exact this)
  have M3 := Lib.hid (fun W => cn_any10 ⟨#[120, 0, 0, 1, 2]⟩ 1 W)
  rw [aw_tn10] at M3
  have M4 := Lib.hid (fun W => ct_any10 ⟨#[0, 0, 0, 1]⟩ 0 W)
  rw [aw_tt10] at M4
  have M5 := Lib.hid (fun W => num_any10 (-1) W)
  rw [aw_num10] at M5
  have M6 := Lib.hid (fun W => cend_any10 ⟨#[0, 0, 0, 2, 0, 0, 0, 1, 97, 0, 0, 0, 0, 120]⟩ 13 W)
  rw [aw_end10] at M6
  have M7 := Lib.hid (fun A c g W (h : InV W A (tL10 awL10)) (h2 : Is W g 9 #[.string ⟨#[97]⟩, .string ⟨#[]⟩]) => texts_same10 A (some ⟨g, 0, none⟩) c 2 awL10 W (by decide) h (aw_in10 h2))
  go_enter Try.func9, Try.ntmps9
  go_wp2_with fail
  have hB0 : Below w.heap.size w (w.alloc (.cells #[.string ⟨#[97]⟩, .string ⟨#[]⟩] 9)) := (Below.refl _ _).alloc (Nat.le_refl _) _
  refine (M1.out _ _ (Is.new w _ _)).mono ?_
  rintro e W1 ⟨rfl, hb⟩
  have hB1 := hB0.trans (hb.mono hB0.size)
  clear hb hB0
  go_wp2_with fail
  refine (M2.out _).mono ?_
  rintro e W2 ⟨A', c', rfl, hL, hb⟩
  have hB2 := hB1.trans (hb.mono hB1.size)
  clear hb hB1
  go_wp2_with fail
  have iC := Is.new W2 24 #[.string ⟨#[0, 0, 0, 2, 0, 0, 0, 1, 97, 0, 0, 0, 0, 120]⟩, .int .i64 13]
  have hL2 := hL.at'.keep ((Below.refl W2.heap.size W2).alloc (Nat.le_refl _) (.cells #[.string ⟨#[0, 0, 0, 2, 0, 0, 0, 1, 97, 0, 0, 0, 0, 120]⟩, .int .i64 13] 24))
  have hB3 := hB2.alloc hB2.size (.cells #[.string ⟨#[0, 0, 0, 2, 0, 0, 0, 1, 97, 0, 0, 0, 0, 120]⟩, .int .i64 13] 24)
  generalize W2.alloc (.cells #[.string ⟨#[0, 0, 0, 2, 0, 0, 0, 1, 97, 0, 0, 0, 0, 120]⟩, .int .i64 13] 24) = W3 at *
  generalize W2.heap.size = bC at *
  clear hB2 hL
  refine (M3.out _).mono ?_
  rintro e W4 ⟨rfl, hb⟩
  have iC4 := iC.below hb iC.lt
  have hL4 := hL2.keep hb
  have hB4 := hB3.trans (hb.mono hB3.size)
  clear hb hB3 hL2 iC
  go_wp2_with fail
  have iC5 := iC4.alloc (.cells #[.string ⟨#[120, 0, 0, 1, 2]⟩, .int .i64 5] 24)
  have iN5 := Is.new W4 24 #[.string ⟨#[120, 0, 0, 1, 2]⟩, .int .i64 5]
  have hL5 := hL4.keep ((Below.refl W4.heap.size W4).alloc (Nat.le_refl _) (.cells #[.string ⟨#[120, 0, 0, 1, 2]⟩, .int .i64 5] 24))
  have hB5 := hB4.alloc hB4.size (.cells #[.string ⟨#[120, 0, 0, 1, 2]⟩, .int .i64 5] 24)
  generalize W4.alloc (.cells #[.string ⟨#[120, 0, 0, 1, 2]⟩, .int .i64 5] 24) = W5 at *
  generalize W4.heap.size = bN at *
  clear hB4 hL4 iC4
  refine (M4.out _).mono ?_
  rintro e W6 ⟨rfl, hb⟩
  have iC6 := (iC5.below hb iC5.lt).alloc (.cells #[.string ⟨#[0, 0, 0, 1]⟩, .int .i64 0] 24)
  have iN6 := (iN5.below hb iN5.lt).alloc (.cells #[.string ⟨#[0, 0, 0, 1]⟩, .int .i64 0] 24)
  have hL6 := (hL5.keep hb).keep ((Below.refl W6.heap.size W6).alloc (Nat.le_refl _) (.cells #[.string ⟨#[0, 0, 0, 1]⟩, .int .i64 0] 24))
  have hB6a := hB5.trans (hb.mono hB5.size)
  have hB6 := hB6a.alloc hB6a.size (.cells #[.string ⟨#[0, 0, 0, 1]⟩, .int .i64 0] 24)
  clear hb hB5 hL5 iC5 iN5 hB6a
  go_wp2_with fail
  generalize W6.alloc (.cells #[.string ⟨#[0, 0, 0, 1]⟩, .int .i64 0] 24) = W7 at *
  refine (M5.out _).mono ?_
  rintro e W8 ⟨rfl, hb⟩
  have iC8 := (iC6.below hb iC6.lt).alloc (.cells #[.string ⟨#[97]⟩, .string ⟨#[]⟩] 9)
  have iN8 := (iN6.below hb iN6.lt).alloc (.cells #[.string ⟨#[97]⟩, .string ⟨#[]⟩] 9)
  have iT8 := Is.new W8 9 #[.string ⟨#[97]⟩, .string ⟨#[]⟩]
  have hL8 := (hL6.keep hb).keep ((Below.refl W8.heap.size W8).alloc (Nat.le_refl _) (.cells #[.string ⟨#[97]⟩, .string ⟨#[]⟩] 9))
  have hB8a := hB6.trans (hb.mono hB6.size)
  have hB8 := hB8a.alloc hB8a.size (.cells #[.string ⟨#[97]⟩, .string ⟨#[]⟩] 9)
  clear hb hB6 hL6 iC6 iN6 hB8a
  go_wp2_with fail
  refine (M7.out A' c' _ _ hL8 iT8).mono ?_
  rintro e W9 ⟨rfl, hb⟩
  have iC9 := iC8.below hb iC8.lt
  have iN9 := iN8.below hb iN8.lt
  have hB9 := hB8.trans (hb.mono hB8.size)
  clear hb hB8 hL8 iC8 iN8 iT8
  have k0 : W9.cell? ⟨bC, 0, none⟩ = some (.string ⟨#[0, 0, 0, 2, 0, 0, 0, 1, 97, 0, 0, 0, 0, 120]⟩) := iC9.cell 0
  have k1 : W9.cell? ⟨bC, 1, none⟩ = some (.int .i64 13) := iC9.cell 1
  go_wp2_with (refine wpList_load_row rfl 24 _ rfl bC rfl iC9 Try.underlying24 rfl infoCur10 ?_)
  refine (M6.out _).mono ?_
  rintro e W10 ⟨rfl, hb⟩
  have iN10 := iN9.below hb iN9.lt
  have hB10 := hB9.trans (hb.mono hB9.size)
  have n1 : W10.cell? ⟨bN, 1, none⟩ = some (.int .i64 5) := iN10.cell 1
  clear hb hB9 k0 k1
  go_wp2
  go_ret
  exact ⟨rfl, hB10⟩
end Go.Proofs.Ytploljgamimlpaa
