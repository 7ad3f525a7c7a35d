/-
  Layer 12: contracts of bucket.formed and bucket.counted: states and sizes; how many are used, and gone. Conditions: the store lies where its slice points to; it has no more than 4096 buckets.
-/
import Derived.Test.YtglcckpkbnppoaaBuxE
namespace Go.Proofs.Ytglcckpkbnppoaa
open Go.RowKit Go.Shelf
attribute [local go_sem] Oper.semAt_some

theorem cnt_take12 {B : List Bkt12} {k : Nat} {x : Bkt12} (hx : B[k]? = some x) (s : Int) : cnt12 (B.take (k + 1)) s = cnt12 (B.take k) s + if x.st = s then 1 else 0 := by
  rw [List.take_add_one, hx, cnt12, cnt12, List.countP_append]
  by_cases h : x.st = s <;> simp [h]
theorem cnt_le12 (B : List Bkt12) (s : Int) : cnt12 B s ≤ B.length := List.countP_le_length

set_option maxRecDepth 100000 in
set_option maxHeartbeats 4000000 in
theorem formed_any12 (s : Sto12) (A : Option Addr) (c : Nat) (w : World) (h : InS w s A c) (hf : s.B.length ≤ 4096) :
    Calls Try.prog 34 #[stoV s A c] w fun e w' => e = .returned (.bool (s.B.all frm12)) ∧ Below w.heap.size w w' := by
  have HI := Lib.hid h
  have HF := Lib.hid hf
  clear h hf
  have i1 := Is.new w 31 (stoA s A c)
  have c0 : (w.alloc (.cells (stoA s A c) 31)).cell? ⟨w.heap.size, 0, none⟩ = some (.slice A s.B.length c) := i1.cell 0
  have hB1 := Lib.hid ((Below.refl w.heap.size w).alloc (Nat.le_refl _) (.cells (stoA s A c) 31))
  clear i1
  go_enter Try.func34, Try.ntmps34
  go_wp2
  clear c0
  go_loopw [10] (fun i wr => ∃ k : Nat, k ≤ s.B.length ∧ i = .int .i64 (k : Int) ∧ All12 frm12 (s.B.take k) ∧ Below w.heap.size w wr) (fun i _ => s.B.length - (intOf i).toNat)
  case atStart => exact ⟨0, by omega, rfl, ⟨rfl⟩, hB1.out⟩
  case round =>
    obtain ⟨k, hk, rfl, hal, hB⟩ := hrel
    by_cases hlt : k < s.B.length
    · have hkx : s.B[k]? = some s.B[k] := List.getElem?_eq_getElem hlt
      generalize s.B[k] = x at hkx
      obtain ⟨b, off, rfl, hb, hr⟩ := (HI.out.keep hB).b.bkt hkx
      have hk1 : (k : Int) < (s.B.length : Int) := by omega
      have w1i := IntWalk.i64_in ((k : Int) + 1) (by have := HF.out; omega)
      have hB2 := hB.alloc hB.size (.cells (bktA x) 25)
      obtain ⟨st, xl, xc⟩ := x
      have HA := Lib.hid hal
      have HK := Lib.hid hkx
      have iX := Is.new wr 25 (bktA ⟨st, xl, xc⟩)
      have x0 : (wr.alloc (.cells (bktA ⟨st, xl, xc⟩) 25)).cell? ⟨wr.heap.size, 0, none⟩ = some (.int .i64 st) := iX.cell 0
      have x1 : (wr.alloc (.cells (bktA ⟨st, xl, xc⟩) 25)).cell? ⟨wr.heap.size, 1, none⟩ = some (.string xl) := iX.cell 1
      have x2 : (wr.alloc (.cells (bktA ⟨st, xl, xc⟩) 25)).cell? ⟨wr.heap.size, 2, none⟩ = some (.string xc) := iX.cell 2
      clear hal hkx iX hB
      by_cases h1 : st = 1
      · subst h1
        by_cases hl : (xl.size : Int) = 16
        · have hl' : xl.size = 16 := by omega
          by_cases hc : (xc.size : Int) = 40
          · have hc' : xc.size = 40 := by omega
            have ho : frm12 ⟨1, xl, xc⟩ = true := by simp [frm12, hl', hc']
            have HO := Lib.hid (All12.mk (all_take12 HK.out HA.out.out ho))
            clear ho
            go_wp2_with (first | (refine wpList_load_mid rfl 25 _ rfl b (off + k * 3) rfl _ _ hr Try.underlying25 rfl infoBkt12 ?_))
            go_roundw
            case rel => exact ⟨k + 1, by omega, by go_num, HO.out, hB2⟩
            case measure => simp [intOf]; omega
          · have hc' : ¬ xc.size = 40 := by omega
            have ho : frm12 ⟨1, xl, xc⟩ = false := by simp [frm12, hc']
            have HO := Lib.hid (all_miss12 HK.out ho)
            clear ho
            go_wp2_with (first | (refine wpList_load_mid rfl 25 _ rfl b (off + k * 3) rfl _ _ hr Try.underlying25 rfl infoBkt12 ?_))
            go_ret
            exact ⟨by rw [HO.out]; rfl, hB2⟩
        · have hl' : ¬ xl.size = 16 := by omega
          have ho : frm12 ⟨1, xl, xc⟩ = false := by simp [frm12, hl']
          have HO := Lib.hid (all_miss12 HK.out ho)
          clear ho
          go_wp2_with (first | (refine wpList_load_mid rfl 25 _ rfl b (off + k * 3) rfl _ _ hr Try.underlying25 rfl infoBkt12 ?_))
          go_ret
          exact ⟨by rw [HO.out]; rfl, hB2⟩
      · by_cases h0 : st = 0
        · subst h0
          clear h1
          by_cases hl : (xl.size : Int) = 0
          · have hl' : xl.size = 0 := by omega
            by_cases hc : (xc.size : Int) = 0
            · have hc' : xc.size = 0 := by omega
              have ho : frm12 ⟨0, xl, xc⟩ = true := by simp [frm12, hl', hc']
              have HO := Lib.hid (All12.mk (all_take12 HK.out HA.out.out ho))
              clear ho
              go_wp2_with (first | (refine wpList_load_mid rfl 25 _ rfl b (off + k * 3) rfl _ _ hr Try.underlying25 rfl infoBkt12 ?_))
              go_roundw
              case rel => exact ⟨k + 1, by omega, by go_num, HO.out, hB2⟩
              case measure => simp [intOf]; omega
            · have hc' : ¬ xc.size = 0 := by omega
              have ho : frm12 ⟨0, xl, xc⟩ = false := by simp [frm12, hc']
              have HO := Lib.hid (all_miss12 HK.out ho)
              clear ho
              go_wp2_with (first | (refine wpList_load_mid rfl 25 _ rfl b (off + k * 3) rfl _ _ hr Try.underlying25 rfl infoBkt12 ?_))
              go_ret
              exact ⟨by rw [HO.out]; rfl, hB2⟩
          · have hl' : ¬ xl.size = 0 := by omega
            have ho : frm12 ⟨0, xl, xc⟩ = false := by simp [frm12, hl']
            have HO := Lib.hid (all_miss12 HK.out ho)
            clear ho
            go_wp2_with (first | (refine wpList_load_mid rfl 25 _ rfl b (off + k * 3) rfl _ _ hr Try.underlying25 rfl infoBkt12 ?_))
            go_ret
            exact ⟨by rw [HO.out]; rfl, hB2⟩
        · by_cases h2 : st = 2
          · subst h2
            clear h1 h0
            by_cases hl : (xl.size : Int) = 0
            · have hl' : xl.size = 0 := by omega
              by_cases hc : (xc.size : Int) = 0
              · have hc' : xc.size = 0 := by omega
                have ho : frm12 ⟨2, xl, xc⟩ = true := by simp [frm12, hl', hc']
                have HO := Lib.hid (All12.mk (all_take12 HK.out HA.out.out ho))
                clear ho
                go_wp2_with (first | (refine wpList_load_mid rfl 25 _ rfl b (off + k * 3) rfl _ _ hr Try.underlying25 rfl infoBkt12 ?_))
                go_roundw
                case rel => exact ⟨k + 1, by omega, by go_num, HO.out, hB2⟩
                case measure => simp [intOf]; omega
              · have hc' : ¬ xc.size = 0 := by omega
                have ho : frm12 ⟨2, xl, xc⟩ = false := by simp [frm12, hc']
                have HO := Lib.hid (all_miss12 HK.out ho)
                clear ho
                go_wp2_with (first | (refine wpList_load_mid rfl 25 _ rfl b (off + k * 3) rfl _ _ hr Try.underlying25 rfl infoBkt12 ?_))
                go_ret
                exact ⟨by rw [HO.out]; rfl, hB2⟩
            · have hl' : ¬ xl.size = 0 := by omega
              have ho : frm12 ⟨2, xl, xc⟩ = false := by simp [frm12, hl']
              have HO := Lib.hid (all_miss12 HK.out ho)
              clear ho
              go_wp2_with (first | (refine wpList_load_mid rfl 25 _ rfl b (off + k * 3) rfl _ _ hr Try.underlying25 rfl infoBkt12 ?_))
              go_ret
              exact ⟨by rw [HO.out]; rfl, hB2⟩
          · skip
            have ho : frm12 ⟨st, xl, xc⟩ = false := by simp [frm12, h1, h0, h2]
            have HO := Lib.hid (all_miss12 HK.out ho)
            clear ho
            go_wp2_with (first | (refine wpList_load_mid rfl 25 _ rfl b (off + k * 3) rfl _ _ hr Try.underlying25 rfl infoBkt12 ?_))
            go_ret
            exact ⟨by rw [HO.out]; rfl, hB2⟩
    · have hk1 : ¬ (k : Int) < (s.B.length : Int) := by omega
      obtain rfl : k = s.B.length := by omega
      have HA := Lib.hid (show s.B.all frm12 = true by have := hal.out; rwa [List.take_length] at this)
      clear hal
      go_wp2
      go_ret
      exact ⟨by rw [HA.out]; rfl, hB⟩

set_option maxRecDepth 100000 in
set_option maxHeartbeats 4000000 in
theorem counted_any12 (s : Sto12) (A : Option Addr) (c : Nat) (w : World) (h : InS w s A c) (hf : s.B.length ≤ 4096) :
    Calls Try.prog 35 #[stoV s A c] w fun e w' => e = .returned (.bool (decide ((cnt12 s.B 1 : Int) = s.many) && decide ((cnt12 s.B 2 : Int) = s.gone))) ∧ Below w.heap.size w w' := by
  have HI := Lib.hid h
  have HF := Lib.hid hf
  clear h hf
  have i1 := Is.new w 31 (stoA s A c)
  have c0 : (w.alloc (.cells (stoA s A c) 31)).cell? ⟨w.heap.size, 0, none⟩ = some (.slice A s.B.length c) := i1.cell 0
  have hB1 := Lib.hid ((Below.refl w.heap.size w).alloc (Nat.le_refl _) (.cells (stoA s A c) 31))
  have I1 := Lib.hid i1
  clear i1
  go_enter Try.func35, Try.ntmps35
  go_wp2
  clear c0
  go_loopw [3, 4, 10] (fun m g i wr => ∃ k : Nat, k ≤ s.B.length ∧ i = .int .i64 (k : Int) ∧ m = .int .i64 (cnt12 (s.B.take k) 1 : Int) ∧ g = .int .i64 (cnt12 (s.B.take k) 2 : Int) ∧ Is wr w.heap.size 31 (stoA s A c) ∧ Below w.heap.size w wr) (fun _ _ i _ => s.B.length - (intOf i).toNat)
  case atStart => exact ⟨0, by omega, rfl, rfl, rfl, I1.out, hB1.out⟩
  case round =>
    obtain ⟨k, hk, rfl, rfl, rfl, i1, hB⟩ := hrel
    by_cases hlt : k < s.B.length
    · have hkx : s.B[k]? = some s.B[k] := List.getElem?_eq_getElem hlt
      generalize s.B[k] = x at hkx
      obtain ⟨b, off, rfl, hb, hr⟩ := (HI.out.keep hB).b.bkt hkx
      have hk1 : (k : Int) < (s.B.length : Int) := by omega
      have w1i := IntWalk.i64_in ((k : Int) + 1) (by have := HF.out; omega)
      have hB2 := hB.alloc hB.size (.cells (bktA x) 25)
      have i2 := i1.alloc (.cells (bktA x) 25)
      obtain ⟨st, xl, xc⟩ := x
      have H1 := Lib.hid (cnt_take12 hkx 1)
      have H2 := Lib.hid (cnt_take12 hkx 2)
      have l1 := cnt_le12 (s.B.take k) 1
      have l2 := cnt_le12 (s.B.take k) 2
      rw [List.length_take] at l1 l2
      have hff := HF.out
      have iX := Is.new wr 25 (bktA ⟨st, xl, xc⟩)
      have x0 : (wr.alloc (.cells (bktA ⟨st, xl, xc⟩) 25)).cell? ⟨wr.heap.size, 0, none⟩ = some (.int .i64 st) := iX.cell 0
      obtain ⟨p, hp⟩ : ∃ p, p = cnt12 (s.B.take k) 1 := ⟨_, rfl⟩
      obtain ⟨q, hq⟩ : ∃ q, q = cnt12 (s.B.take k) 2 := ⟨_, rfl⟩
      rw [← hp] at l1 H1 ⊢
      rw [← hq] at l2 H2 ⊢
      clear hp hq
      have w2i := IntWalk.i64_in ((p : Int) + 1) (by omega)
      have w3i := IntWalk.i64_in ((q : Int) + 1) (by omega)
      clear hkx iX hB i1
      by_cases h1 : st = 1
      · subst h1
        have e1 := Lib.hid (show cnt12 (s.B.take (k + 1)) 1 = p + 1 by rw [H1.out]; simp)
        have e2 := Lib.hid (show cnt12 (s.B.take (k + 1)) 2 = q by rw [H2.out]; simp)
        go_wp2_with (first | (refine wpList_load_mid rfl 25 _ rfl b (off + k * 3) rfl _ _ hr Try.underlying25 rfl infoBkt12 ?_))
        go_roundw
        case rel => exact ⟨k + 1, by omega, by go_num, by rw [e1.out]; go_num, by rw [e2.out], i2, hB2⟩
        case measure => simp [intOf]; omega
      · by_cases h2 : st = 2
        · subst h2
          clear h1
          have e1 := Lib.hid (show cnt12 (s.B.take (k + 1)) 1 = p by rw [H1.out]; simp)
          have e2 := Lib.hid (show cnt12 (s.B.take (k + 1)) 2 = q + 1 by rw [H2.out]; simp)
          go_wp2_with (first | (refine wpList_load_mid rfl 25 _ rfl b (off + k * 3) rfl _ _ hr Try.underlying25 rfl infoBkt12 ?_))
          go_roundw
          case rel => exact ⟨k + 1, by omega, by go_num, by rw [e1.out], by rw [e2.out]; go_num, i2, hB2⟩
          case measure => simp [intOf]; omega
        · skip
          have e1 := Lib.hid (show cnt12 (s.B.take (k + 1)) 1 = p by rw [H1.out]; simp [h1])
          have e2 := Lib.hid (show cnt12 (s.B.take (k + 1)) 2 = q by rw [H2.out]; simp [h2])
          go_wp2_with (first | (refine wpList_load_mid rfl 25 _ rfl b (off + k * 3) rfl _ _ hr Try.underlying25 rfl infoBkt12 ?_))
          go_roundw
          case rel => exact ⟨k + 1, by omega, by go_num, by rw [e1.out], by rw [e2.out], i2, hB2⟩
          case measure => simp [intOf]; omega
    · have hk1 : ¬ (k : Int) < (s.B.length : Int) := by omega
      obtain rfl : k = s.B.length := by omega
      rw [List.take_length]
      have c1 : wr.cell? ⟨w.heap.size, 1, none⟩ = some (.int .i64 s.many) := i1.cell 1
      have c2 : wr.cell? ⟨w.heap.size, 2, none⟩ = some (.int .i64 s.gone) := i1.cell 2
      clear i1
      obtain ⟨p, hp⟩ : ∃ p : Int, p = (cnt12 s.B 1 : Int) := ⟨_, rfl⟩
      obtain ⟨q, hq⟩ : ∃ q : Int, q = (cnt12 s.B 2 : Int) := ⟨_, rfl⟩
      obtain ⟨m, hm⟩ : ∃ m : Int, m = s.many := ⟨_, rfl⟩
      obtain ⟨g, hg⟩ : ∃ g : Int, g = s.gone := ⟨_, rfl⟩
      have D1 := Lib.hid (show decide ((cnt12 s.B 1 : Int) = s.many) = decide (p = m) by rw [hp, hm])
      have D2 := Lib.hid (show decide ((cnt12 s.B 2 : Int) = s.gone) = decide (q = g) by rw [hq, hg])
      rw [← hp, ← hq]
      rw [← hm] at c1
      rw [← hg] at c2
      clear hp hq hm hg
      by_cases e1 : m = p
      · subst e1
        by_cases e2 : g = q
        · subst e2
          go_wp2
          go_ret
          exact ⟨by rw [D1.out, D2.out]; simp, hB⟩
        · have e2' := Lib.hid (show decide (q = g) = false from decide_eq_false (fun h => e2 h.symm))
          go_wp2
          go_ret
          exact ⟨by rw [D1.out, D2.out, e2'.out]; simp; exact e2, hB⟩
      · have e1' := Lib.hid (show decide (p = m) = false from decide_eq_false (fun h => e1 h.symm))
        go_wp2
        go_ret
        exact ⟨by rw [D1.out, e1'.out]; rfl, hB⟩
end Go.Proofs.Ytglcckpkbnppoaa
