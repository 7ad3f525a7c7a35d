/-
  DigestParts: the walk of the statement's function.
-/
import Derived.Test.YtfakpecclhcjiaaDoorDigK
import Derived.Test.YtfakpecclhcjiaaDoorDigQ
import Derived.Deep.DeepCutAuto
namespace Go.Proofs.YtfakpecclhcjiaaDoor
open Go.RowKit

theorem empty_append2 (X : ByteArray) : (⟨#[]⟩ : ByteArray) ++ X = X := by
  apply ByteArray.ext
  simp [ByteArray.data_append]
theorem extract_join (X : ByteArray) (p t : Nat) (hp : p ≤ t) : X.extract 0 p ++ X.extract p t = X.extract 0 t := by
  apply ext_bytes
  rw [append_list, extract_list, extract_list, extract_list, List.drop_zero, Nat.sub_zero, Nat.sub_zero, ← List.take_add, show p + (t - p) = t by omega]
theorem extract_whole (X : ByteArray) : X.extract 0 X.size = X := by
  apply ext_bytes
  rw [extract_list, List.drop_zero, Nat.sub_zero, List.take_of_length_le (by rw [size_list]; exact Nat.le_refl _)]
/-- what has been added when p bytes have. -/
def partH (X : ByteArray) (p : Nat) : Hs := addH Hs0 (X.extract 0 p)
theorem add_nil : addH Hs0 ⟨#[]⟩ = Hs0 := by
  unfold addH
  simp only [Hs0, empty_append2]
  rw [mixT_short _ _ (by show (0 : Nat) < 64; omega), show (ByteArray.mk #[]).extract ((ByteArray.mk #[]).size - (ByteArray.mk #[]).size % 64) (ByteArray.mk #[]).size = ⟨#[]⟩ from rfl]
  rfl
theorem part_zero (X : ByteArray) : partH X 0 = Hs0 := by
  have e : X.extract 0 0 = ⟨#[]⟩ := by
    apply ext_bytes
    rw [extract_list, Nat.sub_self, List.take_zero]
  rw [partH, e, add_nil]
theorem part_add (X : ByteArray) (p t : Nat) (hp : p ≤ t) : addH (partH X p) (X.extract p t) = partH X t := by
  rw [partH, add_add, extract_join X p t hp, ← partH]
theorem part_m (X : ByteArray) (p : Nat) (hp : p ≤ X.size) : (partH X p).m = (p : Int) := by
  show (0 : Int) + ((X.extract 0 p).size : Int) = _
  simp; omega
theorem part_right (X : ByteArray) (p : Nat) (hp : p ≤ X.size) (hX : X.size ≤ 500) : rightB (partH X p) = true := by
  refine right_add right_new ?_
  show ((X.extract 0 p).size : Int) ≤ 1048576 - 0
  simp; omega

set_option maxRecDepth 100000 in
set_option maxHeartbeats 4000000 in
theorem parts_walk (s : ByteArray) (A : Option Addr) (len cap : Nat) (c : Nat → Int) (w : World) (hT : Tab w) (hs : s.size ≤ maxLen) (hlen : len ≤ maxLen)
    (hc : ∀ j, j < len → ∃ b off, A = some ⟨b, off, none⟩ ∧ b < w.heap.size ∧ w.cell? ⟨b, off + j, none⟩ = some (.int .i64 (c j)) ∧ -9223372036854775808 ≤ c j ∧ c j ≤ 9223372036854775807) :
    Calls Tryd.prog 4 #[.string s, .slice A len cap] w fun e w' => e = .returned (.bool true) ∧ Below w.heap.size w w' := by
  unfold maxLen at hlen hs
  have HC := Lib.hid hc
  clear hc
  go_enter Tryd.func4, Tryd.ntmps4
  go_wp2_with fail
  refine (awake_any _ hT).mono ?_
  rintro e w1 ⟨rfl, hB1⟩
  go_wp2_with fail
  have hX : (s.extract 0 (min (s.size : Int) 500).toNat).size ≤ 500 := by simp; omega
  generalize s.extract 0 (min (s.size : Int) 500).toNat = X at *
  refine (new_any _ (hT.below hB1 hT.two)).mono ?_
  rintro e w2 ⟨rfl, hb2⟩
  have hB2 : Below w.heap.size w w2 := hB1.trans (hb2.mono hB1.size)
  clear hb2 hB1
  have hsz2 := hB2.size
  have hp0 := part_zero X
  generalize hh0 : Hs0 = x0 at *
  have HX0 := Lib.hid hh0
  have HP0 := Lib.hid hp0
  clear hh0 hp0
  go_wp2
  generalize hmn : min (s.size : Int) 500 = mn
  clear hmn
  go_loopw [8, 9] (fun t i wr => ∃ p j : Nat, j ≤ 10 ∧ j ≤ len ∧ p ≤ X.size ∧ i = .int .i64 j ∧ t = .int .i64 p ∧ Is wr w2.heap.size 25 (partH X p).arr ∧ Below w.heap.size w wr)
    (fun _ i _ => 10 - (intOf i).toNat)
  case atStart =>
    refine ⟨0, 0, by omega, by omega, by omega, rfl, rfl, ?_, hB2.alloc hB2.size _⟩
    rw [HP0.out]
    exact Is.new w2 _ _
  case round =>
    obtain ⟨p, j, hj6, hjl, hpX, rfl, rfl, iX, hB⟩ := hrel
    by_cases hlt : j < len ∧ j < 10
    · obtain ⟨hlt, hlt6⟩ := hlt
      obtain ⟨b, off, rfl, hbw, hcell, hc0, hc1⟩ := HC.out j hlt
      have hd1 : decide ((j : Int) < (len : Int)) = true := by simp; omega
      have hd2 : decide ((j : Int) < 10) = true := by simp; omega
      have bq := pickN_bd (c j) ((X.size : Int) - (p : Int) + 1) (by omega)
      have cr : wr.cell? ⟨b, off + j, none⟩ = some (.int .i64 (c j)) := (hB.cell (p := ⟨b, off + j, none⟩) hbw).trans hcell
      obtain ⟨t, et⟩ : ∃ t : Nat, (t : Int) = (p : Int) + pickN (c j) ((X.size : Int) - (p : Int) + 1) := ⟨((p : Int) + pickN (c j) ((X.size : Int) - (p : Int) + 1)).toNat, by omega⟩
      have htX : t ≤ X.size := by omega
      have hpt : p ≤ t := by omega
      have ET := Lib.hid et
      clear et
      go_wp2_with (go_at_call 16; refine (pick_any (c j) ((X.size : Int) - (p : Int) + 1) _ hc0 hc1 (by omega) (by omega)).mono ?_; rintro e w' ⟨rfl, rfl⟩)
      rw [← ET.out]
      have hsl : ∀ wx : World, (Instr.slice 9 (.string X) (some (.int .i64 (p : Int))) (some (.int .i64 (t : Int))) none).run Tryd.prog wx = .ok (.string (X.extract p t)) wx := fun wx => by
        have := run_slice_string (P := Tryd.prog) (w := wx) 9 X .i64 .i64 (p : Int) (t : Int) Tryd.underlying9 (by omega) (by omega) (by omega)
        rw [Int.toNat_natCast, Int.toNat_natCast] at this
        exact this
      have hpa := part_add X p t hpt
      have hpr := part_right X p hpX hX
      have hpm := part_m X p hpX
      have htr := part_right X t htX hX
      have htm := part_m X t htX
      have hes : ((X.extract p t).size : Int) ≤ 1048576 - (partH X p).m := by rw [hpm]; simp; omega
      have hsum := sum_ok (X.extract 0 t)
      have hest : (X.extract 0 t).size ≤ 1048576 := by simp; omega
      have hsl2 : ∀ wx : World, (Instr.slice 9 (.string X) none (some (.int .i64 (t : Int))) none).run Tryd.prog wx = .ok (.string (X.extract 0 t)) wx := fun wx => by
        have := run_slice_string_h (P := Tryd.prog) (w := wx) (t := 9) (s := X) Tryd.underlying9 .i64 (t : Int) (by omega) (by omega)
        rw [Int.toNat_natCast] at this
        exact this
      have hpt2 : addH Hs0 (X.extract 0 t) = partH X t := rfl
      rw [hpt2] at hsum
      generalize hEe : X.extract p t = E at *
      generalize hE0 : X.extract 0 t = E0 at *
      generalize hyp : partH X p = y at *
      generalize hyt : partH X t = z at *
      have addc : ∀ W, Tab W → Calls Tryd.prog 11 #[.agg y.arr, .string E] W fun e w' => e = .returned (.tuple #[.agg z.arr, .int .i64 0]) ∧ Below W.heap.size W w' := fun W hTW => by
        have := add_ok y E W hTW hpr hes
        rw [hpa] at this
        exact this
      have ADDC := Lib.hid addc
      have HSUM := Lib.hid hsum
      have HTR := Lib.hid htr
      have HTM := Lib.hid htm
      have HYT := Lib.hid hyt
      have HEST := Lib.hid hest
      clear addc hsum htr htm hest hpa hpr hpm hes hEe hE0 hyp hyt hpt2 cr hd1 hd2
      have hsz := hB.size
      have hl2 : w2.heap.size < wr.heap.size := iX.lt
      have hn1 : ¬ w2.heap.size = wr.heap.size := by omega
      have hn2 : ¬ wr.heap.size = w2.heap.size := by omega
      have ia : Is ((wr.alloc (.cells #[.int .u32 0, .int .u32 0, .int .u32 0, .int .u32 0, .int .u32 0, .int .u32 0, .int .u32 0, .int .u32 0, .string ⟨#[]⟩, .int .i64 0] 25)).drew) wr.heap.size 25 #[.int .u32 0, .int .u32 0, .int .u32 0, .int .u32 0, .int .u32 0, .int .u32 0, .int .u32 0, .int .u32 0, .string ⟨#[]⟩, .int .i64 0] := Is.new wr _ _
      have iXa : Is ((wr.alloc (.cells #[.int .u32 0, .int .u32 0, .int .u32 0, .int .u32 0, .int .u32 0, .int .u32 0, .int .u32 0, .int .u32 0, .string ⟨#[]⟩, .int .i64 0] 25)).drew) w2.heap.size 25 y.arr := iX.alloc _
      have hBa : Below w.heap.size w ((wr.alloc (.cells #[.int .u32 0, .int .u32 0, .int .u32 0, .int .u32 0, .int .u32 0, .int .u32 0, .int .u32 0, .int .u32 0, .string ⟨#[]⟩, .int .i64 0] 25)).drew) := belowN (hB.alloc hB.size _) 1
      have hBc : Below w.heap.size w wr.drew := belowN hB 1
      have hTa := hT.below hBa hT.two
      have hTc := hT.below hBc hT.two
      have a0 : wr.cell? ⟨w2.heap.size, 0, none⟩ = some (.int .u32 y.h.a) := iX.cell 0
      have a1 : wr.cell? ⟨w2.heap.size, 1, none⟩ = some (.int .u32 y.h.b) := iX.cell 1
      have a2 : wr.cell? ⟨w2.heap.size, 2, none⟩ = some (.int .u32 y.h.c) := iX.cell 2
      have a3 : wr.cell? ⟨w2.heap.size, 3, none⟩ = some (.int .u32 y.h.d) := iX.cell 3
      have a4 : wr.cell? ⟨w2.heap.size, 4, none⟩ = some (.int .u32 y.h.e) := iX.cell 4
      have a5 : wr.cell? ⟨w2.heap.size, 5, none⟩ = some (.int .u32 y.h.f) := iX.cell 5
      have a6 : wr.cell? ⟨w2.heap.size, 6, none⟩ = some (.int .u32 y.h.g) := iX.cell 6
      have a7 : wr.cell? ⟨w2.heap.size, 7, none⟩ = some (.int .u32 y.h.h) := iX.cell 7
      have a8 : wr.cell? ⟨w2.heap.size, 8, none⟩ = some (.string y.r) := iX.cell 8
      have a9 : wr.cell? ⟨w2.heap.size, 9, none⟩ = some (.int .i64 y.m) := iX.cell 9
      go_cut [11, 12] (fun v u W => ∃ g, v = .pointer (some ⟨g, 0, none⟩) ∧ u = .int .i64 0 ∧ Is W g 25 z.arr ∧ Is W w2.heap.size 25 y.arr ∧ w2.heap.size < g ∧ Below w.heap.size w W)
      case first =>
        go_region_held3 (fun w' => w'.cell? ⟨w2.heap.size, 0, none⟩ = some (.int .u32 y.h.a) ∧ w'.cell? ⟨w2.heap.size, 1, none⟩ = some (.int .u32 y.h.b) ∧ w'.cell? ⟨w2.heap.size, 2, none⟩ = some (.int .u32 y.h.c) ∧ w'.cell? ⟨w2.heap.size, 3, none⟩ = some (.int .u32 y.h.d) ∧ w'.cell? ⟨w2.heap.size, 4, none⟩ = some (.int .u32 y.h.e) ∧ w'.cell? ⟨w2.heap.size, 5, none⟩ = some (.int .u32 y.h.f) ∧ w'.cell? ⟨w2.heap.size, 6, none⟩ = some (.int .u32 y.h.g) ∧ w'.cell? ⟨w2.heap.size, 7, none⟩ = some (.int .u32 y.h.h) ∧ w'.cell? ⟨w2.heap.size, 8, none⟩ = some (.string y.r) ∧ w'.cell? ⟨w2.heap.size, 9, none⟩ = some (.int .i64 y.m))
          (go_keep)
          (first
            | (go_at_call 11; refine (ADDC.out _ ?_).mono ?_; (first | exact hTa | exact hTc); rintro e w3 ⟨rfl, hb3⟩; clear a0 a1 a2 a3 a4 a5 a6 a7 a8 a9; (first
               | (have hq : Is w3 wr.heap.size 25 #[.int .u32 0, .int .u32 0, .int .u32 0, .int .u32 0, .int .u32 0, .int .u32 0, .int .u32 0, .int .u32 0, .string ⟨#[]⟩, .int .i64 0] := (by with_reducible exact Is.below ia hb3 ia.lt); have iX3 : Is w3 w2.heap.size 25 y.arr := Is.below iXa hb3 iXa.lt; have hB3 : Below w.heap.size w w3 := hBa.trans (hb3.mono hBa.size); clear hb3; have x0 : w3.cell? ⟨wr.heap.size, 0, none⟩ = some (.int .u32 0) := hq.cell 0; have x1 : w3.cell? ⟨wr.heap.size, 1, none⟩ = some (.int .u32 0) := hq.cell 1; have x2 : w3.cell? ⟨wr.heap.size, 2, none⟩ = some (.int .u32 0) := hq.cell 2; have x3 : w3.cell? ⟨wr.heap.size, 3, none⟩ = some (.int .u32 0) := hq.cell 3; have x4 : w3.cell? ⟨wr.heap.size, 4, none⟩ = some (.int .u32 0) := hq.cell 4; have x5 : w3.cell? ⟨wr.heap.size, 5, none⟩ = some (.int .u32 0) := hq.cell 5; have x6 : w3.cell? ⟨wr.heap.size, 6, none⟩ = some (.int .u32 0) := hq.cell 6; have x7 : w3.cell? ⟨wr.heap.size, 7, none⟩ = some (.int .u32 0) := hq.cell 7; have x8 : w3.cell? ⟨wr.heap.size, 8, none⟩ = some (.string ⟨#[]⟩) := hq.cell 8; have x9 : w3.cell? ⟨wr.heap.size, 9, none⟩ = some (.int .i64 0) := hq.cell 9; have y0 := hq.frozen 0; have y1 := hq.frozen 1; have y2 := hq.frozen 2; have y3 := hq.frozen 3; have y4 := hq.frozen 4; have y5 := hq.frozen 5; have y6 := hq.frozen 6; have y7 := hq.frozen 7; have y8 := hq.frozen 8; have y9 := hq.frozen 9; have a0 : w3.cell? ⟨w2.heap.size, 0, none⟩ = some (.int .u32 y.h.a) := iX3.cell 0; have a1 : w3.cell? ⟨w2.heap.size, 1, none⟩ = some (.int .u32 y.h.b) := iX3.cell 1; have a2 : w3.cell? ⟨w2.heap.size, 2, none⟩ = some (.int .u32 y.h.c) := iX3.cell 2; have a3 : w3.cell? ⟨w2.heap.size, 3, none⟩ = some (.int .u32 y.h.d) := iX3.cell 3; have a4 : w3.cell? ⟨w2.heap.size, 4, none⟩ = some (.int .u32 y.h.e) := iX3.cell 4; have a5 : w3.cell? ⟨w2.heap.size, 5, none⟩ = some (.int .u32 y.h.f) := iX3.cell 5; have a6 : w3.cell? ⟨w2.heap.size, 6, none⟩ = some (.int .u32 y.h.g) := iX3.cell 6; have a7 : w3.cell? ⟨w2.heap.size, 7, none⟩ = some (.int .u32 y.h.h) := iX3.cell 7; have a8 : w3.cell? ⟨w2.heap.size, 8, none⟩ = some (.string y.r) := iX3.cell 8; have a9 : w3.cell? ⟨w2.heap.size, 9, none⟩ = some (.int .i64 y.m) := iX3.cell 9)
               | (have iX3 : Is w3 w2.heap.size 25 y.arr := Is.below (iX.drewN 1) hb3 iX.lt; have hB3 : Below w.heap.size w w3 := hBc.trans (hb3.mono hBc.size); have hl3 : w2.heap.size < w3.heap.size := iX3.lt; clear hb3; have a0 : w3.cell? ⟨w2.heap.size, 0, none⟩ = some (.int .u32 y.h.a) := iX3.cell 0; have a1 : w3.cell? ⟨w2.heap.size, 1, none⟩ = some (.int .u32 y.h.b) := iX3.cell 1; have a2 : w3.cell? ⟨w2.heap.size, 2, none⟩ = some (.int .u32 y.h.c) := iX3.cell 2; have a3 : w3.cell? ⟨w2.heap.size, 3, none⟩ = some (.int .u32 y.h.d) := iX3.cell 3; have a4 : w3.cell? ⟨w2.heap.size, 4, none⟩ = some (.int .u32 y.h.e) := iX3.cell 4; have a5 : w3.cell? ⟨w2.heap.size, 5, none⟩ = some (.int .u32 y.h.f) := iX3.cell 5; have a6 : w3.cell? ⟨w2.heap.size, 6, none⟩ = some (.int .u32 y.h.g) := iX3.cell 6; have a7 : w3.cell? ⟨w2.heap.size, 7, none⟩ = some (.int .u32 y.h.h) := iX3.cell 7; have a8 : w3.cell? ⟨w2.heap.size, 8, none⟩ = some (.string y.r) := iX3.cell 8; have a9 : w3.cell? ⟨w2.heap.size, 9, none⟩ = some (.int .i64 y.m) := iX3.cell 9))))
        all_goals go_wp2_with fail
        all_goals go_meet
        all_goals (first
          | (refine ⟨_, rfl, rfl, ?_, ?_, ?_, ?_⟩; (with_reducible exact Is.new w3 _ _); (exact iX3.alloc _); (omega); (exact hB3.alloc hB3.size _))
          | (refine ⟨_, rfl, rfl, ?_, ?_, ?_, ?_⟩; (exact Is.setH (x := HsZ) hq z); (exact (iX3.far8 (by omega) _).far (by simp; omega) _ |>.far (by simp; omega) _); (omega); (exact belowH hB3 (by omega) z)))
      case rest =>
        clear a0 a1 a2 a3 a4 a5 a6 a7 a8 a9 ia iXa hBa hBc hTa hTc iX hB hsz hl2 hn1 hn2 hsl ADDC hcell
        obtain ⟨g, rfl, rfl, iZ, iX, hg, hB⟩ := hcut
        have a0 : wc.cell? ⟨g, 0, none⟩ = some (.int .u32 z.h.a) := iZ.cell 0
        have a1 : wc.cell? ⟨g, 1, none⟩ = some (.int .u32 z.h.b) := iZ.cell 1
        have a2 : wc.cell? ⟨g, 2, none⟩ = some (.int .u32 z.h.c) := iZ.cell 2
        have a3 : wc.cell? ⟨g, 3, none⟩ = some (.int .u32 z.h.d) := iZ.cell 3
        have a4 : wc.cell? ⟨g, 4, none⟩ = some (.int .u32 z.h.e) := iZ.cell 4
        have a5 : wc.cell? ⟨g, 5, none⟩ = some (.int .u32 z.h.f) := iZ.cell 5
        have a6 : wc.cell? ⟨g, 6, none⟩ = some (.int .u32 z.h.g) := iZ.cell 6
        have a7 : wc.cell? ⟨g, 7, none⟩ = some (.int .u32 z.h.h) := iZ.cell 7
        have a8 : wc.cell? ⟨g, 8, none⟩ = some (.string z.r) := iZ.cell 8
        have a9 : wc.cell? ⟨g, 9, none⟩ = some (.int .i64 z.m) := iZ.cell 9
        go_wp2_with fail
        refine (end_ok z _ (hT.below hB hT.two) HTR.out).mono ?_
        rintro e w3 ⟨rfl, hb3⟩
        have iZ3 : Is w3 g 25 z.arr := iZ.below hb3 iZ.lt
        have iX3 : Is w3 w2.heap.size 25 y.arr := iX.below hb3 iX.lt
        have hB3 : Below w.heap.size w w3 := hB.trans (hb3.mono hB.size)
        clear hb3 a0 a1 a2 a3 a4 a5 a6 a7 a8 a9 iZ iX hB
        go_wp2_with fail
        refine (HSUM.out _ (hT.below hB3 hT.two) HEST.out).mono ?_
        rintro e w4 ⟨rfl, hb4⟩
        have iZ4 : Is w4 g 25 z.arr := iZ3.below hb4 iZ3.lt
        have iX4 : Is w4 w2.heap.size 25 y.arr := iX3.below hb4 iX3.lt
        have hB4 : Below w.heap.size w w4 := hB3.trans (hb4.mono hB3.size)
        clear hb4 iZ3 iX3 hB3 HSUM
        generalize endS z = es
        have a0 : w4.cell? ⟨g, 0, none⟩ = some (.int .u32 z.h.a) := iZ4.cell 0
        have a1 : w4.cell? ⟨g, 1, none⟩ = some (.int .u32 z.h.b) := iZ4.cell 1
        have a2 : w4.cell? ⟨g, 2, none⟩ = some (.int .u32 z.h.c) := iZ4.cell 2
        have a3 : w4.cell? ⟨g, 3, none⟩ = some (.int .u32 z.h.d) := iZ4.cell 3
        have a4 : w4.cell? ⟨g, 4, none⟩ = some (.int .u32 z.h.e) := iZ4.cell 4
        have a5 : w4.cell? ⟨g, 5, none⟩ = some (.int .u32 z.h.f) := iZ4.cell 5
        have a6 : w4.cell? ⟨g, 6, none⟩ = some (.int .u32 z.h.g) := iZ4.cell 6
        have a7 : w4.cell? ⟨g, 7, none⟩ = some (.int .u32 z.h.h) := iZ4.cell 7
        have a8 : w4.cell? ⟨g, 8, none⟩ = some (.string z.r) := iZ4.cell 8
        have a9 : w4.cell? ⟨g, 9, none⟩ = some (.int .i64 z.m) := iZ4.cell 9
        have qm : (z.m != (t : Int)) = false := by rw [HTM.out]; simp
        go_wp2_with fail
        refine (right_any z _).mono ?_
        rintro e w5 ⟨rfl, hb5⟩
        rw [HTR.out]
        have iZ5 : Is w5 g 25 z.arr := iZ4.below hb5 iZ4.lt
        have iX5 : Is w5 w2.heap.size 25 y.arr := iX4.below hb5 iX4.lt
        have hB5 : Below w.heap.size w w5 := hB4.trans (hb5.mono hB4.size)
        clear hb5 iZ4 iX4 hB4 qm a0 a1 a2 a3 a4 a5 a6 a7 a8 a9
        go_wp2_with (first
          | (refine wpList_load_row rfl 25 _ rfl g rfl _ _ _ _ iZ5 Tryd.underlying25 rfl (by kernel_rfl) ?_)
          | (refine wpList_store_row rfl 25 _ _ rfl w2.heap.size z.arr rfl rfl _ _ iX5 (by kernel_rfl) rfl (Hs.one _) ?_))
        go_roundw
        case rel =>
          refine ⟨t, j + 1, by omega, by omega, by omega, by go_num, rfl, ?_, belowRow hB5 (by omega) _⟩
          rw [HYT.out]
          exact iX5.row _
        case measure => simp [intOf]; omega
    · have hpa := part_add X p X.size hpX
      have hpr := part_right X p hpX hX
      have hpm := part_m X p hpX
      have htr := part_right X X.size (Nat.le_refl _) hX
      have hes : ((X.extract p X.size).size : Int) ≤ 1048576 - (partH X p).m := by rw [hpm]; simp; omega
      have hxs : X.size ≤ 1048576 := by omega
      have hsum := sum_ok X
      have hw : partH X X.size = addH Hs0 X := by rw [partH, extract_whole]
      rw [← hw] at hsum
      have add0 : ∀ W, Tab W → Calls Tryd.prog 11 #[.agg Hs0.arr, .string X] W fun e w' => e = .returned (.tuple #[.agg (partH X X.size).arr, .int .i64 0]) ∧ Below W.heap.size W w' := fun W hTW => by
        have := add_ok Hs0 X W hTW right_new (by show (X.size : Int) ≤ 1048576 - 0; omega)
        rw [← hw] at this
        exact this
      have hsl : ∀ wx : World, (Instr.slice 9 (.string X) (some (.int .i64 (p : Int))) none none).run Tryd.prog wx = .ok (.string (X.extract p X.size)) wx := fun wx => by
        have := run_slice_string_l (P := Tryd.prog) (w := wx) (t := 9) (s := X) Tryd.underlying9 .i64 (p : Int) (by omega) (by omega)
        rw [Int.toNat_natCast] at this
        exact this
      clear hw
      generalize X.extract p X.size = E at *
      generalize partH X p = y at *
      generalize partH X X.size = z at *
      have addc : ∀ W, Tab W → Calls Tryd.prog 11 #[.agg y.arr, .string E] W fun e w' => e = .returned (.tuple #[.agg z.arr, .int .i64 0]) ∧ Below W.heap.size W w' := fun W hTW => by
        have := add_ok y E W hTW hpr hes
        rw [hpa] at this
        exact this
      have ADDC := Lib.hid addc
      have ADD0 := Lib.hid add0
      have HSUM := Lib.hid hsum
      have HTR := Lib.hid htr
      have HXS := Lib.hid hxs
      clear addc add0 hsum htr hpa hpr hpm hes hxs
      have hsz := hB.size
      have hl2 : w2.heap.size < wr.heap.size := iX.lt
      have hn1 : ¬ w2.heap.size = wr.heap.size := by omega
      have hn2 : ¬ wr.heap.size = w2.heap.size := by omega
      have ia : Is ((wr.alloc (.cells #[.int .u32 0, .int .u32 0, .int .u32 0, .int .u32 0, .int .u32 0, .int .u32 0, .int .u32 0, .int .u32 0, .string ⟨#[]⟩, .int .i64 0] 25)).drew) wr.heap.size 25 #[.int .u32 0, .int .u32 0, .int .u32 0, .int .u32 0, .int .u32 0, .int .u32 0, .int .u32 0, .int .u32 0, .string ⟨#[]⟩, .int .i64 0] := Is.new wr _ _
      have iXa : Is ((wr.alloc (.cells #[.int .u32 0, .int .u32 0, .int .u32 0, .int .u32 0, .int .u32 0, .int .u32 0, .int .u32 0, .int .u32 0, .string ⟨#[]⟩, .int .i64 0] 25)).drew) w2.heap.size 25 y.arr := iX.alloc _
      have hBa : Below w.heap.size w ((wr.alloc (.cells #[.int .u32 0, .int .u32 0, .int .u32 0, .int .u32 0, .int .u32 0, .int .u32 0, .int .u32 0, .int .u32 0, .string ⟨#[]⟩, .int .i64 0] 25)).drew) := belowN (hB.alloc hB.size _) 1
      have hBc : Below w.heap.size w wr.drew := belowN hB 1
      have hTa := hT.below hBa hT.two
      have hTc := hT.below hBc hT.two
      have a0 : wr.cell? ⟨w2.heap.size, 0, none⟩ = some (.int .u32 y.h.a) := iX.cell 0
      have a1 : wr.cell? ⟨w2.heap.size, 1, none⟩ = some (.int .u32 y.h.b) := iX.cell 1
      have a2 : wr.cell? ⟨w2.heap.size, 2, none⟩ = some (.int .u32 y.h.c) := iX.cell 2
      have a3 : wr.cell? ⟨w2.heap.size, 3, none⟩ = some (.int .u32 y.h.d) := iX.cell 3
      have a4 : wr.cell? ⟨w2.heap.size, 4, none⟩ = some (.int .u32 y.h.e) := iX.cell 4
      have a5 : wr.cell? ⟨w2.heap.size, 5, none⟩ = some (.int .u32 y.h.f) := iX.cell 5
      have a6 : wr.cell? ⟨w2.heap.size, 6, none⟩ = some (.int .u32 y.h.g) := iX.cell 6
      have a7 : wr.cell? ⟨w2.heap.size, 7, none⟩ = some (.int .u32 y.h.h) := iX.cell 7
      have a8 : wr.cell? ⟨w2.heap.size, 8, none⟩ = some (.string y.r) := iX.cell 8
      have a9 : wr.cell? ⟨w2.heap.size, 9, none⟩ = some (.int .i64 y.m) := iX.cell 9
      by_cases h1 : j < len
      · have h6 : ¬ (j : Int) < 10 := by omega
        have hd1 : decide ((j : Int) < (len : Int)) = true := by simp; omega
        have hd2 : decide ((j : Int) < 10) = false := by simp; omega
        go_wp2
        go_cut [17, 18] (fun v u W => ∃ g, v = .pointer (some ⟨g, 0, none⟩) ∧ u = .int .i64 0 ∧ Is W g 25 z.arr ∧ Below w.heap.size w W)
        case first =>
          go_region_held3 (fun w' => w'.cell? ⟨w2.heap.size, 0, none⟩ = some (.int .u32 y.h.a) ∧ w'.cell? ⟨w2.heap.size, 1, none⟩ = some (.int .u32 y.h.b) ∧ w'.cell? ⟨w2.heap.size, 2, none⟩ = some (.int .u32 y.h.c) ∧ w'.cell? ⟨w2.heap.size, 3, none⟩ = some (.int .u32 y.h.d) ∧ w'.cell? ⟨w2.heap.size, 4, none⟩ = some (.int .u32 y.h.e) ∧ w'.cell? ⟨w2.heap.size, 5, none⟩ = some (.int .u32 y.h.f) ∧ w'.cell? ⟨w2.heap.size, 6, none⟩ = some (.int .u32 y.h.g) ∧ w'.cell? ⟨w2.heap.size, 7, none⟩ = some (.int .u32 y.h.h) ∧ w'.cell? ⟨w2.heap.size, 8, none⟩ = some (.string y.r) ∧ w'.cell? ⟨w2.heap.size, 9, none⟩ = some (.int .i64 y.m))
            (go_keep)
            (first
              | (go_at_call 11; refine (ADDC.out _ ?_).mono ?_; (first | exact hTa | exact hTc); rintro e w3 ⟨rfl, hb3⟩; clear a0 a1 a2 a3 a4 a5 a6 a7 a8 a9; (first
                 | (have hq : Is w3 wr.heap.size 25 #[.int .u32 0, .int .u32 0, .int .u32 0, .int .u32 0, .int .u32 0, .int .u32 0, .int .u32 0, .int .u32 0, .string ⟨#[]⟩, .int .i64 0] := (by with_reducible exact Is.below ia hb3 ia.lt); have iX3 : Is w3 w2.heap.size 25 y.arr := Is.below iXa hb3 iXa.lt; have hB3 : Below w.heap.size w w3 := hBa.trans (hb3.mono hBa.size); clear hb3; have x0 : w3.cell? ⟨wr.heap.size, 0, none⟩ = some (.int .u32 0) := hq.cell 0; have x1 : w3.cell? ⟨wr.heap.size, 1, none⟩ = some (.int .u32 0) := hq.cell 1; have x2 : w3.cell? ⟨wr.heap.size, 2, none⟩ = some (.int .u32 0) := hq.cell 2; have x3 : w3.cell? ⟨wr.heap.size, 3, none⟩ = some (.int .u32 0) := hq.cell 3; have x4 : w3.cell? ⟨wr.heap.size, 4, none⟩ = some (.int .u32 0) := hq.cell 4; have x5 : w3.cell? ⟨wr.heap.size, 5, none⟩ = some (.int .u32 0) := hq.cell 5; have x6 : w3.cell? ⟨wr.heap.size, 6, none⟩ = some (.int .u32 0) := hq.cell 6; have x7 : w3.cell? ⟨wr.heap.size, 7, none⟩ = some (.int .u32 0) := hq.cell 7; have x8 : w3.cell? ⟨wr.heap.size, 8, none⟩ = some (.string ⟨#[]⟩) := hq.cell 8; have x9 : w3.cell? ⟨wr.heap.size, 9, none⟩ = some (.int .i64 0) := hq.cell 9; have y0 := hq.frozen 0; have y1 := hq.frozen 1; have y2 := hq.frozen 2; have y3 := hq.frozen 3; have y4 := hq.frozen 4; have y5 := hq.frozen 5; have y6 := hq.frozen 6; have y7 := hq.frozen 7; have y8 := hq.frozen 8; have y9 := hq.frozen 9; have a0 : w3.cell? ⟨w2.heap.size, 0, none⟩ = some (.int .u32 y.h.a) := iX3.cell 0; have a1 : w3.cell? ⟨w2.heap.size, 1, none⟩ = some (.int .u32 y.h.b) := iX3.cell 1; have a2 : w3.cell? ⟨w2.heap.size, 2, none⟩ = some (.int .u32 y.h.c) := iX3.cell 2; have a3 : w3.cell? ⟨w2.heap.size, 3, none⟩ = some (.int .u32 y.h.d) := iX3.cell 3; have a4 : w3.cell? ⟨w2.heap.size, 4, none⟩ = some (.int .u32 y.h.e) := iX3.cell 4; have a5 : w3.cell? ⟨w2.heap.size, 5, none⟩ = some (.int .u32 y.h.f) := iX3.cell 5; have a6 : w3.cell? ⟨w2.heap.size, 6, none⟩ = some (.int .u32 y.h.g) := iX3.cell 6; have a7 : w3.cell? ⟨w2.heap.size, 7, none⟩ = some (.int .u32 y.h.h) := iX3.cell 7; have a8 : w3.cell? ⟨w2.heap.size, 8, none⟩ = some (.string y.r) := iX3.cell 8; have a9 : w3.cell? ⟨w2.heap.size, 9, none⟩ = some (.int .i64 y.m) := iX3.cell 9)
                 | (have iX3 : Is w3 w2.heap.size 25 y.arr := Is.below (iX.drewN 1) hb3 iX.lt; have hB3 : Below w.heap.size w w3 := hBc.trans (hb3.mono hBc.size); have hl3 : w2.heap.size < w3.heap.size := iX3.lt; clear hb3; have a0 : w3.cell? ⟨w2.heap.size, 0, none⟩ = some (.int .u32 y.h.a) := iX3.cell 0; have a1 : w3.cell? ⟨w2.heap.size, 1, none⟩ = some (.int .u32 y.h.b) := iX3.cell 1; have a2 : w3.cell? ⟨w2.heap.size, 2, none⟩ = some (.int .u32 y.h.c) := iX3.cell 2; have a3 : w3.cell? ⟨w2.heap.size, 3, none⟩ = some (.int .u32 y.h.d) := iX3.cell 3; have a4 : w3.cell? ⟨w2.heap.size, 4, none⟩ = some (.int .u32 y.h.e) := iX3.cell 4; have a5 : w3.cell? ⟨w2.heap.size, 5, none⟩ = some (.int .u32 y.h.f) := iX3.cell 5; have a6 : w3.cell? ⟨w2.heap.size, 6, none⟩ = some (.int .u32 y.h.g) := iX3.cell 6; have a7 : w3.cell? ⟨w2.heap.size, 7, none⟩ = some (.int .u32 y.h.h) := iX3.cell 7; have a8 : w3.cell? ⟨w2.heap.size, 8, none⟩ = some (.string y.r) := iX3.cell 8; have a9 : w3.cell? ⟨w2.heap.size, 9, none⟩ = some (.int .i64 y.m) := iX3.cell 9))))
          all_goals go_wp2_with fail
          all_goals go_meet
          all_goals (first
            | (refine ⟨_, rfl, rfl, ?_, ?_⟩; (with_reducible exact Is.new w3 _ _); (exact hB3.alloc hB3.size _))
            | (refine ⟨_, rfl, rfl, ?_, ?_⟩; (exact Is.setH (x := HsZ) hq z); (exact belowH hB3 (by omega) z)))
        case rest =>
          clear a0 a1 a2 a3 a4 a5 a6 a7 a8 a9 ia iXa hBa hBc hTa hTc iX hB hsz hl2 hn1 hn2 hsl ADDC
          obtain ⟨g, rfl, rfl, iZ, hB⟩ := hcut
          have a0 : wc.cell? ⟨g, 0, none⟩ = some (.int .u32 z.h.a) := iZ.cell 0
          have a1 : wc.cell? ⟨g, 1, none⟩ = some (.int .u32 z.h.b) := iZ.cell 1
          have a2 : wc.cell? ⟨g, 2, none⟩ = some (.int .u32 z.h.c) := iZ.cell 2
          have a3 : wc.cell? ⟨g, 3, none⟩ = some (.int .u32 z.h.d) := iZ.cell 3
          have a4 : wc.cell? ⟨g, 4, none⟩ = some (.int .u32 z.h.e) := iZ.cell 4
          have a5 : wc.cell? ⟨g, 5, none⟩ = some (.int .u32 z.h.f) := iZ.cell 5
          have a6 : wc.cell? ⟨g, 6, none⟩ = some (.int .u32 z.h.g) := iZ.cell 6
          have a7 : wc.cell? ⟨g, 7, none⟩ = some (.int .u32 z.h.h) := iZ.cell 7
          have a8 : wc.cell? ⟨g, 8, none⟩ = some (.string z.r) := iZ.cell 8
          have a9 : wc.cell? ⟨g, 9, none⟩ = some (.int .i64 z.m) := iZ.cell 9
          go_wp2_with fail
          refine (end_ok z _ (hT.below hB hT.two) HTR.out).mono ?_
          rintro e w3 ⟨rfl, hb3⟩
          have iZ3 : Is w3 g 25 z.arr := iZ.below hb3 iZ.lt
          have hB3 : Below w.heap.size w w3 := hB.trans (hb3.mono hB.size)
          clear hb3 a0 a1 a2 a3 a4 a5 a6 a7 a8 a9 iZ hB
          go_wp2_with fail
          refine (HSUM.out _ (hT.below hB3 hT.two) HXS.out).mono ?_
          rintro e w4 ⟨rfl, hb4⟩
          have iZ4 : Is w4 g 25 z.arr := iZ3.below hb4 iZ3.lt
          have hB4 : Below w.heap.size w w4 := hB3.trans (hb4.mono hB3.size)
          clear hb4 iZ3 hB3 HSUM
          generalize endS z = es
          go_wp2_with fail
          refine (new_any _ (hT.below hB4 hT.two)).mono ?_
          rintro e w5 ⟨rfl, hb5⟩
          have iZ5 : Is w5 g 25 z.arr := iZ4.below hb5 iZ4.lt
          have hB5 : Below w.heap.size w w5 := hB4.trans (hb5.mono hB4.size)
          clear hb5 iZ4 hB4
          go_wp2_with fail
          refine (ADD0.out _ (hT.below hB5 hT.two)).mono ?_
          rintro e w6 ⟨rfl, hb6⟩
          have iZ6 : Is w6 g 25 z.arr := iZ5.below hb6 iZ5.lt
          have hB6 : Below w.heap.size w w6 := hB5.trans (hb6.mono hB5.size)
          have hl6 : g < w6.heap.size := iZ6.lt
          clear hb6 iZ5 hB5
          have a0 : w6.cell? ⟨g, 0, none⟩ = some (.int .u32 z.h.a) := iZ6.cell 0
          have a1 : w6.cell? ⟨g, 1, none⟩ = some (.int .u32 z.h.b) := iZ6.cell 1
          have a2 : w6.cell? ⟨g, 2, none⟩ = some (.int .u32 z.h.c) := iZ6.cell 2
          have a3 : w6.cell? ⟨g, 3, none⟩ = some (.int .u32 z.h.d) := iZ6.cell 3
          have a4 : w6.cell? ⟨g, 4, none⟩ = some (.int .u32 z.h.e) := iZ6.cell 4
          have a5 : w6.cell? ⟨g, 5, none⟩ = some (.int .u32 z.h.f) := iZ6.cell 5
          have a6 : w6.cell? ⟨g, 6, none⟩ = some (.int .u32 z.h.g) := iZ6.cell 6
          have a7 : w6.cell? ⟨g, 7, none⟩ = some (.int .u32 z.h.h) := iZ6.cell 7
          have a8 : w6.cell? ⟨g, 8, none⟩ = some (.string z.r) := iZ6.cell 8
          have a9 : w6.cell? ⟨g, 9, none⟩ = some (.int .i64 z.m) := iZ6.cell 9
          go_wp2_with fail
          refine (same_self z _).mono ?_
          rintro e w7 ⟨rfl, hb7⟩
          have hB6' := hB6.alloc hB6.size (.cells z.arr 25)
          have hB7 : Below w.heap.size w w7 := hB6'.trans (hb7.mono hB6'.size)
          clear hb7 hB6' hB6 a0 a1 a2 a3 a4 a5 a6 a7 a8 a9
          go_wp2
          go_ret
          exact ⟨rfl, hB7⟩
      · have hd1 : decide ((j : Int) < (len : Int)) = false := by simp; omega
        go_wp2
        go_cut [17, 18] (fun v u W => ∃ g, v = .pointer (some ⟨g, 0, none⟩) ∧ u = .int .i64 0 ∧ Is W g 25 z.arr ∧ Below w.heap.size w W)
        case first =>
          go_region_held3 (fun w' => w'.cell? ⟨w2.heap.size, 0, none⟩ = some (.int .u32 y.h.a) ∧ w'.cell? ⟨w2.heap.size, 1, none⟩ = some (.int .u32 y.h.b) ∧ w'.cell? ⟨w2.heap.size, 2, none⟩ = some (.int .u32 y.h.c) ∧ w'.cell? ⟨w2.heap.size, 3, none⟩ = some (.int .u32 y.h.d) ∧ w'.cell? ⟨w2.heap.size, 4, none⟩ = some (.int .u32 y.h.e) ∧ w'.cell? ⟨w2.heap.size, 5, none⟩ = some (.int .u32 y.h.f) ∧ w'.cell? ⟨w2.heap.size, 6, none⟩ = some (.int .u32 y.h.g) ∧ w'.cell? ⟨w2.heap.size, 7, none⟩ = some (.int .u32 y.h.h) ∧ w'.cell? ⟨w2.heap.size, 8, none⟩ = some (.string y.r) ∧ w'.cell? ⟨w2.heap.size, 9, none⟩ = some (.int .i64 y.m))
            (go_keep)
            (first
              | (go_at_call 11; refine (ADDC.out _ ?_).mono ?_; (first | exact hTa | exact hTc); rintro e w3 ⟨rfl, hb3⟩; clear a0 a1 a2 a3 a4 a5 a6 a7 a8 a9; (first
                 | (have hq : Is w3 wr.heap.size 25 #[.int .u32 0, .int .u32 0, .int .u32 0, .int .u32 0, .int .u32 0, .int .u32 0, .int .u32 0, .int .u32 0, .string ⟨#[]⟩, .int .i64 0] := (by with_reducible exact Is.below ia hb3 ia.lt); have iX3 : Is w3 w2.heap.size 25 y.arr := Is.below iXa hb3 iXa.lt; have hB3 : Below w.heap.size w w3 := hBa.trans (hb3.mono hBa.size); clear hb3; have x0 : w3.cell? ⟨wr.heap.size, 0, none⟩ = some (.int .u32 0) := hq.cell 0; have x1 : w3.cell? ⟨wr.heap.size, 1, none⟩ = some (.int .u32 0) := hq.cell 1; have x2 : w3.cell? ⟨wr.heap.size, 2, none⟩ = some (.int .u32 0) := hq.cell 2; have x3 : w3.cell? ⟨wr.heap.size, 3, none⟩ = some (.int .u32 0) := hq.cell 3; have x4 : w3.cell? ⟨wr.heap.size, 4, none⟩ = some (.int .u32 0) := hq.cell 4; have x5 : w3.cell? ⟨wr.heap.size, 5, none⟩ = some (.int .u32 0) := hq.cell 5; have x6 : w3.cell? ⟨wr.heap.size, 6, none⟩ = some (.int .u32 0) := hq.cell 6; have x7 : w3.cell? ⟨wr.heap.size, 7, none⟩ = some (.int .u32 0) := hq.cell 7; have x8 : w3.cell? ⟨wr.heap.size, 8, none⟩ = some (.string ⟨#[]⟩) := hq.cell 8; have x9 : w3.cell? ⟨wr.heap.size, 9, none⟩ = some (.int .i64 0) := hq.cell 9; have y0 := hq.frozen 0; have y1 := hq.frozen 1; have y2 := hq.frozen 2; have y3 := hq.frozen 3; have y4 := hq.frozen 4; have y5 := hq.frozen 5; have y6 := hq.frozen 6; have y7 := hq.frozen 7; have y8 := hq.frozen 8; have y9 := hq.frozen 9; have a0 : w3.cell? ⟨w2.heap.size, 0, none⟩ = some (.int .u32 y.h.a) := iX3.cell 0; have a1 : w3.cell? ⟨w2.heap.size, 1, none⟩ = some (.int .u32 y.h.b) := iX3.cell 1; have a2 : w3.cell? ⟨w2.heap.size, 2, none⟩ = some (.int .u32 y.h.c) := iX3.cell 2; have a3 : w3.cell? ⟨w2.heap.size, 3, none⟩ = some (.int .u32 y.h.d) := iX3.cell 3; have a4 : w3.cell? ⟨w2.heap.size, 4, none⟩ = some (.int .u32 y.h.e) := iX3.cell 4; have a5 : w3.cell? ⟨w2.heap.size, 5, none⟩ = some (.int .u32 y.h.f) := iX3.cell 5; have a6 : w3.cell? ⟨w2.heap.size, 6, none⟩ = some (.int .u32 y.h.g) := iX3.cell 6; have a7 : w3.cell? ⟨w2.heap.size, 7, none⟩ = some (.int .u32 y.h.h) := iX3.cell 7; have a8 : w3.cell? ⟨w2.heap.size, 8, none⟩ = some (.string y.r) := iX3.cell 8; have a9 : w3.cell? ⟨w2.heap.size, 9, none⟩ = some (.int .i64 y.m) := iX3.cell 9)
                 | (have iX3 : Is w3 w2.heap.size 25 y.arr := Is.below (iX.drewN 1) hb3 iX.lt; have hB3 : Below w.heap.size w w3 := hBc.trans (hb3.mono hBc.size); have hl3 : w2.heap.size < w3.heap.size := iX3.lt; clear hb3; have a0 : w3.cell? ⟨w2.heap.size, 0, none⟩ = some (.int .u32 y.h.a) := iX3.cell 0; have a1 : w3.cell? ⟨w2.heap.size, 1, none⟩ = some (.int .u32 y.h.b) := iX3.cell 1; have a2 : w3.cell? ⟨w2.heap.size, 2, none⟩ = some (.int .u32 y.h.c) := iX3.cell 2; have a3 : w3.cell? ⟨w2.heap.size, 3, none⟩ = some (.int .u32 y.h.d) := iX3.cell 3; have a4 : w3.cell? ⟨w2.heap.size, 4, none⟩ = some (.int .u32 y.h.e) := iX3.cell 4; have a5 : w3.cell? ⟨w2.heap.size, 5, none⟩ = some (.int .u32 y.h.f) := iX3.cell 5; have a6 : w3.cell? ⟨w2.heap.size, 6, none⟩ = some (.int .u32 y.h.g) := iX3.cell 6; have a7 : w3.cell? ⟨w2.heap.size, 7, none⟩ = some (.int .u32 y.h.h) := iX3.cell 7; have a8 : w3.cell? ⟨w2.heap.size, 8, none⟩ = some (.string y.r) := iX3.cell 8; have a9 : w3.cell? ⟨w2.heap.size, 9, none⟩ = some (.int .i64 y.m) := iX3.cell 9))))
          all_goals go_wp2_with fail
          all_goals go_meet
          all_goals (first
            | (refine ⟨_, rfl, rfl, ?_, ?_⟩; (with_reducible exact Is.new w3 _ _); (exact hB3.alloc hB3.size _))
            | (refine ⟨_, rfl, rfl, ?_, ?_⟩; (exact Is.setH (x := HsZ) hq z); (exact belowH hB3 (by omega) z)))
        case rest =>
          clear a0 a1 a2 a3 a4 a5 a6 a7 a8 a9 ia iXa hBa hBc hTa hTc iX hB hsz hl2 hn1 hn2 hsl ADDC
          obtain ⟨g, rfl, rfl, iZ, hB⟩ := hcut
          have a0 : wc.cell? ⟨g, 0, none⟩ = some (.int .u32 z.h.a) := iZ.cell 0
          have a1 : wc.cell? ⟨g, 1, none⟩ = some (.int .u32 z.h.b) := iZ.cell 1
          have a2 : wc.cell? ⟨g, 2, none⟩ = some (.int .u32 z.h.c) := iZ.cell 2
          have a3 : wc.cell? ⟨g, 3, none⟩ = some (.int .u32 z.h.d) := iZ.cell 3
          have a4 : wc.cell? ⟨g, 4, none⟩ = some (.int .u32 z.h.e) := iZ.cell 4
          have a5 : wc.cell? ⟨g, 5, none⟩ = some (.int .u32 z.h.f) := iZ.cell 5
          have a6 : wc.cell? ⟨g, 6, none⟩ = some (.int .u32 z.h.g) := iZ.cell 6
          have a7 : wc.cell? ⟨g, 7, none⟩ = some (.int .u32 z.h.h) := iZ.cell 7
          have a8 : wc.cell? ⟨g, 8, none⟩ = some (.string z.r) := iZ.cell 8
          have a9 : wc.cell? ⟨g, 9, none⟩ = some (.int .i64 z.m) := iZ.cell 9
          go_wp2_with fail
          refine (end_ok z _ (hT.below hB hT.two) HTR.out).mono ?_
          rintro e w3 ⟨rfl, hb3⟩
          have iZ3 : Is w3 g 25 z.arr := iZ.below hb3 iZ.lt
          have hB3 : Below w.heap.size w w3 := hB.trans (hb3.mono hB.size)
          clear hb3 a0 a1 a2 a3 a4 a5 a6 a7 a8 a9 iZ hB
          go_wp2_with fail
          refine (HSUM.out _ (hT.below hB3 hT.two) HXS.out).mono ?_
          rintro e w4 ⟨rfl, hb4⟩
          have iZ4 : Is w4 g 25 z.arr := iZ3.below hb4 iZ3.lt
          have hB4 : Below w.heap.size w w4 := hB3.trans (hb4.mono hB3.size)
          clear hb4 iZ3 hB3 HSUM
          generalize endS z = es
          go_wp2_with fail
          refine (new_any _ (hT.below hB4 hT.two)).mono ?_
          rintro e w5 ⟨rfl, hb5⟩
          have iZ5 : Is w5 g 25 z.arr := iZ4.below hb5 iZ4.lt
          have hB5 : Below w.heap.size w w5 := hB4.trans (hb5.mono hB4.size)
          clear hb5 iZ4 hB4
          go_wp2_with fail
          refine (ADD0.out _ (hT.below hB5 hT.two)).mono ?_
          rintro e w6 ⟨rfl, hb6⟩
          have iZ6 : Is w6 g 25 z.arr := iZ5.below hb6 iZ5.lt
          have hB6 : Below w.heap.size w w6 := hB5.trans (hb6.mono hB5.size)
          have hl6 : g < w6.heap.size := iZ6.lt
          clear hb6 iZ5 hB5
          have a0 : w6.cell? ⟨g, 0, none⟩ = some (.int .u32 z.h.a) := iZ6.cell 0
          have a1 : w6.cell? ⟨g, 1, none⟩ = some (.int .u32 z.h.b) := iZ6.cell 1
          have a2 : w6.cell? ⟨g, 2, none⟩ = some (.int .u32 z.h.c) := iZ6.cell 2
          have a3 : w6.cell? ⟨g, 3, none⟩ = some (.int .u32 z.h.d) := iZ6.cell 3
          have a4 : w6.cell? ⟨g, 4, none⟩ = some (.int .u32 z.h.e) := iZ6.cell 4
          have a5 : w6.cell? ⟨g, 5, none⟩ = some (.int .u32 z.h.f) := iZ6.cell 5
          have a6 : w6.cell? ⟨g, 6, none⟩ = some (.int .u32 z.h.g) := iZ6.cell 6
          have a7 : w6.cell? ⟨g, 7, none⟩ = some (.int .u32 z.h.h) := iZ6.cell 7
          have a8 : w6.cell? ⟨g, 8, none⟩ = some (.string z.r) := iZ6.cell 8
          have a9 : w6.cell? ⟨g, 9, none⟩ = some (.int .i64 z.m) := iZ6.cell 9
          go_wp2_with fail
          refine (same_self z _).mono ?_
          rintro e w7 ⟨rfl, hb7⟩
          have hB6' := hB6.alloc hB6.size (.cells z.arr 25)
          have hB7 : Below w.heap.size w w7 := hB6'.trans (hb7.mono hB6'.size)
          clear hb7 hB6' hB6 a0 a1 a2 a3 a4 a5 a6 a7 a8 a9
          go_wp2
          go_ret
          exact ⟨rfl, hB7⟩
end Go.Proofs.YtfakpecclhcjiaaDoor
