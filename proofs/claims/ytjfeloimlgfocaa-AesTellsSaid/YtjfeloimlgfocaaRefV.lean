/-
  The document's own answer for layer 4, its helpers over lists of bytes; Run. Conditions: bytes; blocks of 16; round keys of 16 bytes each.
-/
import Derived.Test.YtjfeloimlgfocaaRefX
import Derived.Test.YtjfeloimlgfocaaRefY
import Derived.Test.YtjfeloimlgfocaaRefZ
import Derived.Test.YtjfeloimlgfocaaRefU
import Derived.Test.YtjfeloimlgfocaaKitInR
namespace Go.Proofs.Ytjfeloimlgfocaa
open Go.RowKit Go.Shelf

theorem ext_strN {L : List Nat} (hL : ∀ x ∈ L, x < 256) (a b : Nat) : (strN L).extract a b = strN ((L.drop a).take (b - a)) := natL_inj (by
  rw [natL_extract, strN_nat hL, strN_nat (fun x hx => hL x (List.drop_subset a L (List.take_subset _ _ hx)))])
theorem strN_pos {L : List Nat} (h : 0 < L.length) : 0 < (strN L).size := by rw [strN_size]; exact h
theorem lSub (L : List Nat) (w : World) (h0 : 0 < L.length) (h1 : L.length ≤ 1000) (hL : ∀ x ∈ L, x < 256) :
    Calls Try.prog 40 #[.string (strN L), .agg (nA TS)] w fun e w' => e = .returned (.string (strN (subL L))) ∧ Below w.heap.size w w' := by
  have := rsubbed_any (strN L) TS w (by rw [strN_size]; exact h0) (by rw [strN_size]; exact h1) ts_len
  rwa [strN_nat hL] at this
theorem lBack (L : List Nat) (w : World) (h0 : 0 < L.length) (h1 : L.length ≤ 1000) (hL : ∀ x ∈ L, x < 256) :
    Calls Try.prog 40 #[.string (strN L), .agg (nA TB)] w fun e w' => e = .returned (.string (strN (backL L))) ∧ Below w.heap.size w w' := by
  have := rsubbed_any (strN L) TB w (by rw [strN_size]; exact h0) (by rw [strN_size]; exact h1) tb_len
  rwa [strN_nat hL] at this
theorem lXor (a b : List Nat) (w : World) (h0 : 0 < a.length) (h1 : a.length ≤ 1000) (hab : b.length = a.length) (ha : ∀ x ∈ a, x < 256) (hb : ∀ x ∈ b, x < 256) :
    Calls Try.prog 38 #[.string (strN a), .string (strN b)] w fun e w' => e = .returned (.string (strN (xorB a b))) ∧ Below w.heap.size w w' := by
  have := rxor_any (strN a) (strN b) w (by rw [strN_size]; exact h0) (by rw [strN_size]; exact h1) (by rw [strN_size, strN_size, hab])
  rwa [strN_nat ha, strN_nat hb] at this
theorem lSh1 {L : List Nat} (h : Blk L) (w : World) :
    Calls Try.prog 41 #[.string (strN L), .int .i64 1] w fun e w' => e = .returned (.string (strN (shiftL L 1))) ∧ Below w.heap.size w w' := by
  have := rshifted_1 (strN L) w (by rw [strN_size, h.len])
  rwa [strN_nat h.lt] at this
theorem lSh3 {L : List Nat} (h : Blk L) (w : World) :
    Calls Try.prog 41 #[.string (strN L), .int .i64 3] w fun e w' => e = .returned (.string (strN (shiftL L 3))) ∧ Below w.heap.size w w' := by
  have := rshifted_3 (strN L) w (by rw [strN_size, h.len])
  rwa [strN_nat h.lt] at this
theorem lMix {L : List Nat} (h : Blk L) (w : World) :
    Calls Try.prog 39 #[.string (strN L)] w fun e w' => e = .returned (.string (strN (mixL L))) ∧ Below w.heap.size w w' := by
  have := rmixed_any (strN L) w (by rw [strN_size, h.len])
  rwa [strN_nat h.lt] at this
/-- a round key among all of them. -/
def rkN (E : List Nat) (r : Nat) : List Nat := (E.drop (16 * r)).take 16
theorem rkN_blk {E : List Nat} (hE : ∀ x ∈ E, x < 256) {r : Nat} (h : 16 * (r + 1) ≤ E.length) : Blk (rkN E r) :=
  ⟨by rw [rkN, List.length_take, List.length_drop]; omega, fun x hx => hE x (List.drop_subset _ _ (List.take_subset _ _ hx))⟩
theorem run_slice_mid {P : Program} {t : TypeId} (hu : P.underlying t = some .string) {L : List Nat} (hL : ∀ x ∈ L, x < 256) (a b : Nat) (ia ib : Int) (ha : ia = (a : Int)) (hb : ib = (b : Int)) (hab : a ≤ b) (hl : b ≤ L.length) (w : World) :
    (Instr.slice t (.string (strN L)) (some (.int .i64 ia)) (some (.int .i64 ib)) none).run P w = .ok (.string (strN ((L.drop a).take (b - a)))) w := by
  subst ha hb
  rw [run_slice_string (P := P) (w := w) t (strN L) .i64 .i64 (a : Int) (b : Int) hu (by omega) (by omega) (by rw [strN_size]; omega)]
  rw [Int.toNat_natCast, Int.toNat_natCast, ext_strN hL]
theorem run_slice_to {P : Program} {t : TypeId} (hu : P.underlying t = some .string) {L : List Nat} (hL : ∀ x ∈ L, x < 256) (b : Nat) (ib : Int) (hb : ib = (b : Int)) (hl : b ≤ L.length) (w : World) :
    (Instr.slice t (.string (strN L)) none (some (.int .i64 ib)) none).run P w = .ok (.string (strN (L.take b))) w := by
  subst hb
  have := run_slice_string_h (P := P) (w := w) (t := t) (s := strN L) hu .i64 (b : Int) (by omega) (by rw [strN_size]; omega)
  rw [this, Int.toNat_natCast, ext_strN hL, List.drop_zero, Nat.sub_zero]
theorem run_slice_from {P : Program} {t : TypeId} (hu : P.underlying t = some .string) {L : List Nat} (hL : ∀ x ∈ L, x < 256) (a : Nat) (ia : Int) (ha : ia = (a : Int)) (hl : a ≤ L.length) (w : World) :
    (Instr.slice t (.string (strN L)) (some (.int .i64 ia)) none none).run P w = .ok (.string (strN (L.drop a))) w := by
  subst ha
  have := run_slice_string_l (P := P) (w := w) (t := t) (s := strN L) hu .i64 (a : Int) (by omega) (by rw [strN_size]; omega)
  rw [this, Int.toNat_natCast, ext_strN hL, strN_size, List.take_of_length_le (by rw [List.length_drop]; exact Nat.le_refl _)]
theorem ts_in : (Try.prog.info? 63).map (·.size) = some (nA TS).size := by rw [nA_size, ts_len]; exact size256
theorem tb_in : (Try.prog.info? 63).map (·.size) = some (nA TB).size := by rw [nA_size, tb_len]; exact size256

set_option maxRecDepth 100000 in
set_option maxHeartbeats 2000000 in
theorem rrun_any (E S : List Nat) (R : Nat) (w : World) (hE : ∀ x ∈ E, x < 256) (hl : E.length = 16 * (R + 1)) (hR : R ≤ 20) (hS : Blk S) :
    Calls Try.prog 33 #[.string (strN E), .string (strN S), .agg (nA TS)] w fun e w' => e = .returned (.string (strN (encN (rkN E) R S R))) ∧ Below w.heap.size w w' := by
  have HK := Lib.hid (fun r (h : r ≤ R) => rkN_blk hE (r := r) (by omega))
  have hin := ts_in
  have SB := Lib.hid lSub
  have hz : ((strN E).size : Int) = 16 * ((R : Int) + 1) := by rw [strN_size, hl]; omega
  have hq1 : (16 * ((R : Int) + 1)).tdiv 16 = (R : Int) + 1 := by rw [Int.tdiv_eq_ediv_of_nonneg (by omega)]; omega
  have hq2 : (16 * ((R : Int) + 1)) / 16 = (R : Int) + 1 := by omega
  have s0 : ∀ wx : World, (Instr.slice 9 (.string (strN E)) none (some (.int .i64 16)) none).run Try.prog wx = .ok (.string (strN (rkN E 0))) wx := fun wx => run_slice_to Try.underlying9 hE 16 16 rfl (by omega) wx
  have HSL := Lib.hid (fun r (h : r ≤ R) (wx : World) => run_slice_mid (P := Try.prog) (t := 9) Try.underlying9 hE (16 * r) (16 * r + 16) (16 * (r : Int)) (16 * (r : Int) + 16) (by omega) (by omega) (by omega) (by omega) wx)
  have HS := Lib.hid hS
  have iT : Is (w.alloc (.cells (nA TS) 63)) w.heap.size 63 (nA TS) := Is.new w _ _
  have hB0 : Below w.heap.size w (w.alloc (.cells (nA TS) 63)) := (Below.refl _ _).alloc (Nat.le_refl _) _
  have HE := Lib.hid (fun i (h : i < R) => show encN (rkN E) R S (i + 1) = rndN (rkN E (i + 1)) (decide (i + 1 < R)) (encN (rkN E) R S i) from rfl)
  have HB := Lib.hid (fun i (h : i ≤ R) => encN_blk (K := rkN E) (R := R) HK.out hS i h)
  have X0 := Lib.hid (fun w => lXor S (rkN E 0) w (by rw [hS.len]; omega) (by rw [hS.len]; omega) (by rw [hS.len, (HK.out 0 (by omega)).len]) hS.lt (HK.out 0 (by omega)).lt)
  generalize nA TS = RT at *
  generalize hEE : strN E = EE at *
  clear hS hE hl hEE
  go_enter Try.func33, Try.ntmps33
  go_wp2_with fail
  refine (X0.out _).mono ?_
  rintro e w1 ⟨rfl, h1⟩
  have iT1 := iT.below h1 iT.lt
  have hB1 : Below w.heap.size w w1 := hB0.trans (h1.mono hB0.size)
  have hbt : w.heap.size ≤ w.heap.size := Nat.le_refl _
  clear iT hB0 h1 s0 hz hq1 hq2
  go_wp2
  go_loopw [8, 9] (fun t i wr => ∃ q : Nat, 1 ≤ q ∧ q ≤ R + 1 ∧ i = .int .i64 (q : Int) ∧ t = .string (strN (encN (rkN E) R S (q - 1))) ∧ Is wr w.heap.size 63 RT ∧ Below w.heap.size w wr)
    (fun _ i _ => R + 1 - (intOf i).toNat)
  case atStart => exact ⟨1, by omega, by omega, rfl, rfl, iT1, hB1⟩
  case round =>
    clear iT1 hB1
    obtain ⟨q, hq0, hq1, rfl, rfl, iT, hB⟩ := hrel
    by_cases hlt : q ≤ R
    · have hd1 : (q : Int) ≤ (R : Int) := by omega
      have bV := HB.out (q - 1) (by omega)
      have bK := HK.out q hlt
      have hst := HE.out (q - 1) (by omega)
      rw [show q - 1 + 1 = q by omega] at hst
      have hsl := fun wx => HSL.out q hlt wx
      simp only [show 16 * q + 16 - 16 * q = 16 by omega] at hsl
      change ∀ wx, _ = Result.ok (Value.string (strN (rkN E q))) wx at hsl
      generalize encN (rkN E) R S (q - 1) = V at *
      have C1 := Lib.hid (fun w => SB.out V w (by rw [bV.len]; omega) (by rw [bV.len]; omega) bV.lt)
      have C2 := Lib.hid (fun w => lSh1 bV.sub w)
      have C3 := Lib.hid (fun w => lMix (bV.sub.shift 1) w)
      by_cases hm : q < R
      · have hd2 : (q : Int) < (R : Int) := by omega
        rw [show decide (q < R) = true by simpa using hm] at hst
        change _ = xorB (mixL (shiftL (subL V) 1)) (rkN E q) at hst
        have C4 := Lib.hid (fun w => lXor (mixL (shiftL (subL V) 1)) (rkN E q) w (by rw [(bV.sub.shift 1).mix.len]; omega) (by rw [(bV.sub.shift 1).mix.len]; omega) (by rw [(bV.sub.shift 1).mix.len, bK.len]) (bV.sub.shift 1).mix.lt bK.lt)
        have HST := Lib.hid hst
        clear hst
        generalize rkN E q = KK at *
        generalize mixL (shiftL (subL V) 1) = V3 at *
        generalize shiftL (subL V) 1 = V2 at *
        generalize subL V = V1 at *
        go_wp2_with (first
          | (refine wpList_load_row rfl 63 _ rfl w.heap.size rfl _ _ _ _ iT Try.underlying63 rfl hin ?_)
          | (go_at_call 40; refine (C1.out _).mono ?_; rintro e v ⟨rfl, hb⟩; replace iT := iT.below hb iT.lt; replace hB := hB.trans (hb.mono hB.size); clear hb)
          | (go_at_call 41; refine (C2.out _).mono ?_; rintro e v ⟨rfl, hb⟩; replace iT := iT.below hb iT.lt; replace hB := hB.trans (hb.mono hB.size); clear hb)
          | (go_at_call 39; refine (C3.out _).mono ?_; rintro e v ⟨rfl, hb⟩; replace iT := iT.below hb iT.lt; replace hB := hB.trans (hb.mono hB.size); clear hb)
          | (go_at_call 38; refine (C4.out _).mono ?_; rintro e v ⟨rfl, hb⟩; replace iT := iT.below hb iT.lt; replace hB := hB.trans (hb.mono hB.size); clear hb))
        go_roundw
        case rel => exact ⟨q + 1, by omega, by omega, by go_num, by rw [Nat.add_sub_cancel, HST.out], iT, hB⟩
        case measure => simp [intOf]; omega
      · have hd2 : ¬ (q : Int) < (R : Int) := by omega
        rw [show decide (q < R) = false by simpa using hm] at hst
        change _ = xorB (shiftL (subL V) 1) (rkN E q) at hst
        have C4 := Lib.hid (fun w => lXor (shiftL (subL V) 1) (rkN E q) w (by rw [(bV.sub.shift 1).len]; omega) (by rw [(bV.sub.shift 1).len]; omega) (by rw [(bV.sub.shift 1).len, bK.len]) (bV.sub.shift 1).lt bK.lt)
        have HST := Lib.hid hst
        clear hst
        generalize rkN E q = KK at *
        generalize shiftL (subL V) 1 = V2 at *
        generalize subL V = V1 at *
        go_wp2_with (first
          | (refine wpList_load_row rfl 63 _ rfl w.heap.size rfl _ _ _ _ iT Try.underlying63 rfl hin ?_)
          | (go_at_call 40; refine (C1.out _).mono ?_; rintro e v ⟨rfl, hb⟩; replace iT := iT.below hb iT.lt; replace hB := hB.trans (hb.mono hB.size); clear hb)
          | (go_at_call 41; refine (C2.out _).mono ?_; rintro e v ⟨rfl, hb⟩; replace iT := iT.below hb iT.lt; replace hB := hB.trans (hb.mono hB.size); clear hb)
          | (go_at_call 38; refine (C4.out _).mono ?_; rintro e v ⟨rfl, hb⟩; replace iT := iT.below hb iT.lt; replace hB := hB.trans (hb.mono hB.size); clear hb))
        go_roundw
        case rel => exact ⟨q + 1, by omega, by omega, by go_num, by rw [Nat.add_sub_cancel, HST.out], iT, hB⟩
        case measure => simp [intOf]; omega
    · obtain rfl : q = R + 1 := by omega
      rw [Nat.add_sub_cancel]
      generalize hV : encN (rkN E) R S R = V at *
      have HV := Lib.hid hV
      clear hV
      have hd1 : ¬ ((R : Int) + 1 ≤ (R : Int)) := by omega
      have hd2 : ¬ (((R + 1 : Nat) : Int) ≤ (R : Int)) := by omega
      go_wp2
      go_ret
      exact ⟨by rw [HV.out]; rfl, hB⟩
end Go.Proofs.Ytjfeloimlgfocaa
