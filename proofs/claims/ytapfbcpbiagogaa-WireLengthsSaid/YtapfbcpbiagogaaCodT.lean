/-
  Contracts of codec.right, firstNumber, firstText. Condition: bytes that a right cursor may have.
-/
import Derived.Test.YtapfbcpbiagogaaCodR
import Derived.Test.YtapfbcpbiagogaaCodB
namespace Go.Proofs.Ytapfbcpbiagogaa
open Go.RowKit Go.Shelf

theorem tor10 (y z : Nat) (hy : y < 16777216) (hz : z < 256) : bits .or .i64 ((y : Int) * 256) (z : Int) = ((256 * y + z : Nat) : Int) := by
  have h1 : (BitVec.ofInt 64 ((y : Int) * 256)).toNat = y * 256 := by
    rw [show (y : Int) * 256 = ((y * 256 : Nat) : Int) by omega, BitVec.ofInt_natCast, BitVec.toNat_ofNat]; exact Nat.mod_eq_of_lt (by omega)
  have h2 : (BitVec.ofInt 64 (z : Int)).toNat = z := by
    rw [BitVec.ofInt_natCast, BitVec.toNat_ofNat]; exact Nat.mod_eq_of_lt (by omega)
  have h3 : y * 256 ||| z = y * 256 + z := by
    rw [show y * 256 = 2 ^ 8 * y by omega, ← Nat.two_pow_add_eq_or_of_lt (by omega)]
  show IntKind.i64.wrap ((BitVec.ofInt 64 ((y : Int) * 256) ||| BitVec.ofInt 64 (z : Int)).toNat : Int) = _
  rw [BitVec.toNat_or, h1, h2, h3]
  have := IntWalk.i64_in ((256 * y + z : Nat) : Int) (by omega)
  rw [show ((y * 256 + z : Nat) : Int) = ((256 * y + z : Nat) : Int) by omega]
  exact this
/-- the number that the first bytes are. -/
def rdk10 (s : ByteArray) : Nat → Nat
  | 0 => 0
  | k + 1 => 256 * rdk10 s k + bt7 s k
theorem rdk_four10 (s : ByteArray) : rdk10 s 4 = rd10 s 0 := by
  simp only [rdk10, rd10, Nat.zero_add]; omega
theorem rdk_bd10 (s : ByteArray) (k : Nat) (h : k < 4) : rdk10 s k < 16777216 := by
  have h0 := bt7_lt s 0
  have h1 := bt7_lt s 1
  have h2 := bt7_lt s 2
  rcases (by omega : k = 0 ∨ k = 1 ∨ k = 2 ∨ k = 3) with rfl | rfl | rfl | rfl <;> simp only [rdk10] <;> omega

set_option maxRecDepth 100000 in
set_option maxHeartbeats 1000000 in
theorem cright_any10 (B : ByteArray) (a : Int) (w : World) :
    Calls Try.prog 75 #[.agg #[.string B, .int .i64 a]] w fun e w' => e = .returned (.bool (rightV B a)) ∧ Below w.heap.size w w' := by
  have HD : Hid (rightV B a = (decide ((B.size : Int) ≤ 65536) && (decide (0 ≤ a) && decide (a ≤ (B.size : Int))))) := Lib.hid rfl
  generalize rightV B a = R at *
  have hB : Below w.heap.size w (w.alloc (.cells #[.string B, .int .i64 a] 64)) := (Below.refl _ _).alloc (Nat.le_refl _) _
  have i1 := Is.new w 64 #[.string B, .int .i64 a]
  have c0 : (w.alloc (.cells #[.string B, .int .i64 a] 64)).cell? ⟨w.heap.size, 0, none⟩ = some (.string B) := i1.cell 0
  have c1 : (w.alloc (.cells #[.string B, .int .i64 a] 64)).cell? ⟨w.heap.size, 1, none⟩ = some (.int .i64 a) := i1.cell 1
  clear i1
  by_cases h1 : (B.size : Int) ≤ 65536
  · by_cases h2 : 0 ≤ a
    · by_cases h3 : a ≤ (B.size : Int)
      · obtain rfl : R = true := by rw [HD.out]; simp [h1, h2, h3]
        go_enter Try.func75, Try.ntmps75
        go_wp2
        go_ret
        exact ⟨rfl, hB⟩
      · obtain rfl : R = false := by rw [HD.out]; simp [h3]
        go_enter Try.func75, Try.ntmps75
        go_wp2
        go_ret
        exact ⟨rfl, hB⟩
    · obtain rfl : R = false := by rw [HD.out]; simp [h2]
      go_enter Try.func75, Try.ntmps75
      go_wp2
      go_ret
      exact ⟨rfl, hB⟩
  · obtain rfl : R = false := by rw [HD.out]; simp [h1]
    go_enter Try.func75, Try.ntmps75
    go_wp2
    go_ret
    exact ⟨rfl, hB⟩
def fnR10 (s : ByteArray) : Value := .tuple #[.int .i64 (tnV10 s 0).1, .int .i64 (tnV10 s 0).2.1, .int .i64 (tnV10 s 0).2.2]
theorem right_zero10 {s : ByteArray} (h : s.size ≤ 65536) : rightV s 0 = true := rightV_iff.2 ⟨h, by omega, by omega⟩
theorem fnR_short10 {s : ByteArray} (h : s.size ≤ 65536) (h4 : s.size < 4) : fnR10 s = .tuple #[.int .i64 0, .int .i64 0, .int .i64 10] := by
  rw [fnR10, tnV10, if_pos (right_zero10 h), if_pos (by omega)]
theorem fnR_form10 {s : ByteArray} (h : s.size ≤ 65536) (h4 : ¬ s.size < 4) (h5 : 2147483647 < rd10 s 0) : fnR10 s = .tuple #[.int .i64 0, .int .i64 0, .int .i64 13] := by
  rw [fnR10, tnV10, if_pos (right_zero10 h), if_neg (by omega), if_pos (by show 2147483647 < (rd10 s 0 : Int); omega)]
theorem fnR_ok10 {s : ByteArray} (h : s.size ≤ 65536) (h4 : ¬ s.size < 4) (h5 : ¬ 2147483647 < rd10 s 0) : fnR10 s = .tuple #[.int .i64 (rd10 s 0 : Int), .int .i64 4, .int .i64 0] := by
  rw [fnR10, tnV10, if_pos (right_zero10 h), if_neg (by omega), if_neg (by show ¬ 2147483647 < (rd10 s 0 : Int); omega)]
  rfl

set_option maxRecDepth 100000 in
set_option maxHeartbeats 2000000 in
theorem fnum_any10 (s : ByteArray) (w : World) (h : s.size ≤ 65536) :
    Calls Try.prog 72 #[.string s] w fun e w' => e = .returned (fnR10 s) ∧ w = w' := by
  by_cases h4 : s.size < 4
  · have h1 : (s.size : Int) < 4 := by omega
    rw [fnR_short10 h h4]
    clear h h4
    go_enter Try.func72, Try.ntmps72
    go_wp2
    go_ret3
    exact ⟨rfl, rfl⟩
  · have h1 : ¬ (s.size : Int) < 4 := by omega
    have HF := Lib.hid (fnR_form10 h h4)
    have HO := Lib.hid (fnR_ok10 h h4)
    rw [← rdk_four10] at HF HO
    have H4 := Lib.hid h4
    have HBD := Lib.hid (rdk_bd10 s)
    clear h h4
    generalize fnR10 s = R at *
    go_enter Try.func72, Try.ntmps72
    go_wp2
    go_loopw [5, 10] (fun n i wr => ∃ k : Nat, k ≤ 4 ∧ i = .int .i64 (k : Int) ∧ n = .int .i64 (rdk10 s k : Int) ∧ w = wr)
      (fun _ i _ => 4 - (intOf i).toNat)
    case atStart => exact ⟨0, by omega, rfl, rfl, rfl⟩
    case round =>
      obtain ⟨k, hk, rfl, rfl, rfl⟩ := hrel
      by_cases hlt : k < 4
      · have h2 : (k : Int) < 4 := by omega
        have hb := HBD.out k hlt
        have HST := Lib.hid (show rdk10 s (k + 1) = 256 * rdk10 s k + bt7 s k from rfl)
        have hkl : k < s.size := by have := H4.out; omega
        have hget := bt7_get hkl
        have hbl := bt7_lt s k
        generalize rdk10 s k = y at *
        generalize bt7 s k = z at *
        have wp := IntWalk.i64_in ((y : Int) * 256) (by omega)
        have hor := tor10 y z hb hbl
        go_wp2
        go_roundw
        case rel => exact ⟨k + 1, by omega, by go_num, by rw [HST.out]; go_num, trivial⟩
        case measure => simp [intOf]; omega
      · have h2 : ¬ (k : Int) < 4 := by omega
        obtain rfl : k = 4 := by omega
        generalize rdk10 s 4 = N at *
        by_cases hN : 2147483647 < N
        · have h3 : 2147483647 < (N : Int) := by omega
          have HR := Lib.hid (HF.out hN)
          clear hN HF HO
          go_wp2
          go_ret3
          exact ⟨by rw [HR.out]; rfl, rfl⟩
        · have h3 : ¬ 2147483647 < (N : Int) := by omega
          have HR := Lib.hid (HO.out hN)
          clear hN HF HO
          go_wp2
          go_ret3
          exact ⟨by rw [HR.out]; rfl, rfl⟩
def ftR10 (s : ByteArray) : Value := .tuple #[.string (ttV10 s 0).1, .int .i64 (ttV10 s 0).2.1, .int .i64 (ttV10 s 0).2.2]

set_option maxRecDepth 100000 in
set_option maxHeartbeats 2000000 in
theorem ftext_any10 (s : ByteArray) (w : World) (h : s.size ≤ 65536) :
    Calls Try.prog 82 #[.string s] w fun e w' => e = .returned (ftR10 s) ∧ Below w.heap.size w w' := by
  have HN := fnum_any10 s w h
  by_cases h0 : (tnV10 s 0).2.2 = 0
  · obtain ⟨hN, hb⟩ := tn_ok10 h0
    have hq : tnV10 s 0 = ((tnV10 s 0).1, 0 + 4, 0) := Prod.ext rfl (Prod.ext hb h0)
    have h1 := hN.right
    have h2 := hN.bd
    rw [fnR10, hb, h0] at HN
    rw [ftR10]
    generalize (tnV10 s 0).1 = n at *
    have HNN := Lib.hid HN
    have z1 : (4 : Int) ≤ (s.size : Int) := by omega
    have z2 : (s.size : Int) ≤ 65536 := by omega
    by_cases hs : (4 : Int) + n ≤ (s.size : Int)
    · rw [tt_of10 hq (by omega)]
      have hsl := fun wx : World => run_slice_string (P := Try.prog) wx 9 s .i64 .i64 4 (4 + n) Try.underlying9 (by omega) (by omega) hs
      have HCL := Lib.hid (fun W => clone_any10 (s.extract (4 : Int).toNat (4 + n).toNat) W (by rw [ex_size10 (by omega)]; omega))
      have w1i := IntWalk.i64_in (4 + n) (by omega)
      have h3 : ¬ (s.size : Int) - 4 < n := by omega
      have hn0 := h2.1
      have hn1 := h2.2
      clear hN hb hq h0 h h1 h2 HN
      go_enter Try.func82, Try.ntmps82
      go_wp2_with (first | (go_at_call 72; refine HNN.out.mono ?_; rintro e W1 ⟨rfl, rfl⟩) | (go_at_call 83; refine (HCL.out _).mono ?_; rintro e W1 ⟨rfl, hb⟩))
      go_ret3
      exact ⟨rfl, hb⟩
    · rw [tt_short10 hq (by omega)]
      have h3 : (s.size : Int) - 4 < n := by omega
      have hn0 := h2.1
      have hn1 := h2.2
      clear hN hb hq h0 h h1 h2 HN
      go_enter Try.func82, Try.ntmps82
      go_wp2_with (go_at_call 72; refine HNN.out.mono ?_; rintro e W1 ⟨rfl, rfl⟩)
      go_ret3
      exact ⟨rfl, Below.refl _ _⟩
  · have hk := tn_keep10 h0
    rw [fnR10, hk] at HN
    rw [ftR10, tt_num10 h0]
    generalize (tnV10 s 0).2.2 = e0 at *
    have HNN := Lib.hid HN
    clear HN hk
    go_enter Try.func82, Try.ntmps82
    go_wp2_with (go_at_call 72; refine HNN.out.mono ?_; rintro e W1 ⟨rfl, rfl⟩)
    go_ret3
    exact ⟨rfl, Below.refl _ _⟩
end Go.Proofs.Ytapfbcpbiagogaa
