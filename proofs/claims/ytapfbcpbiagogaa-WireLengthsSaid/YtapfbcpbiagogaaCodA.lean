/-
  Contracts of codec.numberBytes, codec.Number and codec.Text; of strings.Clone, in layer 10's seat. Conditions: a number's bytes are asked of numbers from 0 to 2^31 - 1 alone; texts of at most 2^47 bytes.
-/
import Derived.Test.YtapfbcpbiagogaaCodQ
import Derived.Test.YtapfbcpbiagogaaRowG
import Derived.Test.YtapfbcpbiagogaaKitIn
import Derived.Test.YtapfbcpbiagogaaKitR
import Derived.Test.YtapfbcpbiagogaaChecked
import Derived.Lib.Strings
import Derived.Lib.Walk
import Derived.Lib.BufferWrite
import Derived.Lib.UnsafeStr
import Derived.Laws.MakeOwn
namespace Go.Proofs.Ytapfbcpbiagogaa
open Go.RowKit Go.Shelf

theorem infoU8x : (Try.prog.info? 5).map (fun i => (i.zero, i.size, i.bytes)) = some (some (.int .u8 0), 1, 1) := by kernel_rfl
/-- four bytes in memory, made a text. -/
theorem conv_num10 {W : World} {g : Nat} {n : Int} (h : Is W g 5 #[.int .u8 (n / 16777216 % 256), .int .u8 (n / 65536 % 256), .int .u8 (n / 256 % 256), .int .u8 (n % 256)]) :
    (convert 45 9 (.slice (some ⟨g, 0, none⟩) 4 4)).run Try.prog W = .ok (.string (num10 n)) W :=
  run_convert_bytes_arg (P := Try.prog) W 45 5 Try.underlying45 Try.underlying5 g 0 4 4 (fb10 n) rfl (fun i hi => by
    rw [Nat.zero_add, h.cell]
    match i, hi with
    | 0, _ => rfl
    | 1, _ => rfl
    | 2, _ => rfl
    | 3, _ => rfl) 9 Try.underlying9

/-- the same four bytes, as a small number's are reckoned. -/
theorem conv_num10s {W : World} {g : Nat} {n : Int} (h0 : 0 ≤ n) (h1 : n ≤ 2147483647) (h : Is W g 5 #[.int .u8 (n / 16777216), .int .u8 (n / 65536 % 256), .int .u8 (n / 256 % 256), .int .u8 (n % 256)]) :
    (convert 45 9 (.slice (some ⟨g, 0, none⟩) 4 4)).run Try.prog W = .ok (.string (num10 n)) W :=
  conv_num10 (n := n) (by rw [show n / 16777216 % 256 = n / 16777216 by omega]; exact h)

set_option maxRecDepth 100000 in
set_option maxHeartbeats 1000000 in
theorem numB_any (n : Int) (w : World) (h0 : 0 ≤ n) (h1 : n ≤ 2147483647) :
    Calls Try.prog 69 #[.int .i64 n] w fun e w' => e = .returned (.string (num10 n)) ∧ Below w.heap.size w w' := by
  have hc := conv_num10s (n := n) h0 h1 (Is.new w 5 #[.int .u8 (n / 16777216), .int .u8 (n / 65536 % 256), .int .u8 (n / 256 % 256), .int .u8 (n % 256)])
  go_enter Try.func69, Try.ntmps69
  go_wp2
  go_ret
  exact ⟨rfl, (Below.refl _ _).alloc (Nat.le_refl _) _⟩
def numR10 (n : Int) : Value := .tuple #[.string (numV10 n).1, .int .i64 (numV10 n).2]
theorem numR_ok10 {n : Int} (h0 : 0 ≤ n) (h1 : n ≤ 2147483647) : numR10 n = .tuple #[.string (num10 n), .int .i64 0] := by
  rw [numR10, numV10, if_pos (show numE10 n = true by simp [numE10, h0, h1])]
theorem numR_no10 {n : Int} (h : ¬ (0 ≤ n ∧ n ≤ 2147483647)) : numR10 n = .tuple #[.string ⟨#[]⟩, .int .i64 1] := by
  rw [numR10, numV10, if_neg (show ¬ numE10 n = true by simp only [numE10, Bool.and_eq_true, decide_eq_true_eq]; exact h)]

set_option maxRecDepth 100000 in
set_option maxHeartbeats 1000000 in
theorem num_any10 (n : Int) (w : World) :
    Calls Try.prog 51 #[.int .i64 n] w fun e w' => e = .returned (numR10 n) ∧ Below w.heap.size w w' := by
  by_cases h0 : 0 ≤ n
  · by_cases h1 : n ≤ 2147483647
    · have HC := Lib.hid (numB_any n w h0 h1)
      rw [numR_ok10 h0 h1]
      go_enter Try.func51, Try.ntmps51
      go_wp2_with (go_at_call 69; refine HC.out.mono ?_; rintro e w1 ⟨rfl, hb⟩)
      go_ret2
      exact ⟨rfl, hb⟩
    · rw [numR_no10 (by omega)]
      go_enter Try.func51, Try.ntmps51
      go_wp2
      go_ret2
      exact ⟨rfl, Below.refl _ _⟩
  · rw [numR_no10 (by omega)]
    go_enter Try.func51, Try.ntmps51
    go_wp2
    go_ret2
    exact ⟨rfl, Below.refl _ _⟩

set_option maxRecDepth 100000 in
set_option maxHeartbeats 1000000 in
theorem dnum_any10 (n : Int) (w : World) :
    Calls Try.prog 44 #[.int .i64 n] w fun e w' => e = .returned (numR10 n) ∧ Below w.heap.size w w' := by
  by_cases h0 : 0 ≤ n
  · by_cases h1 : n ≤ 2147483647
    · have hc := conv_num10s (n := n) h0 h1 (Is.new w 5 #[.int .u8 (n / 16777216), .int .u8 (n / 65536 % 256), .int .u8 (n / 256 % 256), .int .u8 (n % 256)])
      rw [numR_ok10 h0 h1]
      go_enter Try.func44, Try.ntmps44
      go_wp2
      go_ret2
      exact ⟨rfl, (Below.refl _ _).alloc (Nat.le_refl _) _⟩
    · rw [numR_no10 (by omega)]
      go_enter Try.func44, Try.ntmps44
      go_wp2
      go_ret2
      exact ⟨rfl, Below.refl _ _⟩
  · rw [numR_no10 (by omega)]
    go_enter Try.func44, Try.ntmps44
    go_wp2
    go_ret2
    exact ⟨rfl, Below.refl _ _⟩
def txtR10 (s : ByteArray) : Value := .tuple #[.string (txtV10 s).1, .int .i64 (txtV10 s).2]
theorem txtR_ok10 {s : ByteArray} (h : s.size ≤ 65536) : txtR10 s = .tuple #[.string (num10 (s.size : Int) ++ s), .int .i64 0] := by
  rw [txtR10, txtV10, if_pos h]; rfl
theorem txtR_no10 {s : ByteArray} (h : ¬ s.size ≤ 65536) : txtR10 s = .tuple #[.string ⟨#[]⟩, .int .i64 2] := by
  rw [txtR10, txtV10, if_neg h]

set_option maxRecDepth 100000 in
set_option maxHeartbeats 1000000 in
theorem dtxt_any10 (s : ByteArray) (w : World) :
    Calls Try.prog 65 #[.string s] w fun e w' => e = .returned (txtR10 s) ∧ Below w.heap.size w w' := by
  by_cases h : s.size ≤ 65536
  · have HC := dnum_any10 (s.size : Int) w
    rw [numR_ok10 (by omega) (by omega)] at HC
    have HC := Lib.hid HC
    rw [txtR_ok10 h]
    have h1 : (s.size : Int) ≤ 65536 := by omega
    have hz := num_size10 (s.size : Int)
    have hno : ¬ 9223372036854775807 < (num10 (s.size : Int)).size + s.size := by omega
    go_enter Try.func65, Try.ntmps65
    go_wp2_with (go_at_call 44; refine HC.out.mono ?_; rintro e w1 ⟨rfl, hb⟩)
    go_ret2
    exact ⟨rfl, hb⟩
  · have h1 : ¬ (s.size : Int) ≤ 65536 := by omega
    rw [txtR_no10 h]
    go_enter Try.func65, Try.ntmps65
    go_wp2
    go_ret2
    exact ⟨rfl, Below.refl _ _⟩
end Go.Proofs.Ytapfbcpbiagogaa
