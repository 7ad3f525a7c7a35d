/-
  Contracts of the statements' own pick and Few, and of the document's own Texts, where both lists are one.
-/
import Derived.Test.YtapfbcpbiagogaaCoeB
import Derived.Test.YtapfbcpbiagogaaPick
import Derived.Test.YtapfbcpbiagogaaOps
import Derived.Lib.MinMax
namespace Go.Proofs.Ytapfbcpbiagogaa
open Go.RowKit Go.Shelf

/-- at most so many bytes of a text. -/
def cut10 (n : Nat) (s : ByteArray) : ByteArray := s.extract 0 (min s.size n)
theorem cut_size10 (n : Nat) (s : ByteArray) : (cut10 n s).size = min s.size n := by simp [cut10]
theorem run_cut10 (n : Nat) (s : ByteArray) (wx : World) : (Instr.slice 9 (.string s) none (some (.int .i64 (min (s.size : Int) (n : Int)))) none).run Try.prog wx = .ok (.string (cut10 n s)) wx := by
  obtain ⟨m, hm⟩ : ∃ m : Nat, m = min s.size n := ⟨_, rfl⟩
  have := run_slice_string_h (P := Try.prog) (w := wx) (t := 9) (s := s) Try.underlying9 .i64 (m : Int) (by omega) (by omega)
  rw [Int.toNat_natCast] at this
  rw [show min (s.size : Int) (n : Int) = (m : Int) by omega, cut10, ← hm]
  exact this
theorem exec_append10 {P : Program} {o : Oper} {a : Act} {s x : Operand} {t : TypeId} {v u r : Value} {w w' : World} (ho : o.op = .call { callee := .builtin .append, args := #[s, x], argTypes := #[t, t] }) (hs : a.eval s = v) (hx : a.eval x = u)
    (hr : (Builtin.append_ #[t, t] o.type #[v, u]).run P w = .ok r w') : (execOp a.eval o).run P w = .ok (.value r) w' := by
  simp [execOp, ho, resolve, invoke, builtin, hs, hx, hr, Result.andThen]
def fewK10 (l : List ByteArray) (k : Nat) : List ByteArray := (l.take k).map (cut10 50)
def fewL10 (l : List ByteArray) : List ByteArray := fewK10 l 12
theorem few_len10 (l : List ByteArray) : (fewL10 l).length ≤ 12 := by simp [fewL10, fewK10]; omega
theorem few_sz10 (l : List ByteArray) : ∀ s ∈ fewL10 l, s.size ≤ 50 := fun s hs => by
  obtain ⟨x, _, rfl⟩ := List.mem_map.1 hs
  rw [cut_size10]; omega
theorem few_step10 {l : List ByteArray} {k : Nat} {x : ByteArray} (h : l[k]? = some x) : fewK10 l (k + 1) = fewK10 l k ++ [cut10 50 x] := by
  rw [fewK10, take_snoc10 h, List.map_append]; rfl
theorem few_end10 {l : List ByteArray} {k : Nat} (hk : k ≤ l.length) (h12 : k ≤ 12) (h : ¬ (k < l.length ∧ k < 12)) : fewK10 l k = fewL10 l ∧ k = (fewL10 l).length := by
  have e : fewK10 l k = fewL10 l := by
    by_cases h1 : k < 12
    · have : k = l.length := by omega
      rw [fewL10, fewK10, fewK10, List.take_of_length_le (by omega), List.take_of_length_le (by omega)]
    · have : k = 12 := by omega
      rw [this]; rfl
  refine ⟨e, ?_⟩
  rw [← e, fewK10, List.length_map, List.length_take]; omega
/-- a short list's bytes. -/
theorem cat_few10 {l : List ByteArray} (hl : l.length ≤ 12) (hs : ∀ s ∈ l, s.size ≤ 50) : (lst10 l).size ≤ 652 := by
  have h := cat_bd10 hs l.length
  rw [List.take_length] at h
  have h2 := Nat.mul_le_mul_right (50 + 4) hl
  rw [lst_size10]; omega

set_option maxRecDepth 100000 in
set_option maxHeartbeats 2000000 in
theorem texts_same10 (A A2 : Option Addr) (c c2 : Nat) (l : List ByteArray) (w : World) (hL : l.length ≤ 1000) (h1 : InV w A (tL10 l)) (h2 : InV w A2 (tL10 l)) :
    Calls Try.prog 43 #[.slice A l.length c, .slice A2 l.length c2] w fun e w' => e = .returned (.bool true) ∧ Below w.heap.size w w' := by
  have H1 := Lib.hid h1
  have H2 := Lib.hid h2
  clear h1 h2
  go_enter Try.func43, Try.ntmps43
  go_wp2
  go_loopw [5] (fun i wr => ∃ k m : Nat, k ≤ l.length ∧ i = .int .i64 (k : Int) ∧ wr = w.drewN m) (fun i _ => l.length - (intOf i).toNat)
  case atStart => exact ⟨0, 0, by omega, rfl, rfl⟩
  case round =>
    obtain ⟨k, m, hk, rfl, rfl⟩ := hrel
    by_cases hlt : k < l.length
    · obtain ⟨x, hx⟩ : ∃ x, l[k]? = some x := ⟨_, List.getElem?_eq_getElem hlt⟩
      obtain ⟨b, off, rfl, _, e1⟩ := H1.out.txt hx
      obtain ⟨b2, off2, rfl, _, e2⟩ := H2.out.txt hx
      have hl1 : (k : Int) < (l.length : Int) := by omega
      clear hx
      go_wp2
      go_region
      go_wp2
      go_roundw
      case rel => exact ⟨k + 1, m + 1, by omega, by go_num, rfl⟩
      case measure => simp [intOf]; omega
    · have hl1 : ¬ (k : Int) < (l.length : Int) := by omega
      go_wp2
      go_ret
      exact ⟨rfl, belowN (Below.refl _ _) m⟩
end Go.Proofs.Ytapfbcpbiagogaa
