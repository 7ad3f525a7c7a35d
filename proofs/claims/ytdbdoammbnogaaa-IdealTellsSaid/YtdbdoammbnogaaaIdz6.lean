/-
  Layer 8: what the statements write down of questions, byte by byte; what is known behind each question (plain).
-/
import Derived.Test.YtdbdoammbnogaaaGIdP
import Derived.Test.YtdbdoammbnogaaaRowG
import Derived.Test.YtdbdoammbnogaaaIdy5
import Derived.Laws.Strings
import Derived.Laws.Slices
namespace Go.Proofs.Ytdbdoammbnogaaa
open Go.RowKit

/-- a question's first byte. -/
def fb8 : Q8 → Int
  | .nam _ => 102
  | .cel _ _ => 99
theorem txt_index (q : Q8) (W : World) : (Instr.index 9 (.string q.txt) (.int .i64 0)).run Try.prog W = .ok (.int .u8 (fb8 q)) W := by
  rw [run_index_string _ _ _ _ _ Try.underlying9]
  cases q with
  | nam i =>
    have hs : (Q8.nam i).txt.size = 1 + i.size := by rw [Q8.txt, ByteArray.size_append]; rfl
    rw [dif_pos ⟨by omega, by omega⟩]
    congr 1
  | cel l t =>
    have hs : (Q8.cel l t).txt.size = 1 + l.size + t.size := by rw [Q8.txt, ByteArray.size_append, ByteArray.size_append]; rfl
    rw [dif_pos ⟨by omega, by omega⟩]
    congr 1
theorem txt_in (i : ByteArray) (W : World) : (Instr.slice 9 (.string (Q8.nam i).txt) (some (.int .i64 1)) none none).run Try.prog W = .ok (.string i) W := by
  have hs : (Q8.nam i).txt.size = 1 + i.size := by rw [Q8.txt, ByteArray.size_append]; rfl
  rw [run_slice_string_l (P := Try.prog) (w := W) (t := 9) (s := (Q8.nam i).txt) Try.underlying9 .i64 1 (by omega) (by omega), hs]
  have := cut_front8 ⟨#[102]⟩ i
  exact congrArg (fun s => Result.ok (Value.string s) W) this
theorem run_slice_both8 {s : ByteArray} (W : World) (h2 : (17 : Int) ≤ s.size) :
    (Instr.slice 9 (.string s) (some (.int .i64 1)) (some (.int .i64 17)) none).run Try.prog W = .ok (.string (s.extract 1 17)) W := by
  simp [Instr.slice, run_underlying Try.underlying9, Instr.sliceBounds, run_sliceBound, h2]
theorem txt_lab (l t : ByteArray) (hl : l.size = 16) (W : World) : (Instr.slice 9 (.string (Q8.cel l t).txt) (some (.int .i64 1)) (some (.int .i64 17)) none).run Try.prog W = .ok (.string l) W := by
  have hs : (Q8.cel l t).txt.size = 1 + l.size + t.size := by rw [Q8.txt, ByteArray.size_append, ByteArray.size_append]; rfl
  rw [run_slice_both8 W (by omega)]
  have h1 := cut_front8 ⟨#[99]⟩ l
  have h2 : (Q8.cel l t).txt.extract 1 17 = (⟨#[99]⟩ ++ l : ByteArray).extract 1 17 := by
    rw [Q8.txt, ByteArray.extract_append, show 17 - (⟨#[99]⟩ ++ l : ByteArray).size = 0 by rw [ByteArray.size_append, hl]; rfl]
    have h3 : t.extract (1 - (⟨#[99]⟩ ++ l : ByteArray).size) 0 = ByteArray.empty := by rw [ByteArray.extract_eq_empty_iff]; omega
    rw [h3, ByteArray.append_empty]
  rw [hl] at h1
  exact congrArg (fun s => Result.ok (Value.string s) W) (h2.trans h1)
/-- what was asked, and what was answered. -/
structure Kp8 (qs : List Q8) (k : Nat) (d : Ide) (O : List ByteArray) : Prop where
  len : O.length = k
  kn : ∀ (j : Nat) (q : Q8) (o : ByteArray), qs[j]? = some q → O[j]? = some o → Kno8 d o q
theorem Kp8.step {qs : List Q8} {k : Nat} {d : Ide} {O : List ByteArray} (h : Kp8 qs k d O) {q : Q8} (hq : qs[k]? = some q) {s : ByteArray} {d' : Ide} (ha : ask8 d q = (s, d', 0)) : Kp8 qs (k + 1) d' (O ++ [s]) := by
  have e1 : (ask8 d q).2.2 = 0 := by rw [ha]
  have hkn := ask8_known e1
  rw [ha] at hkn
  refine ⟨by rw [List.length_append, h.len]; rfl, fun j q' o hj ho => ?_⟩
  rw [List.getElem?_append] at ho
  split at ho
  · have := kno8_keep (h.kn j q' o hj ho) q
    rwa [ha] at this
  · rename_i hlt
    rw [h.len] at hlt ho
    have hjk : j - k = 0 := by
      have := (List.getElem?_eq_some_iff.1 ho).1
      simp at this
      exact this
    obtain rfl : j = k := by omega
    rw [hq] at hj
    cases hj
    simp at ho
    subst ho
    exact hkn
theorem Kp8.now {d : Ide} {q : Q8} {s : ByteArray} {d' : Ide} (ha : ask8 d q = (s, d', 0)) : Kno8 d' s q := by
  have e1 : (ask8 d q).2.2 = 0 := by rw [ha]
  have hkn := ask8_known e1
  rwa [ha] at hkn
theorem Kp8.old {qs : List Q8} {k : Nat} {d : Ide} {O : List ByteArray} (h : Kp8 qs k d O) {q : Q8} {s : ByteArray} {d' : Ide} (ha : ask8 d q = (s, d', 0)) {j : Nat} {q' : Q8} {o : ByteArray} (hj : qs[j]? = some q') (ho : O[j]? = some o) : Kno8 d' o q' := by
  have := kno8_keep (h.kn j q' o hj ho) q
  rwa [ha] at this
abbrev sL (l : List ByteArray) : List Value := l.map Value.string
theorem infoStr8 : (Try.prog.info? 9).map (fun i => (i.zero, i.size, i.bytes)) = some (some (.string ⟨#[]⟩), 1, 16) := by kernel_rfl
theorem sL_snoc (l : List ByteArray) (s : ByteArray) : sL (l ++ [s]) = sL l ++ (#[.string s] : Array Value).toList := by simp [sL]
end Go.Proofs.Ytdbdoammbnogaaa
