/-
  Contracts of wire.isLabel, isCell, isCellOrNone, isNumber; of wire.wrong at texts and numbers; of wire.number, list, together. Conditions: texts that are written are few and short.
-/
import Derived.Test.YtapfbcpbiagogaaWirJ
import Derived.Test.YtapfbcpbiagogaaCoeC
namespace Go.Proofs.Ytapfbcpbiagogaa
open Go.RowKit Go.Shelf

theorem isLabel_any11 (s : ByteArray) (w : World) : Calls Try.prog 47 #[.string s] w fun e w' => e = .returned (.bool (decide (s.size = 16))) ∧ w = w' := by
  by_cases h : s.size = 16
  · have h1 : ((s.size : Int) == 16) = true := by simp; omega
    have h2 : (s.size : Int) = 16 := by omega
    rw [decide_eq_true h]
    clear h
    go_enter Try.func47, Try.ntmps47
    go_wp2
    go_ret
    exact ⟨rfl, rfl⟩
  · have h2 : ¬ (s.size : Int) = 16 := by omega
    have h3 : ((s.size : Int) == 16) = false := by simpa using h2
    have H3 := Lib.hid h3
    clear h3
    rw [decide_eq_false h]
    clear h
    go_enter Try.func47, Try.ntmps47
    go_wp2
    go_ret
    exact ⟨congrArg (fun b => Ending.returned (Value.bool b)) H3.out, rfl⟩
theorem isCell_any11 (s : ByteArray) (w : World) : Calls Try.prog 48 #[.string s] w fun e w' => e = .returned (.bool (decide (s.size = 40))) ∧ w = w' := by
  by_cases h : s.size = 40
  · have h2 : (s.size : Int) = 40 := by omega
    rw [decide_eq_true h]
    clear h
    go_enter Try.func48, Try.ntmps48
    go_wp2
    go_ret
    exact ⟨rfl, rfl⟩
  · have h2 : ¬ (s.size : Int) = 40 := by omega
    have h3 : ((s.size : Int) == 40) = false := by simpa using h2
    have H3 := Lib.hid h3
    clear h3
    rw [decide_eq_false h]
    clear h
    go_enter Try.func48, Try.ntmps48
    go_wp2
    go_ret
    exact ⟨congrArg (fun b => Ending.returned (Value.bool b)) H3.out, rfl⟩
theorem none11 {s : ByteArray} : s = ⟨#[]⟩ ↔ s.size = 0 := ⟨fun h => by rw [h]; rfl, fun h => by
  apply ByteArray.ext
  exact Array.eq_empty_of_size_eq_zero h⟩
theorem isNone_any11 (s : ByteArray) (w : World) : Calls Try.prog 57 #[.string s] w fun e w' => e = .returned (.bool (decide (s.size = 40) || decide (s.size = 0))) ∧ w = w' := by
  by_cases h0 : s.size = 0
  · obtain rfl := none11.2 h0
    clear h0
    go_enter Try.func57, Try.ntmps57
    go_wp2
    go_ret
    exact ⟨rfl, rfl⟩
  · have HC := Lib.hid (isCell_any11 s)
    have h1 : ¬ s = ⟨#[]⟩ := fun e => h0 (none11.1 e)
    rw [decide_eq_false h0, Bool.or_false]
    have h3 := beq7 h1
    have h4 := ne7 h1
    have h5 : s.toList.isEmpty = false := by
      cases hh : s.toList with
      | nil =>
        have hz := congrArg List.length hh
        rw [ByteArray.toList_eq] at hz
        exact absurd (show s.size = 0 by simpa using hz) h0
      | cons x r => rfl
    have H5 := Lib.hid h5
    clear h3 h4 h5 h1
    clear h0
    go_enter Try.func57, Try.ntmps57
    go_wp2_with (go_at_call 48; refine (HC.out _).mono ?_; rintro e w' ⟨rfl, rfl⟩)
    · rename_i hh
      have := H5.out
      rw [hh] at this
      cases this
    · go_ret
      exact ⟨congrArg (fun b => Ending.returned (Value.bool b)) (by rw [H5.out, Bool.false_or]), rfl⟩
theorem isNum_any11 (n : Int) (w : World) : Calls Try.prog 56 #[.int .i64 n] w fun e w' => e = .returned (.bool (numE10 n)) ∧ w = w' := by
  have HE : Hid (numE10 n = (decide (0 ≤ n) && decide (n ≤ 2147483647))) := Lib.hid rfl
  generalize numE10 n = E at *
  by_cases h0 : 0 ≤ n
  · by_cases h1 : n ≤ 2147483647
    · obtain rfl : E = true := by rw [HE.out]; simp [h0, h1]
      go_enter Try.func56, Try.ntmps56
      go_wp2
      go_ret
      exact ⟨rfl, rfl⟩
    · obtain rfl : E = false := by rw [HE.out]; simp [h1]
      go_enter Try.func56, Try.ntmps56
      go_wp2
      go_ret
      exact ⟨rfl, rfl⟩
  · obtain rfl : E = false := by rw [HE.out]; simp [h0]
    go_enter Try.func56, Try.ntmps56
    go_wp2
    go_ret
    exact ⟨rfl, rfl⟩

theorem all_at11 {α : Type} {p : α → Bool} {l : List α} {k : Nat} {x : α} (hx : l[k]? = some x) (h : (l.take k).all p = true) : (p x = false → l.all p = false) ∧ (p x = true → (l.take (k + 1)).all p = true) := by
  refine ⟨fun hp => ?_, fun hp => ?_⟩
  · rw [Bool.eq_false_iff]
    intro ha
    rw [List.all_eq_true.1 ha x (List.mem_of_getElem? hx)] at hp
    cases hp
  · rw [take_snoc10 hx, List.all_append, h]
    simp [hp]
set_option maxRecDepth 100000 in
set_option maxHeartbeats 2000000 in
/-- whether one of some texts may not be: for each function that answers without a change. -/
theorem wrong_any11 (f : FuncId) (p : ByteArray → Bool) (hf : ∀ s w, Calls Try.prog f #[.string s] w fun e w' => e = .returned (.bool (p s)) ∧ w = w') (he : ∀ args w, (callFunc f args).run Try.prog w = .ok (.enter f args) w)
    (A : Option Addr) (c : Nat) (l : List ByteArray) (w : World) (hl : l.length ≤ 9223372036854775807) (hc : InV w A (tL10 l)) :
    Calls Try.prog 46 #[.func (.func f) #[] #[], .slice A l.length c] w fun e w' => e = .returned (.bool (!l.all p)) ∧ w = w' := by
  have HC := Lib.hid hc
  have HF := Lib.hid hf
  have HR : Hid (∀ (R : Bool), R = !l.all p → R = !l.all p) := Lib.hid fun _ h => h
  clear hc hf
  go_enter Try.func46, Try.ntmps46
  go_wp2
  go_loopw [6, 9] (fun _ i wr => ∃ k : Nat, k ≤ l.length ∧ i = .int .i64 (k : Int) ∧ (l.take k).all p = true ∧ wr = w) (fun _ i _ => l.length - (intOf i).toNat)
  case atStart => exact ⟨0, by omega, rfl, rfl, rfl⟩
  case round =>
    obtain ⟨k, hk, rfl, ha, rfl⟩ := hrel
    by_cases hlt : k < l.length
    · have h1 : (k : Int) < (l.length : Int) := by omega
      obtain ⟨s, hx⟩ : ∃ s, l[k]? = some s := ⟨_, List.getElem?_eq_getElem hlt⟩
      obtain ⟨b, off, rfl, _, hcell⟩ := HC.out.txt hx
      obtain ⟨q1, q2⟩ := all_at11 hx ha
      have Q1 := Lib.hid q1
      have Q2 := Lib.hid q2
      have HS := Lib.hid (HF.out s)
      clear ha hx q1 q2
      generalize p s = P at *
      cases P with
      | true =>
        have hz := Q2.out rfl
        have HZ := Lib.hid hz
        clear hz
        go_wp2_with fail
        refine (HS.out _).mono ?_
        rintro e w1 ⟨rfl, rfl⟩
        go_wp2
        go_roundw
        case rel => exact ⟨k + 1, by omega, by go_num, HZ.out, by first | rfl | trivial⟩
        case measure => simp [intOf]; omega
      | false =>
        have hz := Q1.out rfl
        have HZ := Lib.hid hz
        clear hz
        go_wp2_with fail
        refine (HS.out _).mono ?_
        rintro e w1 ⟨rfl, rfl⟩
        go_wp2
        go_ret
        exact ⟨by rw [HZ.out]; rfl, rfl⟩
    · have h1 : ¬ (k : Int) < (l.length : Int) := by omega
      have hz : l.all p = true := by
        rw [List.take_of_length_le (by omega)] at ha; exact ha
      have HZ := Lib.hid hz
      clear ha hz
      go_wp2
      go_ret
      exact ⟨by rw [HZ.out]; rfl, rfl⟩

set_option maxRecDepth 100000 in
set_option maxHeartbeats 2000000 in
/-- the same at numbers. -/
theorem wrongN_any11 (g : Nat) (L : List Int) (w : World) (hl : L.length ≤ 1000) (hc : Is w g 3 (L.map (Value.int .i64)).toArray) :
    Calls Try.prog 55 #[.func (.func 56) #[] #[], .slice (some ⟨g, 0, none⟩) L.length L.length] w fun e w' => e = .returned (.bool (!L.all numE10)) ∧ w = w' := by
  have HC := Lib.hid hc
  have HF := Lib.hid isNum_any11
  clear hc
  go_enter Try.func55, Try.ntmps55
  go_wp2
  go_loopw [6, 9] (fun _ i wr => ∃ k : Nat, k ≤ L.length ∧ i = .int .i64 (k : Int) ∧ (L.take k).all numE10 = true ∧ wr = w) (fun _ i _ => L.length - (intOf i).toNat)
  case atStart => exact ⟨0, by omega, rfl, rfl, rfl⟩
  case round =>
    obtain ⟨k, hk, rfl, ha, rfl⟩ := hrel
    by_cases hlt : k < L.length
    · have h1 : (k : Int) < (L.length : Int) := by omega
      obtain ⟨s, hx⟩ : ∃ s, L[k]? = some s := ⟨_, List.getElem?_eq_getElem hlt⟩
      have hcell : wr.cell? ⟨g, k, none⟩ = some (.int .i64 s) := by rw [HC.out.cell]; simp [hx]
      obtain ⟨q1, q2⟩ := all_at11 hx ha
      have Q1 := Lib.hid q1
      have Q2 := Lib.hid q2
      have HS := Lib.hid (HF.out s)
      clear ha hx q1 q2
      generalize numE10 s = P at *
      cases P with
      | true =>
        have hz := Q2.out rfl
        have HZ := Lib.hid hz
        clear hz
        go_wp2_with fail
        refine (HS.out _).mono ?_
        rintro e w1 ⟨rfl, rfl⟩
        go_wp2
        go_roundw
        case rel => exact ⟨k + 1, by omega, by go_num, HZ.out, by first | rfl | trivial⟩
        case measure => simp [intOf]; omega
      | false =>
        have hz := Q1.out rfl
        have HZ := Lib.hid hz
        clear hz
        go_wp2_with fail
        refine (HS.out _).mono ?_
        rintro e w1 ⟨rfl, rfl⟩
        go_wp2
        go_ret
        exact ⟨by rw [HZ.out]; rfl, rfl⟩
    · have h1 : ¬ (k : Int) < (L.length : Int) := by omega
      have hz : L.all numE10 = true := by
        rw [List.take_of_length_le (by omega)] at ha; exact ha
      have HZ := Lib.hid hz
      clear ha hz
      go_wp2
      go_ret
      exact ⟨by rw [HZ.out]; rfl, rfl⟩

/-! ### Written -/
theorem wnum_any11 (n : Int) (w : World) : Calls Try.prog 29 #[.int .i64 n] w fun e w' => e = .returned (.string (numV10 n).1) ∧ Below w.heap.size w w' := by
  have HC := Lib.hid (num_any10 n)
  simp only [numR10] at HC
  generalize numV10 n = V at *
  go_enter Try.func29, Try.ntmps29
  go_wp2_with fail
  refine (HC.out _).mono ?_
  rintro e w1 ⟨rfl, hb⟩
  go_wp2
  go_ret
  exact ⟨rfl, hb⟩
theorem wlist_any11 (A : Option Addr) (c : Nat) (l : List ByteArray) (w : World) (hs : ∀ s ∈ l, s.size ≤ 140737488355328) (hc : InV w A (tL10 l)) :
    Calls Try.prog 30 #[.slice A l.length c] w fun e w' => e = .returned (.string (lstV10 l).1) ∧ Below w.heap.size w w' := by
  have HC := Lib.hid (list_any10 A c l w hs hc)
  simp only [lstR10] at HC
  generalize lstV10 l = V at *
  clear hs hc
  go_enter Try.func30, Try.ntmps30
  go_wp2_with fail
  refine HC.out.mono ?_
  rintro e w1 ⟨rfl, hb⟩
  go_wp2
  go_ret
  exact ⟨rfl, hb⟩
theorem wtog_any11 (g : Nat) (l : List ByteArray) (w : World) (h : Is w g 9 (l.map Value.string).toArray) (hl : l.length ≤ 1000) (hz : (all11 l).size ≤ 1000000) :
    Calls Try.prog 28 #[.slice (some ⟨g, 0, none⟩) l.length l.length] w fun e w' => e = .returned (.string (all11 l)) ∧ Below w.heap.size w w' := by
  have HC := Lib.hid (join_any11 g l w h hl hz)
  generalize all11 l = V at *
  clear h
  go_enter Try.func28, Try.ntmps28
  go_wp2_with fail
  refine HC.out.mono ?_
  rintro e w1 ⟨rfl, hb⟩
  go_wp2
  go_ret
  exact ⟨rfl, hb⟩
end Go.Proofs.Ytapfbcpbiagogaa
