/-
  Contract of the statements' own Labels: raw numbers' labels, at most twelve, each once.
-/
import Derived.Test.YtapfbcpbiagogaaWirS
import Derived.Test.YtapfbcpbiagogaaWirA
import Derived.Test.YtapfbcpbiagogaaCoeB
namespace Go.Proofs.Ytapfbcpbiagogaa
open Go.RowKit Go.Shelf

/-- numbers as values. -/
abbrev iV11 (R : List Int) : List Value := R.map (Value.int .i64)
theorem InV.num11 {W : World} {A : Option Addr} {R : List Int} (h : InV W A (iV11 R)) {k : Nat} {x : Int} (hk : R[k]? = some x) : ∃ b off, A = some ⟨b, off, none⟩ ∧ b < W.heap.size ∧ W.cell? ⟨b, off + k, none⟩ = some (.int .i64 x) :=
  h k (.int .i64 x) (by rw [List.getElem?_map, hk]; rfl)
def Big11 (R : List Int) : Prop := ∀ y ∈ R, -9223372036854775808 ≤ y ∧ y ≤ 9223372036854775807
theorem has_step11 {o : List ByteArray} {s x : ByteArray} {j : Nat} (h : o[j]? = some x) : hasL11 (o.take (j + 1)) s = (hasL11 (o.take j) s || decide (x = s)) := by
  rw [take_snoc10 h, hasL11, hasL11, List.any_append]
  simp
set_option maxRecDepth 100000 in
set_option maxHeartbeats 4000000 in
theorem qlabels_any11 (A : Option Addr) (cap : Nat) (R : List Int) (w : World) (hm : R.length ≤ 9223372036854775807) (hb : Big11 R) (hc : InV w A (iV11 R)) :
    Calls Try.prog 26 #[.slice A R.length cap] w fun e w' => ∃ A' c', e = .returned (.slice A' (labs11 R).length c') ∧ Lst10 w.heap.size w' A' (labs11 R) ∧ Below w.heap.size w w' := by
  obtain ⟨i0, hi, hz0, hz1, hz2⟩ := infoThree10 infoTxt10
  have HC := Lib.hid hc
  have HBG := Lib.hid hb
  have HLN := Lib.hid (fun k => (labK_inv11 R k).2.2)
  clear hc hb
  go_enter Try.func26, Try.ntmps26
  go_wp2
  go_loopw [3, 4] (fun v i wr => ∃ k A' c', k ≤ R.length ∧ k ≤ 12 ∧ i = .int .i64 (k : Int) ∧ v = .slice A' (labK11 R k).length c' ∧ RowV wr w.heap.size 9 1 A' c' (labK11 R k).length (tL10 (labK11 R k)) ∧ Below w.heap.size w wr)
    (fun _ i _ => 12 - (intOf i).toNat)
  case atStart => exact ⟨0, none, 0, by omega, by omega, rfl, rfl, RowV.nil _ _ _ _, Below.refl _ _⟩
  case round =>
    obtain ⟨k, A', c', hk, hk12, rfl, rfl, hrow, hB⟩ := hrel
    by_cases hlt : k < R.length ∧ k < 12
    · obtain ⟨hl1, hl2⟩ := hlt
      have q1 : (k : Int) < (R.length : Int) := by omega
      have q2 : (k : Int) < 12 := by omega
      obtain ⟨x, hx⟩ : ∃ x, R[k]? = some x := ⟨_, List.getElem?_eq_getElem hl1⟩
      obtain ⟨b, off, rfl, _, hcell⟩ := (HC.out.keep hB).num11 hx
      have QL := Lib.hid (fun W => qlabel_any11 x W (HBG.out x (List.mem_of_getElem? hx)))
      have HST := Lib.hid (lab_step11 hx)
      have hln := (HLN.out k).1
      clear hx
      go_wp2_with fail
      refine (QL.out _).mono ?_
      rintro e W2 ⟨rfl, hb2⟩
      have hrow2 := hrow.below hb2
      have hB2 := hB.trans (hb2.mono hB.size)
      have HIN := Lib.hid hrow2.inV
      clear hcell hb2 hrow hB
      generalize label11 x = s at *
      generalize ho : labK11 R k = o at *
      go_wp2
      go_loopw [6, 7] (fun had kk wr2 => ∃ j : Nat, j ≤ o.length ∧ kk = .int .i64 (j : Int) ∧ had = .bool (hasL11 (o.take j) s) ∧ wr2 = W2) (fun _ kk _ => o.length - (intOf kk).toNat)
      case atStart => exact ⟨0, by omega, rfl, rfl, rfl⟩
      case round =>
        obtain ⟨j, hj, rfl, rfl, rfl⟩ := hrel
        by_cases hjl : j < o.length
        · have q3 : (j : Int) < (o.length : Int) := by omega
          obtain ⟨y, hy⟩ : ∃ y, o[j]? = some y := ⟨_, List.getElem?_eq_getElem hjl⟩
          obtain ⟨g, off2, rfl, _, hcell⟩ := HIN.out.txt hy
          have HS := Lib.hid (has_step11 (s := s) hy)
          clear hy
          generalize hasL11 (o.take j) s = had at *
          cases had with
          | true =>
            go_wp2
            go_roundw
            case rel => exact ⟨j + 1, by omega, by go_num, by rw [HS.out]; rfl, by first | rfl | trivial⟩
            case measure => simp [intOf]; omega
          | false =>
            by_cases hys : y = s
            · subst hys
              go_wp2
              go_roundw
              case rel => exact ⟨j + 1, by omega, by go_num, by rw [HS.out, decide_eq_true (rfl : y = y)]; rfl, by first | rfl | trivial⟩
              case measure => simp [intOf]; omega
            · have n1 := ne7 hys
              have n2 := beq7 hys
              go_wp2
              go_roundw
              case rel => exact ⟨j + 1, by omega, by go_num, by rw [HS.out, decide_eq_false hys]; rfl, by first | rfl | trivial⟩
              case measure => simp [intOf]; omega
        · have q3 : ¬ (j : Int) < (o.length : Int) := by omega
          rw [List.take_of_length_le (show o.length ≤ j by omega)]
          have HD : Hid (labK11 R (k + 1) = if hasL11 o s then o else o ++ [s]) := Lib.hid (by rw [HST.out, addL11])
          generalize hasL11 o s = had at *
          cases had with
          | true =>
            rw [if_pos rfl] at HD
            go_wp2
            go_roundw
            case rel => exact ⟨k + 1, A', c', by omega, by omega, by go_num, by rw [HD.out], by rw [HD.out]; exact hrow2, hB2⟩
            case measure => simp [intOf]; omega
          | false =>
            rw [if_neg (by decide)] at HD
            have hrow3 := hrow2.alloc (.cells #[.string s] 9)
            have hB3 := hB2.alloc hB2.size (.cells #[.string s] 9)
            have iX := Is.new wr 9 #[.string s]
            go_wp2_with (at_builtin; refine wpList_pushV rfl _ _ 24 9 i0 (.string ⟨#[]⟩) 1 16 rfl Try.underlying24 hi hz0 hz1 hz2 rfl (by decide) w.heap.size A' c' o.length _ hrow3 wr.heap.size 9 #[.string s] iX rfl (fun u hu => by simp only [List.mem_cons, List.not_mem_nil, or_false] at hu; subst hu; rfl) (by unfold maxLen; omega) (by omega) ⟨rfl, rfl⟩ hB3.size ?_; intro A3 c3 V3 r3 hg3; have hB4 := RowV.belowG hrow3 hB3 hg3)
            go_roundw
            case rel => exact ⟨k + 1, A3, c3, by omega, by omega, by go_num, by rw [HD.out, List.length_append]; rfl, by rw [HD.out, List.length_append, tL10, List.map_append]; exact r3, hB4⟩
            case measure => simp [intOf]; omega
    · have e1 := lab_end11 hk hk12 hlt
      have hrow4 := hrow.lst10
      rw [e1] at hrow4
      have HE := Lib.hid e1
      have HR4 := Lib.hid hrow4
      clear e1 hrow4 hrow
      by_cases hl1 : k < R.length
      · have q1 : (k : Int) < (R.length : Int) := by omega
        have q2 : ¬ (k : Int) < 12 := by omega
        clear hlt
        go_wp2
        go_ret
        exact ⟨A', ⟨c', by rw [← HE.out]; rfl⟩, HR4.out, hB⟩
      · have q1 : ¬ (k : Int) < (R.length : Int) := by omega
        clear hlt
        go_wp2
        go_ret
        exact ⟨A', ⟨c', by rw [← HE.out]; rfl⟩, HR4.out, hB⟩
end Go.Proofs.Ytapfbcpbiagogaa
