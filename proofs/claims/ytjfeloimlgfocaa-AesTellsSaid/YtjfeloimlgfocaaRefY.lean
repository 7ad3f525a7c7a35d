/-
  Contracts of the document's own answer for layer 4: shifted, by 1 and by 3. Conditions: a text of 16 bytes.
-/
import Derived.Test.YtjfeloimlgfocaaRefO
namespace Go.Proofs.Ytjfeloimlgfocaa
open Go.RowKit Go.Shelf

set_option maxRecDepth 100000 in
set_option maxHeartbeats 1000000 in
theorem rshifted_1 (s : ByteArray) (w : World) (hs : s.size = 16) :
    Calls Try.prog 41 #[.string s, .int .i64 1] w fun e w' => e = .returned (.string (strN (shiftL (natL s) 1))) ∧ Below w.heap.size w w' := by
  obtain ⟨i0, hi, hz0, hz1, hz2⟩ := infoThree infoU8
  have hR : (shiftL (natL s) 1).length = 16 := by rw [shiftL, List.length_map, List.length_range]
  have hRg : ∀ c r, c < 4 → r < 4 → (shiftL (natL s) 1).getD (4 * c + r) 0 = btN s (4 * ((c + 1 * r) % 4) + r) := fun c r hc hr => by
    rw [shiftL, List.getD_eq_getElem?_getD, List.getElem?_map, List.getElem?_range (by omega)]
    show (natL s).getD (4 * (((4 * c + r) / 4 + 1 * ((4 * c + r) % 4)) % 4) + (4 * c + r) % 4) 0 = _
    rw [show (4 * c + r) / 4 = c by omega, show (4 * c + r) % 4 = r by omega]
    rfl
  generalize shiftL (natL s) 1 = R at *
  have HR := Lib.hid hR
  have HRG := Lib.hid hRg
  have HS := Lib.hid hs
  clear hR hRg hs
  go_enter Try.func41, Try.ntmps41
  go_wp2
  go_loopw [5, 6] (fun v i wr => ∃ c : Nat, c ≤ 4 ∧ i = .int .i64 c ∧ wr.ownsRow w.heap.size 5 1 v (4 * c) (nL (R.take (4 * c))) ∧ Below w.heap.size w wr)
    (fun _ i _ => 4 - (intOf i).toNat)
  case atStart => exact ⟨0, by omega, rfl, World.ownsRow_nil _ _ _ _, Below.refl _ _⟩
  case round =>
    obtain ⟨c, hc, rfl, hown, hB⟩ := hrel
    by_cases hlt : c < 4
    · have hc1 : (c : Int) < 4 := by omega
      obtain ⟨wo, hwo⟩ : ∃ wo, wo = wr := ⟨_, rfl⟩
      rw [← hwo] at hown hB
      rw [← hwo]
      clear hwo
      go_wp2
      go_loopw [5, 7] (fun v i wq => ∃ r : Nat, r ≤ 4 ∧ i = .int .i64 r ∧ wq.ownsRow w.heap.size 5 1 v (4 * c + r) (nL (R.take (4 * c + r))) ∧ Below w.heap.size w wq)
        (fun _ i _ => 4 - (intOf i).toNat)
      case atStart => exact ⟨0, by omega, rfl, hown, hB⟩
      case round =>
        clear hown hB
        obtain ⟨r, hr, rfl, hown, hB⟩ := hrel
        by_cases hlr : r < 4
        · have hr1 : (r : Int) < 4 := by omega
          obtain ⟨D, hD⟩ : ∃ D : Nat, D = (c + 1 * r) % 4 := ⟨_, rfl⟩
          have ht1 : ((c : Int) + (r : Int)).tmod 4 = (D : Int) := by rw [Int.tmod_eq_emod_of_nonneg (by omega)]; omega
          have ht2 : ((c : Int) + (r : Int)) % 4 = (D : Int) := by omega
          obtain ⟨E, hE⟩ : ∃ E : Nat, E = 4 * D + r := ⟨_, rfl⟩
          have he1 : 4 * (D : Int) + (r : Int) = (E : Int) := by omega
          have hD4 : D < 4 := by omega
          have hEs : E < s.size := by rw [HS.out]; omega
          have hE1 : (E : Int) < (s.size : Int) := by omega
          have ga := btN_get hEs
          have hsu := take_snoc R (4 * c + r) (by rw [HR.out]; omega)
          rw [HRG.out c r hlt hlr, ← hD, ← hE] at hsu
          clear hD hE
          generalize btN s E = z at *
          have HSU := Lib.hid hsu
          clear hsu
          go_wp2_with (at_builtin; refine wpList_append_own _ rfl _ _ 33 rfl w.heap.size 5 i0 (.int .u8 0) 1 1 Try.underlying33 hi hz0 hz1 hz2 rfl (by decide) _ _ _ rfl (hown.alloc _) ⟨wr.heap.size, 0, none⟩ 1 1 [.int .u8 (z : Int)] rfl rfl ?c1 ?c2 ?c3 ?c4 ?c5 ?_)
          case c1 =>
            intro j u hj
            match j, hj with
            | 0, hj => simp at hj; subst hj; simp [Addr.add]
          case c2 => intro u hu; simp only [List.mem_cons, List.not_mem_nil, or_false] at hu; subst hu; rfl
          case c3 => unfold maxLen; omega
          case c4 => omega
          case c5 => have := hB.size; simp; omega
          intro v' w1 hown' hgrow _
          have hB1 : Below w.heap.size w w1 := (hB.alloc hB.size _).grown hgrow (by have := hB.size; simp; omega) (fun g e => (hown.lt g e).1)
          have hown1 : w1.ownsRow w.heap.size 5 1 v' (4 * c + r + 1) (nL (R.take (4 * c + r + 1))) := by
            rw [HSU.out, nL_snoc]
            exact hown'
          clear hown' hgrow hown hB
          go_wp2
          go_roundw
          case rel => exact ⟨r + 1, by omega, by go_num, hown1, hB1⟩
          case measure => simp [intOf]; omega
        · obtain rfl : r = 4 := by omega
          go_wp2
          go_roundw
          case rel => exact ⟨c + 1, by omega, by go_num, hown, hB⟩
          case measure => simp [intOf]; omega
    · obtain rfl : c = 4 := by omega
      rw [List.take_of_length_le (by rw [HR.out]; exact Nat.le_refl _)] at hown
      have hcv := conv_own hown HR.out (by omega)
      generalize hst : strN R = st at hcv
      have HST := Lib.hid hst
      clear hst hown
      go_wp2
      go_ret
      exact ⟨by rw [HST.out]; rfl, hB⟩

set_option maxRecDepth 100000 in
set_option maxHeartbeats 1000000 in
theorem rshifted_3 (s : ByteArray) (w : World) (hs : s.size = 16) :
    Calls Try.prog 41 #[.string s, .int .i64 3] w fun e w' => e = .returned (.string (strN (shiftL (natL s) 3))) ∧ Below w.heap.size w w' := by
  obtain ⟨i0, hi, hz0, hz1, hz2⟩ := infoThree infoU8
  have hR : (shiftL (natL s) 3).length = 16 := by rw [shiftL, List.length_map, List.length_range]
  have hRg : ∀ c r, c < 4 → r < 4 → (shiftL (natL s) 3).getD (4 * c + r) 0 = btN s (4 * ((c + 3 * r) % 4) + r) := fun c r hc hr => by
    rw [shiftL, List.getD_eq_getElem?_getD, List.getElem?_map, List.getElem?_range (by omega)]
    show (natL s).getD (4 * (((4 * c + r) / 4 + 3 * ((4 * c + r) % 4)) % 4) + (4 * c + r) % 4) 0 = _
    rw [show (4 * c + r) / 4 = c by omega, show (4 * c + r) % 4 = r by omega]
    rfl
  generalize shiftL (natL s) 3 = R at *
  have HR := Lib.hid hR
  have HRG := Lib.hid hRg
  have HS := Lib.hid hs
  clear hR hRg hs
  go_enter Try.func41, Try.ntmps41
  go_wp2
  go_loopw [5, 6] (fun v i wr => ∃ c : Nat, c ≤ 4 ∧ i = .int .i64 c ∧ wr.ownsRow w.heap.size 5 1 v (4 * c) (nL (R.take (4 * c))) ∧ Below w.heap.size w wr)
    (fun _ i _ => 4 - (intOf i).toNat)
  case atStart => exact ⟨0, by omega, rfl, World.ownsRow_nil _ _ _ _, Below.refl _ _⟩
  case round =>
    obtain ⟨c, hc, rfl, hown, hB⟩ := hrel
    by_cases hlt : c < 4
    · have hc1 : (c : Int) < 4 := by omega
      obtain ⟨wo, hwo⟩ : ∃ wo, wo = wr := ⟨_, rfl⟩
      rw [← hwo] at hown hB
      rw [← hwo]
      clear hwo
      go_wp2
      go_loopw [5, 7] (fun v i wq => ∃ r : Nat, r ≤ 4 ∧ i = .int .i64 r ∧ wq.ownsRow w.heap.size 5 1 v (4 * c + r) (nL (R.take (4 * c + r))) ∧ Below w.heap.size w wq)
        (fun _ i _ => 4 - (intOf i).toNat)
      case atStart => exact ⟨0, by omega, rfl, hown, hB⟩
      case round =>
        clear hown hB
        obtain ⟨r, hr, rfl, hown, hB⟩ := hrel
        by_cases hlr : r < 4
        · have hr1 : (r : Int) < 4 := by omega
          obtain ⟨D, hD⟩ : ∃ D : Nat, D = (c + 3 * r) % 4 := ⟨_, rfl⟩
          have ht1 : ((c : Int) + 3 * (r : Int)).tmod 4 = (D : Int) := by rw [Int.tmod_eq_emod_of_nonneg (by omega)]; omega
          have ht2 : ((c : Int) + 3 * (r : Int)) % 4 = (D : Int) := by omega
          obtain ⟨E, hE⟩ : ∃ E : Nat, E = 4 * D + r := ⟨_, rfl⟩
          have he1 : 4 * (D : Int) + (r : Int) = (E : Int) := by omega
          have hD4 : D < 4 := by omega
          have hEs : E < s.size := by rw [HS.out]; omega
          have hE1 : (E : Int) < (s.size : Int) := by omega
          have ga := btN_get hEs
          have hsu := take_snoc R (4 * c + r) (by rw [HR.out]; omega)
          rw [HRG.out c r hlt hlr, ← hD, ← hE] at hsu
          clear hD hE
          generalize btN s E = z at *
          have HSU := Lib.hid hsu
          clear hsu
          go_wp2_with (at_builtin; refine wpList_append_own _ rfl _ _ 33 rfl w.heap.size 5 i0 (.int .u8 0) 1 1 Try.underlying33 hi hz0 hz1 hz2 rfl (by decide) _ _ _ rfl (hown.alloc _) ⟨wr.heap.size, 0, none⟩ 1 1 [.int .u8 (z : Int)] rfl rfl ?c1 ?c2 ?c3 ?c4 ?c5 ?_)
          case c1 =>
            intro j u hj
            match j, hj with
            | 0, hj => simp at hj; subst hj; simp [Addr.add]
          case c2 => intro u hu; simp only [List.mem_cons, List.not_mem_nil, or_false] at hu; subst hu; rfl
          case c3 => unfold maxLen; omega
          case c4 => omega
          case c5 => have := hB.size; simp; omega
          intro v' w1 hown' hgrow _
          have hB1 : Below w.heap.size w w1 := (hB.alloc hB.size _).grown hgrow (by have := hB.size; simp; omega) (fun g e => (hown.lt g e).1)
          have hown1 : w1.ownsRow w.heap.size 5 1 v' (4 * c + r + 1) (nL (R.take (4 * c + r + 1))) := by
            rw [HSU.out, nL_snoc]
            exact hown'
          clear hown' hgrow hown hB
          go_wp2
          go_roundw
          case rel => exact ⟨r + 1, by omega, by go_num, hown1, hB1⟩
          case measure => simp [intOf]; omega
        · obtain rfl : r = 4 := by omega
          go_wp2
          go_roundw
          case rel => exact ⟨c + 1, by omega, by go_num, hown, hB⟩
          case measure => simp [intOf]; omega
    · obtain rfl : c = 4 := by omega
      rw [List.take_of_length_le (by rw [HR.out]; exact Nat.le_refl _)] at hown
      have hcv := conv_own hown HR.out (by omega)
      generalize hst : strN R = st at hcv
      have HST := Lib.hid hst
      clear hst hown
      go_wp2
      go_ret
      exact ⟨by rw [HST.out]; rfl, hB⟩
end Go.Proofs.Ytjfeloimlgfocaa
