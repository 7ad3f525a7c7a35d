/-
  Contracts of the iterators (*schedule).inOrder and (*schedule).turnedAbout. Conditions: the schedule's key has 16 or 32 bytes; its sync.Once is free, and not yet done.
-/
import Derived.Test.YtjfeloimlgfocaaAesI
import Derived.Test.YtjfeloimlgfocaaKitIn
import Derived.Test.YtjfeloimlgfocaaMade
namespace Go.Proofs.Ytjfeloimlgfocaa
open Go.RowKit Go.Shelf
attribute [local go_sem] Oper.semAt_some

/-- the round keys are made. -/
def MadeK (s n B : Nat) (key : ByteArray) (W : World) : Prop := ∃ h, Is W s 54 (sch key 1 0 (.slice (some ⟨h, 0, none⟩) (n + 7) (n + 7))) ∧ Is W h 60 (nA (expB (natL key))) ∧ h ≠ s ∧ B ≤ h
/-- what is told of a round. -/
def encK (key : ByteArray) (i : Nat) : Array Value := #[.int .i64 (i : Int), .agg (nA (keyK (natL key) i))]

set_option maxRecDepth 100000 in
set_option maxHeartbeats 1000000 in
theorem inOrder_in (m : Nat) (s : Nat) (w : World) :
    CallsIn Fence.wide m Try.prog 20 #[.pointer (some ⟨s, 0, none⟩)] w fun e w' => e = .returned (.func (.func 44) #[] #[.pointer (some ⟨w.heap.size, 0, none⟩)]) ∧
      w' = w.alloc (.cells #[.pointer (some ⟨s, 0, none⟩)] 75) := by
  refine callsIn_of_wp Try.func20 rfl trivial ?_ rfl
  simp only [Try.ntmps20, List.size_toArray, List.length_cons, List.length_nil, Nat.reduceAdd, Nat.reduceSub, Array.replicate_succ, Array.replicate_zero, List.push_toArray, List.append_toArray, List.nil_append, List.cons_append]
  gi_wp2
  go_ret
  exact ⟨rfl, rfl⟩

set_option maxRecDepth 100000 in
set_option maxHeartbeats 1000000 in
theorem inOrder_made (m : Nat) (hm : 1 ≤ m) (s Bp Bb n : Nat) (key : ByteArray) (v0 : Value) (w : World) (hk : KeyN (natL key) n) (hs : Is w s 54 (sch key 0 0 v0)) (hp : Is w Bp 75 #[.pointer (some ⟨s, 0, none⟩)]) (hsb : s ≠ Bb) (hbb : Bb < w.heap.size) :
    SeqMade Fence.wide m Try.prog 44 #[.pointer (some ⟨Bp, 0, none⟩)] (encK key) Bb s (MadeK s n w.heap.size key) (List.range (n + 7)) w := by
  intro l J W hW hA hM hY
  have hsW := hs.below hW hs.lt
  have hpW := hp.below hW hp.lt
  have HRK := Lib.hid (roundKeys_first s key n v0 W hk hsW)
  have cP := hpW.cell 0
  have HWS := Lib.hid hW.size
  have HDL := Lib.hid hk.expLen
  have hn8 : n ≤ 8 := by have := hk.two; omega
  have HZ : Hid (zer16.length = 16) := Lib.hid rfl
  clear hs hp hW hsW hpW hk
  refine callsIn_of_wp Try.func44 rfl trivial ?_ rfl
  simp only [Try.ntmps44, List.size_toArray, List.length_cons, List.length_nil, Nat.reduceAdd, Nat.reduceSub, Array.replicate_succ, Array.replicate_zero, List.push_toArray, List.append_toArray, List.nil_append, List.cons_append]
  gi_wp2_with (refine ⟨trivial, ?_⟩; gi_at_call 45; refine (callsIn_wide.2 HRK.out).mono ?_; rintro e W1 ⟨h, rfl, iS, iH, hne, hge, hgr⟩; have hhB : w.heap.size ≤ h := Nat.le_trans HWS.out hge; have hJ0 : J 0 W1 := hM W1 hgr ⟨h, iS, iH, hne, hhB⟩)
  have hhb : h ≠ Bb := by omega
  clear hge hgr hM cP
  gi_loopw [8] (fun a wr => ∃ i : Nat, i ≤ n + 7 ∧ a = .int .i64 (i : Int) ∧ Is wr s 54 (sch key 1 0 (.slice (some ⟨h, 0, none⟩) (n + 7) (n + 7))) ∧ Is wr h 60 (nA (expB (natL key))) ∧ J i wr)
    (fun a _ => n + 7 - (intOf a).toNat)
  case atStart => exact ⟨0, by omega, rfl, iS, iH, hJ0⟩
  case round =>
    clear iS iH hJ0
    obtain ⟨i, hi, rfl, iS, iH, hJ⟩ := hrel
    by_cases hlt : i < n + 7
    · have hi1 : (i : Int) < ((n + 7 : Nat) : Int) := by omega
      have hi2 : (i : Int) < (n : Int) + 7 := by omega
      have hR : wr.rangeAt h (i * 16) (nL (keyK (natL key) i)) := by
        have h0 := nA_range iH (i * 16) 16
        rw [← sqL, ← keyK_sq] at h0
        exact h0
      have hkl : (keyK (natL key) i).length = 16 := by rw [keyK_sq, sqL, List.length_take, List.length_drop, HDL.out]; omega
      have hsz : (Try.prog.info? 60).map (·.size) = some (nA (keyK (natL key) i)).size := by rw [nA_size, hkl]; exact info16
      have hone := nA_one (keyK (natL key) i)
      have HKL := Lib.hid hkl
      obtain ⟨w2, hw2⟩ : ∃ w2, w2 = wr.alloc (.cells (nA (keyK (natL key) i)) 60) := ⟨_, rfl⟩
      have hb2 : Below wr.heap.size wr w2 := by rw [hw2]; exact (Below.refl _ _).alloc (Nat.le_refl _) _
      have i2 : Is w2 wr.heap.size 60 (nA (keyK (natL key) i)) := by rw [hw2]; exact Is.new wr _ _
      have jS := iS.below hb2 iS.lt
      have jH := iH.below hb2 iH.lt
      have hJ2 := hA i wr w2 hJ hb2
      obtain ⟨fn, tmps, assign, body, hy, hRd⟩ := hY i i w2 (by rw [List.getElem?_range hlt]) hJ2
      rw [encK] at hy
      have HRD := Lib.hid hRd
      have hw3 := hw2.symm
      clear hkl hRd hb2 hw2
      generalize hK : nA (keyK (natL key) i) = K at *
      have HKK := Lib.hid hK
      clear hK
      have hz : #[Value.int .u8 0, .int .u8 0, .int .u8 0, .int .u8 0, .int .u8 0, .int .u8 0, .int .u8 0, .int .u8 0, .int .u8 0, .int .u8 0, .int .u8 0, .int .u8 0, .int .u8 0, .int .u8 0, .int .u8 0, .int .u8 0] = nA zer16 := rfl
      gi_wp2_with (first
        | (refine wpListIn_load_midI rfl 60 (.tmp 11) rfl h (i * 16) rfl (nL (keyK (natL key) i)) hR Try.underlying60 rfl (by rw [nL_len, HKL.out]; exact info16) ?_; rw [nL_arr, HKK.out])
        | (refine wpListIn_store_rowI rfl 60 (.tmp 4) (.tmp 12) rfl wr.heap.size K rfl rfl (heap_alloc_new wr _) hsz (by rw [← HKK.out, nA_size, nA_size, HKL.out, HZ.out]) hone ?_; rw [World.setRow_alloc_new, hw3])
        | (refine wpListIn_load_rowI rfl 60 (.tmp 4) rfl wr.heap.size rfl i2 Try.underlying60 rfl hsz ?_))
      refine HRD.out.mono ?_
      rintro e W3 ⟨rfl, hJ3, hk3⟩
      have kS := hk3.is jS hsb
      have kH := hk3.is jH hhb
      gi_wp2
      go_roundw
      case rel => exact ⟨i + 1, by omega, by go_num, kS, kH, hJ3⟩
      case measure => simp [intOf]; omega
    · have hi1 : ¬ (i : Int) < ((n + 7 : Nat) : Int) := by omega
      have hi2 : ¬ (i : Int) < (n : Int) + 7 := by omega
      obtain rfl : i = n + 7 := by omega
      gi_wp2
      go_end0
      exact ⟨⟨_, rfl⟩, by first | exact hJ | (rw [List.length_range]; exact hJ)⟩
set_option maxRecDepth 100000 in
set_option maxHeartbeats 1000000 in
theorem turnedAbout_in (m : Nat) (s : Nat) (w : World) :
    CallsIn Fence.wide m Try.prog 34 #[.pointer (some ⟨s, 0, none⟩)] w fun e w' => e = .returned (.func (.func 52) #[] #[.pointer (some ⟨w.heap.size, 0, none⟩)]) ∧
      w' = w.alloc (.cells #[.pointer (some ⟨s, 0, none⟩)] 75) := by
  refine callsIn_of_wp Try.func34 rfl trivial ?_ rfl
  simp only [Try.ntmps34, List.size_toArray, List.length_cons, List.length_nil, Nat.reduceAdd, Nat.reduceSub, Array.replicate_succ, Array.replicate_zero, List.push_toArray, List.append_toArray, List.nil_append, List.cons_append]
  gi_wp2
  go_ret
  exact ⟨rfl, rfl⟩

set_option maxRecDepth 100000 in
set_option maxHeartbeats 1000000 in
theorem turnedAbout_made (m : Nat) (hm : 1 ≤ m) (s Bp Bb n : Nat) (key : ByteArray) (v0 : Value) (w : World) (hk : KeyN (natL key) n) (hs : Is w s 54 (sch key 0 0 v0)) (hp : Is w Bp 75 #[.pointer (some ⟨s, 0, none⟩)]) (hsb : s ≠ Bb) (hbb : Bb < w.heap.size) :
    SeqMade Fence.wide m Try.prog 52 #[.pointer (some ⟨Bp, 0, none⟩)] (encK key) Bb s (MadeK s n w.heap.size key) (List.range (n + 7)).reverse w := by
  intro l J W hW hA hM hY
  have hsW := hs.below hW hs.lt
  have hpW := hp.below hW hp.lt
  have HRK := Lib.hid (roundKeys_first s key n v0 W hk hsW)
  have cP := hpW.cell 0
  have HWS := Lib.hid hW.size
  have HDL := Lib.hid hk.expLen
  have hn8 : n ≤ 8 := by have := hk.two; omega
  have HZ : Hid (zer16.length = 16) := Lib.hid rfl
  clear hs hp hW hsW hpW hk
  refine callsIn_of_wp Try.func52 rfl trivial ?_ rfl
  simp only [Try.ntmps52, List.size_toArray, List.length_cons, List.length_nil, Nat.reduceAdd, Nat.reduceSub, Array.replicate_succ, Array.replicate_zero, List.push_toArray, List.append_toArray, List.nil_append, List.cons_append]
  gi_wp2_with (refine ⟨trivial, ?_⟩; gi_at_call 45; refine (callsIn_wide.2 HRK.out).mono ?_; rintro e W1 ⟨h, rfl, iS, iH, hne, hge, hgr⟩; have hhB : w.heap.size ≤ h := Nat.le_trans HWS.out hge; have hJ0 : J 0 W1 := hM W1 hgr ⟨h, iS, iH, hne, hhB⟩)
  have hhb : h ≠ Bb := by omega
  clear hge hgr hM cP
  gi_loopw [4] (fun a wr => (∃ p : Nat, p < n + 7 ∧ a = .int .i64 (p : Int) ∧ J (n + 6 - p) wr ∧ Is wr s 54 (sch key 1 0 (.slice (some ⟨h, 0, none⟩) (n + 7) (n + 7))) ∧ Is wr h 60 (nA (expB (natL key)))) ∨ (a = .int .i64 (-1) ∧ J (n + 7) wr))
    (fun a _ => (intOf a + 1).toNat)
  case atStart => exact .inl ⟨n + 6, by omega, by go_num, by rw [show n + 6 - (n + 6) = 0 by omega]; exact hJ0, iS, iH⟩
  case round =>
    clear iS iH hJ0
    rcases hrel with ⟨i, hi, rfl, hJ, iS, iH⟩ | ⟨rfl, hJ⟩
    · have hi0 : (0 : Int) ≤ (i : Int) := by omega
      have hi1 : (i : Int) < ((n + 7 : Nat) : Int) := by omega
      have hi2 : (i : Int) < (n : Int) + 7 := by omega
      have hR : wr.rangeAt h (i * 16) (nL (keyK (natL key) i)) := by
        have h0 := nA_range iH (i * 16) 16
        rw [← sqL, ← keyK_sq] at h0
        exact h0
      have hkl : (keyK (natL key) i).length = 16 := by rw [keyK_sq, sqL, List.length_take, List.length_drop, HDL.out]; omega
      have HKL := Lib.hid hkl
      obtain ⟨fn, tmps, assign, body, hy, hRd⟩ := hY (n + 6 - i) i wr (by
        rw [List.getElem?_reverse (by rw [List.length_range]; omega), List.length_range, show n + 7 - 1 - (n + 6 - i) = i by omega, List.getElem?_range (by omega)]) hJ
      rw [encK] at hy
      have HRD := Lib.hid hRd
      clear hkl hRd
      generalize hK : nA (keyK (natL key) i) = K at *
      have HKK := Lib.hid hK
      clear hK
      gi_wp2_with (refine wpListIn_load_midI rfl 60 (.tmp 18) rfl h (i * 16) rfl (nL (keyK (natL key) i)) hR Try.underlying60 rfl (by rw [nL_len, HKL.out]; exact info16) ?_; rw [nL_arr, HKK.out])
      refine HRD.out.mono ?_
      rintro e W3 ⟨rfl, hJ3, hk3⟩
      have kS := hk3.is iS hsb
      have kH := hk3.is iH hhb
      gi_wp2
      go_roundw
      case rel =>
        by_cases h0 : i = 0
        · subst h0
          exact .inr ⟨rfl, by rw [show n + 7 = n + 6 - 0 + 1 by omega]; exact hJ3⟩
        · exact .inl ⟨i - 1, by omega, by rw [show ((i - 1 : Nat) : Int) = (i : Int) - 1 by omega], by rw [show n + 6 - (i - 1) = n + 6 - i + 1 by omega]; exact hJ3, kS, kH⟩
      case measure => simp [intOf] <;> omega
    · gi_wp2
      go_end0
      exact ⟨⟨_, rfl⟩, by first | exact hJ | (rw [List.length_reverse, List.length_range]; exact hJ)⟩
end Go.Proofs.Ytjfeloimlgfocaa
