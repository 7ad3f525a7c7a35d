/-
  AesLengths: the walk of the statement's function.
-/
import Derived.Test.YtjfeloimlgfocaaAesW
import Derived.Deep.DeepCutAuto
namespace Go.Proofs.Ytjfeloimlgfocaa
open Go.RowKit

theorem mayB_nul (A : Nat) : mayB (nulB A) = (decide (A = 16) || decide (A = 32)) := by rw [mayB, nulB_size]
theorem may2_nul (A B : Nat) : may2 (nulB A) (nulB B) = ((decide (A = 16) || decide (A = 32)) && decide (B = 16)) := by rw [may2, mayB_nul, nulB_size]
theorem aes_zero (A B : Nat) : ∃ (s x y : ByteArray) (e f : Int), (∀ w, Calls Try.prog 11 #[.string (nulB A)] w fun r w' => r = .returned (.tuple #[.string s, .int .i64 e]) ∧ Below w.heap.size w w') ∧
    (∀ w, Calls Try.prog 13 #[.string (nulB A), .string (nulB B)] w fun r w' => r = .returned (.tuple #[.string x, .int .i64 f]) ∧ Below w.heap.size w w') ∧
    (∀ w, Calls Try.prog 15 #[.string (nulB A), .string (nulB B)] w fun r w' => r = .returned (.tuple #[.string y, .int .i64 f]) ∧ Below w.heap.size w w') ∧
    (((A = 16 ∨ A = 32) ∧ e = 0 ∧ ((B = 16 ∧ f = 0 ∧ x.size = 16 ∧ y.size = 16) ∨ (B ≠ 16 ∧ f = 1 ∧ x = ⟨#[]⟩ ∧ y = ⟨#[]⟩))) ∨ (A ≠ 16 ∧ A ≠ 32 ∧ e = 1 ∧ f = 1 ∧ x = ⟨#[]⟩ ∧ y = ⟨#[]⟩)) := by
  refine ⟨_, _, _, _, _, expand_any (nulB A), encrypt_any (nulB A) (nulB B), decrypt_any (nulB A) (nulB B), ?_⟩
  by_cases hA : A = 16 ∨ A = 32
  · refine .inl ⟨hA, ?_, ?_⟩
    · rw [mayB_nul, show (decide (A = 16) || decide (A = 32)) = true by simpa using hA]; rfl
    · by_cases hB : B = 16
      · have hk : mayB (nulB A) = true := by rw [mayB_nul]; simpa using hA
        refine .inl ⟨hB, ?_, encV_size hk (by rw [nulB_size, hB]), decV_size hk (by rw [nulB_size, hB])⟩
        rw [may2_of hk (by rw [nulB_size, hB])]; rfl
      · have hm : may2 (nulB A) (nulB B) = false := by rw [may2_nul]; simp [hB]
        exact .inr ⟨hB, by rw [hm]; rfl, by rw [encV, hm]; rfl, by rw [decV, hm]; rfl⟩
  · have hk : mayB (nulB A) = false := by rw [mayB_nul]; simpa using hA
    have hm : may2 (nulB A) (nulB B) = false := by rw [may2, hk]; rfl
    exact .inr ⟨fun h => hA (.inl h), fun h => hA (.inr h), by rw [hk]; rfl, by rw [hm]; rfl, by rw [encV, hm]; rfl, by rw [decV, hm]; rfl⟩

theorem none2 : (((⟨#[]⟩ : ByteArray) ++ ⟨#[]⟩).toList.isEmpty) = true := by
  rw [show ((⟨#[]⟩ : ByteArray) ++ ⟨#[]⟩) = ⟨#[]⟩ from rfl]
  unfold ByteArray.toList ByteArray.toList.loop
  rfl
set_option maxRecDepth 100000 in
set_option maxHeartbeats 8000000 in
theorem alen_walk (m n : Int) (w : World) (hm : -9223372036854775808 ≤ m ∧ m ≤ 9223372036854775807) (hn : -9223372036854775808 ≤ n ∧ n ≤ 9223372036854775807) :
    Calls Try.prog 7 #[.int .i64 m, .int .i64 n] w fun e w' => e = .returned (.bool true) ∧ Below w.heap.size w w' := by
  have bm := pickN_bd m 50 (by decide)
  have bn := pickN_bd n 40 (by decide)
  obtain ⟨A, hA⟩ : ∃ A : Nat, pickN m 50 = (A : Int) := ⟨(pickN m 50).toNat, by omega⟩
  obtain ⟨B, hB⟩ : ∃ B : Nat, pickN n 40 = (B : Int) := ⟨(pickN n 40).toNat, by omega⟩
  have hA2 : A ≤ 50 := by omega
  have hBs : B ≤ 40 := by omega
  obtain ⟨sE, sX, sY, eE, eF, cE, cX, cY, oA⟩ := aes_zero A B
  have CE := Lib.hid cE
  have CX := Lib.hid cX
  have CY := Lib.hid cY
  have OA := Lib.hid oA
  clear cE cX cY oA
  have mkA : ∀ W : World, (Instr.makeSlice 33 (.int .i64 (A : Int)) (.int .i64 (A : Int))).run Try.prog W = .ok (.slice (some ⟨W.heap.size, 0, none⟩) A A) (W.alloc (.cells (nulC A) 5)) := fun W => run_makeN W A (by omega)
  have mkB : ∀ W : World, (Instr.makeSlice 33 (.int .i64 (B : Int)) (.int .i64 (B : Int))).run Try.prog W = .ok (.slice (some ⟨W.heap.size, 0, none⟩) B B) (W.alloc (.cells (nulC B) 5)) := fun W => run_makeN W B (by omega)
  go_enter Try.func7, Try.ntmps7
  go_wp2_with fail
  refine (awake4_any _).mono ?_
  rintro e w1 ⟨rfl, hB1⟩
  have cv1 := run_convN (Is.new w1 5 (nulC A))
  go_wp2_with fail
  refine (pick4_any m 50 _ hm.1 hm.2 (by decide) (by decide)).mono ?_
  rintro e w' ⟨rfl, rfl⟩
  go_wp2_with fail
  refine (pick4_any n 40 _ hn.1 hn.2 (by decide) (by decide)).mono ?_
  rintro e w' ⟨rfl, rfl⟩
  go_wp2_with fail
  have hB1' := hB1.alloc hB1.size (.cells (nulC A) 5)
  refine (CE.out _).mono ?_
  rintro e w2 ⟨rfl, hb2⟩
  have hB2 : Below w.heap.size w w2 := hB1'.trans (hb2.mono hB1'.size)
  clear hb2 hB1' hB1 cv1
  have c1 := run_convN (W := (w2.alloc (.cells (nulC A) 5)).drew) (Is.new w2 5 (nulC A))
  have c2 := run_convN (W := ((w2.alloc (.cells (nulC A) 5)).alloc (.cells (nulC B) 5)).drew) ((Is.new w2 5 (nulC A)).alloc _)
  have c3 := run_convN (W := ((w2.alloc (.cells (nulC A) 5)).alloc (.cells (nulC B) 5)).drew) (g := w2.heap.size + 1) (n := B) (heap_alloc2_new w2 _ _)
  have c4 := run_convN (W := (w2.alloc (.cells (nulC B) 5)).drew) (Is.new w2 5 (nulC B))
  have c5 := run_convN (W := ((w2.alloc (.cells (nulC B) 5)).alloc (.cells (nulC A) 5)).drew) ((Is.new w2 5 (nulC B)).alloc _)
  have c6 := run_convN (W := ((w2.alloc (.cells (nulC B) 5)).alloc (.cells (nulC A) 5)).drew) (g := w2.heap.size + 1) (n := A) (heap_alloc2_new w2 _ _)
  have hBa := belowN ((hB2.alloc hB2.size (.cells (nulC A) 5)).alloc (Nat.le_trans hB2.size (by simp)) (.cells (nulC B) 5)) 1
  have hBb := belowN ((hB2.alloc hB2.size (.cells (nulC B) 5)).alloc (Nat.le_trans hB2.size (by simp)) (.cells (nulC A) 5)) 1
  go_wp2
  go_cut [10, 11] (fun s e W => s = .string sX ∧ e = .int .i64 eF ∧ Below w.heap.size w W)
  case first =>
    go_region_with (go_at_call 13; refine (CX.out _).mono ?_; rintro e w3 ⟨rfl, hb3⟩; have hB3 : Below w.heap.size w w3 := (by first | exact hBa.trans (hb3.mono hBa.size) | exact hBb.trans (hb3.mono hBb.size)))
    all_goals go_wp2_with fail
    all_goals go_meet
    all_goals exact ⟨rfl, rfl, hB3⟩
  case rest =>
    clear hBa hBb c1 c2 c3 c4 c5 c6 hB2
    obtain ⟨rfl, rfl, hB2⟩ := hcut
    have c1 := run_convN (W := (wc.alloc (.cells (nulC A) 5)).drew) (Is.new wc 5 (nulC A))
    have c2 := run_convN (W := ((wc.alloc (.cells (nulC A) 5)).alloc (.cells (nulC B) 5)).drew) ((Is.new wc 5 (nulC A)).alloc _)
    have c3 := run_convN (W := ((wc.alloc (.cells (nulC A) 5)).alloc (.cells (nulC B) 5)).drew) (g := wc.heap.size + 1) (n := B) (heap_alloc2_new wc _ _)
    have c4 := run_convN (W := (wc.alloc (.cells (nulC B) 5)).drew) (Is.new wc 5 (nulC B))
    have c5 := run_convN (W := ((wc.alloc (.cells (nulC B) 5)).alloc (.cells (nulC A) 5)).drew) ((Is.new wc 5 (nulC B)).alloc _)
    have c6 := run_convN (W := ((wc.alloc (.cells (nulC B) 5)).alloc (.cells (nulC A) 5)).drew) (g := wc.heap.size + 1) (n := A) (heap_alloc2_new wc _ _)
    have hBa := belowN ((hB2.alloc hB2.size (.cells (nulC A) 5)).alloc (Nat.le_trans hB2.size (by simp)) (.cells (nulC B) 5)) 1
    have hBb := belowN ((hB2.alloc hB2.size (.cells (nulC B) 5)).alloc (Nat.le_trans hB2.size (by simp)) (.cells (nulC A) 5)) 1
    clear CX CE
    go_wp2
    go_cut [12, 13] (fun s e W => s = .string sY ∧ e = .int .i64 eF ∧ Below w.heap.size w W)
    case first =>
      go_region_with (go_at_call 15; refine (CY.out _).mono ?_; rintro e w3 ⟨rfl, hb3⟩; have hB3 : Below w.heap.size w w3 := (by first | exact hBa.trans (hb3.mono hBa.size) | exact hBb.trans (hb3.mono hBb.size)))
      all_goals go_wp2_with fail
      all_goals go_meet
      all_goals exact ⟨rfl, rfl, hB3⟩
    case rest =>
      clear hBa hBb c1 c2 c3 c4 c5 c6 hB2 CY mkA mkB hA hB bm bn hm hn
      obtain ⟨rfl, rfl, hB4⟩ := hcut
      have oA := OA.out
      clear OA
      rcases oA with ⟨hA, rfl, hB⟩ | ⟨hA, hA', rfl, rfl, rfl, rfl⟩
      · have xx : ((A : Int) == 16) = true ∨ (((A : Int) == 16) = false ∧ ((A : Int) == 32) = true) := by
          rcases hA with h | h
          · exact .inl (by rw [h]; rfl)
          · exact .inr ⟨by rw [h]; rfl, by rw [h]; rfl⟩
        rcases hB with ⟨hB, rfl, sx, sy⟩ | ⟨hB, rfl, rfl, rfl⟩
        · have x3 : ((B : Int) == 16) = true := by rw [hB]; rfl
          have x4 : ((sX.size : Int) == 16) = true := by rw [sx]; rfl
          have x5 : ((sY.size : Int) == 16) = true := by rw [sy]; rfl
          clear hA hB sx sy hA2 hBs
          rcases xx with x1 | ⟨x1, x2⟩
          · go_wp2
            go_ret
            exact ⟨rfl, hB4⟩
          · go_wp2
            go_ret
            exact ⟨rfl, hB4⟩
        · have x3 : ((B : Int) == 16) = false := by simp; omega
          clear hA hB hA2 hBs
          rcases xx with x1 | ⟨x1, x2⟩
          · go_wp2
            go_ret
            exact ⟨congrArg (fun b => Ending.returned (Value.bool b)) none2, hB4⟩
          · go_wp2
            go_ret
            exact ⟨congrArg (fun b => Ending.returned (Value.bool b)) none2, hB4⟩
      · have x1 : ((A : Int) == 16) = false := by simp; omega
        have x2 : ((A : Int) == 32) = false := by simp; omega
        clear hA hA' hA2 hBs
        go_wp2
        go_ret
        exact ⟨congrArg (fun b => Ending.returned (Value.bool b)) none2, hB4⟩
end Go.Proofs.Ytjfeloimlgfocaa
