/-
  TapeTurns: the walk of the statement's function.
-/
import Derived.Test.YtchgkiallbpjkaaTapX
namespace Go.Proofs.Ytchgkiallbpjkaa
open Go.RowKit Go.Shelf

theorem info7b : (Try.prog.info? 4).map (fun i => (i.zero, i.size, i.bytes)) = some (some (.bool false), 1, 1) := by kernel_rfl
/-- which numbers below K were among the first i of a list. -/
def hadC (l : List Int) (i K : Nat) : Array Value := ((List.range K).map fun (x : Nat) => Value.bool (decide ((x : Int) ∈ l.take i))).toArray
theorem hadC_size (l : List Int) (i K : Nat) : (hadC l i K).size = K := by simp [hadC]
theorem hadC_at {l : List Int} {i K x : Nat} (h : x < K) : (hadC l i K)[x]? = some (.bool (decide ((x : Int) ∈ l.take i))) := by simp [hadC, h]
theorem hadC_succ {l : List Int} {i K y : Nat} (hi : i < l.length) (hy : l.getD i 0 = (y : Int)) : (hadC l i K).setIfInBounds y (.bool true) = hadC l (i + 1) K := by
  have e : l[i] = (y : Int) := by rw [← hy, List.getD_eq_getElem?_getD, List.getElem?_eq_getElem hi]; rfl
  apply Array.ext
  · simp [hadC]
  · intro x h1 h2
    have hx : x < K := by simpa [hadC] using h2
    rw [Array.getElem_setIfInBounds (by rw [hadC_size]; exact hx)]
    simp only [hadC, List.getElem_toArray, List.getElem_map, List.getElem_range]
    rw [List.take_succ_eq_append_getElem hi, e]
    by_cases hxy : y = x
    · subst hxy; simp
    · have : ¬ (x : Int) = (y : Int) := by omega
      simp [hxy, this]
theorem run_make7 (W : World) (n : Nat) (h : n ≤ 1000) :
    (Instr.makeSlice 42 (.int .i64 (n : Int)) (.int .i64 (n : Int))).run Try.prog W = .ok (.slice (some ⟨W.heap.size, 0, none⟩) n n) (W.alloc (.cells (hadC [] 0 n) 4)) := by
  obtain ⟨i0, hi, hz0, hz1, hz2⟩ := info_parts info7b
  have h1 := run_make (P := Try.prog) W 42 4 i0 (.bool false) Try.underlying42 hi hz0 .i64 .i64 (n : Int) (n : Int) (by omega) (by omega) (by rw [hz2]; omega) (by omega)
  rw [hz1, Int.toNat_natCast, Nat.mul_one] at h1
  have e : madeCells (Value.bool false).cells n = hadC [] 0 n := by
    apply Array.toList_inj.1
    show (madeCells #[.bool false] n).toList = _
    rw [toList_madeCells_one]
    exact (List.eq_replicate_iff.2 ⟨by simp [hadC], fun b hb => by simp [hadC] at hb; exact hb.2.symm⟩).symm
  rw [e] at h1
  exact h1

/-- one number more, behind a list of one's own. -/
theorem wpList_append_one7 {w : World} {ops : Array Oper} {rest : List Oper} {o : Oper} {a : Act} {Q : Exit → Act → World → Prop} (hgd : o.guard = none) (s x : Operand)
    (ho : o.op = .call { callee := .builtin .append, args := #[s, x], argTypes := #[24, 24] }) (base : Nat) (A : Option Addr) (c k : Nat) (xs : List Value) (hk : k ≤ 1000)
    (hO : w.ownsRow base 3 1 (.slice A k c) k xs) (g : Nat) (y : Int) (hg : Is w g 3 #[.int .i64 y])
    (hs : a.eval s = .slice A k c ∧ a.eval x = .slice (some ⟨g, 0, none⟩) 1 1) (hb : base ≤ w.heap.size)
    (h : ∀ A' c' w', w'.ownsRow base 3 1 (.slice A' (k + 1) c') (k + 1) (xs ++ [.int .i64 y]) → w.grownBy w' (Value.slice A k c).ownBlock → wpList Try.prog ops Q rest (a.put o.dst (.slice A' (k + 1) c')) w') : wpList Try.prog ops Q (o :: rest) a w := by
  obtain ⟨i0, hi, hz0, hz1, hz2⟩ := info_parts infoInt7
  refine wpList_append_own w hgd s x 24 ho base 3 i0 (.int .i64 0) 1 8 Try.underlying24 hi hz0 hz1 hz2 rfl (by decide) (.slice A k c) k xs hs.1 hO ⟨g, 0, none⟩ 1 1 [.int .i64 y] hs.2 rfl (fun j u hj => ?_) (fun u hu => by rw [List.mem_singleton] at hu; subst hu; rfl) (by unfold maxLen; omega) (by omega) hb ?_
  · cases j with
    | zero =>
      cases hj
      rw [Addr.add_lit]
      exact hg.cell 0
    | succ j => simp at hj
  · intro v' w1 hown hgrow _
    obtain ⟨A', c', rfl⟩ := owns_slice7 hown
    exact h A' c' w1 hown hgrow
theorem own_is7 {W W' : World} {base : Nat} {A : Option Addr} {c k : Nat} {xs : List Value} (hO : W.ownsRow base 3 1 (.slice A k c) k xs) (hg : W.grownBy W' (Value.slice A k c).ownBlock) {g : Nat} {t : TypeId} {cs : Array Value} (h : Is W g t cs) (ht : t ≠ 3) : Is W' g t cs := by
  refine (hg.block g h.lt (fun e => ?_)).trans h
  rcases hO.2 with ⟨h0, _⟩ | ⟨g2, cap, cur, h0, _, hi, _⟩
  · rw [h0] at e; cases e
  · rw [h0] at e
    cases e
    exact is_ne h (show Is W g2 3 cur from hi) ht rfl
theorem own_below7 {w W W' : World} {A : Option Addr} {c k : Nat} {xs : List Value} (hB : Below w.heap.size w W) (hO : W.ownsRow w.heap.size 3 1 (.slice A k c) k xs) (hg : W.grownBy W' (Value.slice A k c).ownBlock) : Below w.heap.size w W' :=
  hB.grown hg hB.size (fun q e => (hO.lt q e).1)

set_option maxRecDepth 100000 in
set_option maxHeartbeats 4000000 in
theorem tturns_walk (s : ByteArray) (at_ n : Int) (w : World) (_hs : s.size ≤ maxLen) (ha : -9223372036854775808 ≤ at_ ∧ at_ ≤ 9223372036854775807) (hn : -9223372036854775808 ≤ n ∧ n ≤ 9223372036854775807) :
    Calls Try.prog 5 #[.string s, .int .i64 at_, .int .i64 n] w fun e w' => e = .returned (.bool true) ∧ Below w.heap.size w w' := by
  obtain ⟨i0, hi, hz0, hz1, hz2⟩ := info_parts infoInt7
  have M1 := Lib.hid (fun w => tape7_any s at_ w ha)
  have hr := at7_right s at_
  have hat := at7_bd s at_
  have hcs := cut7_size s
  generalize at7 s at_ = t0 at *
  generalize cut7 s = C at *
  have hp := pickN_bd n 40 (by omega)
  have M2 := Lib.hid (fun w => pick7_any n 40 w hn.1 hn.2 (by omega) (by omega))
  obtain ⟨K, hK⟩ : ∃ K : Nat, pickN n 40 = (K : Int) := ⟨(pickN n 40).toNat, by omega⟩
  rw [hK] at M2 hp
  have hK40 : K < 40 := by omega
  have MT := Lib.hid (fun A cap w h => tturn_any C t0 A cap (uptoL K) w h)
  have ML := Lib.hid (fun w => tleft_any C t0 w)
  rw [leftV, if_pos hr] at ML
  have hul := uptoL_len K
  have HUL := Lib.hid hul
  have wk := IntWalk.i64_in ((K : Int) - 1) (by omega)
  obtain ⟨m, hm⟩ : ∃ m : Nat, m = K - 1 := ⟨_, rfl⟩
  have hmx : max ((K : Int) - 1) 0 = (m : Int) := by omega
  have w2m := IntWalk.i64_in (2 * (m : Int)) (by omega)
  have w3m := IntWalk.i64_in (t0 + 2 * (m : Int)) (by omega)
  have HR := Lib.hid hr
  have HAT := Lib.hid hat
  have HMX := Lib.hid hmx
  have HM := Lib.hid hm
  clear hr hat hcs hp hK ha hn hul hmx hm
  go_enter Try.func5, Try.ntmps5
  go_wp2_with fail
  have hB0 : Below w.heap.size w w := Below.refl _ _
  refine (awake7_any _).mono ?_
  rintro e W1 ⟨rfl, hb⟩
  have hB1 := hB0.trans (hb.mono hB0.size)
  have HN1 := Lib.hid hb
  clear hb hB0 
  go_wp2_with fail
  refine (M1.out _).mono ?_
  rintro e W2 ⟨rfl, hb⟩
  have hB2 := hB1.trans (hb.mono hB1.size)
  have HN2 := Lib.hid hb
  clear hb hB1 
  go_wp2_with fail
  obtain ⟨W3, hW3⟩ : ∃ W, W = W2.alloc (.cells #[.string C, .int .i64 (t0)] 23) := ⟨_, rfl⟩
  obtain ⟨DA, hDA⟩ : ∃ D, D = W2.heap.size := ⟨_, rfl⟩
  have iA_3 : Is W3 DA 23 #[.string C, .int .i64 (t0)] := by rw [hW3, hDA]; exact Is.new _ _ _
  have hB3 : Below w.heap.size w W3 := by rw [hW3]; exact hB2.alloc hB2.size _
  have HS3 := Lib.hid (show W3.heap.size = W2.heap.size + 1 by rw [hW3]; exact World.size_alloc _ _)
  have HN3 : Hid (Below W2.heap.size W2 W3) := Lib.hid (by rw [hW3]; exact (Below.refl _ _).alloc (Nat.le_refl _) _)
  rw [← hW3]
  try rw [← hDA]
  clear hB2  hW3
  have HDA := Lib.hid hDA
  clear hDA
  refine (M2.out _).mono ?_
  rintro e w' ⟨rfl, rfl⟩
  go_wp2
  go_loopw [10, 11] (fun v i wr => ∃ (k : Nat) (A : Option Addr) (c : Nat), k ≤ K ∧ i = .int .i64 (k : Int) ∧ v = .slice A k c ∧ wr.ownsRow w.heap.size 3 1 (.slice A k c) k (iL (uptoL k)) ∧ Is wr DA 23 #[.string C, .int .i64 t0] ∧ Below w.heap.size w wr)
    (fun _ i _ => K - (intOf i).toNat)
  case atStart => exact ⟨0, none, 0, by omega, rfl, rfl, World.ownsRow_nil _ _ _ _, iA_3, hB3⟩
  case round =>
    clear iA_3 hB3
    obtain ⟨k, A, c, hk, rfl, rfl, hO, iA, hB⟩ := hrel
    by_cases hlt : k < K
    · have hl1 : (k : Int) < (K : Int) := by omega
      have hO2 := hO.kept (World.grownBy_alloc wr (.cells #[.int .i64 (k : Int)] 3) none) (by cases A <;> simp [Value.ownBlock])
      have iA2 := iA.alloc (.cells #[.int .i64 (k : Int)] 3)
      have hB2 := hB.alloc hB.size (.cells #[.int .i64 (k : Int)] 3)
      have iN : Is (wr.alloc (.cells #[.int .i64 (k : Int)] 3)) wr.heap.size 3 #[.int .i64 (k : Int)] := Is.new wr _ _
      have hus := uptoL_succ k
      have w1i := IntWalk.i64_in ((k : Int) + 1) (by omega)
      go_wp2_with (at_builtin; refine wpList_append_one7 rfl _ _ rfl w.heap.size A c k _ (by omega) hO2 wr.heap.size (k : Int) iN ⟨rfl, rfl⟩ hB2.size ?_; intro A' c' w1 hown hgrow)
      go_roundw
      case rel => exact ⟨k + 1, A', c', by omega, by go_num, rfl, by rw [hus, iL, List.map_append]; exact hown, own_is7 hO2 hgrow iA2 (by decide), own_below7 hB2 hO2 hgrow⟩
      case measure => simp [intOf]; omega
    · obtain rfl : k = K := by omega
      have hl1 : ¬ (k : Int) < (k : Int) := by omega
      have hRow : RowD wr w.heap.size A c (uptoL k) := by rw [RowD, HUL.out]; exact hO
      have MC := Lib.hid (MT.out A c wr hRow.inL)
      rw [HUL.out] at MC
      have cA0 : wr.cell? ⟨DA, 0, none⟩ = some (.string C) := iA.cell 0
      have cA1 : wr.cell? ⟨DA, 1, none⟩ = some (.int .i64 t0) := iA.cell 1
      clear hO hRow MT
      go_wp2_with fail
      refine MC.out.mono ?_
      rintro e W5 ⟨A', c', rfl, hR, hb⟩
      have iA_5 := iA.below hb iA.lt
      have hB5 := hB.trans (hb.mono hB.size)
      obtain ⟨b0, hb0⟩ : ∃ b, b = wr.heap.size := ⟨_, rfl⟩
      rw [← hb0] at hR
      clear hb0
      clear cA0 cA1 MC iA hB hb
      have hr := HR.out
      have hat := HAT.out
      have hmm := HM.out
      have hmx := HMX.out
      by_cases hlo : (C.size : Int) - t0 < 2 * (m : Int)
      · have hE : turnE C t0 (uptoL k) = 12 := by rw [turnE, if_pos hr, HUL.out, if_neg (by omega), leftV, if_pos hr, if_pos (by omega)]
        have hV : turnV C t0 (uptoL k) = [] := by rw [turnV, hE]; rfl
        have hA : turnA C t0 (uptoL k) = t0 := by rw [turnA, hE]; rfl
        rw [hE, hV, hA]
        clear hmm hE hV hA
        have cA0 : (W5.alloc (.cells #[.string C, .int .i64 (t0)] 23)).cell? ⟨DA, 0, none⟩ = some (.string C) := (iA_5.alloc _).cell 0
        have cA1 : (W5.alloc (.cells #[.string C, .int .i64 (t0)] 23)).cell? ⟨DA, 1, none⟩ = some (.int .i64 (t0)) := (iA_5.alloc _).cell 1
        go_wp2_with fail
        clear cA0 cA1
        obtain ⟨W6, hW6⟩ : ∃ W, W = W5.alloc (.cells #[.string C, .int .i64 (t0)] 23) := ⟨_, rfl⟩
        have iA_6 : Is W6 DA 23 #[.string C, .int .i64 (t0)] := by rw [hW6]; exact iA_5.alloc _
        obtain ⟨DU, hDU⟩ : ∃ D, D = W5.heap.size := ⟨_, rfl⟩
        have iU_6 : Is W6 DU 23 #[.string C, .int .i64 (t0)] := by rw [hW6, hDU]; exact Is.new _ _ _
        have hB6 : Below w.heap.size w W6 := by rw [hW6]; exact hB5.alloc hB5.size _
        have HS6 := Lib.hid (show W6.heap.size = W5.heap.size + 1 by rw [hW6]; exact World.size_alloc _ _)
        have HN6 : Hid (Below W5.heap.size W5 W6) := Lib.hid (by rw [hW6]; exact (Below.refl _ _).alloc (Nat.le_refl _) _)
        rw [← hW6]
        try rw [← hDU]
        clear hB5 iA_5 hW6
        have HDU := Lib.hid hDU
        clear hDU
        refine (ML.out _).mono ?_
        rintro e W7 ⟨rfl, hb⟩
        have iA_7 := iA_6.below hb iA_6.lt
        have iU_7 := iU_6.below hb iU_6.lt
        have hB7 := hB6.trans (hb.mono hB6.size)
        have HN7 := Lib.hid hb
        clear hb hB6 iA_6 iU_6
        have cA0 : W7.cell? ⟨DA, 0, none⟩ = some (.string C) := iA_7.cell 0
        have cA1 : W7.cell? ⟨DA, 1, none⟩ = some (.int .i64 (t0)) := iA_7.cell 1
        have cU0 : W7.cell? ⟨DU, 0, none⟩ = some (.string C) := iU_7.cell 0
        have cU1 : W7.cell? ⟨DU, 1, none⟩ = some (.int .i64 (t0)) := iU_7.cell 1
        go_wp2
        go_ret
        exact ⟨rfl, hB7⟩
      · have hE : turnE C t0 (uptoL k) = 0 := by rw [turnE, if_pos hr, HUL.out, if_neg (by omega), leftV, if_pos hr, if_neg (by omega)]
        have hP := turnV_perm C t0 (uptoL k) hE
        have hA : turnA C t0 (uptoL k) = t0 + 2 * (m : Int) := by rw [turnA, if_pos hE, HUL.out, hmm]
        rw [hE, hA]
        have hTl : (turnV C t0 (uptoL k)).length = k := by rw [hP.length_eq, HUL.out]
        rw [hTl]
        generalize turnV C t0 (uptoL k) = TV at *
        clear hmm hE hA
        have cA0 : (W5.alloc (.cells #[.string C, .int .i64 (t0 + 2 * (m : Int))] 23)).cell? ⟨DA, 0, none⟩ = some (.string C) := (iA_5.alloc _).cell 0
        have cA1 : (W5.alloc (.cells #[.string C, .int .i64 (t0 + 2 * (m : Int))] 23)).cell? ⟨DA, 1, none⟩ = some (.int .i64 (t0)) := (iA_5.alloc _).cell 1
        go_wp2_with fail
        clear cA0 cA1
        obtain ⟨W6, hW6⟩ : ∃ W, W = W5.alloc (.cells #[.string C, .int .i64 (t0 + 2 * (m : Int))] 23) := ⟨_, rfl⟩
        have iA_6 : Is W6 DA 23 #[.string C, .int .i64 (t0)] := by rw [hW6]; exact iA_5.alloc _
        obtain ⟨DU, hDU⟩ : ∃ D, D = W5.heap.size := ⟨_, rfl⟩
        have iU_6 : Is W6 DU 23 #[.string C, .int .i64 (t0 + 2 * (m : Int))] := by rw [hW6, hDU]; exact Is.new _ _ _
        have hB6 : Below w.heap.size w W6 := by rw [hW6]; exact hB5.alloc hB5.size _
        have HS6 := Lib.hid (show W6.heap.size = W5.heap.size + 1 by rw [hW6]; exact World.size_alloc _ _)
        have HN6 : Hid (Below W5.heap.size W5 W6) := Lib.hid (by rw [hW6]; exact (Below.refl _ _).alloc (Nat.le_refl _) _)
        rw [← hW6]
        try rw [← hDU]
        clear hB5 iA_5 hW6
        have HDU := Lib.hid hDU
        clear hDU
        refine (ML.out _).mono ?_
        rintro e W7 ⟨rfl, hb⟩
        have iA_7 := iA_6.below hb iA_6.lt
        have iU_7 := iU_6.below hb iU_6.lt
        have hB7 := hB6.trans (hb.mono hB6.size)
        have HN7 := Lib.hid hb
        clear hb hB6 iA_6 iU_6
        have cA0 : W7.cell? ⟨DA, 0, none⟩ = some (.string C) := iA_7.cell 0
        have cA1 : W7.cell? ⟨DA, 1, none⟩ = some (.int .i64 (t0)) := iA_7.cell 1
        have cU0 : W7.cell? ⟨DU, 0, none⟩ = some (.string C) := iU_7.cell 0
        have cU1 : W7.cell? ⟨DU, 1, none⟩ = some (.int .i64 (t0 + 2 * (m : Int))) := iU_7.cell 1
        have hR7 : RowD W7 b0 A' c' TV := ((show RowD W5 b0 A' c' TV from hR).below HN6.out).below HN7.out
        have mk := fun W => run_make7 W k (by omega)
        have HPE := Lib.hid hP
        have HRW := Lib.hid hR7
        have HTL := Lib.hid hTl
        clear hP hR7 hTl hR
        go_wp2
        go_loopw [16] (fun i wr => ∃ j : Nat, j ≤ k ∧ i = .int .i64 (j : Int) ∧ Is wr W7.heap.size 4 (hadC TV j k) ∧ RowD wr b0 A' c' TV ∧ Below w.heap.size w wr) (fun i _ => k - (intOf i).toNat)
        case atStart =>
          exact ⟨0, by omega, rfl, by rw [show hadC TV 0 k = hadC [] 0 k by simp [hadC]]; exact Is.new _ _ _, HRW.out.grown (World.grownBy_alloc _ _ none) (fun r e => by cases e), hB7.alloc hB7.size _⟩
        case round =>
          have hS7 := Lib.hid hB7.size
          clear hB7 iA_7 iU_7
          obtain ⟨j, hj, rfl, iH, hR, hB⟩ := hrel
          by_cases hlt2 : j < k
          · have hjl : j < TV.length := by rw [HTL.out]; exact hlt2
            obtain ⟨⟨e0, e1⟩, e2⟩ := each_once HPE.out hjl
            obtain ⟨y, hy⟩ : ∃ y : Nat, TV.getD j 0 = (y : Int) := ⟨(TV.getD j 0).toNat, by omega⟩
            rw [hy] at e1 e2
            have hyk : y < k := by omega
            obtain ⟨g, cur, rfl, hgb, hI, _, _, _, hta⟩ := hR.open (by omega)
            have ca : wr.cell? ⟨g, j, none⟩ = some (.int .i64 (y : Int)) := by rw [← hy]; exact (hI.cell j).trans (row_at hta hjl)
            have ch : wr.cell? ⟨W7.heap.size, y, none⟩ = some (.bool false) := by rw [iH.cell y, hadC_at hyk]; simp [e2]
            have fh := iH.frozen y
            have hsu := hadC_succ (K := k) hjl hy
            have iH2 := iH.set y (.bool true)
            rw [hsu] at iH2
            have hR2 := hR.far (p := ⟨W7.heap.size, y, none⟩) iH (by decide) (.bool true)
            have hB3 := hB.setCell (p := ⟨W7.heap.size, y, none⟩) hS7.out (.bool true)
            have l1 : (j : Int) < (k : Int) := by omega
            have l2 : (y : Int) < (k : Int) := by omega
            have w5i := IntWalk.i64_in ((j : Int) + 1) (by omega)
            clear hy hsu hjl hta hI e0 e1 e2 iH hR hB
            go_wp2
            go_roundw
            case rel => exact ⟨j + 1, by omega, by go_num, iH2, hR2, hB3⟩
            case measure => simp [intOf]; omega
          · have l1 : ¬ (j : Int) < (k : Int) := by omega
            go_wp2
            go_ret
            exact ⟨rfl, hB⟩
end Go.Proofs.Ytchgkiallbpjkaa
