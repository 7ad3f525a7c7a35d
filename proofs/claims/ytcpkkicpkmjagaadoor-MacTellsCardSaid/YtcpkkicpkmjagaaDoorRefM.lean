/-
  Contracts of the document's own answer for layer 2: padded, mixed, Mac, Tag. Conditions: keys of at most 1000 bytes, texts of at most 2^20 - 64.
-/
import Derived.Test.YtcpkkicpkmjagaaDoorRefS
import Derived.Test.YtcpkkicpkmjagaaDoorMacQ
import Derived.OwnWalk
import Derived.Laws.BytesArg
namespace Go.Proofs.YtcpkkicpkmjagaaDoor
open Go.RowKit

theorem keyL_str (k : ByteArray) : k ++ strOfNums (List.replicate (64 - k.size) 0) = strOfNums (padL k) := by
  rw [padL, str_append, str_bytesL]
theorem zeros_step (k : ByteArray) (j : Nat) : k ++ strOfNums (List.replicate j 0) ++ ⟨#[0]⟩ = k ++ strOfNums (List.replicate (j + 1) 0) := by
  rw [ByteArray.append_assoc]
  congr 1
  rw [List.replicate_succ', str_append]
  rfl

set_option maxRecDepth 100000 in
set_option maxHeartbeats 1000000 in
theorem rpadded_any (key : ByteArray) (w : World) (hk : key.size ≤ 1000) :
    Calls Tryd.prog 46 #[.string key] w fun e w' => e = .returned (.string (strOfNums (keyL key))) ∧ Below w.heap.size w w' := by
  have main : ∀ (k : ByteArray), k.size ≤ 64 → ∀ j, j ≤ 64 - k.size → (k ++ strOfNums (List.replicate j 0)).size = k.size + j := fun k _ j _ => by rw [ByteArray.size_append, str_size, List.length_replicate]
  by_cases hlt : 64 < key.size
  · have hk64 : (sumB key).size ≤ 64 := by rw [sumB_size]; omega
    have hke : keyL key = padL (sumB key) := by rw [keyL, keyOf, if_pos hlt]
    go_enter Tryd.func46, Tryd.ntmps46
    go_wp2_with fail
    refine (rwhole_any key _ (by omega)).mono ?_
    rintro e w1 ⟨rfl, hb1⟩
    change _ = padL (endS (addH Hs0 key)) at hke
    change (endS (addH Hs0 key)).size ≤ 64 at hk64
    have hm := main _ hk64
    have hst := zeros_step (endS (addH Hs0 key))
    have hfin := keyL_str (endS (addH Hs0 key))
    rw [← hke] at hfin
    generalize endS (addH Hs0 key) = k at *
    have HF := Lib.hid hfin
    have HM := Lib.hid hm
    have HST := Lib.hid hst
    clear hke hfin hm hst main
    go_wp2
    go_loopw [3] (fun v wr => ∃ j : Nat, j ≤ 64 - k.size ∧ v = .string (k ++ strOfNums (List.replicate j 0)) ∧ w1 = wr)
      (fun v _ => 200 - strLen v)
    case atStart => exact ⟨0, by omega, by rw [List.replicate_zero, append_nums_nil], rfl⟩
    case round =>
      obtain ⟨j, hj, rfl, rfl⟩ := hrel
      have hz := HM.out j hj
      by_cases hl : j < 64 - k.size
      · have hs := HST.out j
        generalize k ++ strOfNums (List.replicate j 0) = B at *
        have HS := Lib.hid hs
        have hB : B.size < 64 := by omega
        have hd : decide ((B.size : Int) < 64) = true := by simp; omega
        have hn : ¬ (9223372036854775807 < B.size + 1) := by omega
        clear hs hz
        go_wp2
        go_roundw
        case rel => exact ⟨j + 1, by omega, by rw [HS.out], trivial⟩
        case measure =>
          show 200 - (B ++ ⟨#[0]⟩ : ByteArray).size < 200 - B.size
          rw [ByteArray.size_append]
          have h1 : (⟨#[0]⟩ : ByteArray).size = 1 := rfl
          omega
      · have e : j = 64 - k.size := by omega
        have hf := HF.out
        rw [← e] at hf
        rw [hf] at hz ⊢
        generalize hP : strOfNums (keyL key) = P at hz hf ⊢
        have hd : decide ((P.size : Int) < 64) = false := by simp; omega
        have HP := Lib.hid hP
        clear hz hP hf
        go_wp2
        go_ret
        exact ⟨by rw [HP.out]; rfl, hb1⟩
  · have hk64 : key.size ≤ 64 := by omega
    have hke : keyL key = padL key := by rw [keyL, keyOf, if_neg hlt]
    have hm := main _ hk64
    have hst := zeros_step key
    have hfin := keyL_str key
    rw [← hke] at hfin
    have hb1 : Below w.heap.size w w := Below.refl _ _
    obtain ⟨k, rfl⟩ : ∃ k, k = key := ⟨_, rfl⟩
    obtain ⟨w1, rfl⟩ : ∃ w1, w1 = w := ⟨_, rfl⟩
    have HF := Lib.hid hfin
    have HM := Lib.hid hm
    have HST := Lib.hid hst
    clear hke hfin hm hst main
    go_enter Tryd.func46, Tryd.ntmps46
    go_wp2
    go_loopw [3] (fun v wr => ∃ j : Nat, j ≤ 64 - k.size ∧ v = .string (k ++ strOfNums (List.replicate j 0)) ∧ w1 = wr)
      (fun v _ => 200 - strLen v)
    case atStart => exact ⟨0, by omega, by rw [List.replicate_zero, append_nums_nil], rfl⟩
    case round =>
      obtain ⟨j, hj, rfl, rfl⟩ := hrel
      have hz := HM.out j hj
      by_cases hl : j < 64 - k.size
      · have hs := HST.out j
        generalize k ++ strOfNums (List.replicate j 0) = B at *
        have HS := Lib.hid hs
        have hB : B.size < 64 := by omega
        have hd : decide ((B.size : Int) < 64) = true := by simp; omega
        have hn : ¬ (9223372036854775807 < B.size + 1) := by omega
        clear hs hz
        go_wp2
        go_roundw
        case rel => exact ⟨j + 1, by omega, by rw [HS.out], trivial⟩
        case measure =>
          show 200 - (B ++ ⟨#[0]⟩ : ByteArray).size < 200 - B.size
          rw [ByteArray.size_append]
          have h1 : (⟨#[0]⟩ : ByteArray).size = 1 := rfl
          omega
      · have e : j = 64 - k.size := by omega
        have hf := HF.out
        rw [← e] at hf
        rw [hf] at hz ⊢
        generalize hP : strOfNums (keyL k) = P at hz hf ⊢
        have hd : decide ((P.size : Int) < 64) = false := by simp; omega
        have HP := Lib.hid hP
        clear hz hP hf
        go_wp2
        go_ret
        exact ⟨by rw [HP.out]; rfl, hb1⟩

/-- the first bytes of a text, each put together with one by exclusive or. -/
def mixTo (s : ByteArray) (m : Int) (k : Nat) : List Int := (List.range k).map fun i => bits BinOp.xor IntKind.u8 (bt s i) m
theorem mixTo_succ (s : ByteArray) (m : Int) (k : Nat) : mixTo s m (k + 1) = mixTo s m k ++ [bits BinOp.xor IntKind.u8 (bt s k) m] := by simp [mixTo, List.range_succ]
theorem mixTo_length (s : ByteArray) (m : Int) (k : Nat) : (mixTo s m k).length = k := by simp [mixTo]
theorem bt_str (X : List Int) (i : Nat) (h : i < X.length) (hb : ∀ y ∈ X, 0 ≤ y ∧ y < 256) : bt (strOfNums X) i = X.getD i 0 := by
  have hm : X[i] ∈ X := List.getElem_mem h
  have := hb _ hm
  rw [bt, strOfNums_data, List.getD_eq_getElem?_getD, List.getElem?_map, List.getElem?_eq_getElem h, List.getD_eq_getElem?_getD, List.getElem?_eq_getElem h]
  simp
  omega
theorem mixTo_mask (X : List Int) (m : Int) (n : Nat) (hn : X.length = n) (hb : ∀ y ∈ X, 0 ≤ y ∧ y < 256) : mixTo (strOfNums X) m n = maskL X m := by
  subst hn
  apply List.ext_getElem
  · rw [mixTo_length, maskL_length]
  · intro i h1 h2
    rw [mixTo_length] at h1
    simp only [mixTo, maskL, List.getElem_map, List.getElem_range]
    rw [bt_str X i h1 hb, List.getD_eq_getElem?_getD, List.getElem?_eq_getElem h1]
    rfl
theorem keyL_bytes (key : ByteArray) : ∀ y ∈ keyL key, 0 ≤ y ∧ y < 256 := by
  intro y hy
  rw [keyL, padL, List.mem_append] at hy
  rcases hy with hy | hy
  · rw [bytesL, List.mem_map] at hy
    obtain ⟨b, _, rfl⟩ := hy
    have := UInt8.toNat_lt b
    omega
  · rw [(List.mem_replicate.1 hy).2]; decide

set_option maxRecDepth 100000 in
set_option maxHeartbeats 1000000 in
theorem rmixed_any (s : ByteArray) (m : Int) (w : World) (hs0 : 0 < s.size) (hs : s.size ≤ 1000) :
    Calls Tryd.prog 47 #[.string s, .int .u8 m] w fun e w' => e = .returned (.string (strOfNums (mixTo s m s.size))) ∧ Below w.heap.size w w' := by
  obtain ⟨i0, hi, hz0, hz1, hz2⟩ := info_parts infoByte
  go_enter Tryd.func47, Tryd.ntmps47
  go_wp2
  go_loopw [5, 6] (fun v i wr => ∃ k : Nat, k ≤ s.size ∧ i = .int .i64 k ∧ wr.ownsRow w.heap.size 5 1 v k ((mixTo s m k).map (Value.int .u8)) ∧ Below w.heap.size w wr)
    (fun _ i _ => s.size - (intOf i).toNat)
  case atStart => exact ⟨0, by omega, rfl, World.ownsRow_nil _ _ _ _, Below.refl _ _⟩
  case round =>
    obtain ⟨k, hk, rfl, hown, hB⟩ := hrel
    by_cases hlt : k < s.size
    · have ga := bt_get hlt
      have hi2 : (k : Int) < (s.size : Int) := by omega
      have hsu := mixTo_succ s m k
      have HSU := Lib.hid hsu
      clear hsu
      go_wp2_with (at_builtin; refine wpList_append_own _ rfl _ _ 42 rfl w.heap.size 5 i0 (.int .u8 0) 1 1 Tryd.underlying42 hi hz0 hz1 hz2 rfl (by decide) _ _ _ rfl (hown.alloc _) ⟨wr.heap.size, 0, none⟩ 1 1 [.int .u8 (bits BinOp.xor IntKind.u8 (bt s k) m)] rfl rfl ?c1 ?c2 ?c3 ?c4 ?c5 ?_)
      case c1 =>
        intro j u hj
        match j, hj with
        | 0, hj => simp at hj; subst hj; simp [Addr.add]
      case c2 => intro u hu; simp only [List.mem_cons, List.not_mem_nil, or_false] at hu; subst hu; rfl
      case c3 => unfold maxLen; omega
      case c4 => omega
      case c5 => have := hB.size; simp; omega
      intro v' w1 hown' hgrow _
      have hB1 : Below w.heap.size w w1 := (hB.alloc hB.size _).grown hgrow (by have := hB.size; simp; omega) (fun g e => (hown.lt g e).1)
      have hown1 : w1.ownsRow w.heap.size 5 1 v' (k + 1) ((mixTo s m (k + 1)).map (Value.int .u8)) := by
        rw [HSU.out, List.map_append]
        exact hown'
      clear hown' hgrow hown hB
      go_wp2
      go_roundw
      case rel => exact ⟨k + 1, by omega, by go_num, hown1, hB1⟩
      case measure => simp [intOf]; omega
    · have e : k = s.size := by omega
      rw [e] at hown
      obtain ⟨n, hn⟩ : ∃ n, s.size = n + 1 := ⟨s.size - 1, by omega⟩
      have hml := mixTo_length s m s.size
      have hd : decide ((k : Int) < (s.size : Int)) = false := by simp; omega
      obtain ⟨g, cap, rfl⟩ : ∃ g cap, u5 = .slice (some ⟨g, 0, none⟩) s.size cap := by
        rw [hn] at hown ⊢
        exact ownsRow_succ hown
      have hcv := run_convert_bytes_arg (P := Tryd.prog) wr 42 5 Tryd.underlying42 Tryd.underlying5 g 0 s.size cap (mixTo s m s.size) hml (fun i hi => by
        rw [Nat.zero_add, hown.cellAt i (by omega)]
        rw [List.getElem?_map, List.getElem?_eq_getElem (by omega), List.getD_eq_getElem?_getD, List.getElem?_eq_getElem (by omega)]
        rfl) 9 Tryd.underlying9
      generalize hst : strOfNums (mixTo s m s.size) = st at hcv
      have HST := Lib.hid hst
      have HD := Lib.hid hd
      clear hst hown hml hn e
      go_wp2
      go_ret
      exact ⟨by rw [HST.out]; rfl, hB⟩

set_option maxRecDepth 100000 in
set_option maxHeartbeats 1000000 in
theorem rmac_ok (key s : ByteArray) (w : World) (hk : key.size ≤ 1000) (hs : s.size ≤ 1048512) :
    Calls Tryd.prog 28 #[.string key, .string s] w fun e w' => e = .returned (.tuple #[.string (tagB (keyL key) s), .int .i64 0]) ∧ Below w.heap.size w w' := by
  have hXl := keyL_length key
  have hKs : (strOfNums (keyL key)).size = 64 := by rw [str_size, hXl]
  have m92 : ∀ w, Calls Tryd.prog 47 #[.string (strOfNums (keyL key)), .int .u8 92] w fun e w' => e = .returned (.string (strOfNums (maskL (keyL key) 92))) ∧ Below w.heap.size w w' := fun w => by
    have := rmixed_any (strOfNums (keyL key)) 92 w (by rw [hKs]; decide) (by rw [hKs]; decide)
    rw [hKs, mixTo_mask _ _ _ hXl (keyL_bytes key)] at this
    exact this
  have m54 : ∀ w, Calls Tryd.prog 47 #[.string (strOfNums (keyL key)), .int .u8 54] w fun e w' => e = .returned (.string (strOfNums (maskL (keyL key) 54))) ∧ Below w.heap.size w w' := fun w => by
    have := rmixed_any (strOfNums (keyL key)) 54 w (by rw [hKs]; decide) (by rw [hKs]; decide)
    rw [hKs, mixTo_mask _ _ _ hXl (keyL_bytes key)] at this
    exact this
  have kp : ∀ w, Calls Tryd.prog 46 #[.string key] w fun e w' => e = .returned (.string (strOfNums (keyL key))) ∧ Below w.heap.size w w' := fun w => rpadded_any key w hk
  have z92 := maskS_size (keyL key) 92 hXl
  have z54 := maskS_size (keyL key) 54 hXl
  have ht : tagB (keyL key) s = sumB (strOfNums (maskL (keyL key) 92) ++ sumB (strOfNums (maskL (keyL key) 54) ++ s)) := rfl
  generalize strOfNums (maskL (keyL key) 92) = p at *
  generalize strOfNums (maskL (keyL key) 54) = q at *
  generalize tagB (keyL key) s = r at *
  generalize strOfNums (keyL key) = kk at *
  have zq : (q ++ s).size ≤ 1048576 := by rw [ByteArray.size_append, z54]; omega
  have zr : (p ++ sumB (q ++ s)).size ≤ 1048576 := by rw [ByteArray.size_append, z92, sumB_size]; omega
  have n1 : ¬ (9223372036854775807 < q.size + s.size) := by omega
  have n2 : ¬ (9223372036854775807 < p.size + (sumB (q ++ s)).size) := by rw [z92, sumB_size]; omega
  have M1 := Lib.hid m92
  have M2 := Lib.hid m54
  have KP := Lib.hid kp
  have HT := Lib.hid ht
  clear m92 m54 z92 z54 ht hXl hKs kp
  go_enter Tryd.func28, Tryd.ntmps28
  go_wp2_with fail
  refine (KP.out _).mono ?_
  rintro e w1 ⟨rfl, hB1⟩
  go_wp2_with fail
  refine (M1.out _).mono ?_
  rintro e w2 ⟨rfl, hb⟩
  have hB2 : Below w.heap.size w w2 := hB1.trans (hb.mono hB1.size)
  clear hb hB1
  go_wp2_with fail
  refine (M2.out _).mono ?_
  rintro e w3 ⟨rfl, hb⟩
  have hB3 : Below w.heap.size w w3 := hB2.trans (hb.mono hB2.size)
  clear hb hB2
  go_wp2_with fail
  refine (rwhole_any _ _ zq).mono ?_
  rintro e w4 ⟨rfl, hb⟩
  have hv4 : endS (addH Hs0 (q ++ s)) = sumB (q ++ s) := rfl
  rw [hv4]
  clear hv4
  have hB4 : Below w.heap.size w w4 := hB3.trans (hb.mono hB3.size)
  clear hb hB3
  generalize hv : sumB (q ++ s) = v at *
  have HV := Lib.hid hv
  clear hv
  go_wp2_with fail
  refine (rwhole_any _ _ zr).mono ?_
  rintro e w5 ⟨rfl, hb⟩
  have hB5 : Below w.heap.size w w5 := hB4.trans (hb.mono hB4.size)
  clear hb hB4
  have hv5 : endS (addH Hs0 (p ++ v)) = sumB (p ++ v) := rfl
  rw [hv5]
  generalize hv : sumB (p ++ v) = v5 at *
  have HV5 := Lib.hid hv
  clear hv hv5
  go_wp2
  go_ret2
  exact ⟨by rw [HT.out]; rfl, hB5⟩
end Go.Proofs.YtcpkkicpkmjagaaDoor
