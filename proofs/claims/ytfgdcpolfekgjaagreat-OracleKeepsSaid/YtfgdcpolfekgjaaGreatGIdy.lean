/-
  Layer 8: contracts of the statements' own pick, Text and Label.
  Layer 8: contract of the statements' own Draws: a tape of two thousand bytes that hang on the raw numbers alone. Condition: the numbers lie where the slice points to.
  Layer 8: contract of the statements' own Ask: a raw question, by the document. Condition: the ideal's lists lie where its slices point to.
  Layer 8: contract of the statements' own Ideal: an ideal of a tape, and raw questions, at most fifteen. Condition: the questions lie where the slice points to.
  Layer 8: awake, the statements' own: it answers true.
  Layer 8: what the statements write down of questions, byte by byte; what is known behind each question (plain).
  Layer 8: rows that grow side by side, and lists elsewhere. Nothing of the program stands here but ideals in memory.
-/
import Derived.Test.YtfgdcpolfekgjaaGreatGIdx
import Derived.Test.YtfgdcpolfekgjaaGreatGPl
import Derived.Test.YtfgdcpolfekgjaaGreatGTc
import Derived.Test.YtfgdcpolfekgjaaGreatGId3
import Derived.Test.YtfgdcpolfekgjaaGreatGIdP
import Derived.Test.YtfgdcpolfekgjaaGreatGId1
import Derived.OwnWalk
import Derived.SizedLaws
import Derived.Laws.Strings
import Derived.Laws.Slices
import Derived.Maps.AppendAt
namespace Go.Proofs.YtfgdcpolfekgjaaGreat
open Go.RowKit Go.Shelf

theorem infoByte8 : (Tryz.prog.info? 5).map (fun i => (i.zero, i.size, i.bytes)) = some (some (.int .u8 0), 1, 1) := by kernel_rfl
theorem infoThree8 {P : Program} {t : TypeId} {z : Option Value} {s b : Nat} (h : (P.info? t).map (fun i => (i.zero, i.size, i.bytes)) = some (z, s, b)) : ∃ i, P.info? t = some i ∧ i.zero = z ∧ i.size = s ∧ i.bytes = b := by
  cases hi : P.info? t with
  | none => rw [hi] at h; cases h
  | some i =>
    rw [hi] at h
    cases h
    exact ⟨i, rfl, rfl, rfl, rfl⟩
/-- n noughts. -/
def nul8 (n : Nat) : ByteArray := strOfNums (List.replicate n 0)
theorem nul8_size (n : Nat) : (nul8 n).size = n := by rw [nul8, strOfNums_size, List.length_replicate]
/-- the cells of n noughts. -/
def nulC8 (n : Nat) : Array Value := (List.replicate n (Value.int .u8 0)).toArray
theorem run_make8 (W : World) (n : Nat) (h : n ≤ 2000000) :
    (Instr.makeSlice 63 (.int .i64 (n : Int)) (.int .i64 (n : Int))).run Tryz.prog W = .ok (.slice (some ⟨W.heap.size, 0, none⟩) n n) (W.alloc (.cells (nulC8 n) 5)) := by
  obtain ⟨i0, hi, hz0, hz1, hz2⟩ := infoThree8 infoByte8
  have h1 := run_make (P := Tryz.prog) W 63 5 i0 (.int .u8 0) Tryz.underlying63 hi hz0 .i64 .i64 (n : Int) (n : Int) (by omega) (by omega) (by rw [hz2]; omega) (by omega)
  rw [hz1, Int.toNat_natCast, Nat.mul_one] at h1
  have e : madeCells (Value.int .u8 0).cells n = nulC8 n := by
    apply Array.toList_inj.1
    show (madeCells #[.int .u8 0] n).toList = _
    rw [toList_madeCells_one]
    simp [nulC8]
  rw [e] at h1
  exact h1
theorem run_conv8 {W : World} {g n : Nat} (h : Is W g 5 (nulC8 n)) :
    (convert 63 9 (.slice (some ⟨g, 0, none⟩) n n)).run Tryz.prog W = .ok (.string (nul8 n)) W :=
  run_convert_bytes_arg (P := Tryz.prog) W 63 5 Tryz.underlying63 Tryz.underlying5 g 0 n n (List.replicate n 0) (by simp) (fun i hi => by
    rw [Nat.zero_add, h.cell, nulC8]
    simp [hi]) 9 Tryz.underlying9

set_option maxHeartbeats 1000000 in
theorem pick8_any (c n : Int) (w : World) (h0 : -9223372036854775808 ≤ c) (h1 : c ≤ 9223372036854775807) (hn : 0 < n) (hn2 : n ≤ 9223372036854775807) :
    Calls Tryz.prog 43 #[.int .i64 c, .int .i64 n] w fun e w' => e = .returned (.int .i64 (pickN c n)) ∧ w = w' := by
  by_cases hc : c < 0
  · have hd : pickN c n = (-(c + 1)) % n := by simp [pickN, hc]
    rw [hd]
    clear hd
    go_enter Tryz.func43, Tryz.ntmps43
    go_wp2
    go_ret
    refine ⟨?_, rfl⟩
    have e : -((c + 1).tmod n) = (-(c + 1)) % n := by rw [← Int.neg_tmod, Int.tmod_eq_emod_of_nonneg (by omega)]
    rw [← e]
    rfl
  · have hd : pickN c n = c % n := by simp [pickN, hc]
    rw [hd]
    clear hd
    go_enter Tryz.func43, Tryz.ntmps43
    go_wp2
    go_ret
    exact ⟨rfl, rfl⟩

theorem convL8 (L : List Int) {n : Nat} (hn : L.length = n) {W : World} {g : Nat} {cs : Array Value} (h : Is W g 5 cs) (hc : cs = (L.map (Value.int .u8)).toArray := by rfl) :
    (convert 63 9 (.slice (some ⟨g, 0, none⟩) n n)).run Tryz.prog W = .ok (.string (strOfNums L)) W :=
  run_convert_bytes_arg (P := Tryz.prog) W 63 5 Tryz.underlying63 Tryz.underlying5 g 0 n n L hn (fun i hi => by
    rw [Nat.zero_add, h.cell, hc]
    rw [← hn] at hi
    simp [hi]) 9 Tryz.underlying9
/-- what is in a cell, of a raw number; a label. -/
def text8 (c : Int) : ByteArray := strOfNums [pickN c 5] ++ nul8 23
theorem text8_size (c : Int) : (text8 c).size = 24 := by rw [text8, ByteArray.size_append, strOfNums_size, nul8_size]; rfl
set_option maxRecDepth 100000 in
set_option maxHeartbeats 4000000 in
theorem qtext_any (c : Int) (w : World) (h0 : -9223372036854775808 ≤ c ∧ c ≤ 9223372036854775807) :
    Calls Tryz.prog 22 #[.int .i64 c] w fun e w' => e = .returned (.string (text8 c)) ∧ Below w.heap.size w w' := by
  have PK := Lib.hid (fun w => pick8_any c 5 w h0.1 h0.2 (by omega) (by omega))
  have hp := pickN_bd c 5 (by omega)
  have hv : text8 c = strOfNums [pickN c 5] ++ nul8 23 := by rw [text8]
  rw [hv]
  clear hv
  generalize pickN c 5 = p at *
  have hpu : IntKind.u8.wrap p = p := by rw [show IntKind.u8.wrap p = p % 256 from rfl]; omega
  obtain ⟨Z, hZ⟩ : ∃ Z, Z = nul8 23 := ⟨_, rfl⟩
  have hn : ¬ (9223372036854775807 < (strOfNums [p]).size + Z.size) := by rw [hZ, nul8_size, strOfNums_size]; simp
  have mk : ∀ W : World, (Instr.makeSlice 63 (.int .i64 23) (.int .i64 23)).run Tryz.prog W = .ok (.slice (some ⟨W.heap.size, 0, none⟩) 23 23) (W.alloc (.cells (nulC8 23) 5)) := fun W => run_make8 W 23 (by omega)
  have a1 : (convert 63 9 (.slice (some ⟨w.heap.size, 0, none⟩) 1 1)).run Tryz.prog ((w.alloc (.cells #[.int .u8 p] 5)).drew) = .ok (.string (strOfNums [p])) ((w.alloc (.cells #[.int .u8 p] 5)).drew) := convL8 ([p]) (by rfl) (show Is ((w.alloc (.cells #[.int .u8 p] 5)).drew) (w.heap.size) 5 #[.int .u8 p] from Is.new w _ _)
  have a2 : (convert 63 9 (.slice (some ⟨w.heap.size + 1, 0, none⟩) 1 1)).run Tryz.prog (((w.alloc (.cells (nulC8 23) 5)).alloc (.cells #[.int .u8 p] 5)).drew) = .ok (.string (strOfNums [p])) (((w.alloc (.cells (nulC8 23) 5)).alloc (.cells #[.int .u8 p] 5)).drew) := convL8 ([p]) (by rfl) (show Is (((w.alloc (.cells (nulC8 23) 5)).alloc (.cells #[.int .u8 p] 5)).drew) (w.heap.size + 1) 5 #[.int .u8 p] from heap_alloc2_new w _ _)
  have a3 : (convert 63 9 (.slice (some ⟨w.heap.size, 0, none⟩) 1 1)).run Tryz.prog (((w.alloc (.cells #[.int .u8 p] 5)).alloc (.cells (nulC8 23) 5)).drew) = .ok (.string (strOfNums [p])) (((w.alloc (.cells #[.int .u8 p] 5)).alloc (.cells (nulC8 23) 5)).drew) := convL8 ([p]) (by rfl) (show Is (((w.alloc (.cells #[.int .u8 p] 5)).alloc (.cells (nulC8 23) 5)).drew) (w.heap.size) 5 #[.int .u8 p] from heap_alloc2_old w _ _)
  have n1 : (convert 63 9 (.slice (some ⟨w.heap.size, 0, none⟩) 23 23)).run Tryz.prog ((w.alloc (.cells (nulC8 23) 5)).drew) = .ok (.string Z) ((w.alloc (.cells (nulC8 23) 5)).drew) := by rw [hZ]; exact run_conv8 (show Is ((w.alloc (.cells (nulC8 23) 5)).drew) (w.heap.size) 5 (nulC8 23) from Is.new w _ _)
  have n2 : (convert 63 9 (.slice (some ⟨w.heap.size + 1, 0, none⟩) 23 23)).run Tryz.prog (((w.alloc (.cells #[.int .u8 p] 5)).alloc (.cells (nulC8 23) 5)).drew) = .ok (.string Z) (((w.alloc (.cells #[.int .u8 p] 5)).alloc (.cells (nulC8 23) 5)).drew) := by rw [hZ]; exact run_conv8 (show Is (((w.alloc (.cells #[.int .u8 p] 5)).alloc (.cells (nulC8 23) 5)).drew) (w.heap.size + 1) 5 (nulC8 23) from heap_alloc2_new w _ _)
  have n3 : (convert 63 9 (.slice (some ⟨w.heap.size, 0, none⟩) 23 23)).run Tryz.prog (((w.alloc (.cells (nulC8 23) 5)).alloc (.cells #[.int .u8 p] 5)).drew) = .ok (.string Z) (((w.alloc (.cells (nulC8 23) 5)).alloc (.cells #[.int .u8 p] 5)).drew) := by rw [hZ]; exact run_conv8 (show Is (((w.alloc (.cells (nulC8 23) 5)).alloc (.cells #[.int .u8 p] 5)).drew) (w.heap.size) 5 (nulC8 23) from heap_alloc2_old w _ _)
  rw [← hZ]
  clear hZ
  go_enter Tryz.func22, Tryz.ntmps22
  go_wp2
  go_region_with (go_at_call 43; refine (PK.out _).mono ?_; rintro e wp ⟨rfl, rfl⟩)
  all_goals
    (go_wp2
     go_ret
     exact ⟨rfl, belowN (((Below.refl _ _).alloc (Nat.le_refl _) _).alloc (by simp) _) 1⟩)

end Go.Proofs.YtfgdcpolfekgjaaGreat
namespace Go.Proofs.YtfgdcpolfekgjaaGreat
open Go.RowKit Go.Shelf

/-- the number ahead of byte k. -/
def drwI (L : List Int) (small : Bool) (k : Nat) : Int :=
  if small then (if k % 8 = 0 ∧ 0 < L.length then pickN (L.getD (k / 8 % L.length) 0) 3 else 0)
  else 7 * (k : Int) * (k : Int) + (if 0 < L.length then pickN (L.getD (k % L.length) 0) 256 * (1 + ((k / L.length : Nat) : Int)) else 0)
def drwL (L : List Int) (small : Bool) (k : Nat) : List Int := (List.range k).map fun j => drwI L small j % 256
def drwS (L : List Int) (small : Bool) : ByteArray := strOfNums (drwL L small 2000)
theorem drwL_len (L : List Int) (small : Bool) (k : Nat) : (drwL L small k).length = k := by simp [drwL]
theorem drwL_succ (L : List Int) (small : Bool) (k : Nat) : drwL L small (k + 1) = drwL L small k ++ [drwI L small k % 256] := by simp [drwL, List.range_succ]
theorem drwS_size (L : List Int) (small : Bool) : (drwS L small).size = 2000 := by rw [drwS, strOfNums_size, drwL_len]
abbrev uL (l : List Int) : List Value := l.map (Value.int .u8)
theorem drw_tmod (a b : Nat) : (a : Int).tmod (b : Int) = ((a % b : Nat) : Int) := rfl
theorem drw_tdiv (a b : Nat) : (a : Int).tdiv (b : Int) = ((a / b : Nat) : Int) := rfl

set_option maxRecDepth 100000 in
set_option maxHeartbeats 8000000 in
theorem draws_any (A : Option Addr) (cap : Nat) (L : List Int) (small : Bool) (w : World) (hc : InL w A L) (hL : ∀ x ∈ L, -9223372036854775808 ≤ x ∧ x ≤ 9223372036854775807) (_hlen : L.length ≤ maxLen) :
    Calls Tryz.prog 27 #[.slice A L.length cap, .bool small] w fun e w' => e = .returned (.agg #[.string (drwS L small), .int .i64 0]) ∧ Below w.heap.size w w' := by
  obtain ⟨i0, hi0, hz0, hz1, hz2⟩ := infoThree8 infoByte8
  have PK := Lib.hid (fun (c m : Int) (h1 : 0 < m) (h2 : m ≤ 1000) (w : World) (h0 : -9223372036854775808 ≤ c ∧ c ≤ 9223372036854775807) => pick8_any c m w h0.1 h0.2 h1 (by omega))
  have HC := Lib.hid (fun (W : World) (hb : Below w.heap.size w W) => hc.keep hb)
  have HLB := Lib.hid hL
  clear hc hL
  obtain ⟨W1, hW1⟩ : ∃ W, W = w.alloc (.cells #[.string ⟨#[]⟩, .int .i64 0] 23) := ⟨_, rfl⟩
  have iT : Is W1 w.heap.size 23 #[.string ⟨#[]⟩, .int .i64 0] := by rw [hW1]; exact Is.new _ _ _
  have hB : Below w.heap.size w W1 := by rw [hW1]; exact (Below.refl _ _).alloc (Nat.le_refl _) _
  go_enter Tryz.func27, Tryz.ntmps27
  go_wp2_with fail
  rw [← hW1]
  clear hW1
  go_wp2
  go_loopw [5, 6] (fun v i wr => ∃ (k : Nat) (A2 : Option Addr) (c2 : Nat), k ≤ 2000 ∧ v = .slice A2 k c2 ∧ i = .int .i64 (k : Int) ∧ RowV wr w.heap.size 5 1 A2 c2 k (uL (drwL L small k)) ∧ Is wr w.heap.size 23 #[.string ⟨#[]⟩, .int .i64 0] ∧ Below w.heap.size w wr)
    (fun _ i _ => 2000 - (intOf i).toNat)
  case atStart => exact ⟨0, none, 0, by omega, rfl, rfl, RowV.nil _ _ _ _, iT, hB⟩
  case round =>
    clear iT hB
    obtain ⟨k, A2, c2, hk, rfl, rfl, hO, iT, hB⟩ := hrel
    by_cases hlt : k < 2000
    · have l1 : (k : Int) < 2000 := by omega
      have w1i := IntWalk.i64_in ((k : Int) + 1) (by omega)
      have hk2 : (k : Int) * (k : Int) ≤ 2000 * 2000 := Int.mul_le_mul (by omega) (by omega) (by omega) (by omega)
      have hk0 : 0 ≤ (k : Int) * (k : Int) := Int.mul_nonneg (by omega) (by omega)
      have w2i := IntWalk.i64_in (7 * (k : Int)) (by omega)
      have w3i := IntWalk.i64_in (7 * (k : Int) * (k : Int)) (by rw [Int.mul_assoc]; omega)
      have hs := drwL_succ L small k
      by_cases h0 : L = []
      · subst h0
        cases small with
        | false =>
          have hd : drwI [] false k = 7 * (k : Int) * (k : Int) := by simp [drwI]
          have hu : IntKind.u8.wrap (7 * (k : Int) * (k : Int)) = (7 * (k : Int) * (k : Int)) % 256 := rfl
          rw [hd] at hs
          generalize (7 * (k : Int) * (k : Int)) % 256 = y at *
          have yOne : ∀ u ∈ (#[.int .u8 y] : Array Value).toList, u.oneCell' = true := fun u hu => by simp only [List.mem_cons, List.not_mem_nil, or_false] at hu; subst hu; rfl
          have hO2 := hO.alloc (.cells #[.int .u8 y] 5)
          have iT2 := iT.alloc (.cells #[.int .u8 y] 5)
          have hB2 := hB.alloc hB.size (.cells #[.int .u8 y] 5)
          have iN : Is (wr.alloc (.cells #[.int .u8 y] 5)) wr.heap.size 5 #[.int .u8 y] := Is.new _ _ _
          go_wp2_with (at_builtin; refine wpList_pushV rfl _ _ 63 5 i0 (.int .u8 0) 1 1 rfl Tryz.underlying63 hi0 hz0 hz1 hz2 rfl (by decide) w.heap.size A2 c2 k _ hO2 wr.heap.size 5 #[.int .u8 y] iN rfl yOne (by unfold maxLen; omega) (by omega) ⟨rfl, rfl⟩ hB2.size ?_; intro A3 c3 V r3 hg3)
          go_roundw
          case rel =>
            have q2 := hO2.isFar hg3 iT2 (by decide)
            have q3 := hO2.belowG hB2 hg3
            first | exact ⟨k + 1, by omega, A3, c3, ⟨rfl, rfl, rfl⟩, by go_num, by rw [hs]; unfold uL; rw [List.map_append]; exact r3, q2, q3⟩ | exact ⟨k + 1, by omega, A3, c3, rfl, by go_num, by rw [hs]; unfold uL; rw [List.map_append]; exact r3, q2, q3⟩ | exact ⟨k + 1, A3, c3, by omega, rfl, by go_num, by rw [hs]; unfold uL; rw [List.map_append]; exact r3, q2, q3⟩
          case measure => simp [intOf]; omega
        | true =>
          have hd : drwI [] true k = 0 := by simp [drwI]
          by_cases h8 : k % 8 = 0
          · have m8 : (k : Int).tmod 8 = 0 := by rw [show (k : Int).tmod 8 = ((k % 8 : Nat) : Int) from rfl]; omega
            rw [hd, show (0 : Int) % 256 = 0 from rfl] at hs
            have yOne : ∀ u ∈ (#[.int .u8 0] : Array Value).toList, u.oneCell' = true := fun u hu => by simp only [List.mem_cons, List.not_mem_nil, or_false] at hu; subst hu; rfl
            have hO2 := hO.alloc (.cells #[.int .u8 0] 5)
            have iT2 := iT.alloc (.cells #[.int .u8 0] 5)
            have hB2 := hB.alloc hB.size (.cells #[.int .u8 0] 5)
            have iN : Is (wr.alloc (.cells #[.int .u8 0] 5)) wr.heap.size 5 #[.int .u8 0] := Is.new _ _ _
            go_wp2_with (at_builtin; refine wpList_pushV rfl _ _ 63 5 i0 (.int .u8 0) 1 1 rfl Tryz.underlying63 hi0 hz0 hz1 hz2 rfl (by decide) w.heap.size A2 c2 k _ hO2 wr.heap.size 5 #[.int .u8 0] iN rfl yOne (by unfold maxLen; omega) (by omega) ⟨rfl, rfl⟩ hB2.size ?_; intro A3 c3 V r3 hg3)
            go_roundw
            case rel =>
              have q2 := hO2.isFar hg3 iT2 (by decide)
              have q3 := hO2.belowG hB2 hg3
              first | exact ⟨k + 1, by omega, A3, c3, ⟨rfl, rfl, rfl⟩, by go_num, by rw [hs]; unfold uL; rw [List.map_append]; exact r3, q2, q3⟩ | exact ⟨k + 1, by omega, A3, c3, rfl, by go_num, by rw [hs]; unfold uL; rw [List.map_append]; exact r3, q2, q3⟩ | exact ⟨k + 1, A3, c3, by omega, rfl, by go_num, by rw [hs]; unfold uL; rw [List.map_append]; exact r3, q2, q3⟩
            case measure => simp [intOf]; omega
          · have m8 : ¬ (k : Int).tmod 8 = 0 := by rw [show (k : Int).tmod 8 = ((k % 8 : Nat) : Int) from rfl]; omega
            rw [hd, show (0 : Int) % 256 = 0 from rfl] at hs
            have yOne : ∀ u ∈ (#[.int .u8 0] : Array Value).toList, u.oneCell' = true := fun u hu => by simp only [List.mem_cons, List.not_mem_nil, or_false] at hu; subst hu; rfl
            have hO2 := hO.alloc (.cells #[.int .u8 0] 5)
            have iT2 := iT.alloc (.cells #[.int .u8 0] 5)
            have hB2 := hB.alloc hB.size (.cells #[.int .u8 0] 5)
            have iN : Is (wr.alloc (.cells #[.int .u8 0] 5)) wr.heap.size 5 #[.int .u8 0] := Is.new _ _ _
            go_wp2_with (at_builtin; refine wpList_pushV rfl _ _ 63 5 i0 (.int .u8 0) 1 1 rfl Tryz.underlying63 hi0 hz0 hz1 hz2 rfl (by decide) w.heap.size A2 c2 k _ hO2 wr.heap.size 5 #[.int .u8 0] iN rfl yOne (by unfold maxLen; omega) (by omega) ⟨rfl, rfl⟩ hB2.size ?_; intro A3 c3 V r3 hg3)
            go_roundw
            case rel =>
              have q2 := hO2.isFar hg3 iT2 (by decide)
              have q3 := hO2.belowG hB2 hg3
              first | exact ⟨k + 1, by omega, A3, c3, ⟨rfl, rfl, rfl⟩, by go_num, by rw [hs]; unfold uL; rw [List.map_append]; exact r3, q2, q3⟩ | exact ⟨k + 1, by omega, A3, c3, rfl, by go_num, by rw [hs]; unfold uL; rw [List.map_append]; exact r3, q2, q3⟩ | exact ⟨k + 1, A3, c3, by omega, rfl, by go_num, by rw [hs]; unfold uL; rw [List.map_append]; exact r3, q2, q3⟩
            case measure => simp [intOf]; omega
      · have hl0 : 0 < L.length := List.length_pos_iff.2 h0
        have hl1 : 0 < (L.length : Int) := by omega
        obtain ⟨b, off, rfl, _, _⟩ := HC.out wr hB 0 hl0
        obtain ⟨r, hr⟩ : ∃ r, r = k % L.length := ⟨_, rfl⟩
        obtain ⟨q, hq⟩ : ∃ q, q = k / L.length := ⟨_, rfl⟩
        have hrl : r < L.length := by rw [hr]; exact Nat.mod_lt _ hl0
        have hql : q ≤ 2000 := by rw [hq]; exact Nat.le_trans (Nat.div_le_self _ _) (by omega)
        have tm : (k : Int).tmod (L.length : Int) = (r : Int) := by rw [drw_tmod, hr]
        have td : (k : Int).tdiv (L.length : Int) = (q : Int) := by rw [drw_tdiv, hq]
        have hrl1 : (r : Int) < (L.length : Int) := by omega
        obtain ⟨x, hxr⟩ : ∃ x, L.getD r 0 = x := ⟨_, rfl⟩
        have hxm : -9223372036854775808 ≤ x ∧ x ≤ 9223372036854775807 := by rw [← hxr, List.getD_eq_getElem?_getD, List.getElem?_eq_getElem hrl]; exact HLB.out _ (List.getElem_mem hrl)
        obtain ⟨p, hp⟩ : ∃ p, p = pickN x 256 := ⟨_, rfl⟩
        have hpb := pickN_bd x 256 (by omega)
        have PK2 := Lib.hid (PK.out x 256 (by omega) (by omega) wr.drew hxm)
        rw [← hp] at hpb PK2
        have hpq : p * (1 + (q : Int)) ≤ 255 * 2001 := Int.mul_le_mul (by omega) (by omega) (by omega) (by omega)
        have hpq0 : 0 ≤ p * (1 + (q : Int)) := Int.mul_nonneg (by omega) (by omega)
        have hkk : 7 * (k : Int) * (k : Int) ≤ 28000000 := by rw [Int.mul_assoc]; omega
        have hkk0 : 0 ≤ 7 * (k : Int) * (k : Int) := by rw [Int.mul_assoc]; omega
        have w7i := IntWalk.i64_in (q : Int) (by omega)
        have w4i := IntWalk.i64_in (1 + (q : Int)) (by omega)
        have w5i := IntWalk.i64_in (p * (1 + (q : Int))) (by omega)
        have w6i := IntWalk.i64_in (7 * (k : Int) * (k : Int) + p * (1 + (q : Int))) (by omega)
        have hdF : drwI L false k = 7 * (k : Int) * (k : Int) + p * (1 + (q : Int)) := by simp only [drwI, if_pos hl0, ← hr, ← hq, hxr, ← hp]; rfl
        clear hr hq hp
        go_wp2
        refine wp_region_held_drew (S := fun W => Below w.heap.size w W) (by kernel_rfl) (belowN hB 1) (fun hS => ?_)
        change wpAnyH _ _ (opsOf Tryz.f27 7) _ _ 17 (Array.replicate 17 false) _ _
        clear hS
        refine wpAnyH_pure (i := 0) (v := .int .i64 (7 * (k : Int) * (k : Int))) (at_nth rfl) (by kernel_rfl) (by kernel_rfl) (by kernel_rfl) (fun _ _ _ h => h) (by kernel_rfl) (fun w hSw => by kernel_rfl) (belowN hB 1) ?_
        simp only [Act.put, List.setIfInBounds_toArray, List.set_cons_succ, List.set_cons_zero]
        refine wpAnyH_pure (i := 1) (v := .slice (some ⟨b, off, none⟩) L.length cap) (at_nth rfl) (by kernel_rfl) (by kernel_rfl) (by kernel_rfl) (fun _ _ _ h => h) (by kernel_rfl) (fun w hSw => by kernel_rfl) (belowN hB 1) ?_
        simp only [Act.put, List.setIfInBounds_toArray, List.set_cons_succ, List.set_cons_zero]
        refine wpAnyH_pure (i := 2) (v := .int .i64 (k : Int)) (at_nth rfl) (by kernel_rfl) (by kernel_rfl) (by kernel_rfl) (fun _ _ _ h => h) (by kernel_rfl) (fun w hSw => by kernel_rfl) (belowN hB 1) ?_
        simp only [Act.put, List.setIfInBounds_toArray, List.set_cons_succ, List.set_cons_zero]
        refine wpAnyH_pure (i := 3) (v := .slice (some ⟨b, off, none⟩) L.length cap) (at_nth rfl) (by kernel_rfl) (by kernel_rfl) (by kernel_rfl) (fun _ _ _ h => h) (by kernel_rfl) (fun w hSw => by kernel_rfl) (belowN hB 1) ?_
        simp only [Act.put, List.setIfInBounds_toArray, List.set_cons_succ, List.set_cons_zero]
        refine wpAnyH_pure (i := 4) (v := .int .i64 (L.length : Int)) (at_nth rfl) (by kernel_rfl) (by kernel_rfl) (by kernel_rfl) (fun _ _ _ h => h) (by kernel_rfl) (fun w hSw => by go_simp) (belowN hB 1) ?_
        simp only [Act.put, List.setIfInBounds_toArray, List.set_cons_succ, List.set_cons_zero]
        refine wpAnyH_pure (i := 5) (v := .int .i64 (r : Int)) (at_nth rfl) (by kernel_rfl) (by kernel_rfl) (by kernel_rfl) (fun _ _ _ h => h) (by kernel_rfl) (fun w hSw => by go_simp) (belowN hB 1) ?_
        simp only [Act.put, List.setIfInBounds_toArray, List.set_cons_succ, List.set_cons_zero]
        refine wpAnyH_pure (i := 6) (v := .pointer (some ⟨b, off + r, none⟩)) (at_nth rfl) (by kernel_rfl) (by kernel_rfl) (by kernel_rfl) (fun _ _ _ h => h) (by kernel_rfl) (fun w hSw => by go_simp) (belowN hB 1) ?_
        simp only [Act.put, List.setIfInBounds_toArray, List.set_cons_succ, List.set_cons_zero]
        refine wpAnyH_pure (i := 7) (v := .int .i64 x) (at_nth rfl) (by kernel_rfl) (by kernel_rfl) (by kernel_rfl) (fun _ _ _ h => h) (by kernel_rfl) (fun w hSw => by (obtain ⟨b1, off1, e1, _, hc⟩ := HC.out _ hSw r hrl; cases e1; rw [hxr] at hc; go_simp)) (belowN hB 1) ?_
        simp only [Act.put, List.setIfInBounds_toArray, List.set_cons_succ, List.set_cons_zero]
        refine wpAnyH_pure (i := 9) (v := .int .i64 (k : Int)) (at_nth rfl) (by kernel_rfl) (by kernel_rfl) (by kernel_rfl) (fun _ _ _ h => h) (by kernel_rfl) (fun w hSw => by kernel_rfl) (belowN hB 1) ?_
        simp only [Act.put, List.setIfInBounds_toArray, List.set_cons_succ, List.set_cons_zero]
        refine wpAnyH_pure (i := 10) (v := .slice (some ⟨b, off, none⟩) L.length cap) (at_nth rfl) (by kernel_rfl) (by kernel_rfl) (by kernel_rfl) (fun _ _ _ h => h) (by kernel_rfl) (fun w hSw => by kernel_rfl) (belowN hB 1) ?_
        simp only [Act.put, List.setIfInBounds_toArray, List.set_cons_succ, List.set_cons_zero]
        refine wpAnyH_pure (i := 11) (v := .int .i64 (L.length : Int)) (at_nth rfl) (by kernel_rfl) (by kernel_rfl) (by kernel_rfl) (fun _ _ _ h => h) (by kernel_rfl) (fun w hSw => by go_simp) (belowN hB 1) ?_
        simp only [Act.put, List.setIfInBounds_toArray, List.set_cons_succ, List.set_cons_zero]
        refine wpAnyH_pure (i := 12) (v := .int .i64 (q : Int)) (at_nth rfl) (by kernel_rfl) (by kernel_rfl) (by kernel_rfl) (fun _ _ _ h => h) (by kernel_rfl) (fun w hSw => by go_simp) (belowN hB 1) ?_
        simp only [Act.put, List.setIfInBounds_toArray, List.set_cons_succ, List.set_cons_zero]
        refine wpAnyH_pure (i := 13) (v := .int .i64 (1 + (q : Int))) (at_nth rfl) (by kernel_rfl) (by kernel_rfl) (by kernel_rfl) (fun _ _ _ h => h) (by kernel_rfl) (fun w hSw => by go_simp) (belowN hB 1) ?_
        simp only [Act.put, List.setIfInBounds_toArray, List.set_cons_succ, List.set_cons_zero]
        refine wpAnyH_call (i := 8) (by kernel_rfl) (at_nth rfl) (by kernel_rfl) (fun w => by kernel_rfl) ((PK2.out).mono ?_)
        rintro e W3 ⟨rfl, rfl⟩
        refine ⟨_, rfl, (belowN hB 1), ?_⟩
        try simp only [Act.put, List.setIfInBounds_toArray, List.set_cons_succ, List.set_cons_zero]
        refine wpAnyH_pure (i := 14) (v := .int .i64 (p * (1 + (q : Int)))) (at_nth rfl) (by kernel_rfl) (by kernel_rfl) (by kernel_rfl) (fun _ _ _ h => h) (by kernel_rfl) (fun w hSw => by go_simp) (belowN hB 1) ?_
        simp only [Act.put, List.setIfInBounds_toArray, List.set_cons_succ, List.set_cons_zero]
        refine wpAnyH_pure (i := 15) (v := .int .i64 (7 * (k : Int) * (k : Int) + p * (1 + (q : Int)))) (at_nth rfl) (by kernel_rfl) (by kernel_rfl) (by kernel_rfl) (fun _ _ _ h => h) (by kernel_rfl) (fun w hSw => by go_simp) (belowN hB 1) ?_
        simp only [Act.put, List.setIfInBounds_toArray, List.set_cons_succ, List.set_cons_zero]
        refine wpAnyH_pure (i := 16) (v := .int .i64 (7 * (k : Int) * (k : Int) + p * (1 + (q : Int)))) (at_nth rfl) (by kernel_rfl) (by kernel_rfl) (by kernel_rfl) (fun _ _ _ h => h) (by kernel_rfl) (fun w hSw => by kernel_rfl) (belowN hB 1) ?_
        simp only [Act.put, List.setIfInBounds_toArray, List.set_cons_succ, List.set_cons_zero]
        refine wpAnyH_done (by kernel_rfl) ?_ _
        have hO := hO.drewN 1
        have iT := iT.drewN 1
        have hB := belowN hB 1
        change RowV wr.drew _ _ _ _ _ _ _ at hO
        change Is wr.drew _ _ _ at iT
        change Below _ _ wr.drew at hB
        clear PK2
        generalize wr.drew = W7 at *
        cases small with
        | false =>
          have hd := hdF
          have hu : IntKind.u8.wrap (7 * (k : Int) * (k : Int) + p * (1 + (q : Int))) = (7 * (k : Int) * (k : Int) + p * (1 + (q : Int))) % 256 := rfl
          rw [hd] at hs
          generalize (7 * (k : Int) * (k : Int) + p * (1 + (q : Int))) % 256 = y at *
          have yOne : ∀ u ∈ (#[.int .u8 y] : Array Value).toList, u.oneCell' = true := fun u hu => by simp only [List.mem_cons, List.not_mem_nil, or_false] at hu; subst hu; rfl
          have hO2 := hO.alloc (.cells #[.int .u8 y] 5)
          have iT2 := iT.alloc (.cells #[.int .u8 y] 5)
          have hB2 := hB.alloc hB.size (.cells #[.int .u8 y] 5)
          have iN : Is (W7.alloc (.cells #[.int .u8 y] 5)) W7.heap.size 5 #[.int .u8 y] := Is.new _ _ _
          go_wp2_with (at_builtin; refine wpList_pushV rfl _ _ 63 5 i0 (.int .u8 0) 1 1 rfl Tryz.underlying63 hi0 hz0 hz1 hz2 rfl (by decide) w.heap.size A2 c2 k _ hO2 W7.heap.size 5 #[.int .u8 y] iN rfl yOne (by unfold maxLen; omega) (by omega) ⟨rfl, rfl⟩ hB2.size ?_; intro A3 c3 V r3 hg3)
          go_roundw
          case rel =>
            have q2 := hO2.isFar hg3 iT2 (by decide)
            have q3 := hO2.belowG hB2 hg3
            first | exact ⟨k + 1, by omega, A3, c3, ⟨rfl, rfl, rfl⟩, by go_num, by rw [hs]; unfold uL; rw [List.map_append]; exact r3, q2, q3⟩ | exact ⟨k + 1, by omega, A3, c3, rfl, by go_num, by rw [hs]; unfold uL; rw [List.map_append]; exact r3, q2, q3⟩ | exact ⟨k + 1, A3, c3, by omega, rfl, by go_num, by rw [hs]; unfold uL; rw [List.map_append]; exact r3, q2, q3⟩
          case measure => simp [intOf]; omega
        | true =>
          by_cases h8 : k % 8 = 0
          · have m8 : (k : Int).tmod 8 = 0 := by rw [show (k : Int).tmod 8 = ((k % 8 : Nat) : Int) from rfl]; omega
            obtain ⟨r2, hr2⟩ : ∃ r, r = k / 8 % L.length := ⟨_, rfl⟩
            have hrl2 : r2 < L.length := by rw [hr2]; exact Nat.mod_lt _ hl0
            have hrl3 : (r2 : Int) < (L.length : Int) := by omega
            have td8 : (k : Int).tdiv 8 = ((k / 8 : Nat) : Int) := rfl
            have tm8 : ((k / 8 : Nat) : Int).tmod (L.length : Int) = (r2 : Int) := by rw [drw_tmod, hr2]
            obtain ⟨x2, hx2⟩ : ∃ x, L.getD r2 0 = x := ⟨_, rfl⟩
            have hxm2 : -9223372036854775808 ≤ x2 ∧ x2 ≤ 9223372036854775807 := by rw [← hx2, List.getD_eq_getElem?_getD, List.getElem?_eq_getElem hrl2]; exact HLB.out _ (List.getElem_mem hrl2)
            have hpb2 := pickN_bd x2 3 (by omega)
            have hd : drwI L true k = pickN x2 3 := by simp only [drwI, if_true, if_pos (And.intro h8 hl0), ← hr2, hx2]
            obtain ⟨b1, off1, e1, _, hc2⟩ := HC.out W7 hB r2 hrl2
            cases e1
            rw [hx2] at hc2
            clear hr2
            have PK3 := Lib.hid (PK.out x2 3 (by omega) (by omega) W7 hxm2)
            generalize pickN x2 3 = p2 at *
            have w8i := IntWalk.i64_in (((k / 8 : Nat) : Nat) : Int) (by omega)
            generalize (k / 8 : Nat) = k8 at *
            go_wp2_with fail
            refine PK3.out.mono ?_
            rintro e W8 ⟨rfl, rfl⟩
            have hu : IntKind.u8.wrap (p2) = (p2) % 256 := rfl
            rw [hd] at hs
            generalize (p2) % 256 = y at *
            have yOne : ∀ u ∈ (#[.int .u8 y] : Array Value).toList, u.oneCell' = true := fun u hu => by simp only [List.mem_cons, List.not_mem_nil, or_false] at hu; subst hu; rfl
            have hO2 := hO.alloc (.cells #[.int .u8 y] 5)
            have iT2 := iT.alloc (.cells #[.int .u8 y] 5)
            have hB2 := hB.alloc hB.size (.cells #[.int .u8 y] 5)
            have iN : Is (W7.alloc (.cells #[.int .u8 y] 5)) W7.heap.size 5 #[.int .u8 y] := Is.new _ _ _
            go_wp2_with (at_builtin; refine wpList_pushV rfl _ _ 63 5 i0 (.int .u8 0) 1 1 rfl Tryz.underlying63 hi0 hz0 hz1 hz2 rfl (by decide) w.heap.size A2 c2 k _ hO2 W7.heap.size 5 #[.int .u8 y] iN rfl yOne (by unfold maxLen; omega) (by omega) ⟨rfl, rfl⟩ hB2.size ?_; intro A3 c3 V r3 hg3)
            go_roundw
            case rel =>
              have q2 := hO2.isFar hg3 iT2 (by decide)
              have q3 := hO2.belowG hB2 hg3
              first | exact ⟨k + 1, by omega, A3, c3, ⟨rfl, rfl, rfl⟩, by go_num, by rw [hs]; unfold uL; rw [List.map_append]; exact r3, q2, q3⟩ | exact ⟨k + 1, by omega, A3, c3, rfl, by go_num, by rw [hs]; unfold uL; rw [List.map_append]; exact r3, q2, q3⟩ | exact ⟨k + 1, A3, c3, by omega, rfl, by go_num, by rw [hs]; unfold uL; rw [List.map_append]; exact r3, q2, q3⟩
            case measure => simp [intOf]; omega
          · have m8 : ¬ (k : Int).tmod 8 = 0 := by rw [show (k : Int).tmod 8 = ((k % 8 : Nat) : Int) from rfl]; omega
            have hd : drwI L true k = 0 := by simp [drwI, h8]
            rw [hd, show (0 : Int) % 256 = 0 from rfl] at hs
            have yOne : ∀ u ∈ (#[.int .u8 0] : Array Value).toList, u.oneCell' = true := fun u hu => by simp only [List.mem_cons, List.not_mem_nil, or_false] at hu; subst hu; rfl
            have hO2 := hO.alloc (.cells #[.int .u8 0] 5)
            have iT2 := iT.alloc (.cells #[.int .u8 0] 5)
            have hB2 := hB.alloc hB.size (.cells #[.int .u8 0] 5)
            have iN : Is (W7.alloc (.cells #[.int .u8 0] 5)) W7.heap.size 5 #[.int .u8 0] := Is.new _ _ _
            go_wp2_with (at_builtin; refine wpList_pushV rfl _ _ 63 5 i0 (.int .u8 0) 1 1 rfl Tryz.underlying63 hi0 hz0 hz1 hz2 rfl (by decide) w.heap.size A2 c2 k _ hO2 W7.heap.size 5 #[.int .u8 0] iN rfl yOne (by unfold maxLen; omega) (by omega) ⟨rfl, rfl⟩ hB2.size ?_; intro A3 c3 V r3 hg3)
            go_roundw
            case rel =>
              have q2 := hO2.isFar hg3 iT2 (by decide)
              have q3 := hO2.belowG hB2 hg3
              first | exact ⟨k + 1, by omega, A3, c3, ⟨rfl, rfl, rfl⟩, by go_num, by rw [hs]; unfold uL; rw [List.map_append]; exact r3, q2, q3⟩ | exact ⟨k + 1, by omega, A3, c3, rfl, by go_num, by rw [hs]; unfold uL; rw [List.map_append]; exact r3, q2, q3⟩ | exact ⟨k + 1, A3, c3, by omega, rfl, by go_num, by rw [hs]; unfold uL; rw [List.map_append]; exact r3, q2, q3⟩
            case measure => simp [intOf]; omega
    · have l1 : ¬ (k : Int) < 2000 := by omega
      obtain rfl : k = 2000 := by omega
      have hne : A2 ≠ none := fun e => by
        subst e
        have h1 := hO.inV.nil_of
        have h2 := congrArg List.length h1
        simp [drwL_len] at h2
      obtain ⟨p, rfl⟩ := Option.ne_none_iff_exists'.1 hne
      obtain ⟨g, off, hg, _, _⟩ := hO.inV 0 (.int .u8 ((drwL L small 2000).getD 0 0)) (by rw [List.getElem?_map, List.getD_eq_getElem?_getD, List.getElem?_eq_getElem (by rw [drwL_len]; omega)]; rfl)
      cases hg
      have cv := run_convert_bytes_arg (P := Tryz.prog) wr 63 5 Tryz.underlying63 Tryz.underlying5 g off 2000 c2 (drwL L small 2000) (drwL_len _ _ _) (fun i hi => by
        obtain ⟨b, o, e, _, h⟩ := hO.inV i (.int .u8 ((drwL L small 2000).getD i 0)) (by rw [List.getElem?_map, List.getD_eq_getElem?_getD, List.getElem?_eq_getElem (by rw [drwL_len]; omega)]; rfl)
        cases e
        exact h) 9 Tryz.underlying9
      change _ = Result.ok (Value.string (drwS L small)) wr at cv
      obtain ⟨Z, hZ⟩ : ∃ Z, Z = drwS L small := ⟨_, rfl⟩
      rw [← hZ] at cv
      have HZ := Lib.hid hZ
      clear hZ
      have k0 : wr.cell? ⟨w.heap.size, 0, none⟩ = some (.string ⟨#[]⟩) := iT.cell 0
      have k1 : wr.cell? ⟨w.heap.size, 1, none⟩ = some (.int .i64 0) := iT.cell 1
      clear hO
      go_wp2_with (refine wpList_store_row rfl 23 _ _ rfl w.heap.size #[.string Z, .int .i64 0] rfl rfl 23 _ iT infoTape rfl (by rw [← Array.all_toList]; rfl) ?_)
      exact bodyPost_ret (results_cell_row Tryz.results27 _ _ w.heap.size 23 _ (0, 0) _ rfl (iT.row _) Tryz.underlying23 rfl infoTape) rfl ⟨by rw [HZ.out], belowRow hB (Nat.le_refl _) _⟩
end Go.Proofs.YtfgdcpolfekgjaaGreat
namespace Go.Proofs.YtfgdcpolfekgjaaGreat
open Go.RowKit Go.Shelf

/-- texts that lie where a slice points to don't lie in a block that holds an ideal. -/
theorem InV.off8 {W W' : World} {A : Option Addr} {vs : List Value} (h : InV W A vs) (hs : ∀ u ∈ vs, ∃ s, u = .string s) (h2 : vs.length ≠ 1) {G : Nat} {t : TypeId} {d' : Ide} {E : Option Addr} {e : Nat} {E' : Option Addr} {e' : Nat} (hG : Is W G t (ideL d' E e E' e'))
    (hz : W.heap.size ≤ W'.heap.size) (hk : ∀ k, k ≠ G → W'.heap[k]? = W.heap[k]?) : InV W' A vs := fun j u hj => by
  obtain ⟨b, off, rfl, h1, h3⟩ := h j u hj
  refine ⟨b, off, rfl, Nat.lt_of_lt_of_le h1 hz, ?_⟩
  have hne : b ≠ G := fun eb => by
    have hj1 := (List.getElem?_eq_some_iff.1 hj).1
    have hcell : ∀ k, k < vs.length → ∃ s, (ideL d' E e E' e')[off + k]? = some (.string s) := fun k hkl => by
      obtain ⟨s, hs0⟩ := hs _ (List.getElem_mem hkl)
      obtain ⟨b2, off2, e2, _, h4⟩ := h k vs[k] (List.getElem?_eq_getElem hkl)
      cases e2
      rw [eb, hG.cell, hs0] at h4
      exact ⟨s, h4⟩
    obtain ⟨s0, g0⟩ := hcell 0 (by omega)
    obtain ⟨s1, g1⟩ := hcell 1 (by omega)
    have big : ∀ k, 5 ≤ k → (ideL d' E e E' e')[k]? = none := fun k hk5 => by rw [Array.getElem?_eq_none]; exact hk5
    rcases (show off + 1 = 1 ∨ off + 1 = 2 ∨ off + 1 = 3 ∨ off + 1 = 4 ∨ 5 ≤ off + 1 by omega) with e1 | e1 | e1 | e1 | e1
    · rw [e1] at g1; cases g1
    · rw [e1] at g1; cases g1
    · rw [e1] at g1; cases g1
    · rw [e1] at g1; cases g1
    · rw [big _ e1] at g1; cases g1
  rw [← h3]
  simp only [World.cell?, hk b hne]
theorem flN_str (N : List Nam8) : ∀ u ∈ flN N, ∃ s, u = .string s := fun u hu => by
  obtain ⟨x, _, hx⟩ := List.mem_flatMap.1 hu
  simp only [List.mem_cons, List.not_mem_nil, or_false] at hx
  rcases hx with rfl | rfl <;> exact ⟨_, rfl⟩
theorem flK_str (K : List Cel8) : ∀ u ∈ flK K, ∃ s, u = .string s := fun u hu => by
  obtain ⟨x, _, hx⟩ := List.mem_flatMap.1 hu
  simp only [List.mem_cons, List.not_mem_nil, or_false] at hx
  rcases hx with rfl | rfl | rfl <;> exact ⟨_, rfl⟩
theorem InI.off {W W' : World} {d : Ide} {A : Option Addr} {c : Nat} {A' : Option Addr} {c' : Nat} (h : InI W d A c A' c') {G : Nat} {t : TypeId} {d' : Ide} {E : Option Addr} {e : Nat} {E' : Option Addr} {e' : Nat} (hG : Is W G t (ideL d' E e E' e'))
    (hz : W.heap.size ≤ W'.heap.size) (hk : ∀ k, k ≠ G → W'.heap[k]? = W.heap[k]?) : InI W' d A c A' c' :=
  ⟨h.n.off8 (flN_str _) (by rw [flN_len]; omega) hG hz hk, h.k.off8 (flK_str _) (by rw [flK_len]; omega) hG hz hk, h.nil, h.nilK, h.fit, h.fitK⟩
theorem InI.drewN {W : World} {d : Ide} {A : Option Addr} {c : Nat} {A' : Option Addr} {c' : Nat} (h : InI W d A c A' c') (n : Nat) : InI (W.drewN n) d A c A' c' := ⟨h.n, h.k, h.nil, h.nilK, h.fit, h.fitK⟩
end Go.Proofs.YtfgdcpolfekgjaaGreat
namespace Go.Proofs.YtfgdcpolfekgjaaGreat
open Go.RowKit Go.Shelf

abbrev Raw8 := Int × Int × Int
abbrev flI (R : List Raw8) : List Value := R.flatMap fun n => [.int .i64 n.1, .int .i64 n.2.1, .int .i64 n.2.2]
theorem flI_at {R : List Raw8} {k : Nat} {x : Raw8} (h : R[k]? = some x) (j : Nat) (hj : j < 3) : (flI R)[k * 3 + j]? = ([.int .i64 x.1, .int .i64 x.2.1, .int .i64 x.2.2] : List Value)[j]? := by
  induction R generalizing k with
  | nil => rw [List.getElem?_nil] at h; cases h
  | cons y r ih =>
    rw [flI, List.flatMap_cons, List.getElem?_append]
    cases k with
    | zero => cases h; rw [if_pos (by show 0 * 3 + j < 3; omega), Nat.zero_mul, Nat.zero_add]
    | succ k =>
      rw [List.getElem?_cons_succ] at h
      rw [if_neg (by show ¬ (k + 1) * 3 + j < 3; omega), ← ih h]
      congr 1
      show (k + 1) * 3 + j - 3 = _
      omega
/-- where a raw question lies. -/
theorem InV.raw {W : World} {A : Option Addr} {R : List Raw8} (h : InV W A (flI R)) {k : Nat} {x : Raw8} (hx : R[k]? = some x) :
    ∃ b off, A = some ⟨b, off, none⟩ ∧ b < W.heap.size ∧ W.rangeAt b (off + k * 3) [.int .i64 x.1, .int .i64 x.2.1, .int .i64 x.2.2] := by
  obtain ⟨b, off, rfl, hb, h0⟩ := h (k * 3 + 0) (.int .i64 x.1) ((flI_at hx 0 (by omega)).trans rfl)
  refine ⟨b, off, rfl, hb, fun j v hj => ?_⟩
  have hj2 : j < 3 := (List.getElem?_eq_some_iff.1 hj).1
  obtain ⟨b2, off2, e, _, h1⟩ := h (k * 3 + j) v ((flI_at hx j hj2).trans hj)
  cases e
  rw [← h1, Nat.add_assoc]
end Go.Proofs.YtfgdcpolfekgjaaGreat
namespace Go.Proofs.YtfgdcpolfekgjaaGreat
open Go.RowKit Go.Shelf

/-- a row of a block, loaded where a guard asks for it. -/
theorem wpList_load_rowG {P : Program} {ops : Array Oper} {rest : List Oper} {o : Oper} {a : Act} {w : World} {Q : Exit → Act → World → Prop} (hw : Region.wanted o (yielded ops a.tmps) = true) (ty : TypeId) (x : Operand) (ho : o.op = .load ty x)
    (g : Nat) (hx : a.eval x = .pointer (some ⟨g, 0, none⟩)) (t : TypeId) (cs : Array Value) {d : TypeDesc} (hg : Is w g t cs)
    (hu : P.underlying ty = some d) (hd : (match d with | .struct _ | .array _ _ => true | _ => false) = true) (hi : (P.info? ty).map (·.size) = some cs.size)
    (h : wpList P ops Q rest (a.put o.dst (.agg cs)) w) : wpList P ops Q (o :: rest) a w :=
  wpList_step fun K hK => by rw [if_pos hw]; exact wp_load_row ty x ho g hx t cs (0, 0) d hg hu hd hi (hK _ _ h)
theorem InI.empty (W : World) {d : Ide} (hN : d.N = []) (hK : d.K = []) : InI W d none 0 none 0 := by
  refine ⟨?_, ?_, fun _ => rfl, fun _ => rfl, ?_, ?_⟩
  · rw [hN]; intro j u hj; cases hj
  · rw [hK]; intro j u hj; cases hj
  · rw [hN]; simp
  · rw [hK]; simp
end Go.Proofs.YtfgdcpolfekgjaaGreat
namespace Go.Proofs.YtfgdcpolfekgjaaGreat
open Go.RowKit

/-- what was asked, and what was answered. -/
structure Kp8 (qs : List Q8) (k : Nat) (d : Ide) (O : List ByteArray) : Prop where
  len : O.length = k
  kn : ∀ (j : Nat) (q : Q8) (o : ByteArray), qs[j]? = some q → O[j]? = some o → Kno8 d o q
theorem Kp8.step {qs : List Q8} {k : Nat} {d : Ide} {O : List ByteArray} (h : Kp8 qs k d O) {q : Q8} (hq : qs[k]? = some q) {s : ByteArray} {d' : Ide} (ha : ask8 d q = (s, d', 0)) : Kp8 qs (k + 1) d' (O ++ [s]) := by
  have e1 : (ask8 d q).2.2 = 0 := by rw [ha]
  have hkn := ask8_known e1
  rw [ha] at hkn
  refine ⟨by rw [List.length_append, h.len]; rfl, fun j q' o hj ho => ?_⟩
  rw [List.getElem?_append] at ho
  split at ho
  · have := kno8_keep (h.kn j q' o hj ho) q
    rwa [ha] at this
  · rename_i hlt
    rw [h.len] at hlt ho
    have hjk : j - k = 0 := by
      have := (List.getElem?_eq_some_iff.1 ho).1
      simp at this
      exact this
    obtain rfl : j = k := by omega
    rw [hq] at hj
    cases hj
    simp at ho
    subst ho
    exact hkn
theorem Kp8.old {qs : List Q8} {k : Nat} {d : Ide} {O : List ByteArray} (h : Kp8 qs k d O) {q : Q8} {s : ByteArray} {d' : Ide} (ha : ask8 d q = (s, d', 0)) {j : Nat} {q' : Q8} {o : ByteArray} (hj : qs[j]? = some q') (ho : O[j]? = some o) : Kno8 d' o q' := by
  have := kno8_keep (h.kn j q' o hj ho) q
  rwa [ha] at this
abbrev sL (l : List ByteArray) : List Value := l.map Value.string
theorem infoStr8 : (Tryz.prog.info? 9).map (fun i => (i.zero, i.size, i.bytes)) = some (some (.string ⟨#[]⟩), 1, 16) := by kernel_rfl
theorem sL_snoc (l : List ByteArray) (s : ByteArray) : sL (l ++ [s]) = sL l ++ (#[.string s] : Array Value).toList := by simp [sL]
end Go.Proofs.YtfgdcpolfekgjaaGreat
namespace Go.Proofs.YtfgdcpolfekgjaaGreat
open Go.RowKit

/-- where a list lies: as before, or in what is new since there were n blocks. -/
def OwnB (n : Nat) (W : World) (A F : Option Addr) : Prop := F = A ∨ ∀ p, F = some p → n ≤ p.block ∧ p.block < W.heap.size
theorem Own8.ownB {w w' : World} {A F : Option Addr} (h : Own8 w w' A F) {n : Nat} (hn : n ≤ w.heap.size) : OwnB n w' A F := h.imp id fun h p hp => ⟨Nat.le_trans hn (h p hp).1, (h p hp).2⟩
theorem OwnB.row {n : Nat} {W : World} {A F : Option Addr} (h : OwnB n W A F) (g : Nat) (cs : Array Value) : OwnB n (W.setRow g cs) A F := h.imp id fun h p hp => ⟨(h p hp).1, by simpa using (h p hp).2⟩
/-- no two of them in one block. -/
structure Sep8 (n : Nat) (AI AO A1 A2 : Option Addr) : Prop where
  io : ∀ p q, AI = some p → AO = some q → p.block ≠ q.block
  i1 : ∀ p q, AI = some p → A1 = some q → p.block ≠ q.block
  i2 : ∀ p q, AI = some p → A2 = some q → p.block ≠ q.block
  o1 : ∀ p q, AO = some p → A1 = some q → p.block ≠ q.block
  o2 : ∀ p q, AO = some p → A2 = some q → p.block ≠ q.block
  lI : ∀ p, AI = some p → p.block < n
  lO : ∀ p, AO = some p → p.block < n
  l1 : ∀ p, A1 = some p → p.block < n
  l2 : ∀ p, A2 = some p → p.block < n
theorem Sep8.none (n : Nat) : Sep8 n none none none none := by
  refine ⟨?_, ?_, ?_, ?_, ?_, ?_, ?_, ?_, ?_⟩ <;> intro p <;> first | (intro q h; cases h) | (intro h; cases h)
theorem Sep8.mono {n m : Nat} {AI AO A1 A2 : Option Addr} (h : Sep8 n AI AO A1 A2) (hm : n ≤ m) : Sep8 m AI AO A1 A2 :=
  ⟨h.io, h.i1, h.i2, h.o1, h.o2, fun p e => Nat.lt_of_lt_of_le (h.lI p e) hm, fun p e => Nat.lt_of_lt_of_le (h.lO p e) hm, fun p e => Nat.lt_of_lt_of_le (h.l1 p e) hm, fun p e => Nat.lt_of_lt_of_le (h.l2 p e) hm⟩
theorem Sep8.ask {n : Nat} {W : World} {AI AO A1 A2 F1 F2 : Option Addr} (h : Sep8 n AI AO A1 A2) (hn : n ≤ W.heap.size) (h1 : OwnB n W A1 F1) (h2 : OwnB n W A2 F2) : Sep8 W.heap.size AI AO F1 F2 := by
  have ne : ∀ {B F A : Option Addr} (_ : ∀ p q, B = some p → A = some q → p.block ≠ q.block) (_ : ∀ p, B = some p → p.block < n) (_ : OwnB n W A F), ∀ p q, B = some p → F = some q → p.block ≠ q.block := fun ha hl ho p q hp hq => by
    rcases ho with rfl | ho
    · exact ha p q hp hq
    · have := hl p hp
      have := (ho q hq).1
      omega
  have lt : ∀ {A F : Option Addr} (_ : ∀ p, A = some p → p.block < n) (_ : OwnB n W A F), ∀ p, F = some p → p.block < W.heap.size := fun hl ho p hp => by
    rcases ho with rfl | ho
    · exact Nat.lt_of_lt_of_le (hl p hp) hn
    · exact (ho p hp).2
  exact ⟨h.io, ne h.i1 h.lI h1, ne h.i2 h.lI h2, ne h.o1 h.lO h1, ne h.o2 h.lO h2, fun p e => Nat.lt_of_lt_of_le (h.lI p e) hn, fun p e => Nat.lt_of_lt_of_le (h.lO p e) hn, lt h.l1 h1, lt h.l2 h2⟩
/-- a row that grew lies where it did, or in a new block. -/
def Atn (n : Nat) (A B : Option Addr) : Prop := ∀ q, B = some q → (∃ p, A = some p ∧ p.block = q.block) ∨ q.block = n
theorem Sep8.pushI {n m : Nat} {AI AO A1 A2 B : Option Addr} (h : Sep8 n AI AO A1 A2) (ht : Atn n AI B) (hm : n ≤ m) (hl : ∀ p, B = some p → p.block < m) : Sep8 m B AO A1 A2 := by
  have ne : ∀ {C : Option Addr} (_ : ∀ p q, AI = some p → C = some q → p.block ≠ q.block) (_ : ∀ p, C = some p → p.block < n), ∀ p q, B = some p → C = some q → p.block ≠ q.block := fun ha hl p q hp hq => by
    rcases ht p hp with ⟨r, hr, e⟩ | e
    · rw [← e]; exact ha r q hr hq
    · have := hl q hq; omega
  exact ⟨ne h.io h.lO, ne h.i1 h.l1, ne h.i2 h.l2, h.o1, h.o2, hl, fun p e => Nat.lt_of_lt_of_le (h.lO p e) hm, fun p e => Nat.lt_of_lt_of_le (h.l1 p e) hm, fun p e => Nat.lt_of_lt_of_le (h.l2 p e) hm⟩
theorem Sep8.swap {n : Nat} {AI AO A1 A2 : Option Addr} (h : Sep8 n AI AO A1 A2) : Sep8 n AO AI A1 A2 := ⟨fun p q hp hq e => h.io q p hq hp e.symm, h.o1, h.o2, h.i1, h.i2, h.lO, h.lI, h.l1, h.l2⟩
theorem InV.apart {W W' : World} {A : Option Addr} {vs : List Value} {row : Option Nat} (h : InV W A vs) (hg : W.grownBy W' row) (hr : ∀ p, A = some p → row ≠ some p.block) : InV W' A vs := fun j u hj => by
  obtain ⟨b, off, rfl, h1, h2⟩ := h j u hj
  have hb := hg.block b h1 (fun e => hr _ rfl (by rw [← e]))
  refine ⟨b, off, rfl, Nat.lt_of_lt_of_le h1 hg.size, ?_⟩
  rw [← h2]
  simp only [World.cell?, hb]
theorem InI.apart {W W' : World} {d : Ide} {A : Option Addr} {c : Nat} {A' : Option Addr} {c' : Nat} {row : Option Nat} (h : InI W d A c A' c') (hg : W.grownBy W' row) (hr : ∀ p, A = some p → row ≠ some p.block) (hr' : ∀ p, A' = some p → row ≠ some p.block) : InI W' d A c A' c' :=
  ⟨h.n.apart hg hr, h.k.apart hg hr', h.nil, h.nilK, h.fit, h.fitK⟩
theorem RowV.apart {W W' : World} {base n size c : Nat} {e : TypeId} {A : Option Addr} {xs : List Value} {row : Option Nat} (h : RowV W base e size A c n xs) (hg : W.grownBy W' row) (hr : ∀ p, A = some p → row ≠ some p.block) : RowV W' base e size A c n xs := by
  refine h.kept hg ?_
  cases A with
  | none => exact .inl rfl
  | some p => exact .inr fun e2 => hr p rfl e2.symm
theorem RowV.grownS {W W' : World} {base n size c : Nat} {e : TypeId} {A : Option Addr} {xs : List Value} (h : RowV W base e size A c n xs) {g : Nat} {t : TypeId} {cs : Array Value} (hg : W.grownBy W' (some g)) (hi : Is W g t cs) (ht : t ≠ e) : RowV W' base e size A c n xs := h.grown hg (fun r e => by cases e; exact ⟨t, cs, hi, ht⟩)
section
variable {P : Program} {w : World} {ops : Array Oper} {rest : List Oper} {o : Oper} {a : Act} {Q : Exit → Act → World → Prop}
/-- one thing more behind a row of one's own; where it lies is told. -/
theorem wpList_pushA (hgd : o.guard = none) (s x : Operand) (t e : TypeId) (i0 : TypeInfo) (z : Value) (size bytes : Nat)
    (ho : o.op = .call { callee := .builtin .append, args := #[s, x], argTypes := #[t, t] }) (ht : P.underlying t = some (.slice e)) (hi : P.info? e = some i0) (hz : i0.zero = some z) (hz1 : i0.size = size) (hz2 : i0.bytes = bytes) (hzs : z.cells.size = size) (hpos : 0 < size)
    (base : Nat) (A : Option Addr) (c n : Nat) (xs : List Value) (hO : RowV w base e size A c n xs) (g : Nat) (t2 : TypeId) (ys : Array Value) (hg : Is w g t2 ys) (hys : ys.size = size) (h1 : ∀ u ∈ ys.toList, u.oneCell' = true) (hm : n + 1 ≤ maxLen) (hby : (n + 1) * bytes ≤ 140737488355328)
    (hs : a.eval s = .slice A n c ∧ a.eval x = .slice (some ⟨g, 0, none⟩) 1 1) (hb : base ≤ w.heap.size)
    (h : ∀ A' c' w', RowV w' base e size A' c' (n + 1) (xs ++ ys.toList) → w.grownBy w' (Value.slice A n c).ownBlock → Atn w.heap.size A A' → wpList P ops Q rest (a.put o.dst (.slice A' (n + 1) c')) w') : wpList P ops Q (o :: rest) a w := by
  refine wpList_append_own_at w hgd s x t ho base e i0 z size bytes ht hi hz hz1 hz2 hzs hpos (.slice A n c) n xs hs.1 hO ⟨g, 0, none⟩ 1 1 ys.toList hs.2 (by rw [Array.length_toList, hys, Nat.one_mul]) (fun j u hj => ?_) h1 hm hby hb ?_
  · rw [Addr.add_lit, Nat.zero_add, hg.cell, ← Array.getElem?_toList]
    exact hj
  · intro v' w1 hown hgrow _ hat
    obtain ⟨A', c', rfl⟩ := owns_sliceG hown
    refine h A' c' w1 hown hgrow (fun q hq => ?_)
    subst hq
    rcases hat with e | e
    · cases A with
      | none => cases e
      | some p =>
        injection e with e
        exact .inl ⟨p, rfl, e.symm⟩
    · injection e with e
      exact .inr e
end
end Go.Proofs.YtfgdcpolfekgjaaGreat

