/-
  AesLines: the walk of the statement's function.
-/
import Derived.Test.YtjfeloimlgfocaaAesW
namespace Go.Proofs.Ytjfeloimlgfocaa
open Go.RowKit

/-- encrypted so often, or decrypted. -/
def upN (k b : ByteArray) : Nat → ByteArray
  | 0 => b
  | n + 1 => encV k (upN k b n)
def dnN (k b : ByteArray) : Nat → ByteArray
  | 0 => b
  | n + 1 => decV k (dnN k b n)
def upV (k b : ByteArray) (u : Int) : ByteArray := if 0 ≤ u then upN k b u.toNat else dnN k b (-u).toNat
section
variable {k b : ByteArray} (hk : mayB k = true) (hb : b.size = 16)
include hk hb
theorem upN_size : ∀ n, (upN k b n).size = 16
  | 0 => hb
  | n + 1 => encV_size hk (upN_size n)
theorem dnN_size : ∀ n, (dnN k b n).size = 16
  | 0 => hb
  | n + 1 => decV_size hk (dnN_size n)
theorem upV_size (u : Int) : (upV k b u).size = 16 := by
  unfold upV
  split
  · exact upN_size hk hb _
  · exact dnN_size hk hb _
theorem upV_enc (u : Int) : encV k (upV k b u) = upV k b (u + 1) := by
  unfold upV
  by_cases h : 0 ≤ u
  · rw [if_pos h, if_pos (by omega), show (u + 1).toNat = u.toNat + 1 by omega]
    rfl
  · rw [if_neg h]
    obtain ⟨m, hm⟩ : ∃ m, (-u).toNat = m + 1 := ⟨(-u).toNat - 1, by omega⟩
    rw [hm]
    show encV k (decV k (dnN k b m)) = _
    rw [encV_decV hk (dnN_size hk hb m)]
    by_cases h1 : 0 ≤ u + 1
    · rw [if_pos h1, show (u + 1).toNat = 0 by omega, show m = 0 by omega]
      rfl
    · rw [if_neg h1, show (-(u + 1)).toNat = m by omega]
theorem upV_dec (u : Int) : decV k (upV k b u) = upV k b (u - 1) := by
  have := upV_enc hk hb (u - 1)
  rw [show u - 1 + 1 = u by omega] at this
  rw [← this, decV_encV hk (upV_size hk hb _)]
end
theorem upV_zero (k b : ByteArray) : upV k b 0 = b := rfl
theorem lines_steps {k b : ByteArray} (hk : mayB k = true) (hb : b.size = 16) : ∃ V : Int → ByteArray, V 0 = b ∧
    (∀ u w, Calls Try.prog 13 #[.string k, .string (V u)] w fun e w' => e = .returned (.tuple #[.string (V (u + 1)), .int .i64 0]) ∧ Below w.heap.size w w') ∧
    (∀ u w, Calls Try.prog 15 #[.string k, .string (V u)] w fun e w' => e = .returned (.tuple #[.string (V (u - 1)), .int .i64 0]) ∧ Below w.heap.size w w') := by
  refine ⟨upV k b, upV_zero k b, fun u w => ?_, fun u w => ?_⟩
  · have := encrypt_any k (upV k b u) w
    rwa [may2_of hk (upV_size hk hb u), show errV true = 0 from rfl, upV_enc hk hb] at this
  · have := decrypt_any k (upV k b u) w
    rwa [may2_of hk (upV_size hk hb u), show errV true = 0 from rfl, upV_dec hk hb] at this
/-- what the walk is told of a list of answers that came in. -/
def BoolsIn (W : World) (A : Option Addr) (len : Nat) (c : Nat → Bool) : Prop :=
  ∀ j, j < len → ∃ b off, A = some ⟨b, off, none⟩ ∧ b < W.heap.size ∧ W.cell? ⟨b, off + j, none⟩ = some (.bool (c j))

set_option maxRecDepth 100000 in
set_option maxHeartbeats 4000000 in
theorem alines_walk (key block : ByteArray) (l : Bool) (A : Option Addr) (len cap : Nat) (c : Nat → Bool) (w : World) (hk : key.size ≤ reachBytes) (hb : block.size ≤ reachBytes) (hlen : len ≤ maxLen) (hc : BoolsIn w A len c) :
    Calls Try.prog 6 #[.string key, .string block, .bool l, .slice A len cap] w fun e w' => e = .returned (.bool true) ∧ Below w.heap.size w w' := by
  unfold maxLen at hlen
  have hX16 := chunkB_size block
  have hkm := keyB_may key l
  have CK := Lib.hid (fun w => key_any key l w hk)
  have CC := Lib.hid (fun w => chunk_any block w hb)
  generalize keyB key l = k at *
  generalize chunkB block = X at *
  clear hk hb
  obtain ⟨V, hV0, ce, cd⟩ := lines_steps hkm hX16
  have CE := Lib.hid ce
  have CD := Lib.hid cd
  have HC := Lib.hid hc
  have HV := Lib.hid hV0
  clear ce cd hc hV0 hX16 hkm
  go_enter Try.func6, Try.ntmps6
  go_wp2_with fail
  refine (awake4_any _).mono ?_
  rintro e w1 ⟨rfl, hB1⟩
  go_wp2_with fail
  refine (CK.out _).mono ?_
  rintro e w2 ⟨rfl, h2⟩
  have hB2 : Below w.heap.size w w2 := hB1.trans (h2.mono hB1.size)
  clear h2 hB1
  go_wp2_with fail
  refine (CC.out _).mono ?_
  rintro e w3 ⟨rfl, h3⟩
  have hB3 : Below w.heap.size w w3 := hB2.trans (h3.mono hB2.size)
  clear h3 hB2
  go_wp2
  go_loopw [12, 13, 14] (fun t u i wr => ∃ (U : Int) (j : Nat), j ≤ 8 ∧ j ≤ len ∧ -(j : Int) ≤ U ∧ U ≤ j ∧ i = .int .i64 (j : Int) ∧ u = .int .i64 U ∧ t = .string (V U) ∧ Below w.heap.size w wr) (fun _ _ i _ => 8 - (intOf i).toNat)
  case atStart => exact ⟨0, 0, by omega, by omega, by omega, by omega, rfl, rfl, by rw [HV.out], hB3⟩
  case round =>
    clear hB3
    obtain ⟨U, j, hj8, hjl, hu0, hu1, rfl, rfl, rfl, hB⟩ := hrel
    by_cases hlt : j < len ∧ j < 8
    · obtain ⟨hlt, hlt8⟩ := hlt
      obtain ⟨b, off, rfl, hbw, hcell⟩ := HC.out j hlt
      have hd1 : decide ((j : Int) < (len : Int)) = true := by simp; omega
      have hd2 : decide ((j : Int) < 8) = true := by simp; omega
      have ce := CE.out U
      have cd := CD.out U
      have CE1 := Lib.hid ce
      have CD1 := Lib.hid cd
      clear ce cd
      generalize hy : V (U + 1) = y at *
      generalize hz : V (U - 1) = z at *
      have HY := Lib.hid hy
      have HZ := Lib.hid hz
      generalize V U = x at *
      clear hy hz
      have w1i := IntWalk.i64_in (U + 1) (by omega)
      go_wp2_with fail
      refine (CE1.out _).mono ?_
      rintro e w4 ⟨rfl, h4⟩
      have hB4 : Below w.heap.size w w4 := hB.trans (h4.mono hB.size)
      have cr : w4.cell? ⟨b, off + j, none⟩ = some (.bool (c j)) := (hB4.cell (p := ⟨b, off + j, none⟩) hbw).trans hcell
      clear h4 hB
      cases hcj : c j with
      | true =>
        rw [hcj] at cr
        clear hcj hcell
        go_wp2
        go_roundw
        case rel => exact ⟨U + 1, j + 1, by omega, by omega, by omega, by omega, by go_num, rfl, by rw [HY.out], hB4⟩
        case measure => simp [intOf]; omega
      | false =>
        rw [hcj] at cr
        clear hcj hcell
        have w2i := IntWalk.i64_in (U + 1 - 2) (by omega)
        go_wp2_with fail
        refine (CD1.out _).mono ?_
        rintro e w5 ⟨rfl, h5⟩
        have hB5 : Below w.heap.size w w5 := hB4.trans (h5.mono hB4.size)
        clear h5 hB4
        go_wp2
        go_roundw
        case rel => exact ⟨U - 1, j + 1, by omega, by omega, by omega, by omega, by go_num, by rw [show U + 1 - 2 = U - 1 by omega], by rw [HZ.out], hB5⟩
        case measure => simp [intOf]; omega
    · have hdd : ¬ j < len ∨ (j < len ∧ (8 : Int) ≤ (j : Int)) := by omega
      clear hlt
      rcases hdd with hd1 | ⟨hd1, hd2⟩
      · go_wp2
        go_loopw [12, 13] (fun t u wq => ∃ G : Int, -8 ≤ G ∧ G ≤ 8 ∧ u = .int .i64 G ∧ t = .string (V G) ∧ Below w.heap.size w wq) (fun _ u _ => (intOf u).natAbs)
        case atStart => exact ⟨U, by omega, by omega, rfl, rfl, hB⟩
        case round =>
          clear hB hu0 hu1 hj8 hjl
          obtain ⟨G, hg0, hg1, rfl, rfl, hB⟩ := hrel
          by_cases h0 : G = 0
          · subst h0
            rw [HV.out]
            go_wp2
            go_ret
            exact ⟨rfl, hB⟩
          · have t0 : (G != 0) = true := by simpa using h0
            have ce := CE.out G
            have cd := CD.out G
            have CE1 := Lib.hid ce
            have CD1 := Lib.hid cd
            clear ce cd
            generalize hy : V (G + 1) = y at *
            generalize hz : V (G - 1) = z at *
            have HY := Lib.hid hy
            have HZ := Lib.hid hz
            generalize V G = x at *
            clear hy hz
            go_wp2_with fail
            refine (CD1.out _).mono ?_
            rintro e w4 ⟨rfl, h4⟩
            have hB4 := hB.trans (h4.mono hB.size)
            clear h4 hB
            by_cases hn : G < 0
            · have t1 : decide (G < 0) = true := by simpa using hn
              have w1i := IntWalk.i64_in (G + 1) (by omega)
              go_wp2_with fail
              refine (CE1.out _).mono ?_
              rintro e w5 ⟨rfl, h5⟩
              have hB5 := hB4.trans (h5.mono hB4.size)
              clear h5 hB4
              go_wp2
              go_roundw
              case rel => exact ⟨G + 1, by omega, by omega, rfl, by rw [HY.out], hB5⟩
              case measure => simp [intOf]; omega
            · have t1 : decide (G < 0) = false := by simpa using hn
              have w1i := IntWalk.i64_in (G + -1) (by omega)
              have w2i := IntWalk.i64_in (G - 1) (by omega)
              go_wp2
              go_roundw
              case rel => exact ⟨G - 1, by omega, by omega, by first | rfl | rw [show G + -1 = G - 1 by omega], by rw [HZ.out], hB4⟩
              case measure => simp [intOf]; omega
      · go_wp2
        go_loopw [12, 13] (fun t u wq => ∃ G : Int, -8 ≤ G ∧ G ≤ 8 ∧ u = .int .i64 G ∧ t = .string (V G) ∧ Below w.heap.size w wq) (fun _ u _ => (intOf u).natAbs)
        case atStart => exact ⟨U, by omega, by omega, rfl, rfl, hB⟩
        case round =>
          clear hB hu0 hu1 hj8 hjl
          obtain ⟨G, hg0, hg1, rfl, rfl, hB⟩ := hrel
          by_cases h0 : G = 0
          · subst h0
            rw [HV.out]
            go_wp2
            go_ret
            exact ⟨rfl, hB⟩
          · have t0 : (G != 0) = true := by simpa using h0
            have ce := CE.out G
            have cd := CD.out G
            have CE1 := Lib.hid ce
            have CD1 := Lib.hid cd
            clear ce cd
            generalize hy : V (G + 1) = y at *
            generalize hz : V (G - 1) = z at *
            have HY := Lib.hid hy
            have HZ := Lib.hid hz
            generalize V G = x at *
            clear hy hz
            go_wp2_with fail
            refine (CD1.out _).mono ?_
            rintro e w4 ⟨rfl, h4⟩
            have hB4 := hB.trans (h4.mono hB.size)
            clear h4 hB
            by_cases hn : G < 0
            · have t1 : decide (G < 0) = true := by simpa using hn
              have w1i := IntWalk.i64_in (G + 1) (by omega)
              go_wp2_with fail
              refine (CE1.out _).mono ?_
              rintro e w5 ⟨rfl, h5⟩
              have hB5 := hB4.trans (h5.mono hB4.size)
              clear h5 hB4
              go_wp2
              go_roundw
              case rel => exact ⟨G + 1, by omega, by omega, rfl, by rw [HY.out], hB5⟩
              case measure => simp [intOf]; omega
            · have t1 : decide (G < 0) = false := by simpa using hn
              have w1i := IntWalk.i64_in (G + -1) (by omega)
              have w2i := IntWalk.i64_in (G - 1) (by omega)
              go_wp2
              go_roundw
              case rel => exact ⟨G - 1, by omega, by omega, by first | rfl | rw [show G + -1 = G - 1 by omega], by rw [HZ.out], hB4⟩
              case measure => simp [intOf]; omega
end Go.Proofs.Ytjfeloimlgfocaa
