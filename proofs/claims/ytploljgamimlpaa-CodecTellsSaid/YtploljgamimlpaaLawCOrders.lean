/-
  The walk of CodecOrders: numbers' bytes are in the order of numbers; a list's bytes are as many as its texts ask for.
-/
import Derived.Test.YtploljgamimlpaaCoeD
namespace Go.Proofs.Ytploljgamimlpaa
open Go.RowKit Go.Shelf

theorem few_list10 (A : Option Addr) (c : Nat) (l : List ByteArray) (n : Nat) (W : World) (h : Lst10 n W A (fewL10 l)) :
    Calls Try.prog 14 #[.slice A (fewL10 l).length c] W fun e w' => e = .returned (.tuple #[.string (lst10 (fewL10 l)), .int .i64 0]) ∧ Below W.heap.size W w' := by
  have h1 := few_len10 l
  have h2 := few_sz10 l
  have h3 := cat_few10 h1 h2
  have h4 := list_any10 A c (fewL10 l) W (fun s hs => Nat.le_trans (h2 s hs) (by omega)) h.at'
  rwa [lstR_ok10 (by omega) (by omega)] at h4

set_option maxRecDepth 100000 in
set_option maxHeartbeats 4000000 in
theorem corders_walk (m n : Int) (A : Option Addr) (cap : Nat) (l : List ByteArray) (w : World) (hm : -9223372036854775808 ≤ m ∧ m ≤ 9223372036854775807) (hn : -9223372036854775808 ≤ n ∧ n ≤ 9223372036854775807) (hl : l.length ≤ maxLen) (hc : InV w A (tL10 l)) :
    Calls Try.prog 7 #[.int .i64 m, .int .i64 n, .slice A l.length cap] w fun e w' => e = .returned (.bool true) ∧ Below w.heap.size w w' := by
  have HC := Lib.hid hc
  have AW := Lib.hid awake10_any
  have PM := Lib.hid (fun W => pick10_any m 2147483648 W hm.1 hm.2 (by omega) (by omega))
  have PN := Lib.hid (fun W => pick10_any n 2147483648 W hn.1 hn.2 (by omega) (by omega))
  have ba := pickN_bd m 2147483648 (by omega)
  have bb := pickN_bd n 2147483648 (by omega)
  generalize pickN m 2147483648 = a at *
  generalize pickN n 2147483648 = b at *
  have NA := Lib.hid (fun W => by have := num_any10 a W; rwa [numR_ok10 (by omega) (by omega)] at this)
  have NB := Lib.hid (fun W => by have := num_any10 b W; rwa [numR_ok10 (by omega) (by omega)] at this)
  have FW := Lib.hid (fun W h => few_any10 A cap l W (by unfold maxLen at hl; omega) h)
  have FL := Lib.hid (fun A c n W h => few_list10 A c l n W h)
  have hless := less_num10 (a := a) (b := b) (by omega) (by omega)
  have hbeq : ((num10 a).toList == (num10 b).toList) = (a == b) := by
    by_cases h : a = b
    · subst h; simp
    · rw [beq7 (fun e => h (num_inj10 (by omega) (by omega) e))]
      simpa using h
  have hfl := few_len10 l
  have hfs := few_sz10 l
  generalize fewL10 l = f at *
  clear hc hm hn hl
  go_enter Try.func7, Try.ntmps7
  go_wp2_with fail
  refine (AW.out _).mono ?_
  rintro e W1 ⟨rfl, hB1⟩
  go_wp2_with fail
  refine (PM.out _).mono ?_
  rintro e w' ⟨rfl, rfl⟩
  go_wp2_with fail
  refine (PN.out _).mono ?_
  rintro e w' ⟨rfl, rfl⟩
  go_wp2_with fail
  refine (NA.out _).mono ?_
  rintro e W2 ⟨rfl, hb⟩
  have hB2 := hB1.trans (hb.mono hB1.size)
  clear hb hB1
  go_wp2_with fail
  refine (NB.out _).mono ?_
  rintro e W3 ⟨rfl, hb⟩
  have hB3 := hB2.trans (hb.mono hB2.size)
  clear hb hB2
  go_wp2_with fail
  refine (FW.out _ (HC.out.keep hB3)).mono ?_
  rintro e W4 ⟨A4, c4, rfl, hL4, hb⟩
  have hB4 := hB3.trans (hb.mono hB3.size)
  clear hb hB3
  go_wp2_with fail
  refine (FL.out _ _ _ _ hL4).mono ?_
  rintro e W5 ⟨rfl, hb⟩
  have hB5 := hB4.trans (hb.mono hB4.size)
  have hL5 := hL4.below hb
  clear hb hB4 hL4
  have HL := Lib.hid hL5.at'
  have HBD := Lib.hid (fun k => cat_bd10 hfs k)
  have HZ := Lib.hid (lst_size10 f)
  go_wp2
  go_loopw [17, 18] (fun z i wr => ∃ k : Nat, k ≤ f.length ∧ i = .int .i64 (k : Int) ∧ z = .int .i64 (4 + ((cat10 (f.take k)).size : Int)) ∧ W5 = wr)
    (fun _ i _ => f.length - (intOf i).toNat)
  case atStart => exact ⟨0, by omega, rfl, rfl, rfl⟩
  case round =>
    obtain ⟨k, hk, rfl, rfl, rfl⟩ := hrel
    by_cases hlt : k < f.length
    · have h1 : (k : Int) < (f.length : Int) := by omega
      obtain ⟨s, hx⟩ : ∃ s, f[k]? = some s := ⟨_, List.getElem?_eq_getElem hlt⟩
      have hsz := hfs s (List.mem_of_getElem? hx)
      have hb := HBD.out k
      have hz : k * (50 + 4) ≤ 12 * 54 := Nat.mul_le_mul (by omega) (Nat.le_refl _)
      obtain ⟨b', off, rfl, _, hcell⟩ := HL.out.txt hx
      have HST := Lib.hid (show (cat10 (f.take (k + 1))).size = (cat10 (f.take k)).size + (4 + s.size) by rw [cat_take10 hx, ByteArray.size_append, txt_size10])
      generalize (cat10 (f.take k)).size = z at *
      have hz2 : z ≤ 648 := by omega
      clear hx hb hz hfs hless hbeq
      go_wp2
      go_roundw
      case rel => exact ⟨k + 1, by omega, by go_num, by rw [HST.out]; go_num, by first | rfl | trivial⟩
      case measure => simp [intOf]; omega
    · have h1 : ¬ (k : Int) < (f.length : Int) := by omega
      obtain rfl : k = f.length := by omega
      have hzz : ((lst10 f).size : Int) = 4 + ((cat10 (f.take f.length)).size : Int) := by rw [HZ.out, List.take_length]; omega
      generalize ((cat10 (f.take f.length)).size : Int) = z at *
      generalize lst10 f = t at *
      go_wp2
      go_ret
      exact ⟨rfl, hB5⟩
end Go.Proofs.Ytploljgamimlpaa
