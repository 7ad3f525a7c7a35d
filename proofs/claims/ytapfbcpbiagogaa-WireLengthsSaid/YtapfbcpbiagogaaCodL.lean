/-
  Contracts of codec.listSize, codec.List, and of the document's own List. Conditions: the list's texts lie where the slice points to; each has at most 2^47 bytes.
-/
import Derived.Test.YtapfbcpbiagogaaCodB
namespace Go.Proofs.Ytapfbcpbiagogaa
open Go.RowKit Go.Shelf

/-- texts, as cells. -/
abbrev tL10 (l : List ByteArray) : List Value := l.map Value.string
theorem take_snoc10 {α : Type} {l : List α} {k : Nat} {x : α} (h : l[k]? = some x) : l.take (k + 1) = l.take k ++ [x] := by
  obtain ⟨h1, h2⟩ := List.getElem?_eq_some_iff.1 h
  rw [List.take_succ_eq_append_getElem h1, h2]
theorem cat_take10 {l : List ByteArray} {k : Nat} {s : ByteArray} (h : l[k]? = some s) : cat10 (l.take (k + 1)) = cat10 (l.take k) ++ txt10 s := by rw [take_snoc10 h, cat_snoc10]
theorem cat_bd10 {l : List ByteArray} {m : Nat} (hs : ∀ s ∈ l, s.size ≤ m) (k : Nat) : (cat10 (l.take k)).size ≤ k * (m + 4) := by
  induction k with
  | zero => rw [List.take_zero]; exact Nat.zero_le _
  | succ k ih =>
    cases h : l[k]? with
    | none =>
      have : l.length ≤ k := List.getElem?_eq_none_iff.1 h
      rw [List.take_of_length_le (by omega)]
      rw [List.take_of_length_le (by omega)] at ih
      rw [Nat.add_mul]; omega
    | some s =>
      have := hs s (List.mem_of_getElem? h)
      rw [cat_take10 h, ByteArray.size_append, txt_size10, Nat.add_mul]; omega
/-- the text at a place of a list in memory. -/
theorem InV.txt {W : World} {A : Option Addr} {l : List ByteArray} (h : InV W A (tL10 l)) {k : Nat} {s : ByteArray} (hk : l[k]? = some s) : ∃ b off, A = some ⟨b, off, none⟩ ∧ b < W.heap.size ∧ W.cell? ⟨b, off + k, none⟩ = some (.string s) :=
  h k (.string s) (by rw [List.getElem?_map, hk]; rfl)
theorem InV.under {W W' : World} {A : Option Addr} {vs : List Value} {B : Nat} (h : InV W A vs) (hW : W.heap.size = B) (hb : Below B W W') : InV W' A vs := h.keep (by rw [hW]; exact hb)

set_option maxRecDepth 100000 in
set_option maxHeartbeats 2000000 in
theorem lsize_any10 (A : Option Addr) (cap : Nat) (l : List ByteArray) (w : World) (hl : l.length ≤ 1000) (hs : ∀ s ∈ l, s.size ≤ 140737488355328) (hc : InV w A (tL10 l)) :
    Calls Try.prog 70 #[.slice A l.length cap] w fun e w' => e = .returned (.int .i64 ((lst10 l).size : Int)) ∧ w = w' := by
  have HC := Lib.hid hc
  have HS := Lib.hid hs
  have HB := Lib.hid (fun k => cat_bd10 hs k)
  have HZ := Lib.hid (lst_size10 l)
  clear hc hs
  go_enter Try.func70, Try.ntmps70
  go_wp2
  go_loopw [3, 8] (fun z i wr => ∃ k : Nat, k ≤ l.length ∧ z = .int .i64 (4 + ((cat10 (l.take k)).size : Int)) ∧ i = .int .i64 (k : Int) ∧ wr = w)
    (fun _ i _ => l.length - (intOf i).toNat)
  case atStart => exact ⟨0, by omega, rfl, rfl, rfl⟩
  case round =>
    obtain ⟨k, hk, rfl, rfl, rfl⟩ := hrel
    by_cases hlt : k < l.length
    · have h1 : (k : Int) < (l.length : Int) := by omega
      obtain ⟨s, hx⟩ : ∃ s, l[k]? = some s := ⟨_, List.getElem?_eq_getElem hlt⟩
      have hsz := HS.out s (List.mem_of_getElem? hx)
      have hb := HB.out k
      obtain ⟨b, off, rfl, _, hcell⟩ := HC.out.txt hx
      have hstep : (cat10 (l.take (k + 1))).size = (cat10 (l.take k)).size + (4 + s.size) := by rw [cat_take10 hx, ByteArray.size_append, txt_size10]
      have HST := Lib.hid hstep
      generalize (cat10 (l.take k)).size = z at *
      have hz : z ≤ 1000 * 140737488355332 := Nat.le_trans hb (Nat.mul_le_mul (by omega) (Nat.le_refl _))
      have HX := Lib.hid hx
      clear hstep hb hx
      go_wp2
      go_roundw
      case rel => exact ⟨k + 1, by omega, by rw [HST.out]; go_num, by go_num, by first | rfl | trivial⟩
      case measure => simp [intOf]; omega
    · have h1 : ¬ (k : Int) < (l.length : Int) := by omega
      obtain rfl : k = l.length := by omega
      go_wp2
      go_ret
      refine ⟨?_, rfl⟩
      rw [HZ.out, show ((4 + (cat10 l).size : Nat) : Int) = 4 + ((cat10 l).size : Int) by omega]
      rfl
theorem Bld10.keep {B b : Nat} {bs : List Value} {W W' : World} (h : Bld10 B b bs W) (hg : Below W.heap.size W W') : Bld10 B b bs W' := by
  have e : ∀ {p : Value}, Lib.BuilderAtF 95 5 B b p bs W → Lib.BuilderAtF 95 5 B b p bs W' := fun ⟨hB, v, hb, hown, hne⟩ =>
    ⟨hB, v, (hg.block b (Array.getElem?_eq_some_iff.1 hb).1).trans hb, hown.kept (grownG hg) (by cases v.ownBlock with | none => exact .inl rfl | some g => exact .inr (fun e => by cases e)), hne⟩
  exact h.imp e e
theorem Bld10.new (w : World) : Bld10 w.heap.size w.heap.size [] (w.alloc (.cells #[.pointer none, .slice none 0 0] 95)) :=
  .inl ⟨Nat.le_refl _, .slice none 0 0, heap_alloc_new w _, World.ownsRowF_nil _ _ _ _, by simp [Value.ownBlock]⟩
theorem strCells_app10 (s t : ByteArray) : Lib.strCells (s ++ t) = Lib.strCells s ++ Lib.strCells t := by
  simp [Lib.strCells, ByteArray.data_append]
theorem cat_le10 (l : List ByteArray) (k : Nat) : (cat10 (l.take k)).size ≤ (cat10 l).size := by
  have h := cat_app10 (l.take k) (l.drop k)
  rw [List.take_append_drop] at h
  rw [h, ByteArray.size_append]; omega
def lstR10 (l : List ByteArray) : Value := .tuple #[.string (lstV10 l).1, .int .i64 (lstV10 l).2]
theorem lstR_ok10 {l : List ByteArray} (h : l.length ≤ 1000) (hz : (lst10 l).size ≤ 65536) : lstR10 l = .tuple #[.string (lst10 l), .int .i64 0] := by
  rw [lstR10, lstV10, if_pos ⟨h, hz⟩]
theorem lstR_no10 {l : List ByteArray} (h : ¬ (l.length ≤ 1000 ∧ (lst10 l).size ≤ 65536)) : lstR10 l = .tuple #[.string ⟨#[]⟩, .int .i64 2] := by
  rw [lstR10, lstV10, if_neg h]

set_option maxRecDepth 100000 in
set_option maxHeartbeats 4000000 in
theorem list_any10 (A : Option Addr) (cap : Nat) (l : List ByteArray) (w : World) (hs : ∀ s ∈ l, s.size ≤ 140737488355328) (hc : InV w A (tL10 l)) :
    Calls Try.prog 52 #[.slice A l.length cap] w fun e w' => e = .returned (lstR10 l) ∧ Below w.heap.size w w' := by
  by_cases hn : l.length ≤ 1000
  · have HSZ := Lib.hid (lsize_any10 A cap l w hn hs hc)
    have hn1 : (l.length : Int) ≤ 1000 := by omega
    obtain ⟨Z, hZ⟩ : ∃ Z, Z = (lst10 l).size := ⟨_, rfl⟩
    rw [← hZ] at HSZ
    by_cases hz : (lst10 l).size ≤ 65536
    · have hz1 : (Z : Int) ≤ 65536 := by omega
      rw [lstR_ok10 hn hz]
      have hcz := lst_size10 l
      have HLE := Lib.hid (fun s (h : s ∈ l) => show s.size ≤ 65532 by have := (cat_size10 l).2 s h; omega)
      have HCL := Lib.hid (fun k => show (cat10 (l.take k)).size ≤ 65532 by have := cat_le10 l k; omega)
      have HNB := Lib.hid (fun W => numB_any (l.length : Int) W (by omega) (by omega))
      have HC := Lib.hid hc
      have hw0 := Bld10.new w
      have hb0 : Below w.heap.size w (w.alloc (.cells #[.pointer none, .slice none 0 0] 95)) := (Below.refl _ _).alloc (Nat.le_refl _) _
      have HN4 := Lib.hid (num_size10 (l.length : Int))
      have HLS := Lib.hid (show lst10 l = num10 (l.length : Int) ++ cat10 (l.take l.length) by rw [List.take_length]; rfl)
      have H0 := Lib.hid (show num10 (l.length : Int) ++ cat10 (l.take 0) = num10 (l.length : Int) from ByteArray.append_empty)
      generalize hW1 : w.alloc (.cells #[.pointer none, .slice none 0 0] 95) = W1 at *
      have HW0 := Lib.hid hw0
      have HB0 := Lib.hid hb0
      clear hs hc hcz hw0 hb0 hZ hz
      go_enter Try.func52, Try.ntmps52
      go_wp2_with (go_at_call 70; refine HSZ.out.mono ?_; rintro e w' ⟨rfl, rfl⟩)
      clear HSZ hz1 hW1
      have hw0 := HW0.out
      have hb0 := HB0.out
      go_wp2_with (go_at_call 69; refine (HNB.out _).mono ?_)
      rintro e W2 ⟨rfl, hb⟩
      have hw2 := hw0.keep hb
      have hb2 := hb0.trans (hb.mono hb0.size)
      clear hw0 hb0 hb
      go_wp2_with (go_at_call 67; refine (write_any10 w.heap.size w.heap.size _ _ _ hw2 (by have := HN4.out; simp; omega) hb2.size).mono ?_)
      rintro e W3 ⟨rfl, hw3, hb3, _⟩
      have hB3 := hb2.trans hb3
      clear hw2 hb2 hb3
      rw [List.nil_append] at hw3
      go_wp2
      go_loopw [21] (fun i wr => ∃ k : Nat, k ≤ l.length ∧ i = .int .i64 (k : Int) ∧ Bld10 w.heap.size w.heap.size (Lib.strCells (num10 (l.length : Int) ++ cat10 (l.take k))) wr ∧ Below w.heap.size w wr)
        (fun i _ => l.length - (intOf i).toNat)
      case atStart => exact ⟨0, by omega, rfl, by rw [H0.out]; exact hw3, hB3⟩
      case round =>
        clear hw3 hB3
        obtain ⟨k, hk, rfl, hW, hB⟩ := hrel
        by_cases hlt : k < l.length
        · have h1 : (k : Int) < (l.length : Int) := by omega
          obtain ⟨s, hx⟩ : ∃ s, l[k]? = some s := ⟨_, List.getElem?_eq_getElem hlt⟩
          have hsz := HLE.out s (List.mem_of_getElem? hx)
          have hcl := HCL.out k
          have HNS := Lib.hid (fun W => numB_any (s.size : Int) W (by omega) (by omega))
          have hin := HC.out.keep hB
          obtain ⟨b, off, rfl, _, hcell⟩ := hin.txt hx
          have HST := Lib.hid (show num10 (l.length : Int) ++ cat10 (l.take (k + 1)) = num10 (l.length : Int) ++ cat10 (l.take k) ++ num10 (s.size : Int) ++ s by rw [cat_take10 hx, txt10]; simp only [ByteArray.append_assoc])
          have hz4 := HN4.out
          have hps : (Lib.strCells (num10 (l.length : Int) ++ cat10 (l.take k))).length ≤ 65536 := by rw [Lib.strCells_length, ByteArray.size_append]; omega
          generalize num10 (l.length : Int) ++ cat10 (l.take k) = p at *
          have hs4 := num_size10 (s.size : Int)
          have HPS := Lib.hid hps
          clear hx hps hz4 hin
          go_wp2_with (go_at_call 69; refine (HNS.out _).mono ?_)
          rintro e W4 ⟨rfl, hb⟩
          have hw4 := hW.keep hb
          have hb4 := hB.trans (hb.mono hB.size)
          clear hW hB hb hcell
          go_wp2_with (go_at_call 67; refine (write_any10 w.heap.size w.heap.size _ _ _ hw4 (by have := HPS.out; omega) hb4.size).mono ?_)
          rintro e W5 ⟨rfl, hw5, hb5, _⟩
          have hB5 := hb4.trans hb5
          clear hw4 hb4 hb5
          rw [← strCells_app10] at hw5
          go_wp2_with (go_at_call 67; refine (write_any10 w.heap.size w.heap.size _ _ _ hw5 (by have := HPS.out; rw [Lib.strCells_length, ByteArray.size_append]; rw [Lib.strCells_length] at this; omega) hB5.size).mono ?_)
          rintro e W6 ⟨rfl, hw6, hb6, _⟩
          have hB6 := hB5.trans hb6
          clear hw5 hB5 hb6
          rw [← strCells_app10] at hw6
          go_wp2
          go_roundw
          case rel => exact ⟨k + 1, by omega, by go_num, by rw [HST.out]; exact hw6, hB6⟩
          case measure => simp [intOf]; omega
        · have h1 : ¬ (k : Int) < (l.length : Int) := by omega
          obtain rfl : k = l.length := by omega
          rw [← HLS.out, Lib.strCells_eq] at hW
          have HNE := Lib.hid (show (lst10 l).data.toList ≠ [] from fun e => by
            have h4 := lst_size10 l
            have h5 : (lst10 l).size = (lst10 l).data.toList.length := by rw [Array.length_toList]; rfl
            have h6 : (lst10 l).size = 0 := by rw [h5, e]; rfl
            omega)
          go_wp2_with (go_at_call 68; refine (bstr_any10 w.heap.size w.heap.size _ _ hW HNE.out).mono ?_; rintro e W4 ⟨rfl, hb, _⟩)
          go_ret2
          exact ⟨rfl, hB.trans hb⟩
    · have hz1 : ¬ (Z : Int) ≤ 65536 := by omega
      rw [lstR_no10 (by omega)]
      clear hs hc hZ hz
      go_enter Try.func52, Try.ntmps52
      go_wp2_with (go_at_call 70; refine HSZ.out.mono ?_; rintro e w' ⟨rfl, rfl⟩)
      go_ret2
      exact ⟨rfl, Below.refl _ _⟩
  · have hn1 : ¬ (l.length : Int) ≤ 1000 := by omega
    rw [lstR_no10 (by omega)]
    clear hs hc
    go_enter Try.func52, Try.ntmps52
    go_wp2
    go_ret2
    exact ⟨rfl, Below.refl _ _⟩

set_option maxRecDepth 100000 in
set_option maxHeartbeats 4000000 in
theorem dlist_any10 (A : Option Addr) (cap : Nat) (l : List ByteArray) (w : World) (hs : ∀ s ∈ l, s.size ≤ 140737488355328) (hc : InV w A (tL10 l)) :
    Calls Try.prog 45 #[.slice A l.length cap] w fun e w' => e = .returned (lstR10 l) ∧ Below w.heap.size w w' := by
  by_cases hn : l.length ≤ 1000
  · have hn1 : (l.length : Int) ≤ 1000 := by omega
    have HNB := Lib.hid (fun W => by have := dnum_any10 (l.length : Int) W; rwa [numR_ok10 (by omega) (by omega)] at this)
    have HC := Lib.hid hc
    have HS := Lib.hid hs
    have HT := Lib.hid dtxt_any10
    have HN4 := Lib.hid (num_size10 (l.length : Int))
    have HLS := Lib.hid (show lst10 l = num10 (l.length : Int) ++ cat10 (l.take l.length) by rw [List.take_length]; rfl)
    have H0 := Lib.hid (show num10 (l.length : Int) ++ cat10 (l.take 0) = num10 (l.length : Int) from ByteArray.append_empty)
    have HOK := Lib.hid (fun h => lstR_ok10 (l := l) hn h)
    have HNO := Lib.hid (fun (k : Nat) (h : 65536 < (num10 (l.length : Int) ++ cat10 (l.take k)).size) => lstR_no10 (l := l) (fun h2 => by
      have h3 := cat_le10 l k
      have h4 := lst_size10 l
      have h5 := num_size10 (l.length : Int)
      rw [ByteArray.size_append] at h
      omega))
    clear hs hc hn
    generalize lstR10 l = R at *
    go_enter Try.func45, Try.ntmps45
    go_wp2_with (go_at_call 44; refine (HNB.out _).mono ?_; rintro e W1 ⟨rfl, hB⟩)
    go_loopw [4, 6] (fun o i wr => ∃ k : Nat, k ≤ l.length ∧ i = .int .i64 (k : Int) ∧ o = .string (num10 (l.length : Int) ++ cat10 (l.take k)) ∧ (num10 (l.length : Int) ++ cat10 (l.take k)).size ≤ 65536 ∧ Below w.heap.size w wr)
      (fun _ i _ => l.length - (intOf i).toNat)
    case atStart => exact ⟨0, by omega, rfl, by rw [H0.out], by rw [H0.out, HN4.out]; omega, hB⟩
    case round =>
      clear hB
      obtain ⟨k, hk, rfl, rfl, hz, hB⟩ := hrel
      by_cases hlt : k < l.length
      · have h1 : (k : Int) < (l.length : Int) := by omega
        obtain ⟨s, hx⟩ : ∃ s, l[k]? = some s := ⟨_, List.getElem?_eq_getElem hlt⟩
        have HSZ := Lib.hid (HS.out s (List.mem_of_getElem? hx))
        have hin := HC.out.keep hB
        obtain ⟨b, off, rfl, _, hcell⟩ := hin.txt hx
        have HST := Lib.hid (show num10 (l.length : Int) ++ cat10 (l.take (k + 1)) = num10 (l.length : Int) ++ cat10 (l.take k) ++ txt10 s by rw [cat_take10 hx]; simp only [ByteArray.append_assoc])
        have HNK := Lib.hid (HNO.out (k + 1))
        rw [HST.out] at HNK
        have hct := HT.out s
        by_cases h6 : s.size ≤ 65536
        · rw [txtR_ok10 h6] at hct
          have HCT := Lib.hid hct
          have hs4 := txt_size10 s
          have he : num10 (s.size : Int) ++ s = txt10 s := rfl
          rw [he] at HCT
          have HPZ := Lib.hid (ByteArray.size_append (a := num10 (l.length : Int) ++ cat10 (l.take k)) (b := txt10 s))
          generalize num10 (l.length : Int) ++ cat10 (l.take k) = p at *
          generalize txt10 s = t at *
          have hp1 : (p.size : Int) ≤ 65536 := by omega
          have hno : ¬ 9223372036854775807 < p.size + t.size := by omega
          have HZ := Lib.hid hz
          have HS4 := Lib.hid hs4
          have w1i := IntWalk.i64_in ((p.size : Int) + (t.size : Int)) (by omega)
          clear hx hin hct h6 he hz
          by_cases h7 : p.size + t.size ≤ 65536
          · have h8 : (p.size : Int) + (t.size : Int) ≤ 65536 := by omega
            have H7 := Lib.hid h7
            clear h7 hs4
            go_wp2_with (go_at_call 65; refine (HCT.out _).mono ?_; rintro e W2 ⟨rfl, hb⟩)
            go_roundw
            case rel => exact ⟨k + 1, by omega, by go_num, by rw [HST.out], by rw [HST.out, HPZ.out]; exact H7.out, hB.trans (hb.mono hB.size)⟩
            case measure => simp [intOf]; omega
          · have h8 : ¬ (p.size : Int) + (t.size : Int) ≤ 65536 := by omega
            have HR := Lib.hid (HNK.out (by rw [HPZ.out]; omega))
            clear h7 hs4
            go_wp2_with (go_at_call 65; refine (HCT.out _).mono ?_; rintro e W2 ⟨rfl, hb⟩)
            go_ret2
            exact ⟨by rw [HR.out]; rfl, hB.trans (hb.mono hB.size)⟩
        · rw [txtR_no10 h6] at hct
          have HCT := Lib.hid hct
          have HR := Lib.hid (HNK.out (by rw [ByteArray.size_append, txt_size10]; omega))
          generalize num10 (l.length : Int) ++ cat10 (l.take k) = p at *
          clear hx hin hct h6 hz
          go_wp2_with (go_at_call 65; refine (HCT.out _).mono ?_; rintro e W2 ⟨rfl, hb⟩)
          go_ret2
          exact ⟨by rw [HR.out]; rfl, hB.trans (hb.mono hB.size)⟩
      · have h1 : ¬ (k : Int) < (l.length : Int) := by omega
        obtain rfl : k = l.length := by omega
        rw [← HLS.out] at hz ⊢
        have HR := Lib.hid (HOK.out hz)
        clear hz
        go_wp2
        go_ret2
        exact ⟨by rw [HR.out]; rfl, hB⟩
  · have hn1 : ¬ (l.length : Int) ≤ 1000 := by omega
    rw [lstR_no10 (by omega)]
    clear hs hc
    go_enter Try.func45, Try.ntmps45
    go_wp2
    go_ret2
    exact ⟨rfl, Below.refl _ _⟩
end Go.Proofs.Ytapfbcpbiagogaa
