/-
  Layer 8: contract of clash, the document's own. Condition: the ideal's lists lie where the slices point to.
-/
import Derived.Test.YtdbdoammbnogaaaIdeG
namespace Go.Proofs.Ytdbdoammbnogaaa
open Go.RowKit Go.Shelf

theorem pairs_take {α : Type} (f : α → α → Bool) {l : List α} {i : Nat} {x : α} (hx : l[i]? = some x) (h : pairs8 f (l.take i) = false) (hn : ((l.take i).any fun y => f y x) = false) : pairs8 f (l.take (i + 1)) = false := by
  rw [List.take_add_one, hx]
  show pairs8 f (l.take i ++ [x]) = false
  rw [pairs8_snoc, h, hn]; rfl
theorem pairs_hit {α : Type} (f : α → α → Bool) {l : List α} {k i : Nat} {x y : α} (hk : k < i) (hx : l[k]? = some x) (hy : l[i]? = some y) (hf : f x y = true) : pairs8 f l = true := (pairs8_iff f l).2 ⟨k, i, x, y, hk, hx, hy, hf⟩
theorem any_take {α : Type} (p : α → Bool) {l : List α} {i : Nat} {x : α} (hx : l[i]? = some x) (h : (l.take i).any p = false) (hp : p x = false) : (l.take (i + 1)).any p = false := by
  rw [List.take_add_one, hx, List.any_append, h]
  simp [hp]
structure Pf8 (a b : Bool) : Prop where
  out : a = b

set_option maxRecDepth 100000 in
set_option maxHeartbeats 4000000 in
theorem dclash_any (d : Ide) (A : Option Addr) (c : Nat) (A' : Option Addr) (c' : Nat) (w : World) (h : InI w d A c A' c') :
    Calls Try.prog 35 #[ideV d A c A' c'] w fun e w' => e = .returned (.bool (clash8 d.N d.K)) ∧ Below w.heap.size w w' := by
  have HI := Lib.hid h
  have hfN := h.fit
  have hfK := h.fitK
  clear h
  obtain ⟨W1, hW1⟩ : ∃ W, W = w.alloc (.cells (ideL d A c A' c') 30) := ⟨_, rfl⟩
  have iD1 : Is W1 w.heap.size 30 (ideL d A c A' c') := by rw [hW1]; exact Is.new _ _ _
  have hB1 : Below w.heap.size w W1 := by rw [hW1]; exact (Below.refl _ _).alloc (Nat.le_refl _) _
  go_enter Try.func35, Try.ntmps35
  go_wp2_with fail
  rw [← hW1]
  clear hW1
  go_wp2
  go_loopw [3] (fun i wr => ∃ k : Nat, k ≤ d.N.length ∧ i = .int .i64 (k : Int) ∧ Is wr w.heap.size 30 (ideL d A c A' c') ∧ Below w.heap.size w wr ∧ Pf8 (pairs8 sameOut (d.N.take k)) false)
    (fun i _ => d.N.length - (intOf i).toNat)
  case atStart => exact ⟨0, by omega, rfl, iD1, hB1, ⟨rfl⟩⟩
  case round =>
    clear iD1 hB1
    obtain ⟨i, hi, rfl, iD, hB, hn⟩ := hrel
    by_cases hlt : i < d.N.length
    · have c2 : wr.cell? ⟨w.heap.size, 2, none⟩ = some (.slice A d.N.length c) := iD.cell 2
      have l1 : (i : Int) < (d.N.length : Int) := by omega
      obtain ⟨x, hx⟩ : ∃ x, d.N[i]? = some x := ⟨_, List.getElem?_eq_getElem hlt⟩
      have HX := Lib.hid hx
      have HN := Lib.hid hn
      clear hx hn
      go_wp2
      go_loopw [4] (fun j wr => ∃ k : Nat, k ≤ i ∧ j = .int .i64 (k : Int) ∧ Is wr w.heap.size 30 (ideL d A c A' c') ∧ Below w.heap.size w wr ∧ Pf8 ((d.N.take k).any fun y => sameOut y x) false)
        (fun j _ => i - (intOf j).toNat)
      case atStart => exact ⟨0, by omega, rfl, iD, hB, ⟨rfl⟩⟩
      case round =>
        clear iD hB c2
        obtain ⟨k, hk, rfl, iD, hB, hm⟩ := hrel
        by_cases hlt2 : k < i
        · have c2 : wr.cell? ⟨w.heap.size, 2, none⟩ = some (.slice A d.N.length c) := iD.cell 2
          have l2 : (k : Int) < (i : Int) := by omega
          have l3 : (k : Int) < (d.N.length : Int) := by omega
          obtain ⟨y, hy⟩ : ∃ y, d.N[k]? = some y := ⟨_, List.getElem?_eq_getElem (by omega)⟩
          obtain ⟨b, off, rfl, hb, hr⟩ := (HI.out.keep hB).n.nam HX.out
          obtain ⟨b', off', e, _, hr'⟩ := (HI.out.keep hB).n.nam hy
          cases e
          have e1 : wr.cell? ⟨b, off + i * 2 + 1, none⟩ = some (.string x.2) := hr 1 _ rfl
          have e2 : wr.cell? ⟨b, off + k * 2 + 1, none⟩ = some (.string y.2) := hr' 1 _ rfl
          have w5i := IntWalk.i64_in ((k : Int) + 1) (by omega)
          by_cases hq : x.2 = y.2
          · have hit := Lib.hid (pairs_hit sameOut hlt2 hy HX.out (by rw [sameOut, hq]; simp))
            clear hr hr' hy
            rw [← hq] at e2
            go_wp2
            go_region
            go_wp2
            go_ret
            exact ⟨by rw [clash8, hit.out]; rfl, belowN hB 1⟩
          · have hm2 := Lib.hid (any_take (fun z => sameOut z x) hy hm.out (by rw [sameOut]; exact decide_eq_false (fun e => hq e.symm)))
            have n1 := ne7 hq
            have n2 := beq7 hq
            clear hr hr' hy
            go_wp2
            go_region
            go_wp2
            go_roundw
            case rel => exact ⟨k + 1, by omega, by go_num, iD.drewN 1, belowN hB 1, ⟨hm2.out⟩⟩
            case measure => simp [intOf]; omega
        · have l2 : ¬ (k : Int) < (i : Int) := by omega
          obtain rfl : k = i := by omega
          have w5i := IntWalk.i64_in ((k : Int) + 1) (by omega)
          have hp2 := Lib.hid (pairs_take sameOut HX.out HN.out.out hm.out)
          go_wp2
          go_roundw
          case rel => exact ⟨k + 1, by omega, by go_num, iD, hB, ⟨hp2.out⟩⟩
          case measure => simp [intOf]; omega
    · have l1 : ¬ (i : Int) < (d.N.length : Int) := by omega
      obtain rfl : i = d.N.length := by omega
      have hN0 : Pf8 (pairs8 sameOut d.N) false := ⟨by have := hn.out; rwa [List.take_length] at this⟩
      have HNN := Lib.hid hN0
      have c2 : wr.cell? ⟨w.heap.size, 2, none⟩ = some (.slice A d.N.length c) := iD.cell 2
      clear hn hN0
      go_wp2
      go_loopw [5] (fun i wr => ∃ k : Nat, k ≤ d.K.length ∧ i = .int .i64 (k : Int) ∧ Is wr w.heap.size 30 (ideL d A c A' c') ∧ Below w.heap.size w wr ∧ Pf8 (pairs8 sameCel (d.K.take k)) false)
        (fun i _ => d.K.length - (intOf i).toNat)
      case atStart => exact ⟨0, by omega, rfl, iD, hB, ⟨rfl⟩⟩
      case round =>
        clear iD hB c2
        obtain ⟨i, hi, rfl, iD, hB, hn⟩ := hrel
        by_cases hlt : i < d.K.length
        · have c3 : wr.cell? ⟨w.heap.size, 3, none⟩ = some (.slice A' d.K.length c') := iD.cell 3
          have l1 : (i : Int) < (d.K.length : Int) := by omega
          obtain ⟨x, hx⟩ : ∃ x, d.K[i]? = some x := ⟨_, List.getElem?_eq_getElem hlt⟩
          have HX := Lib.hid hx
          have HN := Lib.hid hn
          clear hx hn
          go_wp2
          go_loopw [6] (fun j wr => ∃ k : Nat, k ≤ i ∧ j = .int .i64 (k : Int) ∧ Is wr w.heap.size 30 (ideL d A c A' c') ∧ Below w.heap.size w wr ∧ Pf8 ((d.K.take k).any fun y => sameCel y x) false)
            (fun j _ => i - (intOf j).toNat)
          case atStart => exact ⟨0, by omega, rfl, iD, hB, ⟨rfl⟩⟩
          case round =>
            clear iD hB c3
            obtain ⟨k, hk, rfl, iD, hB, hm⟩ := hrel
            by_cases hlt2 : k < i
            · have c3 : wr.cell? ⟨w.heap.size, 3, none⟩ = some (.slice A' d.K.length c') := iD.cell 3
              have l2 : (k : Int) < (i : Int) := by omega
              have l3 : (k : Int) < (d.K.length : Int) := by omega
              obtain ⟨y, hy⟩ : ∃ y, d.K[k]? = some y := ⟨_, List.getElem?_eq_getElem (by omega)⟩
              obtain ⟨b, off, rfl, hb, hr⟩ := (HI.out.keep hB).k.cel HX.out
              obtain ⟨b', off', e, _, hr'⟩ := (HI.out.keep hB).k.cel hy
              cases e
              have e0 : wr.cell? ⟨b, off + i * 3, none⟩ = some (.string x.1) := hr 0 _ rfl
              have e3 : wr.cell? ⟨b, off + k * 3, none⟩ = some (.string y.1) := hr' 0 _ rfl
              have e1 : wr.cell? ⟨b, off + i * 3 + 2, none⟩ = some (.string x.2.2) := hr 2 _ rfl
              have e2 : wr.cell? ⟨b, off + k * 3 + 2, none⟩ = some (.string y.2.2) := hr' 2 _ rfl
              have w5i := IntWalk.i64_in ((k : Int) + 1) (by omega)
              by_cases hp : x.1 = y.1
              · by_cases hq : x.2.2 = y.2.2
                · have hit := Lib.hid (pairs_hit sameCel hlt2 hy HX.out (by rw [sameCel, hp, hq]; simp))
                  clear hr hr' hy
                  rw [← hp] at e3
                  rw [← hq] at e2
                  go_wp2
                  go_region
                  go_wp2
                  go_ret
                  exact ⟨by rw [clash8, hit.out, Bool.or_true]; rfl, belowN hB 1⟩
                · have hm2 := Lib.hid (any_take (fun z => sameCel z x) hy hm.out (by rw [sameCel, decide_eq_false (fun e => hq (Eq.symm e)), Bool.and_false]))
                  have n1 := ne7 hq
                  have n2 := beq7 hq
                  clear hr hr' hy
                  rw [← hp] at e3
                  go_wp2
                  go_region
                  go_wp2
                  go_roundw
                  case rel => exact ⟨k + 1, by omega, by go_num, iD.drewN 1, belowN hB 1, ⟨hm2.out⟩⟩
                  case measure => simp [intOf]; omega
              · have hm2 := Lib.hid (any_take (fun z => sameCel z x) hy hm.out (by rw [sameCel, decide_eq_false (fun e => hp (Eq.symm e)), Bool.false_and]))
                have n1 := ne7 hp
                have n2 := beq7 hp
                clear hr hr' hy
                go_wp2
                go_region
                go_wp2
                go_roundw
                case rel => exact ⟨k + 1, by omega, by go_num, iD.drewN 1, belowN hB 1, ⟨hm2.out⟩⟩
                case measure => simp [intOf]; omega
            · have l2 : ¬ (k : Int) < (i : Int) := by omega
              obtain rfl : k = i := by omega
              have w5i := IntWalk.i64_in ((k : Int) + 1) (by omega)
              have hp2 := Lib.hid (pairs_take sameCel HX.out HN.out.out hm.out)
              go_wp2
              go_roundw
              case rel => exact ⟨k + 1, by omega, by go_num, iD, hB, ⟨hp2.out⟩⟩
              case measure => simp [intOf]; omega
        · have l1 : ¬ (i : Int) < (d.K.length : Int) := by omega
          obtain rfl : i = d.K.length := by omega
          have hK0 : Pf8 (pairs8 sameCel d.K) false := ⟨by have := hn.out; rwa [List.take_length] at this⟩
          have HKK := Lib.hid hK0
          have c3 : wr.cell? ⟨w.heap.size, 3, none⟩ = some (.slice A' d.K.length c') := iD.cell 3
          clear hn hK0
          go_wp2
          go_ret
          exact ⟨by rw [clash8, HNN.out.out, HKK.out.out]; rfl, hB⟩
end Go.Proofs.Ytdbdoammbnogaaa
