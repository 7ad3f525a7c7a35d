/-
  Layer 8: contract of clash, the document's own. Condition: the ideal's lists lie where the slices point to.
  Layer 8: contract of Right, the document's own. Condition: the ideal's lists lie where the slices point to.
  Layer 8: contracts of Own and New, the document's own. Condition (Own): the ideal's lists lie where the slices point to.
  Layer 8: contract of Label, the document's own, where it is asked what may not be. Condition: the ideal's lists lie where the slices point to.
  Layer 8, plain: what Label and Seal tell, by what is asked and what is there. Nothing of the program stands here.
  Layer 8: contract of Label, the document's own. Condition: the ideal's lists lie where the slices point to.
  Layer 8: contract of Seal, the document's own, where it is asked what may not be. Condition: the ideal's lists lie where the slices point to.
  Layer 8: contract of Seal, the document's own. Condition: the ideal's lists lie where the slices point to.
  Layer 8: contracts of Open, Label and Seal, the document's own, whatever they are asked; Same, where both are one ideal. Condition: the ideals' lists lie where the slices point to.
-/
import Derived.Test.YtfgdcpolfekgjaaGreatGId2
import Derived.Test.YtfgdcpolfekgjaaGreatGId3
namespace Go.Proofs.YtfgdcpolfekgjaaGreat
open Go.RowKit Go.Shelf

theorem pairs_take {α : Type} (f : α → α → Bool) {l : List α} {i : Nat} {x : α} (hx : l[i]? = some x) (h : pairs8 f (l.take i) = false) (hn : ((l.take i).any fun y => f y x) = false) : pairs8 f (l.take (i + 1)) = false := by
  rw [List.take_add_one, hx]
  show pairs8 f (l.take i ++ [x]) = false
  rw [pairs8_snoc, h, hn]; rfl
theorem pairs_hit {α : Type} (f : α → α → Bool) {l : List α} {k i : Nat} {x y : α} (hk : k < i) (hx : l[k]? = some x) (hy : l[i]? = some y) (hf : f x y = true) : pairs8 f l = true := (pairs8_iff f l).2 ⟨k, i, x, y, hk, hx, hy, hf⟩
theorem any_take {α : Type} (p : α → Bool) {l : List α} {i : Nat} {x : α} (hx : l[i]? = some x) (h : (l.take i).any p = false) (hp : p x = false) : (l.take (i + 1)).any p = false := by
  rw [List.take_add_one, hx, List.any_append, h]
  simp [hp]
structure Pf8 (a b : Bool) : Prop where
  out : a = b

set_option maxRecDepth 100000 in
set_option maxHeartbeats 4000000 in
theorem dclash_any (d : Ide) (A : Option Addr) (c : Nat) (A' : Option Addr) (c' : Nat) (w : World) (h : InI w d A c A' c') :
    Calls Tryz.prog 50 #[ideV d A c A' c'] w fun e w' => e = .returned (.bool (clash8 d.N d.K)) ∧ Below w.heap.size w w' := by
  have HI := Lib.hid h
  have hfN := h.fit
  have hfK := h.fitK
  clear h
  obtain ⟨W1, hW1⟩ : ∃ W, W = w.alloc (.cells (ideL d A c A' c') 29) := ⟨_, rfl⟩
  have iD1 : Is W1 w.heap.size 29 (ideL d A c A' c') := by rw [hW1]; exact Is.new _ _ _
  have hB1 : Below w.heap.size w W1 := by rw [hW1]; exact (Below.refl _ _).alloc (Nat.le_refl _) _
  go_enter Tryz.func50, Tryz.ntmps50
  go_wp2_with fail
  rw [← hW1]
  clear hW1
  go_wp2
  go_loopw [3] (fun i wr => ∃ k : Nat, k ≤ d.N.length ∧ i = .int .i64 (k : Int) ∧ Is wr w.heap.size 29 (ideL d A c A' c') ∧ Below w.heap.size w wr ∧ Pf8 (pairs8 sameOut (d.N.take k)) false)
    (fun i _ => d.N.length - (intOf i).toNat)
  case atStart => exact ⟨0, by omega, rfl, iD1, hB1, ⟨rfl⟩⟩
  case round =>
    clear iD1 hB1
    obtain ⟨i, hi, rfl, iD, hB, hn⟩ := hrel
    by_cases hlt : i < d.N.length
    · have c2 : wr.cell? ⟨w.heap.size, 2, none⟩ = some (.slice A d.N.length c) := iD.cell 2
      have l1 : (i : Int) < (d.N.length : Int) := by omega
      obtain ⟨x, hx⟩ : ∃ x, d.N[i]? = some x := ⟨_, List.getElem?_eq_getElem hlt⟩
      have HX := Lib.hid hx
      have HN := Lib.hid hn
      clear hx hn
      go_wp2
      go_loopw [4] (fun j wr => ∃ k : Nat, k ≤ i ∧ j = .int .i64 (k : Int) ∧ Is wr w.heap.size 29 (ideL d A c A' c') ∧ Below w.heap.size w wr ∧ Pf8 ((d.N.take k).any fun y => sameOut y x) false)
        (fun j _ => i - (intOf j).toNat)
      case atStart => exact ⟨0, by omega, rfl, iD, hB, ⟨rfl⟩⟩
      case round =>
        clear iD hB c2
        obtain ⟨k, hk, rfl, iD, hB, hm⟩ := hrel
        by_cases hlt2 : k < i
        · have c2 : wr.cell? ⟨w.heap.size, 2, none⟩ = some (.slice A d.N.length c) := iD.cell 2
          have l2 : (k : Int) < (i : Int) := by omega
          have l3 : (k : Int) < (d.N.length : Int) := by omega
          obtain ⟨y, hy⟩ : ∃ y, d.N[k]? = some y := ⟨_, List.getElem?_eq_getElem (by omega)⟩
          obtain ⟨b, off, rfl, hb, hr⟩ := (HI.out.keep hB).n.nam HX.out
          obtain ⟨b', off', e, _, hr'⟩ := (HI.out.keep hB).n.nam hy
          cases e
          have e1 : wr.cell? ⟨b, off + i * 2 + 1, none⟩ = some (.string x.2) := hr 1 _ rfl
          have e2 : wr.cell? ⟨b, off + k * 2 + 1, none⟩ = some (.string y.2) := hr' 1 _ rfl
          have w5i := IntWalk.i64_in ((k : Int) + 1) (by omega)
          by_cases hq : x.2 = y.2
          · have hit := Lib.hid (pairs_hit sameOut hlt2 hy HX.out (by rw [sameOut, hq]; simp))
            clear hr hr' hy
            rw [← hq] at e2
            go_wp2
            go_region
            go_wp2
            go_ret
            exact ⟨by rw [clash8, hit.out]; rfl, belowN hB 1⟩
          · have hm2 := Lib.hid (any_take (fun z => sameOut z x) hy hm.out (by rw [sameOut]; exact decide_eq_false (fun e => hq e.symm)))
            have n1 := ne7 hq
            have n2 := beq7 hq
            clear hr hr' hy
            go_wp2
            go_region
            go_wp2
            go_roundw
            case rel => exact ⟨k + 1, by omega, by go_num, iD.drewN 1, belowN hB 1, ⟨hm2.out⟩⟩
            case measure => simp [intOf]; omega
        · have l2 : ¬ (k : Int) < (i : Int) := by omega
          obtain rfl : k = i := by omega
          have w5i := IntWalk.i64_in ((k : Int) + 1) (by omega)
          have hp2 := Lib.hid (pairs_take sameOut HX.out HN.out.out hm.out)
          go_wp2
          go_roundw
          case rel => exact ⟨k + 1, by omega, by go_num, iD, hB, ⟨hp2.out⟩⟩
          case measure => simp [intOf]; omega
    · have l1 : ¬ (i : Int) < (d.N.length : Int) := by omega
      obtain rfl : i = d.N.length := by omega
      have hN0 : Pf8 (pairs8 sameOut d.N) false := ⟨by have := hn.out; rwa [List.take_length] at this⟩
      have HNN := Lib.hid hN0
      have c2 : wr.cell? ⟨w.heap.size, 2, none⟩ = some (.slice A d.N.length c) := iD.cell 2
      clear hn hN0
      go_wp2
      go_loopw [5] (fun i wr => ∃ k : Nat, k ≤ d.K.length ∧ i = .int .i64 (k : Int) ∧ Is wr w.heap.size 29 (ideL d A c A' c') ∧ Below w.heap.size w wr ∧ Pf8 (pairs8 sameCel (d.K.take k)) false)
        (fun i _ => d.K.length - (intOf i).toNat)
      case atStart => exact ⟨0, by omega, rfl, iD, hB, ⟨rfl⟩⟩
      case round =>
        clear iD hB c2
        obtain ⟨i, hi, rfl, iD, hB, hn⟩ := hrel
        by_cases hlt : i < d.K.length
        · have c3 : wr.cell? ⟨w.heap.size, 3, none⟩ = some (.slice A' d.K.length c') := iD.cell 3
          have l1 : (i : Int) < (d.K.length : Int) := by omega
          obtain ⟨x, hx⟩ : ∃ x, d.K[i]? = some x := ⟨_, List.getElem?_eq_getElem hlt⟩
          have HX := Lib.hid hx
          have HN := Lib.hid hn
          clear hx hn
          go_wp2
          go_loopw [6] (fun j wr => ∃ k : Nat, k ≤ i ∧ j = .int .i64 (k : Int) ∧ Is wr w.heap.size 29 (ideL d A c A' c') ∧ Below w.heap.size w wr ∧ Pf8 ((d.K.take k).any fun y => sameCel y x) false)
            (fun j _ => i - (intOf j).toNat)
          case atStart => exact ⟨0, by omega, rfl, iD, hB, ⟨rfl⟩⟩
          case round =>
            clear iD hB c3
            obtain ⟨k, hk, rfl, iD, hB, hm⟩ := hrel
            by_cases hlt2 : k < i
            · have c3 : wr.cell? ⟨w.heap.size, 3, none⟩ = some (.slice A' d.K.length c') := iD.cell 3
              have l2 : (k : Int) < (i : Int) := by omega
              have l3 : (k : Int) < (d.K.length : Int) := by omega
              obtain ⟨y, hy⟩ : ∃ y, d.K[k]? = some y := ⟨_, List.getElem?_eq_getElem (by omega)⟩
              obtain ⟨b, off, rfl, hb, hr⟩ := (HI.out.keep hB).k.cel HX.out
              obtain ⟨b', off', e, _, hr'⟩ := (HI.out.keep hB).k.cel hy
              cases e
              have e0 : wr.cell? ⟨b, off + i * 3, none⟩ = some (.string x.1) := hr 0 _ rfl
              have e3 : wr.cell? ⟨b, off + k * 3, none⟩ = some (.string y.1) := hr' 0 _ rfl
              have e1 : wr.cell? ⟨b, off + i * 3 + 2, none⟩ = some (.string x.2.2) := hr 2 _ rfl
              have e2 : wr.cell? ⟨b, off + k * 3 + 2, none⟩ = some (.string y.2.2) := hr' 2 _ rfl
              have w5i := IntWalk.i64_in ((k : Int) + 1) (by omega)
              by_cases hp : x.1 = y.1
              · by_cases hq : x.2.2 = y.2.2
                · have hit := Lib.hid (pairs_hit sameCel hlt2 hy HX.out (by rw [sameCel, hp, hq]; simp))
                  clear hr hr' hy
                  rw [← hp] at e3
                  rw [← hq] at e2
                  go_wp2
                  go_region
                  go_wp2
                  go_ret
                  exact ⟨by rw [clash8, hit.out, Bool.or_true]; rfl, belowN hB 1⟩
                · have hm2 := Lib.hid (any_take (fun z => sameCel z x) hy hm.out (by rw [sameCel, decide_eq_false (fun e => hq (Eq.symm e)), Bool.and_false]))
                  have n1 := ne7 hq
                  have n2 := beq7 hq
                  clear hr hr' hy
                  rw [← hp] at e3
                  go_wp2
                  go_region
                  go_wp2
                  go_roundw
                  case rel => exact ⟨k + 1, by omega, by go_num, iD.drewN 1, belowN hB 1, ⟨hm2.out⟩⟩
                  case measure => simp [intOf]; omega
              · have hm2 := Lib.hid (any_take (fun z => sameCel z x) hy hm.out (by rw [sameCel, decide_eq_false (fun e => hp (Eq.symm e)), Bool.false_and]))
                have n1 := ne7 hp
                have n2 := beq7 hp
                clear hr hr' hy
                go_wp2
                go_region
                go_wp2
                go_roundw
                case rel => exact ⟨k + 1, by omega, by go_num, iD.drewN 1, belowN hB 1, ⟨hm2.out⟩⟩
                case measure => simp [intOf]; omega
            · have l2 : ¬ (k : Int) < (i : Int) := by omega
              obtain rfl : k = i := by omega
              have w5i := IntWalk.i64_in ((k : Int) + 1) (by omega)
              have hp2 := Lib.hid (pairs_take sameCel HX.out HN.out.out hm.out)
              go_wp2
              go_roundw
              case rel => exact ⟨k + 1, by omega, by go_num, iD, hB, ⟨hp2.out⟩⟩
              case measure => simp [intOf]; omega
        · have l1 : ¬ (i : Int) < (d.K.length : Int) := by omega
          obtain rfl : i = d.K.length := by omega
          have hK0 : Pf8 (pairs8 sameCel d.K) false := ⟨by have := hn.out; rwa [List.take_length] at this⟩
          have HKK := Lib.hid hK0
          have c3 : wr.cell? ⟨w.heap.size, 3, none⟩ = some (.slice A' d.K.length c') := iD.cell 3
          clear hn hK0
          go_wp2
          go_ret
          exact ⟨by rw [clash8, HNN.out.out, HKK.out.out]; rfl, hB⟩
end Go.Proofs.YtfgdcpolfekgjaaGreat
namespace Go.Proofs.YtfgdcpolfekgjaaGreat
open Go.RowKit Go.Shelf

theorem right8_f0 {d : Ide} (h : rightV d.B d.a = false ∨ 2000 < d.N.length ∨ 2000 < d.K.length) : right8 d = false := by
  rcases h with h | h | h
  · rw [right8, h]; rfl
  · rw [right8, decide_eq_false (show ¬ d.N.length ≤ 2000 by omega)]; simp
  · rw [right8, decide_eq_false (show ¬ d.K.length ≤ 2000 by omega)]; simp
theorem right8_f1 {d : Ide} (h : d.N.all okN = false) : right8 d = false := by simp [right8, h]
theorem right8_f2 {d : Ide} (h : pairs8 sameIn d.N = true) : right8 d = false := by simp [right8, h]
theorem right8_f3 {d : Ide} (h : d.K.all okK = false) : right8 d = false := by simp [right8, h]
theorem right8_f4 {d : Ide} (h : pairs8 sameAsk d.K = true) : right8 d = false := by simp [right8, h]
set_option maxRecDepth 100000 in
set_option maxHeartbeats 4000000 in
theorem dright8_no (d : Ide) (A : Option Addr) (c : Nat) (A' : Option Addr) (c' : Nat) (w : World) (h : ¬ (rightV d.B d.a = true ∧ d.N.length ≤ 2000 ∧ d.K.length ≤ 2000)) :
    Calls Tryz.prog 28 #[ideV d A c A' c'] w fun e w' => e = .returned (.bool (right8 d)) ∧ Below w.heap.size w w' := by
  have CT := Lib.hid (fun W => tdright_any d.B d.a W)
  obtain ⟨W1, hW1⟩ : ∃ W, W = w.alloc (.cells (ideL d A c A' c') 29) := ⟨_, rfl⟩
  have iD1 : Is W1 w.heap.size 29 (ideL d A c A' c') := by rw [hW1]; exact Is.new _ _ _
  have hB1 : Below w.heap.size w W1 := by rw [hW1]; exact (Below.refl _ _).alloc (Nat.le_refl _) _
  have q0 : W1.cell? ⟨w.heap.size, 0, none⟩ = some (.string d.B) := iD1.cell 0
  have q1 : W1.cell? ⟨w.heap.size, 1, none⟩ = some (.int .i64 d.a) := iD1.cell 1
  cases hr : rightV d.B d.a with
  | false =>
    rw [right8_f0 (.inl hr)]
    rw [hr] at CT
    clear hr h
    go_enter Tryz.func28, Tryz.ntmps28
    go_wp2_with fail
    rw [← hW1]
    clear hW1
    go_wp2_with fail
    refine (CT.out _).mono ?_
    rintro e W2 ⟨rfl, hb⟩
    go_wp2
    go_ret
    exact ⟨rfl, hB1.trans (hb.mono hB1.size)⟩
  | true =>
    by_cases hN : 2000 < (d.N.length : Int)
    · rw [right8_f0 (.inr (.inl (by omega)))]
      rw [hr] at CT
      clear hr h
      go_enter Tryz.func28, Tryz.ntmps28
      go_wp2_with fail
      rw [← hW1]
      clear hW1
      go_wp2_with fail
      refine (CT.out _).mono ?_
      rintro e W2 ⟨rfl, hb⟩
      have q2 : W2.cell? ⟨w.heap.size, 2, none⟩ = some (.slice A d.N.length c) := (iD1.below hb iD1.lt).cell 2
      go_wp2
      go_ret
      exact ⟨rfl, hB1.trans (hb.mono hB1.size)⟩
    · have hK : 2000 < (d.K.length : Int) := by
        rw [hr] at h
        by_cases h2 : d.K.length ≤ 2000
        · exact absurd ⟨rfl, by omega, h2⟩ h
        · omega
      rw [right8_f0 (.inr (.inr (by omega)))]
      rw [hr] at CT
      clear hr h
      go_enter Tryz.func28, Tryz.ntmps28
      go_wp2_with fail
      rw [← hW1]
      clear hW1
      go_wp2_with fail
      refine (CT.out _).mono ?_
      rintro e W2 ⟨rfl, hb⟩
      have q2 : W2.cell? ⟨w.heap.size, 2, none⟩ = some (.slice A d.N.length c) := (iD1.below hb iD1.lt).cell 2
      have q3 : W2.cell? ⟨w.heap.size, 3, none⟩ = some (.slice A' d.K.length c') := (iD1.below hb iD1.lt).cell 3
      go_wp2
      go_ret
      exact ⟨rfl, hB1.trans (hb.mono hB1.size)⟩

set_option maxRecDepth 100000 in
set_option maxHeartbeats 8000000 in
theorem dright8_go (d : Ide) (A : Option Addr) (c : Nat) (A' : Option Addr) (c' : Nat) (w : World) (h : InI w d A c A' c') (hr : rightV d.B d.a = true) (hN0 : d.N.length ≤ 2000) (hK0 : d.K.length ≤ 2000) :
    Calls Tryz.prog 28 #[ideV d A c A' c'] w fun e w' => e = .returned (.bool (right8 d)) ∧ Below w.heap.size w w' := by
  have HI := Lib.hid h
  have CT := Lib.hid (fun W => tdright_any d.B d.a W)
  rw [hr] at CT
  have HRR := Lib.hid hr
  clear h hr
  obtain ⟨W1, hW1⟩ : ∃ W, W = w.alloc (.cells (ideL d A c A' c') 29) := ⟨_, rfl⟩
  have iD1 : Is W1 w.heap.size 29 (ideL d A c A' c') := by rw [hW1]; exact Is.new _ _ _
  have hB1 : Below w.heap.size w W1 := by rw [hW1]; exact (Below.refl _ _).alloc (Nat.le_refl _) _
  have q0 : W1.cell? ⟨w.heap.size, 0, none⟩ = some (.string d.B) := iD1.cell 0
  have q1 : W1.cell? ⟨w.heap.size, 1, none⟩ = some (.int .i64 d.a) := iD1.cell 1
  go_enter Tryz.func28, Tryz.ntmps28
  go_wp2_with fail
  rw [← hW1]
  clear hW1
  go_wp2_with fail
  refine (CT.out _).mono ?_
  rintro e W2 ⟨rfl, hb⟩
  have iD2 := iD1.below hb iD1.lt
  have hB2 := hB1.trans (hb.mono hB1.size)
  clear iD1 hB1 hb q0 q1
  have q2 : W2.cell? ⟨w.heap.size, 2, none⟩ = some (.slice A d.N.length c) := iD2.cell 2
  have q3 : W2.cell? ⟨w.heap.size, 3, none⟩ = some (.slice A' d.K.length c') := iD2.cell 3
  have lN : ¬ 2000 < (d.N.length : Int) := by omega
  have lK : ¬ 2000 < (d.K.length : Int) := by omega
  go_wp2
  clear q2 q3
  go_loopw [3] (fun i wr => ∃ k : Nat, k ≤ d.N.length ∧ i = .int .i64 (k : Int) ∧ Is wr w.heap.size 29 (ideL d A c A' c') ∧ Below w.heap.size w wr ∧ All8 okN (d.N.take k) ∧ Pf8 (pairs8 sameIn (d.N.take k)) false)
    (fun i _ => d.N.length - (intOf i).toNat)
  case atStart => exact ⟨0, by omega, rfl, iD2, hB2, ⟨rfl⟩, ⟨rfl⟩⟩
  case round =>
    clear iD2 hB2
    obtain ⟨i, hi, rfl, iD, hB, ha, hn⟩ := hrel
    by_cases hlt : i < d.N.length
    · have c2 : wr.cell? ⟨w.heap.size, 2, none⟩ = some (.slice A d.N.length c) := iD.cell 2
      have l1 : (i : Int) < (d.N.length : Int) := by omega
      obtain ⟨x, hx⟩ : ∃ x, d.N[i]? = some x := ⟨_, List.getElem?_eq_getElem hlt⟩
      obtain ⟨b, off, rfl, hb, hr⟩ := (HI.out.keep hB).n.nam hx
      have e0 : wr.cell? ⟨b, off + i * 2, none⟩ = some (.string x.1) := hr 0 _ rfl
      have e1 : wr.cell? ⟨b, off + i * 2 + 1, none⟩ = some (.string x.2) := hr 1 _ rfl
      by_cases he : okN x = true
      · have ha2 := Lib.hid (All8.mk (all_take hx ha.out he))
        obtain ⟨o1, o2⟩ := okN_iff.1 he
        have o3 : ¬ (100 < (x.1.size : Int)) := by omega
        have HX := Lib.hid hx
        have HN := Lib.hid hn
        clear hx hn ha he hr o1
        go_wp2
        clear e0 e1 o2 o3
        go_loopw [4] (fun j wr => ∃ k : Nat, k ≤ i ∧ j = .int .i64 (k : Int) ∧ Is wr w.heap.size 29 (ideL d (some ⟨b, off, none⟩) c A' c') ∧ Below w.heap.size w wr ∧ Pf8 ((d.N.take k).any fun y => sameIn y x) false)
          (fun j _ => i - (intOf j).toNat)
        case atStart => exact ⟨0, by omega, rfl, iD, hB, ⟨rfl⟩⟩
        case round =>
          clear iD hB c2 hb
          obtain ⟨k, hk, rfl, iD, hB, hm⟩ := hrel
          by_cases hlt2 : k < i
          · have c2 : wr.cell? ⟨w.heap.size, 2, none⟩ = some (.slice (some ⟨b, off, none⟩) d.N.length c) := iD.cell 2
            have l2 : (k : Int) < (i : Int) := by omega
            have l3 : (k : Int) < (d.N.length : Int) := by omega
            obtain ⟨y, hy⟩ : ∃ y, d.N[k]? = some y := ⟨_, List.getElem?_eq_getElem (by omega)⟩
            obtain ⟨b1, off1, e1, hb, hr⟩ := (HI.out.keep hB).n.nam HX.out
            cases e1
            obtain ⟨b', off', e, _, hr'⟩ := (HI.out.keep hB).n.nam hy
            cases e
            have e1 : wr.cell? ⟨b, off + i * 2, none⟩ = some (.string x.1) := hr 0 _ rfl
            have e2 : wr.cell? ⟨b, off + k * 2, none⟩ = some (.string y.1) := hr' 0 _ rfl
            have w5i := IntWalk.i64_in ((k : Int) + 1) (by omega)
            by_cases hq : x.1 = y.1
            · have hit := Lib.hid (right8_f2 (pairs_hit sameIn hlt2 hy HX.out (by rw [sameIn, hq]; simp)))
              clear hr hr' hy
              rw [← hq] at e2
              go_wp2
              go_region
              go_wp2
              go_ret
              exact ⟨by rw [hit.out]; rfl, belowN hB 1⟩
            · have hm2 := Lib.hid (any_take (fun z => sameIn z x) hy hm.out (by rw [sameIn]; exact decide_eq_false (fun e => hq e.symm)))
              have n1 := ne7 hq
              have n2 := beq7 hq
              clear hr hr' hy
              go_wp2
              go_region
              go_wp2
              go_roundw
              case rel => exact ⟨k + 1, by omega, by go_num, iD.drewN 1, belowN hB 1, ⟨hm2.out⟩⟩
              case measure => simp [intOf]; omega
          · have l2 : ¬ (k : Int) < (i : Int) := by omega
            obtain rfl : k = i := by omega
            have w5i := IntWalk.i64_in ((k : Int) + 1) (by omega)
            have hp2 := Lib.hid (pairs_take sameIn HX.out HN.out.out hm.out)
            go_wp2
            go_roundw
            case rel => exact ⟨k + 1, by omega, by go_num, iD, hB, ha2.out, ⟨hp2.out⟩⟩
            case measure => simp [intOf]; omega
      · have hit := Lib.hid (right8_f1 (d := d) (all_miss hx (by simpa using he)))
        by_cases o1 : 100 < (x.1.size : Int)
        · clear hx hn ha hr he
          go_wp2
          go_ret
          exact ⟨by rw [hit.out]; rfl, hB⟩
        · have o2 : ¬ ((x.2.size : Int) = 16) := fun e2 => he (okN_iff.2 ⟨by omega, e2⟩)
          clear hx hn ha hr he
          go_wp2
          go_ret
          exact ⟨by rw [hit.out]; rfl, hB⟩
    · have l1 : ¬ (i : Int) < (d.N.length : Int) := by omega
      obtain rfl : i = d.N.length := by omega
      have hAN : All8 okN d.N := ⟨by have := ha.out; rwa [List.take_length] at this⟩
      have hPN : Pf8 (pairs8 sameIn d.N) false := ⟨by have := hn.out; rwa [List.take_length] at this⟩
      have HAN := Lib.hid hAN
      have HPN := Lib.hid hPN
      have c2 : wr.cell? ⟨w.heap.size, 2, none⟩ = some (.slice A d.N.length c) := iD.cell 2
      clear hn ha hAN hPN
      go_wp2
      go_loopw [5] (fun i wr => ∃ k : Nat, k ≤ d.K.length ∧ i = .int .i64 (k : Int) ∧ Is wr w.heap.size 29 (ideL d A c A' c') ∧ Below w.heap.size w wr ∧ All8 okK (d.K.take k) ∧ Pf8 (pairs8 sameAsk (d.K.take k)) false)
        (fun i _ => d.K.length - (intOf i).toNat)
      case atStart => exact ⟨0, by omega, rfl, iD, hB, ⟨rfl⟩, ⟨rfl⟩⟩
      case round =>
        clear iD hB c2
        obtain ⟨i, hi, rfl, iD, hB, ha, hn⟩ := hrel
        by_cases hlt : i < d.K.length
        · have c3 : wr.cell? ⟨w.heap.size, 3, none⟩ = some (.slice A' d.K.length c') := iD.cell 3
          have l1 : (i : Int) < (d.K.length : Int) := by omega
          obtain ⟨x, hx⟩ : ∃ x, d.K[i]? = some x := ⟨_, List.getElem?_eq_getElem hlt⟩
          obtain ⟨b, off, rfl, hb, hr⟩ := (HI.out.keep hB).k.cel hx
          obtain ⟨x1, x2, x3⟩ := x
          simp only [] at hr
          have iX : Is (wr.alloc (.cells #[.string x1, .string x2, .string x3] 91)) wr.heap.size 91 #[.string x1, .string x2, .string x3] := Is.new _ _ _
          have iDa := iD.alloc (.cells #[.string x1, .string x2, .string x3] 91)
          have hBa := hB.alloc hB.size (.cells #[.string x1, .string x2, .string x3] 91)
          have s0 : (wr.alloc (.cells #[.string x1, .string x2, .string x3] 91)).cell? ⟨wr.heap.size, 0, none⟩ = some (.string x1) := iX.cell 0
          have s1 : (wr.alloc (.cells #[.string x1, .string x2, .string x3] 91)).cell? ⟨wr.heap.size, 1, none⟩ = some (.string x2) := iX.cell 1
          have s2 : (wr.alloc (.cells #[.string x1, .string x2, .string x3] 91)).cell? ⟨wr.heap.size, 2, none⟩ = some (.string x3) := iX.cell 2
          have hXn : w.heap.size < wr.heap.size := iD.lt
          by_cases he : okK (x1, x2, x3) = true
          · have ha2 := Lib.hid (All8.mk (all_take hx ha.out he))
            obtain ⟨o1, o2, o3⟩ := okK_iff.1 he
            simp only [] at o1 o2 o3
            have HX := Lib.hid hx
            have HN := Lib.hid hn
            clear hx hn ha he iD hB
            go_wp2_with (refine wpList_load_mid rfl 91 _ rfl b (off + i * 3) rfl _ _ hr Tryz.underlying91 rfl infoMad ?_)
            clear s0 s1 s2 hr c3 hb
            generalize wr.alloc (.cells #[.string x1, .string x2, .string x3] 91) = WX at *
            generalize wr.heap.size = BX at *
            go_loopw [7] (fun j wr => ∃ k : Nat, k ≤ i ∧ j = .int .i64 (k : Int) ∧ Is wr w.heap.size 29 (ideL d A c (some ⟨b, off, none⟩) c') ∧ Is wr BX 91 #[.string x1, .string x2, .string x3] ∧ Below w.heap.size w wr ∧ Pf8 ((d.K.take k).any fun y => sameAsk y (x1, x2, x3)) false)
              (fun j _ => i - (intOf j).toNat)
            case atStart => exact ⟨0, by omega, rfl, iDa, iX, hBa, ⟨rfl⟩⟩
            case round =>
              clear iDa hBa iX
              obtain ⟨k, hk, rfl, iD, iX, hB, hm⟩ := hrel
              by_cases hlt2 : k < i
              · have c3 : wr.cell? ⟨w.heap.size, 3, none⟩ = some (.slice (some ⟨b, off, none⟩) d.K.length c') := iD.cell 3
                have l2 : (k : Int) < (i : Int) := by omega
                have l3 : (k : Int) < (d.K.length : Int) := by omega
                obtain ⟨y, hy⟩ : ∃ y, d.K[k]? = some y := ⟨_, List.getElem?_eq_getElem (by omega)⟩
                obtain ⟨b', off', e, _, hr'⟩ := (HI.out.keep hB).k.cel hy
                cases e
                have s0 : wr.cell? ⟨BX, 0, none⟩ = some (.string x1) := iX.cell 0
                have s1 : wr.cell? ⟨BX, 1, none⟩ = some (.string x2) := iX.cell 1
                have e2 : wr.cell? ⟨b, off + k * 3, none⟩ = some (.string y.1) := hr' 0 _ rfl
                have e3 : wr.cell? ⟨b, off + k * 3 + 1, none⟩ = some (.string y.2.1) := hr' 1 _ rfl
                have w5i := IntWalk.i64_in ((k : Int) + 1) (by omega)
                by_cases hp : x1 = y.1
                · by_cases hq : x2 = y.2.1
                  · have hit := Lib.hid (right8_f4 (pairs_hit sameAsk hlt2 hy HX.out (by rw [sameAsk, hp, hq]; simp)))
                    clear hr' hy
                    rw [← hp] at e2
                    rw [← hq] at e3
                    go_wp2
                    go_region
                    go_wp2
                    go_ret
                    exact ⟨by rw [hit.out]; rfl, belowN hB 1⟩
                  · have hm2 := Lib.hid (any_take (fun z => sameAsk z (x1, x2, x3)) hy hm.out (by rw [sameAsk]; simp only []; rw [decide_eq_false (fun e => hq (Eq.symm e)), Bool.and_false]))
                    have n1 := ne7 hq
                    have n2 := beq7 hq
                    clear hr' hy
                    rw [← hp] at e2
                    go_wp2
                    go_region
                    go_wp2
                    go_roundw
                    case rel => exact ⟨k + 1, by omega, by go_num, iD.drewN 1, iX.drewN 1, belowN hB 1, ⟨hm2.out⟩⟩
                    case measure => simp [intOf]; omega
                · have hm2 := Lib.hid (any_take (fun z => sameAsk z (x1, x2, x3)) hy hm.out (by rw [sameAsk]; simp only []; rw [decide_eq_false (fun e => hp (Eq.symm e)), Bool.false_and]))
                  have n1 := ne7 hp
                  have n2 := beq7 hp
                  clear hr' hy
                  go_wp2
                  go_region
                  go_wp2
                  go_roundw
                  case rel => exact ⟨k + 1, by omega, by go_num, iD.drewN 1, iX.drewN 1, belowN hB 1, ⟨hm2.out⟩⟩
                  case measure => simp [intOf]; omega
              · have l2 : ¬ (k : Int) < (i : Int) := by omega
                obtain rfl : k = i := by omega
                have w5i := IntWalk.i64_in ((k : Int) + 1) (by omega)
                have hp2 := Lib.hid (pairs_take sameAsk HX.out HN.out.out hm.out)
                go_wp2
                go_roundw
                case rel => exact ⟨k + 1, by omega, by go_num, iD, hB, ha2.out, ⟨hp2.out⟩⟩
                case measure => simp [intOf]; omega
          · have hit := Lib.hid (right8_f3 (d := d) (all_miss hx (by simpa using he)))
            by_cases o1 : (x1.size : Int) = 16
            · by_cases o2 : (x2.size : Int) = 24
              · have o3 : ¬ ((x3.size : Int) = 40) := fun o3 => he (okK_iff.2 ⟨o1, o2, o3⟩)
                clear hx hn ha he iD hB
                go_wp2_with (refine wpList_load_mid rfl 91 _ rfl b (off + i * 3) rfl _ _ hr Tryz.underlying91 rfl infoMad ?_)
                go_ret
                exact ⟨by rw [hit.out]; rfl, hBa⟩
              · clear hx hn ha he iD hB
                go_wp2_with (refine wpList_load_mid rfl 91 _ rfl b (off + i * 3) rfl _ _ hr Tryz.underlying91 rfl infoMad ?_)
                go_ret
                exact ⟨by rw [hit.out]; rfl, hBa⟩
            · clear hx hn ha he iD hB
              go_wp2_with (refine wpList_load_mid rfl 91 _ rfl b (off + i * 3) rfl _ _ hr Tryz.underlying91 rfl infoMad ?_)
              go_ret
              exact ⟨by rw [hit.out]; rfl, hBa⟩
        · have l1 : ¬ (i : Int) < (d.K.length : Int) := by omega
          obtain rfl : i = d.K.length := by omega
          have hAK : All8 okK d.K := ⟨by have := ha.out; rwa [List.take_length] at this⟩
          have hPK : Pf8 (pairs8 sameAsk d.K) false := ⟨by have := hn.out; rwa [List.take_length] at this⟩
          have hz := Lib.hid (show right8 d = (d.c == clash8 d.N d.K) by rw [right8, HRR.out, HAN.out.out, HPN.out.out, hAK.out, hPK.out, decide_eq_true hN0, decide_eq_true hK0]; rfl)
          have c3 : wr.cell? ⟨w.heap.size, 3, none⟩ = some (.slice A' d.K.length c') := iD.cell 3
          clear hn ha hAK hPK
          go_wp2
          obtain ⟨WR, hWR⟩ : ∃ W, W = wr := ⟨_, rfl⟩
          subst hWR
          clear c3
          refine wp_region_held_drew (S := fun W => Below WR.heap.size WR W) (by kernel_rfl) (belowN (Below.refl _ _) 1) (fun hS => ?_)
          change wpAnyH _ _ (opsOf Tryz.f28 24) _ _ 6 (Array.replicate 6 false) _ _
          have hB0 : Below WR.heap.size WR WR.drew := hS
          clear hS
          generalize WR.drew = V0 at *
          refine wpAnyH_pure (i := 0) (v := .pointer (some ⟨w.heap.size, 4, none⟩)) (at_nth rfl) (by kernel_rfl) (by kernel_rfl) (by kernel_rfl) (fun _ _ _ h => h) (by kernel_rfl) (fun w hSw => by go_simp) hB0 ?_
          simp only [Act.put, List.setIfInBounds_toArray, List.set_cons_succ, List.set_cons_zero]
          refine wpAnyH_pure (i := 1) (v := .bool d.c) (at_nth rfl) (by kernel_rfl) (by kernel_rfl) (by kernel_rfl) (fun _ _ _ h => h) (by kernel_rfl) (fun w hSw => by (have hc := (iD.below hSw iD.lt).cell 4; go_simp)) hB0 ?_
          simp only [Act.put, List.setIfInBounds_toArray, List.set_cons_succ, List.set_cons_zero]
          refine wpAnyH_pure (i := 2) (v := .agg #[.string d.B, .int .i64 d.a, .slice A d.N.length c, .slice A' d.K.length c', .bool d.c]) (at_nth rfl) (by kernel_rfl) (by kernel_rfl) (by kernel_rfl) (fun _ _ _ h => h) (by kernel_rfl) (fun w hSw => by exact exec_load rfl rfl (run_loadVar_row _ _ 29 29 _ (0, 0) _ (iD.below hSw iD.lt) Tryz.underlying29 rfl infoIde)) hB0 ?_
          simp only [Act.put, List.setIfInBounds_toArray, List.set_cons_succ, List.set_cons_zero]
          refine wpAnyH_call (i := 3) (by kernel_rfl) (at_nth rfl) (by kernel_rfl) (fun w => by kernel_rfl) (((dclash_any d A c A' c' V0 (HI.out.keep (hB.trans (hB0.mono hB.size))))).mono ?_)
          rintro e V1 ⟨rfl, hx⟩
          have hB1 : Below WR.heap.size WR V1 := hB0.trans (hx.mono hB0.size)
          refine ⟨_, rfl, hB1, ?_⟩
          try simp only [Act.put, List.setIfInBounds_toArray, List.set_cons_succ, List.set_cons_zero]
          refine wpAnyH_pure (i := 4) (v := .bool (d.c == clash8 d.N d.K)) (at_nth rfl) (by kernel_rfl) (by kernel_rfl) (by kernel_rfl) (fun _ _ _ h => h) (by kernel_rfl) (fun w hSw => by go_simp) hB1 ?_
          simp only [Act.put, List.setIfInBounds_toArray, List.set_cons_succ, List.set_cons_zero]
          refine wpAnyH_pure (i := 5) (v := .bool (d.c == clash8 d.N d.K)) (at_nth rfl) (by kernel_rfl) (by kernel_rfl) (by kernel_rfl) (fun _ _ _ h => h) (by kernel_rfl) (fun w hSw => by kernel_rfl) hB1 ?_
          simp only [Act.put, List.setIfInBounds_toArray, List.set_cons_succ, List.set_cons_zero]
          refine wpAnyH_done (by kernel_rfl) ?_ _
          go_wp2
          go_ret
          exact ⟨by rw [hz.out]; rfl, hB.trans (hB1.mono hB.size)⟩
/-- Right, the document's own, whatever it is asked. -/
theorem dright8_any (d : Ide) (A : Option Addr) (c : Nat) (A' : Option Addr) (c' : Nat) (w : World) (h : InI w d A c A' c') :
    Calls Tryz.prog 28 #[ideV d A c A' c'] w fun e w' => e = .returned (.bool (right8 d)) ∧ Below w.heap.size w w' := by
  by_cases hs : rightV d.B d.a = true ∧ d.N.length ≤ 2000 ∧ d.K.length ≤ 2000
  · exact dright8_go d A c A' c' w h hs.1 hs.2.1 hs.2.2
  · exact dright8_no d A c A' c' w hs
end Go.Proofs.YtfgdcpolfekgjaaGreat
namespace Go.Proofs.YtfgdcpolfekgjaaGreat
open Go.RowKit Go.Shelf

section
variable {P : Program} {w : World} {o : Oper} {a : Act} {Q : Exit → Act → World → Prop} {K : Act → World → Prop}
variable {md : Region.Mode} {ops : Array Oper} {S : World → Prop} {fuel i : Nat} {listed : Array Bool}
end

end Go.Proofs.YtfgdcpolfekgjaaGreat
namespace Go.Proofs.YtfgdcpolfekgjaaGreat
open Go.RowKit Go.Shelf

end Go.Proofs.YtfgdcpolfekgjaaGreat
namespace Go.Proofs.YtfgdcpolfekgjaaGreat
open Go.RowKit

structure LabOk (d : Ide) (i : ByteArray) : Prop where
  out : (right8 d && decide (i.size ≤ 100)) = true
section
variable {d : Ide} {i : ByteArray} (hz : LabOk d i)
include hz
end
structure SeaOk (d : Ide) (l t : ByteArray) : Prop where
  out : (right8 d && (decide (l.size = 16) && decide (t.size = 24))) = true
section
variable {d : Ide} {l t : ByteArray} (hz : SeaOk d l t)
include hz
end
end Go.Proofs.YtfgdcpolfekgjaaGreat
namespace Go.Proofs.YtfgdcpolfekgjaaGreat
open Go.RowKit Go.Shelf

end Go.Proofs.YtfgdcpolfekgjaaGreat
namespace Go.Proofs.YtfgdcpolfekgjaaGreat
open Go.RowKit Go.Shelf

end Go.Proofs.YtfgdcpolfekgjaaGreat
namespace Go.Proofs.YtfgdcpolfekgjaaGreat
open Go.RowKit Go.Shelf

end Go.Proofs.YtfgdcpolfekgjaaGreat
namespace Go.Proofs.YtfgdcpolfekgjaaGreat
open Go.RowKit Go.Shelf

set_option maxRecDepth 100000 in
set_option maxHeartbeats 4000000 in
/-- Same, the document's own, where both are one ideal. -/
theorem same8_any (d : Ide) (A : Option Addr) (c : Nat) (A' : Option Addr) (c' : Nat) (E : Option Addr) (e : Nat) (E' : Option Addr) (e' : Nat) (w : World) (h : InI w d A c A' c') (h' : InI w d E e E' e') :
    Calls Tryz.prog 33 #[ideV d A c A' c', ideV d E e E' e'] w fun r w' => r = .returned (.bool true) ∧ Below w.heap.size w w' := by
  have HA := Lib.hid h
  have HE := Lib.hid h'
  have hfN := h.fit
  have hfK := h.fitK
  clear h h'
  obtain ⟨W1, hW1⟩ : ∃ W, W = (w.alloc (.cells (ideL d A c A' c') 29)).alloc (.cells (ideL d E e E' e') 29) := ⟨_, rfl⟩
  have iA : Is W1 w.heap.size 29 (ideL d A c A' c') := by rw [hW1]; exact heap_alloc2_old w _ _
  have iB : Is W1 (w.heap.size + 1) 29 (ideL d E e E' e') := by rw [hW1]; exact heap_alloc2_new w _ _
  have hB : Below w.heap.size w W1 := by rw [hW1]; exact ((Below.refl _ _).alloc (Nat.le_refl _) _).alloc (by simp) _
  go_enter Tryz.func33, Tryz.ntmps33
  go_wp2_with fail
  rw [← hW1]
  clear hW1
  have p0 : W1.cell? ⟨w.heap.size, 0, none⟩ = some (.string d.B) := iA.cell 0
  have p1 : W1.cell? ⟨w.heap.size, 1, none⟩ = some (.int .i64 d.a) := iA.cell 1
  have p2 : W1.cell? ⟨w.heap.size, 2, none⟩ = some (.slice A d.N.length c) := iA.cell 2
  have p3 : W1.cell? ⟨w.heap.size, 3, none⟩ = some (.slice A' d.K.length c') := iA.cell 3
  have p4 : W1.cell? ⟨w.heap.size, 4, none⟩ = some (.bool d.c) := iA.cell 4
  have q0 : W1.cell? ⟨w.heap.size + 1, 0, none⟩ = some (.string d.B) := iB.cell 0
  have q1 : W1.cell? ⟨w.heap.size + 1, 1, none⟩ = some (.int .i64 d.a) := iB.cell 1
  have q2 : W1.cell? ⟨w.heap.size + 1, 2, none⟩ = some (.slice E d.N.length e) := iB.cell 2
  have q3 : W1.cell? ⟨w.heap.size + 1, 3, none⟩ = some (.slice E' d.K.length e') := iB.cell 3
  have q4 : W1.cell? ⟨w.heap.size + 1, 4, none⟩ = some (.bool d.c) := iB.cell 4
  go_wp2
  clear p0 p1 p2 p3 p4 q0 q1 q2 q3 q4
  go_loopw [5] (fun i0 wr => ∃ j : Nat, j ≤ d.N.length ∧ i0 = .int .i64 (j : Int) ∧ Is wr w.heap.size 29 (ideL d A c A' c') ∧ Is wr (w.heap.size + 1) 29 (ideL d E e E' e') ∧ Below w.heap.size w wr)
    (fun i0 _ => d.N.length - (intOf i0).toNat)
  case atStart => exact ⟨0, by omega, rfl, iA, iB, hB⟩
  case round =>
    clear iA iB hB
    obtain ⟨j, hj, rfl, iA, iB, hB⟩ := hrel
    have c2 : wr.cell? ⟨w.heap.size, 2, none⟩ = some (.slice A d.N.length c) := iA.cell 2
    by_cases hlt : j < d.N.length
    · have l1 : (j : Int) < (d.N.length : Int) := by omega
      obtain ⟨x, hx⟩ : ∃ x, d.N[j]? = some x := ⟨_, List.getElem?_eq_getElem hlt⟩
      have HX := Lib.hid hx
      obtain ⟨b, off, rfl, _, _⟩ := (HA.out.keep hB).n.nam hx
      obtain ⟨g, pff, rfl, _, _⟩ := (HE.out.keep hB).n.nam hx
      have w5i := IntWalk.i64_in ((j : Int) + 1) (by omega)
      clear hx
      go_wp2
      refine wp_region_held_drew (S := fun W => Is W w.heap.size 29 (ideL d (some ⟨b, off, none⟩) c A' c') ∧ Is W (w.heap.size + 1) 29 (ideL d (some ⟨g, pff, none⟩) e E' e') ∧ Below w.heap.size w W) (by kernel_rfl) ⟨iA, iB, belowN hB 1⟩ (fun hS => ?_)
      change wpAnyH _ _ (opsOf Tryz.f33 6) _ _ 11 (Array.replicate 11 false) _ _
      clear hS
      refine wpAnyH_pure (i := 0) (v := .pointer (some ⟨w.heap.size, 2, none⟩)) (at_nth rfl) (by kernel_rfl) (by kernel_rfl) (by kernel_rfl) (fun _ _ _ h => h) (by kernel_rfl) (fun w hSw => by go_simp) ⟨iA, iB, belowN hB 1⟩ ?_
      simp only [Act.put, List.setIfInBounds_toArray, List.set_cons_succ, List.set_cons_zero]
      refine wpAnyH_pure (i := 1) (v := .slice (some ⟨b, off, none⟩) d.N.length c) (at_nth rfl) (by kernel_rfl) (by kernel_rfl) (by kernel_rfl) (fun _ _ _ h => h) (by kernel_rfl) (fun w hSw => by (have hc := hSw.1.cell 2; go_simp)) ⟨iA, iB, belowN hB 1⟩ ?_
      simp only [Act.put, List.setIfInBounds_toArray, List.set_cons_succ, List.set_cons_zero]
      refine wpAnyH_pure (i := 2) (v := .int .i64 (j : Int)) (at_nth rfl) (by kernel_rfl) (by kernel_rfl) (by kernel_rfl) (fun _ _ _ h => h) (by kernel_rfl) (fun w hSw => by kernel_rfl) ⟨iA, iB, belowN hB 1⟩ ?_
      simp only [Act.put, List.setIfInBounds_toArray, List.set_cons_succ, List.set_cons_zero]
      refine wpAnyH_pure (i := 3) (v := .pointer (some ⟨b, off + j * 2, none⟩)) (at_nth rfl) (by kernel_rfl) (by kernel_rfl) (by kernel_rfl) (fun _ _ _ h => h) (by kernel_rfl) (fun w hSw => by go_simp) ⟨iA, iB, belowN hB 1⟩ ?_
      simp only [Act.put, List.setIfInBounds_toArray, List.set_cons_succ, List.set_cons_zero]
      refine wpAnyH_pure (i := 4) (v := .agg #[.string x.1, .string x.2]) (at_nth rfl) (by kernel_rfl) (by kernel_rfl) (by kernel_rfl) (fun _ _ _ h => h) (by kernel_rfl) (fun w hSw => by (obtain ⟨b1, off1, e1, _, hr⟩ := (HA.out.keep hSw.2.2).n.nam HX.out; cases e1; exact exec_load rfl rfl (run_loadVar_mid _ _ _ 89 [.string x.1, .string x.2] _ hr Tryz.underlying89 rfl infoNam))) ⟨iA, iB, belowN hB 1⟩ ?_
      simp only [Act.put, List.setIfInBounds_toArray, List.set_cons_succ, List.set_cons_zero]
      refine wpAnyH_pure (i := 5) (v := .pointer (some ⟨w.heap.size + 1, 2, none⟩)) (at_nth rfl) (by kernel_rfl) (by kernel_rfl) (by kernel_rfl) (fun _ _ _ h => h) (by kernel_rfl) (fun w hSw => by go_simp) ⟨iA, iB, belowN hB 1⟩ ?_
      simp only [Act.put, List.setIfInBounds_toArray, List.set_cons_succ, List.set_cons_zero]
      refine wpAnyH_pure (i := 6) (v := .slice (some ⟨g, pff, none⟩) d.N.length e) (at_nth rfl) (by kernel_rfl) (by kernel_rfl) (by kernel_rfl) (fun _ _ _ h => h) (by kernel_rfl) (fun w hSw => by (have hc := hSw.2.1.cell 2; go_simp)) ⟨iA, iB, belowN hB 1⟩ ?_
      simp only [Act.put, List.setIfInBounds_toArray, List.set_cons_succ, List.set_cons_zero]
      refine wpAnyH_pure (i := 7) (v := .int .i64 (j : Int)) (at_nth rfl) (by kernel_rfl) (by kernel_rfl) (by kernel_rfl) (fun _ _ _ h => h) (by kernel_rfl) (fun w hSw => by kernel_rfl) ⟨iA, iB, belowN hB 1⟩ ?_
      simp only [Act.put, List.setIfInBounds_toArray, List.set_cons_succ, List.set_cons_zero]
      refine wpAnyH_pure (i := 8) (v := .pointer (some ⟨g, pff + j * 2, none⟩)) (at_nth rfl) (by kernel_rfl) (by kernel_rfl) (by kernel_rfl) (fun _ _ _ h => h) (by kernel_rfl) (fun w hSw => by go_simp) ⟨iA, iB, belowN hB 1⟩ ?_
      simp only [Act.put, List.setIfInBounds_toArray, List.set_cons_succ, List.set_cons_zero]
      refine wpAnyH_pure (i := 9) (v := .agg #[.string x.1, .string x.2]) (at_nth rfl) (by kernel_rfl) (by kernel_rfl) (by kernel_rfl) (fun _ _ _ h => h) (by kernel_rfl) (fun w hSw => by (obtain ⟨b1, off1, e1, _, hr⟩ := (HE.out.keep hSw.2.2).n.nam HX.out; cases e1; exact exec_load rfl rfl (run_loadVar_mid _ _ _ 89 [.string x.1, .string x.2] _ hr Tryz.underlying89 rfl infoNam))) ⟨iA, iB, belowN hB 1⟩ ?_
      simp only [Act.put, List.setIfInBounds_toArray, List.set_cons_succ, List.set_cons_zero]
      refine wpAnyH_pure (i := 10) (v := .bool false) (at_nth rfl) (by kernel_rfl) (by kernel_rfl) (by kernel_rfl) (fun _ _ _ h => h) (by kernel_rfl) (fun w hSw => by go_simp) ⟨iA, iB, belowN hB 1⟩ ?_
      simp only [Act.put, List.setIfInBounds_toArray, List.set_cons_succ, List.set_cons_zero]
      refine wpAnyH_done (by kernel_rfl) ?_ _
      go_wp2
      go_roundw
      case rel => exact ⟨j + 1, by omega, by go_num, iA.drewN 1, iB.drewN 1, belowN hB 1⟩
      case measure => simp [intOf]; omega
    · have l1 : ¬ (j : Int) < (d.N.length : Int) := by omega
      obtain rfl : j = d.N.length := by omega
      clear c2
      have c3 : wr.cell? ⟨w.heap.size, 3, none⟩ = some (.slice A' d.K.length c') := iA.cell 3
      have c2 : wr.cell? ⟨w.heap.size, 2, none⟩ = some (.slice A d.N.length c) := iA.cell 2
      go_wp2
      clear c2 c3
      go_loopw [6] (fun i0 wr => ∃ j : Nat, j ≤ d.K.length ∧ i0 = .int .i64 (j : Int) ∧ Is wr w.heap.size 29 (ideL d A c A' c') ∧ Is wr (w.heap.size + 1) 29 (ideL d E e E' e') ∧ Below w.heap.size w wr)
        (fun i0 _ => d.K.length - (intOf i0).toNat)
      case atStart => exact ⟨0, by omega, rfl, iA, iB, hB⟩
      case round =>
        clear iA iB hB
        obtain ⟨j, hj, rfl, iA, iB, hB⟩ := hrel
        have c2 : wr.cell? ⟨w.heap.size, 3, none⟩ = some (.slice A' d.K.length c') := iA.cell 3
        by_cases hlt : j < d.K.length
        · have l1 : (j : Int) < (d.K.length : Int) := by omega
          obtain ⟨x, hx⟩ : ∃ x, d.K[j]? = some x := ⟨_, List.getElem?_eq_getElem hlt⟩
          have HX := Lib.hid hx
          obtain ⟨b, off, rfl, _, _⟩ := (HA.out.keep hB).k.cel hx
          obtain ⟨g, pff, rfl, _, _⟩ := (HE.out.keep hB).k.cel hx
          have w5i := IntWalk.i64_in ((j : Int) + 1) (by omega)
          clear hx
          go_wp2
          refine wp_region_held_drew (S := fun W => Is W w.heap.size 29 (ideL d A c (some ⟨b, off, none⟩) c') ∧ Is W (w.heap.size + 1) 29 (ideL d E e (some ⟨g, pff, none⟩) e') ∧ Below w.heap.size w W) (by kernel_rfl) ⟨iA, iB, belowN hB 1⟩ (fun hS => ?_)
          change wpAnyH _ _ (opsOf Tryz.f33 11) _ _ 11 (Array.replicate 11 false) _ _
          clear hS
          refine wpAnyH_pure (i := 0) (v := .pointer (some ⟨w.heap.size, 3, none⟩)) (at_nth rfl) (by kernel_rfl) (by kernel_rfl) (by kernel_rfl) (fun _ _ _ h => h) (by kernel_rfl) (fun w hSw => by go_simp) ⟨iA, iB, belowN hB 1⟩ ?_
          simp only [Act.put, List.setIfInBounds_toArray, List.set_cons_succ, List.set_cons_zero]
          refine wpAnyH_pure (i := 1) (v := .slice (some ⟨b, off, none⟩) d.K.length c') (at_nth rfl) (by kernel_rfl) (by kernel_rfl) (by kernel_rfl) (fun _ _ _ h => h) (by kernel_rfl) (fun w hSw => by (have hc := hSw.1.cell 3; go_simp)) ⟨iA, iB, belowN hB 1⟩ ?_
          simp only [Act.put, List.setIfInBounds_toArray, List.set_cons_succ, List.set_cons_zero]
          refine wpAnyH_pure (i := 2) (v := .int .i64 (j : Int)) (at_nth rfl) (by kernel_rfl) (by kernel_rfl) (by kernel_rfl) (fun _ _ _ h => h) (by kernel_rfl) (fun w hSw => by kernel_rfl) ⟨iA, iB, belowN hB 1⟩ ?_
          simp only [Act.put, List.setIfInBounds_toArray, List.set_cons_succ, List.set_cons_zero]
          refine wpAnyH_pure (i := 3) (v := .pointer (some ⟨b, off + j * 3, none⟩)) (at_nth rfl) (by kernel_rfl) (by kernel_rfl) (by kernel_rfl) (fun _ _ _ h => h) (by kernel_rfl) (fun w hSw => by go_simp) ⟨iA, iB, belowN hB 1⟩ ?_
          simp only [Act.put, List.setIfInBounds_toArray, List.set_cons_succ, List.set_cons_zero]
          refine wpAnyH_pure (i := 4) (v := .agg #[.string x.1, .string x.2.1, .string x.2.2]) (at_nth rfl) (by kernel_rfl) (by kernel_rfl) (by kernel_rfl) (fun _ _ _ h => h) (by kernel_rfl) (fun w hSw => by (obtain ⟨b1, off1, e1, _, hr⟩ := (HA.out.keep hSw.2.2).k.cel HX.out; cases e1; exact exec_load rfl rfl (run_loadVar_mid _ _ _ 91 [.string x.1, .string x.2.1, .string x.2.2] _ hr Tryz.underlying91 rfl infoMad))) ⟨iA, iB, belowN hB 1⟩ ?_
          simp only [Act.put, List.setIfInBounds_toArray, List.set_cons_succ, List.set_cons_zero]
          refine wpAnyH_pure (i := 5) (v := .pointer (some ⟨w.heap.size + 1, 3, none⟩)) (at_nth rfl) (by kernel_rfl) (by kernel_rfl) (by kernel_rfl) (fun _ _ _ h => h) (by kernel_rfl) (fun w hSw => by go_simp) ⟨iA, iB, belowN hB 1⟩ ?_
          simp only [Act.put, List.setIfInBounds_toArray, List.set_cons_succ, List.set_cons_zero]
          refine wpAnyH_pure (i := 6) (v := .slice (some ⟨g, pff, none⟩) d.K.length e') (at_nth rfl) (by kernel_rfl) (by kernel_rfl) (by kernel_rfl) (fun _ _ _ h => h) (by kernel_rfl) (fun w hSw => by (have hc := hSw.2.1.cell 3; go_simp)) ⟨iA, iB, belowN hB 1⟩ ?_
          simp only [Act.put, List.setIfInBounds_toArray, List.set_cons_succ, List.set_cons_zero]
          refine wpAnyH_pure (i := 7) (v := .int .i64 (j : Int)) (at_nth rfl) (by kernel_rfl) (by kernel_rfl) (by kernel_rfl) (fun _ _ _ h => h) (by kernel_rfl) (fun w hSw => by kernel_rfl) ⟨iA, iB, belowN hB 1⟩ ?_
          simp only [Act.put, List.setIfInBounds_toArray, List.set_cons_succ, List.set_cons_zero]
          refine wpAnyH_pure (i := 8) (v := .pointer (some ⟨g, pff + j * 3, none⟩)) (at_nth rfl) (by kernel_rfl) (by kernel_rfl) (by kernel_rfl) (fun _ _ _ h => h) (by kernel_rfl) (fun w hSw => by go_simp) ⟨iA, iB, belowN hB 1⟩ ?_
          simp only [Act.put, List.setIfInBounds_toArray, List.set_cons_succ, List.set_cons_zero]
          refine wpAnyH_pure (i := 9) (v := .agg #[.string x.1, .string x.2.1, .string x.2.2]) (at_nth rfl) (by kernel_rfl) (by kernel_rfl) (by kernel_rfl) (fun _ _ _ h => h) (by kernel_rfl) (fun w hSw => by (obtain ⟨b1, off1, e1, _, hr⟩ := (HE.out.keep hSw.2.2).k.cel HX.out; cases e1; exact exec_load rfl rfl (run_loadVar_mid _ _ _ 91 [.string x.1, .string x.2.1, .string x.2.2] _ hr Tryz.underlying91 rfl infoMad))) ⟨iA, iB, belowN hB 1⟩ ?_
          simp only [Act.put, List.setIfInBounds_toArray, List.set_cons_succ, List.set_cons_zero]
          refine wpAnyH_pure (i := 10) (v := .bool false) (at_nth rfl) (by kernel_rfl) (by kernel_rfl) (by kernel_rfl) (fun _ _ _ h => h) (by kernel_rfl) (fun w hSw => by go_simp) ⟨iA, iB, belowN hB 1⟩ ?_
          simp only [Act.put, List.setIfInBounds_toArray, List.set_cons_succ, List.set_cons_zero]
          refine wpAnyH_done (by kernel_rfl) ?_ _
          go_wp2
          go_roundw
          case rel => exact ⟨j + 1, by omega, by go_num, iA.drewN 1, iB.drewN 1, belowN hB 1⟩
          case measure => simp [intOf]; omega
        · have l1 : ¬ (j : Int) < (d.K.length : Int) := by omega
          obtain rfl : j = d.K.length := by omega
          go_wp2
          go_ret
          exact ⟨rfl, hB⟩
end Go.Proofs.YtfgdcpolfekgjaaGreat

