/-
  Contract of aes.Encrypt, without error. Conditions: a key of 16 or 32 bytes, a block of 16.
-/
import Derived.Test.YtjfeloimlgfocaaAesJ
namespace Go.Proofs.Ytjfeloimlgfocaa
open Go.RowKit Go.Shelf
attribute [local go_sem] Oper.semAt_some

set_option maxRecDepth 100000 in
theorem rightKey_any (key : ByteArray) (w : World) : Calls Try.prog 19 #[.string key] w fun e w' => e = .returned (.bool (decide (key.size = 16) || decide (key.size = 32))) ∧ w = w' := by
  by_cases h1 : key.size = 16
  · have e1 : ((key.size : Int) == 16) = true := by simp; omega
    have H := Lib.hid h1
    clear h1
    go_enter Try.func19, Try.ntmps19
    go_wp2
    go_ret
    exact ⟨by rw [H.out]; rfl, rfl⟩
  · have e1 : ((key.size : Int) == 16) = false := by simp; omega
    by_cases h2 : key.size = 32
    · have e2 : ((key.size : Int) == 32) = true := by simp; omega
      have H := Lib.hid h2
      clear h1 h2
      go_enter Try.func19, Try.ntmps19
      go_wp2
      go_ret
      exact ⟨by rw [H.out]; rfl, rfl⟩
    · have e2 : ((key.size : Int) == 32) = false := by simp; omega
      have H := Lib.hid (show (decide (key.size = 16) || decide (key.size = 32)) = false by simp [h1, h2])
      clear h1 h2
      go_enter Try.func19, Try.ntmps19
      go_wp2
      go_ret
      exact ⟨by rw [H.out]; rfl, rfl⟩

/-- the block behind i round keys. -/
def encS (key s : List Nat) (R : Nat) : Nat → List Nat
  | 0 => s
  | i + 1 => encN (keyK key) R s i

theorem Is.putObj {A : World} {g l : Nat} {t : TypeId} {cs : Array Value} {o o' : Obj} (h : Is A g t cs) (hl : A.heap[l]? = some o) (ho : o.isCells = false) : Is (A.putObj l o') g t cs := by
  have hne : g ≠ l := fun e => by subst e; rw [show A.heap[g]? = _ from h] at hl; cases hl; cases ho
  exact (World.putObj_heap_other hne).trans h
theorem Is.putFar {A : World} {g l : Nat} {t : TypeId} {cs : Array Value} {o' : Obj} (h : Is A g t cs) (hne : g ≠ l) : Is (A.putObj l o') g t cs := (World.putObj_heap_other hne).trans h
theorem belowPut {B l : Nat} {a A : World} {o' : Obj} (h : Below B a A) (hl : B ≤ l) : Below B a (A.putObj l o') :=
  ⟨h.os, h.tape, h.output, by rw [World.putObj_size]; exact h.size, fun k hk => (World.putObj_heap_other (by omega)).trans (h.block k hk)⟩
theorem koBelow {A B : World} (h : Below A.heap.size A B) : KeepsOthers A B := ⟨h.size, fun k o hk _ => (h.block k (Array.getElem?_eq_some_iff.1 hk).1).trans hk⟩
theorem koRow {A : World} {g : Nat} {t : TypeId} {cs cs' : Array Value} (h : Is A g t cs) : KeepsOthers A (A.setRow g cs') :=
  ⟨by simp, fun k o hk ho => (setRow_other A g k cs' (fun e => by subst e; rw [show A.heap[k]? = _ from h] at hk; cases hk; cases ho)).trans hk⟩
theorem keepRow (A : World) (g : Nat) (cs' : Array Value) : Keep g A (A.setRow g cs') := ⟨by simp, fun k _ hk hne _ => (setRow_other A g k cs' hne).trans hk⟩
/-- where a round of Encrypt or Decrypt stands: the schedule, the block, the round key; what was there stays. -/
structure St (V0 w : World) (s Bb B9 n h : Nat) (key : ByteArray) (S K : List Nat) (V : World) : Prop where
  iS : Is V s 54 (sch key 1 0 (.slice (some ⟨h, 0, none⟩) (n + 7) (n + 7)))
  iB : Is V Bb 60 (nA S)
  iK : Is V B9 60 (nA K)
  ko : KeepsOthers V0 V
  kp : Keep Bb V0 V
  bl : Below w.heap.size w V
section
variable {V0 w V V' : World} {s Bb B9 n h : Nat} {key : ByteArray} {S K : List Nat}
theorem St.below (st : St V0 w s Bb B9 n h key S K V) (hb : Below V.heap.size V V') : St V0 w s Bb B9 n h key S K V' :=
  ⟨st.iS.below hb st.iS.lt, st.iB.below hb st.iB.lt, st.iK.below hb st.iK.lt, st.ko.trans (koBelow hb), st.kp.trans (Keep.below hb), st.bl.trans (hb.mono st.bl.size)⟩
theorem St.store (st : St V0 w s Bb B9 n h key S K V) (hw : w.heap.size ≤ Bb) (hs : s ≠ Bb) (h9 : B9 ≠ Bb) (S' : List Nat) : St V0 w s Bb B9 n h key S' K (V.setRow Bb (nA S')) :=
  ⟨st.iS.rowFar hs _, st.iB.row _, st.iK.rowFar h9 _, st.ko.trans (koRow st.iB), st.kp.trans (keepRow _ _ _), belowRow st.bl hw _⟩
end
theorem sz16 {S : List Nat} (h : Blk S) : (Try.prog.info? 60).map (·.size) = some (nA S).size := by rw [nA_size, h.len]; exact info16
theorem szEq {S T : List Nat} (h : Blk S) (k : Blk T) : (nA S).size = (nA T).size := by rw [nA_size, nA_size, h.len, k.len]
theorem sz0 {T : List Nat} (k : Blk T) : (nA zer16).size = (nA T).size := by rw [nA_size, nA_size, k.len]; rfl
theorem encS_blk {key s : List Nat} {R : Nat} (hK : ∀ i, i ≤ R → Blk (keyK key i)) (h : Blk s) {i : Nat} (hi : i ≤ R + 1) : Blk (encS key s R i) := by
  cases i with
  | zero => exact h
  | succ i => exact encN_blk hK h i (by omega)
/-- a step of encS. -/
theorem encS_zero (key s : List Nat) (R : Nat) : encS key s R (0 + 1) = xorB (encS key s R 0) (keyK key 0) := rfl
theorem encS_inner {key s : List Nat} {R i : Nat} (h0 : 0 < i) (h1 : i < R) : encS key s R (i + 1) = xorB (mixL (shiftL (subL (encS key s R i)) 1)) (keyK key i) := by
  obtain ⟨j, rfl⟩ : ∃ j, i = j + 1 := ⟨i - 1, by omega⟩
  show rndN (keyK key (j + 1)) (decide (j + 1 < R)) (encN (keyK key) R s j) = _
  rw [show decide (j + 1 < R) = true by simpa using h1]
  rfl
theorem encS_last {key s : List Nat} {R i : Nat} (h0 : 0 < i) (h1 : ¬ i < R) : encS key s R (i + 1) = xorB (shiftL (subL (encS key s R i)) 1) (keyK key i) := by
  obtain ⟨j, rfl⟩ : ∃ j, i = j + 1 := ⟨i - 1, by omega⟩
  show rndN (keyK key (j + 1)) (decide (j + 1 < R)) (encN (keyK key) R s j) = _
  rw [show decide (j + 1 < R) = false by simpa using h1]
  rfl

set_option maxRecDepth 100000 in
set_option maxHeartbeats 1000000 in
theorem encrypt_ok (key block : ByteArray) (n : Nat) (w : World) (hk : KeyN (natL key) n) (hb : block.size = 16) :
    Calls Try.prog 13 #[.string key, .string block] w fun e w' => e = .returned (.tuple #[.string (strN (aesE (natL key) (natL block))), .int .i64 0]) ∧ Below w.heap.size w w' := by
  have hrk : ∀ w, Calls Try.prog 19 #[.string key] w fun e w' => e = .returned (.bool true) ∧ w = w' := fun w => by
    have := rightKey_any key w
    rwa [show (decide (key.size = 16) || decide (key.size = 32)) = true by have := hk.or; rw [natL_len] at this; simpa using this] at this
  have e16 : ((block.size : Int) != 16) = false := by rw [hb]; rfl
  have HRK := Lib.hid hrk
  have HK := Lib.hid hk
  have HBS := Lib.hid hb
  have HSQ := Lib.hid (fun w => squareOf_any block w hb)
  have hl16 : (natL block).length = 16 := by rw [natL_len, hb]
  have hsz : (Try.prog.info? 60).map (·.size) = some (nA (natL block)).size := by rw [nA_size, hl16]; exact info16
  have hone := nA_one (natL block)
  have HL16 := Lib.hid hl16
  have hz : #[Value.int .u8 0, .int .u8 0, .int .u8 0, .int .u8 0, .int .u8 0, .int .u8 0, .int .u8 0, .int .u8 0, .int .u8 0, .int .u8 0, .int .u8 0, .int .u8 0, .int .u8 0, .int .u8 0, .int .u8 0, .int .u8 0] = nA zer16 := rfl
  clear hk hb hrk hl16
  refine (callsIn_wide (n := 5)).1 ?_
  refine callsIn_of_wp_marks Try.func13 rfl trivial ?_ rfl
  simp only [Try.ntmps13, List.size_toArray, List.length_cons, List.length_nil, Nat.reduceAdd, Nat.reduceSub, Array.replicate_succ, Array.replicate_zero, List.push_toArray, List.append_toArray, List.nil_append, List.cons_append]
  gi_wp2_with (first
    | (refine ⟨trivial, ?_⟩; gi_at_call 19; refine (callsIn_wide.2 (HRK.out _)).mono ?_; rintro e w' ⟨rfl, rfl⟩)
    | (refine ⟨trivial, ?_⟩; gi_at_call 25; refine (callsIn_wide.2 (HSQ.out _)).mono ?_; rintro e w1 ⟨rfl, h1⟩)
    | (refine wpListIn_store_rowI rfl 60 (.tmp 7) (.tmp 21) rfl w1.heap.size (nA (natL block)) rfl rfl (heap_alloc_new w1 _) hsz (by rw [nA_size, nA_size, HL16.out]; rfl) hone ?_; rw [World.setRow_alloc_new])
    | (refine ⟨trivial, ?_⟩; gi_at_call 20; refine (inOrder_in _ _ _).mono ?_; rintro e w' ⟨rfl, rfl⟩))
  have iS0 : Is (w.alloc (.cells (sch key 0 0 (.slice none 0 0)) 54)) w.heap.size 54 (sch key 0 0 (.slice none 0 0)) := Is.new w _ _
  have hB1 : Below w.heap.size w w1 := ((Below.refl _ _).alloc (Nat.le_refl _) _).trans (h1.mono (by simp))
  have iS1 : Is w1 w.heap.size 54 (sch key 0 0 (.slice none 0 0)) := iS0.below h1 (by simp)
  have hsz1 : w.heap.size < w1.heap.size := iS1.lt
  have iS := (iS1.alloc (.cells (nA (natL block)) 60)).alloc (.cells #[.pointer (some ⟨w.heap.size, 0, none⟩)] 75)
  have iB := (Is.new w1 60 (nA (natL block))).alloc (.cells #[.pointer (some ⟨w.heap.size, 0, none⟩)] 75)
  have iP : Is ((w1.alloc (.cells (nA (natL block)) 60)).alloc (.cells #[.pointer (some ⟨w.heap.size, 0, none⟩)] 75)) (w1.heap.size + 1) 75 #[.pointer (some ⟨w.heap.size, 0, none⟩)] := heap_alloc2_new w1 _ _
  have hB0 := (hB1.alloc hB1.size (.cells (nA (natL block)) 60)).alloc (by have := hB1.size; simp; omega) (.cells #[.pointer (some ⟨w.heap.size, 0, none⟩)] 75)
  generalize ((w1.alloc (.cells (nA (natL block)) 60)).alloc (.cells #[.pointer (some ⟨w.heap.size, 0, none⟩)] 75)) = W0 at *
  obtain ⟨s, hs⟩ : ∃ s, s = w.heap.size := ⟨_, rfl⟩
  obtain ⟨Bb, hBb⟩ : ∃ Bb, Bb = w1.heap.size := ⟨_, rfl⟩
  obtain ⟨Bp, hBp⟩ : ∃ Bp, Bp = w1.heap.size + 1 := ⟨_, rfl⟩
  have q1 : s ≠ Bb := by omega
  have hsw : w.heap.size ≤ s := by omega
  have HWB := Lib.hid (show w.heap.size ≤ Bb by omega)
  rw [← hBp, ← hBb]
  rw [← hs]
  rw [← hBp] at iP
  rw [← hBb] at iB
  rw [← hs] at iS iP
  clear iS0 iS1 hB1 h1 hsz1 hs hBb hBp w1
  have HBK := Lib.hid (natL_blk HBS.out)
  have HKK := Lib.hid (fun i (hi : i ≤ n + 6) => keyK_blk HK.out.or (natL_lt key) (r := i) (by unfold rndsN; rw [HK.out.div]; exact hi))
  have hn8 : n ≤ 8 := by have := HK.out.two; omega
  have HBL := Lib.hid iB.lt
  have HSL := Lib.hid iS.lt
  have HWL := Lib.hid hB0.size
  refine wpIn_rangeMade rfl (by omega) (gf := 44) (lb := #[.pointer (some ⟨Bp, 0, none⟩)]) rfl trivial (enters_of Try.func44 (by kernel_rfl) rfl)
    (inOrder_made _ (by omega) s Bp Bb n key (.slice none 0 0) W0 HK.out iS iP q1 iB.lt) (fun _ => rfl) iS.lt
    (fun i W => ∃ h, Is W s 54 (sch key 1 0 (.slice (some ⟨h, 0, none⟩) (n + 7) (n + 7))) ∧ Is W Bb 60 (nA (encS (natL key) (natL block) (n + 6) i)) ∧ Below w.heap.size w W)
    (fun i A B hI hb => by
      obtain ⟨h, g1, g2, g3⟩ := hI
      exact ⟨h, g1.below hb g1.lt, g2.below hb g2.lt, g3.trans (hb.mono g3.size)⟩)
    (fun i A l o o' hl hlo ho hI => by
      obtain ⟨h, g1, g2, g3⟩ := hI
      exact ⟨h, g1.putObj hlo ho, g2.putObj hlo ho, belowPut g3 (by have := hB0.size; omega)⟩)
    (fun W W' hW hgr hmk => by
      obtain ⟨h, g1, g2, g3, g4⟩ := hmk
      have jB := iB.below hW iB.lt
      exact ⟨h, g1, (hgr.block Bb jB.lt (by intro e; cases e; exact q1 rfl)).trans jB, (hB0.trans (hW.mono hB0.size)).grown hgr (by have := hB0.size; have := hW.size; omega) (fun k e => by cases e; exact hsw)⟩) ?round ?done
  case round =>
    rintro l i x W hl hlW hx ⟨h, iS, iB, hB⟩
    obtain ⟨hi, rfl⟩ : i < n + 7 ∧ i = x := by
      have hlt := (List.getElem?_eq_some_iff.1 hx).1
      rw [List.length_range] at hlt
      rw [List.getElem?_range hlt] at hx
      exact ⟨hlt, Option.some.inj hx⟩
    have bS : Blk (encS (natL key) (natL block) (n + 6) i) := encS_blk HKK.out HBK.out (by omega)
    have bK : Blk (keyK (natL key) i) := HKK.out i (by omega)
    have HQ9 := Lib.hid (show W.heap.size ≠ Bb by have := iB.lt; omega)
    have HQL := Lib.hid (show l ≠ W.heap.size by omega)
    have iK : Is (W.alloc (.cells (nA (keyK (natL key) i)) 60)) W.heap.size 60 (nA (keyK (natL key) i)) := Is.new W _ _
    have hb2 : Below W.heap.size W (W.alloc (.cells (nA (keyK (natL key) i)) 60)) := (Below.refl _ _).alloc (Nat.le_refl _) _
    have hlB : Bb ≠ l := by have := HBL.out; omega
    have hlS : s ≠ l := by have := HSL.out; omega
    have hlK : W.heap.size ≠ l := by omega
    have hlw : w.heap.size ≤ l := by have := HWL.out; omega
    clear hx
    simp only [encK]
    gi_wp2_with (refine wpListIn_store_rowI rfl 60 (.tmp 9) (.tmp 24) rfl W.heap.size (nA (keyK (natL key) i)) rfl rfl (heap_alloc_new W _) (sz16 bK) (sz0 bK) (nA_one _) ?_; rw [World.setRow_alloc_new])
    refine ⟨koBelow hb2, Keep.below hb2, fun o' => ?_⟩
    have st : St ((W.alloc (.cells (nA (keyK (natL key) i)) 60)).putObj l (.loop o')) w s Bb W.heap.size n h key (encS (natL key) (natL block) (n + 6) i) (keyK (natL key) i) ((W.alloc (.cells (nA (keyK (natL key) i)) 60)).putObj l (.loop o')) :=
      ⟨(iS.below hb2 iS.lt).putFar hlS, (iB.below hb2 iB.lt).putFar hlB, iK.putFar hlK, KeepsOthers.refl _, Keep.refl _ _, belowPut (hB.trans (hb2.mono hB.size)) hlw⟩
    generalize (W.alloc (.cells (nA (keyK (natL key) i)) 60)).putObj l (.loop o') = V0 at *
    have hW9 : W.heap.size ≠ Bb := HQ9.out
    generalize W.heap.size = B9 at *
    clear iS iB iK hb2 hB hlB hlS hlK hlw
    by_cases h0 : 0 < i
    · by_cases h1 : i < n + 6
      · have e1 : decide ((0 : Int) < (i : Int)) = true := by simp; omega
        have eB : innB i (n + 6) = true := by unfold innB; simp; omega
        have HST := Lib.hid (show encS (natL key) (natL block) (n + 6) (i + 1) = xorB (mixL (shiftL (subL (encS (natL key) (natL block) (n + 6) i)) 1)) (keyK (natL key) i) by exact encS_inner h0 h1)
        generalize encS (natL key) (natL block) (n + 6) i = S at *
        generalize keyK (natL key) i = K at *
        gi_wp2_with (first
          | (refine wpListIn_load_rowI rfl 60 (.tmp 7) rfl Bb rfl st.iB Try.underlying60 rfl (sz16 bS) ?_)
          | (refine wpListIn_load_rowI rfl 60 (.tmp 9) rfl B9 rfl st.iK Try.underlying60 rfl (sz16 bK) ?_)
          | (refine ⟨trivial, ?_⟩; gi_at_call 26; refine (callsIn_wide.2 (eachByte_any 27 subN sub_fn S _ bS.len bS.lt)).mono ?_; rintro e v ⟨rfl, hb⟩; replace st := st.below hb; clear hb)
          | (refine ⟨trivial, ?_⟩; gi_at_call 28; refine (callsIn_wide.2 (shifted_any (subL S) 1 _ bS.sub.len (by omega))).mono ?_; rintro e v ⟨rfl, hb⟩; replace st := st.below hb; clear hb)
          | (refine wpListIn_store_rowI rfl 60 (.tmp 7) (.tmp 29) rfl Bb (nA (shiftL (subL S) 1)) rfl rfl st.iB (sz16 (bS.sub.shift 1)) (szEq bS (bS.sub.shift 1)) (nA_one _) ?_; replace st := st.store HWB.out q1 hW9 (shiftL (subL S) 1); replace bS : Blk (shiftL (subL S) 1) := bS.sub.shift 1)
          | (refine ⟨trivial, ?_⟩; gi_at_call 29; refine (callsIn_wide.2 (isInner_any s key (n + 6) h i _ (by omega) (by omega) st.iS)).mono ?_; rintro e v ⟨rfl, hb⟩; replace st := st.below hb; clear hb)
          | (refine ⟨trivial, ?_⟩; gi_at_call 30; refine (callsIn_wide.2 (eachColumn_any 31 mixW mix_fn _ _ bS.len bS.lt)).mono ?_; rintro e v ⟨rfl, hb⟩; replace st := st.below hb; clear hb)
          | (rw [cols_mix bS.len]; refine wpListIn_store_rowI rfl 60 (.tmp 7) (.tmp 33) rfl Bb (nA (mixL (shiftL (subL S) 1))) rfl rfl st.iB (sz16 (bS.mix)) (szEq bS (bS.mix)) (nA_one _) ?_; replace st := st.store HWB.out q1 hW9 (mixL (shiftL (subL S) 1)); replace bS : Blk (mixL (shiftL (subL S) 1)) := bS.mix)
          | (refine ⟨trivial, ?_⟩; gi_at_call 32; refine (callsIn_wide.2 (plus_any _ _ _ bS bK)).mono ?_; rintro e v ⟨rfl, hb⟩; replace st := st.below hb; clear hb)
          | (refine wpListIn_store_rowI rfl 60 (.tmp 7) (.tmp 36) rfl Bb (nA (xorB (mixL (shiftL (subL S) 1)) K)) rfl rfl st.iB (sz16 (bS.xor bK)) (szEq bS (bS.xor bK)) (nA_one _) ?_; replace st := st.store HWB.out q1 hW9 (xorB (mixL (shiftL (subL S) 1)) K); replace bS : Blk (xorB (mixL (shiftL (subL S) 1)) K) := bS.xor bK))
        exact ⟨st.ko, st.kp, ⟨h, st.iS⟩, by rw [HST.out]; exact st.iB, st.bl⟩
      · have e1 : decide ((0 : Int) < (i : Int)) = true := by simp; omega
        have eB : innB i (n + 6) = false := by unfold innB; simp; omega
        have HST := Lib.hid (show encS (natL key) (natL block) (n + 6) (i + 1) = xorB (shiftL (subL (encS (natL key) (natL block) (n + 6) i)) 1) (keyK (natL key) i) by exact encS_last h0 h1)
        generalize encS (natL key) (natL block) (n + 6) i = S at *
        generalize keyK (natL key) i = K at *
        gi_wp2_with (first
          | (refine wpListIn_load_rowI rfl 60 (.tmp 7) rfl Bb rfl st.iB Try.underlying60 rfl (sz16 bS) ?_)
          | (refine wpListIn_load_rowI rfl 60 (.tmp 9) rfl B9 rfl st.iK Try.underlying60 rfl (sz16 bK) ?_)
          | (refine ⟨trivial, ?_⟩; gi_at_call 26; refine (callsIn_wide.2 (eachByte_any 27 subN sub_fn S _ bS.len bS.lt)).mono ?_; rintro e v ⟨rfl, hb⟩; replace st := st.below hb; clear hb)
          | (refine ⟨trivial, ?_⟩; gi_at_call 28; refine (callsIn_wide.2 (shifted_any (subL S) 1 _ bS.sub.len (by omega))).mono ?_; rintro e v ⟨rfl, hb⟩; replace st := st.below hb; clear hb)
          | (refine wpListIn_store_rowI rfl 60 (.tmp 7) (.tmp 29) rfl Bb (nA (shiftL (subL S) 1)) rfl rfl st.iB (sz16 (bS.sub.shift 1)) (szEq bS (bS.sub.shift 1)) (nA_one _) ?_; replace st := st.store HWB.out q1 hW9 (shiftL (subL S) 1); replace bS : Blk (shiftL (subL S) 1) := bS.sub.shift 1)
          | (refine ⟨trivial, ?_⟩; gi_at_call 29; refine (callsIn_wide.2 (isInner_any s key (n + 6) h i _ (by omega) (by omega) st.iS)).mono ?_; rintro e v ⟨rfl, hb⟩; replace st := st.below hb; clear hb)
          | (refine ⟨trivial, ?_⟩; gi_at_call 32; refine (callsIn_wide.2 (plus_any _ _ _ bS bK)).mono ?_; rintro e v ⟨rfl, hb⟩; replace st := st.below hb; clear hb)
          | (refine wpListIn_store_rowI rfl 60 (.tmp 7) (.tmp 36) rfl Bb (nA (xorB (shiftL (subL S) 1) K)) rfl rfl st.iB (sz16 (bS.xor bK)) (szEq bS (bS.xor bK)) (nA_one _) ?_; replace st := st.store HWB.out q1 hW9 (xorB (shiftL (subL S) 1) K); replace bS : Blk (xorB (shiftL (subL S) 1) K) := bS.xor bK))
        exact ⟨st.ko, st.kp, ⟨h, st.iS⟩, by rw [HST.out]; exact st.iB, st.bl⟩
    · have e1 : decide ((0 : Int) < (i : Int)) = false := by simp; omega
      have eB : innB i (n + 6) = false := by unfold innB; simp; omega
      have HST := Lib.hid (show encS (natL key) (natL block) (n + 6) (i + 1) = xorB (encS (natL key) (natL block) (n + 6) i) (keyK (natL key) i) by (have hi0 : i = 0 := (by omega)); subst hi0; rfl)
      generalize encS (natL key) (natL block) (n + 6) i = S at *
      generalize keyK (natL key) i = K at *
      gi_wp2_with (first
        | (refine wpListIn_load_rowI rfl 60 (.tmp 7) rfl Bb rfl st.iB Try.underlying60 rfl (sz16 bS) ?_)
        | (refine wpListIn_load_rowI rfl 60 (.tmp 9) rfl B9 rfl st.iK Try.underlying60 rfl (sz16 bK) ?_)
        | (refine ⟨trivial, ?_⟩; gi_at_call 29; refine (callsIn_wide.2 (isInner_any s key (n + 6) h i _ (by omega) (by omega) st.iS)).mono ?_; rintro e v ⟨rfl, hb⟩; replace st := st.below hb; clear hb)
        | (refine ⟨trivial, ?_⟩; gi_at_call 32; refine (callsIn_wide.2 (plus_any _ _ _ bS bK)).mono ?_; rintro e v ⟨rfl, hb⟩; replace st := st.below hb; clear hb)
        | (refine wpListIn_store_rowI rfl 60 (.tmp 7) (.tmp 36) rfl Bb (nA (xorB (S) K)) rfl rfl st.iB (sz16 (bS.xor bK)) (szEq bS (bS.xor bK)) (nA_one _) ?_; replace st := st.store HWB.out q1 hW9 (xorB (S) K); replace bS : Blk (xorB (S) K) := bS.xor bK))
      exact ⟨st.ko, st.kp, ⟨h, st.iS⟩, by rw [HST.out]; exact st.iB, st.bl⟩
  case done =>
    rintro D W hD ⟨h, iS, iB, hB⟩ hK
    rw [List.length_range] at iB
    have hfin : encS (natL key) (natL block) (n + 6) (n + 7) = aesE (natL key) (natL block) := by
      show encN _ _ _ (n + 6) = _
      unfold aesE encB rndsN
      rw [HK.out.div]
    rw [hfin] at iB
    have bE := aesE_blk HK.out.or (natL_lt key) HBK.out
    have HT := Lib.hid (fun w => text_any (aesE (natL key) (natL block)) w bE.len)
    generalize hE : aesE (natL key) (natL block) = E at *
    have HE := Lib.hid hE
    clear hE hfin
    gi_wp2_with (first
      | (refine wpListIn_load_rowI rfl 60 (.tmp 7) rfl Bb rfl iB Try.underlying60 rfl (sz16 bE) ?_)
      | (refine ⟨trivial, ?_⟩; gi_at_call 21; refine (callsIn_wide.2 (HT.out _)).mono ?_; rintro e v ⟨rfl, hb⟩))
    have hK2 : v.heap[D]? = some (.deferred (some [])) := (hb.block D (Array.getElem?_eq_some_iff.1 hK).1).trans hK
    have hB2 := hB.trans (hb.mono hB.size)
    refine ⟨by simp, .inl ⟨_, _, rfl, run_takeDeferred hK2, ?_⟩⟩
    refine ⟨.tuple #[.string (strN E), .int .i64 0], by simp [results, Try.results13, go_sem], by rw [HE.out], ?_⟩
    exact belowPut hB2 (by have := HWL.out; omega)
end Go.Proofs.Ytjfeloimlgfocaa
