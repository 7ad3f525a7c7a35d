/-
  Contract of aes.Decrypt, without error. Conditions: a key of 16 or 32 bytes, a block of 16.
-/
import Derived.Test.YtjfeloimlgfocaaAesL
namespace Go.Proofs.Ytjfeloimlgfocaa
open Go.RowKit Go.Shelf
attribute [local go_sem] Oper.semAt_some

/-- the block of which i round keys are undone. -/
def decS (key s : List Nat) (R i : Nat) : List Nat := if i ≤ R then decN (keyK key) R s i else decB (keyK key) R s
theorem decS_blk {key s : List Nat} {R i : Nat} (hK : ∀ i, i ≤ R → Blk (keyK key i)) (h : Blk s) : Blk (decS key s R i) := by
  unfold decS
  split
  · exact decN_blk hK h i ‹_›
  · exact decB_blk hK h
theorem decS_inner {key s : List Nat} {R i r : Nat} (h0 : 0 < r) (h1 : r < R) (hr : r + i = R) : decS key s R (i + 1) = backL (shiftL (unmixL (xorB (decS key s R i) (keyK key r))) 3) := by
  unfold decS
  rw [if_pos (by omega), if_pos (by omega)]
  show undN (keyK key (R - i)) (decide (R - i < R)) _ = _
  rw [show R - i = r by omega, show decide (r < R) = true by simpa using h1]
  rfl
theorem decS_first {key s : List Nat} {R i r : Nat} (h0 : 0 < r) (h1 : ¬ r < R) (hr : r + i = R) : decS key s R (i + 1) = backL (shiftL (xorB (decS key s R i) (keyK key r)) 3) := by
  unfold decS
  rw [if_pos (by omega), if_pos (by omega)]
  show undN (keyK key (R - i)) (decide (R - i < R)) _ = _
  rw [show R - i = r by omega, show decide (r < R) = false by simpa using h1]
  rfl
theorem decS_last {key s : List Nat} {R i r : Nat} (h0 : r = 0) (hr : i = R) : decS key s R (i + 1) = xorB (decS key s R i) (keyK key r) := by
  subst h0 hr
  unfold decS
  rw [if_neg (by omega), if_pos (by omega)]
  rfl

set_option maxRecDepth 100000 in
set_option maxHeartbeats 1000000 in
theorem decrypt_ok (key block : ByteArray) (n : Nat) (w : World) (hk : KeyN (natL key) n) (hb : block.size = 16) :
    Calls Try.prog 15 #[.string key, .string block] w fun e w' => e = .returned (.tuple #[.string (strN (aesD (natL key) (natL block))), .int .i64 0]) ∧ Below w.heap.size w w' := by
  have hrk : ∀ w, Calls Try.prog 19 #[.string key] w fun e w' => e = .returned (.bool true) ∧ w = w' := fun w => by
    have := rightKey_any key w
    rwa [show (decide (key.size = 16) || decide (key.size = 32)) = true by have := hk.or; rw [natL_len] at this; simpa using this] at this
  have e16 : ((block.size : Int) != 16) = false := by rw [hb]; rfl
  have HRK := Lib.hid hrk
  have HK := Lib.hid hk
  have HBS := Lib.hid hb
  have HSQ := Lib.hid (fun w => squareOf_any block w hb)
  have hl16 : (natL block).length = 16 := by rw [natL_len, hb]
  have hsz : (Try.prog.info? 60).map (·.size) = some (nA (natL block)).size := by rw [nA_size, hl16]; exact info16
  have hone := nA_one (natL block)
  have HL16 := Lib.hid hl16
  have hz : #[Value.int .u8 0, .int .u8 0, .int .u8 0, .int .u8 0, .int .u8 0, .int .u8 0, .int .u8 0, .int .u8 0, .int .u8 0, .int .u8 0, .int .u8 0, .int .u8 0, .int .u8 0, .int .u8 0, .int .u8 0, .int .u8 0] = nA zer16 := rfl
  clear hk hb hrk hl16
  refine (callsIn_wide (n := 5)).1 ?_
  refine callsIn_of_wp_marks Try.func15 rfl trivial ?_ rfl
  simp only [Try.ntmps15, List.size_toArray, List.length_cons, List.length_nil, Nat.reduceAdd, Nat.reduceSub, Array.replicate_succ, Array.replicate_zero, List.push_toArray, List.append_toArray, List.nil_append, List.cons_append]
  gi_wp2_with (first
    | (refine ⟨trivial, ?_⟩; gi_at_call 19; refine (callsIn_wide.2 (HRK.out _)).mono ?_; rintro e w' ⟨rfl, rfl⟩)
    | (refine ⟨trivial, ?_⟩; gi_at_call 25; refine (callsIn_wide.2 (HSQ.out _)).mono ?_; rintro e w1 ⟨rfl, h1⟩)
    | (refine wpListIn_store_rowI rfl 60 (.tmp 7) (.tmp 21) rfl w1.heap.size (nA (natL block)) rfl rfl (heap_alloc_new w1 _) hsz (by rw [nA_size, nA_size, HL16.out]; rfl) hone ?_; rw [World.setRow_alloc_new])
    | (refine ⟨trivial, ?_⟩; gi_at_call 34; refine (turnedAbout_in _ _ _).mono ?_; rintro e w' ⟨rfl, rfl⟩))
  have iS0 : Is (w.alloc (.cells (sch key 0 0 (.slice none 0 0)) 54)) w.heap.size 54 (sch key 0 0 (.slice none 0 0)) := Is.new w _ _
  have hB1 : Below w.heap.size w w1 := ((Below.refl _ _).alloc (Nat.le_refl _) _).trans (h1.mono (by simp))
  have iS1 : Is w1 w.heap.size 54 (sch key 0 0 (.slice none 0 0)) := iS0.below h1 (by simp)
  have hsz1 : w.heap.size < w1.heap.size := iS1.lt
  have iS := (iS1.alloc (.cells (nA (natL block)) 60)).alloc (.cells #[.pointer (some ⟨w.heap.size, 0, none⟩)] 75)
  have iB := (Is.new w1 60 (nA (natL block))).alloc (.cells #[.pointer (some ⟨w.heap.size, 0, none⟩)] 75)
  have iP : Is ((w1.alloc (.cells (nA (natL block)) 60)).alloc (.cells #[.pointer (some ⟨w.heap.size, 0, none⟩)] 75)) (w1.heap.size + 1) 75 #[.pointer (some ⟨w.heap.size, 0, none⟩)] := heap_alloc2_new w1 _ _
  have hB0 := (hB1.alloc hB1.size (.cells (nA (natL block)) 60)).alloc (by have := hB1.size; simp; omega) (.cells #[.pointer (some ⟨w.heap.size, 0, none⟩)] 75)
  generalize ((w1.alloc (.cells (nA (natL block)) 60)).alloc (.cells #[.pointer (some ⟨w.heap.size, 0, none⟩)] 75)) = W0 at *
  obtain ⟨s, hs⟩ : ∃ s, s = w.heap.size := ⟨_, rfl⟩
  obtain ⟨Bb, hBb⟩ : ∃ Bb, Bb = w1.heap.size := ⟨_, rfl⟩
  obtain ⟨Bp, hBp⟩ : ∃ Bp, Bp = w1.heap.size + 1 := ⟨_, rfl⟩
  have q1 : s ≠ Bb := by omega
  have hsw : w.heap.size ≤ s := by omega
  have HWB := Lib.hid (show w.heap.size ≤ Bb by omega)
  rw [← hBp, ← hBb]
  rw [← hs]
  rw [← hBp] at iP
  rw [← hBb] at iB
  rw [← hs] at iS iP
  clear iS0 iS1 hB1 h1 hsz1 hs hBb hBp w1
  have HBK := Lib.hid (natL_blk HBS.out)
  have HKK := Lib.hid (fun i (hi : i ≤ n + 6) => keyK_blk HK.out.or (natL_lt key) (r := i) (by unfold rndsN; rw [HK.out.div]; exact hi))
  have hn8 : n ≤ 8 := by have := HK.out.two; omega
  have HBL := Lib.hid iB.lt
  have HSL := Lib.hid iS.lt
  have HWL := Lib.hid hB0.size
  refine wpIn_rangeMade rfl (by omega) (gf := 52) (lb := #[.pointer (some ⟨Bp, 0, none⟩)]) rfl trivial (enters_of Try.func52 (by kernel_rfl) rfl)
    (turnedAbout_made _ (by omega) s Bp Bb n key (.slice none 0 0) W0 HK.out iS iP q1 iB.lt) (fun _ => rfl) iS.lt
    (fun i W => ∃ h, Is W s 54 (sch key 1 0 (.slice (some ⟨h, 0, none⟩) (n + 7) (n + 7))) ∧ Is W Bb 60 (nA (decS (natL key) (natL block) (n + 6) i)) ∧ Below w.heap.size w W)
    (fun i A B hI hb => by
      obtain ⟨h, g1, g2, g3⟩ := hI
      exact ⟨h, g1.below hb g1.lt, g2.below hb g2.lt, g3.trans (hb.mono g3.size)⟩)
    (fun i A l o o' hl hlo ho hI => by
      obtain ⟨h, g1, g2, g3⟩ := hI
      exact ⟨h, g1.putObj hlo ho, g2.putObj hlo ho, belowPut g3 (by have := hB0.size; omega)⟩)
    (fun W W' hW hgr hmk => by
      obtain ⟨h, g1, g2, g3, g4⟩ := hmk
      have jB := iB.below hW iB.lt
      exact ⟨h, g1, (hgr.block Bb jB.lt (by intro e; cases e; exact q1 rfl)).trans jB, (hB0.trans (hW.mono hB0.size)).grown hgr (by have := hB0.size; have := hW.size; omega) (fun k e => by cases e; exact hsw)⟩) ?round ?done
  case round =>
    rintro l i r W hl hlW hx ⟨h, iS, iB, hB⟩
    obtain ⟨hi, hr1, hr2⟩ : i < n + 7 ∧ r + i ≤ n + 6 ∧ n + 6 ≤ r + i := by
      have hlt := (List.getElem?_eq_some_iff.1 hx).1
      rw [List.length_reverse, List.length_range] at hlt
      rw [List.getElem?_reverse (by rw [List.length_range]; exact hlt), List.length_range, List.getElem?_range (by omega)] at hx
      have := Option.some.inj hx
      exact ⟨hlt, by omega, by omega⟩
    have bS : Blk (decS (natL key) (natL block) (n + 6) i) := decS_blk HKK.out HBK.out
    have bK : Blk (keyK (natL key) r) := HKK.out r (by omega)
    have HQ9 := Lib.hid (show W.heap.size ≠ Bb by have := iB.lt; omega)
    have iK : Is (W.alloc (.cells (nA (keyK (natL key) r)) 60)) W.heap.size 60 (nA (keyK (natL key) r)) := Is.new W _ _
    have hb2 : Below W.heap.size W (W.alloc (.cells (nA (keyK (natL key) r)) 60)) := (Below.refl _ _).alloc (Nat.le_refl _) _
    have hlB : Bb ≠ l := by have := HBL.out; omega
    have hlS : s ≠ l := by have := HSL.out; omega
    have hlK : W.heap.size ≠ l := by omega
    have hlw : w.heap.size ≤ l := by have := HWL.out; omega
    clear hx
    simp only [encK]
    gi_wp2_with (refine wpListIn_store_rowI rfl 60 (.tmp 9) (.tmp 24) rfl W.heap.size (nA (keyK (natL key) r)) rfl rfl (heap_alloc_new W _) (sz16 bK) (sz0 bK) (nA_one _) ?_; rw [World.setRow_alloc_new])
    refine ⟨koBelow hb2, Keep.below hb2, fun o' => ?_⟩
    have st : St ((W.alloc (.cells (nA (keyK (natL key) r)) 60)).putObj l (.loop o')) w s Bb W.heap.size n h key (decS (natL key) (natL block) (n + 6) i) (keyK (natL key) r) ((W.alloc (.cells (nA (keyK (natL key) r)) 60)).putObj l (.loop o')) :=
      ⟨(iS.below hb2 iS.lt).putFar hlS, (iB.below hb2 iB.lt).putFar hlB, iK.putFar hlK, KeepsOthers.refl _, Keep.refl _ _, belowPut (hB.trans (hb2.mono hB.size)) hlw⟩
    generalize (W.alloc (.cells (nA (keyK (natL key) r)) 60)).putObj l (.loop o') = V0 at *
    have hW9 : W.heap.size ≠ Bb := HQ9.out
    generalize W.heap.size = B9 at *
    clear iS iB iK hb2 hB hlB hlS hlK hlw
    by_cases h0 : 0 < r
    · by_cases h1 : r < n + 6
      · have e1 : decide ((0 : Int) < (r : Int)) = true := by simp; omega
        have eB : innB r (n + 6) = true := by unfold innB; simp; omega
        have HST := Lib.hid (show decS (natL key) (natL block) (n + 6) (i + 1) = backL (shiftL (unmixL (xorB (decS (natL key) (natL block) (n + 6) i) (keyK (natL key) r))) 3) by exact decS_inner h0 h1 (by omega))
        generalize decS (natL key) (natL block) (n + 6) i = S at *
        generalize keyK (natL key) r = K at *
        gi_wp2_with (first
          | (refine wpListIn_load_rowI rfl 60 (.tmp 7) rfl Bb rfl st.iB Try.underlying60 rfl (sz16 bS) ?_)
          | (refine wpListIn_load_rowI rfl 60 (.tmp 9) rfl B9 rfl st.iK Try.underlying60 rfl (sz16 bK) ?_)
          | (refine ⟨trivial, ?_⟩; gi_at_call 32; refine (callsIn_wide.2 (plus_any _ _ _ bS bK)).mono ?_; rintro e v ⟨rfl, hb⟩; replace st := st.below hb; clear hb)
          | (refine wpListIn_store_rowI rfl 60 (.tmp 7) (.tmp 27) rfl Bb (nA (xorB S K)) rfl rfl st.iB (sz16 (bS.xor bK)) (szEq bS (bS.xor bK)) (nA_one _) ?_; replace st := st.store HWB.out q1 hW9 (xorB S K); replace bS : Blk (xorB S K) := bS.xor bK)
          | (refine ⟨trivial, ?_⟩; gi_at_call 29; refine (callsIn_wide.2 (isInner_any s key (n + 6) h r _ (by omega) (by omega) st.iS)).mono ?_; rintro e v ⟨rfl, hb⟩; replace st := st.below hb; clear hb)
          | (refine ⟨trivial, ?_⟩; gi_at_call 30; refine (callsIn_wide.2 (eachColumn_any 35 unmW unmix_fn _ _ bS.len bS.lt)).mono ?_; rintro e v ⟨rfl, hb⟩; replace st := st.below hb; clear hb)
          | (rw [cols_unmix bS.len]; refine wpListIn_store_rowI rfl 60 (.tmp 7) (.tmp 31) rfl Bb (nA (unmixL (xorB S K))) rfl rfl st.iB (sz16 (bS.unmix)) (szEq bS (bS.unmix)) (nA_one _) ?_; replace st := st.store HWB.out q1 hW9 (unmixL (xorB S K)); replace bS : Blk (unmixL (xorB S K)) := bS.unmix)
          | (refine ⟨trivial, ?_⟩; gi_at_call 28; refine (callsIn_wide.2 (shifted_any (unmixL (xorB S K)) 3 _ bS.len (by omega))).mono ?_; rintro e v ⟨rfl, hb⟩; replace st := st.below hb; clear hb)
          | (refine ⟨trivial, ?_⟩; gi_at_call 26; refine (callsIn_wide.2 (eachByte_any 36 backN back_fn (shiftL (unmixL (xorB S K)) 3) _ (bS.shift 3).len (bS.shift 3).lt)).mono ?_; rintro e v ⟨rfl, hb⟩; replace st := st.below hb; clear hb)
          | (refine wpListIn_store_rowI rfl 60 (.tmp 7) (.tmp 36) rfl Bb (nA (backL (shiftL (unmixL (xorB S K)) 3))) rfl rfl st.iB (sz16 ((bS.shift 3).back)) (szEq bS ((bS.shift 3).back)) (nA_one _) ?_; replace st := st.store HWB.out q1 hW9 (backL (shiftL (unmixL (xorB S K)) 3)); replace bS : Blk (backL (shiftL (unmixL (xorB S K)) 3)) := (bS.shift 3).back))
        exact ⟨st.ko, st.kp, ⟨h, st.iS⟩, by rw [HST.out]; exact st.iB, st.bl⟩
      · have e1 : decide ((0 : Int) < (r : Int)) = true := by simp; omega
        have eB : innB r (n + 6) = false := by unfold innB; simp; omega
        have HST := Lib.hid (show decS (natL key) (natL block) (n + 6) (i + 1) = backL (shiftL (xorB (decS (natL key) (natL block) (n + 6) i) (keyK (natL key) r)) 3) by exact decS_first h0 h1 (by omega))
        generalize decS (natL key) (natL block) (n + 6) i = S at *
        generalize keyK (natL key) r = K at *
        gi_wp2_with (first
          | (refine wpListIn_load_rowI rfl 60 (.tmp 7) rfl Bb rfl st.iB Try.underlying60 rfl (sz16 bS) ?_)
          | (refine wpListIn_load_rowI rfl 60 (.tmp 9) rfl B9 rfl st.iK Try.underlying60 rfl (sz16 bK) ?_)
          | (refine ⟨trivial, ?_⟩; gi_at_call 32; refine (callsIn_wide.2 (plus_any _ _ _ bS bK)).mono ?_; rintro e v ⟨rfl, hb⟩; replace st := st.below hb; clear hb)
          | (refine wpListIn_store_rowI rfl 60 (.tmp 7) (.tmp 27) rfl Bb (nA (xorB S K)) rfl rfl st.iB (sz16 (bS.xor bK)) (szEq bS (bS.xor bK)) (nA_one _) ?_; replace st := st.store HWB.out q1 hW9 (xorB S K); replace bS : Blk (xorB S K) := bS.xor bK)
          | (refine ⟨trivial, ?_⟩; gi_at_call 29; refine (callsIn_wide.2 (isInner_any s key (n + 6) h r _ (by omega) (by omega) st.iS)).mono ?_; rintro e v ⟨rfl, hb⟩; replace st := st.below hb; clear hb)
          | (refine ⟨trivial, ?_⟩; gi_at_call 28; refine (callsIn_wide.2 (shifted_any (xorB S K) 3 _ bS.len (by omega))).mono ?_; rintro e v ⟨rfl, hb⟩; replace st := st.below hb; clear hb)
          | (refine ⟨trivial, ?_⟩; gi_at_call 26; refine (callsIn_wide.2 (eachByte_any 36 backN back_fn (shiftL (xorB S K) 3) _ (bS.shift 3).len (bS.shift 3).lt)).mono ?_; rintro e v ⟨rfl, hb⟩; replace st := st.below hb; clear hb)
          | (refine wpListIn_store_rowI rfl 60 (.tmp 7) (.tmp 36) rfl Bb (nA (backL (shiftL (xorB S K) 3))) rfl rfl st.iB (sz16 ((bS.shift 3).back)) (szEq bS ((bS.shift 3).back)) (nA_one _) ?_; replace st := st.store HWB.out q1 hW9 (backL (shiftL (xorB S K) 3)); replace bS : Blk (backL (shiftL (xorB S K) 3)) := (bS.shift 3).back))
        exact ⟨st.ko, st.kp, ⟨h, st.iS⟩, by rw [HST.out]; exact st.iB, st.bl⟩
    · have e1 : decide ((0 : Int) < (r : Int)) = false := by simp; omega
      have eB : innB r (n + 6) = false := by unfold innB; simp; omega
      have HST := Lib.hid (show decS (natL key) (natL block) (n + 6) (i + 1) = xorB (decS (natL key) (natL block) (n + 6) i) (keyK (natL key) r) by exact decS_last (by omega) (by omega))
      generalize decS (natL key) (natL block) (n + 6) i = S at *
      generalize keyK (natL key) r = K at *
      gi_wp2_with (first
        | (refine wpListIn_load_rowI rfl 60 (.tmp 7) rfl Bb rfl st.iB Try.underlying60 rfl (sz16 bS) ?_)
        | (refine wpListIn_load_rowI rfl 60 (.tmp 9) rfl B9 rfl st.iK Try.underlying60 rfl (sz16 bK) ?_)
        | (refine ⟨trivial, ?_⟩; gi_at_call 32; refine (callsIn_wide.2 (plus_any _ _ _ bS bK)).mono ?_; rintro e v ⟨rfl, hb⟩; replace st := st.below hb; clear hb)
        | (refine wpListIn_store_rowI rfl 60 (.tmp 7) (.tmp 27) rfl Bb (nA (xorB S K)) rfl rfl st.iB (sz16 (bS.xor bK)) (szEq bS (bS.xor bK)) (nA_one _) ?_; replace st := st.store HWB.out q1 hW9 (xorB S K); replace bS : Blk (xorB S K) := bS.xor bK)
        | (refine ⟨trivial, ?_⟩; gi_at_call 29; refine (callsIn_wide.2 (isInner_any s key (n + 6) h r _ (by omega) (by omega) st.iS)).mono ?_; rintro e v ⟨rfl, hb⟩; replace st := st.below hb; clear hb))
      exact ⟨st.ko, st.kp, ⟨h, st.iS⟩, by rw [HST.out]; exact st.iB, st.bl⟩
  case done =>
    rintro D W hD ⟨h, iS, iB, hB⟩ hK
    rw [List.length_reverse, List.length_range] at iB
    have hfin : decS (natL key) (natL block) (n + 6) (n + 7) = aesD (natL key) (natL block) := by
      unfold decS aesD rndsN
      rw [if_neg (by omega), HK.out.div]
    rw [hfin] at iB
    have bE := aesD_blk HK.out.or (natL_lt key) HBK.out
    have HT := Lib.hid (fun w => text_any (aesD (natL key) (natL block)) w bE.len)
    generalize hE : aesD (natL key) (natL block) = E at *
    have HE := Lib.hid hE
    clear hE hfin
    gi_wp2_with (first
      | (refine wpListIn_load_rowI rfl 60 (.tmp 7) rfl Bb rfl iB Try.underlying60 rfl (sz16 bE) ?_)
      | (refine ⟨trivial, ?_⟩; gi_at_call 21; refine (callsIn_wide.2 (HT.out _)).mono ?_; rintro e v ⟨rfl, hb⟩))
    have hK2 : v.heap[D]? = some (.deferred (some [])) := (hb.block D (Array.getElem?_eq_some_iff.1 hK).1).trans hK
    have hB2 := hB.trans (hb.mono hB.size)
    refine ⟨by simp, .inl ⟨_, _, rfl, run_takeDeferred hK2, ?_⟩⟩
    refine ⟨.tuple #[.string (strN E), .int .i64 0], by simp [results, Try.results15, go_sem], by rw [HE.out], ?_⟩
    exact belowPut hB2 (by have := HWL.out; omega)
end Go.Proofs.Ytjfeloimlgfocaa
