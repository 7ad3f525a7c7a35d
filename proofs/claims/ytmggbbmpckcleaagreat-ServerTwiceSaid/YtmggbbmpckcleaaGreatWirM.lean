import Derived.Test.YtmggbbmpckcleaaGreatWirL
set_option maxRecDepth 100000
set_option maxHeartbeats 16000000
namespace Go.Proofs.YtmggbbmpckcleaaGreat
open Go.RowKit Go.Shelf
def rd11 (k : Int) (nl nc : Nat) (a b d : Bool) : Bool :=
 decide (1 ≤ k) && (decide (k ≤ 4) && (a && (b && (d && (if k = 1 then decide (nc = nl) else if k = 4 then decide (nc = 0) && decide (nl = 0) else decide (nc = 0))))))
theorem dright_any11 (k : Int) (A A2 : Option Addr) (c c2 : Nat) (L C : List ByteArray) (w : World) (hl : L.length ≤ 9223372036854775807) (hl2 : C.length ≤ 9223372036854775807) (hc : InV w A (tL10 L)) (hc2 : InV w A2 (tL10 C)) :
  Calls Tryz.prog 35 #[.agg #[.int .i64 k, .slice A L.length c, .slice A2 C.length c2]] w fun e w' => e = .returned (.bool (right11 ⟨k, L, C⟩)) ∧ Below w.heap.size w w' := by
 obtain ⟨W1, hW1⟩ : ∃ W1, W1 = w.alloc (.cells #[.int .i64 k, .slice A L.length c, .slice A2 C.length c2] 26) := ⟨_, rfl⟩
 have iq : Is W1 w.heap.size 26 #[.int .i64 k, .slice A L.length c, .slice A2 C.length c2] := by rw [hW1]; exact Is.new _ _ _
 have hB : Below w.heap.size w W1 := by rw [hW1]; exact (Below.refl _ _).alloc (Nat.le_refl _) _
 have P1 := sized_any11 A c L 16 false W1 hl (hc.keep hB)
 have P2 := sized_any11 A2 c2 C 40 false W1 hl2 (hc2.keep hB)
 rw [show ((16 : Nat) : Int) = 16 from rfl] at P1
 rw [show ((40 : Nat) : Int) = 40 from rfl] at P2
 have H1 := Lib.hid P1
 have H2 := Lib.hid P2
 have H3 := Lib.hid (once_any11 A c L W1 hl (hc.keep hB))
 have c0 : W1.cell? ⟨w.heap.size, 0, none⟩ = some (.int .i64 k) := iq.cell 0
 have c1 : W1.cell? ⟨w.heap.size, 1, none⟩ = some (.slice A L.length c) := iq.cell 1
 have c2' : W1.cell? ⟨w.heap.size, 2, none⟩ = some (.slice A2 C.length c2) := iq.cell 2
 have HR : Hid (right11 ⟨k, L, C⟩ = rd11 k L.length C.length (szd11 L 16 false) (szd11 C 40 false) (decide L.Nodup)) := Lib.hid rfl
 generalize right11 ⟨k, L, C⟩ = R at *
 generalize szd11 L 16 false = a at *
 generalize szd11 C 40 false = b at *
 generalize decide L.Nodup = d at *
 have IQ := Lib.hid iq
 clear hc hc2 iq P1 P2
 generalize L.length = nl at *
 generalize C.length = nc at *
 go_enter Tryz.func35, Tryz.ntmps35
 by_cases hk1 : k < 1
 ·
  go_wp2_with fail
  rw [← hW1]
  clear hW1
  go_wp2
  go_ret
  exact ⟨by rw [HR.out, rd11, decide_eq_false (show ¬ 1 ≤ k by omega)]; rfl, hB⟩
 by_cases hk4 : 4 < k
 ·
  go_wp2_with fail
  rw [← hW1]
  clear hW1
  go_wp2
  go_ret
  exact ⟨by rw [HR.out, rd11, decide_eq_false (show ¬ k ≤ 4 by omega), Bool.false_and, Bool.and_false]; rfl, hB⟩
 rw [rd11, decide_eq_true (show 1 ≤ k by omega), decide_eq_true (show k ≤ 4 by omega), Bool.true_and, Bool.true_and] at HR
 go_wp2_with fail
 rw [← hW1]
 clear hW1
 refine H1.out.mono ?_
 rintro e w' ⟨rfl, rfl⟩
 cases a with
 | false =>
  go_wp2
  go_ret
  exact ⟨by rw [HR.out]; rfl, hB⟩
 | true =>
  rw [Bool.true_and] at HR
  go_wp2_with fail
  refine H2.out.mono ?_
  rintro e w' ⟨rfl, rfl⟩
  cases b with
  | false =>
   go_wp2
   go_ret
   exact ⟨by rw [HR.out]; rfl, hB⟩
  | true =>
   rw [Bool.true_and] at HR
   go_wp2_with fail
   refine H3.out.mono ?_
   rintro e W2 ⟨rfl, hb⟩
   have iq2 := IQ.out.below hb IQ.out.lt
   have hB2 := hB.trans (hb.mono hB.size)
   have d0 : W2.cell? ⟨w.heap.size, 0, none⟩ = some (.int .i64 k) := iq2.cell 0
   have d1 : W2.cell? ⟨w.heap.size, 1, none⟩ = some (.slice A nl c) := iq2.cell 1
   have d2 : W2.cell? ⟨w.heap.size, 2, none⟩ = some (.slice A2 nc c2) := iq2.cell 2
   clear c0 c1 c2' hb hB iq2
   cases d with
   | false =>
    go_wp2
    go_ret
    exact ⟨by rw [HR.out]; rfl, hB2⟩
   | true =>
    rw [Bool.true_and] at HR
    by_cases h1 : k = 1
    ·
     subst h1
     rw [if_pos rfl] at HR
     by_cases hz : (nc : Int) = (nl : Int)
     ·
      go_wp2
      go_ret
      exact ⟨by rw [HR.out, decide_eq_true (show nc = nl by omega)]; rfl, hB2⟩
     ·
      have hz2 : ((nc : Int) == (nl : Int)) = false := by simpa using hz
      have HZ := Lib.hid hz2
      clear hz2
      go_wp2
      go_ret
      exact ⟨by rw [HR.out, decide_eq_false (show ¬ nc = nl by omega)]; exact congrArg (fun b => Ending.returned (Value.bool b)) HZ.out, hB2⟩
    ·
     rw [if_neg h1] at HR
     by_cases h4 : k = 4
     ·
      subst h4
      rw [if_pos rfl] at HR
      by_cases hz : (nc : Int) = 0
      ·
       by_cases hy : (nl : Int) = 0
       ·
        go_wp2
        go_ret
        exact ⟨by rw [HR.out, decide_eq_true (show nc = 0 by omega), decide_eq_true (show nl = 0 by omega)]; rfl, hB2⟩
       ·
        have hz2 : ((nl : Int) == 0) = false := by simpa using hy
        have HZ := Lib.hid hz2
        clear hz2
        go_wp2
        go_ret
        exact ⟨by rw [HR.out, decide_eq_true (show nc = 0 by omega), decide_eq_false (show ¬ nl = 0 by omega)]; exact congrArg (fun b => Ending.returned (Value.bool b)) HZ.out, hB2⟩
      ·
       have hz2 : ((nc : Int) == 0) = false := by simpa using hz
       rw [decide_eq_false (show ¬ nc = 0 by omega), Bool.false_and] at HR
       go_wp2
       go_ret
       exact ⟨by rw [HR.out]; rfl, hB2⟩
     ·
      rw [if_neg h4] at HR
      by_cases hz : (nc : Int) = 0
      ·
       go_wp2
       go_ret
       exact ⟨by rw [HR.out, decide_eq_true (show nc = 0 by omega)]; rfl, hB2⟩
      ·
       have hz2 : ((nc : Int) == 0) = false := by simpa using hz
       have HZ := Lib.hid hz2
       clear hz2
       go_wp2
       go_ret
       exact ⟨by rw [HR.out, decide_eq_false (show ¬ nc = 0 by omega)]; exact congrArg (fun b => Ending.returned (Value.bool b)) HZ.out, hB2⟩
end Go.Proofs.YtmggbbmpckcleaaGreat
