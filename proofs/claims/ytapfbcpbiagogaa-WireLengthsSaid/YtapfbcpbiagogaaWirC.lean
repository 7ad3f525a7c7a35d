/-
  Contracts of wire.requestMayBe and responseMayBe: the plain right11 and may11.
-/
import Derived.Test.YtapfbcpbiagogaaWirB
namespace Go.Proofs.Ytapfbcpbiagogaa
open Go.RowKit Go.Shelf

/-- the parts of what may be. -/
theorem szd_all11 (l : List ByteArray) (n : Nat) : szd11 l n false = (l.all (fun s => decide (s.size = n)) && decide (l.length ≤ 200)) := by
  rw [szd11]; simp
theorem szd_none11 (l : List ByteArray) (n : Nat) : szd11 l n true = (l.all (fun s => decide (s.size = n) || decide (s.size = 0)) && decide (l.length ≤ 200)) := by
  rw [szd11]; simp
/-- the program's own order. -/
def rq11 (k : Int) (nl nc : Nat) (a b d : Bool) : Bool :=
  (if k = 1 then decide (nc = nl) else if k = 2 ∨ k = 3 then decide (nc = 0) else if k = 4 then decide (nl = 0) && decide (nc = 0) else false) && (decide (nl ≤ 200) && (a && (b && d)))
theorem rq_right11 (q : Req11) : right11 q = rq11 q.k q.L.length q.C.length (q.L.all (fun s => decide (s.size = 16))) (q.C.all (fun s => decide (s.size = 40))) (decide q.L.Nodup) := by
  rw [right11, rq11, szd_all11, szd_all11]
  generalize q.L.all (fun s => decide (s.size = 16)) = a
  generalize q.C.all (fun s => decide (s.size = 40)) = b
  generalize decide q.L.Nodup = d
  generalize q.L.length = nl
  generalize q.C.length = nc
  generalize q.k = k
  cases a <;> cases b <;> cases d <;> simp only [Bool.and_true, Bool.true_and, Bool.and_false, Bool.false_and]
  rw [Bool.eq_iff_iff]
  by_cases h1 : k = 1
  · subst h1; simp; omega
  · by_cases h2 : k = 2
    · subst h2; simp; omega
    · by_cases h3 : k = 3
      · subst h3; simp; omega
      · by_cases h4 : k = 4
        · subst h4; simp; omega
        · simp [h1, h2, h3, h4]
          intros
          omega
set_option maxRecDepth 100000 in
set_option maxHeartbeats 4000000 in
theorem reqMay_any11 (k : Int) (A A2 : Option Addr) (c c2 : Nat) (L C : List ByteArray) (w : World) (hl : L.length ≤ 9223372036854775807) (hl2 : C.length ≤ 9223372036854775807) (hc : InV w A (tL10 L)) (hc2 : InV w A2 (tL10 C)) :
    Calls Try.prog 27 #[.agg #[.int .i64 k, .slice A L.length c, .slice A2 C.length c2]] w fun e w' => e = .returned (.bool (right11 ⟨k, L, C⟩)) ∧ Below w.heap.size w w' := by
  obtain ⟨W1, hW1⟩ : ∃ W1, W1 = w.alloc (.cells #[.int .i64 k, .slice A L.length c, .slice A2 C.length c2] 26) := ⟨_, rfl⟩
  have iq : Is W1 w.heap.size 26 #[.int .i64 k, .slice A L.length c, .slice A2 C.length c2] := by rw [hW1]; exact Is.new _ _ _
  have hB : Below w.heap.size w W1 := by rw [hW1]; exact (Below.refl _ _).alloc (Nat.le_refl _) _
  have hB2 : Below w.heap.size w W1.drew := belowN hB 1
  have e1 : ∀ args W, (callFunc 47 args).run Try.prog W = .ok (.enter 47 args) W := fun args W => by go_simp
  have e2 : ∀ args W, (callFunc 48 args).run Try.prog W = .ok (.enter 48 args) W := fun args W => by go_simp
  have P1 := Lib.hid (wrong_any11 47 (fun s => decide (s.size = 16)) isLabel_any11 e1 A c L W1.drew hl (hc.keep hB2))
  have P2 := Lib.hid (wrong_any11 48 (fun s => decide (s.size = 40)) isCell_any11 e2 A2 c2 C W1.drew hl2 (hc2.keep hB2))
  have P3 := Lib.hid (fun (h1 : L.length ≤ 200) (h2 : L.all (fun s => decide (s.size = 16)) = true) => twice_any11 A c L W1.drew (by omega) (fun s hs => by
    have := of_decide_eq_true (List.all_eq_true.1 h2 s hs)
    omega) (hc.keep hB2))
  have c0 : W1.cell? ⟨w.heap.size, 0, none⟩ = some (.int .i64 k) := iq.cell 0
  have c1 : W1.cell? ⟨w.heap.size, 1, none⟩ = some (.slice A L.length c) := iq.cell 1
  have c2' : W1.cell? ⟨w.heap.size, 2, none⟩ = some (.slice A2 C.length c2) := iq.cell 2
  have HR := Lib.hid (rq_right11 ⟨k, L, C⟩)
  simp only at HR
  generalize right11 ⟨k, L, C⟩ = R at *
  generalize L.all (fun s => decide (s.size = 16)) = a at *
  generalize C.all (fun s => decide (s.size = 40)) = b at *
  generalize decide L.Nodup = d at *
  clear hc hc2 e1 e2 iq
  generalize L.length = nl at *
  generalize C.length = nc at *
  go_enter Try.func27, Try.ntmps27
  go_wp2_with fail
  rw [← hW1]
  clear hW1
  go_region
  generalize hW2 : W1.drew = W2 at *
  have d0 : W2.cell? ⟨w.heap.size, 0, none⟩ = some (.int .i64 k) := by rw [← hW2]; exact c0
  have d1 : W2.cell? ⟨w.heap.size, 1, none⟩ = some (.slice A nl c) := by rw [← hW2]; exact c1
  have d2 : W2.cell? ⟨w.heap.size, 2, none⟩ = some (.slice A2 nc c2) := by rw [← hW2]; exact c2'
  clear c0 c1 c2' hW2 hB
  by_cases h1 : k = 1
  · subst h1
    by_cases hf1 : (nc : Int) = (nl : Int)
    · by_cases hn : (nl : Int) ≤ 200
      · go_wp2_with fail
        refine P1.out.mono ?_
        rintro e w' ⟨rfl, rfl⟩
        cases a with
        | false =>
          go_wp2
          go_ret
          exact ⟨congrArg (fun b => Ending.returned (Value.bool b)) (by rw [HR.out]; simp [rq11]), hB2⟩
        | true =>
          go_wp2_with fail
          refine P2.out.mono ?_
          rintro e w' ⟨rfl, rfl⟩
          cases b with
          | false =>
            go_wp2
            go_ret
            exact ⟨congrArg (fun b => Ending.returned (Value.bool b)) (by rw [HR.out]; simp [rq11]), hB2⟩
          | true =>
            go_wp2_with fail
            refine (P3.out (by omega) trivial).mono ?_
            rintro e w' ⟨rfl, hb⟩
            have hB3 := hB2.trans (hb.mono hB2.size)
            clear hb
            cases d with
            | false =>
              go_wp2
              go_ret
              exact ⟨congrArg (fun b => Ending.returned (Value.bool b)) (by rw [HR.out]; simp [rq11]), hB3⟩
            | true =>
              go_wp2
              go_ret
              exact ⟨congrArg (fun b => Ending.returned (Value.bool b)) (by rw [HR.out]; simp [rq11]; omega), hB3⟩
      · go_wp2
        go_ret
        exact ⟨congrArg (fun b => Ending.returned (Value.bool b)) (by rw [HR.out]; simp [rq11]; omega), hB2⟩
    · go_wp2
      go_ret
      exact ⟨congrArg (fun b => Ending.returned (Value.bool b)) (by rw [HR.out]; simp [rq11]; omega), hB2⟩
  · by_cases h2 : k = 2
    · subst h2
      by_cases hf1 : (nc : Int) = 0
      · by_cases hn : (nl : Int) ≤ 200
        · go_wp2_with fail
          refine P1.out.mono ?_
          rintro e w' ⟨rfl, rfl⟩
          cases a with
          | false =>
            go_wp2
            go_ret
            exact ⟨congrArg (fun b => Ending.returned (Value.bool b)) (by rw [HR.out]; simp [rq11]), hB2⟩
          | true =>
            go_wp2_with fail
            refine P2.out.mono ?_
            rintro e w' ⟨rfl, rfl⟩
            cases b with
            | false =>
              go_wp2
              go_ret
              exact ⟨congrArg (fun b => Ending.returned (Value.bool b)) (by rw [HR.out]; simp [rq11]), hB2⟩
            | true =>
              go_wp2_with fail
              refine (P3.out (by omega) trivial).mono ?_
              rintro e w' ⟨rfl, hb⟩
              have hB3 := hB2.trans (hb.mono hB2.size)
              clear hb
              cases d with
              | false =>
                go_wp2
                go_ret
                exact ⟨congrArg (fun b => Ending.returned (Value.bool b)) (by rw [HR.out]; simp [rq11]), hB3⟩
              | true =>
                go_wp2
                go_ret
                exact ⟨congrArg (fun b => Ending.returned (Value.bool b)) (by rw [HR.out]; simp [rq11]; omega), hB3⟩
        · go_wp2
          go_ret
          exact ⟨congrArg (fun b => Ending.returned (Value.bool b)) (by rw [HR.out]; simp [rq11]; omega), hB2⟩
      · go_wp2
        go_ret
        exact ⟨congrArg (fun b => Ending.returned (Value.bool b)) (by rw [HR.out]; simp [rq11]; omega), hB2⟩
    · by_cases h3 : k = 3
      · subst h3
        by_cases hf1 : (nc : Int) = 0
        · by_cases hn : (nl : Int) ≤ 200
          · go_wp2_with fail
            refine P1.out.mono ?_
            rintro e w' ⟨rfl, rfl⟩
            cases a with
            | false =>
              go_wp2
              go_ret
              exact ⟨congrArg (fun b => Ending.returned (Value.bool b)) (by rw [HR.out]; simp [rq11]), hB2⟩
            | true =>
              go_wp2_with fail
              refine P2.out.mono ?_
              rintro e w' ⟨rfl, rfl⟩
              cases b with
              | false =>
                go_wp2
                go_ret
                exact ⟨congrArg (fun b => Ending.returned (Value.bool b)) (by rw [HR.out]; simp [rq11]), hB2⟩
              | true =>
                go_wp2_with fail
                refine (P3.out (by omega) trivial).mono ?_
                rintro e w' ⟨rfl, hb⟩
                have hB3 := hB2.trans (hb.mono hB2.size)
                clear hb
                cases d with
                | false =>
                  go_wp2
                  go_ret
                  exact ⟨congrArg (fun b => Ending.returned (Value.bool b)) (by rw [HR.out]; simp [rq11]), hB3⟩
                | true =>
                  go_wp2
                  go_ret
                  exact ⟨congrArg (fun b => Ending.returned (Value.bool b)) (by rw [HR.out]; simp [rq11]; omega), hB3⟩
          · go_wp2
            go_ret
            exact ⟨congrArg (fun b => Ending.returned (Value.bool b)) (by rw [HR.out]; simp [rq11]; omega), hB2⟩
        · go_wp2
          go_ret
          exact ⟨congrArg (fun b => Ending.returned (Value.bool b)) (by rw [HR.out]; simp [rq11]; omega), hB2⟩
      · by_cases h4 : k = 4
        · subst h4
          by_cases hf2 : (nl : Int) = 0
          · by_cases hf1 : (nc : Int) = 0
            · by_cases hn : (nl : Int) ≤ 200
              · go_wp2_with fail
                refine P1.out.mono ?_
                rintro e w' ⟨rfl, rfl⟩
                cases a with
                | false =>
                  go_wp2
                  go_ret
                  exact ⟨congrArg (fun b => Ending.returned (Value.bool b)) (by rw [HR.out]; simp [rq11]), hB2⟩
                | true =>
                  go_wp2_with fail
                  refine P2.out.mono ?_
                  rintro e w' ⟨rfl, rfl⟩
                  cases b with
                  | false =>
                    go_wp2
                    go_ret
                    exact ⟨congrArg (fun b => Ending.returned (Value.bool b)) (by rw [HR.out]; simp [rq11]), hB2⟩
                  | true =>
                    go_wp2_with fail
                    refine (P3.out (by omega) trivial).mono ?_
                    rintro e w' ⟨rfl, hb⟩
                    have hB3 := hB2.trans (hb.mono hB2.size)
                    clear hb
                    cases d with
                    | false =>
                      go_wp2
                      go_ret
                      exact ⟨congrArg (fun b => Ending.returned (Value.bool b)) (by rw [HR.out]; simp [rq11]), hB3⟩
                    | true =>
                      go_wp2
                      go_ret
                      exact ⟨congrArg (fun b => Ending.returned (Value.bool b)) (by rw [HR.out]; simp [rq11]; omega), hB3⟩
              · exfalso; omega
            · go_wp2
              go_ret
              exact ⟨congrArg (fun b => Ending.returned (Value.bool b)) (by rw [HR.out]; simp [rq11]; omega), hB2⟩
          · go_wp2
            go_ret
            exact ⟨congrArg (fun b => Ending.returned (Value.bool b)) (by rw [HR.out]; simp [rq11]; omega), hB2⟩
        · go_wp2
          go_ret
          exact ⟨congrArg (fun b => Ending.returned (Value.bool b)) (by rw [HR.out]; simp [rq11, h1, h2, h3, h4]), hB2⟩
end Go.Proofs.Ytapfbcpbiagogaa
