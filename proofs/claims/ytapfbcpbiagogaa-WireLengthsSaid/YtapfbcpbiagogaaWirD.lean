/-
  Contract of wire.responseMayBe: the plain may11.
-/
import Derived.Test.YtapfbcpbiagogaaWirC
namespace Go.Proofs.Ytapfbcpbiagogaa
open Go.RowKit Go.Shelf

/-- the program's own order. -/
def rp11 (k st : Int) (nb : Bool) (n : Nat) (a x1 x2 x3 x4 : Bool) : Bool :=
  decide (0 ≤ st) && (decide (st ≤ 2) && (nb && (decide (n ≤ 200) && (a && (if k = 0 then x1 && (x2 && (x3 && x4)) else if k = 1 then x2 && (x3 && x4) else if k = 2 then x1 && (x3 && x4) else if k = 3 then x1 && (x2 && x4) else if k = 4 then x1 && x2 else false)))))
theorem rp_may11 (q : Rsp11) : may11 q = rp11 q.k q.st (numE10 q.many && numE10 q.room) q.C.length (q.C.all (fun s => decide (s.size = 40) || decide (s.size = 0))) (q.st == 0) ((q.C.length : Int) == 0) (q.many == 0) (q.room == 0) := by
  rw [may11, rp11, szd_none11, numE10, numE10]
  generalize q.C.all (fun s => decide (s.size = 40) || decide (s.size = 0)) = a
  generalize q.C.length = n
  generalize q.k = k
  generalize q.st = st
  generalize q.many = m
  generalize q.room = r
  cases a <;> simp only [Bool.and_true, Bool.true_and, Bool.and_false, Bool.false_and]
  rw [Bool.eq_iff_iff]
  by_cases h0 : k = 0
  · subst h0; simp; omega
  · by_cases h1 : k = 1
    · subst h1; simp; omega
    · by_cases h2 : k = 2
      · subst h2; simp; omega
      · by_cases h3 : k = 3
        · subst h3; simp; omega
        · by_cases h4 : k = 4
          · subst h4; simp; omega
          · simp [h0, h1, h2, h3, h4]
            intros
            omega
set_option maxRecDepth 100000 in
set_option maxHeartbeats 4000000 in
theorem rspMay_any11 (k st m r : Int) (A : Option Addr) (c : Nat) (C : List ByteArray) (w : World) (hl : C.length ≤ 9223372036854775807) (hc : InV w A (tL10 C)) :
    Calls Try.prog 32 #[.agg #[.int .i64 k, .int .i64 st, .slice A C.length c, .int .i64 m, .int .i64 r]] w fun e w' => e = .returned (.bool (may11 ⟨k, st, C, m, r⟩)) ∧ Below w.heap.size w w' := by
  obtain ⟨W1, hW1⟩ : ∃ W1, W1 = w.alloc (.cells #[.int .i64 k, .int .i64 st, .slice A C.length c, .int .i64 m, .int .i64 r] 28) := ⟨_, rfl⟩
  have iq : Is W1 w.heap.size 28 #[.int .i64 k, .int .i64 st, .slice A C.length c, .int .i64 m, .int .i64 r] := by rw [hW1]; exact Is.new _ _ _
  have hB : Below w.heap.size w W1 := by rw [hW1]; exact (Below.refl _ _).alloc (Nat.le_refl _) _
  obtain ⟨W2, hW2⟩ : ∃ W2, W2 = W1.alloc (.cells #[.int .i64 m, .int .i64 r] 3) := ⟨_, rfl⟩
  have iq2 : Is W2 w.heap.size 28 #[.int .i64 k, .int .i64 st, .slice A C.length c, .int .i64 m, .int .i64 r] := by rw [hW2]; exact iq.alloc _
  have hB2 : Below w.heap.size w W2 := by rw [hW2]; exact hB.alloc hB.size _
  have iN2 : Is W2 W1.heap.size 3 #[.int .i64 m, .int .i64 r] := by rw [hW2]; exact Is.new _ _ _
  have e1 : ∀ args W, (callFunc 57 args).run Try.prog W = .ok (.enter 57 args) W := fun args W => by go_simp
  have P1 := Lib.hid (wrongN_any11 W1.heap.size [m, r] W2 (by show 2 ≤ 1000; omega) iN2)
  have P2 := Lib.hid (wrong_any11 57 (fun s => decide (s.size = 40) || decide (s.size = 0)) isNone_any11 e1 A c C W2 hl (hc.keep hB2))
  have hz1 : W1.heap.size = w.heap.size + 1 := by rw [hW1]; simp
  rw [show ([m, r] : List Int).all numE10 = (numE10 m && numE10 r) by simp] at P1
  simp only [List.length_cons, List.length_nil, Nat.zero_add] at P1
  rw [hz1] at P1
  have c1 : W1.cell? ⟨w.heap.size, 1, none⟩ = some (.int .i64 st) := iq.cell 1
  have c3 : W1.cell? ⟨w.heap.size, 3, none⟩ = some (.int .i64 m) := iq.cell 3
  have c4 : W1.cell? ⟨w.heap.size, 4, none⟩ = some (.int .i64 r) := iq.cell 4
  have d0 : W2.cell? ⟨w.heap.size, 0, none⟩ = some (.int .i64 k) := iq2.cell 0
  have d1 : W2.cell? ⟨w.heap.size, 1, none⟩ = some (.int .i64 st) := iq2.cell 1
  have d2 : W2.cell? ⟨w.heap.size, 2, none⟩ = some (.slice A C.length c) := iq2.cell 2
  have d3 : W2.cell? ⟨w.heap.size, 3, none⟩ = some (.int .i64 m) := iq2.cell 3
  have d4 : W2.cell? ⟨w.heap.size, 4, none⟩ = some (.int .i64 r) := iq2.cell 4
  have g0 : W2.drew.cell? ⟨w.heap.size, 0, none⟩ = some (.int .i64 k) := iq2.cell 0
  have HR := Lib.hid (rp_may11 ⟨k, st, C, m, r⟩)
  simp only at HR
  generalize may11 ⟨k, st, C, m, r⟩ = R at *
  generalize C.all (fun s => decide (s.size = 40) || decide (s.size = 0)) = a at *
  generalize (numE10 m && numE10 r) = nb at *
  clear hc e1 iq iq2 iN2
  generalize C.length = n at *
  have HW2 := Lib.hid hW2
  clear hW2
  go_enter Try.func32, Try.ntmps32
  by_cases hs0 : st < 0
  · go_wp2_with fail
    rw [← hW1]
    clear hW1
    go_wp2
    go_ret
    exact ⟨congrArg (fun b => Ending.returned (Value.bool b)) (by rw [HR.out]; simp [rp11]; omega), hB⟩
  by_cases hs2 : 2 < st
  · go_wp2_with fail
    rw [← hW1]
    clear hW1
    go_wp2
    go_ret
    exact ⟨congrArg (fun b => Ending.returned (Value.bool b)) (by rw [HR.out]; simp [rp11]; omega), hB⟩
  go_wp2_with fail
  rw [← hW1, ← HW2.out]
  clear hW1 HW2 c1 c3 c4 hz1 hB
  refine P1.out.mono ?_
  rintro e w' ⟨rfl, rfl⟩
  cases nb with
  | false =>
    go_wp2
    go_ret
    exact ⟨congrArg (fun b => Ending.returned (Value.bool b)) (by rw [HR.out]; simp [rp11]), hB2⟩
  | true =>
    by_cases hn : 200 < (n : Int)
    · go_wp2
      go_ret
      exact ⟨congrArg (fun b => Ending.returned (Value.bool b)) (by rw [HR.out]; simp [rp11]; omega), hB2⟩
    go_wp2_with fail
    refine P2.out.mono ?_
    rintro e w' ⟨rfl, rfl⟩
    cases a with
    | false =>
      go_wp2
      go_ret
      exact ⟨congrArg (fun b => Ending.returned (Value.bool b)) (by rw [HR.out]; simp [rp11]), hB2⟩
    | true =>
      go_wp2
      go_region
      have hB5 : Below w.heap.size w W2.drew := belowN hB2 1
      clear d0 d1 d2 d3 d4 hB2
      have q0 : 0 ≤ st := by omega
      have q2 : st ≤ 2 := by omega
      have q3 : n ≤ 200 := by omega
      rw [rp11, decide_eq_true q0, decide_eq_true q2, decide_eq_true q3] at HR
      simp only [Bool.true_and] at HR
      clear q0 q2 q3 hs0 hs2 hn
      generalize hV1 : (st == 0) = x1 at *
      generalize hV2 : ((n : Int) == 0) = x2 at *
      generalize hV3 : (m == 0) = x3 at *
      generalize hV4 : (r == 0) = x4 at *
      clear hV1 hV2 hV3 hV4
      generalize W2.drew = W3 at *
      by_cases h0 : k = 0
      · subst h0
        cases x1 with
        | false =>
          go_wp2
          go_ret
          exact ⟨congrArg (fun b => Ending.returned (Value.bool b)) (by rw [HR.out]; simp), hB5⟩
        | true =>
          cases x2 with
          | false =>
            go_wp2
            go_ret
            exact ⟨congrArg (fun b => Ending.returned (Value.bool b)) (by rw [HR.out]; simp), hB5⟩
          | true =>
            cases x3 with
            | false =>
              go_wp2
              go_ret
              exact ⟨congrArg (fun b => Ending.returned (Value.bool b)) (by rw [HR.out]; simp), hB5⟩
            | true =>
              cases x4 with
              | false =>
                go_wp2
                go_ret
                exact ⟨congrArg (fun b => Ending.returned (Value.bool b)) (by rw [HR.out]; simp), hB5⟩
              | true =>
                go_wp2
                go_ret
                exact ⟨congrArg (fun b => Ending.returned (Value.bool b)) (by rw [HR.out]; simp), hB5⟩
      · by_cases h1 : k = 1
        · subst h1
          cases x2 with
          | false =>
            go_wp2
            go_ret
            exact ⟨congrArg (fun b => Ending.returned (Value.bool b)) (by rw [HR.out]; simp), hB5⟩
          | true =>
            cases x3 with
            | false =>
              go_wp2
              go_ret
              exact ⟨congrArg (fun b => Ending.returned (Value.bool b)) (by rw [HR.out]; simp), hB5⟩
            | true =>
              cases x4 with
              | false =>
                go_wp2
                go_ret
                exact ⟨congrArg (fun b => Ending.returned (Value.bool b)) (by rw [HR.out]; simp), hB5⟩
              | true =>
                go_wp2
                go_ret
                exact ⟨congrArg (fun b => Ending.returned (Value.bool b)) (by rw [HR.out]; simp), hB5⟩
        · by_cases h2 : k = 2
          · subst h2
            cases x1 with
            | false =>
              go_wp2
              go_ret
              exact ⟨congrArg (fun b => Ending.returned (Value.bool b)) (by rw [HR.out]; simp), hB5⟩
            | true =>
              cases x3 with
              | false =>
                go_wp2
                go_ret
                exact ⟨congrArg (fun b => Ending.returned (Value.bool b)) (by rw [HR.out]; simp), hB5⟩
              | true =>
                cases x4 with
                | false =>
                  go_wp2
                  go_ret
                  exact ⟨congrArg (fun b => Ending.returned (Value.bool b)) (by rw [HR.out]; simp), hB5⟩
                | true =>
                  go_wp2
                  go_ret
                  exact ⟨congrArg (fun b => Ending.returned (Value.bool b)) (by rw [HR.out]; simp), hB5⟩
          · by_cases h3 : k = 3
            · subst h3
              cases x1 with
              | false =>
                go_wp2
                go_ret
                exact ⟨congrArg (fun b => Ending.returned (Value.bool b)) (by rw [HR.out]; simp), hB5⟩
              | true =>
                cases x2 with
                | false =>
                  go_wp2
                  go_ret
                  exact ⟨congrArg (fun b => Ending.returned (Value.bool b)) (by rw [HR.out]; simp), hB5⟩
                | true =>
                  cases x4 with
                  | false =>
                    go_wp2
                    go_ret
                    exact ⟨congrArg (fun b => Ending.returned (Value.bool b)) (by rw [HR.out]; simp), hB5⟩
                  | true =>
                    go_wp2
                    go_ret
                    exact ⟨congrArg (fun b => Ending.returned (Value.bool b)) (by rw [HR.out]; simp), hB5⟩
            · by_cases h4 : k = 4
              · subst h4
                cases x1 with
                | false =>
                  go_wp2
                  go_ret
                  exact ⟨congrArg (fun b => Ending.returned (Value.bool b)) (by rw [HR.out]; simp), hB5⟩
                | true =>
                  cases x2 with
                  | false =>
                    go_wp2
                    go_ret
                    exact ⟨congrArg (fun b => Ending.returned (Value.bool b)) (by rw [HR.out]; simp), hB5⟩
                  | true =>
                    go_wp2
                    go_ret
                    exact ⟨congrArg (fun b => Ending.returned (Value.bool b)) (by rw [HR.out]; simp), hB5⟩
              · go_wp2
                go_ret
                exact ⟨congrArg (fun b => Ending.returned (Value.bool b)) (by rw [HR.out]; simp [h0, h1, h2, h3, h4]), hB5⟩
end Go.Proofs.Ytapfbcpbiagogaa
