/-
  Layer 8: contracts of ideal.Label and ideal.Seal, the program's, whatever they are asked. Condition: the ideal's lists lie where the slices point to.
-/
import Derived.Test.YtdbdoammbnogaaaIdeN
import Derived.Test.YtdbdoammbnogaaaIdeO
import Derived.Test.YtdbdoammbnogaaaIdeT
import Derived.Test.YtdbdoammbnogaaaIdeU
import Derived.Test.YtdbdoammbnogaaaIdeV
import Derived.Test.YtdbdoammbnogaaaIdeW
namespace Go.Proofs.Ytdbdoammbnogaaa
open Go.RowKit Go.Shelf

theorem lab_c {d : Ide} (h : right8 d = true) (i o : ByteArray) : (d.c || (find8 (d.N.map outN) o).2) = clash8 (d.N ++ [(i, o)]) d.K := by
  have hr := ((right8_iff d).1 h).clash
  have e : (find8 (d.N.map outN) o).2 = d.N.any fun x => sameOut x (i, o) := by
    rw [find8_find]
    have e1 : (fun x : Nam8 => sameOut x (i, o)) = fun x => decide ((outN x).1 = o) := by funext x; rfl
    rw [e1]
    cases hf : d.N.find? fun x => decide ((outN x).1 = o) with
    | none => exact (none_any hf).symm
    | some x => exact (List.any_eq_true.2 ⟨x, List.mem_of_find?_eq_some hf, List.find?_some hf⟩).symm
  rw [e, hr, clash8, clash8, pairs8_snoc]
  cases pairs8 sameOut d.N <;> cases pairs8 sameCel d.K <;> cases (d.N.any fun x => sameOut x (i, o)) <;> rfl
theorem sea_c {d : Ide} (h : right8 d = true) (l t s : ByteArray) : (d.c || (find8 (d.K.map opnK) (l, s)).2) = clash8 d.N (d.K ++ [(l, t, s)]) := by
  have hr := ((right8_iff d).1 h).clash
  have e : (find8 (d.K.map opnK) (l, s)).2 = d.K.any fun x => sameCel x (l, t, s) := by
    rw [find8_find]
    have e1 : (fun x : Cel8 => sameCel x (l, t, s)) = fun x => decide ((opnK x).1 = (l, s)) := by funext x; simp [sameCel, opnK]
    rw [e1]
    cases hf : d.K.find? fun x => decide ((opnK x).1 = (l, s)) with
    | none => exact (none_any hf).symm
    | some x => exact (List.any_eq_true.2 ⟨x, List.mem_of_find?_eq_some hf, List.find?_some hf⟩).symm
  rw [e, hr, clash8, clash8, pairs8_snoc]
  cases pairs8 sameOut d.N <;> cases pairs8 sameCel d.K <;> cases (d.K.any fun x => sameCel x (l, t, s)) <;> rfl

/-- Label, whatever it is asked. -/
theorem label_own (d : Ide) (A : Option Addr) (c : Nat) (A' : Option Addr) (c' : Nat) (i : ByteArray) (w : World) (h : InI w d A c A' c') :
    Calls Try.prog 15 #[ideV d A c A' c', .string i] w fun e w' => ∃ A1 c1 A2 c2, e = .returned (.tuple #[.string (lab8 d i).1, ideV (lab8 d i).2.1 A1 c1 A2 c2, .int .i64 (lab8 d i).2.2]) ∧ InI w' (lab8 d i).2.1 A1 c1 A2 c2 ∧ Below w.heap.size w w' ∧ Own8 w w' A A1 ∧ Own8 w w' A' A2 := by
  cases hr : right8 d with
  | false =>
    have e : lab8 d i = (⟨#[]⟩, d, 1) := by rw [lab8, hr]; rfl
    rw [e]
    exact label_a d A c A' c' i w h hr
  | true =>
    by_cases hi : 100 < (i.size : Int)
    · have e : lab8 d i = (⟨#[]⟩, d, 1) := by rw [lab8, if_neg (by rw [hr]; simp; omega)]
      rw [e]
      exact label_b d A c A' c' i w h hr hi
    · have e0 : lab8 d i = match d.N.find? fun x => decide (x.1 = i) with
          | some x => (x.2, d, 0)
          | none =>
            if 2000 ≤ d.N.length then (⟨#[]⟩, d, 2)
            else if takeE d.B d.a 16 = 0 then (takeS d.B d.a 16, { d with a := d.a + 16, N := d.N ++ [(i, takeS d.B d.a 16)], c := clash8 (d.N ++ [(i, takeS d.B d.a 16)]) d.K }, 0)
            else (⟨#[]⟩, d, takeE d.B d.a 16) := by rw [lab8, if_pos (by rw [hr]; simp; omega)]; rfl
      cases hf : d.N.find? fun x => decide (x.1 = i) with
      | some x =>
        rw [hf] at e0
        rw [e0]
        exact label_c d A c A' c' i w h hr hi x.2 (by rw [find8, hf])
      | none =>
        rw [hf] at e0
        have hf2 : find8 d.N i = (⟨#[]⟩, false) := by rw [find8, hf]
        by_cases hl : 2000 ≤ d.N.length
        · have e1 : lab8 d i = (⟨#[]⟩, d, 2) := by rw [e0]; exact if_pos hl
          rw [e1]
          exact label_d d A c A' c' i w h hr hi _ hf2 (by omega)
        · by_cases ht : takeE d.B d.a 16 = 0
          · have e1 : lab8 d i = (takeS d.B d.a 16, { d with a := d.a + 16, N := d.N ++ [(i, takeS d.B d.a 16)], c := clash8 (d.N ++ [(i, takeS d.B d.a 16)]) d.K }, 0) := by rw [e0]; exact (if_neg hl).trans (if_pos ht)
            have hR : takeR d.B d.a 16 = .tuple #[.string (takeS d.B d.a 16), .agg #[.string d.B, .int .i64 (d.a + 16)], .int .i64 0] := by rw [takeR, takeA, if_pos ht, ht]
            have hc := lab_c hr i (takeS d.B d.a 16)
            rw [e1, ← hc]
            generalize takeS d.B d.a 16 = S at *
            cases hdc : d.c with
            | true =>
              rw [Bool.true_or]
              exact label_ft d A c A' c' i w h hr hi _ hf2 (by omega) S (d.a + 16) hR (find8 (d.N.map outN) S).1 (find8 (d.N.map outN) S).2 rfl hdc
            | false =>
              rw [Bool.false_or]
              exact label_ff d A c A' c' i w h hr hi _ hf2 (by omega) S (d.a + 16) hR (find8 (d.N.map outN) S).1 (find8 (d.N.map outN) S).2 rfl hdc
          · have e1 : lab8 d i = (⟨#[]⟩, d, takeE d.B d.a 16) := by rw [e0]; exact (if_neg hl).trans (if_neg ht)
            have hR : takeR d.B d.a 16 = .tuple #[.string ⟨#[]⟩, .agg #[.string d.B, .int .i64 d.a], .int .i64 (takeE d.B d.a 16)] := by rw [takeR, takeA, takeS, if_neg ht, if_neg ht]
            rw [e1]
            exact label_e d A c A' c' i w h hr hi _ hf2 (by omega) _ ht hR
/-- Seal, whatever it is asked. -/
theorem seal_own (d : Ide) (A : Option Addr) (c : Nat) (A' : Option Addr) (c' : Nat) (l t : ByteArray) (w : World) (h : InI w d A c A' c') :
    Calls Try.prog 21 #[ideV d A c A' c', .string l, .string t] w fun e w' => ∃ A1 c1 A2 c2, e = .returned (.tuple #[.string (sea8 d l t).1, ideV (sea8 d l t).2.1 A1 c1 A2 c2, .int .i64 (sea8 d l t).2.2]) ∧ InI w' (sea8 d l t).2.1 A1 c1 A2 c2 ∧ Below w.heap.size w w' ∧ Own8 w w' A A1 ∧ Own8 w w' A' A2 := by
  cases hr : right8 d with
  | false =>
    have e : sea8 d l t = (⟨#[]⟩, d, 1) := by rw [sea8, hr]; rfl
    rw [e]
    exact seal_a d A c A' c' l t w h hr
  | true =>
    by_cases hi : (l.size : Int) = 16
    · by_cases hj : (t.size : Int) = 24
      · have e0 : sea8 d l t = match d.K.find? fun x => decide (x.1 = l) && decide (x.2.1 = t) with
            | some x => (x.2.2, d, 0)
            | none =>
              if 2000 ≤ d.K.length then (⟨#[]⟩, d, 2)
              else if takeE d.B d.a 40 = 0 then (takeS d.B d.a 40, { d with a := d.a + 40, K := d.K ++ [(l, t, takeS d.B d.a 40)], c := clash8 d.N (d.K ++ [(l, t, takeS d.B d.a 40)]) }, 0)
              else (⟨#[]⟩, d, takeE d.B d.a 40) := by rw [sea8, if_pos (by rw [hr]; simp; omega)]; rfl
        have ef : find8 (d.K.map askK) (l, t) = match d.K.find? fun x => decide (x.1 = l) && decide (x.2.1 = t) with
            | some x => (x.2.2, true)
            | none => (⟨#[]⟩, false) := by
          rw [find8_find]
          have e1 : (fun x : Cel8 => decide ((askK x).1 = (l, t))) = fun x => decide (x.1 = l) && decide (x.2.1 = t) := by funext x; simp [askK]
          rw [e1]
          cases d.K.find? fun x => decide (x.1 = l) && decide (x.2.1 = t) <;> rfl
        cases hf : d.K.find? fun x => decide (x.1 = l) && decide (x.2.1 = t) with
        | some x =>
          rw [hf] at e0 ef
          rw [e0]
          exact seal_c d A c A' c' l t w h hr hi hj x.2.2 ef
        | none =>
          rw [hf] at e0 ef
          by_cases hl : 2000 ≤ d.K.length
          · have e1 : sea8 d l t = (⟨#[]⟩, d, 2) := by rw [e0]; exact if_pos hl
            rw [e1]
            exact seal_d d A c A' c' l t w h hr hi hj _ ef (by omega)
          · by_cases ht : takeE d.B d.a 40 = 0
            · have e1 : sea8 d l t = (takeS d.B d.a 40, { d with a := d.a + 40, K := d.K ++ [(l, t, takeS d.B d.a 40)], c := clash8 d.N (d.K ++ [(l, t, takeS d.B d.a 40)]) }, 0) := by rw [e0]; exact (if_neg hl).trans (if_pos ht)
              have hR : takeR d.B d.a 40 = .tuple #[.string (takeS d.B d.a 40), .agg #[.string d.B, .int .i64 (d.a + 40)], .int .i64 0] := by rw [takeR, takeA, if_pos ht, ht]
              have hc := sea_c hr l t (takeS d.B d.a 40)
              rw [e1, ← hc]
              generalize takeS d.B d.a 40 = S at *
              cases hdc : d.c with
              | true =>
                rw [Bool.true_or]
                exact seal_ft d A c A' c' l t w h hr hi hj _ ef (by omega) S (d.a + 40) hR (find8 (d.K.map opnK) (l, S)).1 (find8 (d.K.map opnK) (l, S)).2 rfl hdc
              | false =>
                rw [Bool.false_or]
                exact seal_ff d A c A' c' l t w h hr hi hj _ ef (by omega) S (d.a + 40) hR (find8 (d.K.map opnK) (l, S)).1 (find8 (d.K.map opnK) (l, S)).2 rfl hdc
            · have e1 : sea8 d l t = (⟨#[]⟩, d, takeE d.B d.a 40) := by rw [e0]; exact (if_neg hl).trans (if_neg ht)
              have hR : takeR d.B d.a 40 = .tuple #[.string ⟨#[]⟩, .agg #[.string d.B, .int .i64 d.a], .int .i64 (takeE d.B d.a 40)] := by rw [takeR, takeA, takeS, if_neg ht, if_neg ht]
              rw [e1]
              exact seal_e d A c A' c' l t w h hr hi hj _ ef (by omega) _ ht hR
      · have e : sea8 d l t = (⟨#[]⟩, d, 1) := by rw [sea8, if_neg (by rw [hr]; simp; omega)]
        rw [e]
        exact seal_b2 d A c A' c' l t w h hr hi hj
    · have e : sea8 d l t = (⟨#[]⟩, d, 1) := by rw [sea8, if_neg (by rw [hr]; simp; omega)]
      rw [e]
      exact seal_b d A c A' c' l t w h hr hi
theorem label_any (d : Ide) (A : Option Addr) (c : Nat) (A' : Option Addr) (c' : Nat) (i : ByteArray) (w : World) (h : InI w d A c A' c') :
    Calls Try.prog 15 #[ideV d A c A' c', .string i] w fun e w' => ∃ A1 c1 A2 c2, e = .returned (.tuple #[.string (lab8 d i).1, ideV (lab8 d i).2.1 A1 c1 A2 c2, .int .i64 (lab8 d i).2.2]) ∧ InI w' (lab8 d i).2.1 A1 c1 A2 c2 ∧ Below w.heap.size w w' :=
  (label_own d A c A' c' i w h).mono fun _ _ ⟨A1, c1, A2, c2, h1, h2, h3, _, _⟩ => ⟨A1, c1, A2, c2, h1, h2, h3⟩
theorem seal_any (d : Ide) (A : Option Addr) (c : Nat) (A' : Option Addr) (c' : Nat) (l t : ByteArray) (w : World) (h : InI w d A c A' c') :
    Calls Try.prog 21 #[ideV d A c A' c', .string l, .string t] w fun e w' => ∃ A1 c1 A2 c2, e = .returned (.tuple #[.string (sea8 d l t).1, ideV (sea8 d l t).2.1 A1 c1 A2 c2, .int .i64 (sea8 d l t).2.2]) ∧ InI w' (sea8 d l t).2.1 A1 c1 A2 c2 ∧ Below w.heap.size w w' :=
  (seal_own d A c A' c' l t w h).mono fun _ _ ⟨A1, c1, A2, c2, h1, h2, h3, _, _⟩ => ⟨A1, c1, A2, c2, h1, h2, h3⟩
end Go.Proofs.Ytdbdoammbnogaaa
