/-
  Layer 8, plain: what was never made is not opened; with an error nothing is kept (of ideals that came of raw questions).
-/
import Derived.Test.YtdbdoammbnogaaaIdy4
import Derived.Test.YtdbdoammbnogaaaGIdP
namespace Go.Proofs.Ytdbdoammbnogaaa
open Go.RowKit

theorem asks8_from (qs : List Q8) : ∀ d : Ide, (∀ x ∈ (asks8 d qs).N, x ∈ d.N ∨ ∃ i, Q8.nam i ∈ qs ∧ x.1 = i) ∧ (∀ x ∈ (asks8 d qs).K, x ∈ d.K ∨ ∃ l t, Q8.cel l t ∈ qs ∧ x.1 = l ∧ x.2.1 = t) := by
  induction qs with
  | nil => intro d; exact ⟨fun x hx => .inl hx, fun x hx => .inl hx⟩
  | cons q r ih =>
    intro d
    obtain ⟨h1, h2⟩ := ih (ask8 d q).2.1
    have hq : (∀ x ∈ (ask8 d q).2.1.N, x ∈ d.N ∨ ∃ i, Q8.nam i ∈ q :: r ∧ x.1 = i) ∧ (∀ x ∈ (ask8 d q).2.1.K, x ∈ d.K ∨ ∃ l t, Q8.cel l t ∈ q :: r ∧ x.1 = l ∧ x.2.1 = t) := by
      cases q with
      | nam i =>
        show (∀ x ∈ (lab8 d i).2.1.N, _) ∧ (∀ x ∈ (lab8 d i).2.1.K, _)
        rcases lab8_step d i with e | e
        · rw [e]; exact ⟨fun x hx => .inl hx, fun x hx => .inl hx⟩
        · rw [e]
          refine ⟨fun x hx => ?_, fun x hx => .inl hx⟩
          rcases List.mem_append.1 hx with h | h
          · exact .inl h
          · rw [List.mem_singleton] at h; subst h; exact .inr ⟨i, by simp, rfl⟩
      | cel l t =>
        show (∀ x ∈ (sea8 d l t).2.1.N, _) ∧ (∀ x ∈ (sea8 d l t).2.1.K, _)
        rcases sea8_step d l t with e | e
        · rw [e]; exact ⟨fun x hx => .inl hx, fun x hx => .inl hx⟩
        · rw [e]
          refine ⟨fun x hx => .inl hx, fun x hx => ?_⟩
          rcases List.mem_append.1 hx with h | h
          · exact .inl h
          · rw [List.mem_singleton] at h; subst h; exact .inr ⟨l, t, by simp, rfl, rfl⟩
    refine ⟨fun x hx => ?_, fun x hx => ?_⟩
    · rcases h1 x hx with h | ⟨i, h, e⟩
      · exact hq.1 x h
      · exact .inr ⟨i, List.mem_cons_of_mem _ h, e⟩
    · rcases h2 x hx with h | ⟨l, t, h, e⟩
      · exact hq.2 x h
      · exact .inr ⟨l, t, List.mem_cons_of_mem _ h, e⟩
theorem new8_fst {B : ByteArray} (h : rightV B 0 = true) : (new8 B 0).1 = ⟨B, 0, [], [], false⟩ := by rw [new8, if_pos h]
theorem raw8_nam {B : ByteArray} (h : rightV B 0 = true) (R : List Raw8) : ∀ x ∈ (asks8 (new8 B 0).1 (qs8 R)).N, x.1.size = 1 := fun x hx => by
  rcases (asks8_from (qs8 R) _).1 x hx with h1 | ⟨i, h1, e⟩
  · rw [new8_fst h] at h1; cases h1
  · obtain ⟨n, _, hn⟩ := List.mem_map.1 h1
    unfold que8 at hn
    split at hn
    · cases hn; rw [e, strOfNums_size]; rfl
    · cases hn
theorem raw8_cel {B : ByteArray} (h : rightV B 0 = true) (R : List Raw8) : ∀ x ∈ (asks8 (new8 B 0).1 (qs8 R)).K, ∃ c, x.1 = label8 c := fun x hx => by
  rcases (asks8_from (qs8 R) _).2 x hx with h1 | ⟨l, t, h1, e, _⟩
  · rw [new8_fst h] at h1; cases h1
  · obtain ⟨n, _, hn⟩ := List.mem_map.1 h1
    unfold que8 at hn
    split at hn
    · cases hn
    · cases hn; exact ⟨_, e⟩
def nev8 : ByteArray := ⟨#[110, 101, 118, 101, 114, 32, 97, 115, 107, 101, 100]⟩
def hex8 : ByteArray := ⟨#[48, 49, 50, 51, 52, 53, 54, 55, 56, 57, 97, 98, 99, 100, 101, 102]⟩
def nev24 : ByteArray := ⟨#[110, 101, 118, 101, 114, 32, 97, 115, 107, 101, 100, 44, 32, 97, 116, 32, 97, 110, 121, 32, 116, 105, 109, 101]⟩
def sho8 : ByteArray := ⟨#[115, 104, 111, 114, 116]⟩
theorem hex8_ne (c : Int) : label8 c ≠ hex8 := fun e => by
  have h : strOfNums [108, pickN c 4] ++ nul8 14 = strOfNums [48, 49] ++ ⟨#[50, 51, 52, 53, 54, 55, 56, 57, 97, 98, 99, 100, 101, 102]⟩ := e
  have := sn_inj8 (by omega) (by omega) (app_inj8' (by rw [strOfNums_size, strOfNums_size]; rfl) h).1
  cases this
/-- the ideal at its tape's end. -/
def poor8 (d : Ide) : Ide := { d with a := 2000 }
section
variable {B : ByteArray} (hB : B.size = 2000) (R : List Raw8)
include hB
theorem two_right8 : rightV B 0 = true := rightV_iff.2 ⟨by omega, by omega, by omega⟩
theorem raw8_fro : Fro8 B 15 (asks8 (new8 B 0).1 (qs8 R)) := (asks8_fro (new8_fro (two_right8 hB)) (qs8 R)).more (by rw [qs8_len]; omega)
theorem poor8_right : Rit8 (poor8 (asks8 (new8 B 0).1 (qs8 R))) := by
  have h := raw8_fro hB R
  have hr := h.right
  refine ⟨?_, hr.few, hr.fewK, hr.ok, hr.one, hr.okK, hr.oneK, hr.clash⟩
  show rightV (asks8 (new8 B 0).1 (qs8 R)).B 2000 = true
  rw [h.tape]
  exact rightV_iff.2 ⟨by omega, by omega, by omega⟩
theorem poor8_take (n : Int) (hn : 0 < n) : takeE (poor8 (asks8 (new8 B 0).1 (qs8 R))).B (poor8 (asks8 (new8 B 0).1 (qs8 R))).a n = 12 := by
  have h := poor8_right hB R
  have ht : (poor8 (asks8 (new8 B 0).1 (qs8 R))).B = B := (raw8_fro hB R).tape
  rw [takeE, h.tape, if_pos (by simp; omega), leftV, if_pos h.tape, ht, hB]
  show (if ((2000 : Nat) : Int) - 2000 < n then (12 : Int) else 0) = 12
  rw [if_pos (by omega)]
theorem poor8_lab : lab8 (poor8 (asks8 (new8 B 0).1 (qs8 R))) nev8 = (⟨#[]⟩, poor8 (asks8 (new8 B 0).1 (qs8 R)), 12) := by
  have h := poor8_right hB R
  have hf := (raw8_fro hB R).few
  have hn : (poor8 (asks8 (new8 B 0).1 (qs8 R))).N.find? (fun x => decide (x.1 = nev8)) = none := List.find?_eq_none.2 fun x hx => by
    have h1 := raw8_nam (two_right8 hB) R x hx
    simp only [decide_eq_true_eq]
    intro e
    rw [e] at h1
    cases h1
  have ht := poor8_take hB R 16 (by omega)
  unfold lab8
  rw [if_pos (by rw [right8_of h]; rfl), hn]
  show (if 2000 ≤ (asks8 (new8 B 0).1 (qs8 R)).N.length then _ else if takeE _ _ 16 = 0 then _ else _ : ByteArray × Ide × Int) = _
  rw [if_neg (by omega), if_neg (by rw [ht]; omega), ht]
theorem poor8_sea : sea8 (poor8 (asks8 (new8 B 0).1 (qs8 R))) hex8 nev24 = (⟨#[]⟩, poor8 (asks8 (new8 B 0).1 (qs8 R)), 12) := by
  have h := poor8_right hB R
  have hf := (raw8_fro hB R).few
  have hn : (poor8 (asks8 (new8 B 0).1 (qs8 R))).K.find? (fun x => decide (x.1 = hex8) && decide (x.2.1 = nev24)) = none := List.find?_eq_none.2 fun x hx => by
    obtain ⟨c, h1⟩ := raw8_cel (two_right8 hB) R x hx
    simp only [Bool.and_eq_true, decide_eq_true_eq]
    intro e
    rw [h1] at e
    exact hex8_ne c e.1
  have ht := poor8_take hB R 40 (by omega)
  unfold sea8
  rw [if_pos (by rw [right8_of h]; rfl), hn]
  show (if 2000 ≤ (asks8 (new8 B 0).1 (qs8 R)).K.length then _ else if takeE _ _ 40 = 0 then _ else _ : ByteArray × Ide × Int) = _
  rw [if_neg (by omega), if_neg (by rw [ht]; omega), ht]
omit hB in
theorem short8_sea (d : Ide) (l : ByteArray) : sea8 d l sho8 = (⟨#[]⟩, d, 1) := by
  unfold sea8
  rw [if_neg (by
    rw [Bool.and_eq_true, Bool.and_eq_true]
    intro h
    exact absurd h.2.2 (by decide))]
theorem none8_ope (l x : ByteArray) : ((asks8 (new8 B 0).1 (qs8 R)).K.any (fun z => decide (z.1 = l) && decide (z.2.2 = x)) = true ∧ (ope8 (asks8 (new8 B 0).1 (qs8 R)) l x).2 = 0) ∨ ((asks8 (new8 B 0).1 (qs8 R)).K.any (fun z => decide (z.1 = l) && decide (z.2.2 = x)) = false ∧ (ope8 (asks8 (new8 B 0).1 (qs8 R)) l x).2 = 11) := by
  have h := right8_of (raw8_fro hB R).right
  unfold ope8
  rw [if_pos h]
  cases hf : (asks8 (new8 B 0).1 (qs8 R)).K.find? (fun z => decide (z.1 = l) && decide (z.2.2 = x)) with
  | none => exact .inr ⟨none_any hf, rfl⟩
  | some z =>
    have h2 := List.find?_some hf
    exact .inl ⟨List.any_eq_true.2 ⟨z, List.mem_of_find?_eq_some hf, h2⟩, rfl⟩
end
end Go.Proofs.Ytdbdoammbnogaaa
