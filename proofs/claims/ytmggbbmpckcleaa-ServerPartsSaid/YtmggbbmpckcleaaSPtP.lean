/-
  ServerParts, plain: what is put at once, and in two parts; what is taken away so. Nothing of the program stands here.
-/
import Derived.Test.YtmggbbmpckcleaaGSr0
import Derived.Test.YtmggbbmpckcleaaGCo1
import Derived.Test.YtmggbbmpckcleaaGBx3
namespace Go.Proofs.Ytmggbbmpckcleaa
open Go.RowKit

theorem right_put13 {L C : List ByteArray} (h1 : ∀ l ∈ L, l.size = 16) (h2 : ∀ c ∈ C, c.size = 40) (h3 : L.length ≤ 200) (h4 : L.Nodup) (h5 : C.length = L.length) : right11 ⟨1, L, C⟩ = true := by
  simp only [right11, szd11, Bool.and_eq_true, decide_eq_true_eq, List.all_eq_true, Bool.false_and, Bool.or_false]
  exact ⟨by decide, by decide, ⟨h1, h3⟩, ⟨h2, by omega⟩, h4, by simp [h5]⟩
theorem right_del13 {L : List ByteArray} (h1 : ∀ l ∈ L, l.size = 16) (h3 : L.length ≤ 200) (h4 : L.Nodup) : right11 ⟨3, L, []⟩ = true := by
  simp only [right11, szd11, Bool.and_eq_true, decide_eq_true_eq, List.all_eq_true, Bool.false_and, Bool.or_false]
  exact ⟨by decide, by decide, ⟨h1, h3⟩, ⟨fun c hc => (by cases hc), by simp⟩, h4, by simp⟩
structure Parts13 (q : Req11) (k : Nat) (A C D F G : Srv13) (m1 m2 : Int) : Prop where
  a : do13 ⟨⟨new12 8, 0, 0⟩, 100⟩ q = (A, ⟨1, 0, [], 0, 0⟩)
  b : do13 ⟨⟨new12 8, 0, 0⟩, 100⟩ ⟨1, q.L.take k, q.C.take k⟩ = (C, ⟨1, 0, [], 0, 0⟩)
  c : do13 C ⟨1, q.L.drop k, q.C.drop k⟩ = (A, ⟨1, 0, [], 0, 0⟩)
  d : do13 A ⟨3, q.L, []⟩ = (D, ⟨3, 0, [], q.L.length, 0⟩)
  f : do13 A ⟨3, q.L.take k, []⟩ = (F, ⟨3, 0, [], m1, 0⟩)
  g : do13 F ⟨3, q.L.drop k, []⟩ = (D, ⟨3, 0, [], m2, 0⟩)
  m : m1 + m2 = q.L.length
  m0 : 0 ≤ m1 ∧ 0 ≤ m2
  none : D.S.many = 0
  lenA : A.S.B.length ≤ 4096
  lenD : D.S.B.length ≤ 4096
theorem parts13 {q : Req11} (hq : right11 q = true) (hk : q.k = 1) (hl : q.L.length ≤ 100) (k : Nat) : ∃ A C D F G m1 m2, Parts13 q k A C D F G m1 m2 := by
  have hr := Rq13.of hq
  have hlc := hr.put hk
  obtain ⟨qk, L, C⟩ := q
  simp only at hk hl hlc
  subst hk
  have hs0 : Rt13 ⟨⟨new12 8, 0, 0⟩, 100⟩ := (new_kp13 (by omega) (by omega)).rt
  have hs := right_iff13.2 hs0
  have hnone : ∀ l, mp12 (new12 8) l = none := fun l => mp_none12.2 (new_plc12 8 l)
  have hzip : L.zip C = (L.take k).zip (C.take k) ++ (L.drop k).zip (C.drop k) := by
    rw [← List.zip_append (by simp [hlc]), List.take_append_drop, List.take_append_drop]
  have hfit := hr.fit rfl
  simp only at hfit
  rw [hzip] at hfit
  have hlen : ((L.take k).zip (C.take k) ++ (L.drop k).zip (C.drop k)).length = L.length := by
    rw [← hzip, List.length_zip, hlc, Nat.min_self]
  obtain ⟨e1, e2, e3⟩ := put_parts13 hs0 hfit (fun p _ => hnone p.1) (by rw [hlen]; show (0 : Int) + (L.length : Int) ≤ 100; omega)
  have rT : right11 ⟨1, L.take k, C.take k⟩ = true := right_put13 (fun l h => hr.szL l (List.mem_of_mem_take h)) (fun l h => hr.szC l (List.mem_of_mem_take h)) (by have := hr.few; simp only [List.length_take] at *; omega) (hr.once.sublist (List.take_sublist _ _)) (by simp only [List.length_take]; omega)
  have rD : right11 ⟨1, L.drop k, C.drop k⟩ = true := right_put13 (fun l h => hr.szL l (List.mem_of_mem_drop h)) (fun l h => hr.szC l (List.mem_of_mem_drop h)) (by have := hr.few; simp only [List.length_drop] at *; omega) (hr.once.sublist (List.drop_sublist _ _)) (by simp only [List.length_drop]; omega)
  have qa : do13 ⟨⟨new12 8, 0, 0⟩, 100⟩ ⟨1, L, C⟩ = (⟨puts13 ⟨new12 8, 0, 0⟩ ((L.take k).zip (C.take k) ++ (L.drop k).zip (C.drop k)), 100⟩, ⟨1, 0, [], 0, 0⟩) := by
    rw [do_put13 hs hq rfl, hzip]; exact e1
  have qb : do13 ⟨⟨new12 8, 0, 0⟩, 100⟩ ⟨1, L.take k, C.take k⟩ = (⟨puts13 ⟨new12 8, 0, 0⟩ ((L.take k).zip (C.take k)), 100⟩, ⟨1, 0, [], 0, 0⟩) := by
    rw [do_put13 hs rT rfl]; exact e2
  have hb := do_rt13 hs0 ⟨1, L.take k, C.take k⟩
  rw [qb] at hb
  have qc : do13 ⟨puts13 ⟨new12 8, 0, 0⟩ ((L.take k).zip (C.take k)), 100⟩ ⟨1, L.drop k, C.drop k⟩ = (⟨puts13 ⟨new12 8, 0, 0⟩ ((L.take k).zip (C.take k) ++ (L.drop k).zip (C.drop k)), 100⟩, ⟨1, 0, [], 0, 0⟩) := by
    rw [do_put13 (right_iff13.2 hb) rD rfl]; exact e3
  have ha := do_rt13 hs0 ⟨1, L, C⟩
  rw [qa] at ha
  have hp := puts_ok13 ((L.take k).zip (C.take k) ++ (L.drop k).zip (C.drop k)) ⟨new12 8, 0, 0⟩ hs0.rt hfit (by
    have h1 := more_le13 (new12 8) (((L.take k).zip (C.take k) ++ (L.drop k).zip (C.drop k)).map Prod.fst)
    rw [List.length_map, hlen] at h1
    show (0 : Int) + ((more13 (new12 8) (((L.take k).zip (C.take k) ++ (L.drop k).zip (C.drop k)).map Prod.fst) : Nat) : Int) ≤ 2000
    omega)
  generalize puts13 ⟨new12 8, 0, 0⟩ ((L.take k).zip (C.take k) ++ (L.drop k).zip (C.drop k)) = A at *
  have ha : Rt13 ⟨A, 100⟩ := ha
  have hmem : ∀ l ∈ L, (mp12 A.B l).isSome = true := fun l hl => by
    obtain ⟨n, hn, rfl⟩ := List.mem_iff_getElem.1 hl
    have hn2 : n < C.length := by omega
    rw [hp.mp, ← hzip]
    obtain ⟨c, h1, _⟩ := lk_some13 (P := L.zip C) (x := L[n]) ⟨(L[n], C[n]), by
      rw [List.mem_iff_getElem]
      exact ⟨n, by rw [List.length_zip]; omega, by simp⟩, rfl⟩
    rw [h1]; rfl
  have hall := has_all13 hmem
  have hmany : A.many = (L.length : Int) := by
    rw [hp.many]
    have h2 := has_more13 (new12 8) (((L.take k).zip (C.take k) ++ (L.drop k).zip (C.drop k)).map Prod.fst)
    have h3 : has13 (new12 8) (((L.take k).zip (C.take k) ++ (L.drop k).zip (C.drop k)).map Prod.fst) = 0 := by
      rw [has13, List.countP_eq_zero]
      intro l _
      rw [hnone l]; simp
    rw [h3, List.length_map, hlen] at h2
    show (0 : Int) + ((more13 (new12 8) (((L.take k).zip (C.take k) ++ (L.drop k).zip (C.drop k)).map Prod.fst) : Nat) : Int) = (L.length : Int)
    omega
  have hsA := right_iff13.2 ha
  have oT : (L.take k ++ L.drop k).Nodup := by rw [List.take_append_drop]; exact hr.once
  have hra : Rt12 A := ha.rt
  have hrd : Rt12 (dels13 A L) := (dels_ok13 L A hra hr.once).rt
  obtain ⟨f1, f2⟩ := del_parts13 hra oT
  rw [List.take_append_drop] at f1 f2
  have dA : right11 ⟨3, L, []⟩ = true := right_del13 hr.szL hr.few hr.once
  have dT : right11 ⟨3, L.take k, []⟩ = true := right_del13 (fun l h => hr.szL l (List.mem_of_mem_take h)) (by have := hr.few; simp only [List.length_take] at *; omega) (hr.once.sublist (List.take_sublist _ _))
  have dD : right11 ⟨3, L.drop k, []⟩ = true := right_del13 (fun l h => hr.szL l (List.mem_of_mem_drop h)) (by have := hr.few; simp only [List.length_drop] at *; omega) (hr.once.sublist (List.drop_sublist _ _))
  have qd : do13 ⟨A, 100⟩ ⟨3, L, []⟩ = (⟨dels13 A L, 100⟩, ⟨3, 0, [], L.length, 0⟩) := by
    rw [do_del13 hsA dA rfl]
    show (_, (⟨3, 0, [], (has13 A.B L : Nat), 0⟩ : Rsp11)) = _
    rw [hall]
  have qf : do13 ⟨A, 100⟩ ⟨3, L.take k, []⟩ = (⟨dels13 A (L.take k), 100⟩, ⟨3, 0, [], (has13 A.B (L.take k) : Nat), 0⟩) := do_del13 hsA dT rfl
  have hF := do_rt13 ha ⟨3, L.take k, []⟩
  rw [qf] at hF
  have hF : Rt13 ⟨dels13 A (L.take k), 100⟩ := hF
  have qg : do13 ⟨dels13 A (L.take k), 100⟩ ⟨3, L.drop k, []⟩ = (⟨dels13 A L, 100⟩, ⟨3, 0, [], (has13 (dels13 A (L.take k)).B (L.drop k) : Nat), 0⟩) := by
    rw [do_del13 (right_iff13.2 hF) dD rfl, f1]
  have hD := do_rt13 ha ⟨3, L, []⟩
  rw [qd] at hD
  have hD : Rt13 ⟨dels13 A L, 100⟩ := hD
  have hdm := (dels_ok13 L A hra hr.once).many
  exact ⟨⟨A, 100⟩, _, ⟨dels13 A L, 100⟩, _, ⟨A, 100⟩, _, _, qa, qb, qc, qd, qf, qg, by
    show ((has13 A.B (L.take k) : Nat) : Int) + ((has13 (dels13 A (L.take k)).B (L.drop k) : Nat) : Int) = (L.length : Int)
    rw [← hall, f2]; omega, ⟨by omega, by omega⟩, by
    show (dels13 A L).many = 0
    rw [hall] at hdm; omega, hra.bnd.len.2, hrd.bnd.len.2⟩
end Go.Proofs.Ytmggbbmpckcleaa

