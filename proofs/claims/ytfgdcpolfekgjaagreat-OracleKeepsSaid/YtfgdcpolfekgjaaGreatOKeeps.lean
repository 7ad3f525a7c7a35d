/-
  Proved: OracleKeeps answers true for all modes, keys, drawn numbers, flags and raw questions (what was answered once is answered again; but for a clash unlike questions have unlike labels, and Open undoes Cell; by a key the tape stays), whatever the two tables of layer 1 hold.
-/
import Derived.Test.YtfgdcpolfekgjaaGreatLawOKeeps
import Derived.Test.YtfgdcpolfekgjaaGreatGRow
import Derived.Test.YtfgdcpolfekgjaaGreatGKit
namespace Go.Proofs.YtfgdcpolfekgjaaGreat.oracleKeeps
open Go.ChangeShapes Go.WideShapes Go.ChangeAt Go.WideMaps Go.WideElems Go.RowKit
open Go.ChangeMaps (open_string shut_string)

set_option maxRecDepth 100000 in
theorem lifted (os : Os) (started : os.Started) (H : Type) (enc : TypeId × Value → H) :
    ReturnsInHanded {} Tryz.checked os 5 .any (Rows.oracleKeepsSpec.pre6 enc Tryz.prog Tryz.f5 Rows.oracleKeepsRow.domain false) (Rows.oracleKeepsSpec.post enc Tryz.prog Tryz.f5 false true false false) := by
  refine returnsInHanded_of_change_shaped (C := Tryz.checked) own started (by kernel_rfl) Tryz.func5
    (ChangeSpec.witness6 (enc := enc) (C := Tryz.checked) false ⟨#[], #[.bool false, .int .i64 0, .slice none 0 0, .bool false, .slice none 0 0], []⟩ 8 (by kernel_rfl) (by kernel_rfl) (by kernel_rfl) (by kernel_rfl)) ?_
  intro W base args ds gs before hval0 hW _ _ hsh _
  have hval : ∀ (j : Nat) t v, Tryz.f5.params[j]? = some t → args[j]? = some v → Value.okWide Tryz.prog W .any base t v := hval0
  have hW' := hW
  obtain ⟨p, q, hA0, hV, rfl, hfz, hnd⟩ := hW
  have hA : DataW.TrodAll enc Tryz.prog W 0 (fun _ => true) true Tryz.f5.params.toList args.toList ds p := hA0
  rw [Tryz.params5] at hA hval
  obtain ⟨v0, v1, v2, v3, v4, d0, d1, d2, d3, d4, p0, p1, p2, p3, p4, rfl, rfl, rfl, h0, h1, h2, h3, h4⟩ := trodAll_five hA
  obtain ⟨rfl, rfl⟩ := trodVars_none hV
  obtain ⟨x0, rfl, rfl, rfl⟩ := open_bool Tryz.underlying4 (hval 0 4 v0 rfl rfl) h0
  obtain ⟨x1, rfl, rfl, rfl, wx1⟩ := open_int Tryz.underlying3 (hval 1 3 v1 rfl rfl) h1
  have k2 := h2
  have lt2 : ∀ x ∈ p2, x.block < W.heap.size := by obtain ⟨m, hm⟩ := k2; exact DataW.trod_lt m _ _ _ hm
  obtain ⟨a2, len2, cap2, rfl⟩ := okWide_slice Tryz.underlying55 (hval 2 55 v2 rfl rfl)
  obtain ⟨hl2, hn2, L2, he2, hc2, hb2⟩ := (by obtain ⟨fuel, hf⟩ := h2; exact ints7 hf : (len2 ≤ maxLen ∧ len2 ≤ cap2) ∧ (a2 = none → cap2 = 0) ∧ ∃ L : List Int, L.length = len2 ∧ InL W a2 L ∧ ∀ y ∈ L, -9223372036854775808 ≤ y ∧ y ≤ 9223372036854775807)
  subst he2
  obtain ⟨x3, rfl, rfl, rfl⟩ := open_bool Tryz.underlying4 (hval 3 4 v3 rfl rfl) h3
  have k4 := h4
  have lt4 : ∀ x ∈ p4, x.block < W.heap.size := by obtain ⟨m, hm⟩ := k4; exact DataW.trod_lt m _ _ _ hm
  obtain ⟨a4, len4, cap4, rfl⟩ := okWide_slice Tryz.underlying24 (hval 4 24 v4 rfl rfl)
  obtain ⟨hl4, R4, he4, hc4, hb4⟩ := (by obtain ⟨fuel, hf⟩ := h4; exact raws9 hf : len4 ≤ maxLen ∧ ∃ R : List Raw9, R.length = len4 ∧ InV W a4 (flQ R) ∧ ∀ n ∈ R, Big9 n)
  subst he4
  clear hA0 hval0
  obtain ⟨TT, hTT⟩ := tabs9 hsh
  letI : Tabs := TT
  refine (okeeps_walk x0 x1 a2 cap2 L2 x3 a4 cap4 R4 W hTT  (bounds_i64 wx1) hl2 hn2 hc2 hb2  hl4 hc4 hb4).mono fun e W' ⟨he, bel⟩ => ?_
  subst he
  exact ⟨_, rfl, _, _, _, [], _, [], hW', trodAll_mk1 (shut_bool Tryz.underlying4 _), (trodAll_mk5 (shut_bool Tryz.underlying4 x0) (shut_int Tryz.underlying3 wx1) (Below.trod laidOut (by kernel_rfl) (of_decide_eq_true (by kernel_rfl)) k2 bel lt2) (shut_bool Tryz.underlying4 x3) (Below.trod laidOut (by kernel_rfl) (of_decide_eq_true (by kernel_rfl)) k4 bel lt4)), rfl, bel.frame _, fun h => by cases h⟩

theorem said : Rows.OracleKeepsSaid :=
  OpenClaim.holds_of_wide 5 Tryz.f5 rfl rfl rfl rfl rfl rfl rfl ⟨rfl, rfl, rfl, rfl, rfl⟩ rfl rfl rfl rfl rfl (by kernel_rfl) Tryz.func5 (by kernel_rfl)
    (of_decide_eq_true (by kernel_rfl)) (by unfold Func.isWrapper; first | (rw [if_pos (by decide +kernel)]; kernel_rfl) | (rw [if_neg (by decide +kernel)]; exact ⟨rfl, rfl⟩))
    (fun os started H enc _ => lifted os started H enc)
end Go.Proofs.YtfgdcpolfekgjaaGreat.oracleKeeps

