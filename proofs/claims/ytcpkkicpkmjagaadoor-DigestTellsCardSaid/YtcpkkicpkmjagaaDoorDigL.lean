/-
  From the rows' condition on the two tables to what the walks ask; the start for the rows' witness; the step from 'nothing that lay has turned' to a row's end.
-/
import Derived.Test.YtcpkkicpkmjagaaDoorDigM
import Derived.Test.YtcpkkicpkmjagaaDoorCards
import Derived.Test.YtcpkkicpkmjagaaDoorTie
import Derived.ProofKit
import Derived.OpenShut
import Derived.LaidMore
import Derived.Stop.LaidErr
import Derived.Stop.Joined
import Derived.Lib.LaidTab
import Derived.Below
import Derived.ChangeSame
import Derived.ChangeOld
namespace Go.Proofs.YtcpkkicpkmjagaaDoor
open Go.ChangeShapes Go.WideShapes Go.ChangeAt Go.WideMaps Go.WideElems Go.RowKit

theorem own : ownKnob Tryd.prog.godebug = none := by kernel_rfl
theorem gFirst : Tryd.prog.globalNamed "columbarium/digest.firstWords" = some 0 := by kernel_rfl
theorem gRound : Tryd.prog.globalNamed "columbarium/digest.roundWords" = some 1 := by kernel_rfl
theorem tFirst : (Tryd.prog.globals[0]?).map (·.type) = some 23 := by kernel_rfl
theorem tRound : (Tryd.prog.globals[1]?).map (·.type) = some 58 := by kernel_rfl
theorem cells22 : Tryd.prog.cellsOf 22 = 1 := by kernel_rfl
theorem cells23 : Tryd.prog.cellsOf 23 = 8 := by kernel_rfl
theorem cells49 : Tryd.prog.cellsOf 58 = 64 := by kernel_rfl
abbrev laidL : List (String × DataW Unit) := [("columbarium/digest.firstWords", Rows.laid_columbarium_digest_firstWords), ("columbarium/digest.roundWords", Rows.laid_columbarium_digest_roundWords)]

theorem tab_of_laid {W : World} (h : laidMetH Tryd.prog laidL W) : Tab W := by
  rw [MakeChecks.laidMetH_plain _ _ _ (by kernel_rfl)] at h
  have h0 : Lib.TabIs Tryd.prog W "columbarium/digest.firstWords" .u32 [H0.a, H0.b, H0.c, H0.d, H0.e, H0.f, H0.g, H0.h] :=
    Lib.tabIs_of_head gFirst tFirst Tryd.underlying23 Tryd.underlying22 cells22 cells23 h
  have h1 : Lib.TabIs Tryd.prog W "columbarium/digest.roundWords" .u32 KW :=
    Lib.tabIs_of_head gRound tRound Tryd.underlying58 Tryd.underlying22 cells22 cells49 h.tail
  refine ⟨fun i hi => ?_, fun i hi => ?_, ?_⟩
  · have := h1.cell gRound i (by simpa [KW] using hi)
    rw [this, at_, List.getD_eq_getElem?_getD]
  · have := h0.cell gFirst i (by simpa using hi)
    rw [this]
    rcases (by omega : i = 0 ∨ i = 1 ∨ i = 2 ∨ i = 3 ∨ i = 4 ∨ i = 5 ∨ i = 6 ∨ i = 7) with rfl | rfl | rfl | rfl | rfl | rfl | rfl | rfl <;> rfl
  · have := block_lt_of_cell (h1.cell gRound 0 (by decide))
    have h2 : 1 < W.heap.size := this
    omega

theorem door_met (os : Os) (args : Array Value) : laidMetH Tryd.prog laidL ((World.doorLaid Tryd.prog 400 os).forCall (fun _ _ => 0) ⟨#[], args, []⟩).memory :=
  laidMetH_of_parts3 (fuel := 8) (laidMet_of_run' 8 (by kernel_rfl) (by kernel_rfl)) (by kernel_rfl) (by kernel_rfl)

theorem laidOut : laidOutB Tryd.prog = true := by kernel_rfl
/-- what the walks are told of a list of numbers that came in. -/
def ListIn (W : World) (A : Option Addr) (len : Nat) (c : Nat → Int) : Prop :=
  ∀ j, j < len → ∃ b off, A = some ⟨b, off, none⟩ ∧ b < W.heap.size ∧ W.cell? ⟨b, off + j, none⟩ = some (.int .i64 (c j)) ∧ -9223372036854775808 ≤ c j ∧ c j ≤ 9223372036854775807
theorem list_in {H : Type} {enc : TypeId × Value → H} {W : World} {base : Nat} {sp : Nat → Bool} {held : Bool} {fuel : Nat} {A : Option Addr} {len cap : Nat} {x : DataW H × List MemPlace}
    (hf : DataW.trod enc Tryd.prog W base sp held fuel 44 (Value.slice A len cap).cells.toList = some x) : len ≤ maxLen ∧ ∃ c, ListIn W A len c := by
  rcases open_ints Tryd.underlying44 Tryd.underlying3 (by kernel_rfl) hf with ⟨hcs, _⟩ | ⟨y, l, c, zs, hcs, _, hl, hm, hz, _, hcell, hwz⟩
  · simp [Value.cells] at hcs
    obtain ⟨rfl, rfl, rfl⟩ := hcs
    exact ⟨by simp [maxLen], fun _ => 0, fun j hj => by omega⟩
  · simp [Value.cells] at hcs
    obtain ⟨rfl, rfl, rfl⟩ := hcs
    have hzl : len ≤ zs.length := by rw [hz]; split <;> omega
    refine ⟨Nat.le_trans hl hm, fun j => zs.getD j 0, fun j hj => ?_⟩
    obtain ⟨b, off, rfl, hc⟩ := ints_at hcell (by omega)
    have hcj := hc j (by omega)
    refine ⟨b, off, rfl, block_lt_of_cell hcj, hcj, ?_⟩
    have := range_i64 hwz j
    show -9223372036854775808 ≤ zs.getD j 0 ∧ zs.getD j 0 ≤ 9223372036854775807
    rw [List.getD_eq_getElem?_getD]
    exact this
/-- eight words that came in, by value. -/
theorem words_in {H : Type} {enc : TypeId × Value → H} {W : World} {r : Reach} {b0 base : Nat} {sp : Nat → Bool} {held : Bool} {v : Value} {d : DataW H} {p : List MemPlace}
    (hv : Value.okWide Tryd.prog W r b0 23 v) (h : DataW.Trod enc Tryd.prog W base sp held 23 v d p) : ∃ s : S8, v = .agg s.arr := by
  obtain ⟨cs, rfl, hsz⟩ : ∃ cs, v = .agg cs ∧ cs.size = 8 := by
    simp only [Value.okWide, Tryd.underlying23] at hv
    obtain ⟨cs, h1, h2, _⟩ := hv
    exact ⟨cs, h1, h2.trans cells23⟩
  obtain ⟨fuel, hf⟩ := h
  obtain ⟨xs, m, _, _, _, hxl, hel⟩ := DataW.trod_array Tryd.underlying23 hf
  obtain ⟨l⟩ := cs
  have key : ∀ i, i < 8 → ∃ a, l[i]? = some (.int .u32 a) := fun i hi => by
    have h1 := hel i hi
    rw [cells22, List.getElem?_eq_getElem (by omega)] at h1
    obtain ⟨z, hc, _, _⟩ := DataW.trod_int Tryd.underlying22 h1
    refine ⟨z, ?_⟩
    have := congrArg (·[0]?) hc
    simpa [List.getElem?_take, List.getElem?_drop, Value.cells] using this
  match l, hsz, key with
  | [c0, c1, c2, c3, c4, c5, c6, c7], _, key =>
    obtain ⟨x0, e0⟩ := key 0 (by omega)
    obtain ⟨x1, e1⟩ := key 1 (by omega)
    obtain ⟨x2, e2⟩ := key 2 (by omega)
    obtain ⟨x3, e3⟩ := key 3 (by omega)
    obtain ⟨x4, e4⟩ := key 4 (by omega)
    obtain ⟨x5, e5⟩ := key 5 (by omega)
    obtain ⟨x6, e6⟩ := key 6 (by omega)
    obtain ⟨x7, e7⟩ := key 7 (by omega)
    simp at e0 e1 e2 e3 e4 e5 e6 e7
    subst e0 e1 e2 e3 e4 e5 e6 e7
    exact ⟨⟨x0, x1, x2, x3, x4, x5, x6, x7⟩, rfl⟩
section
variable {H : Type} {enc : TypeId × Value → H} {P : Program}
/-- a row's end, where nothing that lay has turned. -/
theorem post_of_below {f : Func} {s : ChangeSpec} {apart fresh handsOn again : Bool} {W W' : World} {args : Array Value} {v : Value} {ds gs : List (DataW H)} {before pa pv : List MemPlace}
    (hW : DataW.Whole enc P f.params.toList s.vars apart W args.toList ds gs before)
    (hres : ∀ (b : Nat) (sp : Nat → Bool) (hd : Bool), DataW.TrodAll enc P W' b sp hd f.resultTypes.toList (v.resultList f.resultTypes.size) (s.fn H (ds ++ gs)).results [])
    (hargs : ∀ sp : Nat → Bool, (∀ p ∈ before, sp p.block = true) → DataW.TrodAll enc P W' 0 sp true f.params.toList args.toList (s.fn H (ds ++ gs)).args pa)
    (hvars : ∀ sp : Nat → Bool, (∀ p ∈ before, sp p.block = true) → DataW.TrodVars enc P W' sp s.vars (s.fn H (ds ++ gs)).vars pv)
    (hps : before = pa ++ pv) (hb : Below W.heap.size W W')
    (hok : ∀ (j : Nat) (t : TypeId) (r : Value), f.resultTypes[j]? = some t → (v.resultList f.resultTypes.size)[j]? = some r → Value.okWide P W' .any 0 t r) :
    s.post enc P f apart fresh handsOn again W args v W' := by
  have hlt : ∀ p ∈ before, p.block < W.heap.size := fun p hp => hW.lt p hp
  have hold : ∀ p ∈ before, (fun b => decide (b < W.heap.size)) p.block = true := fun p hp => by simpa using hlt p hp
  refine ⟨ds, gs, before, [], pa, pv, hW, hres _ _ _, hargs _ hold, hvars _ hold, World.keptBut_mono (fun p hp => ⟨hp, ?_⟩) (hb.frame (· ∈ before)), fun _ => ?_⟩
  · rw [hps, List.mem_append] at hp
    exact Or.inr hp
  · obtain ⟨_, _, _, _, _, hz, hn⟩ := hW
    refine ⟨hok, _, _, ([] ++ pa) ++ pv, ⟨[] ++ pa, pv, trodAll_append (hargs _ (fun _ _ => rfl)) (hres _ _ _), hvars _ (fun _ _ => rfl), rfl, ?_, ?_⟩, ?_⟩
    · intro b off hp
      have hin : MemPlace.cell b off ∈ before := by rw [hps]; simpa using hp
      rw [hb.frozen (hlt _ hin)]
      exact hz b off hin
    · intro ha
      have := hn ha
      rw [hps] at this
      simpa using this
    · intro p hp _
      rw [hps]
      simpa using hp
end
end Go.Proofs.YtcpkkicpkmjagaaDoor
