/-
  Contract of wire.twice at texts. Conditions: few texts, none long.
-/
import Derived.Test.YtapfbcpbiagogaaWirA
import Derived.Maps.OwnSet
import Derived.StringKeys
namespace Go.Proofs.Ytapfbcpbiagogaa
open Go.RowKit Go.Shelf Go.Maps Go.WideMaps

/-- texts as keys; the set of some. -/
def ky11 (l : List ByteArray) : List Lit := l.map fun s => .string s.data.toList
def st11 (l : List ByteArray) : DataW Unit := setOf (.agg []) (ky11 l)
theorem ky_key11 (l : List ByteArray) : ∀ x ∈ ky11 l, WideAt.IsKeyLit x := fun x hx => by
  obtain ⟨s, _, rfl⟩ := List.mem_map.1 hx
  trivial
theorem st_snoc11 (l : List ByteArray) (s : ByteArray) : st11 (l ++ [s]) = (st11 l).put (.string s.data.toList) (.agg []) := by
  rw [st11, ky11, List.map_append, List.map_singleton, setOf_snoc]; rfl
theorem any_key11 (l : List ByteArray) (s : ByteArray) : (ky11 l).any (fun y => y.sameKey (.string s.data.toList)) = true ↔ s ∈ l := by
  rw [List.any_eq_true]
  constructor
  · rintro ⟨y, hy, h⟩
    obtain ⟨t, ht, rfl⟩ := List.mem_map.1 hy
    have e : (t.data.toList == s.data.toList) = true := h
    have e2 : t = s := by
      apply ByteArray.ext
      exact Array.toList_inj.1 (eq_of_beq e)
    exact e2 ▸ ht
  · intro h
    exact ⟨_, List.mem_map.2 ⟨s, h, rfl⟩, show (s.data.toList == s.data.toList) = true from beq_self_eq_true _⟩
theorem st_size11 (l : List ByteArray) : Maps.size (st11 l) ≤ l.length ∧ (Maps.size (st11 l) < l.length ↔ ¬ l.Nodup) := by
  have hs : Maps.size (st11 l) = ((ky11 l).foldl addKey []).length := size_setOf _ _ (ky_key11 l)
  rw [hs]
  have key : ∀ (r o : List ByteArray), ((ky11 r).foldl addKey (ky11 o)).length ≤ o.length + r.length ∧ (o.Nodup → (((ky11 r).foldl addKey (ky11 o)).length < o.length + r.length ↔ ¬ (o ++ r).Nodup)) := by
    intro r
    induction r with
    | nil =>
      intro o
      refine ⟨by simp [ky11], fun ho => ?_⟩
      rw [List.append_nil]
      simp [ky11, ho]
    | cons s r ih =>
      intro o
      have e : (ky11 (s :: r)).foldl addKey (ky11 o) = (ky11 r).foldl addKey (addKey (ky11 o) (.string s.data.toList)) := rfl
      rw [e, addKey]
      by_cases hm : s ∈ o
      · rw [if_pos ((any_key11 o s).2 hm)]
        obtain ⟨a, b⟩ := ih o
        rw [List.length_cons]
        refine ⟨by omega, fun ho => ⟨fun _ hn => ?_, fun _ => by omega⟩⟩
        rw [List.nodup_append] at hn
        exact hn.2.2 s hm s (List.mem_cons_self ..) rfl
      · rw [if_neg (fun h => hm ((any_key11 o s).1 h))]
        have e2 : ky11 o ++ [.string s.data.toList] = ky11 (o ++ [s]) := by simp [ky11]
        rw [e2]
        obtain ⟨a, b⟩ := ih (o ++ [s])
        rw [List.length_append, List.length_singleton] at a b
        rw [List.length_cons]
        refine ⟨by omega, fun ho => ?_⟩
        have b2 := b (by
          rw [List.nodup_append]
          exact ⟨ho, by simp, fun x hx y hy => by rw [List.mem_singleton] at hy; subst hy; exact fun h => hm (h ▸ hx)⟩)
        rw [show o.length + (r.length + 1) = o.length + 1 + r.length by omega, b2, List.append_assoc]
        rfl
  have h := key l []
  simp only [List.length_nil, Nat.zero_add, List.nil_append] at h
  exact ⟨h.1, h.2 List.nodup_nil⟩
theorem law11 : Keyed Try.prog 9 := string_keyed Try.underlying9
set_option maxRecDepth 100000 in
set_option maxHeartbeats 2000000 in
theorem twice_any11 (A : Option Addr) (c : Nat) (l : List ByteArray) (w : World) (hl : l.length ≤ 1000) (hz : ∀ s ∈ l, s.size ≤ 1000) (hc : InV w A (tL10 l)) :
    Calls Try.prog 49 #[.slice A l.length c] w fun e w' => e = .returned (.bool (!decide l.Nodup)) ∧ Below w.heap.size w w' := by
  have HC := Lib.hid hc
  have HZ := Lib.hid hz
  have HS := Lib.hid (st_size11 l)
  clear hc hz
  have hmm : ∀ (W : World), (Instr.makeMap 91 (some (.int .i64 (l.length : Int)))).run Try.prog W = .ok (.map (some W.heap.size)) (W.alloc (.map #[] 0)) := fun W => by
    rfl
  go_enter Try.func49, Try.ntmps49
  go_wp2
  go_loopw [5, 11] (fun _ i wr => ∃ k : Nat, k ≤ l.length ∧ i = .int .i64 (k : Int) ∧ wr.ownsMap Try.prog 9 (unitElem (H := Unit)) w.heap.size k (st11 (l.take k)) ∧ Below w.heap.size w wr) (fun _ i _ => l.length - (intOf i).toNat)
  case atStart => exact ⟨0, by omega, rfl, World.ownsMap_made _ _ _ _, (Below.refl _ _).alloc (Nat.le_refl _) _⟩
  case round =>
    obtain ⟨k, hk, rfl, hown, hB⟩ := hrel
    by_cases hlt : k < l.length
    · have h1 : (k : Int) < (l.length : Int) := by omega
      obtain ⟨s, hx⟩ : ∃ s, l[k]? = some s := ⟨_, List.getElem?_eq_getElem hlt⟩
      obtain ⟨b, off, rfl, _, hcell⟩ := (HC.out.keep hB).txt hx
      have hkey : keyOf Try.prog 9 (.string s) = some (.string s.data.toList) := keyOf_string_mk Try.underlying9 (by have := HZ.out s (List.mem_of_getElem? hx); unfold maxLen; omega)
      have HST := Lib.hid (show st11 (l.take (k + 1)) = (st11 (l.take k)).put (.string s.data.toList) (.agg []) by rw [take_snoc10 hx, st_snoc11])
      clear hx
      go_wp2_with (first
        | (at_mapUpdate; refine wpList_mapUpdate_own _ rfl _ _ _ 91 rfl 9 92 law11 Try.underlying91 (unitElem (H := Unit)) w.heap.size k _ rfl hown (by unfold maxLen; omega) _ _ _ rfl rfl hkey _ [] unitElem_mk ?_; intro w1 hown1 hgrow1)
        | go_in)
      go_roundw
      case rel => exact ⟨k + 1, by omega, by go_num, by rw [HST.out]; exact hown1, hB.grown hgrow1 hB.size (fun j hj => by cases hj; exact Nat.le_refl _)⟩
      case measure => simp [intOf]; omega
    · have h1 : ¬ (k : Int) < (l.length : Int) := by omega
      have hke : k = l.length := by omega
      have hown2 : wr.ownsMap Try.prog 9 (unitElem (H := Unit)) w.heap.size k (st11 l) := by rw [List.take_of_length_le (by omega)] at hown; exact hown
      obtain ⟨z1, z2⟩ := HS.out
      have Z2 := Lib.hid z2
      clear hown z1 z2 HS hk
      go_wp2_with (first
        | (at_len; refine wpList_len_own _ rfl _ 91 rfl 9 92 Try.underlying91 (unitElem (H := Unit)) w.heap.size k _ rfl hown2 ?_)
        | go_in)
      go_ret
      refine ⟨congrArg (fun b => Ending.returned (Value.bool b)) ?_, hB⟩
      rw [← decide_not]
      exact decide_eq_decide.2 Z2.out
end Go.Proofs.Ytapfbcpbiagogaa
