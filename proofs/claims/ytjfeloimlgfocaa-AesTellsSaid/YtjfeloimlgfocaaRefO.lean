/-
  Bytes that are appended one by one, and made a text. Nothing of the program stands here but numbers of types.
-/
import Derived.Test.YtjfeloimlgfocaaAesW
import Derived.Test.YtjfeloimlgfocaaFlip
import Derived.Test.YtjfeloimlgfocaaOps
namespace Go.Proofs.Ytjfeloimlgfocaa
open Go.RowKit Go.Shelf

/-- what was appended, made a text. -/
theorem conv_own {W : World} {base k : Nat} {v : Value} {L : List Nat} (hown : W.ownsRow base 5 1 v k (nL L)) (hl : L.length = k) (hk : 0 < k) :
    (convert 33 9 v).run Try.prog W = .ok (.string (strN L)) W := by
  obtain ⟨n, rfl⟩ : ∃ n, k = n + 1 := ⟨k - 1, by omega⟩
  obtain ⟨g, cap, rfl⟩ := ownsRow_succ hown
  exact run_convert_bytes_arg (P := Try.prog) W 33 5 Try.underlying33 Try.underlying5 g 0 (n + 1) cap (L.map fun x : Nat => (x : Int)) (by rw [List.length_map, hl]) (fun i hi => by
    rw [Nat.zero_add, hown.cellAt i (by omega)]
    rw [nL, List.getElem?_map, List.getElem?_eq_getElem (by omega), List.getD_eq_getElem?_getD, List.getElem?_map, List.getElem?_eq_getElem (by omega)]
    rfl) 9 Try.underlying9
theorem btN_nat (L : List Nat) (h : ∀ x ∈ L, x < 256) (i : Nat) : btN (strN L) i = L.getD i 0 := by rw [btN, strN_nat h]
theorem nL_snoc (L : List Nat) (x : Nat) : nL (L ++ [x]) = nL L ++ [Value.int .u8 (x : Int)] := by simp [nL]
theorem take_snoc (L : List Nat) (k : Nat) (h : k < L.length) : L.take (k + 1) = L.take k ++ [L.getD k 0] := by
  rw [List.take_add_one, List.getD_eq_getElem?_getD, List.getElem?_eq_getElem h]
  rfl
section
variable {P : Program} {md : Region.Mode} {ops : Array Oper} {Q : Exit → Act → World → Prop} {S : World → Prop} {fuel i : Nat} {listed : Array Bool} {a : Act} {w : World} {o : Oper}
/-- an append that comes next in a region that draws its order. -/
theorem wpAnyH_append (hr : Region.ready md ops listed = [i]) (ho : ops[i]? = some o) (hw : Region.wanted o (yielded ops a.tmps) = true)
    (s x : Operand) (t : TypeId) (hop : o.op = Op.call { callee := Callee.builtin Builtin.append, args := #[s, x], argTypes := #[t, t] })
    (base : Nat) (e : TypeId) (i0 : TypeInfo) (z : Value) (size bytes : Nat) (h1 : P.underlying t = some (.slice e)) (h2 : P.info? e = some i0) (h3 : i0.zero = some z) (h4 : i0.size = size) (h5 : i0.bytes = bytes) (h6 : z.cells.size = size) (h7 : 0 < size)
    (v : Value) (k : Nat) (xs : List Value) (hs : a.eval s = v) (hown : w.ownsRow base e size v k xs) (ad : Addr) (m c : Nat) (news : List Value) (hx : a.eval x = .slice (some ad) m c) (hn : news.length = m * size)
    (hc : ∀ j u, news[j]? = some u → w.cell? (ad.add j) = some u) (h1c : ∀ u ∈ news, u.oneCell' = true) (b1 : k + m ≤ maxLen) (b2 : (k + m) * bytes ≤ 140737488355328) (b3 : base ≤ w.heap.size)
    (hK : ∀ v' w', w'.ownsRow base e size v' (k + m) (xs ++ news) → w.grownBy w' v.ownBlock → S w' ∧ wpAnyH P md ops Q S fuel (listed.setIfInBounds i true) (a.put o.dst v') w') :
    wpAnyH P md ops Q S (fuel + 1) listed a w :=
  wpAnyH_step hr ho hw fun K' hK' => by
    obtain ⟨v', w', hrun, r1, r2, _⟩ := run_append_own (P := P) w base t o.type e i0 z size bytes h1 h2 h3 h4 h5 h6 h7 v k xs hown ad m c news hn hc h1c b1 b2 b3
    unfold Oper.wp
    simp [execOp, hop, resolve, invoke, builtin, hs, hx, hrun, Result.andThen]
    obtain ⟨hS, hh⟩ := hK v' w' r1 r2
    exact hK'.out _ _ hS fun _ => hh
end

set_option maxRecDepth 100000 in
set_option maxHeartbeats 1000000 in
theorem rsubbed_any (s : ByteArray) (T : List Nat) (w : World) (hs0 : 0 < s.size) (hs : s.size ≤ 1000) (hT : T.length = 256) :
    Calls Try.prog 40 #[.string s, .agg (nA T)] w fun e w' => e = .returned (.string (strN ((natL s).map fun x => T.getD x 0))) ∧ Below w.heap.size w w' := by
  obtain ⟨i0, hi, hz0, hz1, hz2⟩ := infoThree infoU8
  have hR : ((natL s).map fun x => T.getD x 0).length = s.size := by rw [List.length_map, natL_len]
  have hRg : ∀ k, k < s.size → ((natL s).map fun x => T.getD x 0).getD k 0 = T.getD (btN s k) 0 := fun k hk => by
    rw [List.getD_eq_getElem?_getD, List.getElem?_map, btN, List.getD_eq_getElem?_getD (l := natL s), List.getElem?_eq_getElem (by rw [natL_len]; exact hk)]
    rfl
  generalize (natL s).map (fun x => T.getD x 0) = R at *
  have HR := Lib.hid hR
  have HRG := Lib.hid hRg
  have HT := Lib.hid hT
  clear hR hRg hT
  have iT : Is (w.alloc (.cells (nA T) 63)) w.heap.size 63 (nA T) := Is.new w _ _
  have hB0 : Below w.heap.size w (w.alloc (.cells (nA T) 63)) := (Below.refl _ _).alloc (Nat.le_refl _) _
  go_enter Try.func40, Try.ntmps40
  go_wp2
  go_loopw [5, 6] (fun v i wr => ∃ k : Nat, k ≤ s.size ∧ i = .int .i64 k ∧ wr.ownsRow (w.heap.size + 1) 5 1 v k (nL (R.take k)) ∧ Is wr w.heap.size 63 (nA T) ∧ Below w.heap.size w wr)
    (fun _ i _ => s.size - (intOf i).toNat)
  case atStart => exact ⟨0, by omega, rfl, World.ownsRow_nil _ _ _ _, iT, hB0⟩
  case round =>
    clear iT hB0
    obtain ⟨k, hk, rfl, hown, iT, hB⟩ := hrel
    have hsz := iT.lt
    by_cases hlt : k < s.size
    · have ga := btN_get hlt
      have hi2 : (k : Int) < (s.size : Int) := by omega
      have hbl := btN_lt s k
      have hb1 : (btN s k : Int) < 256 := by omega
      have hsu := take_snoc R k (by rw [HR.out]; exact hlt)
      rw [HRG.out k hlt] at hsu
      have HSU := Lib.hid hsu
      clear hsu
      have hcl := iT.cell (btN s k)
      rw [nA_get T _ (by rw [HT.out]; exact hbl)] at hcl
      generalize btN s k = y at *
      generalize T.getD y 0 = z at *
      go_wp2_with (at_builtin; refine wpList_append_own _ rfl _ _ 33 rfl (w.heap.size + 1) 5 i0 (.int .u8 0) 1 1 Try.underlying33 hi hz0 hz1 hz2 rfl (by decide) _ _ _ rfl (hown.alloc _) ⟨wr.heap.size, 0, none⟩ 1 1 [.int .u8 (z : Int)] rfl rfl ?c1 ?c2 ?c3 ?c4 ?c5 ?_)
      case c1 =>
        intro j u hj
        match j, hj with
        | 0, hj => simp at hj; subst hj; simp [Addr.add]
      case c2 => intro u hu; simp only [List.mem_cons, List.not_mem_nil, or_false] at hu; subst hu; rfl
      case c3 => unfold maxLen; omega
      case c4 => omega
      case c5 => simp; omega
      intro v' w1 hown' hgrow _
      have hB1 : Below w.heap.size w w1 := (hB.alloc hB.size _).grown hgrow (by have := hB.size; simp; omega) (fun g e => by have := (hown.lt g e).1; omega)
      have iT1 : Is w1 w.heap.size 63 (nA T) := (hgrow.block _ (by simp; omega) (fun e => by have := (hown.lt _ e.symm).1; omega)).trans (iT.alloc _)
      have hown1 : w1.ownsRow (w.heap.size + 1) 5 1 v' (k + 1) (nL (R.take (k + 1))) := by
        rw [HSU.out, nL_snoc]
        exact hown'
      clear hown' hgrow hown hB iT
      go_wp2
      go_roundw
      case rel => exact ⟨k + 1, by omega, by go_num, hown1, iT1, hB1⟩
      case measure => simp [intOf]; omega
    · obtain rfl : k = s.size := by omega
      rw [List.take_of_length_le (by rw [HR.out]; exact Nat.le_refl _)] at hown
      have hcv := conv_own hown HR.out hs0
      generalize hst : strN R = st at hcv
      have HST := Lib.hid hst
      clear hst hown
      go_wp2
      go_ret
      exact ⟨by rw [HST.out]; rfl, hB⟩
end Go.Proofs.Ytjfeloimlgfocaa
